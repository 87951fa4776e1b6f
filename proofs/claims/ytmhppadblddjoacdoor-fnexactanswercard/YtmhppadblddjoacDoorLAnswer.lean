/- The law of Answer: its walk, both functions as premises. -/
import Derived.Test.YtmhppadblddjoacDoorStL
import Derived.Test.YtmhppadblddjoacDoorRel
namespace Go.Proofs.YtmhppadblddjoacDoor
open Go.RowKit

def laC (w : World) (s j m g o bl bh : Int) : World → Prop := fun w' => w'.cell? ⟨w.heap.size, 0, none⟩ = some (.int .i64 s) ∧ w'.cell? ⟨w.heap.size, 1, none⟩ = some (.int .i64 j) ∧ w'.cell? ⟨w.heap.size, 2, none⟩ = some (.int .i64 m) ∧ w'.cell? ⟨w.heap.size, 3, none⟩ = some (.int .i64 g) ∧ w'.cell? ⟨w.heap.size, 4, none⟩ = some (.int .i64 o) ∧ w'.cell? ⟨w.heap.size + 1, 0, none⟩ = some (.int .i64 bl) ∧ w'.cell? ⟨w.heap.size + 1, 1, none⟩ = some (.int .i64 bh) ∧ Below w.heap.size w w'
theorem laC_on {w : World} {s j m g o bl bh : Int} {w1 w2 : World} (hh : laC w s j m g o bl bh w1) (hb : Below w1.heap.size w1 w2) : laC w s j m g o bl bh w2 :=
  ⟨cellOn hb hh.1, cellOn hb hh.2.1, cellOn hb hh.2.2.1, cellOn hb hh.2.2.2.1, cellOn hb hh.2.2.2.2.1, cellOn hb hh.2.2.2.2.2.1, cellOn hb hh.2.2.2.2.2.2.1, nbTrans hh.2.2.2.2.2.2.2 hb⟩

def lbC (w : World) (s j m g o bl bh : Int) (q1 len : Nat) (f a : Nat → Int) (q3 el : Nat) (fe ge : Nat → Int) (wc : World) : World → Prop := fun w' => w'.cell? ⟨w.heap.size, 0, none⟩ = some (.int .i64 s) ∧ w'.cell? ⟨w.heap.size, 1, none⟩ = some (.int .i64 j) ∧ w'.cell? ⟨w.heap.size, 2, none⟩ = some (.int .i64 m) ∧ w'.cell? ⟨w.heap.size, 3, none⟩ = some (.int .i64 g) ∧ w'.cell? ⟨w.heap.size, 4, none⟩ = some (.int .i64 o) ∧ w'.cell? ⟨w.heap.size + 1, 0, none⟩ = some (.int .i64 bl) ∧ w'.cell? ⟨w.heap.size + 1, 1, none⟩ = some (.int .i64 bh) ∧ Own2 w' q1 len f a ∧ Own2 w' q3 el fe ge ∧ Below wc.heap.size wc w' ∧ Below w.heap.size w w'
theorem lbC_on {w : World} {s j m g o bl bh : Int} {q1 len : Nat} {f a : Nat → Int} {q3 el : Nat} {fe ge : Nat → Int} {wc : World} {w1 w2 : World} (hh : lbC w s j m g o bl bh q1 len f a q3 el fe ge wc w1) (hb : Below w1.heap.size w1 w2) : lbC w s j m g o bl bh q1 len f a q3 el fe ge wc w2 :=
  ⟨cellOn hb hh.1, cellOn hb hh.2.1, cellOn hb hh.2.2.1, cellOn hb hh.2.2.2.1, cellOn hb hh.2.2.2.2.1, cellOn hb hh.2.2.2.2.2.1, cellOn hb hh.2.2.2.2.2.2.1, hh.2.2.2.2.2.2.2.1.on hb, hh.2.2.2.2.2.2.2.2.1.on hb, nbTrans hh.2.2.2.2.2.2.2.2.2.1 hb, nbTrans hh.2.2.2.2.2.2.2.2.2.2 hb⟩

def lcC (w : World) (s j m g o bl bh : Int) (q1 len : Nat) (f a : Nat → Int) (q3 el : Nat) (fe ge : Nat → Int) : World → Prop := fun w' => w'.cell? ⟨w.heap.size, 0, none⟩ = some (.int .i64 s) ∧ w'.cell? ⟨w.heap.size, 1, none⟩ = some (.int .i64 j) ∧ w'.cell? ⟨w.heap.size, 2, none⟩ = some (.int .i64 m) ∧ w'.cell? ⟨w.heap.size, 3, none⟩ = some (.int .i64 g) ∧ w'.cell? ⟨w.heap.size, 4, none⟩ = some (.int .i64 o) ∧ w'.cell? ⟨w.heap.size + 1, 0, none⟩ = some (.int .i64 bl) ∧ w'.cell? ⟨w.heap.size + 1, 1, none⟩ = some (.int .i64 bh) ∧ Own2 w' q1 len f a ∧ Own2 w' q3 el fe ge ∧ Below w.heap.size w w'
theorem lcC_on {w : World} {s j m g o bl bh : Int} {q1 len : Nat} {f a : Nat → Int} {q3 el : Nat} {fe ge : Nat → Int} {w1 w2 : World} (hh : lcC w s j m g o bl bh q1 len f a q3 el fe ge w1) (hb : Below w1.heap.size w1 w2) : lcC w s j m g o bl bh q1 len f a q3 el fe ge w2 :=
  ⟨cellOn hb hh.1, cellOn hb hh.2.1, cellOn hb hh.2.2.1, cellOn hb hh.2.2.2.1, cellOn hb hh.2.2.2.2.1, cellOn hb hh.2.2.2.2.2.1, cellOn hb hh.2.2.2.2.2.2.1, hh.2.2.2.2.2.2.2.1.on hb, hh.2.2.2.2.2.2.2.2.1.on hb, nbTrans hh.2.2.2.2.2.2.2.2.2 hb⟩

def laY (mv rv bv xv : Value) (len : Nat) (f a : Nat → Int) (el : Nat) (fe ge : Nat → Int) (x : ByteArray) : Nat → Value → World → Prop
  | 0, v, _ => v = rv
  | 1, v, _ => v = rv
  | 2, v, _ => v = mv
  | 3, v, w => ∃ q, v = .slice (some ⟨q, 0, none⟩) len len ∧ Row2 w q 0 len f a
  | 4, v, _ => v = bv
  | 5, v, _ => v = bv
  | 6, v, _ => v = xv
  | 7, v, w => ∃ q, v = .slice (some ⟨q, 0, none⟩) el el ∧ Row2 w q 0 el fe ge
  | 8, v, _ => v = .string x
  | 9, v, _ => v = .string x
  | _, _, _ => True
theorem laY_on {mv rv bv xv : Value} {len : Nat} {f a : Nat → Int} {el : Nat} {fe ge : Nat → Int} {x : ByteArray} : ∀ jj v w w', laY mv rv bv xv len f a el fe ge x jj v w → Below w.heap.size w w' → laY mv rv bv xv len f a el fe ge x jj v w'
  | 0, _, _, _, h, _ => h
  | 1, _, _, _, h, _ => h
  | 2, _, _, _, h, _ => h
  | 3, _, _, _, ⟨q, h1, h2⟩, hb => ⟨q, h1, h2.on hb⟩
  | 4, _, _, _, h, _ => h
  | 5, _, _, _, h, _ => h
  | 6, _, _, _, h, _ => h
  | 7, _, _, _, ⟨q, h1, h2⟩, hb => ⟨q, h1, h2.on hb⟩
  | 8, _, _, _, h, _ => h
  | 9, _, _, _, h, _ => h
  | _ + 10, _, _, _, _, _ => trivial
theorem laY_3 {mv rv bv xv : Value} {len : Nat} {f a : Nat → Int} {el : Nat} {fe ge : Nat → Int} {x : ByteArray} {v : Value} {w : World} (h : laY mv rv bv xv len f a el fe ge x 3 v w) : ∃ q, v = .slice (some ⟨q, 0, none⟩) len len ∧ Row2 w q 0 len f a := h
theorem laY_7 {mv rv bv xv : Value} {len : Nat} {f a : Nat → Int} {el : Nat} {fe ge : Nat → Int} {x : ByteArray} {v : Value} {w : World} (h : laY mv rv bv xv len f a el fe ge x 7 v w) : ∃ q, v = .slice (some ⟨q, 0, none⟩) el el ∧ Row2 w q 0 el fe ge := h

def lbY (mv rv bv xv : Value) (x : ByteArray) : Nat → Value → World → Prop
  | 0, v, _ => v = rv
  | 1, v, _ => v = rv
  | 2, v, _ => v = mv
  | 3, v, _ => v = bv
  | 4, v, _ => v = bv
  | 5, v, _ => v = xv
  | 6, v, _ => v = .string x
  | 7, v, _ => v = .string x
  | _, _, _ => True
theorem lbY_on {mv rv bv xv : Value} {x : ByteArray} : ∀ jj v w w', lbY mv rv bv xv x jj v w → Below w.heap.size w w' → lbY mv rv bv xv x jj v w'
  | 0, _, _, _, h, _ => h
  | 1, _, _, _, h, _ => h
  | 2, _, _, _, h, _ => h
  | 3, _, _, _, h, _ => h
  | 4, _, _, _, h, _ => h
  | 5, _, _, _, h, _ => h
  | 6, _, _, _, h, _ => h
  | 7, _, _, _, h, _ => h
  | _ + 8, _, _, _, _, _ => trivial

set_option maxRecDepth 100000 in
set_option maxHeartbeats 2000000 in
theorem lawAnswer_c (ad : Option Addr) (len cap : Nat) (f a : Nat → Int) (ae : Option Addr) (el ce : Nat) (fe ge : Nat → Int) (s j m g o bl bh : Int) (x : ByteArray) (w : World) (hlen : len ≤ 9223372036854775807) (helen : el ≤ 9223372036854775807) (hrow : SRow w ad len f a) (hev : SRow w ae el fe ge)
    (hs : Hid (∀ q qe w, len ≤ 1048576 → el ≤ 1048576 → Row2 w q 0 len f a → Row2 w qe 0 el fe ge → Calls Tryd.prog 26 #[.agg #[.int .i64 s, .int .i64 j, .int .i64 m, .int .i64 g, .int .i64 o], .slice (some ⟨q, 0, none⟩) len len, .agg #[.int .i64 bl, .int .i64 bh], .slice (some ⟨qe, 0, none⟩) el el] w fun e w' => e = .returned (.string x) ∧ Below w.heap.size w w'))
    (hi : Hid (∀ q qe wz, Below w.heap.size w wz → len ≤ 1048576 → el ≤ 1048576 → Row2 wz q 0 len f a → Row2 wz qe 0 el fe ge → Calls Tryd.prog 29 #[.agg #[.int .i64 s, .int .i64 j, .int .i64 m, .int .i64 g, .int .i64 o], .slice (some ⟨q, 0, none⟩) len len, .agg #[.int .i64 bl, .int .i64 bh], .slice (some ⟨qe, 0, none⟩) el el] wz fun e w' => e = .returned (.string x) ∧ Below wz.heap.size wz w')) :
    Calls Tryd.prog 5 #[.agg #[.int .i64 s, .int .i64 j, .int .i64 m, .int .i64 g, .int .i64 o], .slice ad len cap, .agg #[.int .i64 bl, .int .i64 bh], .slice ae el ce] w fun e w' => e = .returned (.bool true) ∧ Below w.heap.size w w' := by
  go_enter Tryd.func5, Tryd.ntmps5
  go_wp2_with fail
  refine (szMarkS_c _ _ _ _ _ (by omega) (by omega) hlen).mono ?_
  rintro e w1 ⟨rfl, rfl⟩
  by_cases hbig : (1048576 : Int) - (len : Int) < 0
  · rw [if_pos hbig]
    go_wp2_with fail
    go_ret
    exact ⟨rfl, nbAlloc (nbAlloc (Below.refl _ _) _) _⟩
  rw [if_neg hbig]
  have i0 : ¬ ((1048576 : Int) - (len : Int) < 0) := hbig
  go_wp2_with fail
  refine (szEventS_c _ _ _ _ _ (by omega) (by omega) helen).mono ?_
  rintro e w1 ⟨rfl, rfl⟩
  by_cases hbig2 : (1048576 : Int) - (len : Int) - (el : Int) < 0
  · rw [if_pos hbig2]
    go_wp2_with fail
    go_ret
    exact ⟨rfl, nbAlloc (nbAlloc (Below.refl _ _) _) _⟩
  rw [if_neg hbig2]
  have i1 : ¬ ((1048576 : Int) - (len : Int) - (el : Int) < 0) := hbig2
  have HB : Hid (len ≤ 1048576) := by unfold Hid; omega
  have HE : Hid (el ≤ 1048576) := by unfold Hid; omega
  go_wp2_with fail
  clear i0 i1 hbig hbig2
  refine region_relL (laC w s j m g o bl bh) (laY (.slice ad len cap) (.agg #[.int .i64 s, .int .i64 j, .int .i64 m, .int .i64 g, .int .i64 o]) (.agg #[.int .i64 bl, .int .i64 bh]) (.slice ae el ce) len f a el fe ge x) 10 (fun _ _ => laC_on) laY_on (by kernel_rfl) (by kernel_rfl) (by kernel_rfl) ?_ ?_ ?_
  · refine ⟨?_, ?_, ?_, ?_, ?_, ?_, ?_, Below.drew (nbAlloc (nbAlloc (Below.refl _ _) _) _)⟩ <;> go_simp
  · intro j' o' ho hne vs w4 hC hw
    have hB4 := hC.2.2.2.2.2.2.2
    have c0 : w4.cell? ⟨w.heap.size, 0, none⟩ = some (.int .i64 s) := hC.1
    have c1 : w4.cell? ⟨w.heap.size, 1, none⟩ = some (.int .i64 j) := hC.2.1
    have c2 : w4.cell? ⟨w.heap.size, 2, none⟩ = some (.int .i64 m) := hC.2.2.1
    have c3 : w4.cell? ⟨w.heap.size, 3, none⟩ = some (.int .i64 g) := hC.2.2.2.1
    have c4 : w4.cell? ⟨w.heap.size, 4, none⟩ = some (.int .i64 o) := hC.2.2.2.2.1
    have c5 : w4.cell? ⟨w.heap.size + 1, 0, none⟩ = some (.int .i64 bl) := hC.2.2.2.2.2.1
    have c6 : w4.cell? ⟨w.heap.size + 1, 1, none⟩ = some (.int .i64 bh) := hC.2.2.2.2.2.2.1
    match j', ho with
    | 0, ho =>
      cases ho
      clear hw
      simp [mix]
      go_simp
      exact ⟨rfl, Below.refl _ _⟩
    | 1, ho =>
      cases ho
      have y0 : vs 0 = _ := hw 0 (waits_of (by kernel_rfl))
      clear hw
      simp [mix, y0]
      go_simp
      refine (toRules_c _ _ _ _ _ _).mono ?_
      rintro e w5 ⟨rfl, hb5⟩
      exact ⟨_, rfl, rfl, hb5⟩
    | 2, ho =>
      cases ho
      clear hw
      simp [mix]
      go_simp
      exact ⟨rfl, Below.refl _ _⟩
    | 3, ho =>
      cases ho
      have y2 : vs 2 = _ := hw 2 (waits_of (by kernel_rfl))
      clear hw
      simp [mix, y2]
      go_simp
      refine (toMarkS_any ad len cap f a _ HB.out (hrow.on hB4)).mono ?_
      rintro e w5 ⟨z, rfl, hz, hr, -, hb5⟩
      exact ⟨_, rfl, ⟨z, rfl, hr⟩, hb5⟩
    | 4, ho =>
      cases ho
      clear hw
      simp [mix]
      go_simp
      exact ⟨rfl, Below.refl _ _⟩
    | 5, ho =>
      cases ho
      have y4 : vs 4 = _ := hw 4 (waits_of (by kernel_rfl))
      clear hw
      simp [mix, y4]
      go_simp
      refine (toBound_c _ _ _).mono ?_
      rintro e w5 ⟨rfl, hb5⟩
      exact ⟨_, rfl, rfl, hb5⟩
    | 6, ho =>
      cases ho
      clear hw
      simp [mix]
      go_simp
      exact ⟨rfl, Below.refl _ _⟩
    | 7, ho =>
      cases ho
      have y6 : vs 6 = _ := hw 6 (waits_of (by kernel_rfl))
      clear hw
      simp [mix, y6]
      go_simp
      refine (toEventS_any ae el ce fe ge _ HE.out (hev.on hB4)).mono ?_
      rintro e w5 ⟨z, rfl, hz, hr, -, hb5⟩
      exact ⟨_, rfl, ⟨z, rfl, hr⟩, hb5⟩
    | 8, ho =>
      cases ho
      have y1 : vs 1 = _ := hw 1 (waits_of (by kernel_rfl))
      have y5 : vs 5 = _ := hw 5 (waits_of (by kernel_rfl))
      refine Exists.elim (laY_3 (hw 3 (waits_of (by kernel_rfl)))) (fun z3 hz3 => ?_)
      have y3 := hz3.1
      have hr3 := hz3.2
      clear hz3
      refine Exists.elim (laY_7 (hw 7 (waits_of (by kernel_rfl)))) (fun z7 hz7 => ?_)
      have y7 := hz7.1
      have hr7 := hz7.2
      clear hz7
      clear hw
      simp [mix, y1, y5, y3, y7]
      go_simp
      refine (hs.out z3 z7 _ HB.out HE.out hr3 hr7).mono ?_
      rintro e w5 ⟨rfl, hb5⟩
      exact ⟨_, rfl, rfl, hb5⟩
    | 9, ho =>
      cases ho
      have y8 : vs 8 = _ := hw 8 (waits_of (by kernel_rfl))
      clear hw
      simp [mix, y8]
      go_simp
      exact ⟨rfl, Below.refl _ _⟩
    | k + 10, ho => simp at ho
  · intro vs wa hC hy
    have y0 : vs 0 = _ := hy 0 (by simp) (by simp)
    have y1 : vs 1 = _ := hy 1 (by simp) (by simp)
    have y2 : vs 2 = _ := hy 2 (by simp) (by simp)
    have y4 : vs 4 = _ := hy 4 (by simp) (by simp)
    have y5 : vs 5 = _ := hy 5 (by simp) (by simp)
    have y6 : vs 6 = _ := hy 6 (by simp) (by simp)
    have y8 : vs 8 = _ := hy 8 (by simp) (by simp)
    have y9 : vs 9 = _ := hy 9 (by simp) (by simp)
    refine Exists.elim (laY_3 (hy 3 (by simp) (by simp))) (fun z3 e3 => ?_)
    have y3 := e3.1
    clear e3
    refine Exists.elim (laY_7 (hy 7 (by simp) (by simp))) (fun z7 e7 => ?_)
    have y7 := e7.1
    clear e7
    clear hy
    refine ⟨?_⟩
    simp only [mix, y0, y1, y2, y3, y4, y5, y6, y7, y8, y9]
    clear y0 y1 y2 y3 y4 y5 y6 y7 y8 y9
    have hBa : Below w.heap.size w wa := hC.2.2.2.2.2.2.2
    go_wp2_with fail
    refine (toMarkS_any ad len cap f a _ HB.out (hrow.on hBa)).mono ?_
    rintro e wb ⟨q1, rfl, hq1, hr1, hf1, hbb⟩
    have hBb := nbTrans hBa hbb
    go_wp2_with fail
    refine (toEventS_any ae el ce fe ge _ HE.out (hev.on hBb)).mono ?_
    rintro e wc ⟨q3, rfl, hq3, hr3, hf3, hbc⟩
    have O1 : Own2 wb q1 len f a := ⟨hr1, hf1⟩
    have O3 : Own2 wc q3 el fe ge := ⟨hr3, hf3⟩
    have hCc := laC_on (laC_on hC hbb) hbc
    have hV : lbC w s j m g o bl bh q1 len f a q3 el fe ge wc wc := ⟨hCc.1, hCc.2.1, hCc.2.2.1, hCc.2.2.2.1, hCc.2.2.2.2.1, hCc.2.2.2.2.2.1, hCc.2.2.2.2.2.2.1, O1.on hbc, O3, Below.refl _ _, hCc.2.2.2.2.2.2.2⟩
    clear O1 O3 hCc hC hq1 hr1 hf1 hbb hq3 hr3 hf3 hbc hBa hBb
    go_wp2_with fail
    refine region_relL (lbC w s j m g o bl bh q1 len f a q3 el fe ge wc) (lbY (.slice (some ⟨q1, 0, none⟩) len len) (.agg #[.int .i64 s, .int .i64 j, .int .i64 m, .int .i64 g, .int .i64 o]) (.agg #[.int .i64 bl, .int .i64 bh]) (.slice (some ⟨q3, 0, none⟩) el el) x) 8 (fun _ _ => lbC_on) lbY_on (by kernel_rfl) (by kernel_rfl) (by kernel_rfl) ?_ ?_ ?_
    · exact lbC_on hV (Below.drew (Below.refl _ _))
    · intro j' o' ho hne vs w4 hC hw
      have hrq1 := (hC.2.2.2.2.2.2.2.1).1
      have hrq3 := (hC.2.2.2.2.2.2.2.2.1).1
      have hBz := hC.2.2.2.2.2.2.2.2.2.2
      have c0 : w4.cell? ⟨w.heap.size, 0, none⟩ = some (.int .i64 s) := hC.1
      have c1 : w4.cell? ⟨w.heap.size, 1, none⟩ = some (.int .i64 j) := hC.2.1
      have c2 : w4.cell? ⟨w.heap.size, 2, none⟩ = some (.int .i64 m) := hC.2.2.1
      have c3 : w4.cell? ⟨w.heap.size, 3, none⟩ = some (.int .i64 g) := hC.2.2.2.1
      have c4 : w4.cell? ⟨w.heap.size, 4, none⟩ = some (.int .i64 o) := hC.2.2.2.2.1
      have c5 : w4.cell? ⟨w.heap.size + 1, 0, none⟩ = some (.int .i64 bl) := hC.2.2.2.2.2.1
      have c6 : w4.cell? ⟨w.heap.size + 1, 1, none⟩ = some (.int .i64 bh) := hC.2.2.2.2.2.2.1
      match j', ho with
      | 0, ho =>
        cases ho
        clear hw
        simp [mix]
        go_simp
        exact ⟨rfl, Below.refl _ _⟩
      | 1, ho =>
        cases ho
        have y0 : vs 0 = _ := hw 0 (waits_of (by kernel_rfl))
        clear hw
        simp [mix, y0]
        go_simp
        refine (toRules_c _ _ _ _ _ _).mono ?_
        rintro e w5 ⟨rfl, hb5⟩
        exact ⟨_, rfl, rfl, hb5⟩
      | 2, ho =>
        cases ho
        clear hw
        simp [mix]
        go_simp
        exact ⟨rfl, Below.refl _ _⟩
      | 3, ho =>
        cases ho
        clear hw
        simp [mix]
        go_simp
        exact ⟨rfl, Below.refl _ _⟩
      | 4, ho =>
        cases ho
        have y3 : vs 3 = _ := hw 3 (waits_of (by kernel_rfl))
        clear hw
        simp [mix, y3]
        go_simp
        refine (toBound_c _ _ _).mono ?_
        rintro e w5 ⟨rfl, hb5⟩
        exact ⟨_, rfl, rfl, hb5⟩
      | 5, ho =>
        cases ho
        clear hw
        simp [mix]
        go_simp
        exact ⟨rfl, Below.refl _ _⟩
      | 6, ho =>
        cases ho
        have y1 : vs 1 = _ := hw 1 (waits_of (by kernel_rfl))
        have y2 : vs 2 = _ := hw 2 (waits_of (by kernel_rfl))
        have y4 : vs 4 = _ := hw 4 (waits_of (by kernel_rfl))
        have y5 : vs 5 = _ := hw 5 (waits_of (by kernel_rfl))
        clear hw
        simp [mix, y1, y2, y4, y5]
        go_simp
        refine (hi.out q1 q3 _ hBz HB.out HE.out hrq1 hrq3).mono ?_
        rintro e w5 ⟨rfl, hb5⟩
        exact ⟨_, rfl, rfl, hb5⟩
      | 7, ho =>
        cases ho
        have y6 : vs 6 = _ := hw 6 (waits_of (by kernel_rfl))
        clear hw
        simp [mix, y6]
        go_simp
        exact ⟨rfl, Below.refl _ _⟩
      | k + 8, ho => simp at ho
    · intro vs w4 hC hy
      have y0 : vs 0 = _ := hy 0 (by simp) (by simp)
      have y1 : vs 1 = _ := hy 1 (by simp) (by simp)
      have y2 : vs 2 = _ := hy 2 (by simp) (by simp)
      have y3 : vs 3 = _ := hy 3 (by simp) (by simp)
      have y4 : vs 4 = _ := hy 4 (by simp) (by simp)
      have y5 : vs 5 = _ := hy 5 (by simp) (by simp)
      have y6 : vs 6 = _ := hy 6 (by simp) (by simp)
      have y7 : vs 7 = _ := hy 7 (by simp) (by simp)
      clear hy
      refine ⟨?_⟩
      simp only [mix, y0, y1, y2, y3, y4, y5, y6, y7]
      clear y0 y1 y2 y3 y4 y5 y6 y7
      clear hV
      have hX5 : lcC w s j m g o bl bh q1 len f a q3 el fe ge w4 := ⟨hC.1, hC.2.1, hC.2.2.1, hC.2.2.2.1, hC.2.2.2.2.1, hC.2.2.2.2.2.1, hC.2.2.2.2.2.2.1, hC.2.2.2.2.2.2.2.1, hC.2.2.2.2.2.2.2.2.1, hC.2.2.2.2.2.2.2.2.2.2⟩
      clear hC
      go_wp2_with fail
      refine (toMarkS_any ad len cap f a _ HB.out (hrow.on hX5.2.2.2.2.2.2.2.2.2)).mono ?_
      rintro e w6 ⟨q6, rfl, hq6, hr6, -, hb6⟩
      have hX6 := lcC_on hX5 hb6
      clear hX5 hb6
      go_wp2_with fail
      refine (eqMarkS_c q1 q6 len len len f a _ HB.out (hX6.2.2.2.2.2.2.2.1).1 hr6).mono ?_
      rintro e w7 ⟨rfl, hb7⟩
      have hX7 := lcC_on hX6 hb7
      clear hX6 hb7 hr6 hq6
      go_wp2_with fail
      refine (toEventS_any ae el ce fe ge _ HE.out (hev.on hX7.2.2.2.2.2.2.2.2.2)).mono ?_
      rintro e w8 ⟨q8, rfl, hq8, hr8, -, hb8⟩
      have hX8 := lcC_on hX7 hb8
      clear hX7 hb8
      go_wp2_with fail
      refine (eqEventS_c q3 q8 el el el fe ge _ HE.out (hX8.2.2.2.2.2.2.2.2.1).1 hr8).mono ?_
      rintro e w9 ⟨rfl, hb9⟩
      have hX9 := lcC_on hX8 hb9
      clear hX8 hb9 hr8 hq8
      go_wp2_with fail
      go_ret
      exact ⟨rfl, hX9.2.2.2.2.2.2.2.2.2⟩

end Go.Proofs.YtmhppadblddjoacDoor
