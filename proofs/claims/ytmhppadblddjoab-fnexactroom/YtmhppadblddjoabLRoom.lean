/- The law of Room: its walk, both functions as premises. -/
import Derived.Test.YtmhppadblddjoabEv
import Derived.Test.YtmhppadblddjoabRel
import Derived.Test.YtmhppadblddjoabSet6
namespace Go.Proofs.Ytmhppadblddjoab
open Go.RowKit
set_option linter.unusedVariables false

def lRoomC (w : World) (s j m g o : Int) (kn : Bool) (bl bh si la od : Int) : World → Prop := fun w' => w'.cell? ⟨w.heap.size, 0, none⟩ = some (.int .i64 s) ∧ w'.cell? ⟨w.heap.size, 1, none⟩ = some (.int .i64 j) ∧ w'.cell? ⟨w.heap.size, 2, none⟩ = some (.int .i64 m) ∧ w'.cell? ⟨w.heap.size, 3, none⟩ = some (.int .i64 g) ∧ w'.cell? ⟨w.heap.size, 4, none⟩ = some (.int .i64 o) ∧ w'.cell? ⟨w.heap.size + 1, 0, none⟩ = some (.bool kn) ∧ w'.cell? ⟨w.heap.size + 1, 1, none⟩ = some (.int .i64 bl) ∧ w'.cell? ⟨w.heap.size + 1, 2, none⟩ = some (.int .i64 bh) ∧ w'.cell? ⟨w.heap.size + 1, 3, none⟩ = some (.int .i64 si) ∧ w'.cell? ⟨w.heap.size + 1, 4, none⟩ = some (.int .i64 la) ∧ w'.cell? ⟨w.heap.size + 1, 5, none⟩ = some (.int .i64 od) ∧ Below w.heap.size w w'
theorem lRoomC_on {w : World} {s j m g o : Int} {kn : Bool} {bl bh si la od : Int} {w1 w2 : World} (hh : lRoomC w s j m g o kn bl bh si la od w1) (hb : Below w1.heap.size w1 w2) : lRoomC w s j m g o kn bl bh si la od w2 :=
  ⟨cellOn hb hh.1, cellOn hb hh.2.1, cellOn hb hh.2.2.1, cellOn hb hh.2.2.2.1, cellOn hb hh.2.2.2.2.1, cellOn hb hh.2.2.2.2.2.1, cellOn hb hh.2.2.2.2.2.2.1, cellOn hb hh.2.2.2.2.2.2.2.1, cellOn hb hh.2.2.2.2.2.2.2.2.1, cellOn hb hh.2.2.2.2.2.2.2.2.2.1, cellOn hb hh.2.2.2.2.2.2.2.2.2.2.1, nbTrans hh.2.2.2.2.2.2.2.2.2.2.2 hb⟩

def lRoomE (w : World) (s j m g o : Int) (kn : Bool) (bl bh si la od : Int) (w6 : World) : World → Prop := fun w' => w'.cell? ⟨w.heap.size, 0, none⟩ = some (.int .i64 s) ∧ w'.cell? ⟨w.heap.size, 1, none⟩ = some (.int .i64 j) ∧ w'.cell? ⟨w.heap.size, 2, none⟩ = some (.int .i64 m) ∧ w'.cell? ⟨w.heap.size, 3, none⟩ = some (.int .i64 g) ∧ w'.cell? ⟨w.heap.size, 4, none⟩ = some (.int .i64 o) ∧ w'.cell? ⟨w.heap.size + 1, 0, none⟩ = some (.bool kn) ∧ w'.cell? ⟨w.heap.size + 1, 1, none⟩ = some (.int .i64 bl) ∧ w'.cell? ⟨w.heap.size + 1, 2, none⟩ = some (.int .i64 bh) ∧ w'.cell? ⟨w.heap.size + 1, 3, none⟩ = some (.int .i64 si) ∧ w'.cell? ⟨w.heap.size + 1, 4, none⟩ = some (.int .i64 la) ∧ w'.cell? ⟨w.heap.size + 1, 5, none⟩ = some (.int .i64 od) ∧ Below w6.heap.size w6 w' ∧ Below w.heap.size w w'
theorem lRoomE_on {w : World} {s j m g o : Int} {kn : Bool} {bl bh si la od : Int} {w6 : World} {w1 w2 : World} (hh : lRoomE w s j m g o kn bl bh si la od w6 w1) (hb : Below w1.heap.size w1 w2) : lRoomE w s j m g o kn bl bh si la od w6 w2 :=
  ⟨cellOn hb hh.1, cellOn hb hh.2.1, cellOn hb hh.2.2.1, cellOn hb hh.2.2.2.1, cellOn hb hh.2.2.2.2.1, cellOn hb hh.2.2.2.2.2.1, cellOn hb hh.2.2.2.2.2.2.1, cellOn hb hh.2.2.2.2.2.2.2.1, cellOn hb hh.2.2.2.2.2.2.2.2.1, cellOn hb hh.2.2.2.2.2.2.2.2.2.1, cellOn hb hh.2.2.2.2.2.2.2.2.2.2.1, nbTrans hh.2.2.2.2.2.2.2.2.2.2.2.1 hb, nbTrans hh.2.2.2.2.2.2.2.2.2.2.2.2 hb⟩

def lRoomY (B : Nat) (s j m g o : Int) (kn : Bool) (bl bh si la od : Int) (c : Int) (x : Int) : Nat → Value → World → Prop
  | 0, v, _ => v = .agg #[.int .i64 s, .int .i64 j, .int .i64 m, .int .i64 g, .int .i64 o]
  | 1, v, _ => v = .agg #[.int .i64 s, .int .i64 j, .int .i64 m, .int .i64 g, .int .i64 o]
  | 2, v, _ => v = .agg #[.bool kn, .int .i64 bl, .int .i64 bh, .int .i64 si, .int .i64 la, .int .i64 od]
  | 3, v, _ => v = .agg #[.bool kn, .int .i64 bl, .int .i64 bh, .int .i64 si, .int .i64 la, .int .i64 od]
  | 4, v, _ => v = .int .i64 c
  | 5, v, _ => v = .int .i64 x
  | 6, v, _ => v = .int .i64 x
  | _, _, _ => True
theorem lRoomY_on {B : Nat} {s j m g o : Int} {kn : Bool} {bl bh si la od : Int} {c : Int} {x : Int} : ∀ jj v w w', lRoomY B s j m g o kn bl bh si la od c x jj v w → Below w.heap.size w w' → lRoomY B s j m g o kn bl bh si la od c x jj v w'
  | 0, _, _, _, h, _ => h
  | 1, _, _, _, h, _ => h
  | 2, _, _, _, h, _ => h
  | 3, _, _, _, h, _ => h
  | 4, _, _, _, h, _ => h
  | 5, _, _, _, h, _ => h
  | 6, _, _, _, h, _ => h
  | _ + 7, _, _, _, _, _ => trivial

def lRoomZ (B : Nat) (s j m g o : Int) (kn : Bool) (bl bh si la od : Int) (c : Int) (x : Int) : Nat → Value → World → Prop
  | 0, v, _ => v = .agg #[.int .i64 s, .int .i64 j, .int .i64 m, .int .i64 g, .int .i64 o]
  | 1, v, _ => v = .agg #[.int .i64 s, .int .i64 j, .int .i64 m, .int .i64 g, .int .i64 o]
  | 2, v, _ => v = .agg #[.bool kn, .int .i64 bl, .int .i64 bh, .int .i64 si, .int .i64 la, .int .i64 od]
  | 3, v, _ => v = .agg #[.bool kn, .int .i64 bl, .int .i64 bh, .int .i64 si, .int .i64 la, .int .i64 od]
  | 4, v, _ => v = .int .i64 c
  | 5, v, _ => v = .int .i64 x
  | 6, v, _ => v = .int .i64 x
  | _, _, _ => True
theorem lRoomZ_on {B : Nat} {s j m g o : Int} {kn : Bool} {bl bh si la od : Int} {c : Int} {x : Int} : ∀ jj v w w', lRoomZ B s j m g o kn bl bh si la od c x jj v w → Below w.heap.size w w' → lRoomZ B s j m g o kn bl bh si la od c x jj v w'
  | 0, _, _, _, h, _ => h
  | 1, _, _, _, h, _ => h
  | 2, _, _, _, h, _ => h
  | 3, _, _, _, h, _ => h
  | 4, _, _, _, h, _ => h
  | 5, _, _, _, h, _ => h
  | 6, _, _, _, h, _ => h
  | _ + 7, _, _, _, _, _ => trivial

set_option maxRecDepth 100000 in
set_option maxHeartbeats 4000000 in
theorem lawRoom_c (s j m g o : Int) (kn : Bool) (bl bh si la od : Int) (c : Int) (x : Int) (w : World)
    (hs : Hid (∀ w, Calls Try.prog 50 #[.agg #[.int .i64 s, .int .i64 j, .int .i64 m, .int .i64 g, .int .i64 o], .agg #[.bool kn, .int .i64 bl, .int .i64 bh, .int .i64 si, .int .i64 la, .int .i64 od], .int .i64 c] w fun e w' => e = .returned (.int .i64 x) ∧ Below w.heap.size w w'))
    (hi : Hid (∀ w, Calls Try.prog 51 #[.agg #[.int .i64 s, .int .i64 j, .int .i64 m, .int .i64 g, .int .i64 o], .agg #[.bool kn, .int .i64 bl, .int .i64 bh, .int .i64 si, .int .i64 la, .int .i64 od], .int .i64 c] w fun e w' => e = .returned (.int .i64 x) ∧ Below w.heap.size w w')) :
    Calls Try.prog 12 #[.agg #[.int .i64 s, .int .i64 j, .int .i64 m, .int .i64 g, .int .i64 o], .agg #[.bool kn, .int .i64 bl, .int .i64 bh, .int .i64 si, .int .i64 la, .int .i64 od], .int .i64 c] w fun e w' => e = .returned (.bool true) ∧ Below w.heap.size w w' := by
  go_enter Try.func12, Try.ntmps12
  go_wp2_with fail
  refine region_relL (lRoomC w s j m g o kn bl bh si la od) (lRoomY (w.heap.size + 1 + 1) s j m g o kn bl bh si la od c x) 7 (fun _ _ => lRoomC_on) lRoomY_on (by kernel_rfl) (by kernel_rfl) (by kernel_rfl) ?_ ?_ ?_
  · refine ⟨?_, ?_, ?_, ?_, ?_, ?_, ?_, ?_, ?_, ?_, ?_, Below.drew (nbAlloc (nbAlloc (Below.refl _ _) _) _)⟩ <;> go_simp
  · intro j' o' ho hne vs w4 hC hw
    have hBS : w.heap.size + 1 + 1 ≤ w4.heap.size := by have := ltCell hC.2.2.2.2.2.2.2.2.2.2.1; omega
    have hB4 := hC.2.2.2.2.2.2.2.2.2.2.2
    have c0 : w4.cell? ⟨w.heap.size, 0, none⟩ = some (.int .i64 s) := hC.1
    have c1 : w4.cell? ⟨w.heap.size, 1, none⟩ = some (.int .i64 j) := hC.2.1
    have c2 : w4.cell? ⟨w.heap.size, 2, none⟩ = some (.int .i64 m) := hC.2.2.1
    have c3 : w4.cell? ⟨w.heap.size, 3, none⟩ = some (.int .i64 g) := hC.2.2.2.1
    have c4 : w4.cell? ⟨w.heap.size, 4, none⟩ = some (.int .i64 o) := hC.2.2.2.2.1
    have c5 : w4.cell? ⟨w.heap.size + 1, 0, none⟩ = some (.bool kn) := hC.2.2.2.2.2.1
    have c6 : w4.cell? ⟨w.heap.size + 1, 1, none⟩ = some (.int .i64 bl) := hC.2.2.2.2.2.2.1
    have c7 : w4.cell? ⟨w.heap.size + 1, 2, none⟩ = some (.int .i64 bh) := hC.2.2.2.2.2.2.2.1
    have c8 : w4.cell? ⟨w.heap.size + 1, 3, none⟩ = some (.int .i64 si) := hC.2.2.2.2.2.2.2.2.1
    have c9 : w4.cell? ⟨w.heap.size + 1, 4, none⟩ = some (.int .i64 la) := hC.2.2.2.2.2.2.2.2.2.1
    have c10 : w4.cell? ⟨w.heap.size + 1, 5, none⟩ = some (.int .i64 od) := hC.2.2.2.2.2.2.2.2.2.2.1
    have c11 : Below w.heap.size w w4 := hC.2.2.2.2.2.2.2.2.2.2.2
    match j', ho with
    | 0, ho =>
      cases ho
      clear hw
      simp [mix]
      go_simp
      exact ⟨rfl, Below.refl _ _⟩
    | 1, ho =>
      cases ho
      have y0 : vs 0 = _ := hw 0 (waits_of (by kernel_rfl))
      clear hw
      simp [mix, y0]
      go_simp
      refine (toRules_c _ _ _ _ _ _).mono ?_
      rintro e w5 ⟨rfl, hb5⟩
      exact ⟨_, rfl, rfl, hb5⟩
    | 2, ho =>
      cases ho
      clear hw
      simp [mix]
      go_simp
      exact ⟨rfl, Below.refl _ _⟩
    | 3, ho =>
      cases ho
      have y2 : vs 2 = _ := hw 2 (waits_of (by kernel_rfl))
      clear hw
      simp [mix, y2]
      go_simp
      refine (toState_c _ _ _ _ _ _ _).mono ?_
      rintro e w5 ⟨rfl, hb5⟩
      exact ⟨_, rfl, rfl, hb5⟩
    | 4, ho =>
      cases ho
      clear hw
      simp [mix]
      go_simp
      exact ⟨rfl, Below.refl _ _⟩
    | 5, ho =>
      cases ho
      have y1 : vs 1 = _ := hw 1 (waits_of (by kernel_rfl))
      have y3 : vs 3 = _ := hw 3 (waits_of (by kernel_rfl))
      have y4 : vs 4 = _ := hw 4 (waits_of (by kernel_rfl))
      clear hw
      simp [mix, y1, y3, y4]
      go_simp
      refine (hs.out _).mono ?_
      rintro e w5 ⟨rfl, hb5⟩
      exact ⟨_, rfl, rfl, hb5⟩
    | 6, ho =>
      cases ho
      have y5 : vs 5 = _ := hw 5 (waits_of (by kernel_rfl))
      clear hw
      simp [mix, y5]
      go_simp
      exact ⟨rfl, Below.refl _ _⟩
    | k + 7, ho => simp at ho
  · intro vs w4 hC hy
    have y0 : vs 0 = _ := hy 0 (by simp) (by simp)
    have y1 : vs 1 = _ := hy 1 (by simp) (by simp)
    have y2 : vs 2 = _ := hy 2 (by simp) (by simp)
    have y3 : vs 3 = _ := hy 3 (by simp) (by simp)
    have y4 : vs 4 = _ := hy 4 (by simp) (by simp)
    have y5 : vs 5 = _ := hy 5 (by simp) (by simp)
    have y6 : vs 6 = _ := hy 6 (by simp) (by simp)
    clear hy
    refine ⟨?_⟩
    simp only [mix, y0, y1, y2, y3, y4, y5, y6]
    clear y0 y1 y2 y3 y4 y5 y6
    have hJ := hC
    clear hC
    generalize w4 = w5 at *
    have hJ6 := hJ
    clear hJ
    generalize w5 = w6 at *
    have hpl := ltCell hJ6.2.2.2.2.2.2.2.2.2.2.1
    have hwl := hJ6.2.2.2.2.2.2.2.2.2.2.2.size
    have hE : lRoomE w s j m g o kn bl bh si la od w6 w6 := ⟨hJ6.1, hJ6.2.1, hJ6.2.2.1, hJ6.2.2.2.1, hJ6.2.2.2.2.1, hJ6.2.2.2.2.2.1, hJ6.2.2.2.2.2.2.1, hJ6.2.2.2.2.2.2.2.1, hJ6.2.2.2.2.2.2.2.2.1, hJ6.2.2.2.2.2.2.2.2.2.1, hJ6.2.2.2.2.2.2.2.2.2.2.1, Below.refl _ _, hJ6.2.2.2.2.2.2.2.2.2.2.2⟩
    clear hJ6
    go_wp2_with fail
    refine region_relL (lRoomE w s j m g o kn bl bh si la od w6) (lRoomZ w6.heap.size s j m g o kn bl bh si la od c x) 7 (fun _ _ => lRoomE_on) lRoomZ_on (by kernel_rfl) (by kernel_rfl) (by kernel_rfl) ?_ ?_ ?_
    · exact lRoomE_on hE (Below.drew (Below.refl _ _))
    · intro j' o' ho hne vs w4 hC hw
      have hBS : w6.heap.size ≤ w4.heap.size := hC.2.2.2.2.2.2.2.2.2.2.2.1.size
      have c0 : w4.cell? ⟨w.heap.size, 0, none⟩ = some (.int .i64 s) := hC.1
      have c1 : w4.cell? ⟨w.heap.size, 1, none⟩ = some (.int .i64 j) := hC.2.1
      have c2 : w4.cell? ⟨w.heap.size, 2, none⟩ = some (.int .i64 m) := hC.2.2.1
      have c3 : w4.cell? ⟨w.heap.size, 3, none⟩ = some (.int .i64 g) := hC.2.2.2.1
      have c4 : w4.cell? ⟨w.heap.size, 4, none⟩ = some (.int .i64 o) := hC.2.2.2.2.1
      have c5 : w4.cell? ⟨w.heap.size + 1, 0, none⟩ = some (.bool kn) := hC.2.2.2.2.2.1
      have c6 : w4.cell? ⟨w.heap.size + 1, 1, none⟩ = some (.int .i64 bl) := hC.2.2.2.2.2.2.1
      have c7 : w4.cell? ⟨w.heap.size + 1, 2, none⟩ = some (.int .i64 bh) := hC.2.2.2.2.2.2.2.1
      have c8 : w4.cell? ⟨w.heap.size + 1, 3, none⟩ = some (.int .i64 si) := hC.2.2.2.2.2.2.2.2.1
      have c9 : w4.cell? ⟨w.heap.size + 1, 4, none⟩ = some (.int .i64 la) := hC.2.2.2.2.2.2.2.2.2.1
      have c10 : w4.cell? ⟨w.heap.size + 1, 5, none⟩ = some (.int .i64 od) := hC.2.2.2.2.2.2.2.2.2.2.1
      match j', ho with
      | 0, ho =>
        cases ho
        clear hw
        simp [mix]
        go_simp
        exact ⟨rfl, Below.refl _ _⟩
      | 1, ho =>
        cases ho
        have y0 : vs 0 = _ := hw 0 (waits_of (by kernel_rfl))
        clear hw
        simp [mix, y0]
        go_simp
        refine (toRules_c _ _ _ _ _ _).mono ?_
        rintro e w5 ⟨rfl, hb5⟩
        exact ⟨_, rfl, rfl, hb5⟩
      | 2, ho =>
        cases ho
        clear hw
        simp [mix]
        go_simp
        exact ⟨rfl, Below.refl _ _⟩
      | 3, ho =>
        cases ho
        have y2 : vs 2 = _ := hw 2 (waits_of (by kernel_rfl))
        clear hw
        simp [mix, y2]
        go_simp
        refine (toState_c _ _ _ _ _ _ _).mono ?_
        rintro e w5 ⟨rfl, hb5⟩
        exact ⟨_, rfl, rfl, hb5⟩
      | 4, ho =>
        cases ho
        clear hw
        simp [mix]
        go_simp
        exact ⟨rfl, Below.refl _ _⟩
      | 5, ho =>
        cases ho
        have y1 : vs 1 = _ := hw 1 (waits_of (by kernel_rfl))
        have y3 : vs 3 = _ := hw 3 (waits_of (by kernel_rfl))
        have y4 : vs 4 = _ := hw 4 (waits_of (by kernel_rfl))
        clear hw
        simp [mix, y1, y3, y4]
        go_simp
        refine (hi.out _).mono ?_
        rintro e w5 ⟨rfl, hb5⟩
        exact ⟨_, rfl, rfl, hb5⟩
      | 6, ho =>
        cases ho
        have y5 : vs 5 = _ := hw 5 (waits_of (by kernel_rfl))
        clear hw
        simp [mix, y5]
        go_simp
        exact ⟨rfl, Below.refl _ _⟩
      | k + 7, ho => simp at ho
    · intro vs w4 hC hy
      have y0 : vs 0 = _ := hy 0 (by simp) (by simp)
      have y1 : vs 1 = _ := hy 1 (by simp) (by simp)
      have y2 : vs 2 = _ := hy 2 (by simp) (by simp)
      have y3 : vs 3 = _ := hy 3 (by simp) (by simp)
      have y4 : vs 4 = _ := hy 4 (by simp) (by simp)
      have y5 : vs 5 = _ := hy 5 (by simp) (by simp)
      have y6 : vs 6 = _ := hy 6 (by simp) (by simp)
      clear hy
      refine ⟨?_⟩
      simp only [mix, y0, y1, y2, y3, y4, y5, y6]
      clear y0 y1 y2 y3 y4 y5 y6 hE
      go_wp2_with fail
      go_ret
      exact ⟨rfl, hC.2.2.2.2.2.2.2.2.2.2.2.2⟩

end Go.Proofs.Ytmhppadblddjoab
