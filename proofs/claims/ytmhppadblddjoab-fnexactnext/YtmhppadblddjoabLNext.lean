/- The law of Next: its walk, both functions as premises. -/
import Derived.Test.YtmhppadblddjoabEv
import Derived.Test.YtmhppadblddjoabRel
import Derived.Test.YtmhppadblddjoabSet6
namespace Go.Proofs.Ytmhppadblddjoab
open Go.RowKit
set_option linter.unusedVariables false

def lNextC (w : World) (kn : Bool) (bl bh si la od : Int) : World → Prop := fun w' => w'.cell? ⟨w.heap.size, 0, none⟩ = some (.bool kn) ∧ w'.cell? ⟨w.heap.size, 1, none⟩ = some (.int .i64 bl) ∧ w'.cell? ⟨w.heap.size, 2, none⟩ = some (.int .i64 bh) ∧ w'.cell? ⟨w.heap.size, 3, none⟩ = some (.int .i64 si) ∧ w'.cell? ⟨w.heap.size, 4, none⟩ = some (.int .i64 la) ∧ w'.cell? ⟨w.heap.size, 5, none⟩ = some (.int .i64 od) ∧ Below w.heap.size w w'
theorem lNextC_on {w : World} {kn : Bool} {bl bh si la od : Int} {w1 w2 : World} (hh : lNextC w kn bl bh si la od w1) (hb : Below w1.heap.size w1 w2) : lNextC w kn bl bh si la od w2 :=
  ⟨cellOn hb hh.1, cellOn hb hh.2.1, cellOn hb hh.2.2.1, cellOn hb hh.2.2.2.1, cellOn hb hh.2.2.2.2.1, cellOn hb hh.2.2.2.2.2.1, nbTrans hh.2.2.2.2.2.2 hb⟩

def lNextE (w : World) (kn : Bool) (bl bh si la od : Int) (q1 len : Nat) (f a : Nat → Int) (w6 : World) : World → Prop := fun w' => w'.cell? ⟨w.heap.size, 0, none⟩ = some (.bool kn) ∧ w'.cell? ⟨w.heap.size, 1, none⟩ = some (.int .i64 bl) ∧ w'.cell? ⟨w.heap.size, 2, none⟩ = some (.int .i64 bh) ∧ w'.cell? ⟨w.heap.size, 3, none⟩ = some (.int .i64 si) ∧ w'.cell? ⟨w.heap.size, 4, none⟩ = some (.int .i64 la) ∧ w'.cell? ⟨w.heap.size, 5, none⟩ = some (.int .i64 od) ∧ Row2 w' q1 0 len f a ∧ Below w6.heap.size w6 w' ∧ Below w.heap.size w w'
theorem lNextE_on {w : World} {kn : Bool} {bl bh si la od : Int} {q1 len : Nat} {f a : Nat → Int} {w6 : World} {w1 w2 : World} (hh : lNextE w kn bl bh si la od q1 len f a w6 w1) (hb : Below w1.heap.size w1 w2) : lNextE w kn bl bh si la od q1 len f a w6 w2 :=
  ⟨cellOn hb hh.1, cellOn hb hh.2.1, cellOn hb hh.2.2.1, cellOn hb hh.2.2.2.1, cellOn hb hh.2.2.2.2.1, cellOn hb hh.2.2.2.2.2.1, hh.2.2.2.2.2.2.1.on hb, nbTrans hh.2.2.2.2.2.2.2.1 hb, nbTrans hh.2.2.2.2.2.2.2.2 hb⟩

def lNextY (B : Nat) (kn : Bool) (bl bh si la od : Int) (x : Int) (ad : Option Addr) (len cap : Nat) (f a : Nat → Int) : Nat → Value → World → Prop
  | 0, v, _ => v = .slice ad len cap
  | 1, v, w => ∃ q, v = .slice (some ⟨q, 0, none⟩) len len ∧ Row2 w q 0 len f a
  | 2, v, _ => v = .agg #[.bool kn, .int .i64 bl, .int .i64 bh, .int .i64 si, .int .i64 la, .int .i64 od]
  | 3, v, _ => v = .agg #[.bool kn, .int .i64 bl, .int .i64 bh, .int .i64 si, .int .i64 la, .int .i64 od]
  | 4, v, _ => v = .int .i64 x
  | 5, v, _ => v = .int .i64 x
  | _, _, _ => True
theorem lNextY_on {B : Nat} {kn : Bool} {bl bh si la od : Int} {x : Int} {ad : Option Addr} {len cap : Nat} {f a : Nat → Int} : ∀ jj v w w', lNextY B kn bl bh si la od x ad len cap f a jj v w → Below w.heap.size w w' → lNextY B kn bl bh si la od x ad len cap f a jj v w'
  | 0, _, _, _, h, _ => h
  | 1, _, _, _, ⟨q, h1, h2⟩, hb => ⟨q, h1, h2.on hb⟩
  | 2, _, _, _, h, _ => h
  | 3, _, _, _, h, _ => h
  | 4, _, _, _, h, _ => h
  | 5, _, _, _, h, _ => h
  | _ + 6, _, _, _, _, _ => trivial
theorem lNextY_1 {B : Nat} {kn : Bool} {bl bh si la od : Int} {x : Int} {ad : Option Addr} {len cap : Nat} {f a : Nat → Int} {v : Value} {w : World} (h : lNextY B kn bl bh si la od x ad len cap f a 1 v w) : ∃ q, v = .slice (some ⟨q, 0, none⟩) len len ∧ Row2 w q 0 len f a := h

def lNextZ (B : Nat) (kn : Bool) (bl bh si la od : Int) (x : Int) (q1 len : Nat) : Nat → Value → World → Prop
  | 0, v, _ => v = .slice (some ⟨q1, 0, none⟩) len len
  | 1, v, _ => v = .agg #[.bool kn, .int .i64 bl, .int .i64 bh, .int .i64 si, .int .i64 la, .int .i64 od]
  | 2, v, _ => v = .agg #[.bool kn, .int .i64 bl, .int .i64 bh, .int .i64 si, .int .i64 la, .int .i64 od]
  | 3, v, _ => v = .int .i64 x
  | 4, v, _ => v = .int .i64 x
  | _, _, _ => True
theorem lNextZ_on {B : Nat} {kn : Bool} {bl bh si la od : Int} {x : Int} {q1 len : Nat} : ∀ jj v w w', lNextZ B kn bl bh si la od x q1 len jj v w → Below w.heap.size w w' → lNextZ B kn bl bh si la od x q1 len jj v w'
  | 0, _, _, _, h, _ => h
  | 1, _, _, _, h, _ => h
  | 2, _, _, _, h, _ => h
  | 3, _, _, _, h, _ => h
  | 4, _, _, _, h, _ => h
  | _ + 5, _, _, _, _, _ => trivial

set_option maxRecDepth 100000 in
set_option maxHeartbeats 4000000 in
theorem lawNext_c (ad : Option Addr) (len cap : Nat) (f a : Nat → Int) (kn : Bool) (bl bh si la od : Int) (x : Int) (w : World) (hlen : len ≤ 9223372036854775807) (hrow : SRow w ad len f a)
    (hs : Hid (∀ q w, len ≤ 1048576 → Row2 w q 0 len f a → Calls Try.prog 52 #[.slice (some ⟨q, 0, none⟩) len len, .agg #[.bool kn, .int .i64 bl, .int .i64 bh, .int .i64 si, .int .i64 la, .int .i64 od]] w fun e w' => e = .returned (.int .i64 x) ∧ Below w.heap.size w w'))
    (hi : Hid (∀ q w, len ≤ 1048576 → Row2 w q 0 len f a → Calls Try.prog 53 #[.slice (some ⟨q, 0, none⟩) len len, .agg #[.bool kn, .int .i64 bl, .int .i64 bh, .int .i64 si, .int .i64 la, .int .i64 od]] w fun e w' => e = .returned (.int .i64 x) ∧ Below w.heap.size w w')) :
    Calls Try.prog 13 #[.slice ad len cap, .agg #[.bool kn, .int .i64 bl, .int .i64 bh, .int .i64 si, .int .i64 la, .int .i64 od]] w fun e w' => e = .returned (.bool true) ∧ Below w.heap.size w w' := by
  go_enter Try.func13, Try.ntmps13
  go_wp2_with fail
  refine (szMarkS_c _ _ _ _ _ (by omega) (by omega) hlen).mono ?_
  rintro e w1 ⟨rfl, rfl⟩
  by_cases hbig : (1048576 : Int) - (len : Int) < 0
  · rw [if_pos hbig]
    go_wp2_with fail
    go_ret
    exact ⟨rfl, nbAlloc (Below.refl _ _) _⟩
  rw [if_neg hbig]
  have hl : len ≤ 1048576 := by omega
  have HB : Hid (len ≤ 1048576) := hl
  have i0 : ¬ ((1048576 : Int) - (len : Int) < 0) := hbig
  clear hl hbig
  go_wp2_with fail
  refine region_relL (lNextC w kn bl bh si la od) (lNextY (w.heap.size + 1) kn bl bh si la od x ad len cap f a) 6 (fun _ _ => lNextC_on) lNextY_on (by kernel_rfl) (by kernel_rfl) (by kernel_rfl) ?_ ?_ ?_
  · refine ⟨?_, ?_, ?_, ?_, ?_, ?_, Below.drew (nbAlloc (Below.refl _ _) _)⟩ <;> go_simp
  · intro j' o' ho hne vs w4 hC hw
    have hBS : w.heap.size + 1 ≤ w4.heap.size := by have := ltCell hC.2.2.2.2.2.1; omega
    have hB4 := hC.2.2.2.2.2.2
    have c0 : w4.cell? ⟨w.heap.size, 0, none⟩ = some (.bool kn) := hC.1
    have c1 : w4.cell? ⟨w.heap.size, 1, none⟩ = some (.int .i64 bl) := hC.2.1
    have c2 : w4.cell? ⟨w.heap.size, 2, none⟩ = some (.int .i64 bh) := hC.2.2.1
    have c3 : w4.cell? ⟨w.heap.size, 3, none⟩ = some (.int .i64 si) := hC.2.2.2.1
    have c4 : w4.cell? ⟨w.heap.size, 4, none⟩ = some (.int .i64 la) := hC.2.2.2.2.1
    have c5 : w4.cell? ⟨w.heap.size, 5, none⟩ = some (.int .i64 od) := hC.2.2.2.2.2.1
    have c6 : Below w.heap.size w w4 := hC.2.2.2.2.2.2
    match j', ho with
    | 0, ho =>
      cases ho
      clear hw
      simp [mix]
      go_simp
      exact ⟨rfl, Below.refl _ _⟩
    | 1, ho =>
      cases ho
      have y0 : vs 0 = _ := hw 0 (waits_of (by kernel_rfl))
      clear hw
      simp [mix, y0]
      go_simp
      refine (toMarkS_any ad len cap f a _ HB.out (hrow.on hB4)).mono ?_
      rintro e w5 ⟨q2, rfl, hq2, hr2, -, hb5⟩
      exact ⟨_, rfl, ⟨q2, rfl, hr2⟩, hb5⟩
    | 2, ho =>
      cases ho
      clear hw
      simp [mix]
      go_simp
      exact ⟨rfl, Below.refl _ _⟩
    | 3, ho =>
      cases ho
      have y2 : vs 2 = _ := hw 2 (waits_of (by kernel_rfl))
      clear hw
      simp [mix, y2]
      go_simp
      refine (toState_c _ _ _ _ _ _ _).mono ?_
      rintro e w5 ⟨rfl, hb5⟩
      exact ⟨_, rfl, rfl, hb5⟩
    | 4, ho =>
      cases ho
      have y3 : vs 3 = _ := hw 3 (waits_of (by kernel_rfl))
      refine Exists.elim (lNextY_1 (hw 1 (waits_of (by kernel_rfl)))) (fun q hq0 => ?_)
      have y1 := hq0.1
      have hq := hq0.2
      clear hq0
      clear hw
      simp [mix, y3, y1]
      go_simp
      refine (hs.out q _ HB.out hq).mono ?_
      rintro e w5 ⟨rfl, hb5⟩
      exact ⟨_, rfl, rfl, hb5⟩
    | 5, ho =>
      cases ho
      have y4 : vs 4 = _ := hw 4 (waits_of (by kernel_rfl))
      clear hw
      simp [mix, y4]
      go_simp
      exact ⟨rfl, Below.refl _ _⟩
    | k + 6, ho => simp at ho
  · intro vs w4 hC hy
    have y0 : vs 0 = _ := hy 0 (by simp) (by simp)
    refine Exists.elim (lNextY_1 (hy 1 (by simp) (by simp))) (fun q2 e2 => ?_)
    have y1 := e2.1
    clear e2
    have y2 : vs 2 = _ := hy 2 (by simp) (by simp)
    have y3 : vs 3 = _ := hy 3 (by simp) (by simp)
    have y4 : vs 4 = _ := hy 4 (by simp) (by simp)
    have y5 : vs 5 = _ := hy 5 (by simp) (by simp)
    clear hy
    refine ⟨?_⟩
    simp only [mix, y0, y1, y2, y3, y4, y5]
    clear y0 y1 y2 y3 y4 y5
    have hJ := hC
    clear hC
    generalize w4 = w5 at *
    have hB5 : Below w.heap.size w w5 := hJ.2.2.2.2.2.2
    go_wp2_with fail
    refine (toMarkS_any ad len cap f a _ HB.out (hrow.on hB5)).mono ?_
    rintro e w6 ⟨q1, rfl, hq1, hr1, -, hb6⟩
    have hJ6 := lNextC_on hJ hb6
    clear hJ hB5 hb6
    have hE : lNextE w kn bl bh si la od q1 len f a w6 w6 := ⟨hJ6.1, hJ6.2.1, hJ6.2.2.1, hJ6.2.2.2.1, hJ6.2.2.2.2.1, hJ6.2.2.2.2.2.1, hr1, Below.refl _ _, hJ6.2.2.2.2.2.2⟩
    clear hJ6
    have c0 : w6.cell? ⟨w.heap.size, 0, none⟩ = some (.bool kn) := hE.1
    have c1 : w6.cell? ⟨w.heap.size, 1, none⟩ = some (.int .i64 bl) := hE.2.1
    have c2 : w6.cell? ⟨w.heap.size, 2, none⟩ = some (.int .i64 bh) := hE.2.2.1
    have c3 : w6.cell? ⟨w.heap.size, 3, none⟩ = some (.int .i64 si) := hE.2.2.2.1
    have c4 : w6.cell? ⟨w.heap.size, 4, none⟩ = some (.int .i64 la) := hE.2.2.2.2.1
    have c5 : w6.cell? ⟨w.heap.size, 5, none⟩ = some (.int .i64 od) := hE.2.2.2.2.2.1
    go_wp2_with fail
    refine (toState_c _ _ _ _ _ _ _).mono ?_
    rintro e wa0 ⟨rfl, hba0⟩
    have hE0 := lNextE_on hE hba0
    clear c0 c1 c2 c3 c4 c5
    have c0 : wa0.cell? ⟨w.heap.size, 0, none⟩ = some (.bool kn) := hE0.1
    have c1 : wa0.cell? ⟨w.heap.size, 1, none⟩ = some (.int .i64 bl) := hE0.2.1
    have c2 : wa0.cell? ⟨w.heap.size, 2, none⟩ = some (.int .i64 bh) := hE0.2.2.1
    have c3 : wa0.cell? ⟨w.heap.size, 3, none⟩ = some (.int .i64 si) := hE0.2.2.2.1
    have c4 : wa0.cell? ⟨w.heap.size, 4, none⟩ = some (.int .i64 la) := hE0.2.2.2.2.1
    have c5 : wa0.cell? ⟨w.heap.size, 5, none⟩ = some (.int .i64 od) := hE0.2.2.2.2.2.1
    go_wp2_with fail
    refine (hi.out q1 _ HB.out hE0.2.2.2.2.2.2.1).mono ?_
    rintro e w4 ⟨rfl, hb4⟩
    have hC := lNextE_on hE0 hb4
    clear c0 c1 c2 c3 c4 c5
    clear hb4
    have hr8 : Row2 w4 q1 0 len f a := hC.2.2.2.2.2.2.1
    have hB8 : Below w.heap.size w w4 := hC.2.2.2.2.2.2.2.2
    clear hC
    go_wp2_with fail
    refine (toMarkS_any ad len cap f a _ HB.out (hrow.on hB8)).mono ?_
    rintro e w9 ⟨q9, rfl, hq9, hr9, -, hb9⟩
    go_wp2_with fail
    refine (eqMarkS_c q1 q9 len len len f a _ HB.out (hr8.on hb9) hr9).mono ?_
    rintro e w10 ⟨rfl, hb10⟩
    go_wp2_with fail
    go_ret
    exact ⟨rfl, nbTrans (nbTrans hB8 hb9) hb10⟩

end Go.Proofs.Ytmhppadblddjoab
