/- The law of Holds: its walk, both functions as premises. -/
import Derived.Test.YtmhppadblddjoabEv
import Derived.Test.YtmhppadblddjoabRel
import Derived.Test.YtmhppadblddjoabSet6
namespace Go.Proofs.Ytmhppadblddjoab
open Go.RowKit
set_option linter.unusedVariables false

def lHoldsC (w : World) (s j m g o : Int) (kn : Bool) (bl bh si la od : Int) : World → Prop := fun w' => w'.cell? ⟨w.heap.size, 0, none⟩ = some (.int .i64 s) ∧ w'.cell? ⟨w.heap.size, 1, none⟩ = some (.int .i64 j) ∧ w'.cell? ⟨w.heap.size, 2, none⟩ = some (.int .i64 m) ∧ w'.cell? ⟨w.heap.size, 3, none⟩ = some (.int .i64 g) ∧ w'.cell? ⟨w.heap.size, 4, none⟩ = some (.int .i64 o) ∧ w'.cell? ⟨w.heap.size + 1, 0, none⟩ = some (.bool kn) ∧ w'.cell? ⟨w.heap.size + 1, 1, none⟩ = some (.int .i64 bl) ∧ w'.cell? ⟨w.heap.size + 1, 2, none⟩ = some (.int .i64 bh) ∧ w'.cell? ⟨w.heap.size + 1, 3, none⟩ = some (.int .i64 si) ∧ w'.cell? ⟨w.heap.size + 1, 4, none⟩ = some (.int .i64 la) ∧ w'.cell? ⟨w.heap.size + 1, 5, none⟩ = some (.int .i64 od) ∧ Below w.heap.size w w'
theorem lHoldsC_on {w : World} {s j m g o : Int} {kn : Bool} {bl bh si la od : Int} {w1 w2 : World} (hh : lHoldsC w s j m g o kn bl bh si la od w1) (hb : Below w1.heap.size w1 w2) : lHoldsC w s j m g o kn bl bh si la od w2 :=
  ⟨cellOn hb hh.1, cellOn hb hh.2.1, cellOn hb hh.2.2.1, cellOn hb hh.2.2.2.1, cellOn hb hh.2.2.2.2.1, cellOn hb hh.2.2.2.2.2.1, cellOn hb hh.2.2.2.2.2.2.1, cellOn hb hh.2.2.2.2.2.2.2.1, cellOn hb hh.2.2.2.2.2.2.2.2.1, cellOn hb hh.2.2.2.2.2.2.2.2.2.1, cellOn hb hh.2.2.2.2.2.2.2.2.2.2.1, nbTrans hh.2.2.2.2.2.2.2.2.2.2.2 hb⟩

def lHoldsD (w : World) (s j m g o : Int) (kn : Bool) (bl bh si la od : Int) (p : Nat) (x y : Int) : World → Prop := fun w' => w'.cell? ⟨w.heap.size, 0, none⟩ = some (.int .i64 s) ∧ w'.cell? ⟨w.heap.size, 1, none⟩ = some (.int .i64 j) ∧ w'.cell? ⟨w.heap.size, 2, none⟩ = some (.int .i64 m) ∧ w'.cell? ⟨w.heap.size, 3, none⟩ = some (.int .i64 g) ∧ w'.cell? ⟨w.heap.size, 4, none⟩ = some (.int .i64 o) ∧ w'.cell? ⟨w.heap.size + 1, 0, none⟩ = some (.bool kn) ∧ w'.cell? ⟨w.heap.size + 1, 1, none⟩ = some (.int .i64 bl) ∧ w'.cell? ⟨w.heap.size + 1, 2, none⟩ = some (.int .i64 bh) ∧ w'.cell? ⟨w.heap.size + 1, 3, none⟩ = some (.int .i64 si) ∧ w'.cell? ⟨w.heap.size + 1, 4, none⟩ = some (.int .i64 la) ∧ w'.cell? ⟨w.heap.size + 1, 5, none⟩ = some (.int .i64 od) ∧ w'.cell? ⟨p, 0, none⟩ = some (.int .i64 x) ∧ w'.cell? ⟨p, 1, none⟩ = some (.int .i64 y) ∧ Below w.heap.size w w'
theorem lHoldsD_on {w : World} {s j m g o : Int} {kn : Bool} {bl bh si la od : Int} {p : Nat} {x y : Int} {w1 w2 : World} (hh : lHoldsD w s j m g o kn bl bh si la od p x y w1) (hb : Below w1.heap.size w1 w2) : lHoldsD w s j m g o kn bl bh si la od p x y w2 :=
  ⟨cellOn hb hh.1, cellOn hb hh.2.1, cellOn hb hh.2.2.1, cellOn hb hh.2.2.2.1, cellOn hb hh.2.2.2.2.1, cellOn hb hh.2.2.2.2.2.1, cellOn hb hh.2.2.2.2.2.2.1, cellOn hb hh.2.2.2.2.2.2.2.1, cellOn hb hh.2.2.2.2.2.2.2.2.1, cellOn hb hh.2.2.2.2.2.2.2.2.2.1, cellOn hb hh.2.2.2.2.2.2.2.2.2.2.1, cellOn hb hh.2.2.2.2.2.2.2.2.2.2.2.1, cellOn hb hh.2.2.2.2.2.2.2.2.2.2.2.2.1, nbTrans hh.2.2.2.2.2.2.2.2.2.2.2.2.2 hb⟩

def lHoldsE (w : World) (s j m g o : Int) (kn : Bool) (bl bh si la od : Int) (p : Nat) (x y : Int) (w6 : World) : World → Prop := fun w' => w'.cell? ⟨w.heap.size, 0, none⟩ = some (.int .i64 s) ∧ w'.cell? ⟨w.heap.size, 1, none⟩ = some (.int .i64 j) ∧ w'.cell? ⟨w.heap.size, 2, none⟩ = some (.int .i64 m) ∧ w'.cell? ⟨w.heap.size, 3, none⟩ = some (.int .i64 g) ∧ w'.cell? ⟨w.heap.size, 4, none⟩ = some (.int .i64 o) ∧ w'.cell? ⟨w.heap.size + 1, 0, none⟩ = some (.bool kn) ∧ w'.cell? ⟨w.heap.size + 1, 1, none⟩ = some (.int .i64 bl) ∧ w'.cell? ⟨w.heap.size + 1, 2, none⟩ = some (.int .i64 bh) ∧ w'.cell? ⟨w.heap.size + 1, 3, none⟩ = some (.int .i64 si) ∧ w'.cell? ⟨w.heap.size + 1, 4, none⟩ = some (.int .i64 la) ∧ w'.cell? ⟨w.heap.size + 1, 5, none⟩ = some (.int .i64 od) ∧ w'.cell? ⟨p, 0, none⟩ = some (.int .i64 x) ∧ w'.cell? ⟨p, 1, none⟩ = some (.int .i64 y) ∧ Below w6.heap.size w6 w' ∧ Below w.heap.size w w'
theorem lHoldsE_on {w : World} {s j m g o : Int} {kn : Bool} {bl bh si la od : Int} {p : Nat} {x y : Int} {w6 : World} {w1 w2 : World} (hh : lHoldsE w s j m g o kn bl bh si la od p x y w6 w1) (hb : Below w1.heap.size w1 w2) : lHoldsE w s j m g o kn bl bh si la od p x y w6 w2 :=
  ⟨cellOn hb hh.1, cellOn hb hh.2.1, cellOn hb hh.2.2.1, cellOn hb hh.2.2.2.1, cellOn hb hh.2.2.2.2.1, cellOn hb hh.2.2.2.2.2.1, cellOn hb hh.2.2.2.2.2.2.1, cellOn hb hh.2.2.2.2.2.2.2.1, cellOn hb hh.2.2.2.2.2.2.2.2.1, cellOn hb hh.2.2.2.2.2.2.2.2.2.1, cellOn hb hh.2.2.2.2.2.2.2.2.2.2.1, cellOn hb hh.2.2.2.2.2.2.2.2.2.2.2.1, cellOn hb hh.2.2.2.2.2.2.2.2.2.2.2.2.1, nbTrans hh.2.2.2.2.2.2.2.2.2.2.2.2.2.1 hb, nbTrans hh.2.2.2.2.2.2.2.2.2.2.2.2.2.2 hb⟩

def lHoldsG (w : World) (s j m g o : Int) (kn : Bool) (bl bh si la od : Int) (p : Nat) (x y : Int) (w6 : World) (p2 : Nat) : World → Prop := fun w' => w'.cell? ⟨w.heap.size, 0, none⟩ = some (.int .i64 s) ∧ w'.cell? ⟨w.heap.size, 1, none⟩ = some (.int .i64 j) ∧ w'.cell? ⟨w.heap.size, 2, none⟩ = some (.int .i64 m) ∧ w'.cell? ⟨w.heap.size, 3, none⟩ = some (.int .i64 g) ∧ w'.cell? ⟨w.heap.size, 4, none⟩ = some (.int .i64 o) ∧ w'.cell? ⟨w.heap.size + 1, 0, none⟩ = some (.bool kn) ∧ w'.cell? ⟨w.heap.size + 1, 1, none⟩ = some (.int .i64 bl) ∧ w'.cell? ⟨w.heap.size + 1, 2, none⟩ = some (.int .i64 bh) ∧ w'.cell? ⟨w.heap.size + 1, 3, none⟩ = some (.int .i64 si) ∧ w'.cell? ⟨w.heap.size + 1, 4, none⟩ = some (.int .i64 la) ∧ w'.cell? ⟨w.heap.size + 1, 5, none⟩ = some (.int .i64 od) ∧ w'.cell? ⟨p, 0, none⟩ = some (.int .i64 x) ∧ w'.cell? ⟨p, 1, none⟩ = some (.int .i64 y) ∧ Below w6.heap.size w6 w' ∧ w'.cell? ⟨p2, 0, none⟩ = some (.int .i64 x) ∧ w'.cell? ⟨p2, 1, none⟩ = some (.int .i64 y) ∧ Below w.heap.size w w'
theorem lHoldsG_on {w : World} {s j m g o : Int} {kn : Bool} {bl bh si la od : Int} {p : Nat} {x y : Int} {w6 : World} {p2 : Nat} {w1 w2 : World} (hh : lHoldsG w s j m g o kn bl bh si la od p x y w6 p2 w1) (hb : Below w1.heap.size w1 w2) : lHoldsG w s j m g o kn bl bh si la od p x y w6 p2 w2 :=
  ⟨cellOn hb hh.1, cellOn hb hh.2.1, cellOn hb hh.2.2.1, cellOn hb hh.2.2.2.1, cellOn hb hh.2.2.2.2.1, cellOn hb hh.2.2.2.2.2.1, cellOn hb hh.2.2.2.2.2.2.1, cellOn hb hh.2.2.2.2.2.2.2.1, cellOn hb hh.2.2.2.2.2.2.2.2.1, cellOn hb hh.2.2.2.2.2.2.2.2.2.1, cellOn hb hh.2.2.2.2.2.2.2.2.2.2.1, cellOn hb hh.2.2.2.2.2.2.2.2.2.2.2.1, cellOn hb hh.2.2.2.2.2.2.2.2.2.2.2.2.1, nbTrans hh.2.2.2.2.2.2.2.2.2.2.2.2.2.1 hb, cellOn hb hh.2.2.2.2.2.2.2.2.2.2.2.2.2.2.1, cellOn hb hh.2.2.2.2.2.2.2.2.2.2.2.2.2.2.2.1, nbTrans hh.2.2.2.2.2.2.2.2.2.2.2.2.2.2.2.2 hb⟩

def lHoldsY (B : Nat) (s j m g o : Int) (kn : Bool) (bl bh si la od : Int) (x y : Int) : Nat → Value → World → Prop
  | 0, v, _ => v = .agg #[.int .i64 s, .int .i64 j, .int .i64 m, .int .i64 g, .int .i64 o]
  | 1, v, _ => v = .agg #[.int .i64 s, .int .i64 j, .int .i64 m, .int .i64 g, .int .i64 o]
  | 2, v, _ => v = .agg #[.bool kn, .int .i64 bl, .int .i64 bh, .int .i64 si, .int .i64 la, .int .i64 od]
  | 3, v, _ => v = .agg #[.bool kn, .int .i64 bl, .int .i64 bh, .int .i64 si, .int .i64 la, .int .i64 od]
  | 4, v, _ => v = .agg #[.int .i64 x, .int .i64 y]
  | 5, v, w => ∃ p, v = .pointer (some ⟨p, 0, none⟩) ∧ B ≤ p ∧ w.heap[p]? = some (.cells #[.int .i64 0, .int .i64 0] 24)
  | _, _, _ => True
theorem lHoldsY_on {B : Nat} {s j m g o : Int} {kn : Bool} {bl bh si la od : Int} {x y : Int} : ∀ jj v w w', lHoldsY B s j m g o kn bl bh si la od x y jj v w → Below w.heap.size w w' → lHoldsY B s j m g o kn bl bh si la od x y jj v w'
  | 0, _, _, _, h, _ => h
  | 1, _, _, _, h, _ => h
  | 2, _, _, _, h, _ => h
  | 3, _, _, _, h, _ => h
  | 4, _, _, _, h, _ => h
  | 5, _, _, _, ⟨p, h1, h2, h3⟩, hb => ⟨p, h1, h2, by rw [hb.block p (Array.getElem?_eq_some_iff.1 h3).1]; exact h3⟩
  | _ + 6, _, _, _, _, _ => trivial
theorem lHoldsY_5 {B : Nat} {s j m g o : Int} {kn : Bool} {bl bh si la od : Int} {x y : Int} {v : Value} {w : World} (h : lHoldsY B s j m g o kn bl bh si la od x y 5 v w) : ∃ p, v = .pointer (some ⟨p, 0, none⟩) ∧ B ≤ p ∧ w.heap[p]? = some (.cells #[.int .i64 0, .int .i64 0] 24) := h

def lHoldsZ (B : Nat) (s j m g o : Int) (kn : Bool) (bl bh si la od : Int) (x y : Int) : Nat → Value → World → Prop
  | 0, v, _ => v = .agg #[.int .i64 s, .int .i64 j, .int .i64 m, .int .i64 g, .int .i64 o]
  | 1, v, _ => v = .agg #[.int .i64 s, .int .i64 j, .int .i64 m, .int .i64 g, .int .i64 o]
  | 2, v, _ => v = .agg #[.bool kn, .int .i64 bl, .int .i64 bh, .int .i64 si, .int .i64 la, .int .i64 od]
  | 3, v, _ => v = .agg #[.bool kn, .int .i64 bl, .int .i64 bh, .int .i64 si, .int .i64 la, .int .i64 od]
  | 4, v, _ => v = .agg #[.int .i64 x, .int .i64 y]
  | 5, v, w => ∃ p, v = .pointer (some ⟨p, 0, none⟩) ∧ B ≤ p ∧ w.heap[p]? = some (.cells #[.int .i64 0, .int .i64 0] 24)
  | _, _, _ => True
theorem lHoldsZ_on {B : Nat} {s j m g o : Int} {kn : Bool} {bl bh si la od : Int} {x y : Int} : ∀ jj v w w', lHoldsZ B s j m g o kn bl bh si la od x y jj v w → Below w.heap.size w w' → lHoldsZ B s j m g o kn bl bh si la od x y jj v w'
  | 0, _, _, _, h, _ => h
  | 1, _, _, _, h, _ => h
  | 2, _, _, _, h, _ => h
  | 3, _, _, _, h, _ => h
  | 4, _, _, _, h, _ => h
  | 5, _, _, _, ⟨p, h1, h2, h3⟩, hb => ⟨p, h1, h2, by rw [hb.block p (Array.getElem?_eq_some_iff.1 h3).1]; exact h3⟩
  | _ + 6, _, _, _, _, _ => trivial
theorem lHoldsZ_5 {B : Nat} {s j m g o : Int} {kn : Bool} {bl bh si la od : Int} {x y : Int} {v : Value} {w : World} (h : lHoldsZ B s j m g o kn bl bh si la od x y 5 v w) : ∃ p, v = .pointer (some ⟨p, 0, none⟩) ∧ B ≤ p ∧ w.heap[p]? = some (.cells #[.int .i64 0, .int .i64 0] 24) := h

set_option maxRecDepth 100000 in
set_option maxHeartbeats 4000000 in
theorem lawHolds_c (s j m g o : Int) (kn : Bool) (bl bh si la od : Int) (x y : Int) (w : World)
    (hs : Hid (∀ w, Calls Try.prog 44 #[.agg #[.int .i64 s, .int .i64 j, .int .i64 m, .int .i64 g, .int .i64 o], .agg #[.bool kn, .int .i64 bl, .int .i64 bh, .int .i64 si, .int .i64 la, .int .i64 od]] w fun e w' => e = .returned (.agg #[.int .i64 x, .int .i64 y]) ∧ Below w.heap.size w w'))
    (hi : Hid (∀ w, Calls Try.prog 45 #[.agg #[.int .i64 s, .int .i64 j, .int .i64 m, .int .i64 g, .int .i64 o], .agg #[.bool kn, .int .i64 bl, .int .i64 bh, .int .i64 si, .int .i64 la, .int .i64 od]] w fun e w' => e = .returned (.agg #[.int .i64 x, .int .i64 y]) ∧ Below w.heap.size w w')) :
    Calls Try.prog 9 #[.agg #[.int .i64 s, .int .i64 j, .int .i64 m, .int .i64 g, .int .i64 o], .agg #[.bool kn, .int .i64 bl, .int .i64 bh, .int .i64 si, .int .i64 la, .int .i64 od]] w fun e w' => e = .returned (.bool true) ∧ Below w.heap.size w w' := by
  go_enter Try.func9, Try.ntmps9
  go_wp2_with fail
  refine region_relL (lHoldsC w s j m g o kn bl bh si la od) (lHoldsY (w.heap.size + 1 + 1) s j m g o kn bl bh si la od x y) 6 (fun _ _ => lHoldsC_on) lHoldsY_on (by kernel_rfl) (by kernel_rfl) (by kernel_rfl) ?_ ?_ ?_
  · refine ⟨?_, ?_, ?_, ?_, ?_, ?_, ?_, ?_, ?_, ?_, ?_, Below.drew (nbAlloc (nbAlloc (Below.refl _ _) _) _)⟩ <;> go_simp
  · intro j' o' ho hne vs w4 hC hw
    have hBS : w.heap.size + 1 + 1 ≤ w4.heap.size := by have := ltCell hC.2.2.2.2.2.2.2.2.2.2.1; omega
    have hB4 := hC.2.2.2.2.2.2.2.2.2.2.2
    have c0 : w4.cell? ⟨w.heap.size, 0, none⟩ = some (.int .i64 s) := hC.1
    have c1 : w4.cell? ⟨w.heap.size, 1, none⟩ = some (.int .i64 j) := hC.2.1
    have c2 : w4.cell? ⟨w.heap.size, 2, none⟩ = some (.int .i64 m) := hC.2.2.1
    have c3 : w4.cell? ⟨w.heap.size, 3, none⟩ = some (.int .i64 g) := hC.2.2.2.1
    have c4 : w4.cell? ⟨w.heap.size, 4, none⟩ = some (.int .i64 o) := hC.2.2.2.2.1
    have c5 : w4.cell? ⟨w.heap.size + 1, 0, none⟩ = some (.bool kn) := hC.2.2.2.2.2.1
    have c6 : w4.cell? ⟨w.heap.size + 1, 1, none⟩ = some (.int .i64 bl) := hC.2.2.2.2.2.2.1
    have c7 : w4.cell? ⟨w.heap.size + 1, 2, none⟩ = some (.int .i64 bh) := hC.2.2.2.2.2.2.2.1
    have c8 : w4.cell? ⟨w.heap.size + 1, 3, none⟩ = some (.int .i64 si) := hC.2.2.2.2.2.2.2.2.1
    have c9 : w4.cell? ⟨w.heap.size + 1, 4, none⟩ = some (.int .i64 la) := hC.2.2.2.2.2.2.2.2.2.1
    have c10 : w4.cell? ⟨w.heap.size + 1, 5, none⟩ = some (.int .i64 od) := hC.2.2.2.2.2.2.2.2.2.2.1
    have c11 : Below w.heap.size w w4 := hC.2.2.2.2.2.2.2.2.2.2.2
    match j', ho with
    | 0, ho =>
      cases ho
      clear hw
      simp [mix]
      go_simp
      exact ⟨rfl, Below.refl _ _⟩
    | 1, ho =>
      cases ho
      have y0 : vs 0 = _ := hw 0 (waits_of (by kernel_rfl))
      clear hw
      simp [mix, y0]
      go_simp
      refine (toRules_c _ _ _ _ _ _).mono ?_
      rintro e w5 ⟨rfl, hb5⟩
      exact ⟨_, rfl, rfl, hb5⟩
    | 2, ho =>
      cases ho
      clear hw
      simp [mix]
      go_simp
      exact ⟨rfl, Below.refl _ _⟩
    | 3, ho =>
      cases ho
      have y2 : vs 2 = _ := hw 2 (waits_of (by kernel_rfl))
      clear hw
      simp [mix, y2]
      go_simp
      refine (toState_c _ _ _ _ _ _ _).mono ?_
      rintro e w5 ⟨rfl, hb5⟩
      exact ⟨_, rfl, rfl, hb5⟩
    | 4, ho =>
      cases ho
      have y1 : vs 1 = _ := hw 1 (waits_of (by kernel_rfl))
      have y3 : vs 3 = _ := hw 3 (waits_of (by kernel_rfl))
      clear hw
      simp [mix, y1, y3]
      go_simp
      refine (hs.out _).mono ?_
      rintro e w5 ⟨rfl, hb5⟩
      exact ⟨_, rfl, rfl, hb5⟩
    | 5, ho =>
      cases ho
      clear hw
      simp [mix]
      go_simp
      exact ⟨⟨_, rfl, hBS, newBlkD _ _ rfl⟩, nbAlloc (Below.refl _ _) _⟩
    | 6, ho => exact absurd rfl hne
    | k + 7, ho => simp at ho
  · intro vs w4 hC hy
    have y0 : vs 0 = _ := hy 0 (by simp) (by simp)
    have y1 : vs 1 = _ := hy 1 (by simp) (by simp)
    have y2 : vs 2 = _ := hy 2 (by simp) (by simp)
    have y3 : vs 3 = _ := hy 3 (by simp) (by simp)
    have y4 : vs 4 = _ := hy 4 (by simp) (by simp)
    refine Exists.elim (lHoldsY_5 (hy 5 (by simp) (by simp))) (fun p e4 => ?_)
    have y5 := e4.1
    have hp := e4.2.1
    have hblk := e4.2.2
    clear e4
    clear hy
    have r0 : w4.cell? ⟨p, 0, none⟩ = some (.int .i64 0) := by simp [World.cell?, hblk]
    have f0 : w4.frozen? ⟨p, 0, none⟩ = false := by simp [World.frozen?, hblk]
    have r1 : w4.cell? ⟨p, 1, none⟩ = some (.int .i64 0) := by simp [World.cell?, hblk]
    have f1 : w4.frozen? ⟨p, 1, none⟩ = false := by simp [World.frozen?, hblk]
    have hT : Turns p w4 ((w4.setCell ⟨p, 0, none⟩ (.int .i64 x)).setCell ⟨p, 1, none⟩ (.int .i64 y)) := ((Turns.refl p w4).setCell 0 _).setCell 1 _
    have S := cellSet2 (v0 := .int .i64 x) (v1 := .int .i64 y) r0 r1
    have hJ : lHoldsD w s j m g o kn bl bh si la od p x y ((w4.setCell ⟨p, 0, none⟩ (.int .i64 x)).setCell ⟨p, 1, none⟩ (.int .i64 y)) := ⟨hT.cell (by omega) hC.1, hT.cell (by omega) hC.2.1, hT.cell (by omega) hC.2.2.1, hT.cell (by omega) hC.2.2.2.1, hT.cell (by omega) hC.2.2.2.2.1, hT.cell (by omega) hC.2.2.2.2.2.1, hT.cell (by omega) hC.2.2.2.2.2.2.1, hT.cell (by omega) hC.2.2.2.2.2.2.2.1, hT.cell (by omega) hC.2.2.2.2.2.2.2.2.1, hT.cell (by omega) hC.2.2.2.2.2.2.2.2.2.1, hT.cell (by omega) hC.2.2.2.2.2.2.2.2.2.2.1, S.1, S.2, hT.below hC.2.2.2.2.2.2.2.2.2.2.2 (by omega)⟩
    refine ⟨?_⟩
    simp only [mix, y0, y1, y2, y3, y4, y5]
    go_simp
    generalize ((w4.setCell ⟨p, 0, none⟩ (.int .i64 x)).setCell ⟨p, 1, none⟩ (.int .i64 y)) = w5 at *
    clear hT S r0 f0 r1 f1 hblk y0 y1 y2 y3 y4 y5 hC
    have hJ6 := hJ
    clear hJ
    generalize w5 = w6 at *
    have hpl := ltCell hJ6.2.2.2.2.2.2.2.2.2.2.2.2.1
    have hwl := hJ6.2.2.2.2.2.2.2.2.2.2.2.2.2.size
    have hE : lHoldsE w s j m g o kn bl bh si la od p x y w6 w6 := ⟨hJ6.1, hJ6.2.1, hJ6.2.2.1, hJ6.2.2.2.1, hJ6.2.2.2.2.1, hJ6.2.2.2.2.2.1, hJ6.2.2.2.2.2.2.1, hJ6.2.2.2.2.2.2.2.1, hJ6.2.2.2.2.2.2.2.2.1, hJ6.2.2.2.2.2.2.2.2.2.1, hJ6.2.2.2.2.2.2.2.2.2.2.1, hJ6.2.2.2.2.2.2.2.2.2.2.2.1, hJ6.2.2.2.2.2.2.2.2.2.2.2.2.1, Below.refl _ _, hJ6.2.2.2.2.2.2.2.2.2.2.2.2.2⟩
    clear hJ6
    go_wp2_with fail
    refine region_relL (lHoldsE w s j m g o kn bl bh si la od p x y w6) (lHoldsZ w6.heap.size s j m g o kn bl bh si la od x y) 6 (fun _ _ => lHoldsE_on) lHoldsZ_on (by kernel_rfl) (by kernel_rfl) (by kernel_rfl) ?_ ?_ ?_
    · exact lHoldsE_on hE (Below.drew (Below.refl _ _))
    · intro j' o' ho hne vs w4 hC hw
      have hBS : w6.heap.size ≤ w4.heap.size := hC.2.2.2.2.2.2.2.2.2.2.2.2.2.1.size
      have c0 : w4.cell? ⟨w.heap.size, 0, none⟩ = some (.int .i64 s) := hC.1
      have c1 : w4.cell? ⟨w.heap.size, 1, none⟩ = some (.int .i64 j) := hC.2.1
      have c2 : w4.cell? ⟨w.heap.size, 2, none⟩ = some (.int .i64 m) := hC.2.2.1
      have c3 : w4.cell? ⟨w.heap.size, 3, none⟩ = some (.int .i64 g) := hC.2.2.2.1
      have c4 : w4.cell? ⟨w.heap.size, 4, none⟩ = some (.int .i64 o) := hC.2.2.2.2.1
      have c5 : w4.cell? ⟨w.heap.size + 1, 0, none⟩ = some (.bool kn) := hC.2.2.2.2.2.1
      have c6 : w4.cell? ⟨w.heap.size + 1, 1, none⟩ = some (.int .i64 bl) := hC.2.2.2.2.2.2.1
      have c7 : w4.cell? ⟨w.heap.size + 1, 2, none⟩ = some (.int .i64 bh) := hC.2.2.2.2.2.2.2.1
      have c8 : w4.cell? ⟨w.heap.size + 1, 3, none⟩ = some (.int .i64 si) := hC.2.2.2.2.2.2.2.2.1
      have c9 : w4.cell? ⟨w.heap.size + 1, 4, none⟩ = some (.int .i64 la) := hC.2.2.2.2.2.2.2.2.2.1
      have c10 : w4.cell? ⟨w.heap.size + 1, 5, none⟩ = some (.int .i64 od) := hC.2.2.2.2.2.2.2.2.2.2.1
      have c11 : w4.cell? ⟨p, 0, none⟩ = some (.int .i64 x) := hC.2.2.2.2.2.2.2.2.2.2.2.1
      have c12 : w4.cell? ⟨p, 1, none⟩ = some (.int .i64 y) := hC.2.2.2.2.2.2.2.2.2.2.2.2.1
      match j', ho with
      | 0, ho =>
        cases ho
        clear hw
        simp [mix]
        go_simp
        exact ⟨rfl, Below.refl _ _⟩
      | 1, ho =>
        cases ho
        have y0 : vs 0 = _ := hw 0 (waits_of (by kernel_rfl))
        clear hw
        simp [mix, y0]
        go_simp
        refine (toRules_c _ _ _ _ _ _).mono ?_
        rintro e w5 ⟨rfl, hb5⟩
        exact ⟨_, rfl, rfl, hb5⟩
      | 2, ho =>
        cases ho
        clear hw
        simp [mix]
        go_simp
        exact ⟨rfl, Below.refl _ _⟩
      | 3, ho =>
        cases ho
        have y2 : vs 2 = _ := hw 2 (waits_of (by kernel_rfl))
        clear hw
        simp [mix, y2]
        go_simp
        refine (toState_c _ _ _ _ _ _ _).mono ?_
        rintro e w5 ⟨rfl, hb5⟩
        exact ⟨_, rfl, rfl, hb5⟩
      | 4, ho =>
        cases ho
        have y1 : vs 1 = _ := hw 1 (waits_of (by kernel_rfl))
        have y3 : vs 3 = _ := hw 3 (waits_of (by kernel_rfl))
        clear hw
        simp [mix, y1, y3]
        go_simp
        refine (hi.out _).mono ?_
        rintro e w5 ⟨rfl, hb5⟩
        exact ⟨_, rfl, rfl, hb5⟩
      | 5, ho =>
        cases ho
        clear hw
        simp [mix]
        go_simp
        exact ⟨⟨_, rfl, hBS, newBlkD _ _ rfl⟩, nbAlloc (Below.refl _ _) _⟩
      | 6, ho => exact absurd rfl hne
      | k + 7, ho => simp at ho
    · intro vs w4 hC hy
      have y0 : vs 0 = _ := hy 0 (by simp) (by simp)
      have y1 : vs 1 = _ := hy 1 (by simp) (by simp)
      have y2 : vs 2 = _ := hy 2 (by simp) (by simp)
      have y3 : vs 3 = _ := hy 3 (by simp) (by simp)
      have y4 : vs 4 = _ := hy 4 (by simp) (by simp)
      refine Exists.elim (lHoldsZ_5 (hy 5 (by simp) (by simp))) (fun p2 e4 => ?_)
      have y5 := e4.1
      have hp := e4.2.1
      have hblk := e4.2.2
      clear e4
      clear hy
      have r0 : w4.cell? ⟨p2, 0, none⟩ = some (.int .i64 0) := by simp [World.cell?, hblk]
      have f0 : w4.frozen? ⟨p2, 0, none⟩ = false := by simp [World.frozen?, hblk]
      have r1 : w4.cell? ⟨p2, 1, none⟩ = some (.int .i64 0) := by simp [World.cell?, hblk]
      have f1 : w4.frozen? ⟨p2, 1, none⟩ = false := by simp [World.frozen?, hblk]
      have hT : Turns p2 w4 ((w4.setCell ⟨p2, 0, none⟩ (.int .i64 x)).setCell ⟨p2, 1, none⟩ (.int .i64 y)) := ((Turns.refl p2 w4).setCell 0 _).setCell 1 _
      have S := cellSet2 (v0 := .int .i64 x) (v1 := .int .i64 y) r0 r1
      have hG : lHoldsG w s j m g o kn bl bh si la od p x y w6 p2 ((w4.setCell ⟨p2, 0, none⟩ (.int .i64 x)).setCell ⟨p2, 1, none⟩ (.int .i64 y)) := ⟨hT.cell (by omega) hC.1, hT.cell (by omega) hC.2.1, hT.cell (by omega) hC.2.2.1, hT.cell (by omega) hC.2.2.2.1, hT.cell (by omega) hC.2.2.2.2.1, hT.cell (by omega) hC.2.2.2.2.2.1, hT.cell (by omega) hC.2.2.2.2.2.2.1, hT.cell (by omega) hC.2.2.2.2.2.2.2.1, hT.cell (by omega) hC.2.2.2.2.2.2.2.2.1, hT.cell (by omega) hC.2.2.2.2.2.2.2.2.2.1, hT.cell (by omega) hC.2.2.2.2.2.2.2.2.2.2.1, hT.cell (by omega) hC.2.2.2.2.2.2.2.2.2.2.2.1, hT.cell (by omega) hC.2.2.2.2.2.2.2.2.2.2.2.2.1, hT.below hC.2.2.2.2.2.2.2.2.2.2.2.2.2.1 (by omega), S.1, S.2, hT.below hC.2.2.2.2.2.2.2.2.2.2.2.2.2.2 (by omega)⟩
      refine ⟨?_⟩
      simp only [mix, y0, y1, y2, y3, y4, y5]
      go_simp
      generalize ((w4.setCell ⟨p2, 0, none⟩ (.int .i64 x)).setCell ⟨p2, 1, none⟩ (.int .i64 y)) = w7 at *
      clear hT S r0 f0 r1 f1 hblk y0 y1 y2 y3 y4 y5 hC hE
      have c0 : w7.cell? ⟨w.heap.size, 0, none⟩ = some (.int .i64 s) := hG.1
      have c1 : w7.cell? ⟨w.heap.size, 1, none⟩ = some (.int .i64 j) := hG.2.1
      have c2 : w7.cell? ⟨w.heap.size, 2, none⟩ = some (.int .i64 m) := hG.2.2.1
      have c3 : w7.cell? ⟨w.heap.size, 3, none⟩ = some (.int .i64 g) := hG.2.2.2.1
      have c4 : w7.cell? ⟨w.heap.size, 4, none⟩ = some (.int .i64 o) := hG.2.2.2.2.1
      have c5 : w7.cell? ⟨w.heap.size + 1, 0, none⟩ = some (.bool kn) := hG.2.2.2.2.2.1
      have c6 : w7.cell? ⟨w.heap.size + 1, 1, none⟩ = some (.int .i64 bl) := hG.2.2.2.2.2.2.1
      have c7 : w7.cell? ⟨w.heap.size + 1, 2, none⟩ = some (.int .i64 bh) := hG.2.2.2.2.2.2.2.1
      have c8 : w7.cell? ⟨w.heap.size + 1, 3, none⟩ = some (.int .i64 si) := hG.2.2.2.2.2.2.2.2.1
      have c9 : w7.cell? ⟨w.heap.size + 1, 4, none⟩ = some (.int .i64 la) := hG.2.2.2.2.2.2.2.2.2.1
      have c10 : w7.cell? ⟨w.heap.size + 1, 5, none⟩ = some (.int .i64 od) := hG.2.2.2.2.2.2.2.2.2.2.1
      have c11 : w7.cell? ⟨p, 0, none⟩ = some (.int .i64 x) := hG.2.2.2.2.2.2.2.2.2.2.2.1
      have c12 : w7.cell? ⟨p, 1, none⟩ = some (.int .i64 y) := hG.2.2.2.2.2.2.2.2.2.2.2.2.1
      have c14 : w7.cell? ⟨p2, 0, none⟩ = some (.int .i64 x) := hG.2.2.2.2.2.2.2.2.2.2.2.2.2.2.1
      have c15 : w7.cell? ⟨p2, 1, none⟩ = some (.int .i64 y) := hG.2.2.2.2.2.2.2.2.2.2.2.2.2.2.2.1
      go_wp2_with fail
      refine (eqBound_c _ _ _).mono ?_
      rintro e w8 ⟨rfl, hb8⟩
      go_wp2_with fail
      go_ret
      exact ⟨rfl, nbTrans hG.2.2.2.2.2.2.2.2.2.2.2.2.2.2.2.2 hb8⟩

end Go.Proofs.Ytmhppadblddjoab
