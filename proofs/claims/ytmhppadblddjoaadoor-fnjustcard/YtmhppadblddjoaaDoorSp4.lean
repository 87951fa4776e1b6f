/- Chapter 4 of the specification: whether wheels may count so. -/
import Derived.Test.YtmhppadblddjoaaDoorTrS
import Derived.Test.YtmhppadblddjoaaDoorW3
namespace Go.Proofs.YtmhppadblddjoaaDoor
open Go.RowKit

def numB (x y : Int) : Bool := inB x 0 100000 && inB y 0 100000
def fairB (s j x y : Int) : Bool := decide (lst s j y ≤ x) && decide (x ≤ mst s j y)
def tickB (s j x y : Int) : Bool := numB x y && fairB s j x y
def tickTo (s j : Int) (f a : Nat → Int) (k : Nat) : Bool := (List.range k).all fun i => tickB s j (f i) (a i)
def fairA (s j m g o : Int) (f a : Nat → Int) (len : Nat) : Bool := rOk s j m g o && decide (len ≤ 2000) && tickTo s j f a len
theorem tickTo_snoc {s j : Int} {f a : Nat → Int} {k : Nat} (h : tickTo s j f a k = true) (hk : tickB s j (f k) (a k) = true) : tickTo s j f a (k + 1) = true := by
  unfold tickTo at *
  rw [List.range_succ, List.all_append, h]
  simpa using hk
theorem tickTo_no {s j : Int} {f a : Nat → Int} {k n : Nat} (hk : k < n) (h : tickB s j (f k) (a k) = false) : tickTo s j f a n = false := by
  unfold tickTo
  rw [List.all_eq_false]
  exact ⟨k, by simpa using hk, by simp [h]⟩
theorem tickTo_at {s j : Int} {f a : Nat → Int} {k n : Nat} (h : tickTo s j f a n = true) (hk : k < n) : tickB s j (f k) (a k) = true := by
  unfold tickTo at h
  rw [List.all_eq_true] at h
  exact h k (by simpa using hk)

set_option maxHeartbeats 400000 in
theorem l4true_c (x y : Int) (w : World) :
    Calls Tryd.prog 58 #[.agg #[.int .i64 x, .int .i64 y]] w fun e w' => e = .returned (.bool (numB x y)) ∧ Below w.heap.size w w' := by
  cases h1 : inB x 0 100000
  case false =>
    go_enter Tryd.func58, Tryd.ntmps58
    go_wp2_with fail
    refine (l1in_c _ _ _ _).mono ?_
    rintro e w' ⟨rfl, rfl⟩
    simp only [h1]
    go_wp2_with fail
    go_ret
    exact ⟨retB (by simp [numB, h1]), nbAlloc (Below.refl _ _) _⟩
  go_enter Tryd.func58, Tryd.ntmps58
  go_wp2_with fail
  refine (l1in_c _ _ _ _).mono ?_
  rintro e w' ⟨rfl, rfl⟩
  simp only [h1]
  go_wp2_with fail
  refine (l1in_c _ _ _ _).mono ?_
  rintro e w' ⟨rfl, rfl⟩
  go_wp2_with fail
  go_ret
  exact ⟨retB (by simp [numB, h1]), nbAlloc (Below.refl _ _) _⟩

theorem l1fair_c (s j m g o x y : Int) (w : World) (hr : rOk s j m g o = true) (hn : numB x y = true) :
    Calls Tryd.prog 92 #[.agg #[.int .i64 s, .int .i64 j, .int .i64 m, .int .i64 g, .int .i64 o], .int .i64 x, .int .i64 y] w fun e w' => e = .returned (.bool (fairB s j x y)) ∧ Below w.heap.size w w' := by
  simp only [rOk, inB, Bool.and_eq_true, decide_eq_true_eq] at hr
  simp only [numB, inB, Bool.and_eq_true, decide_eq_true_eq] at hn
  have l1 := lst_le (s := s) (j := j) (c := y) (by omega) (by omega) (by omega)
  have l2 := mst_ge (s := s) (j := j) (c := y) (by omega) (by omega) (by omega) (by omega)
  by_cases h : x < y
  · refine (fair_lo s j m g o x y w (by omega) (by omega) (by omega) (by omega) (by omega) h (by omega)).mono ?_
    rintro e w' ⟨rfl, hb⟩
    exact ⟨retB (by have : x ≤ mst s j y := by omega
                    simp [fairB, this]), hb⟩
  · refine (fair_hi s j m g o x y w (by omega) (by omega) (by omega) (by omega) (by omega) (by omega) (by omega)).mono ?_
    rintro e w' ⟨rfl, hb⟩
    exact ⟨retB (by have : lst s j y ≤ x := by omega
                    simp [fairB, this]), hb⟩

def f4C (w : World) (s j m g o : Int) : World → Prop := fun w' => w'.cell? ⟨w.heap.size, 0, none⟩ = some (.int .i64 s) ∧ w'.cell? ⟨w.heap.size, 1, none⟩ = some (.int .i64 j) ∧ w'.cell? ⟨w.heap.size, 2, none⟩ = some (.int .i64 m) ∧ w'.cell? ⟨w.heap.size, 3, none⟩ = some (.int .i64 g) ∧ w'.cell? ⟨w.heap.size, 4, none⟩ = some (.int .i64 o) ∧ Below w.heap.size w w'
theorem f4C_on {w : World} {s j m g o : Int} {w1 w2 : World} (hh : f4C w s j m g o w1) (hb : Below w1.heap.size w1 w2) : f4C w s j m g o w2 :=
  ⟨cellOn hb hh.1, cellOn hb hh.2.1, cellOn hb hh.2.2.1, cellOn hb hh.2.2.2.1, cellOn hb hh.2.2.2.2.1, nbTrans hh.2.2.2.2.2 hb⟩

end Go.Proofs.YtmhppadblddjoaaDoor
