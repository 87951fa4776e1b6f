/- Chapter 4 of the specification: whether wheels may count so. -/
import Derived.Test.YtmhppadblddjoacDoorTrS
import Derived.Test.YtmhppadblddjoacDoorW3
namespace Go.Proofs.YtmhppadblddjoacDoor
open Go.RowKit

def numB (x y : Int) : Bool := inB x 0 100000 && inB y 0 100000
def fairB (s j x y : Int) : Bool := decide (lst s j y ≤ x) && decide (x ≤ mst s j y)
def tickB (s j x y : Int) : Bool := numB x y && fairB s j x y
def tickTo (s j : Int) (f a : Nat → Int) (k : Nat) : Bool := (List.range k).all fun i => tickB s j (f i) (a i)
def fairA (s j m g o : Int) (f a : Nat → Int) (len : Nat) : Bool := rOk s j m g o && decide (len ≤ 2000) && tickTo s j f a len
theorem tickTo_snoc {s j : Int} {f a : Nat → Int} {k : Nat} (h : tickTo s j f a k = true) (hk : tickB s j (f k) (a k) = true) : tickTo s j f a (k + 1) = true := by
  unfold tickTo at *
  rw [List.range_succ, List.all_append, h]
  simpa using hk
theorem tickTo_no {s j : Int} {f a : Nat → Int} {k n : Nat} (hk : k < n) (h : tickB s j (f k) (a k) = false) : tickTo s j f a n = false := by
  unfold tickTo
  rw [List.all_eq_false]
  exact ⟨k, by simpa using hk, by simp [h]⟩
theorem tickTo_at {s j : Int} {f a : Nat → Int} {k n : Nat} (h : tickTo s j f a n = true) (hk : k < n) : tickB s j (f k) (a k) = true := by
  unfold tickTo at h
  rw [List.all_eq_true] at h
  exact h k (by simpa using hk)

set_option maxHeartbeats 400000 in
theorem l4true_c (x y : Int) (w : World) :
    Calls Tryd.prog 31 #[.agg #[.int .i64 x, .int .i64 y]] w fun e w' => e = .returned (.bool (numB x y)) ∧ Below w.heap.size w w' := by
  cases h1 : inB x 0 100000
  case false =>
    go_enter Tryd.func31, Tryd.ntmps31
    go_wp2_with fail
    refine (l1in_c _ _ _ _).mono ?_
    rintro e w' ⟨rfl, rfl⟩
    simp only [h1]
    go_wp2_with fail
    go_ret
    exact ⟨retB (by simp [numB, h1]), nbAlloc (Below.refl _ _) _⟩
  go_enter Tryd.func31, Tryd.ntmps31
  go_wp2_with fail
  refine (l1in_c _ _ _ _).mono ?_
  rintro e w' ⟨rfl, rfl⟩
  simp only [h1]
  go_wp2_with fail
  refine (l1in_c _ _ _ _).mono ?_
  rintro e w' ⟨rfl, rfl⟩
  go_wp2_with fail
  go_ret
  exact ⟨retB (by simp [numB, h1]), nbAlloc (Below.refl _ _) _⟩

theorem l1fair_c (s j m g o x y : Int) (w : World) (hr : rOk s j m g o = true) (hn : numB x y = true) :
    Calls Tryd.prog 32 #[.agg #[.int .i64 s, .int .i64 j, .int .i64 m, .int .i64 g, .int .i64 o], .int .i64 x, .int .i64 y] w fun e w' => e = .returned (.bool (fairB s j x y)) ∧ Below w.heap.size w w' := by
  simp only [rOk, inB, Bool.and_eq_true, decide_eq_true_eq] at hr
  simp only [numB, inB, Bool.and_eq_true, decide_eq_true_eq] at hn
  have l1 := lst_le (s := s) (j := j) (c := y) (by omega) (by omega) (by omega)
  have l2 := mst_ge (s := s) (j := j) (c := y) (by omega) (by omega) (by omega) (by omega)
  by_cases h : x < y
  · refine (fair_lo s j m g o x y w (by omega) (by omega) (by omega) (by omega) (by omega) h (by omega)).mono ?_
    rintro e w' ⟨rfl, hb⟩
    exact ⟨retB (by have : x ≤ mst s j y := by omega
                    simp [fairB, this]), hb⟩
  · refine (fair_hi s j m g o x y w (by omega) (by omega) (by omega) (by omega) (by omega) (by omega) (by omega)).mono ?_
    rintro e w' ⟨rfl, hb⟩
    exact ⟨retB (by have : lst s j y ≤ x := by omega
                    simp [fairB, this]), hb⟩

def f4C (w : World) (s j m g o : Int) : World → Prop := fun w' => w'.cell? ⟨w.heap.size, 0, none⟩ = some (.int .i64 s) ∧ w'.cell? ⟨w.heap.size, 1, none⟩ = some (.int .i64 j) ∧ w'.cell? ⟨w.heap.size, 2, none⟩ = some (.int .i64 m) ∧ w'.cell? ⟨w.heap.size, 3, none⟩ = some (.int .i64 g) ∧ w'.cell? ⟨w.heap.size, 4, none⟩ = some (.int .i64 o) ∧ Below w.heap.size w w'
theorem f4C_on {w : World} {s j m g o : Int} {w1 w2 : World} (hh : f4C w s j m g o w1) (hb : Below w1.heap.size w1 w2) : f4C w s j m g o w2 :=
  ⟨cellOn hb hh.1, cellOn hb hh.2.1, cellOn hb hh.2.2.1, cellOn hb hh.2.2.2.1, cellOn hb hh.2.2.2.2.1, nbTrans hh.2.2.2.2.2 hb⟩

set_option maxHeartbeats 2000000 in
theorem specFair_c (b off len cap : Nat) (f a : Nat → Int) (s j m g o : Int) (w : World) (hl : len ≤ 1048576) (hrow : Row2 w b off len f a) :
    Calls Tryd.prog 7 #[.agg #[.int .i64 s, .int .i64 j, .int .i64 m, .int .i64 g, .int .i64 o], .slice (some ⟨b, off, none⟩) len cap] w fun e w' => e = .returned (.bool (fairA s j m g o f a len)) ∧ Below w.heap.size w w' := by
  cases hr : rOk s j m g o
  case false =>
    go_enter Tryd.func7, Tryd.ntmps7
    go_wp2_with fail
    refine (specRulesOk_c _ _ _ _ _ _).mono ?_
    rintro e w1 ⟨rfl, hb1⟩
    simp only [hr]
    have hC1 : f4C w s j m g o w1 := ⟨cellOn hb1 (by go_simp), cellOn hb1 (by go_simp), cellOn hb1 (by go_simp), cellOn hb1 (by go_simp), cellOn hb1 (by go_simp), nbTrans (nbAlloc (Below.refl _ _) _) hb1⟩
    have c0 : w1.cell? ⟨w.heap.size, 0, none⟩ = some (.int .i64 s) := hC1.1
    have c1 : w1.cell? ⟨w.heap.size, 1, none⟩ = some (.int .i64 j) := hC1.2.1
    have c2 : w1.cell? ⟨w.heap.size, 2, none⟩ = some (.int .i64 m) := hC1.2.2.1
    have c3 : w1.cell? ⟨w.heap.size, 3, none⟩ = some (.int .i64 g) := hC1.2.2.2.1
    have c4 : w1.cell? ⟨w.heap.size, 4, none⟩ = some (.int .i64 o) := hC1.2.2.2.2.1
    have c5 : Below w.heap.size w w1 := hC1.2.2.2.2.2
    go_wp2_with fail
    go_ret
    exact ⟨retB (by simp [fairA, hr]), c5⟩
  by_cases hn : (2000 : Int) < (len : Int)
  · go_enter Tryd.func7, Tryd.ntmps7
    go_wp2_with fail
    refine (specRulesOk_c _ _ _ _ _ _).mono ?_
    rintro e w1 ⟨rfl, hb1⟩
    simp only [hr]
    have hC1 : f4C w s j m g o w1 := ⟨cellOn hb1 (by go_simp), cellOn hb1 (by go_simp), cellOn hb1 (by go_simp), cellOn hb1 (by go_simp), cellOn hb1 (by go_simp), nbTrans (nbAlloc (Below.refl _ _) _) hb1⟩
    have c0 : w1.cell? ⟨w.heap.size, 0, none⟩ = some (.int .i64 s) := hC1.1
    have c1 : w1.cell? ⟨w.heap.size, 1, none⟩ = some (.int .i64 j) := hC1.2.1
    have c2 : w1.cell? ⟨w.heap.size, 2, none⟩ = some (.int .i64 m) := hC1.2.2.1
    have c3 : w1.cell? ⟨w.heap.size, 3, none⟩ = some (.int .i64 g) := hC1.2.2.2.1
    have c4 : w1.cell? ⟨w.heap.size, 4, none⟩ = some (.int .i64 o) := hC1.2.2.2.2.1
    have c5 : Below w.heap.size w w1 := hC1.2.2.2.2.2
    go_wp2_with fail
    go_ret
    exact ⟨retB (by simp [fairA]; omega), c5⟩
  have HA : Hid (fairA s j m g o f a len = tickTo s j f a len) := by
    unfold Hid
    have : len ≤ 2000 := by omega
    simp [fairA, hr, this]
  rw [HA.out]
  go_enter Tryd.func7, Tryd.ntmps7
  go_wp2_with fail
  refine (specRulesOk_c _ _ _ _ _ _).mono ?_
  rintro e w1 ⟨rfl, hb1⟩
  simp only [hr]
  have hC1 : f4C w s j m g o w1 := ⟨cellOn hb1 (by go_simp), cellOn hb1 (by go_simp), cellOn hb1 (by go_simp), cellOn hb1 (by go_simp), cellOn hb1 (by go_simp), nbTrans (nbAlloc (Below.refl _ _) _) hb1⟩
  have c0 : w1.cell? ⟨w.heap.size, 0, none⟩ = some (.int .i64 s) := hC1.1
  have c1 : w1.cell? ⟨w.heap.size, 1, none⟩ = some (.int .i64 j) := hC1.2.1
  have c2 : w1.cell? ⟨w.heap.size, 2, none⟩ = some (.int .i64 m) := hC1.2.2.1
  have c3 : w1.cell? ⟨w.heap.size, 3, none⟩ = some (.int .i64 g) := hC1.2.2.2.1
  have c4 : w1.cell? ⟨w.heap.size, 4, none⟩ = some (.int .i64 o) := hC1.2.2.2.2.1
  have c5 : Below w.heap.size w w1 := hC1.2.2.2.2.2
  go_wp2_with fail
  clear c0 c1 c2 c3 c4 c5 HA
  go_loopw [17] (fun iv wr => ∃ k : Nat, iv = .int .i64 k ∧ k ≤ len ∧ Hid (tickTo s j f a k = true) ∧ f4C w s j m g o wr) (fun iv _ => len - (intOf iv).toNat)
  case atStart => exact ⟨0, rfl, by omega, rfl, hC1⟩
  case round =>
    clear hC1
    obtain ⟨k, rfl, hk, hx, hC⟩ := hrel
    by_cases hlt : k < len
    · have i0 : (0 : Int) ≤ (k : Int) := by omega
      have i1 : (k : Int) < (len : Int) := by omega
      have d0 := cellOn hC.2.2.2.2.2 (hrow k hlt).1
      have d1 := cellOn hC.2.2.2.2.2 (hrow k hlt).2
      have hC2 := f4C_on hC (nbAlloc (Below.refl wr.heap.size wr) (.cells #[.int .i64 (f k), .int .i64 (a k)] 60))
      cases hnb : numB (f k) (a k)
      · go_wp2_with fail
        refine (l4true_c _ _ _).mono ?_
        rintro e w3 ⟨rfl, hb3⟩
        simp only [hnb]
        have hC3 := f4C_on hC2 hb3
        go_wp2_with fail
        go_ret
        exact ⟨retB (tickTo_no hlt (by simp [tickB, hnb])).symm, hC3.2.2.2.2.2⟩
      · go_wp2_with fail
        refine (l4true_c _ _ _).mono ?_
        rintro e w3 ⟨rfl, hb3⟩
        simp only [hnb]
        have hC3 := f4C_on hC2 hb3
        have e0 := cellOn hb3 (show (wr.alloc (.cells #[.int .i64 (f k), .int .i64 (a k)] 60)).cell? ⟨wr.heap.size, 0, none⟩ = some (.int .i64 (f k)) by go_simp)
        have e1 := cellOn hb3 (show (wr.alloc (.cells #[.int .i64 (f k), .int .i64 (a k)] 60)).cell? ⟨wr.heap.size, 1, none⟩ = some (.int .i64 (a k)) by go_simp)
        have c0 : w3.cell? ⟨w.heap.size, 0, none⟩ = some (.int .i64 s) := hC3.1
        have c1 : w3.cell? ⟨w.heap.size, 1, none⟩ = some (.int .i64 j) := hC3.2.1
        have c2 : w3.cell? ⟨w.heap.size, 2, none⟩ = some (.int .i64 m) := hC3.2.2.1
        have c3 : w3.cell? ⟨w.heap.size, 3, none⟩ = some (.int .i64 g) := hC3.2.2.2.1
        have c4 : w3.cell? ⟨w.heap.size, 4, none⟩ = some (.int .i64 o) := hC3.2.2.2.2.1
        have c5 : Below w.heap.size w w3 := hC3.2.2.2.2.2
        cases hfb : fairB s j (f k) (a k)
        · go_wp2_with fail
          refine (l1fair_c _ _ _ _ _ _ _ _ hr hnb).mono ?_
          rintro e w4 ⟨rfl, hb4⟩
          simp only [hfb]
          have hC4 := f4C_on hC3 hb4
          go_wp2_with fail
          go_ret
          exact ⟨retB (tickTo_no hlt (by simp [tickB, hfb])).symm, hC4.2.2.2.2.2⟩
        · go_wp2_with fail
          refine (l1fair_c _ _ _ _ _ _ _ _ hr hnb).mono ?_
          rintro e w4 ⟨rfl, hb4⟩
          simp only [hfb]
          have hC4 := f4C_on hC3 hb4
          have hx2 : Hid (tickTo s j f a (k + 1) = true) := tickTo_snoc hx.out (by simp [tickB, hnb, hfb])
          clear hx
          go_wp2_with fail
          go_roundw
          case rel => exact ⟨k + 1, by go_num, by omega, hx2, hC4⟩
          case measure => simp [intOf]; omega
    · have hkl : k = len := by omega
      subst hkl
      go_wp2_with fail
      go_ret
      exact ⟨retB hx.out.symm, hC.2.2.2.2.2⟩

end Go.Proofs.YtmhppadblddjoacDoor
