import Derived.Test.YtmhppadblddjoaaW1
namespace Go.Proofs.Ytmhppadblddjoaa
open Go.RowKit

def inB (x a b : Int) : Bool := decide (a ≤ x) && decide (x ≤ b)
def bOk (l h : Int) : Bool := decide (-100000000 ≤ l) && decide (l ≤ h) && decide (h ≤ 100000000)
def rOk (s j m g o : Int) : Bool := inB s 0 500 && inB j 0 1000 && inB m 0 10000 && inB g 1 1000000 && inB o 0 10000

set_option maxHeartbeats 400000 in
theorem l1in_c (x a b : Int) (w : World) :
    Calls Try.prog 54 #[.int .i64 x, .int .i64 a, .int .i64 b] w fun e w' => e = .returned (.bool (inB x a b)) ∧ w' = w := by
  by_cases h1 : a ≤ x
  · by_cases h2 : x ≤ b
    · go_enter Try.func54, Try.ntmps54
      go_wp2
      go_ret
      exact ⟨by simp [inB, h1, h2], rfl⟩
    · go_enter Try.func54, Try.ntmps54
      go_wp2
      go_ret
      exact ⟨by simp [inB, h1, h2], rfl⟩
  · go_enter Try.func54, Try.ntmps54
    go_wp2
    go_ret
    exact ⟨by simp [inB]; omega, rfl⟩

theorem bOk_in {l h : Int} (h1 : inB l (-100000000) 100000000 = true) : inB h l 100000000 = bOk l h := by
  rw [Bool.eq_iff_iff]; simp [inB, bOk] at *; omega
theorem bOk_out {l h : Int} (h1 : inB l (-100000000) 100000000 = false) : bOk l h = false := by
  rw [Bool.eq_false_iff]; simp [inB, bOk] at *; omega
theorem bOk_out2 {l h : Int} (h1 : inB h (-100000000) 100000000 = false) : bOk l h = false := by
  rw [Bool.eq_false_iff]; simp [inB, bOk] at *; omega
theorem bOk_both {l h : Int} (h1 : inB l (-100000000) 100000000 = true) (h2 : inB h (-100000000) 100000000 = true) : decide (l ≤ h) = bOk l h := by
  rw [Bool.eq_iff_iff]; simp [inB, bOk] at *; omega

set_option maxHeartbeats 400000 in
theorem wholeWay_c (w : World) :
    Calls Try.prog 49 #[] w fun e w' => e = .returned (.agg #[.int .i64 (-100000000), .int .i64 100000000]) ∧ Below w.heap.size w w' := by
  go_enter Try.func49, Try.ntmps49
  go_wp2
  exact bodyPost_ret (v := .agg #[.int .i64 (-100000000), .int .i64 100000000]) (by simp [results, Try.results49, go_sem]) rfl ⟨rfl, nbAlloc (Below.refl _ _) _⟩

set_option maxHeartbeats 400000 in
theorem upTo_c (n : Int) (w : World) :
    Calls Try.prog 47 #[.int .i64 n] w fun e w' => e = .returned (.agg #[.int .i64 0, .int .i64 n]) ∧ Below w.heap.size w w' := by
  go_enter Try.func47, Try.ntmps47
  go_wp2
  exact bodyPost_ret (v := .agg #[.int .i64 0, .int .i64 n]) (by simp [results, Try.results47, go_sem]) rfl ⟨rfl, nbAlloc (Below.refl _ _) _⟩

set_option maxHeartbeats 400000 in
theorem has_c (a b x : Int) (w : World) :
    Calls Try.prog 48 #[.agg #[.int .i64 a, .int .i64 b], .int .i64 x] w fun e w' => e = .returned (.bool (inB x a b)) ∧ Below w.heap.size w w' := by
  by_cases h1 : a ≤ x
  · by_cases h2 : x ≤ b
    all_goals
      go_enter Try.func48, Try.ntmps48
      go_wp2
      go_ret
      exact ⟨by simp [inB, h1, h2], nbAlloc (Below.refl _ _) _⟩
  · go_enter Try.func48, Try.ntmps48
    go_wp2
    go_ret
    exact ⟨by simp [inB]; omega, nbAlloc (Below.refl _ _) _⟩

set_option maxHeartbeats 400000 in
theorem specBoundOk_c (l h : Int) (w : World) :
    Calls Try.prog 22 #[.agg #[.int .i64 l, .int .i64 h]] w fun e w' => e = .returned (.bool (bOk l h)) ∧ Below w.heap.size w w' := by
  cases h1 : inB l (-100000000) 100000000
  · go_enter Try.func22, Try.ntmps22
    go_wp2_with (go_at_call 54; refine (l1in_c _ _ _ _).mono ?_; rintro e w' ⟨rfl, rfl⟩)
    go_ret
    exact ⟨by rw [bOk_out h1]; rfl, nbAlloc (Below.refl _ _) _⟩
  · go_enter Try.func22, Try.ntmps22
    go_wp2_with (go_at_call 54; refine (l1in_c _ _ _ _).mono ?_; rintro e w' ⟨rfl, rfl⟩)
    go_ret
    exact ⟨by rw [bOk_in h1]; rfl, nbAlloc (Below.refl _ _) _⟩

set_option maxHeartbeats 400000 in
theorem implBoundOk_c (l h : Int) (w : World) :
    Calls Try.prog 24 #[.agg #[.int .i64 l, .int .i64 h]] w fun e w' => e = .returned (.bool (bOk l h)) ∧ Below w.heap.size w w' := by
  have hmf : ∀ (fn : Fn) (first cap : Array Value) (w : World), (Instr.makeFunc fn first cap).run Try.prog w = .ok (.func fn first cap) w := fun _ _ _ _ => rfl
  cases h1 : inB l (-100000000) 100000000
  · go_enter Try.func24, Try.ntmps24
    go_wp2_with fail
    refine (wholeWay_c _).mono ?_
    rintro e w1 ⟨rfl, hb1⟩
    have c0 : w1.cell? ⟨w.heap.size, 0, none⟩ = some (.int .i64 l) := cellOn hb1 (by simp)
    go_wp2_with fail
    refine (has_c _ _ _ _).mono ?_
    rintro e w2 ⟨rfl, hb2⟩
    go_wp2_with fail
    go_ret
    exact ⟨by rw [bOk_out h1]; rfl, nbTrans (nbTrans (nbAlloc (Below.refl _ _) _) hb1) hb2⟩
  · cases h2 : inB h (-100000000) 100000000
    · go_enter Try.func24, Try.ntmps24
      go_wp2_with fail
      refine (wholeWay_c _).mono ?_
      rintro e w1 ⟨rfl, hb1⟩
      have c0 : w1.cell? ⟨w.heap.size, 0, none⟩ = some (.int .i64 l) := cellOn hb1 (by simp)
      have c1 : w1.cell? ⟨w.heap.size, 1, none⟩ = some (.int .i64 h) := cellOn hb1 (by simp)
      go_wp2_with fail
      refine (has_c _ _ _ _).mono ?_
      rintro e w2 ⟨rfl, hb2⟩
      have d1 : w2.cell? ⟨w.heap.size, 1, none⟩ = some (.int .i64 h) := cellOn hb2 c1
      go_wp2_with fail
      refine (has_c _ _ _ _).mono ?_
      rintro e w3 ⟨rfl, hb3⟩
      go_wp2_with fail
      go_ret
      exact ⟨by rw [bOk_out2 h2]; rfl, nbTrans (nbTrans (nbTrans (nbAlloc (Below.refl _ _) _) hb1) hb2) hb3⟩
    · go_enter Try.func24, Try.ntmps24
      go_wp2_with fail
      refine (wholeWay_c _).mono ?_
      rintro e w1 ⟨rfl, hb1⟩
      have c0 : w1.cell? ⟨w.heap.size, 0, none⟩ = some (.int .i64 l) := cellOn hb1 (by simp)
      have c1 : w1.cell? ⟨w.heap.size, 1, none⟩ = some (.int .i64 h) := cellOn hb1 (by simp)
      go_wp2_with fail
      refine (has_c _ _ _ _).mono ?_
      rintro e w2 ⟨rfl, hb2⟩
      have d0 : w2.cell? ⟨w.heap.size, 0, none⟩ = some (.int .i64 l) := cellOn hb2 c0
      have d1 : w2.cell? ⟨w.heap.size, 1, none⟩ = some (.int .i64 h) := cellOn hb2 c1
      go_wp2_with fail
      refine (has_c _ _ _ _).mono ?_
      rintro e w3 ⟨rfl, hb3⟩
      have e0 : w3.cell? ⟨w.heap.size, 0, none⟩ = some (.int .i64 l) := cellOn hb3 d0
      have e1 : w3.cell? ⟨w.heap.size, 1, none⟩ = some (.int .i64 h) := cellOn hb3 d1
      go_wp2_with fail
      go_ret
      exact ⟨by rw [bOk_both h1 h2]; rfl, nbTrans (nbTrans (nbTrans (nbAlloc (Below.refl _ _) _) hb1) hb2) hb3⟩

set_option maxHeartbeats 400000 in
theorem toRules_c (s j m g o : Int) (w : World) :
    Calls Try.prog 26 #[.agg #[.int .i64 s, .int .i64 j, .int .i64 m, .int .i64 g, .int .i64 o]] w fun e w' => e = .returned (.agg #[.int .i64 s, .int .i64 j, .int .i64 m, .int .i64 g, .int .i64 o]) ∧ Below w.heap.size w w' := by
  go_enter Try.func26, Try.ntmps26
  go_wp2
  exact bodyPost_ret (v := .agg #[.int .i64 s, .int .i64 j, .int .i64 m, .int .i64 g, .int .i64 o]) (by simp [results, Try.results26, go_sem]) rfl ⟨rfl, nbAlloc (nbAlloc (nbAlloc (Below.refl _ _) _) _) _⟩

end Go.Proofs.Ytmhppadblddjoaa
