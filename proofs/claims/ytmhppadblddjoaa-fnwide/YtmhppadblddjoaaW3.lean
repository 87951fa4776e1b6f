import Derived.Test.YtmhppadblddjoaaW2r
import Derived.Test.YtmhppadblddjoaaPlain
namespace Go.Proofs.Ytmhppadblddjoaa
open Go.RowKit

theorem lst_pos {s j c : Int} (h : 0 ≤ c - j) : (1000 * (c - j) + (1000 + s) - 1) / (1000 + s) = lst s j c := by
  unfold lst; rw [Int.max_eq_left h]
theorem lst_neg {s j c : Int} (h : c - j < 0) : (1000 + s - 1) / (1000 + s) = lst s j c := by
  unfold lst; rw [Int.max_eq_right (by omega)]; congr 1; omega

theorem prodB {s f : Int} (hs0 : 0 ≤ s) (hs : s ≤ 500) (hf0 : 0 ≤ f) (hf : f ≤ 202001) : 0 ≤ s * f ∧ s * f ≤ 101000500 := by
  refine ⟨Int.mul_nonneg hs0 hf0, ?_⟩
  have := Int.mul_le_mul hs hf hf0 (by omega : (0 : Int) ≤ 500)
  omega

set_option maxHeartbeats 400000 in
theorem fair_lo (s j m g o f c : Int) (w : World) (hs0 : 0 ≤ s) (hs : s ≤ 500) (hj0 : 0 ≤ j) (hj : j ≤ 1000) (hf0 : 0 ≤ f) (hfc : f < c) (hc : c ≤ 100000) :
    Calls Try.prog 77 #[.agg #[.int .i64 s, .int .i64 j, .int .i64 m, .int .i64 g, .int .i64 o], .int .i64 f, .int .i64 c] w fun e w' => e = .returned (.bool (decide (lst s j c ≤ f))) ∧ Below w.heap.size w w' := by
  have hp := prodB hs0 hs hf0 (by omega)
  have hi := lst_iff (j := j) (c := c) hs0 hf0
  have HI : Hid (decide (lst s j c ≤ f) = decide (1000 * -(f - c) ≤ s * f + 1000 * j)) := by unfold Hid; rw [Bool.eq_iff_iff]; simp only [decide_eq_true_eq, hi]; omega
  clear hi
  obtain ⟨hp0, hp1⟩ := hp
  go_enter Try.func77, Try.ntmps77
  go_wp2
  go_ret
  exact ⟨retB (by rw [HI.out]), nbAlloc (Below.refl _ _) _⟩

set_option maxHeartbeats 400000 in
theorem fair_hi (s j m g o f c : Int) (w : World) (hs0 : 0 ≤ s) (hs : s ≤ 500) (hj0 : 0 ≤ j) (hj : j ≤ 1000) (hc0 : 0 ≤ c) (hfc : c ≤ f) (hf : f ≤ 202001) :
    Calls Try.prog 77 #[.agg #[.int .i64 s, .int .i64 j, .int .i64 m, .int .i64 g, .int .i64 o], .int .i64 f, .int .i64 c] w fun e w' => e = .returned (.bool (decide (f ≤ mst s j c))) ∧ Below w.heap.size w w' := by
  have hp := prodB hs0 hs (by omega : 0 ≤ f) hf
  have hi := mst_iff (j := j) (c := c) (f := f) hs
  have HI : Hid (decide (f ≤ mst s j c) = decide (1000 * (f - c) ≤ s * f + 1000 * j)) := by unfold Hid; rw [Bool.eq_iff_iff]; simp only [decide_eq_true_eq, hi]
  clear hi
  obtain ⟨hp0, hp1⟩ := hp
  go_enter Try.func77, Try.ntmps77
  go_wp2
  go_ret
  exact ⟨retB (by rw [HI.out]), nbAlloc (Below.refl _ _) _⟩

set_option maxHeartbeats 400000 in
theorem leastCome_c (s j m g o c : Int) (w : World) (hs0 : 0 ≤ s) (hs : s ≤ 500) (hj0 : 0 ≤ j) (hj : j ≤ 1000) (hc0 : 0 ≤ c) (hc : c ≤ 100000) :
    Calls Try.prog 51 #[.agg #[.int .i64 s, .int .i64 j, .int .i64 m, .int .i64 g, .int .i64 o], .int .i64 c] w fun e w' => e = .returned (.int .i64 (lst s j c)) ∧ Below w.heap.size w w' := by
  by_cases h1 : c - j < 0
  · have HL := lst_neg (s := s) h1
    have H2 : Hid (lst s j c = (1000 + s - 1) / (1000 + s)) := HL.symm
    clear HL
    go_enter Try.func51, Try.ntmps51
    go_wp2
    go_ret
    exact ⟨retI (by rw [H2.out]), nbAlloc (Below.refl _ _) _⟩
  · have h2 : 0 ≤ c - j := by omega
    have HL := lst_pos (s := s) h2
    have H2 : Hid (lst s j c = (1000 * (c - j) + (1000 + s) - 1) / (1000 + s)) := HL.symm
    clear HL
    go_enter Try.func51, Try.ntmps51
    go_wp2
    go_ret
    exact ⟨retI (by rw [H2.out]), nbAlloc (Below.refl _ _) _⟩

set_option maxHeartbeats 400000 in
theorem mostCome_c (s j m g o c : Int) (w : World) (hs0 : 0 ≤ s) (hs : s ≤ 500) (hj0 : 0 ≤ j) (hj : j ≤ 1000) (hc0 : 0 ≤ c) (hc : c ≤ 100000) :
    Calls Try.prog 52 #[.agg #[.int .i64 s, .int .i64 j, .int .i64 m, .int .i64 g, .int .i64 o], .int .i64 c] w fun e w' => e = .returned (.int .i64 (mst s j c)) ∧ Below w.heap.size w w' := by
  go_enter Try.func52, Try.ntmps52
  go_wp2
  go_ret
  exact ⟨rfl, nbAlloc (Below.refl _ _) _⟩

set_option maxHeartbeats 400000 in
theorem nearest_c (a b x : Int) (w : World) (hab : a ≤ b) :
    Calls Try.prog 50 #[.agg #[.int .i64 a, .int .i64 b], .int .i64 x] w fun e w' => e = .returned (.int .i64 (min (max x a) b)) ∧ Below w.heap.size w w' := by
  by_cases h1 : x < a
  · have H2 : Hid (min (max x a) b = a) := by unfold Hid; omega
    by_cases h2 : b < a
    · omega
    · go_enter Try.func50, Try.ntmps50
      go_wp2
      go_ret
      exact ⟨retI (by rw [H2.out]), nbAlloc (Below.refl _ _) _⟩
  · by_cases h2 : b < x
    · have H2 : Hid (min (max x a) b = b) := by unfold Hid; omega
      go_enter Try.func50, Try.ntmps50
      go_wp2
      go_ret
      exact ⟨retI (by rw [H2.out]), nbAlloc (Below.refl _ _) _⟩
    · have H2 : Hid (min (max x a) b = x) := by unfold Hid; omega
      go_enter Try.func50, Try.ntmps50
      go_wp2
      go_ret
      exact ⟨retI (by rw [H2.out]), nbAlloc (Below.refl _ _) _⟩

set_option maxHeartbeats 1000000 in
theorem l1least_c (s j m g o c : Int) (w : World) (hs0 : 0 ≤ s) (hs : s ≤ 500) (hj0 : 0 ≤ j) (hj : j ≤ 1000) (hc0 : 0 ≤ c) (hc : c ≤ 100000) :
    Calls Try.prog 55 #[.agg #[.int .i64 s, .int .i64 j, .int .i64 m, .int .i64 g, .int .i64 o], .int .i64 c] w fun e w' => e = .returned (.int .i64 (lst s j c)) ∧ Below w.heap.size w w' := by
  have hl0 := lst_nonneg (j := j) (c := c) hs0
  have hlc := lst_le hs0 hj0 hc0
  go_enter Try.func55, Try.ntmps55
  go_wp2
  go_loopw [5, 6] (fun b f w' => ∃ k : Int, f = .int .i64 k ∧ lst s j c - 1 ≤ k ∧ k ≤ c ∧ b = .int .i64 (min (k + 1) c) ∧ w'.cell? ⟨w.heap.size, 0, none⟩ = some (.int .i64 s) ∧ w'.cell? ⟨w.heap.size, 1, none⟩ = some (.int .i64 j) ∧ w'.cell? ⟨w.heap.size, 2, none⟩ = some (.int .i64 m) ∧ w'.cell? ⟨w.heap.size, 3, none⟩ = some (.int .i64 g) ∧ w'.cell? ⟨w.heap.size, 4, none⟩ = some (.int .i64 o) ∧ Below w.heap.size w w') (fun _ f _ => (intOf f + 1).toNat)
  case atStart => exact ⟨c, rfl, by omega, by omega, by rw [Int.min_eq_right (by omega)], by simp, by simp, by simp, by simp, by simp, nbAlloc (Below.refl _ _) _⟩
  case round =>
    obtain ⟨k, rfl, hk1, hk2, rfl, c0, c1, c2, c3, c4, hB⟩ := hrel
    by_cases hk0 : 0 ≤ k
    · by_cases hkl : lst s j c ≤ k
      · have hm : Hid (min (k - 1 + 1) c = k) := by unfold Hid; omega
        by_cases hkc : k < c
        · go_wp2_with fail
          refine (fair_lo _ _ _ _ _ _ _ _ hs0 hs hj0 hj hk0 hkc hc).mono ?_
          rintro e w1 ⟨rfl, hb1⟩
          rw [decide_eq_true hkl]
          have d0 := cellOn hb1 c0
          have d1 := cellOn hb1 c1
          have d2 := cellOn hb1 c2
          have d3 := cellOn hb1 c3
          have d4 := cellOn hb1 c4
          go_wp2_with fail
          go_roundw
          case rel => exact ⟨k - 1, rfl, by omega, by omega, by rw [hm.out], d0, d1, d2, d3, d4, nbTrans hB hb1⟩
          case measure => simp [intOf]; omega
        · obtain rfl : k = c := by omega
          have hmc := mst_ge hs0 hs hj0 hc0
          go_wp2_with fail
          refine (fair_hi _ _ _ _ _ _ _ _ hs0 hs hj0 hj hc0 (Int.le_refl _) (by omega)).mono ?_
          rintro e w1 ⟨rfl, hb1⟩
          rw [decide_eq_true hmc]
          have d0 := cellOn hb1 c0
          have d1 := cellOn hb1 c1
          have d2 := cellOn hb1 c2
          have d3 := cellOn hb1 c3
          have d4 := cellOn hb1 c4
          go_wp2_with fail
          go_roundw
          case rel => exact ⟨k - 1, rfl, by omega, by omega, by rw [hm.out], d0, d1, d2, d3, d4, nbTrans hB hb1⟩
          case measure => simp [intOf]; omega
      · have hm : Hid (min (k + 1) c = lst s j c) := by unfold Hid; omega
        go_wp2_with fail
        refine (fair_lo _ _ _ _ _ _ _ _ hs0 hs hj0 hj hk0 (by omega) hc).mono ?_
        rintro e w1 ⟨rfl, hb1⟩
        rw [decide_eq_false (by omega)]
        go_wp2_with fail
        go_ret
        exact ⟨retI hm.out, nbTrans hB hb1⟩
    · have hm : Hid (min (k + 1) c = lst s j c) := by unfold Hid; omega
      go_wp2_with fail
      go_ret
      exact ⟨retI hm.out, hB⟩

set_option maxHeartbeats 1000000 in
theorem l1most_c (s j m g o c : Int) (w : World) (hs0 : 0 ≤ s) (hs : s ≤ 500) (hj0 : 0 ≤ j) (hj : j ≤ 1000) (hc0 : 0 ≤ c) (hc : c ≤ 100000) :
    Calls Try.prog 56 #[.agg #[.int .i64 s, .int .i64 j, .int .i64 m, .int .i64 g, .int .i64 o], .int .i64 c] w fun e w' => e = .returned (.int .i64 (mst s j c)) ∧ Below w.heap.size w w' := by
  have hmc := mst_ge hs0 hs hj0 hc0
  have hmb := mst_le hs0 hs hj hc
  go_enter Try.func56, Try.ntmps56
  go_wp2
  go_loopw [5, 6] (fun b f w' => ∃ k : Int, f = .int .i64 k ∧ c ≤ k ∧ k ≤ mst s j c + 1 ∧ b = .int .i64 (max (k - 1) c) ∧ w'.cell? ⟨w.heap.size, 0, none⟩ = some (.int .i64 s) ∧ w'.cell? ⟨w.heap.size, 1, none⟩ = some (.int .i64 j) ∧ w'.cell? ⟨w.heap.size, 2, none⟩ = some (.int .i64 m) ∧ w'.cell? ⟨w.heap.size, 3, none⟩ = some (.int .i64 g) ∧ w'.cell? ⟨w.heap.size, 4, none⟩ = some (.int .i64 o) ∧ Below w.heap.size w w') (fun _ f _ => (mst s j c + 1 - intOf f).toNat)
  case atStart => exact ⟨c, rfl, by omega, by omega, by rw [Int.max_eq_right (by omega)], by simp, by simp, by simp, by simp, by simp, nbAlloc (Below.refl _ _) _⟩
  case round =>
    obtain ⟨k, rfl, hk1, hk2, rfl, c0, c1, c2, c3, c4, hB⟩ := hrel
    by_cases hkl : k ≤ mst s j c
    · have hm : Hid (max (k + 1 - 1) c = k) := by unfold Hid; omega
      go_wp2_with fail
      refine (fair_hi _ _ _ _ _ _ _ _ hs0 hs hj0 hj hc0 hk1 (by omega)).mono ?_
      rintro e w1 ⟨rfl, hb1⟩
      rw [decide_eq_true hkl]
      have d0 := cellOn hb1 c0
      have d1 := cellOn hb1 c1
      have d2 := cellOn hb1 c2
      have d3 := cellOn hb1 c3
      have d4 := cellOn hb1 c4
      go_wp2_with fail
      go_roundw
      case rel => exact ⟨k + 1, rfl, by omega, by omega, by rw [hm.out], d0, d1, d2, d3, d4, nbTrans hB hb1⟩
      case measure => simp [intOf]; omega
    · have hm : Hid (max (k - 1) c = mst s j c) := by unfold Hid; omega
      go_wp2_with fail
      refine (fair_hi _ _ _ _ _ _ _ _ hs0 hs hj0 hj hc0 hk1 (by omega)).mono ?_
      rintro e w1 ⟨rfl, hb1⟩
      rw [decide_eq_false (by omega)]
      go_wp2_with fail
      go_ret
      exact ⟨retI hm.out, nbTrans hB hb1⟩

end Go.Proofs.Ytmhppadblddjoaa
