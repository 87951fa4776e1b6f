import Derived.Test.YtmhppadblddjoaaDrawn
namespace Go.Proofs.Ytmhppadblddjoaa
open Go.RowKit

def mB (al ah bl bh : Int) : Bool := decide (al ≤ bh) && decide (bl ≤ ah)

set_option maxHeartbeats 400000 in
theorem toBound_c (l h : Int) (w : World) :
    Calls Try.prog 23 #[.agg #[.int .i64 l, .int .i64 h]] w fun e w' => e = .returned (.agg #[.int .i64 l, .int .i64 h]) ∧ Below w.heap.size w w' := by
  go_enter Try.func23, Try.ntmps23
  go_wp2
  exact bodyPost_ret (v := .agg #[.int .i64 l, .int .i64 h]) (by simp [results, Try.results23, go_sem]) rfl ⟨rfl, nbAlloc (nbAlloc (nbAlloc (Below.refl _ _) _) _) _⟩

set_option maxHeartbeats 400000 in
theorem specMeets_c (al ah bl bh : Int) (w : World) :
    Calls Try.prog 31 #[.agg #[.int .i64 al, .int .i64 ah], .agg #[.int .i64 bl, .int .i64 bh]] w fun e w' => e = .returned (.bool (mB al ah bl bh)) ∧ Below w.heap.size w w' := by
  by_cases h1 : al ≤ bh
  · by_cases h2 : bl ≤ ah
    all_goals
      go_enter Try.func31, Try.ntmps31
      go_wp2
      go_ret
      exact ⟨by simp [mB, h1, h2], nbAlloc (nbAlloc (Below.refl _ _) _) _⟩
  · go_enter Try.func31, Try.ntmps31
    go_wp2
    go_ret
    exact ⟨by simp [mB]; omega, nbAlloc (nbAlloc (Below.refl _ _) _) _⟩

set_option maxHeartbeats 400000 in
theorem ivMeets_c (al ah bl bh : Int) (w : World) :
    Calls Try.prog 70 #[.agg #[.int .i64 al, .int .i64 ah], .agg #[.int .i64 bl, .int .i64 bh]] w fun e w' => e = .returned (.bool (mB al ah bl bh)) ∧ Below w.heap.size w w' := by
  by_cases h1 : al ≤ bh
  · by_cases h2 : bl ≤ ah
    all_goals
      go_enter Try.func70, Try.ntmps70
      go_wp2
      go_ret
      exact ⟨by simp [mB, h1, h2], nbAlloc (nbAlloc (Below.refl _ _) _) _⟩
  · go_enter Try.func70, Try.ntmps70
    go_wp2
    go_ret
    exact ⟨by simp [mB]; omega, nbAlloc (nbAlloc (Below.refl _ _) _) _⟩

set_option maxHeartbeats 400000 in
theorem intervalOf_c (l h : Int) (w : World) :
    Calls Try.prog 68 #[.agg #[.int .i64 l, .int .i64 h]] w fun e w' => e = .returned (.agg #[.int .i64 l, .int .i64 h]) ∧ Below w.heap.size w w' := by
  go_enter Try.func68, Try.ntmps68
  go_wp2
  exact bodyPost_ret (v := .agg #[.int .i64 l, .int .i64 h]) (by simp [results, Try.results68, go_sem]) rfl ⟨rfl, nbAlloc (nbAlloc (Below.refl _ _) _) _⟩

set_option maxHeartbeats 400000 in
theorem implMeets_c (al ah bl bh : Int) (w : World) :
    Calls Try.prog 32 #[.agg #[.int .i64 al, .int .i64 ah], .agg #[.int .i64 bl, .int .i64 bh]] w fun e w' => e = .returned (.bool (mB al ah bl bh)) ∧ Below w.heap.size w w' := by
  go_enter Try.func32, Try.ntmps32
  go_wp2
  go_region_held3 (fun w' => w'.cell? ⟨w.heap.size, 0, none⟩ = some (.int .i64 al) ∧ w'.cell? ⟨w.heap.size, 1, none⟩ = some (.int .i64 ah) ∧ w'.cell? ⟨w.heap.size + 1, 0, none⟩ = some (.int .i64 bl) ∧ w'.cell? ⟨w.heap.size + 1, 1, none⟩ = some (.int .i64 bh) ∧ Below w.heap.size w w')
    (((try go_split_ands); refine ⟨?_, ?_, ?_, ?_, ?_⟩ <;> first | (simp [*]; done) | exact cellOn (by assumption) (by simp [*]; done) | exact nbTrans (by assumption) (by assumption) | exact Below.drew (nbAlloc (nbAlloc (Below.refl _ _) _) _)))
    (first | (go_at_call 68; refine (intervalOf_c _ _ _).mono ?_; rintro e w' ⟨rfl, hb⟩) | (go_at_call 70; refine (ivMeets_c _ _ _ _ _).mono ?_; rintro e w' ⟨rfl, hb⟩))
  go_wp2
  go_ret
  go_split_ands
  exact ⟨rfl, by assumption⟩

set_option maxHeartbeats 400000 in
theorem eqBound_c (l h : Int) (w : World) :
    Calls Try.prog 28 #[.agg #[.int .i64 l, .int .i64 h], .agg #[.int .i64 l, .int .i64 h]] w fun e w' => e = .returned (.bool true) ∧ Below w.heap.size w w' := by
  go_enter Try.func28, Try.ntmps28
  go_wp2
  go_ret
  exact ⟨rfl, nbAlloc (nbAlloc (Below.refl _ _) _) _⟩

end Go.Proofs.Ytmhppadblddjoaa
