import Derived.Test.YtmhppadblddjoabDrawn
namespace Go.Proofs.Ytmhppadblddjoab
open Go.RowKit

def mB (al ah bl bh : Int) : Bool := decide (al ≤ bh) && decide (bl ≤ ah)

set_option maxHeartbeats 400000 in
theorem toBound_c (l h : Int) (w : World) :
    Calls Try.prog 16 #[.agg #[.int .i64 l, .int .i64 h]] w fun e w' => e = .returned (.agg #[.int .i64 l, .int .i64 h]) ∧ Below w.heap.size w w' := by
  go_enter Try.func16, Try.ntmps16
  go_wp2
  exact bodyPost_ret (v := .agg #[.int .i64 l, .int .i64 h]) (by simp [results, Try.results16, go_sem]) rfl ⟨rfl, nbAlloc (nbAlloc (nbAlloc (Below.refl _ _) _) _) _⟩

set_option maxHeartbeats 400000 in
theorem specMeets_c (al ah bl bh : Int) (w : World) :
    Calls Try.prog 56 #[.agg #[.int .i64 al, .int .i64 ah], .agg #[.int .i64 bl, .int .i64 bh]] w fun e w' => e = .returned (.bool (mB al ah bl bh)) ∧ Below w.heap.size w w' := by
  by_cases h1 : al ≤ bh
  · by_cases h2 : bl ≤ ah
    all_goals
      go_enter Try.func56, Try.ntmps56
      go_wp2
      go_ret
      exact ⟨by simp [mB, h1, h2], nbAlloc (nbAlloc (Below.refl _ _) _) _⟩
  · go_enter Try.func56, Try.ntmps56
    go_wp2
    go_ret
    exact ⟨by simp [mB]; omega, nbAlloc (nbAlloc (Below.refl _ _) _) _⟩

set_option maxHeartbeats 400000 in
theorem ivMeets_c (al ah bl bh : Int) (w : World) :
    Calls Try.prog 94 #[.agg #[.int .i64 al, .int .i64 ah], .agg #[.int .i64 bl, .int .i64 bh]] w fun e w' => e = .returned (.bool (mB al ah bl bh)) ∧ Below w.heap.size w w' := by
  by_cases h1 : al ≤ bh
  · by_cases h2 : bl ≤ ah
    all_goals
      go_enter Try.func94, Try.ntmps94
      go_wp2
      go_ret
      exact ⟨by simp [mB, h1, h2], nbAlloc (nbAlloc (Below.refl _ _) _) _⟩
  · go_enter Try.func94, Try.ntmps94
    go_wp2
    go_ret
    exact ⟨by simp [mB]; omega, nbAlloc (nbAlloc (Below.refl _ _) _) _⟩

set_option maxHeartbeats 400000 in
theorem intervalOf_c (l h : Int) (w : World) :
    Calls Try.prog 59 #[.agg #[.int .i64 l, .int .i64 h]] w fun e w' => e = .returned (.agg #[.int .i64 l, .int .i64 h]) ∧ Below w.heap.size w w' := by
  go_enter Try.func59, Try.ntmps59
  go_wp2
  exact bodyPost_ret (v := .agg #[.int .i64 l, .int .i64 h]) (by simp [results, Try.results59, go_sem]) rfl ⟨rfl, nbAlloc (nbAlloc (Below.refl _ _) _) _⟩

set_option maxHeartbeats 400000 in
theorem implMeets_c (al ah bl bh : Int) (w : World) :
    Calls Try.prog 57 #[.agg #[.int .i64 al, .int .i64 ah], .agg #[.int .i64 bl, .int .i64 bh]] w fun e w' => e = .returned (.bool (mB al ah bl bh)) ∧ Below w.heap.size w w' := by
  go_enter Try.func57, Try.ntmps57
  go_wp2
  go_region_held3 (fun w' => w'.cell? ⟨w.heap.size, 0, none⟩ = some (.int .i64 al) ∧ w'.cell? ⟨w.heap.size, 1, none⟩ = some (.int .i64 ah) ∧ w'.cell? ⟨w.heap.size + 1, 0, none⟩ = some (.int .i64 bl) ∧ w'.cell? ⟨w.heap.size + 1, 1, none⟩ = some (.int .i64 bh) ∧ Below w.heap.size w w')
    (((try go_split_ands); refine ⟨?_, ?_, ?_, ?_, ?_⟩ <;> first | (simp [*]; done) | exact cellOn (by assumption) (by simp [*]; done) | exact nbTrans (by assumption) (by assumption) | exact Below.drew (nbAlloc (nbAlloc (Below.refl _ _) _) _)))
    (first | (go_at_call 59; refine (intervalOf_c _ _ _).mono ?_; rintro e w' ⟨rfl, hb⟩) | (go_at_call 94; refine (ivMeets_c _ _ _ _ _).mono ?_; rintro e w' ⟨rfl, hb⟩))
  go_wp2
  go_ret
  go_split_ands
  exact ⟨rfl, by assumption⟩

set_option maxHeartbeats 400000 in
theorem eqBound_c (l h : Int) (w : World) :
    Calls Try.prog 18 #[.agg #[.int .i64 l, .int .i64 h], .agg #[.int .i64 l, .int .i64 h]] w fun e w' => e = .returned (.bool true) ∧ Below w.heap.size w w' := by
  go_enter Try.func18, Try.ntmps18
  go_wp2
  go_ret
  exact ⟨rfl, nbAlloc (nbAlloc (Below.refl _ _) _) _⟩

end Go.Proofs.Ytmhppadblddjoab
