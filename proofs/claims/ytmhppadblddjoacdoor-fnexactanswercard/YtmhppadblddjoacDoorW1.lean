import Derived.Test.YtmhppadblddjoacDoorDrawn
namespace Go.Proofs.YtmhppadblddjoacDoor
open Go.RowKit

def mB (al ah bl bh : Int) : Bool := decide (al ≤ bh) && decide (bl ≤ ah)

set_option maxHeartbeats 400000 in
theorem toBound_c (l h : Int) (w : World) :
    Calls Tryd.prog 27 #[.agg #[.int .i64 l, .int .i64 h]] w fun e w' => e = .returned (.agg #[.int .i64 l, .int .i64 h]) ∧ Below w.heap.size w w' := by
  go_enter Tryd.func27, Tryd.ntmps27
  go_wp2
  exact bodyPost_ret (v := .agg #[.int .i64 l, .int .i64 h]) (by simp [results, Tryd.results27, go_sem]) rfl ⟨rfl, nbAlloc (nbAlloc (nbAlloc (Below.refl _ _) _) _) _⟩

set_option maxHeartbeats 400000 in
theorem specMeets_c (al ah bl bh : Int) (w : World) :
    Calls Tryd.prog 85 #[.agg #[.int .i64 al, .int .i64 ah], .agg #[.int .i64 bl, .int .i64 bh]] w fun e w' => e = .returned (.bool (mB al ah bl bh)) ∧ Below w.heap.size w w' := by
  by_cases h1 : al ≤ bh
  · by_cases h2 : bl ≤ ah
    all_goals
      go_enter Tryd.func85, Tryd.ntmps85
      go_wp2
      go_ret
      exact ⟨by simp [mB, h1, h2], nbAlloc (nbAlloc (Below.refl _ _) _) _⟩
  · go_enter Tryd.func85, Tryd.ntmps85
    go_wp2
    go_ret
    exact ⟨by simp [mB]; omega, nbAlloc (nbAlloc (Below.refl _ _) _) _⟩

set_option maxHeartbeats 400000 in
theorem ivMeets_c (al ah bl bh : Int) (w : World) :
    Calls Tryd.prog 106 #[.agg #[.int .i64 al, .int .i64 ah], .agg #[.int .i64 bl, .int .i64 bh]] w fun e w' => e = .returned (.bool (mB al ah bl bh)) ∧ Below w.heap.size w w' := by
  by_cases h1 : al ≤ bh
  · by_cases h2 : bl ≤ ah
    all_goals
      go_enter Tryd.func106, Tryd.ntmps106
      go_wp2
      go_ret
      exact ⟨by simp [mB, h1, h2], nbAlloc (nbAlloc (Below.refl _ _) _) _⟩
  · go_enter Tryd.func106, Tryd.ntmps106
    go_wp2
    go_ret
    exact ⟨by simp [mB]; omega, nbAlloc (nbAlloc (Below.refl _ _) _) _⟩

set_option maxHeartbeats 400000 in
theorem intervalOf_c (l h : Int) (w : World) :
    Calls Tryd.prog 60 #[.agg #[.int .i64 l, .int .i64 h]] w fun e w' => e = .returned (.agg #[.int .i64 l, .int .i64 h]) ∧ Below w.heap.size w w' := by
  go_enter Tryd.func60, Tryd.ntmps60
  go_wp2
  exact bodyPost_ret (v := .agg #[.int .i64 l, .int .i64 h]) (by simp [results, Tryd.results60, go_sem]) rfl ⟨rfl, nbAlloc (nbAlloc (Below.refl _ _) _) _⟩

set_option maxHeartbeats 400000 in
theorem implMeets_c (al ah bl bh : Int) (w : World) :
    Calls Tryd.prog 101 #[.agg #[.int .i64 al, .int .i64 ah], .agg #[.int .i64 bl, .int .i64 bh]] w fun e w' => e = .returned (.bool (mB al ah bl bh)) ∧ Below w.heap.size w w' := by
  go_enter Tryd.func101, Tryd.ntmps101
  go_wp2
  go_region_held3 (fun w' => w'.cell? ⟨w.heap.size, 0, none⟩ = some (.int .i64 al) ∧ w'.cell? ⟨w.heap.size, 1, none⟩ = some (.int .i64 ah) ∧ w'.cell? ⟨w.heap.size + 1, 0, none⟩ = some (.int .i64 bl) ∧ w'.cell? ⟨w.heap.size + 1, 1, none⟩ = some (.int .i64 bh) ∧ Below w.heap.size w w')
    (((try go_split_ands); refine ⟨?_, ?_, ?_, ?_, ?_⟩ <;> first | (simp [*]; done) | exact cellOn (by assumption) (by simp [*]; done) | exact nbTrans (by assumption) (by assumption) | exact Below.drew (nbAlloc (nbAlloc (Below.refl _ _) _) _)))
    (first | (go_at_call 60; refine (intervalOf_c _ _ _).mono ?_; rintro e w' ⟨rfl, hb⟩) | (go_at_call 106; refine (ivMeets_c _ _ _ _ _).mono ?_; rintro e w' ⟨rfl, hb⟩))
  go_wp2
  go_ret
  go_split_ands
  exact ⟨rfl, by assumption⟩

end Go.Proofs.YtmhppadblddjoacDoor
