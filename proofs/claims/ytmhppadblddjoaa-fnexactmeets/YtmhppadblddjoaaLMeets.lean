import Derived.Test.YtmhppadblddjoaaW1
namespace Go.Proofs.Ytmhppadblddjoaa
open Go.RowKit

set_option maxHeartbeats 1000000 in
theorem lawMeets_c (al ah bl bh : Int) (w : World) :
    Calls Try.prog 11 #[.agg #[.int .i64 al, .int .i64 ah], .agg #[.int .i64 bl, .int .i64 bh]] w fun e w' => e = .returned (.bool true) ∧ Below w.heap.size w w' := by
  go_enter Try.func11, Try.ntmps11
  go_wp2
  go_region_held3 (fun w' => w'.cell? ⟨w.heap.size, 0, none⟩ = some (.int .i64 al) ∧ w'.cell? ⟨w.heap.size, 1, none⟩ = some (.int .i64 ah) ∧ w'.cell? ⟨w.heap.size + 1, 0, none⟩ = some (.int .i64 bl) ∧ w'.cell? ⟨w.heap.size + 1, 1, none⟩ = some (.int .i64 bh) ∧ Below w.heap.size w w')
    (((try go_split_ands); refine ⟨?_, ?_, ?_, ?_, ?_⟩ <;> first | (simp [*]; done) | exact cellOn (by assumption) (by simp [*]; done) | exact nbTrans (by assumption) (by assumption) | exact Below.drew (nbAlloc (nbAlloc (Below.refl _ _) _) _)))
    (first | (go_at_call 23; refine (toBound_c _ _ _).mono ?_; rintro e w' ⟨rfl, hb⟩) | (go_at_call 31; refine (specMeets_c _ _ _ _ _).mono ?_; rintro e w' ⟨rfl, hb⟩))
  go_wp2
  go_split_ands
  go_region_held3 (fun w' => w'.cell? ⟨w.heap.size, 0, none⟩ = some (.int .i64 al) ∧ w'.cell? ⟨w.heap.size, 1, none⟩ = some (.int .i64 ah) ∧ w'.cell? ⟨w.heap.size + 1, 0, none⟩ = some (.int .i64 bl) ∧ w'.cell? ⟨w.heap.size + 1, 1, none⟩ = some (.int .i64 bh) ∧ Below w.heap.size w w')
    (((try go_split_ands); refine ⟨?_, ?_, ?_, ?_, ?_⟩ <;> first | (simp [*]; done) | exact cellOn (by assumption) (by simp [*]; done) | exact nbTrans (by assumption) (by assumption) | exact Below.drew (by assumption)))
    (first | (go_at_call 23; refine (toBound_c _ _ _).mono ?_; rintro e w' ⟨rfl, hb⟩) | (go_at_call 32; refine (implMeets_c _ _ _ _ _).mono ?_; rintro e w' ⟨rfl, hb⟩))
  go_wp2
  go_ret
  go_split_ands
  exact ⟨rfl, by assumption⟩

end Go.Proofs.Ytmhppadblddjoaa
