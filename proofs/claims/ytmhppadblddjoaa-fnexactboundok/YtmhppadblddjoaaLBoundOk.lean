import Derived.Test.YtmhppadblddjoaaW2
namespace Go.Proofs.Ytmhppadblddjoaa
open Go.RowKit

set_option maxHeartbeats 1000000 in
theorem lawBoundOk_c (l h : Int) (w : World) :
    Calls Try.prog 7 #[.agg #[.int .i64 l, .int .i64 h]] w fun e w' => e = .returned (.bool true) ∧ Below w.heap.size w w' := by
  go_enter Try.func7, Try.ntmps7
  go_wp2_with fail
  refine (toBound_c _ _ _).mono ?_
  rintro e w1 ⟨rfl, hb1⟩
  have c0 : w1.cell? ⟨w.heap.size, 0, none⟩ = some (.int .i64 l) := cellOn hb1 (by simp)
  have c1 : w1.cell? ⟨w.heap.size, 1, none⟩ = some (.int .i64 h) := cellOn hb1 (by simp)
  go_wp2_with fail
  refine (specBoundOk_c _ _ _).mono ?_
  rintro e w2 ⟨rfl, hb2⟩
  have d0 : w2.cell? ⟨w.heap.size, 0, none⟩ = some (.int .i64 l) := cellOn hb2 c0
  have d1 : w2.cell? ⟨w.heap.size, 1, none⟩ = some (.int .i64 h) := cellOn hb2 c1
  go_wp2_with fail
  refine (toBound_c _ _ _).mono ?_
  rintro e w3 ⟨rfl, hb3⟩
  go_wp2_with fail
  refine (implBoundOk_c _ _ _).mono ?_
  rintro e w4 ⟨rfl, hb4⟩
  go_wp2_with fail
  go_ret
  exact ⟨rfl, nbTrans (nbTrans (nbTrans (nbTrans (nbAlloc (Below.refl _ _) _) hb1) hb2) hb3) hb4⟩

end Go.Proofs.Ytmhppadblddjoaa
