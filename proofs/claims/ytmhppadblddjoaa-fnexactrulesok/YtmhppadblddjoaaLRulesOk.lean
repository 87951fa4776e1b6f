import Derived.Test.YtmhppadblddjoaaW2r
namespace Go.Proofs.Ytmhppadblddjoaa
open Go.RowKit

set_option maxHeartbeats 1000000 in
theorem lawRulesOk_c (s j m g o : Int) (w : World) :
    Calls Try.prog 8 #[.agg #[.int .i64 s, .int .i64 j, .int .i64 m, .int .i64 g, .int .i64 o]] w fun e w' => e = .returned (.bool true) ∧ Below w.heap.size w w' := by
  go_enter Try.func8, Try.ntmps8
  go_wp2_with fail
  refine (toRules_c _ _ _ _ _ _).mono ?_
  rintro e w1 ⟨rfl, hb1⟩
  have c0 : w1.cell? ⟨w.heap.size, 0, none⟩ = some (.int .i64 s) := cellOn hb1 (by simp)
  have c1 : w1.cell? ⟨w.heap.size, 1, none⟩ = some (.int .i64 j) := cellOn hb1 (by simp)
  have c2 : w1.cell? ⟨w.heap.size, 2, none⟩ = some (.int .i64 m) := cellOn hb1 (by simp)
  have c3 : w1.cell? ⟨w.heap.size, 3, none⟩ = some (.int .i64 g) := cellOn hb1 (by simp)
  have c4 : w1.cell? ⟨w.heap.size, 4, none⟩ = some (.int .i64 o) := cellOn hb1 (by simp)
  go_wp2_with fail
  refine (specRulesOk_c _ _ _ _ _ _).mono ?_
  rintro e w2 ⟨rfl, hb2⟩
  have d0 := cellOn hb2 c0
  have d1 := cellOn hb2 c1
  have d2 := cellOn hb2 c2
  have d3 := cellOn hb2 c3
  have d4 := cellOn hb2 c4
  go_wp2_with fail
  refine (toRules_c _ _ _ _ _ _).mono ?_
  rintro e w3 ⟨rfl, hb3⟩
  go_wp2_with fail
  refine (implRulesOk_c _ _ _ _ _ _).mono ?_
  rintro e w4 ⟨rfl, hb4⟩
  go_wp2_with fail
  go_ret
  exact ⟨rfl, nbTrans (nbTrans (nbTrans (nbTrans (nbAlloc (Below.refl _ _) _) hb1) hb2) hb3) hb4⟩

end Go.Proofs.Ytmhppadblddjoaa
