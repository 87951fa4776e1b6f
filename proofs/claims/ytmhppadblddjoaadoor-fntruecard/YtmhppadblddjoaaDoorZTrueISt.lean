import Derived.Test.YtmhppadblddjoaaDoorZTrueIMap
import Derived.Test.YtmhppadblddjoaaDoorZTrueMkOk
import Derived.Test.YtmhppadblddjoaaDoorZTrueW7
/- The program's belief, and its StateOk. -/
namespace Go.Proofs.YtmhppadblddjoaaDoor
open Go.RowKit

/-- A state as the program holds it. -/
def St.b (t : St) : Value := .agg #[.int .i64 t.l, .int .i64 t.h, .bool t.kn, .int .i64 t.si, .int .i64 t.la, .int .i64 t.od]

set_option maxHeartbeats 400000 in
theorem stateOf_c (t : St) (w : World) :
    Calls Tryd.prog 40 #[t.b] w fun e w' => e = .returned t.v ∧ Below w.heap.size w w' := by
  obtain ⟨kn, l, h, si, la, od⟩ := t
  simp only [St.v, St.b]
  go_enter Tryd.func40, Tryd.ntmps40
  go_wp2
  exact bodyPost_ret (v := .agg #[.bool kn, .int .i64 l, .int .i64 h, .int .i64 si, .int .i64 la, .int .i64 od]) (by simp [results, Tryd.results40, go_sem]) rfl ⟨rfl, nbAlloc (nbAlloc (Below.refl _ _) _) _⟩

set_option maxHeartbeats 400000 in
theorem lost_c (t : St) (w : World) :
    Calls Tryd.prog 82 #[t.b] w fun e w' => e = .returned (St.b ⟨false, 0, 0, 0, -1, t.od⟩) ∧ Below w.heap.size w w' := by
  obtain ⟨kn, l, h, si, la, od⟩ := t
  simp only [St.b]
  go_enter Tryd.func82, Tryd.ntmps82
  go_wp2
  exact bodyPost_ret (v := .agg #[.int .i64 0, .int .i64 0, .bool false, .int .i64 0, .int .i64 (-1), .int .i64 od]) (by simp [results, Tryd.results82, go_sem]) rfl ⟨rfl, nbAlloc (nbAlloc (Below.refl _ _) _) _⟩

set_option maxHeartbeats 400000 in
theorem firstBelief_c (l h : Int) (w : World) :
    Calls Tryd.prog 37 #[.agg #[.int .i64 l, .int .i64 h]] w fun e w' => e = .returned (St.b ⟨true, l, h, 0, -1, 0⟩) ∧ Below w.heap.size w w' := by
  simp only [St.b]
  go_enter Tryd.func37, Tryd.ntmps37
  go_wp2
  exact bodyPost_ret (v := .agg #[.int .i64 l, .int .i64 h, .bool true, .int .i64 0, .int .i64 (-1), .int .i64 0]) (by simp [results, Tryd.results37, go_sem]) rfl ⟨rfl, nbAlloc (nbAlloc (Below.refl _ _) _) _⟩

end Go.Proofs.YtmhppadblddjoaaDoor

