/- The program's events: the four types behind the interface, happeningOf, EventOk. -/
import Derived.Test.YtmhppadblddjoacDoorEv
namespace Go.Proofs.YtmhppadblddjoacDoor
open Go.RowKit

/-- An event as the program holds it. -/
def hapV (op n : Int) : Value :=
  if op == 1 then .iface 154 (.int .i64 n) else if op == 2 then .iface 156 (.int .i64 n) else if op == 3 then .iface 159 (.int .i64 n) else if op == 4 then .iface 157 (.int .i64 n) else .nilIface

set_option maxHeartbeats 400000 in
theorem rightWheels_c (n : Int) (w : World) :
    Calls Tryd.prog 145 #[.int .i64 n] w fun e w' => e = .returned (.bool (inB n 0 100000)) ∧ Below w.heap.size w w' := by
  go_enter Tryd.func145, Tryd.ntmps145
  go_wp2_with fail
  refine (upTo_c _ _).mono ?_
  rintro e w1 ⟨rfl, hb1⟩
  go_wp2_with fail
  refine (has_c _ _ _ _).mono ?_
  rintro e w2 ⟨rfl, hb2⟩
  go_wp2_with fail
  go_ret
  exact ⟨rfl, nbTrans hb1 hb2⟩

set_option maxHeartbeats 400000 in
theorem rightMark_c (n : Int) (w : World) :
    Calls Tryd.prog 146 #[.int .i64 n] w fun e w' => e = .returned (.bool (inB n 1 1000000000)) ∧ Below w.heap.size w w' := by
  go_enter Tryd.func146, Tryd.ntmps146
  go_wp2_with fail
  refine (has_c _ _ _ _).mono ?_
  rintro e w2 ⟨rfl, hb2⟩
  go_wp2_with fail
  go_ret
  exact ⟨rfl, hb2⟩

set_option maxHeartbeats 400000 in
theorem rightStands_c (n : Int) (w : World) :
    Calls Tryd.prog 148 #[.int .i64 n] w fun e w' => e = .returned (.bool (n == 0)) ∧ Below w.heap.size w w' := by
  go_enter Tryd.func148, Tryd.ntmps148
  go_wp2_with fail
  go_ret
  exact ⟨rfl, Below.refl _ _⟩

set_option maxHeartbeats 400000 in
theorem rightLost_c (n : Int) (w : World) :
    Calls Tryd.prog 147 #[.int .i64 n] w fun e w' => e = .returned (.bool (n == 0)) ∧ Below w.heap.size w w' := by
  go_enter Tryd.func147, Tryd.ntmps147
  go_wp2_with fail
  go_ret
  exact ⟨rfl, Below.refl _ _⟩

set_option maxHeartbeats 400000 in
theorem happeningOf_c (op n : Int) (w : World) :
    Calls Tryd.prog 69 #[.agg #[.int .i64 op, .int .i64 n]] w fun e w' => e = .returned (hapV op n) ∧ Below w.heap.size w w' := by
  cases h1 : (op == 1)
  case true =>
    go_enter Tryd.func69, Tryd.ntmps69
    go_wp2_with fail
    go_ret
    exact ⟨by simp [hapV, h1], nbAlloc (Below.refl _ _) _⟩
  cases h2 : (op == 2)
  case true =>
    go_enter Tryd.func69, Tryd.ntmps69
    go_wp2_with fail
    go_ret
    exact ⟨by simp [hapV, h1, h2], nbAlloc (Below.refl _ _) _⟩
  cases h3 : (op == 3)
  case true =>
    go_enter Tryd.func69, Tryd.ntmps69
    go_wp2_with fail
    go_ret
    exact ⟨by simp [hapV, h1, h2, h3], nbAlloc (Below.refl _ _) _⟩
  cases h4 : (op == 4)
  case true =>
    go_enter Tryd.func69, Tryd.ntmps69
    go_wp2_with fail
    go_ret
    exact ⟨by simp [hapV, h1, h2, h3, h4], nbAlloc (Below.refl _ _) _⟩
  go_enter Tryd.func69, Tryd.ntmps69
  go_wp2_with fail
  go_ret
  exact ⟨by simp [hapV, h1, h2, h3, h4], nbAlloc (Below.refl _ _) _⟩

theorem neqNil (t : TypeId) (v : Value) (w : World) : (binOp .neq 129 (.iface t v) .nilIface).run Tryd.prog w = .ok (.bool true) w := by kernel_rfl
theorem neqNil0 (w : World) : (binOp .neq 129 .nilIface .nilIface).run Tryd.prog w = .ok (.bool false) w := by kernel_rfl

theorem methodW (n : Int) (w : World) : (method 324 154 (.int .i64 n) "loop.example/milepost/impl.right").run Tryd.prog w = .ok (145, .int .i64 n) w := by kernel_rfl
theorem methodM (n : Int) (w : World) : (method 324 156 (.int .i64 n) "loop.example/milepost/impl.right").run Tryd.prog w = .ok (146, .int .i64 n) w := by kernel_rfl
theorem methodS (n : Int) (w : World) : (method 324 159 (.int .i64 n) "loop.example/milepost/impl.right").run Tryd.prog w = .ok (148, .int .i64 n) w := by kernel_rfl
theorem methodL (n : Int) (w : World) : (method 324 157 (.int .i64 n) "loop.example/milepost/impl.right").run Tryd.prog w = .ok (147, .int .i64 n) w := by kernel_rfl

set_option maxRecDepth 100000 in
set_option maxHeartbeats 400000 in
theorem implEventOk_c (op n : Int) (w : World) :
    Calls Tryd.prog 87 #[.agg #[.int .i64 op, .int .i64 n]] w fun e w' => e = .returned (.bool (evB op n)) ∧ Below w.heap.size w w' := by
  have hq := neqNil
  have hq0 := neqNil0
  cases h1 : (op == 1)
  case true =>
    have hv : hapV op n = .iface 154 (.int .i64 n) := by simp [hapV, h1]
    have hm := methodW
    go_enter Tryd.func87, Tryd.ntmps87
    go_wp2_with fail
    refine (happeningOf_c _ _ _).mono ?_
    rintro e w1 ⟨rfl, hb1⟩
    rw [hv]
    go_wp2_with fail
    refine (rightWheels_c _ _).mono ?_
    rintro e w2 ⟨rfl, hb2⟩
    go_wp2_with fail
    go_ret
    exact ⟨retB (by simp [evB, h1]), nbTrans (nbTrans (nbAlloc (Below.refl _ _) _) hb1) hb2⟩
  cases h2 : (op == 2)
  case true =>
    have hv : hapV op n = .iface 156 (.int .i64 n) := by simp [hapV, h1, h2]
    have hm := methodM
    go_enter Tryd.func87, Tryd.ntmps87
    go_wp2_with fail
    refine (happeningOf_c _ _ _).mono ?_
    rintro e w1 ⟨rfl, hb1⟩
    rw [hv]
    go_wp2_with fail
    refine (rightMark_c _ _).mono ?_
    rintro e w2 ⟨rfl, hb2⟩
    go_wp2_with fail
    go_ret
    exact ⟨retB (by simp [evB, h1, h2]), nbTrans (nbTrans (nbAlloc (Below.refl _ _) _) hb1) hb2⟩
  cases h3 : (op == 3)
  case true =>
    have hv : hapV op n = .iface 159 (.int .i64 n) := by simp [hapV, h1, h2, h3]
    have hm := methodS
    go_enter Tryd.func87, Tryd.ntmps87
    go_wp2_with fail
    refine (happeningOf_c _ _ _).mono ?_
    rintro e w1 ⟨rfl, hb1⟩
    rw [hv]
    go_wp2_with fail
    refine (rightStands_c _ _).mono ?_
    rintro e w2 ⟨rfl, hb2⟩
    go_wp2_with fail
    go_ret
    exact ⟨retB (by simp [evB, h1, h2, h3]), nbTrans (nbTrans (nbAlloc (Below.refl _ _) _) hb1) hb2⟩
  cases h4 : (op == 4)
  case true =>
    have hv : hapV op n = .iface 157 (.int .i64 n) := by simp [hapV, h1, h2, h3, h4]
    have hm := methodL
    go_enter Tryd.func87, Tryd.ntmps87
    go_wp2_with fail
    refine (happeningOf_c _ _ _).mono ?_
    rintro e w1 ⟨rfl, hb1⟩
    rw [hv]
    go_wp2_with fail
    refine (rightLost_c _ _).mono ?_
    rintro e w2 ⟨rfl, hb2⟩
    go_wp2_with fail
    go_ret
    exact ⟨retB (by simp [evB, h1, h2, h3, h4]), nbTrans (nbTrans (nbAlloc (Below.refl _ _) _) hb1) hb2⟩
  have hv : hapV op n = .nilIface := by simp [hapV, h1, h2, h3, h4]
  go_enter Tryd.func87, Tryd.ntmps87
  go_wp2_with fail
  refine (happeningOf_c _ _ _).mono ?_
  rintro e w1 ⟨rfl, hb1⟩
  rw [hv]
  go_wp2_with fail
  go_ret
  exact ⟨retB (by simp [evB, h1, h2, h3, h4]), nbTrans (nbAlloc (Below.refl _ _) _) hb1⟩

end Go.Proofs.YtmhppadblddjoacDoor
