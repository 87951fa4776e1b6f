/- The program's events: the four types behind the interface, happeningOf, EventOk. -/
import Derived.Test.YtmhppadblddjoaaEv
namespace Go.Proofs.Ytmhppadblddjoaa
open Go.RowKit

/-- An event as the program holds it. -/
def hapV (op n : Int) : Value :=
  if op == 1 then .iface 100 (.int .i64 n) else if op == 2 then .iface 102 (.int .i64 n) else if op == 3 then .iface 105 (.int .i64 n) else if op == 4 then .iface 103 (.int .i64 n) else .nilIface

set_option maxHeartbeats 400000 in
theorem rightWheels_c (n : Int) (w : World) :
    Calls Try.prog 96 #[.int .i64 n] w fun e w' => e = .returned (.bool (inB n 0 100000)) ∧ Below w.heap.size w w' := by
  go_enter Try.func96, Try.ntmps96
  go_wp2_with fail
  refine (upTo_c _ _).mono ?_
  rintro e w1 ⟨rfl, hb1⟩
  go_wp2_with fail
  refine (has_c _ _ _ _).mono ?_
  rintro e w2 ⟨rfl, hb2⟩
  go_wp2_with fail
  go_ret
  exact ⟨rfl, nbTrans hb1 hb2⟩

set_option maxHeartbeats 400000 in
theorem rightMark_c (n : Int) (w : World) :
    Calls Try.prog 97 #[.int .i64 n] w fun e w' => e = .returned (.bool (inB n 1 1000000000)) ∧ Below w.heap.size w w' := by
  go_enter Try.func97, Try.ntmps97
  go_wp2_with fail
  refine (has_c _ _ _ _).mono ?_
  rintro e w2 ⟨rfl, hb2⟩
  go_wp2_with fail
  go_ret
  exact ⟨rfl, hb2⟩

set_option maxHeartbeats 400000 in
theorem rightStands_c (n : Int) (w : World) :
    Calls Try.prog 99 #[.int .i64 n] w fun e w' => e = .returned (.bool (n == 0)) ∧ Below w.heap.size w w' := by
  go_enter Try.func99, Try.ntmps99
  go_wp2_with fail
  go_ret
  exact ⟨rfl, Below.refl _ _⟩

set_option maxHeartbeats 400000 in
theorem rightLost_c (n : Int) (w : World) :
    Calls Try.prog 98 #[.int .i64 n] w fun e w' => e = .returned (.bool (n == 0)) ∧ Below w.heap.size w w' := by
  go_enter Try.func98, Try.ntmps98
  go_wp2_with fail
  go_ret
  exact ⟨rfl, Below.refl _ _⟩

set_option maxHeartbeats 400000 in
theorem happeningOf_c (op n : Int) (w : World) :
    Calls Try.prog 41 #[.agg #[.int .i64 op, .int .i64 n]] w fun e w' => e = .returned (hapV op n) ∧ Below w.heap.size w w' := by
  cases h1 : (op == 1)
  case true =>
    go_enter Try.func41, Try.ntmps41
    go_wp2_with fail
    go_ret
    exact ⟨by simp [hapV, h1], nbAlloc (Below.refl _ _) _⟩
  cases h2 : (op == 2)
  case true =>
    go_enter Try.func41, Try.ntmps41
    go_wp2_with fail
    go_ret
    exact ⟨by simp [hapV, h1, h2], nbAlloc (Below.refl _ _) _⟩
  cases h3 : (op == 3)
  case true =>
    go_enter Try.func41, Try.ntmps41
    go_wp2_with fail
    go_ret
    exact ⟨by simp [hapV, h1, h2, h3], nbAlloc (Below.refl _ _) _⟩
  cases h4 : (op == 4)
  case true =>
    go_enter Try.func41, Try.ntmps41
    go_wp2_with fail
    go_ret
    exact ⟨by simp [hapV, h1, h2, h3, h4], nbAlloc (Below.refl _ _) _⟩
  go_enter Try.func41, Try.ntmps41
  go_wp2_with fail
  go_ret
  exact ⟨by simp [hapV, h1, h2, h3, h4], nbAlloc (Below.refl _ _) _⟩

theorem neqNil (t : TypeId) (v : Value) (w : World) : (binOp .neq 72 (.iface t v) .nilIface).run Try.prog w = .ok (.bool true) w := by kernel_rfl
theorem neqNil0 (w : World) : (binOp .neq 72 .nilIface .nilIface).run Try.prog w = .ok (.bool false) w := by kernel_rfl

theorem methodW (n : Int) (w : World) : (method 225 100 (.int .i64 n) "loop.example/milepost/impl.right").run Try.prog w = .ok (96, .int .i64 n) w := by kernel_rfl
theorem methodM (n : Int) (w : World) : (method 225 102 (.int .i64 n) "loop.example/milepost/impl.right").run Try.prog w = .ok (97, .int .i64 n) w := by kernel_rfl
theorem methodS (n : Int) (w : World) : (method 225 105 (.int .i64 n) "loop.example/milepost/impl.right").run Try.prog w = .ok (99, .int .i64 n) w := by kernel_rfl
theorem methodL (n : Int) (w : World) : (method 225 103 (.int .i64 n) "loop.example/milepost/impl.right").run Try.prog w = .ok (98, .int .i64 n) w := by kernel_rfl

set_option maxRecDepth 100000 in
set_option maxHeartbeats 400000 in
theorem implEventOk_c (op n : Int) (w : World) :
    Calls Try.prog 37 #[.agg #[.int .i64 op, .int .i64 n]] w fun e w' => e = .returned (.bool (evB op n)) ∧ Below w.heap.size w w' := by
  have hq := neqNil
  have hq0 := neqNil0
  cases h1 : (op == 1)
  case true =>
    have hv : hapV op n = .iface 100 (.int .i64 n) := by simp [hapV, h1]
    have hm := methodW
    go_enter Try.func37, Try.ntmps37
    go_wp2_with fail
    refine (happeningOf_c _ _ _).mono ?_
    rintro e w1 ⟨rfl, hb1⟩
    rw [hv]
    go_wp2_with fail
    refine (rightWheels_c _ _).mono ?_
    rintro e w2 ⟨rfl, hb2⟩
    go_wp2_with fail
    go_ret
    exact ⟨retB (by simp [evB, h1]), nbTrans (nbTrans (nbAlloc (Below.refl _ _) _) hb1) hb2⟩
  cases h2 : (op == 2)
  case true =>
    have hv : hapV op n = .iface 102 (.int .i64 n) := by simp [hapV, h1, h2]
    have hm := methodM
    go_enter Try.func37, Try.ntmps37
    go_wp2_with fail
    refine (happeningOf_c _ _ _).mono ?_
    rintro e w1 ⟨rfl, hb1⟩
    rw [hv]
    go_wp2_with fail
    refine (rightMark_c _ _).mono ?_
    rintro e w2 ⟨rfl, hb2⟩
    go_wp2_with fail
    go_ret
    exact ⟨retB (by simp [evB, h1, h2]), nbTrans (nbTrans (nbAlloc (Below.refl _ _) _) hb1) hb2⟩
  cases h3 : (op == 3)
  case true =>
    have hv : hapV op n = .iface 105 (.int .i64 n) := by simp [hapV, h1, h2, h3]
    have hm := methodS
    go_enter Try.func37, Try.ntmps37
    go_wp2_with fail
    refine (happeningOf_c _ _ _).mono ?_
    rintro e w1 ⟨rfl, hb1⟩
    rw [hv]
    go_wp2_with fail
    refine (rightStands_c _ _).mono ?_
    rintro e w2 ⟨rfl, hb2⟩
    go_wp2_with fail
    go_ret
    exact ⟨retB (by simp [evB, h1, h2, h3]), nbTrans (nbTrans (nbAlloc (Below.refl _ _) _) hb1) hb2⟩
  cases h4 : (op == 4)
  case true =>
    have hv : hapV op n = .iface 103 (.int .i64 n) := by simp [hapV, h1, h2, h3, h4]
    have hm := methodL
    go_enter Try.func37, Try.ntmps37
    go_wp2_with fail
    refine (happeningOf_c _ _ _).mono ?_
    rintro e w1 ⟨rfl, hb1⟩
    rw [hv]
    go_wp2_with fail
    refine (rightLost_c _ _).mono ?_
    rintro e w2 ⟨rfl, hb2⟩
    go_wp2_with fail
    go_ret
    exact ⟨retB (by simp [evB, h1, h2, h3, h4]), nbTrans (nbTrans (nbAlloc (Below.refl _ _) _) hb1) hb2⟩
  have hv : hapV op n = .nilIface := by simp [hapV, h1, h2, h3, h4]
  go_enter Try.func37, Try.ntmps37
  go_wp2_with fail
  refine (happeningOf_c _ _ _).mono ?_
  rintro e w1 ⟨rfl, hb1⟩
  rw [hv]
  go_wp2_with fail
  go_ret
  exact ⟨retB (by simp [evB, h1, h2, h3, h4]), nbTrans (nbAlloc (Below.refl _ _) _) hb1⟩

end Go.Proofs.Ytmhppadblddjoaa
