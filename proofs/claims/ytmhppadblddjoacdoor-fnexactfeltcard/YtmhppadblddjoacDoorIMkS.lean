/- The program's MarksOk at every slice (for a text that does not reach Do). -/
import Derived.Test.YtmhppadblddjoacDoorIMk
import Derived.Test.YtmhppadblddjoacDoorEvS
namespace Go.Proofs.YtmhppadblddjoacDoor
open Go.RowKit Go.Maps

set_option maxHeartbeats 400000 in
theorem spotsByName_0x (ad : Option Addr) (cap : Nat) (f a : Nat → Int) (w : World) :
    Calls Tryd.prog 59 #[.slice ad 0 cap] w fun e w' => e = .returned (.map (some w.heap.size)) ∧ MapAt w' w.heap.size 0 f a ∧ Below w.heap.size w w' := by
  have hmm : ∀ (n : Int) (w : World), (Instr.makeMap 113 (some (.int .i64 n))).run Tryd.prog w = .ok (.map (some w.heap.size)) (w.alloc (.map #[] 0)) := fun n w => by
    simp [Instr.makeMap, run_underlying Tryd.underlying113]
    rfl
  go_enter Tryd.func59, Tryd.ntmps59
  go_wp2_with fail
  refine wp_loop_rounds 1 ?_
  rw [rounds_succ]
  go_wp2_with fail
  go_ret
  exact ⟨rfl, World.ownsMap_made _ _ _ _, (Below.refl _ _).alloc (Nat.le_refl _) _⟩

theorem spotsByName_ex (ad : Option Addr) (cap : Nat) (f a : Nat → Int) (w : World) :
    Calls Tryd.prog 59 #[.slice ad 0 cap] w fun e w' => ∃ q, e = .returned (.map (some q)) ∧ MapAt w' q 0 f a ∧ Below w.heap.size w w' :=
  (spotsByName_0x ad cap f a w).mono fun _ _ h => ⟨_, h⟩

set_option maxHeartbeats 400000 in
theorem implMarksOk_0x (ad : Option Addr) (cap : Nat) (f a : Nat → Int) (w : World) :
    Calls Tryd.prog 41 #[.slice ad 0 cap] w fun e w' => e = .returned (.bool (marksB f a 0)) ∧ Below w.heap.size w w' := by
  go_enter Tryd.func41, Tryd.ntmps41
  go_wp2_with fail
  refine (upTo_c _ _).mono ?_
  rintro e w1 ⟨rfl, hb1⟩
  go_wp2_with fail
  refine wp_loop_rounds 1 ?_
  rw [rounds_succ]
  go_wp2_with fail
  refine (spotsByName_ex ad cap f a _).mono ?_
  rintro e w5 ⟨q, rfl, hM5, hb5⟩
  go_wp2_with (first | (at_len; refine wpList_len_own _ rfl _ 113 rfl 3 146 Tryd.underlying113 spotElem q 0 (spots f a 0) rfl hM5 ?_) | fail)
  go_ret
  exact ⟨retB rfl, nbTrans (nbAlloc (nbAlloc hb1 _) _) hb5⟩

theorem implMarksOk_sx (ad : Option Addr) (len cap : Nat) (f a : Nat → Int) (w : World) (hl : len ≤ 1048576) (hr : SRow w ad len f a) :
    Calls Tryd.prog 41 #[.slice ad len cap] w fun e w' => e = .returned (.bool (marksB f a len)) ∧ Below w.heap.size w w' := by
  rcases hr with rfl | ⟨b, off, rfl, h⟩
  · exact implMarksOk_0x ad cap f a w
  · exact implMarksOk_c b off len cap f a w hl h

end Go.Proofs.YtmhppadblddjoacDoor
