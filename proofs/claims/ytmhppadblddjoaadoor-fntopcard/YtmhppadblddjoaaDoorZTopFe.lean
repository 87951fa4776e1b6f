import Derived.Test.YtmhppadblddjoaaDoorZTopMk
import Derived.Test.YtmhppadblddjoaaDoorZTopMkOk
import Derived.Test.YtmhppadblddjoaaDoorZTopSet6
import Derived.Test.YtmhppadblddjoaaDoorZTopW2
/- Chapter 4 of the specification: what a train feels. -/
namespace Go.Proofs.YtmhppadblddjoaaDoor
open Go.RowKit

/-- A row of ints, as the walk reads it. -/
def Row1 (w : World) (b off len : Nat) (f : Nat → Int) : Prop := ∀ i, i < len → w.cell? ⟨b, off + i, none⟩ = some (.int .i64 (f i))
theorem Row1.on {w w' : World} {b off len : Nat} {f : Nat → Int} (h : Row1 w b off len f) (hb : Below w.heap.size w w') : Row1 w' b off len f := fun i hi => cellOn hb (h i hi)
/-- The same, whatever the slice's address is when it is empty. -/
def At2 (w : World) (ad : Option Addr) (len : Nat) (f a : Nat → Int) (b off : Nat) : Prop := (0 < len → ad = some ⟨b, off, none⟩) ∧ Row2 w b off len f a
def At1 (w : World) (ad : Option Addr) (len : Nat) (f : Nat → Int) (b off : Nat) : Prop := (0 < len → ad = some ⟨b, off, none⟩) ∧ Row1 w b off len f
theorem SRow.at {w : World} {ad : Option Addr} {len : Nat} {f a : Nat → Int} (h : SRow w ad len f a) : ∃ b off, At2 w ad len f a b off := by
  rcases h with rfl | ⟨b, off, rfl, h⟩
  · exact ⟨0, 0, fun h => absurd h (by omega), fun i hi => absurd hi (by omega)⟩
  · exact ⟨b, off, fun _ => rfl, h⟩
theorem At2.row {w : World} {ad : Option Addr} {len : Nat} {f a : Nat → Int} {b off : Nat} (h : At2 w ad len f a b off) : SRow w ad len f a := by
  by_cases hl : len = 0
  · exact Or.inl hl
  · exact Or.inr ⟨b, off, h.1 (by omega), h.2⟩
def SRow1 (w : World) (ad : Option Addr) (len : Nat) (f : Nat → Int) : Prop := len = 0 ∨ ∃ b off, ad = some ⟨b, off, none⟩ ∧ Row1 w b off len f
theorem SRow1.on {w w' : World} {ad : Option Addr} {len : Nat} {f : Nat → Int} (h : SRow1 w ad len f) (hb : Below w.heap.size w w') : SRow1 w' ad len f := by
  rcases h with h | ⟨b, off, e, h⟩
  · exact Or.inl h
  · exact Or.inr ⟨b, off, e, h.on hb⟩
theorem SRow1.at {w : World} {ad : Option Addr} {len : Nat} {f : Nat → Int} (h : SRow1 w ad len f) : ∃ b off, At1 w ad len f b off := by
  rcases h with rfl | ⟨b, off, rfl, h⟩
  · exact ⟨0, 0, fun h => absurd h (by omega), fun i hi => absurd hi (by omega)⟩
  · exact ⟨b, off, fun _ => rfl, h⟩

set_option maxHeartbeats 400000 in
theorem specMarksOk_e (ad : Option Addr) (cap : Nat) (f a : Nat → Int) (w : World) :
    Calls Tryd.prog 29 #[.slice ad 0 cap] w fun e w' => e = .returned (.bool (marksB f a 0)) ∧ Below w.heap.size w w' := by
  go_enter Tryd.func29, Tryd.ntmps29
  go_wp2_with fail
  refine wp_loop_rounds 1 ?_
  rw [rounds_succ]
  go_wp2_with fail
  go_ret
  exact ⟨rfl, Below.refl _ _⟩
theorem specMarksOk_s (ad : Option Addr) (len cap : Nat) (f a : Nat → Int) (w : World) (hl : len ≤ 1048576) (hr : SRow w ad len f a) :
    Calls Tryd.prog 29 #[.slice ad len cap] w fun e w' => e = .returned (.bool (marksB f a len)) ∧ Below w.heap.size w w' := by
  rcases hr with rfl | ⟨b, off, rfl, h⟩
  · exact specMarksOk_e ad cap f a w
  · exact specMarksOk_c b off len cap f a w hl h
theorem marks_len {f a : Nat → Int} {n : Nat} (h : marksB f a n = true) : n ≤ 100 := by
  unfold marksB at h
  rw [Bool.and_eq_true, decide_eq_true_eq] at h
  exact h.2

end Go.Proofs.YtmhppadblddjoaaDoor

