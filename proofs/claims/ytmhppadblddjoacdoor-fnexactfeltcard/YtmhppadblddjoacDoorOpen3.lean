import Derived.Test.YtmhppadblddjoacDoorOpen2
import Derived.Test.YtmhppadblddjoacDoorFe
namespace Go.Proofs.YtmhppadblddjoacDoor
open Go.ChangeShapes Go.WideShapes Go.RowKit Go.Deep Go.Joins

section
variable {H : Type} {enc : TypeId × Value → H} {P : Program} {w : World} {base : Nat} {spare : Nat → Bool} {held : Bool}

/-- A slice of ints, as it came in. -/
theorem openRow1 {t e : TypeId} {fuel : Nat} {a : Option Addr} {len cap : Nat} {x : DataW H × List MemPlace} (ht : P.underlying t = some (.slice e)) (he : P.underlying e = some (.int .i64)) (hc : P.cellsOf e = 1)
    (h : DataW.trod enc P w base spare held fuel t [.slice a len cap] = some x) : len ≤ maxLen ∧ ∃ f : Nat → Int, SRow1 w a len f := by
  rcases open_ints ht he hc h with ⟨h0, -⟩ | ⟨ad, l, c, zs, hcs, -, hl, hm, hz, -, hcell, -⟩
  · simp at h0
    obtain ⟨rfl, rfl, rfl⟩ := h0
    exact ⟨by unfold maxLen; omega, fun _ => 0, .inl rfl⟩
  · simp at hcs
    obtain ⟨rfl, rfl, rfl⟩ := hcs
    refine ⟨by omega, ?_⟩
    have hzl : len ≤ zs.length := by rw [hz]; split <;> omega
    by_cases hn : len = 0
    · exact ⟨fun _ => 0, .inl hn⟩
    · obtain ⟨b, off, rfl, hk⟩ := ints_at hcell (by omega)
      exact ⟨fun i => zs.getD i 0, .inr ⟨b, off, rfl, fun i hi => hk i (by omega)⟩⟩
end

end Go.Proofs.YtmhppadblddjoacDoor
