import Derived.ProofKit
import Derived.OpenShut
import Derived.Test.YtmhppadblddjoaaDoorZTrueW1
namespace Go.Proofs.YtmhppadblddjoaaDoor
open Go.RowKit

theorem addAt (b off i : Nat) : (⟨b, off, none⟩ : Addr).add i = ⟨b, off + i, none⟩ := by
  by_cases h : i = 0 <;> simp [Addr.add, h]

/-- The bytes of a slice that came in. -/
theorem bytes_of {W : World} {x : Addr} {len : Nat} {zs : List Int} (hl : len ≤ zs.length) (hcell : ∀ i, i < zs.length → W.cell? (x.add i) = some (.int .u8 (zs.getD i 0))) (hwz : ∀ n ∈ zs, (Lit.int .u8 n).wf = true) :
    Bytes W (some x) len := by
  by_cases hz : len = 0
  · exact .inl hz
  · obtain ⟨b, off, spot⟩ := x
    have hc := hcell 0 (by omega)
    have hspot : spot = none := by simpa [Addr.add] using World.cell?_spot hc
    subst hspot
    refine .inr ⟨b, off, rfl, fun i hi => ?_⟩
    have hi' : i < zs.length := by omega
    have hm : zs.getD i 0 ∈ zs := by
      rw [List.getD_eq_getElem?_getD, List.getElem?_eq_getElem hi']
      exact List.getElem_mem hi'
    have hb := bounds_u8 (hwz _ hm)
    exact ⟨zs.getD i 0, hb.1, hb.2, by rw [← addAt]; exact hcell i hi'⟩

end Go.Proofs.YtmhppadblddjoaaDoor

