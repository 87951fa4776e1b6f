import Derived.Test.YtmhppadblddjoaaDoorZTrueDrawn
namespace Go.Proofs.YtmhppadblddjoaaDoor
open Go.RowKit

/-- A row of structs of two ints, as the walk reads it. -/
def Row2 (w : World) (b off len : Nat) (f g : Nat → Int) : Prop :=
  ∀ i, i < len → w.cell? ⟨b, off + i * 2, none⟩ = some (.int .i64 (f i)) ∧ w.cell? ⟨b, off + i * 2 + 1, none⟩ = some (.int .i64 (g i))

theorem newBlkD (w : World) (o : Obj) {n : Nat} (hn : n = w.heap.size) : (w.alloc o).heap[n]? = some o := by
  subst hn
  show (w.heap.push o)[w.heap.size]? = _
  simp
theorem Row2.on {w w' : World} {b off len : Nat} {f g : Nat → Int} (h : Row2 w b off len f g) (hb : Below w.heap.size w w') : Row2 w' b off len f g :=
  fun i hi => ⟨cellOn hb (h i hi).1, cellOn hb (h i hi).2⟩

/-- A slice of structs of two ints that came in, or that a law has made. -/
def SRow (w : World) (a : Option Addr) (len : Nat) (f g : Nat → Int) : Prop := len = 0 ∨ ∃ b off, a = some ⟨b, off, none⟩ ∧ Row2 w b off len f g
theorem SRow.on {w w' : World} {a : Option Addr} {len : Nat} {f g : Nat → Int} (h : SRow w a len f g) (hb : Below w.heap.size w w') : SRow w' a len f g := by
  rcases h with h | ⟨b, off, h1, h2⟩
  · exact .inl h
  · exact .inr ⟨b, off, h1, h2.on hb⟩

end Go.Proofs.YtmhppadblddjoaaDoor

namespace Go.Proofs.YtmhppadblddjoaaDoor
open Go.RowKit

theorem infoTr : (Tryd.prog.info? 50).map (fun i => (i.zero, i.size, i.bytes)) = some (some (.agg #[.int .i64 0, .int .i64 0]), 2, 16) := by kernel_rfl

end Go.Proofs.YtmhppadblddjoaaDoor

