import Derived.Test.YtmhppadblddjoaaDoorZTrueFe
import Derived.Test.YtmhppadblddjoaaDoorZTrueStS
/- What the law of Felt keeps in mind: slices of ints; rows of events that own their block. -/
namespace Go.Proofs.YtmhppadblddjoaaDoor
open Go.RowKit

/-- A row of ints in block q, none of its cells frozen. -/
def Own1 (w : World) (q len : Nat) (f : Nat → Int) : Prop := Row1 w q 0 len f ∧ ∀ i, i < len → w.frozen? ⟨q, i, none⟩ = false
theorem Own1.lt {w : World} {q len : Nat} {f : Nat → Int} (h : Own1 w q len f) (hl : 0 < len) : q < w.heap.size := ltCell (h.1 0 hl)
theorem Own1.block {w w' : World} {q len : Nat} {f : Nat → Int} (h : Own1 w q len f) (hb : 0 < len → w'.heap[q]? = w.heap[q]?) : Own1 w' q len f :=
  ⟨fun i hi => by rw [World.cell?_of_block (w := w) (hb (by omega))]; exact h.1 i hi, fun i hi => by rw [World.frozen?_of_block (w := w) (hb (by omega))]; exact h.2 i hi⟩
theorem Own1.on {w w' : World} {q len : Nat} {f : Nat → Int} (h : Own1 w q len f) (hb : Below w.heap.size w w') : Own1 w' q len f := h.block fun hl => hb.block q (h.lt hl)
/-- A slice of n events in memory of its own, from block B on (or of none). -/
def EvRow (w : World) (B : Nat) (v : Value) (n : Nat) (fe ge : Nat → Int) : Prop :=
  ∃ a cap, v = .slice a n cap ∧ (n = 0 ∨ ∃ q, a = some ⟨q, 0, none⟩ ∧ B ≤ q ∧ Row2 w q 0 n fe ge ∧ ∀ i, i < n * 2 → w.frozen? ⟨q, i, none⟩ = false)
/-- A slice of n events in block q (or of none). -/
def EvAt (w : World) (q : Nat) (v : Value) (n : Nat) (fe ge : Nat → Int) : Prop :=
  ∃ a cap, v = .slice a n cap ∧ (n = 0 ∨ a = some ⟨q, 0, none⟩ ∧ Row2 w q 0 n fe ge ∧ ∀ i, i < n * 2 → w.frozen? ⟨q, i, none⟩ = false)
theorem EvAt.lt {w : World} {q : Nat} {v : Value} {n : Nat} {fe ge : Nat → Int} (h : EvAt w q v n fe ge) (hn : 0 < n) : q < w.heap.size := by
  obtain ⟨a, cap, -, h0 | ⟨-, h1, -⟩⟩ := h
  · omega
  · exact ltCell (h1 0 hn).1
theorem EvAt.block {w w' : World} {q : Nat} {v : Value} {n : Nat} {fe ge : Nat → Int} (h : EvAt w q v n fe ge) (hb : 0 < n → w'.heap[q]? = w.heap[q]?) : EvAt w' q v n fe ge := by
  obtain ⟨a, cap, hv, h0 | ⟨ha, h1, h2⟩⟩ := h
  · exact ⟨a, cap, hv, .inl h0⟩
  · refine ⟨a, cap, hv, .inr ⟨ha, fun i hi => ?_, fun i hi => ?_⟩⟩
    · have e : ∀ o, w'.cell? ⟨q, o, none⟩ = w.cell? ⟨q, o, none⟩ := fun o => World.cell?_of_block (w := w) (hb (by omega))
      rw [e, e]; exact h1 i hi
    · rw [World.frozen?_of_block (w := w) (hb (by omega))]; exact h2 i hi
theorem EvAt.on {w w' : World} {q : Nat} {v : Value} {n : Nat} {fe ge : Nat → Int} (h : EvAt w q v n fe ge) (hb : Below w.heap.size w w') : EvAt w' q v n fe ge := h.block fun hn => hb.block q (h.lt hn)
theorem EvRow.at {w : World} {B : Nat} {v : Value} {n : Nat} {fe ge : Nat → Int} (h : EvRow w B v n fe ge) : ∃ q, B ≤ q ∧ EvAt w q v n fe ge := by
  obtain ⟨a, cap, hv, h0 | ⟨q, ha, hq, h1, h2⟩⟩ := h
  · exact ⟨B, Nat.le_refl _, a, cap, hv, .inl h0⟩
  · exact ⟨q, hq, a, cap, hv, .inr ⟨ha, h1, h2⟩⟩
theorem EvAt.row {w : World} {q : Nat} {v : Value} {n : Nat} {fe ge : Nat → Int} (h : EvAt w q v n fe ge) : EvRow w q v n fe ge := by
  obtain ⟨a, cap, hv, h0 | ⟨ha, h1, h2⟩⟩ := h
  · exact ⟨a, cap, hv, .inl h0⟩
  · exact ⟨a, cap, hv, .inr ⟨q, ha, Nat.le_refl _, h1, h2⟩⟩
theorem EvRow.on {w w' : World} {B : Nat} {v : Value} {n : Nat} {fe ge : Nat → Int} (h : EvRow w B v n fe ge) (hb : Below w.heap.size w w') : EvRow w' B v n fe ge := by
  obtain ⟨q, hq, h1⟩ := h.at
  obtain ⟨a, cap, hv, h0 | ⟨ha, h2, h3⟩⟩ := h1.on hb
  · exact ⟨a, cap, hv, .inl h0⟩
  · exact ⟨a, cap, hv, .inr ⟨q, ha, hq, h2, h3⟩⟩
theorem EvRow.base {w : World} {B B' : Nat} {v : Value} {n : Nat} {fe ge : Nat → Int} (h : EvRow w B v n fe ge) (hb : B' ≤ B) : EvRow w B' v n fe ge := by
  obtain ⟨a, cap, hv, h0 | ⟨q, ha, hq, h1⟩⟩ := h
  · exact ⟨a, cap, hv, .inl h0⟩
  · exact ⟨a, cap, hv, .inr ⟨q, ha, by omega, h1⟩⟩

/-- .. of which no more is asked than what stands in it. -/
def EvHeld (w : World) (q : Nat) (v : Value) (n : Nat) (fe ge : Nat → Int) : Prop := ∃ a cap, v = .slice a n cap ∧ (n = 0 ∨ a = some ⟨q, 0, none⟩ ∧ Row2 w q 0 n fe ge)
theorem EvHeld.on {w w' : World} {q : Nat} {v : Value} {n : Nat} {fe ge : Nat → Int} (h : EvHeld w q v n fe ge) (hb : Below w.heap.size w w') : EvHeld w' q v n fe ge := by
  obtain ⟨a, cap, hv, h0 | ⟨ha, h1⟩⟩ := h
  · exact ⟨a, cap, hv, .inl h0⟩
  · exact ⟨a, cap, hv, .inr ⟨ha, h1.on hb⟩⟩

theorem TurnIf.ev {len q p n : Nat} {w w' : World} {v : Value} {fe ge : Nat → Int} (h : TurnIf len q w w') (ho : EvAt w p v n fe ge) (hne : 0 < n → 0 < len → p ≠ q) : EvAt w' p v n fe ge :=
  ho.block fun hn => h.blk (ho.lt hn) (hne hn)

theorem cells2_get : ∀ (xs : List (Int × Int)) (i : Nat), i < xs.length → (cells2 xs)[i * 2]? = some (.int .i64 (xs.getD i (0, 0)).1) ∧ (cells2 xs)[i * 2 + 1]? = some (.int .i64 (xs.getD i (0, 0)).2)
  | [], i, h => by simp at h
  | x :: xs, 0, _ => by simp [cells2]
  | x :: xs, i + 1, h => by
    have h' := cells2_get xs i (by simpa using h)
    have e : cells2 (x :: xs) = .int .i64 x.1 :: .int .i64 x.2 :: cells2 xs := by simp [cells2]
    rw [e, show (i + 1) * 2 = i * 2 + 1 + 1 by omega]
    simpa using h'
theorem evRow_of {w : World} {B : Nat} {v : Value} {xs : List (Int × Int)} (hw : w.ownsRow B 48 2 v xs.length (cells2 xs)) : EvRow w B v xs.length (fun i => (xs.getD i (0, 0)).1) (fun i => (xs.getD i (0, 0)).2) := by
  obtain ⟨h1, h2⟩ := hw
  rcases h2 with ⟨rfl, h0⟩ | ⟨q, cap, cur, rfl, hg, hh, hn, hm, hs, htk⟩
  · exact ⟨none, 0, by rw [h0], .inl h0⟩
  · refine ⟨some ⟨q, 0, none⟩, cap, rfl, .inr ⟨q, rfl, hg, fun i hi => ?_, fun i _ => Joins.unfrozen_of_block hh i⟩⟩
    have key : ∀ o, o < xs.length * 2 → w.cell? ⟨q, o, none⟩ = (cells2 xs)[o]? := fun o ho => by
      rw [Joins.cell_of_block hh, ← htk, List.getElem?_take, if_pos ho]
      simp
    obtain ⟨g1, g2⟩ := cells2_get xs i hi
    exact ⟨by rw [show 0 + i * 2 = i * 2 by omega, key _ (by omega)]; exact g1, by rw [show 0 + i * 2 + 1 = i * 2 + 1 by omega, key _ (by omega)]; exact g2⟩

end Go.Proofs.YtmhppadblddjoaaDoor

