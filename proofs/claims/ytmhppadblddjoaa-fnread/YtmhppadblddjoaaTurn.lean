import Derived.Test.YtmhppadblddjoaaDrawn
namespace Go.Proofs.Ytmhppadblddjoaa
open Go.RowKit

/-- Nothing that was there has turned but block p. -/
structure Turns (p : Nat) (w w' : World) : Prop where
  os : w'.os = w.os
  tape : w'.tape = w.tape
  output : w'.output = w.output
  size : w.heap.size ≤ w'.heap.size
  block : ∀ k, k < w.heap.size → k ≠ p → w'.heap[k]? = w.heap[k]?
theorem Turns.refl (p : Nat) (w : World) : Turns p w w := ⟨rfl, rfl, rfl, Nat.le_refl _, fun _ _ _ => rfl⟩
theorem Turns.trans {p : Nat} {a b c : World} (h : Turns p a b) (k : Turns p b c) : Turns p a c :=
  ⟨k.os.trans h.os, k.tape.trans h.tape, k.output.trans h.output, Nat.le_trans h.size k.size, fun i hi hn => (k.block i (Nat.lt_of_lt_of_le hi h.size) hn).trans (h.block i hi hn)⟩
theorem Turns.drewN {p : Nat} {a w : World} (n : Nat) (h : Turns p a w) : Turns p a (w.drewN n) := ⟨h.os, h.tape, h.output, h.size, h.block⟩
theorem Turns.setCell {p : Nat} {a w : World} (h : Turns p a w) (o : Nat) (v : Value) : Turns p a (w.setCell ⟨p, o, none⟩ v) :=
  h.trans ⟨rfl, rfl, rfl, by simp [World.setCell], fun k _ hn => Below.heap_setCell _ _ _ _ hn⟩
theorem Turns.of_below {p : Nat} {w w' : World} (h : Below w.heap.size w w') : Turns p w w' := ⟨h.os, h.tape, h.output, h.size, fun k hk _ => h.block k hk⟩
theorem Turns.cell {p : Nat} {w w' : World} (h : Turns p w w') {b o : Nat} {v : Value} (hb : b ≠ p) (hc : w.cell? ⟨b, o, none⟩ = some v) : w'.cell? ⟨b, o, none⟩ = some v := by
  rw [World.cell?_of_block (w := w) (h.block b (ltCell hc) hb)]; exact hc

end Go.Proofs.Ytmhppadblddjoaa
