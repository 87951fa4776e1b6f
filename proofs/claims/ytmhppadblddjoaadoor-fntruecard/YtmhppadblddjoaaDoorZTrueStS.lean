import Derived.Test.YtmhppadblddjoaaDoorZTrueSet6
import Derived.Test.YtmhppadblddjoaaDoorZTrueW1
namespace Go.Proofs.YtmhppadblddjoaaDoor
open Go.RowKit

/-- A row of states, as the walk reads it. -/
def Row6 (w : World) (q n : Nat) (t : Nat → St) : Prop :=
  ∀ i, i < n → w.cell? ⟨q, i * 6, none⟩ = some (.bool (t i).kn) ∧ w.cell? ⟨q, i * 6 + 1, none⟩ = some (.int .i64 (t i).l) ∧ w.cell? ⟨q, i * 6 + 2, none⟩ = some (.int .i64 (t i).h) ∧ w.cell? ⟨q, i * 6 + 3, none⟩ = some (.int .i64 (t i).si) ∧ w.cell? ⟨q, i * 6 + 4, none⟩ = some (.int .i64 (t i).la) ∧ w.cell? ⟨q, i * 6 + 5, none⟩ = some (.int .i64 (t i).od)
theorem Row6.on {w w' : World} {q n : Nat} {t : Nat → St} (h : Row6 w q n t) (hb : Below w.heap.size w w') : Row6 w' q n t :=
  fun i hi => ⟨cellOn hb (h i hi).1, cellOn hb (h i hi).2.1, cellOn hb (h i hi).2.2.1, cellOn hb (h i hi).2.2.2.1, cellOn hb (h i hi).2.2.2.2.1, cellOn hb (h i hi).2.2.2.2.2⟩

theorem runCs_len (s j m g o : Int) (len : Nat) (f a : Nat → Int) (l h : Int) (fe ge : Nat → Int) : ∀ n, (runCs s j m g o len f a l h fe ge n).length = n * 6
  | 0 => rfl
  | n + 1 => by rw [runCs, List.length_append, runCs_len]; simp [St.cs]; omega
theorem runCs_get (s j m g o : Int) (len : Nat) (f a : Nat → Int) (l h : Int) (fe ge : Nat → Int) (c : Nat) (hc : c < 6) : ∀ n i, i < n → (runCs s j m g o len f a l h fe ge n)[i * 6 + c]? = (runSt s j m g o len f a l h fe ge (i + 1)).cs[c]?
  | 0, i, hi => by omega
  | n + 1, i, hi => by
    have hL := runCs_len s j m g o len f a l h fe ge n
    rw [runCs]
    by_cases hin : i < n
    · rw [List.getElem?_append_left (by omega)]
      exact runCs_get s j m g o len f a l h fe ge c hc n i hin
    · have : i = n := by omega
      subst this
      rw [List.getElem?_append_right (by omega), hL]
      congr 1
      omega

/-- A slice of states that owns its memory, or nil. -/
def StRow (w : World) (B : Nat) (v : Value) (n : Nat) (t : Nat → St) : Prop :=
  ∃ a cap, v = .slice a n cap ∧ (n = 0 ∨ ∃ q, a = some ⟨q, 0, none⟩ ∧ B ≤ q ∧ Row6 w q n t ∧ ∀ i, i < n * 6 → w.frozen? ⟨q, i, none⟩ = false)
theorem stRow_of {w : World} {B : Nat} {v : Value} {n : Nat} {s j m g o : Int} {len : Nat} {f a : Nat → Int} {l h : Int} {fe ge : Nat → Int} (hw : w.ownsRow B 37 6 v n (runCs s j m g o len f a l h fe ge n)) :
    StRow w B v n fun i => runSt s j m g o len f a l h fe ge (i + 1) := by
  obtain ⟨h1, h2⟩ := hw
  rcases h2 with ⟨rfl, rfl⟩ | ⟨q, cap, cur, rfl, hg, hh, hn, hm, hs, htk⟩
  · exact ⟨none, 0, rfl, .inl rfl⟩
  · refine ⟨some ⟨q, 0, none⟩, cap, rfl, .inr ⟨q, rfl, hg, ?_, fun i _ => Joins.unfrozen_of_block hh i⟩⟩
    have key : ∀ i c, i < n → c < 6 → w.cell? ⟨q, i * 6 + c, none⟩ = (runSt s j m g o len f a l h fe ge (i + 1)).cs[c]? := fun i c hi hc => by
      rw [Joins.cell_of_block hh, ← runCs_get s j m g o len f a l h fe ge c hc n i hi, ← htk, List.getElem?_take]
      rw [if_pos (by omega)]
      simp
    intro i hi
    exact ⟨(key i 0 hi (by omega)).trans rfl, (key i 1 hi (by omega)).trans rfl, (key i 2 hi (by omega)).trans rfl, (key i 3 hi (by omega)).trans rfl, (key i 4 hi (by omega)).trans rfl, (key i 5 hi (by omega)).trans rfl⟩

end Go.Proofs.YtmhppadblddjoaaDoor

/- What the law of Run keeps in mind: rows that own their blocks, and what turns one block alone. -/
namespace Go.Proofs.YtmhppadblddjoaaDoor
open Go.RowKit

/-- A row of structs of two ints in block q, none of its cells frozen. -/
def Own2 (w : World) (q len : Nat) (f a : Nat → Int) : Prop := Row2 w q 0 len f a ∧ ∀ i, i < len * 2 → w.frozen? ⟨q, i, none⟩ = false
theorem Own2.lt {w : World} {q len : Nat} {f a : Nat → Int} (h : Own2 w q len f a) (hl : 0 < len) : q < w.heap.size := ltCell (h.1 0 hl).1
theorem Own2.block {w w' : World} {q len : Nat} {f a : Nat → Int} (h : Own2 w q len f a) (hb : 0 < len → w'.heap[q]? = w.heap[q]?) : Own2 w' q len f a :=
  ⟨fun i hi => ⟨by rw [World.cell?_of_block (w := w) (hb (by omega))]; exact (h.1 i hi).1, by rw [World.cell?_of_block (w := w) (hb (by omega))]; exact (h.1 i hi).2⟩,
   fun i hi => by rw [World.frozen?_of_block (w := w) (hb (by omega))]; exact h.2 i hi⟩
theorem Own2.on {w w' : World} {q len : Nat} {f a : Nat → Int} (h : Own2 w q len f a) (hb : Below w.heap.size w w') : Own2 w' q len f a := h.block fun hl => hb.block q (h.lt hl)

/-- A slice of n states in block q (or of none). -/
def StAt (w : World) (q : Nat) (v : Value) (n : Nat) (t : Nat → St) : Prop :=
  ∃ a cap, v = .slice a n cap ∧ (n = 0 ∨ a = some ⟨q, 0, none⟩ ∧ Row6 w q n t ∧ ∀ i, i < n * 6 → w.frozen? ⟨q, i, none⟩ = false)
theorem StAt.lt {w : World} {q : Nat} {v : Value} {n : Nat} {t : Nat → St} (h : StAt w q v n t) (hn : 0 < n) : q < w.heap.size := by
  obtain ⟨a, cap, -, h0 | ⟨-, h1, -⟩⟩ := h
  · omega
  · exact ltCell (h1 0 hn).1
theorem StAt.block {w w' : World} {q : Nat} {v : Value} {n : Nat} {t : Nat → St} (h : StAt w q v n t) (hb : 0 < n → w'.heap[q]? = w.heap[q]?) : StAt w' q v n t := by
  obtain ⟨a, cap, hv, h0 | ⟨ha, h1, h2⟩⟩ := h
  · exact ⟨a, cap, hv, .inl h0⟩
  · refine ⟨a, cap, hv, .inr ⟨ha, fun i hi => ?_, fun i hi => ?_⟩⟩
    · have e : ∀ o, w'.cell? ⟨q, o, none⟩ = w.cell? ⟨q, o, none⟩ := fun o => World.cell?_of_block (w := w) (hb (by omega))
      rw [e, e, e, e, e, e]; exact h1 i hi
    · rw [World.frozen?_of_block (w := w) (hb (by omega))]; exact h2 i hi
theorem StAt.on {w w' : World} {q : Nat} {v : Value} {n : Nat} {t : Nat → St} (h : StAt w q v n t) (hb : Below w.heap.size w w') : StAt w' q v n t := h.block fun hn => hb.block q (h.lt hn)
theorem StRow.at {w : World} {B : Nat} {v : Value} {n : Nat} {t : Nat → St} (h : StRow w B v n t) : ∃ q, B ≤ q ∧ StAt w q v n t := by
  obtain ⟨a, cap, hv, h0 | ⟨q, ha, hq, h1, h2⟩⟩ := h
  · exact ⟨B, Nat.le_refl _, a, cap, hv, .inl h0⟩
  · exact ⟨q, hq, a, cap, hv, .inr ⟨ha, h1, h2⟩⟩
theorem StAt.row {w : World} {q : Nat} {v : Value} {n : Nat} {t : Nat → St} (h : StAt w q v n t) : StRow w q v n t := by
  obtain ⟨a, cap, hv, h0 | ⟨ha, h1, h2⟩⟩ := h
  · exact ⟨a, cap, hv, .inl h0⟩
  · exact ⟨a, cap, hv, .inr ⟨q, ha, Nat.le_refl _, h1, h2⟩⟩
theorem StRow.on {w w' : World} {B : Nat} {v : Value} {n : Nat} {t : Nat → St} (h : StRow w B v n t) (hb : Below w.heap.size w w') : StRow w' B v n t := by
  obtain ⟨q, hq, h1⟩ := h.at
  obtain ⟨a, cap, hv, h0 | ⟨ha, h2, h3⟩⟩ := h1.on hb
  · exact ⟨a, cap, hv, .inl h0⟩
  · exact ⟨a, cap, hv, .inr ⟨q, ha, hq, h2, h3⟩⟩
theorem StRow.base {w : World} {B B' : Nat} {v : Value} {n : Nat} {t : Nat → St} (h : StRow w B v n t) (hb : B' ≤ B) : StRow w B' v n t := by
  obtain ⟨a, cap, hv, h0 | ⟨q, ha, hq, h1⟩⟩ := h
  · exact ⟨a, cap, hv, .inl h0⟩
  · exact ⟨a, cap, hv, .inr ⟨q, ha, by omega, h1⟩⟩

/-- .. of which no more is asked than what stands in it. -/
def StHeld (w : World) (q : Nat) (v : Value) (n : Nat) (t : Nat → St) : Prop := ∃ a cap, v = .slice a n cap ∧ (n = 0 ∨ a = some ⟨q, 0, none⟩ ∧ Row6 w q n t)
theorem StHeld.on {w w' : World} {q : Nat} {v : Value} {n : Nat} {t : Nat → St} (h : StHeld w q v n t) (hb : Below w.heap.size w w') : StHeld w' q v n t := by
  obtain ⟨a, cap, hv, h0 | ⟨ha, h1⟩⟩ := h
  · exact ⟨a, cap, hv, .inl h0⟩
  · exact ⟨a, cap, hv, .inr ⟨ha, h1.on hb⟩⟩

/-- Nothing has turned but block q, and that only where there is something in it. -/
def TurnIf (len q : Nat) (w w' : World) : Prop := len = 0 ∧ w' = w ∨ 0 < len ∧ Turns q w w'
theorem TurnIf.blk {len q p : Nat} {w w' : World} (h : TurnIf len q w w') (hp : p < w.heap.size) (hne : 0 < len → p ≠ q) : w'.heap[p]? = w.heap[p]? := by
  rcases h with ⟨-, rfl⟩ | ⟨hl, h⟩
  · rfl
  · exact h.block p hp (hne hl)
theorem TurnIf.cell {len q : Nat} {w w' : World} (h : TurnIf len q w w') {b o : Nat} {v : Value} (hb : 0 < len → b ≠ q) (hc : w.cell? ⟨b, o, none⟩ = some v) : w'.cell? ⟨b, o, none⟩ = some v := by
  rw [World.cell?_of_block (w := w) (h.blk (ltCell hc) hb)]; exact hc
theorem TurnIf.below {len q : Nat} {w w1 w' : World} (h : TurnIf len q w1 w') (hb : Below w.heap.size w w1) (hq : w.heap.size ≤ q) : Below w.heap.size w w' := by
  rcases h with ⟨-, rfl⟩ | ⟨-, h⟩
  · exact hb
  · exact h.below hb hq
theorem TurnIf.own {len q p n : Nat} {w w' : World} {f a : Nat → Int} (h : TurnIf len q w w') (ho : Own2 w p n f a) (hne : 0 < n → 0 < len → p ≠ q) : Own2 w' p n f a :=
  ho.block fun hn => h.blk (ho.lt hn) (hne hn)
theorem TurnIf.st {len q p n : Nat} {w w' : World} {v : Value} {t : Nat → St} (h : TurnIf len q w w') (ho : StAt w p v n t) (hne : 0 < n → 0 < len → p ≠ q) : StAt w' p v n t :=
  ho.block fun hn => h.blk (ho.lt hn) (hne hn)

end Go.Proofs.YtmhppadblddjoaaDoor

