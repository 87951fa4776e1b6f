/- What the law of Run keeps in mind: rows that own their blocks, and what turns one block alone. -/
import Derived.Test.YtmhppadblddjoacDoorStM
import Derived.Test.YtmhppadblddjoacDoorSet6
namespace Go.Proofs.YtmhppadblddjoacDoor
open Go.RowKit

/-- A row of structs of two ints in block q, none of its cells frozen. -/
def Own2 (w : World) (q len : Nat) (f a : Nat → Int) : Prop := Row2 w q 0 len f a ∧ ∀ i, i < len * 2 → w.frozen? ⟨q, i, none⟩ = false
theorem Own2.lt {w : World} {q len : Nat} {f a : Nat → Int} (h : Own2 w q len f a) (hl : 0 < len) : q < w.heap.size := ltCell (h.1 0 hl).1
theorem Own2.block {w w' : World} {q len : Nat} {f a : Nat → Int} (h : Own2 w q len f a) (hb : 0 < len → w'.heap[q]? = w.heap[q]?) : Own2 w' q len f a :=
  ⟨fun i hi => ⟨by rw [World.cell?_of_block (w := w) (hb (by omega))]; exact (h.1 i hi).1, by rw [World.cell?_of_block (w := w) (hb (by omega))]; exact (h.1 i hi).2⟩,
   fun i hi => by rw [World.frozen?_of_block (w := w) (hb (by omega))]; exact h.2 i hi⟩
theorem Own2.on {w w' : World} {q len : Nat} {f a : Nat → Int} (h : Own2 w q len f a) (hb : Below w.heap.size w w') : Own2 w' q len f a := h.block fun hl => hb.block q (h.lt hl)

/-- A slice of n states in block q (or of none). -/
def StAt (w : World) (q : Nat) (v : Value) (n : Nat) (t : Nat → St) : Prop :=
  ∃ a cap, v = .slice a n cap ∧ (n = 0 ∨ a = some ⟨q, 0, none⟩ ∧ Row6 w q n t ∧ ∀ i, i < n * 6 → w.frozen? ⟨q, i, none⟩ = false)
theorem StAt.lt {w : World} {q : Nat} {v : Value} {n : Nat} {t : Nat → St} (h : StAt w q v n t) (hn : 0 < n) : q < w.heap.size := by
  obtain ⟨a, cap, -, h0 | ⟨-, h1, -⟩⟩ := h
  · omega
  · exact ltCell (h1 0 hn).1
theorem StAt.block {w w' : World} {q : Nat} {v : Value} {n : Nat} {t : Nat → St} (h : StAt w q v n t) (hb : 0 < n → w'.heap[q]? = w.heap[q]?) : StAt w' q v n t := by
  obtain ⟨a, cap, hv, h0 | ⟨ha, h1, h2⟩⟩ := h
  · exact ⟨a, cap, hv, .inl h0⟩
  · refine ⟨a, cap, hv, .inr ⟨ha, fun i hi => ?_, fun i hi => ?_⟩⟩
    · have e : ∀ o, w'.cell? ⟨q, o, none⟩ = w.cell? ⟨q, o, none⟩ := fun o => World.cell?_of_block (w := w) (hb (by omega))
      rw [e, e, e, e, e, e]; exact h1 i hi
    · rw [World.frozen?_of_block (w := w) (hb (by omega))]; exact h2 i hi
theorem StAt.on {w w' : World} {q : Nat} {v : Value} {n : Nat} {t : Nat → St} (h : StAt w q v n t) (hb : Below w.heap.size w w') : StAt w' q v n t := h.block fun hn => hb.block q (h.lt hn)
theorem StRow.at {w : World} {B : Nat} {v : Value} {n : Nat} {t : Nat → St} (h : StRow w B v n t) : ∃ q, B ≤ q ∧ StAt w q v n t := by
  obtain ⟨a, cap, hv, h0 | ⟨q, ha, hq, h1, h2⟩⟩ := h
  · exact ⟨B, Nat.le_refl _, a, cap, hv, .inl h0⟩
  · exact ⟨q, hq, a, cap, hv, .inr ⟨ha, h1, h2⟩⟩
theorem StAt.row {w : World} {q : Nat} {v : Value} {n : Nat} {t : Nat → St} (h : StAt w q v n t) : StRow w q v n t := by
  obtain ⟨a, cap, hv, h0 | ⟨ha, h1, h2⟩⟩ := h
  · exact ⟨a, cap, hv, .inl h0⟩
  · exact ⟨a, cap, hv, .inr ⟨q, ha, Nat.le_refl _, h1, h2⟩⟩
theorem StRow.on {w w' : World} {B : Nat} {v : Value} {n : Nat} {t : Nat → St} (h : StRow w B v n t) (hb : Below w.heap.size w w') : StRow w' B v n t := by
  obtain ⟨q, hq, h1⟩ := h.at
  obtain ⟨a, cap, hv, h0 | ⟨ha, h2, h3⟩⟩ := h1.on hb
  · exact ⟨a, cap, hv, .inl h0⟩
  · exact ⟨a, cap, hv, .inr ⟨q, ha, hq, h2, h3⟩⟩
theorem StRow.base {w : World} {B B' : Nat} {v : Value} {n : Nat} {t : Nat → St} (h : StRow w B v n t) (hb : B' ≤ B) : StRow w B' v n t := by
  obtain ⟨a, cap, hv, h0 | ⟨q, ha, hq, h1⟩⟩ := h
  · exact ⟨a, cap, hv, .inl h0⟩
  · exact ⟨a, cap, hv, .inr ⟨q, ha, by omega, h1⟩⟩

/-- .. of which no more is asked than what stands in it. -/
def StHeld (w : World) (q : Nat) (v : Value) (n : Nat) (t : Nat → St) : Prop := ∃ a cap, v = .slice a n cap ∧ (n = 0 ∨ a = some ⟨q, 0, none⟩ ∧ Row6 w q n t)
theorem StHeld.on {w w' : World} {q : Nat} {v : Value} {n : Nat} {t : Nat → St} (h : StHeld w q v n t) (hb : Below w.heap.size w w') : StHeld w' q v n t := by
  obtain ⟨a, cap, hv, h0 | ⟨ha, h1⟩⟩ := h
  · exact ⟨a, cap, hv, .inl h0⟩
  · exact ⟨a, cap, hv, .inr ⟨ha, h1.on hb⟩⟩

/-- Nothing has turned but block q, and that only where there is something in it. -/
def TurnIf (len q : Nat) (w w' : World) : Prop := len = 0 ∧ w' = w ∨ 0 < len ∧ Turns q w w'
theorem TurnIf.blk {len q p : Nat} {w w' : World} (h : TurnIf len q w w') (hp : p < w.heap.size) (hne : 0 < len → p ≠ q) : w'.heap[p]? = w.heap[p]? := by
  rcases h with ⟨-, rfl⟩ | ⟨hl, h⟩
  · rfl
  · exact h.block p hp (hne hl)
theorem TurnIf.cell {len q : Nat} {w w' : World} (h : TurnIf len q w w') {b o : Nat} {v : Value} (hb : 0 < len → b ≠ q) (hc : w.cell? ⟨b, o, none⟩ = some v) : w'.cell? ⟨b, o, none⟩ = some v := by
  rw [World.cell?_of_block (w := w) (h.blk (ltCell hc) hb)]; exact hc
theorem TurnIf.below {len q : Nat} {w w1 w' : World} (h : TurnIf len q w1 w') (hb : Below w.heap.size w w1) (hq : w.heap.size ≤ q) : Below w.heap.size w w' := by
  rcases h with ⟨-, rfl⟩ | ⟨-, h⟩
  · exact hb
  · exact h.below hb hq
theorem TurnIf.own {len q p n : Nat} {w w' : World} {f a : Nat → Int} (h : TurnIf len q w w') (ho : Own2 w p n f a) (hne : 0 < n → 0 < len → p ≠ q) : Own2 w' p n f a :=
  ho.block fun hn => h.blk (ho.lt hn) (hne hn)
theorem TurnIf.st {len q p n : Nat} {w w' : World} {v : Value} {t : Nat → St} (h : TurnIf len q w w') (ho : StAt w p v n t) (hne : 0 < n → 0 < len → p ≠ q) : StAt w' p v n t :=
  ho.block fun hn => h.blk (ho.lt hn) (hne hn)

set_option maxHeartbeats 400000 in
theorem markMarkS_0 (a : Option Addr) (c1 : Nat) (x : Int) (w : World) :
    Calls Tryd.prog 20 #[.slice a 0 c1, .int .i64 x] w fun e w' => e = .returned (.int .i64 x) ∧ w' = w := by
  go_enter Tryd.func20, Tryd.ntmps20
  go_wp2_with fail
  refine wp_loop_rounds 1 ?_
  rw [rounds_succ]
  go_wp2_with fail
  go_ret
  exact ⟨rfl, rfl⟩
set_option maxHeartbeats 400000 in
theorem markEventS_0 (a : Option Addr) (c1 : Nat) (x : Int) (w : World) :
    Calls Tryd.prog 23 #[.slice a 0 c1, .int .i64 x] w fun e w' => e = .returned (.int .i64 x) ∧ w' = w := by
  go_enter Tryd.func23, Tryd.ntmps23
  go_wp2_with fail
  refine wp_loop_rounds 1 ?_
  rw [rounds_succ]
  go_wp2_with fail
  go_ret
  exact ⟨rfl, rfl⟩
theorem markMarkS_v (q len c1 : Nat) (x : Int) (f g : Nat → Int) (w : World) (hl : len ≤ 1048576) (hx0 : 0 ≤ x) (hx1 : x ≤ 100000000) (h : Own2 w q len f g) :
    Calls Tryd.prog 20 #[.slice (some ⟨q, 0, none⟩) len c1, .int .i64 x] w fun e w' => e = .returned (.int .i64 (x + 2 * len)) ∧ TurnIf len q w w' := by
  by_cases hn : len = 0
  · subst hn
    exact (markMarkS_0 _ _ _ _).mono fun e w' hh => ⟨by rw [hh.1]; exact retI (by omega), .inl ⟨rfl, hh.2⟩⟩
  · exact (markMarkS_c q len c1 x f g w hl hx0 hx1 h.1 h.2).mono fun e w' hh => ⟨hh.1, .inr ⟨by omega, hh.2⟩⟩
theorem markEventS_v (q len c1 : Nat) (x : Int) (f g : Nat → Int) (w : World) (hl : len ≤ 1048576) (hx0 : 0 ≤ x) (hx1 : x ≤ 100000000) (h : Own2 w q len f g) :
    Calls Tryd.prog 23 #[.slice (some ⟨q, 0, none⟩) len c1, .int .i64 x] w fun e w' => e = .returned (.int .i64 (x + 2 * len)) ∧ TurnIf len q w w' := by
  by_cases hn : len = 0
  · subst hn
    exact (markEventS_0 _ _ _ _).mono fun e w' hh => ⟨by rw [hh.1]; exact retI (by omega), .inl ⟨rfl, hh.2⟩⟩
  · exact (markEventS_c q len c1 x f g w hl hx0 hx1 h.1 h.2).mono fun e w' hh => ⟨hh.1, .inr ⟨by omega, hh.2⟩⟩
end Go.Proofs.YtmhppadblddjoacDoor
