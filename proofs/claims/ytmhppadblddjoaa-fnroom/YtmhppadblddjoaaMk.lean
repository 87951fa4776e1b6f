import Derived.Test.YtmhppadblddjoaaDrawn
namespace Go.Proofs.Ytmhppadblddjoaa
open Go.RowKit

theorem infoMk : (Try.prog.info? 37).map (fun i => (i.zero, i.size, i.bytes)) = some (some (.agg #[.int .i64 0, .int .i64 0]), 2, 16) := by kernel_rfl

/-- A row of structs of two ints, as the walk reads it. -/
def Row2 (w : World) (b off len : Nat) (f g : Nat → Int) : Prop :=
  ∀ i, i < len → w.cell? ⟨b, off + i * 2, none⟩ = some (.int .i64 (f i)) ∧ w.cell? ⟨b, off + i * 2 + 1, none⟩ = some (.int .i64 (g i))

theorem newBlkD (w : World) (o : Obj) {n : Nat} (hn : n = w.heap.size) : (w.alloc o).heap[n]? = some o := by
  subst hn
  show (w.heap.push o)[w.heap.size]? = _
  simp
theorem made2 (i n : Nat) (hi : i < n) : (madeCells #[.int .i64 0, .int .i64 0] n)[i]? = some (Value.int .i64 0) := by
  have h : i % 2 = 0 ∨ i % 2 = 1 := by omega
  unfold madeCells
  rcases h with h | h <;> simp [hi, h]

theorem Row2.on {w w' : World} {b off len : Nat} {f g : Nat → Int} (h : Row2 w b off len f g) (hb : Below w.heap.size w w') : Row2 w' b off len f g :=
  fun i hi => ⟨cellOn hb (h i hi).1, cellOn hb (h i hi).2⟩

theorem neOff {q i j : Nat} (h : i ≠ j) : (⟨q, i, none⟩ : Addr) ≠ ⟨q, j, none⟩ := fun e => h (by cases e; rfl)

theorem row2_step {w wr w1 : World} {q k len : Nat} {f g : Nat → Int} {x y : Int} (h1 : Row2 wr q 0 k f g) (h2 : ∀ i, i < len * 2 → wr.cell? ⟨q, i, none⟩ = some (rdCell wr ⟨q, i, none⟩)) (h3 : ∀ i, i < len * 2 → wr.frozen? ⟨q, i, none⟩ = false)
    (hB : Below q w wr) (hb1 : Below wr.heap.size wr w1) (hx : x = f k) (hy : y = g k) (hlt : k < len) :
    Row2 ((w1.setCell ⟨q, k * 2, none⟩ (.int .i64 x)).setCell ⟨q, k * 2 + 1, none⟩ (.int .i64 y)) q 0 (k + 1) f g ∧
    (∀ i, i < len * 2 → ((w1.setCell ⟨q, k * 2, none⟩ (.int .i64 x)).setCell ⟨q, k * 2 + 1, none⟩ (.int .i64 y)).cell? ⟨q, i, none⟩ = some (rdCell ((w1.setCell ⟨q, k * 2, none⟩ (.int .i64 x)).setCell ⟨q, k * 2 + 1, none⟩ (.int .i64 y)) ⟨q, i, none⟩)) ∧
    (∀ i, i < len * 2 → ((w1.setCell ⟨q, k * 2, none⟩ (.int .i64 x)).setCell ⟨q, k * 2 + 1, none⟩ (.int .i64 y)).frozen? ⟨q, i, none⟩ = false) ∧
    Below q w ((w1.setCell ⟨q, k * 2, none⟩ (.int .i64 x)).setCell ⟨q, k * 2 + 1, none⟩ (.int .i64 y)) := by
  have e0 := cellOn hb1 (h2 (k * 2) (by omega))
  have e1 := cellOn hb1 (h2 (k * 2 + 1) (by omega))
  have a1 : (w1.setCell ⟨q, k * 2, none⟩ (.int .i64 x)).cell? ⟨q, k * 2, none⟩ = some (.int .i64 x) := World.cell?_setCell_same _ _ _ e0
  have a2 : (w1.setCell ⟨q, k * 2, none⟩ (.int .i64 x)).cell? ⟨q, k * 2 + 1, none⟩ = some (rdCell wr ⟨q, k * 2 + 1, none⟩) := (World.cell?_setCell_other _ _ _ _ (by simp)).trans e1
  refine ⟨fun i hi => ?_, fun i hi => rdSet2 (cellOn hb1 (h2 i hi)), fun i hi => ?_, ?_⟩
  · by_cases hik : i = k
    · subst hik
      subst hx hy
      refine ⟨?_, ?_⟩
      · rw [Nat.zero_add]; exact (World.cell?_setCell_other _ _ _ _ (by simp)).trans a1
      · rw [Nat.zero_add]; exact World.cell?_setCell_same _ _ _ a2
    · obtain ⟨p1, p2⟩ := h1 i (by omega)
      refine ⟨?_, ?_⟩
      · exact (World.cell?_setCell_other _ _ _ _ (neOff (by omega))).trans ((World.cell?_setCell_other _ _ _ _ (neOff (by omega))).trans (cellOn hb1 p1))
      · exact (World.cell?_setCell_other _ _ _ _ (neOff (by omega))).trans ((World.cell?_setCell_other _ _ _ _ (neOff (by omega))).trans (cellOn hb1 p2))
  · simp only [World.frozen?_setCell]
    exact frozenOn hb1 (h2 i hi) (h3 i hi)
  · have hs := ltCell (h2 (k * 2) (by omega))
    exact ((hB.trans (hb1.mono (by omega))).setCell (p := ⟨q, k * 2, none⟩) (Nat.le_refl _) _).setCell (p := ⟨q, k * 2 + 1, none⟩) (Nat.le_refl _) _

/-- A slice of structs of two ints that came in, or that a law has made. -/
def SRow (w : World) (a : Option Addr) (len : Nat) (f g : Nat → Int) : Prop := len = 0 ∨ ∃ b off, a = some ⟨b, off, none⟩ ∧ Row2 w b off len f g
theorem SRow.on {w w' : World} {a : Option Addr} {len : Nat} {f g : Nat → Int} (h : SRow w a len f g) (hb : Below w.heap.size w w') : SRow w' a len f g := by
  rcases h with h | ⟨b, off, h1, h2⟩
  · exact .inl h
  · exact .inr ⟨b, off, h1, h2.on hb⟩

def eqC (w : World) (p q k : Nat) (x y : Int) : World → Prop := fun w' => w'.cell? ⟨p, k * 2, none⟩ = some (.int .i64 x) ∧ w'.cell? ⟨p, k * 2 + 1, none⟩ = some (.int .i64 y) ∧ w'.cell? ⟨q, k * 2, none⟩ = some (.int .i64 x) ∧ w'.cell? ⟨q, k * 2 + 1, none⟩ = some (.int .i64 y) ∧ Below w.heap.size w w'
theorem eqC_on {w : World} {p q k : Nat} {x y : Int} {w1 w2 : World} (hh : eqC w p q k x y w1) (hb : Below w1.heap.size w1 w2) : eqC w p q k x y w2 :=
  ⟨cellOn hb hh.1, cellOn hb hh.2.1, cellOn hb hh.2.2.1, cellOn hb hh.2.2.2.1, nbTrans hh.2.2.2.2 hb⟩

end Go.Proofs.Ytmhppadblddjoaa
