import Derived.Test.YtmhppadblddjoaaTurn
namespace Go.Proofs.Ytmhppadblddjoaa
open Go.RowKit

theorem Turns.frozen {p : Nat} {w w' : World} (h : Turns p w w') {b o : Nat} {v : Value} (hb : b ≠ p) (hc : w.cell? ⟨b, o, none⟩ = some v) (hf : w.frozen? ⟨b, o, none⟩ = false) : w'.frozen? ⟨b, o, none⟩ = false := by
  have := h.block b (ltCell hc) hb
  unfold World.frozen? at hf ⊢
  rw [this]; exact hf
theorem Turns.below {p : Nat} {w w1 w' : World} (h : Turns p w1 w') (hb : Below w.heap.size w w1) (hp : w.heap.size ≤ p) : Below w.heap.size w w' :=
  hb.trans ⟨h.os, h.tape, h.output, h.size, fun k hk => h.block k (Nat.lt_of_lt_of_le hk hb.size) (by omega)⟩
theorem turn6 {w : World} {q : Nat} {v0 v1 v2 v3 v4 v5 : Value} : Turns q w ((((((w.setCell ⟨q, 0, none⟩ v0).setCell ⟨q, 1, none⟩ v1).setCell ⟨q, 2, none⟩ v2).setCell ⟨q, 3, none⟩ v3).setCell ⟨q, 4, none⟩ v4).setCell ⟨q, 5, none⟩ v5) :=
  ((((((Turns.refl q w).setCell 0 v0).setCell 1 v1).setCell 2 v2).setCell 3 v3).setCell 4 v4).setCell 5 v5

theorem set6 {w : World} {q : Nat} {u0 u1 u2 u3 u4 u5 v0 v1 v2 v3 v4 v5 : Value} (h0 : w.cell? ⟨q, 0, none⟩ = some u0) (h1 : w.cell? ⟨q, 1, none⟩ = some u1) (h2 : w.cell? ⟨q, 2, none⟩ = some u2) (h3 : w.cell? ⟨q, 3, none⟩ = some u3) (h4 : w.cell? ⟨q, 4, none⟩ = some u4) (h5 : w.cell? ⟨q, 5, none⟩ = some u5) :
    ((((((w.setCell ⟨q, 0, none⟩ v0).setCell ⟨q, 1, none⟩ v1).setCell ⟨q, 2, none⟩ v2).setCell ⟨q, 3, none⟩ v3).setCell ⟨q, 4, none⟩ v4).setCell ⟨q, 5, none⟩ v5).cell? ⟨q, 0, none⟩ = some v0 ∧ ((((((w.setCell ⟨q, 0, none⟩ v0).setCell ⟨q, 1, none⟩ v1).setCell ⟨q, 2, none⟩ v2).setCell ⟨q, 3, none⟩ v3).setCell ⟨q, 4, none⟩ v4).setCell ⟨q, 5, none⟩ v5).cell? ⟨q, 1, none⟩ = some v1 ∧ ((((((w.setCell ⟨q, 0, none⟩ v0).setCell ⟨q, 1, none⟩ v1).setCell ⟨q, 2, none⟩ v2).setCell ⟨q, 3, none⟩ v3).setCell ⟨q, 4, none⟩ v4).setCell ⟨q, 5, none⟩ v5).cell? ⟨q, 2, none⟩ = some v2 ∧ ((((((w.setCell ⟨q, 0, none⟩ v0).setCell ⟨q, 1, none⟩ v1).setCell ⟨q, 2, none⟩ v2).setCell ⟨q, 3, none⟩ v3).setCell ⟨q, 4, none⟩ v4).setCell ⟨q, 5, none⟩ v5).cell? ⟨q, 3, none⟩ = some v3 ∧ ((((((w.setCell ⟨q, 0, none⟩ v0).setCell ⟨q, 1, none⟩ v1).setCell ⟨q, 2, none⟩ v2).setCell ⟨q, 3, none⟩ v3).setCell ⟨q, 4, none⟩ v4).setCell ⟨q, 5, none⟩ v5).cell? ⟨q, 4, none⟩ = some v4 ∧ ((((((w.setCell ⟨q, 0, none⟩ v0).setCell ⟨q, 1, none⟩ v1).setCell ⟨q, 2, none⟩ v2).setCell ⟨q, 3, none⟩ v3).setCell ⟨q, 4, none⟩ v4).setCell ⟨q, 5, none⟩ v5).cell? ⟨q, 5, none⟩ = some v5 := by
  have a1_0 : (w.setCell ⟨q, 0, none⟩ v0).cell? ⟨q, 0, none⟩ = some v0 := World.cell?_setCell_same _ _ _ h0
  have a1_1 : (w.setCell ⟨q, 0, none⟩ v0).cell? ⟨q, 1, none⟩ = some u1 := (World.cell?_setCell_other _ _ _ _ (by simp)).trans h1
  have a1_2 : (w.setCell ⟨q, 0, none⟩ v0).cell? ⟨q, 2, none⟩ = some u2 := (World.cell?_setCell_other _ _ _ _ (by simp)).trans h2
  have a1_3 : (w.setCell ⟨q, 0, none⟩ v0).cell? ⟨q, 3, none⟩ = some u3 := (World.cell?_setCell_other _ _ _ _ (by simp)).trans h3
  have a1_4 : (w.setCell ⟨q, 0, none⟩ v0).cell? ⟨q, 4, none⟩ = some u4 := (World.cell?_setCell_other _ _ _ _ (by simp)).trans h4
  have a1_5 : (w.setCell ⟨q, 0, none⟩ v0).cell? ⟨q, 5, none⟩ = some u5 := (World.cell?_setCell_other _ _ _ _ (by simp)).trans h5
  have a2_0 : ((w.setCell ⟨q, 0, none⟩ v0).setCell ⟨q, 1, none⟩ v1).cell? ⟨q, 0, none⟩ = some v0 := (World.cell?_setCell_other _ _ _ _ (by simp)).trans a1_0
  have a2_1 : ((w.setCell ⟨q, 0, none⟩ v0).setCell ⟨q, 1, none⟩ v1).cell? ⟨q, 1, none⟩ = some v1 := World.cell?_setCell_same _ _ _ a1_1
  have a2_2 : ((w.setCell ⟨q, 0, none⟩ v0).setCell ⟨q, 1, none⟩ v1).cell? ⟨q, 2, none⟩ = some u2 := (World.cell?_setCell_other _ _ _ _ (by simp)).trans a1_2
  have a2_3 : ((w.setCell ⟨q, 0, none⟩ v0).setCell ⟨q, 1, none⟩ v1).cell? ⟨q, 3, none⟩ = some u3 := (World.cell?_setCell_other _ _ _ _ (by simp)).trans a1_3
  have a2_4 : ((w.setCell ⟨q, 0, none⟩ v0).setCell ⟨q, 1, none⟩ v1).cell? ⟨q, 4, none⟩ = some u4 := (World.cell?_setCell_other _ _ _ _ (by simp)).trans a1_4
  have a2_5 : ((w.setCell ⟨q, 0, none⟩ v0).setCell ⟨q, 1, none⟩ v1).cell? ⟨q, 5, none⟩ = some u5 := (World.cell?_setCell_other _ _ _ _ (by simp)).trans a1_5
  have a3_0 : (((w.setCell ⟨q, 0, none⟩ v0).setCell ⟨q, 1, none⟩ v1).setCell ⟨q, 2, none⟩ v2).cell? ⟨q, 0, none⟩ = some v0 := (World.cell?_setCell_other _ _ _ _ (by simp)).trans a2_0
  have a3_1 : (((w.setCell ⟨q, 0, none⟩ v0).setCell ⟨q, 1, none⟩ v1).setCell ⟨q, 2, none⟩ v2).cell? ⟨q, 1, none⟩ = some v1 := (World.cell?_setCell_other _ _ _ _ (by simp)).trans a2_1
  have a3_2 : (((w.setCell ⟨q, 0, none⟩ v0).setCell ⟨q, 1, none⟩ v1).setCell ⟨q, 2, none⟩ v2).cell? ⟨q, 2, none⟩ = some v2 := World.cell?_setCell_same _ _ _ a2_2
  have a3_3 : (((w.setCell ⟨q, 0, none⟩ v0).setCell ⟨q, 1, none⟩ v1).setCell ⟨q, 2, none⟩ v2).cell? ⟨q, 3, none⟩ = some u3 := (World.cell?_setCell_other _ _ _ _ (by simp)).trans a2_3
  have a3_4 : (((w.setCell ⟨q, 0, none⟩ v0).setCell ⟨q, 1, none⟩ v1).setCell ⟨q, 2, none⟩ v2).cell? ⟨q, 4, none⟩ = some u4 := (World.cell?_setCell_other _ _ _ _ (by simp)).trans a2_4
  have a3_5 : (((w.setCell ⟨q, 0, none⟩ v0).setCell ⟨q, 1, none⟩ v1).setCell ⟨q, 2, none⟩ v2).cell? ⟨q, 5, none⟩ = some u5 := (World.cell?_setCell_other _ _ _ _ (by simp)).trans a2_5
  have a4_0 : ((((w.setCell ⟨q, 0, none⟩ v0).setCell ⟨q, 1, none⟩ v1).setCell ⟨q, 2, none⟩ v2).setCell ⟨q, 3, none⟩ v3).cell? ⟨q, 0, none⟩ = some v0 := (World.cell?_setCell_other _ _ _ _ (by simp)).trans a3_0
  have a4_1 : ((((w.setCell ⟨q, 0, none⟩ v0).setCell ⟨q, 1, none⟩ v1).setCell ⟨q, 2, none⟩ v2).setCell ⟨q, 3, none⟩ v3).cell? ⟨q, 1, none⟩ = some v1 := (World.cell?_setCell_other _ _ _ _ (by simp)).trans a3_1
  have a4_2 : ((((w.setCell ⟨q, 0, none⟩ v0).setCell ⟨q, 1, none⟩ v1).setCell ⟨q, 2, none⟩ v2).setCell ⟨q, 3, none⟩ v3).cell? ⟨q, 2, none⟩ = some v2 := (World.cell?_setCell_other _ _ _ _ (by simp)).trans a3_2
  have a4_3 : ((((w.setCell ⟨q, 0, none⟩ v0).setCell ⟨q, 1, none⟩ v1).setCell ⟨q, 2, none⟩ v2).setCell ⟨q, 3, none⟩ v3).cell? ⟨q, 3, none⟩ = some v3 := World.cell?_setCell_same _ _ _ a3_3
  have a4_4 : ((((w.setCell ⟨q, 0, none⟩ v0).setCell ⟨q, 1, none⟩ v1).setCell ⟨q, 2, none⟩ v2).setCell ⟨q, 3, none⟩ v3).cell? ⟨q, 4, none⟩ = some u4 := (World.cell?_setCell_other _ _ _ _ (by simp)).trans a3_4
  have a4_5 : ((((w.setCell ⟨q, 0, none⟩ v0).setCell ⟨q, 1, none⟩ v1).setCell ⟨q, 2, none⟩ v2).setCell ⟨q, 3, none⟩ v3).cell? ⟨q, 5, none⟩ = some u5 := (World.cell?_setCell_other _ _ _ _ (by simp)).trans a3_5
  have a5_0 : (((((w.setCell ⟨q, 0, none⟩ v0).setCell ⟨q, 1, none⟩ v1).setCell ⟨q, 2, none⟩ v2).setCell ⟨q, 3, none⟩ v3).setCell ⟨q, 4, none⟩ v4).cell? ⟨q, 0, none⟩ = some v0 := (World.cell?_setCell_other _ _ _ _ (by simp)).trans a4_0
  have a5_1 : (((((w.setCell ⟨q, 0, none⟩ v0).setCell ⟨q, 1, none⟩ v1).setCell ⟨q, 2, none⟩ v2).setCell ⟨q, 3, none⟩ v3).setCell ⟨q, 4, none⟩ v4).cell? ⟨q, 1, none⟩ = some v1 := (World.cell?_setCell_other _ _ _ _ (by simp)).trans a4_1
  have a5_2 : (((((w.setCell ⟨q, 0, none⟩ v0).setCell ⟨q, 1, none⟩ v1).setCell ⟨q, 2, none⟩ v2).setCell ⟨q, 3, none⟩ v3).setCell ⟨q, 4, none⟩ v4).cell? ⟨q, 2, none⟩ = some v2 := (World.cell?_setCell_other _ _ _ _ (by simp)).trans a4_2
  have a5_3 : (((((w.setCell ⟨q, 0, none⟩ v0).setCell ⟨q, 1, none⟩ v1).setCell ⟨q, 2, none⟩ v2).setCell ⟨q, 3, none⟩ v3).setCell ⟨q, 4, none⟩ v4).cell? ⟨q, 3, none⟩ = some v3 := (World.cell?_setCell_other _ _ _ _ (by simp)).trans a4_3
  have a5_4 : (((((w.setCell ⟨q, 0, none⟩ v0).setCell ⟨q, 1, none⟩ v1).setCell ⟨q, 2, none⟩ v2).setCell ⟨q, 3, none⟩ v3).setCell ⟨q, 4, none⟩ v4).cell? ⟨q, 4, none⟩ = some v4 := World.cell?_setCell_same _ _ _ a4_4
  have a5_5 : (((((w.setCell ⟨q, 0, none⟩ v0).setCell ⟨q, 1, none⟩ v1).setCell ⟨q, 2, none⟩ v2).setCell ⟨q, 3, none⟩ v3).setCell ⟨q, 4, none⟩ v4).cell? ⟨q, 5, none⟩ = some u5 := (World.cell?_setCell_other _ _ _ _ (by simp)).trans a4_5
  have a6_0 : ((((((w.setCell ⟨q, 0, none⟩ v0).setCell ⟨q, 1, none⟩ v1).setCell ⟨q, 2, none⟩ v2).setCell ⟨q, 3, none⟩ v3).setCell ⟨q, 4, none⟩ v4).setCell ⟨q, 5, none⟩ v5).cell? ⟨q, 0, none⟩ = some v0 := (World.cell?_setCell_other _ _ _ _ (by simp)).trans a5_0
  have a6_1 : ((((((w.setCell ⟨q, 0, none⟩ v0).setCell ⟨q, 1, none⟩ v1).setCell ⟨q, 2, none⟩ v2).setCell ⟨q, 3, none⟩ v3).setCell ⟨q, 4, none⟩ v4).setCell ⟨q, 5, none⟩ v5).cell? ⟨q, 1, none⟩ = some v1 := (World.cell?_setCell_other _ _ _ _ (by simp)).trans a5_1
  have a6_2 : ((((((w.setCell ⟨q, 0, none⟩ v0).setCell ⟨q, 1, none⟩ v1).setCell ⟨q, 2, none⟩ v2).setCell ⟨q, 3, none⟩ v3).setCell ⟨q, 4, none⟩ v4).setCell ⟨q, 5, none⟩ v5).cell? ⟨q, 2, none⟩ = some v2 := (World.cell?_setCell_other _ _ _ _ (by simp)).trans a5_2
  have a6_3 : ((((((w.setCell ⟨q, 0, none⟩ v0).setCell ⟨q, 1, none⟩ v1).setCell ⟨q, 2, none⟩ v2).setCell ⟨q, 3, none⟩ v3).setCell ⟨q, 4, none⟩ v4).setCell ⟨q, 5, none⟩ v5).cell? ⟨q, 3, none⟩ = some v3 := (World.cell?_setCell_other _ _ _ _ (by simp)).trans a5_3
  have a6_4 : ((((((w.setCell ⟨q, 0, none⟩ v0).setCell ⟨q, 1, none⟩ v1).setCell ⟨q, 2, none⟩ v2).setCell ⟨q, 3, none⟩ v3).setCell ⟨q, 4, none⟩ v4).setCell ⟨q, 5, none⟩ v5).cell? ⟨q, 4, none⟩ = some v4 := (World.cell?_setCell_other _ _ _ _ (by simp)).trans a5_4
  have a6_5 : ((((((w.setCell ⟨q, 0, none⟩ v0).setCell ⟨q, 1, none⟩ v1).setCell ⟨q, 2, none⟩ v2).setCell ⟨q, 3, none⟩ v3).setCell ⟨q, 4, none⟩ v4).setCell ⟨q, 5, none⟩ v5).cell? ⟨q, 5, none⟩ = some v5 := World.cell?_setCell_same _ _ _ a5_5
  exact ⟨a6_0, a6_1, a6_2, a6_3, a6_4, a6_5⟩

end Go.Proofs.Ytmhppadblddjoaa
