import Derived.Test.YtmhppadblddjoabStS
namespace Go.Proofs.Ytmhppadblddjoab
open Go.RowKit

def mkSt (x : Int) : St := ⟨x % 3 == 0, x + 1, x + 1 + 1, x + 1 + 1 + 1, x + 1 + 1 + 1 + 1, x + 1 + 1 + 1 + 1 + 1⟩

theorem set6o {w : World} {q b : Nat} {u0 u1 u2 u3 u4 u5 v0 v1 v2 v3 v4 v5 : Value} (h0 : w.cell? ⟨q, b, none⟩ = some u0) (h1 : w.cell? ⟨q, b + 1, none⟩ = some u1) (h2 : w.cell? ⟨q, b + 2, none⟩ = some u2) (h3 : w.cell? ⟨q, b + 3, none⟩ = some u3) (h4 : w.cell? ⟨q, b + 4, none⟩ = some u4) (h5 : w.cell? ⟨q, b + 5, none⟩ = some u5) :
    ((((((w.setCell ⟨q, b, none⟩ (v0)).setCell ⟨q, b + 1, none⟩ (v1)).setCell ⟨q, b + 2, none⟩ (v2)).setCell ⟨q, b + 3, none⟩ (v3)).setCell ⟨q, b + 4, none⟩ (v4)).setCell ⟨q, b + 5, none⟩ (v5)).cell? ⟨q, b, none⟩ = some v0 ∧ ((((((w.setCell ⟨q, b, none⟩ (v0)).setCell ⟨q, b + 1, none⟩ (v1)).setCell ⟨q, b + 2, none⟩ (v2)).setCell ⟨q, b + 3, none⟩ (v3)).setCell ⟨q, b + 4, none⟩ (v4)).setCell ⟨q, b + 5, none⟩ (v5)).cell? ⟨q, b + 1, none⟩ = some v1 ∧ ((((((w.setCell ⟨q, b, none⟩ (v0)).setCell ⟨q, b + 1, none⟩ (v1)).setCell ⟨q, b + 2, none⟩ (v2)).setCell ⟨q, b + 3, none⟩ (v3)).setCell ⟨q, b + 4, none⟩ (v4)).setCell ⟨q, b + 5, none⟩ (v5)).cell? ⟨q, b + 2, none⟩ = some v2 ∧ ((((((w.setCell ⟨q, b, none⟩ (v0)).setCell ⟨q, b + 1, none⟩ (v1)).setCell ⟨q, b + 2, none⟩ (v2)).setCell ⟨q, b + 3, none⟩ (v3)).setCell ⟨q, b + 4, none⟩ (v4)).setCell ⟨q, b + 5, none⟩ (v5)).cell? ⟨q, b + 3, none⟩ = some v3 ∧ ((((((w.setCell ⟨q, b, none⟩ (v0)).setCell ⟨q, b + 1, none⟩ (v1)).setCell ⟨q, b + 2, none⟩ (v2)).setCell ⟨q, b + 3, none⟩ (v3)).setCell ⟨q, b + 4, none⟩ (v4)).setCell ⟨q, b + 5, none⟩ (v5)).cell? ⟨q, b + 4, none⟩ = some v4 ∧ ((((((w.setCell ⟨q, b, none⟩ (v0)).setCell ⟨q, b + 1, none⟩ (v1)).setCell ⟨q, b + 2, none⟩ (v2)).setCell ⟨q, b + 3, none⟩ (v3)).setCell ⟨q, b + 4, none⟩ (v4)).setCell ⟨q, b + 5, none⟩ (v5)).cell? ⟨q, b + 5, none⟩ = some v5 := by
  have a1_0 : (w.setCell ⟨q, b, none⟩ v0).cell? ⟨q, b, none⟩ = some v0 := World.cell?_setCell_same _ _ _ h0
  have a1_1 : (w.setCell ⟨q, b, none⟩ v0).cell? ⟨q, b + 1, none⟩ = some u1 := (World.cell?_setCell_other _ _ _ _ (by simp)).trans h1
  have a1_2 : (w.setCell ⟨q, b, none⟩ v0).cell? ⟨q, b + 2, none⟩ = some u2 := (World.cell?_setCell_other _ _ _ _ (by simp)).trans h2
  have a1_3 : (w.setCell ⟨q, b, none⟩ v0).cell? ⟨q, b + 3, none⟩ = some u3 := (World.cell?_setCell_other _ _ _ _ (by simp)).trans h3
  have a1_4 : (w.setCell ⟨q, b, none⟩ v0).cell? ⟨q, b + 4, none⟩ = some u4 := (World.cell?_setCell_other _ _ _ _ (by simp)).trans h4
  have a1_5 : (w.setCell ⟨q, b, none⟩ v0).cell? ⟨q, b + 5, none⟩ = some u5 := (World.cell?_setCell_other _ _ _ _ (by simp)).trans h5
  have a2_0 : ((w.setCell ⟨q, b, none⟩ v0).setCell ⟨q, b + 1, none⟩ v1).cell? ⟨q, b, none⟩ = some v0 := (World.cell?_setCell_other _ _ _ _ (by simp)).trans a1_0
  have a2_1 : ((w.setCell ⟨q, b, none⟩ v0).setCell ⟨q, b + 1, none⟩ v1).cell? ⟨q, b + 1, none⟩ = some v1 := World.cell?_setCell_same _ _ _ a1_1
  have a2_2 : ((w.setCell ⟨q, b, none⟩ v0).setCell ⟨q, b + 1, none⟩ v1).cell? ⟨q, b + 2, none⟩ = some u2 := (World.cell?_setCell_other _ _ _ _ (by simp)).trans a1_2
  have a2_3 : ((w.setCell ⟨q, b, none⟩ v0).setCell ⟨q, b + 1, none⟩ v1).cell? ⟨q, b + 3, none⟩ = some u3 := (World.cell?_setCell_other _ _ _ _ (by simp)).trans a1_3
  have a2_4 : ((w.setCell ⟨q, b, none⟩ v0).setCell ⟨q, b + 1, none⟩ v1).cell? ⟨q, b + 4, none⟩ = some u4 := (World.cell?_setCell_other _ _ _ _ (by simp)).trans a1_4
  have a2_5 : ((w.setCell ⟨q, b, none⟩ v0).setCell ⟨q, b + 1, none⟩ v1).cell? ⟨q, b + 5, none⟩ = some u5 := (World.cell?_setCell_other _ _ _ _ (by simp)).trans a1_5
  have a3_0 : (((w.setCell ⟨q, b, none⟩ v0).setCell ⟨q, b + 1, none⟩ v1).setCell ⟨q, b + 2, none⟩ v2).cell? ⟨q, b, none⟩ = some v0 := (World.cell?_setCell_other _ _ _ _ (by simp)).trans a2_0
  have a3_1 : (((w.setCell ⟨q, b, none⟩ v0).setCell ⟨q, b + 1, none⟩ v1).setCell ⟨q, b + 2, none⟩ v2).cell? ⟨q, b + 1, none⟩ = some v1 := (World.cell?_setCell_other _ _ _ _ (by simp)).trans a2_1
  have a3_2 : (((w.setCell ⟨q, b, none⟩ v0).setCell ⟨q, b + 1, none⟩ v1).setCell ⟨q, b + 2, none⟩ v2).cell? ⟨q, b + 2, none⟩ = some v2 := World.cell?_setCell_same _ _ _ a2_2
  have a3_3 : (((w.setCell ⟨q, b, none⟩ v0).setCell ⟨q, b + 1, none⟩ v1).setCell ⟨q, b + 2, none⟩ v2).cell? ⟨q, b + 3, none⟩ = some u3 := (World.cell?_setCell_other _ _ _ _ (by simp)).trans a2_3
  have a3_4 : (((w.setCell ⟨q, b, none⟩ v0).setCell ⟨q, b + 1, none⟩ v1).setCell ⟨q, b + 2, none⟩ v2).cell? ⟨q, b + 4, none⟩ = some u4 := (World.cell?_setCell_other _ _ _ _ (by simp)).trans a2_4
  have a3_5 : (((w.setCell ⟨q, b, none⟩ v0).setCell ⟨q, b + 1, none⟩ v1).setCell ⟨q, b + 2, none⟩ v2).cell? ⟨q, b + 5, none⟩ = some u5 := (World.cell?_setCell_other _ _ _ _ (by simp)).trans a2_5
  have a4_0 : ((((w.setCell ⟨q, b, none⟩ v0).setCell ⟨q, b + 1, none⟩ v1).setCell ⟨q, b + 2, none⟩ v2).setCell ⟨q, b + 3, none⟩ v3).cell? ⟨q, b, none⟩ = some v0 := (World.cell?_setCell_other _ _ _ _ (by simp)).trans a3_0
  have a4_1 : ((((w.setCell ⟨q, b, none⟩ v0).setCell ⟨q, b + 1, none⟩ v1).setCell ⟨q, b + 2, none⟩ v2).setCell ⟨q, b + 3, none⟩ v3).cell? ⟨q, b + 1, none⟩ = some v1 := (World.cell?_setCell_other _ _ _ _ (by simp)).trans a3_1
  have a4_2 : ((((w.setCell ⟨q, b, none⟩ v0).setCell ⟨q, b + 1, none⟩ v1).setCell ⟨q, b + 2, none⟩ v2).setCell ⟨q, b + 3, none⟩ v3).cell? ⟨q, b + 2, none⟩ = some v2 := (World.cell?_setCell_other _ _ _ _ (by simp)).trans a3_2
  have a4_3 : ((((w.setCell ⟨q, b, none⟩ v0).setCell ⟨q, b + 1, none⟩ v1).setCell ⟨q, b + 2, none⟩ v2).setCell ⟨q, b + 3, none⟩ v3).cell? ⟨q, b + 3, none⟩ = some v3 := World.cell?_setCell_same _ _ _ a3_3
  have a4_4 : ((((w.setCell ⟨q, b, none⟩ v0).setCell ⟨q, b + 1, none⟩ v1).setCell ⟨q, b + 2, none⟩ v2).setCell ⟨q, b + 3, none⟩ v3).cell? ⟨q, b + 4, none⟩ = some u4 := (World.cell?_setCell_other _ _ _ _ (by simp)).trans a3_4
  have a4_5 : ((((w.setCell ⟨q, b, none⟩ v0).setCell ⟨q, b + 1, none⟩ v1).setCell ⟨q, b + 2, none⟩ v2).setCell ⟨q, b + 3, none⟩ v3).cell? ⟨q, b + 5, none⟩ = some u5 := (World.cell?_setCell_other _ _ _ _ (by simp)).trans a3_5
  have a5_0 : (((((w.setCell ⟨q, b, none⟩ v0).setCell ⟨q, b + 1, none⟩ v1).setCell ⟨q, b + 2, none⟩ v2).setCell ⟨q, b + 3, none⟩ v3).setCell ⟨q, b + 4, none⟩ v4).cell? ⟨q, b, none⟩ = some v0 := (World.cell?_setCell_other _ _ _ _ (by simp)).trans a4_0
  have a5_1 : (((((w.setCell ⟨q, b, none⟩ v0).setCell ⟨q, b + 1, none⟩ v1).setCell ⟨q, b + 2, none⟩ v2).setCell ⟨q, b + 3, none⟩ v3).setCell ⟨q, b + 4, none⟩ v4).cell? ⟨q, b + 1, none⟩ = some v1 := (World.cell?_setCell_other _ _ _ _ (by simp)).trans a4_1
  have a5_2 : (((((w.setCell ⟨q, b, none⟩ v0).setCell ⟨q, b + 1, none⟩ v1).setCell ⟨q, b + 2, none⟩ v2).setCell ⟨q, b + 3, none⟩ v3).setCell ⟨q, b + 4, none⟩ v4).cell? ⟨q, b + 2, none⟩ = some v2 := (World.cell?_setCell_other _ _ _ _ (by simp)).trans a4_2
  have a5_3 : (((((w.setCell ⟨q, b, none⟩ v0).setCell ⟨q, b + 1, none⟩ v1).setCell ⟨q, b + 2, none⟩ v2).setCell ⟨q, b + 3, none⟩ v3).setCell ⟨q, b + 4, none⟩ v4).cell? ⟨q, b + 3, none⟩ = some v3 := (World.cell?_setCell_other _ _ _ _ (by simp)).trans a4_3
  have a5_4 : (((((w.setCell ⟨q, b, none⟩ v0).setCell ⟨q, b + 1, none⟩ v1).setCell ⟨q, b + 2, none⟩ v2).setCell ⟨q, b + 3, none⟩ v3).setCell ⟨q, b + 4, none⟩ v4).cell? ⟨q, b + 4, none⟩ = some v4 := World.cell?_setCell_same _ _ _ a4_4
  have a5_5 : (((((w.setCell ⟨q, b, none⟩ v0).setCell ⟨q, b + 1, none⟩ v1).setCell ⟨q, b + 2, none⟩ v2).setCell ⟨q, b + 3, none⟩ v3).setCell ⟨q, b + 4, none⟩ v4).cell? ⟨q, b + 5, none⟩ = some u5 := (World.cell?_setCell_other _ _ _ _ (by simp)).trans a4_5
  have a6_0 : ((((((w.setCell ⟨q, b, none⟩ v0).setCell ⟨q, b + 1, none⟩ v1).setCell ⟨q, b + 2, none⟩ v2).setCell ⟨q, b + 3, none⟩ v3).setCell ⟨q, b + 4, none⟩ v4).setCell ⟨q, b + 5, none⟩ v5).cell? ⟨q, b, none⟩ = some v0 := (World.cell?_setCell_other _ _ _ _ (by simp)).trans a5_0
  have a6_1 : ((((((w.setCell ⟨q, b, none⟩ v0).setCell ⟨q, b + 1, none⟩ v1).setCell ⟨q, b + 2, none⟩ v2).setCell ⟨q, b + 3, none⟩ v3).setCell ⟨q, b + 4, none⟩ v4).setCell ⟨q, b + 5, none⟩ v5).cell? ⟨q, b + 1, none⟩ = some v1 := (World.cell?_setCell_other _ _ _ _ (by simp)).trans a5_1
  have a6_2 : ((((((w.setCell ⟨q, b, none⟩ v0).setCell ⟨q, b + 1, none⟩ v1).setCell ⟨q, b + 2, none⟩ v2).setCell ⟨q, b + 3, none⟩ v3).setCell ⟨q, b + 4, none⟩ v4).setCell ⟨q, b + 5, none⟩ v5).cell? ⟨q, b + 2, none⟩ = some v2 := (World.cell?_setCell_other _ _ _ _ (by simp)).trans a5_2
  have a6_3 : ((((((w.setCell ⟨q, b, none⟩ v0).setCell ⟨q, b + 1, none⟩ v1).setCell ⟨q, b + 2, none⟩ v2).setCell ⟨q, b + 3, none⟩ v3).setCell ⟨q, b + 4, none⟩ v4).setCell ⟨q, b + 5, none⟩ v5).cell? ⟨q, b + 3, none⟩ = some v3 := (World.cell?_setCell_other _ _ _ _ (by simp)).trans a5_3
  have a6_4 : ((((((w.setCell ⟨q, b, none⟩ v0).setCell ⟨q, b + 1, none⟩ v1).setCell ⟨q, b + 2, none⟩ v2).setCell ⟨q, b + 3, none⟩ v3).setCell ⟨q, b + 4, none⟩ v4).setCell ⟨q, b + 5, none⟩ v5).cell? ⟨q, b + 4, none⟩ = some v4 := (World.cell?_setCell_other _ _ _ _ (by simp)).trans a5_4
  have a6_5 : ((((((w.setCell ⟨q, b, none⟩ v0).setCell ⟨q, b + 1, none⟩ v1).setCell ⟨q, b + 2, none⟩ v2).setCell ⟨q, b + 3, none⟩ v3).setCell ⟨q, b + 4, none⟩ v4).setCell ⟨q, b + 5, none⟩ v5).cell? ⟨q, b + 5, none⟩ = some v5 := World.cell?_setCell_same _ _ _ a5_5
  exact ⟨a6_0, a6_1, a6_2, a6_3, a6_4, a6_5⟩

theorem cellFar6 {w : World} {q b i : Nat} {v0 v1 v2 v3 v4 v5 u : Value} (h : w.cell? ⟨q, i, none⟩ = some u) (hi : i < b ∨ b + 6 ≤ i) : ((((((w.setCell ⟨q, b, none⟩ (v0)).setCell ⟨q, b + 1, none⟩ (v1)).setCell ⟨q, b + 2, none⟩ (v2)).setCell ⟨q, b + 3, none⟩ (v3)).setCell ⟨q, b + 4, none⟩ (v4)).setCell ⟨q, b + 5, none⟩ (v5)).cell? ⟨q, i, none⟩ = some u :=
  (World.cell?_setCell_other _ _ _ _ (neOff (by omega))).trans ((World.cell?_setCell_other _ _ _ _ (neOff (by omega))).trans ((World.cell?_setCell_other _ _ _ _ (neOff (by omega))).trans ((World.cell?_setCell_other _ _ _ _ (neOff (by omega))).trans ((World.cell?_setCell_other _ _ _ _ (neOff (by omega))).trans ((World.cell?_setCell_other _ _ _ _ (neOff (by omega))).trans (h))))))
theorem rdSet6 {w : World} {q b i : Nat} {v0 v1 v2 v3 v4 v5 u : Value} (h : w.cell? ⟨q, i, none⟩ = some u) : ((((((w.setCell ⟨q, b, none⟩ (v0)).setCell ⟨q, b + 1, none⟩ (v1)).setCell ⟨q, b + 2, none⟩ (v2)).setCell ⟨q, b + 3, none⟩ (v3)).setCell ⟨q, b + 4, none⟩ (v4)).setCell ⟨q, b + 5, none⟩ (v5)).cell? ⟨q, i, none⟩ = some (rdCell ((((((w.setCell ⟨q, b, none⟩ (v0)).setCell ⟨q, b + 1, none⟩ (v1)).setCell ⟨q, b + 2, none⟩ (v2)).setCell ⟨q, b + 3, none⟩ (v3)).setCell ⟨q, b + 4, none⟩ (v4)).setCell ⟨q, b + 5, none⟩ (v5)) ⟨q, i, none⟩) := by
  have h2 := rdSet2 (p1 := ⟨q, b, none⟩) (p2 := ⟨q, b + 1, none⟩) (v1 := v0) (v2 := v1) h
  have h3 := rdSet2 (p1 := ⟨q, b + 2, none⟩) (p2 := ⟨q, b + 3, none⟩) (v1 := v2) (v2 := v3) h2
  exact rdSet2 h3

set_option maxHeartbeats 2000000 in
theorem markStateS_1 (q n c1 : Nat) (x : Int) (t : Nat → St) (w : World) (hl : n ≤ 1048576) (hx0 : 0 ≤ x) (hx1 : x ≤ 100000000) (hr : Row6 w q n t) (hf : ∀ i, i < n * 6 → w.frozen? ⟨q, i, none⟩ = false) :
    Calls Try.prog 42 #[.slice (some ⟨q, 0, none⟩) n c1, .int .i64 x] w fun e w' => e = .returned (.int .i64 (x + 6 * n)) ∧ Row6 w' q n (fun i => mkSt (x + 6 * i)) ∧ Turns q w w' := by
  have hc0 : ∀ i, i < n * 6 → w.cell? ⟨q, i, none⟩ = some (rdCell w ⟨q, i, none⟩) := fun i hi => by
    have h2 := hr (i / 6) (by omega)
    rcases (by omega : i = (i / 6) * 6 ∨ i = (i / 6) * 6 + 1 ∨ i = (i / 6) * 6 + 2 ∨ i = (i / 6) * 6 + 3 ∨ i = (i / 6) * 6 + 4 ∨ i = (i / 6) * 6 + 5) with h | h | h | h | h | h
    · rw [h]; exact rdOf h2.1
    · rw [h]; exact rdOf h2.2.1
    · rw [h]; exact rdOf h2.2.2.1
    · rw [h]; exact rdOf h2.2.2.2.1
    · rw [h]; exact rdOf h2.2.2.2.2.1
    · rw [h]; exact rdOf h2.2.2.2.2.2
  go_enter Try.func42, Try.ntmps42
  go_wp2_with fail
  go_loopw [1, 5] (fun xv iv wr => ∃ k : Nat, iv = .int .i64 k ∧ xv = .int .i64 (x + 6 * k) ∧ k ≤ n ∧ Row6 wr q k (fun i => mkSt (x + 6 * i)) ∧ (∀ i, i < n * 6 → wr.cell? ⟨q, i, none⟩ = some (rdCell wr ⟨q, i, none⟩)) ∧ (∀ i, i < n * 6 → wr.frozen? ⟨q, i, none⟩ = false) ∧ Turns q w wr) (fun _ iv _ => n - (intOf iv).toNat)
  case atStart => exact ⟨0, rfl, by simp, by omega, fun i hi => by omega, hc0, hf, Turns.refl _ _⟩
  case round =>
    obtain ⟨k, rfl, rfl, hk, h1, h2, h3, hT⟩ := hrel
    by_cases hlt : k < n
    · have i0 : (0 : Int) ≤ (k : Int) := by omega
      have i1 : (k : Int) < (n : Int) := by omega
      have e0 := h2 (k * 6) (by omega)
      have f0 := h3 (k * 6) (by omega)
      have e1 := h2 (k * 6 + 1) (by omega)
      have f1 := h3 (k * 6 + 1) (by omega)
      have e2 := h2 (k * 6 + 2) (by omega)
      have f2 := h3 (k * 6 + 2) (by omega)
      have e3 := h2 (k * 6 + 3) (by omega)
      have f3 := h3 (k * 6 + 3) (by omega)
      have e4 := h2 (k * 6 + 4) (by omega)
      have f4 := h3 (k * 6 + 4) (by omega)
      have e5 := h2 (k * 6 + 5) (by omega)
      have f5 := h3 (k * 6 + 5) (by omega)
      have wr1 : IntKind.i64.wrap (x + 6 * k + 1) = x + 6 * k + 1 := wrapS (by omega) (by omega)
      have wr2 : IntKind.i64.wrap (x + 6 * k + 1 + 1) = x + 6 * k + 1 + 1 := wrapS (by omega) (by omega)
      have wr3 : IntKind.i64.wrap (x + 6 * k + 1 + 1 + 1) = x + 6 * k + 1 + 1 + 1 := wrapS (by omega) (by omega)
      have wr4 : IntKind.i64.wrap (x + 6 * k + 1 + 1 + 1 + 1) = x + 6 * k + 1 + 1 + 1 + 1 := wrapS (by omega) (by omega)
      have wr5 : IntKind.i64.wrap (x + 6 * k + 1 + 1 + 1 + 1 + 1) = x + 6 * k + 1 + 1 + 1 + 1 + 1 := wrapS (by omega) (by omega)
      have wr6 : IntKind.i64.wrap (x + 6 * k + 1 + 1 + 1 + 1 + 1 + 1) = x + 6 * k + 1 + 1 + 1 + 1 + 1 + 1 := wrapS (by omega) (by omega)
      have H1 : Hid (Row6 wr q k (fun i => mkSt (x + 6 * i))) := h1
      have H2 : Hid (∀ i, i < n * 6 → wr.cell? ⟨q, i, none⟩ = some (rdCell wr ⟨q, i, none⟩)) := h2
      have H3 : Hid (∀ i, i < n * 6 → wr.frozen? ⟨q, i, none⟩ = false) := h3
      clear h1 h2 h3 hr hf hc0
      have S := set6o (b := k * 6) (v0 := .bool ((x + 6 * k) % 3 == 0)) (v1 := .int .i64 (x + 6 * k + 1)) (v2 := .int .i64 (x + 6 * k + 1 + 1)) (v3 := .int .i64 (x + 6 * k + 1 + 1 + 1)) (v4 := .int .i64 (x + 6 * k + 1 + 1 + 1 + 1)) (v5 := .int .i64 (x + 6 * k + 1 + 1 + 1 + 1 + 1)) e0 e1 e2 e3 e4 e5
      have R6 : Row6 ((((((wr.setCell ⟨q, k * 6, none⟩ (.bool ((x + 6 * k) % 3 == 0))).setCell ⟨q, k * 6 + 1, none⟩ (.int .i64 (x + 6 * k + 1))).setCell ⟨q, k * 6 + 2, none⟩ (.int .i64 (x + 6 * k + 1 + 1))).setCell ⟨q, k * 6 + 3, none⟩ (.int .i64 (x + 6 * k + 1 + 1 + 1))).setCell ⟨q, k * 6 + 4, none⟩ (.int .i64 (x + 6 * k + 1 + 1 + 1 + 1))).setCell ⟨q, k * 6 + 5, none⟩ (.int .i64 (x + 6 * k + 1 + 1 + 1 + 1 + 1))) q (k + 1) (fun i => mkSt (x + 6 * i)) := fun i hi => by
        by_cases hik : i = k
        · subst hik; exact S
        · have h9 := H1.out i (by omega)
          exact ⟨cellFar6 h9.1 (by omega), cellFar6 h9.2.1 (by omega), cellFar6 h9.2.2.1 (by omega), cellFar6 h9.2.2.2.1 (by omega), cellFar6 h9.2.2.2.2.1 (by omega), cellFar6 h9.2.2.2.2.2 (by omega)⟩
      clear S
      go_wp2_with fail
      go_roundw
      case rel => simp only [show k * 6 + 1 + 1 = k * 6 + 2 from rfl]; exact ⟨k + 1, by go_num, (by congr 1; omega), by omega, R6, fun i hi => rdSet6 (H2.out i hi), fun i hi => (World.frozen?_setCell _ _ _ _).trans ((World.frozen?_setCell _ _ _ _).trans ((World.frozen?_setCell _ _ _ _).trans ((World.frozen?_setCell _ _ _ _).trans ((World.frozen?_setCell _ _ _ _).trans ((World.frozen?_setCell _ _ _ _).trans (H3.out i hi)))))), ((((((hT).setCell _ _).setCell _ _).setCell _ _).setCell _ _).setCell _ _).setCell _ _⟩
      case measure => simp [intOf]; omega
    · have hkl : n = k := by omega
      subst hkl
      go_wp2_with fail
      go_ret
      exact ⟨rfl, h1, hT⟩

set_option maxHeartbeats 2000000 in
theorem heldStateS_1 (q n c1 : Nat) (x : Int) (w : World) (hl : n ≤ 1048576) (hx0 : 0 ≤ x) (hx1 : x ≤ 100000000) (hr : Row6 w q n (fun i => mkSt (x + 6 * i))) :
    Calls Try.prog 43 #[.slice (some ⟨q, 0, none⟩) n c1, .int .i64 x] w fun e w' => e = .returned (.int .i64 (x + 6 * n)) ∧ w = w' := by
  go_enter Try.func43, Try.ntmps43
  go_wp2_with fail
  go_loopw [1, 5] (fun xv iv wr => ∃ k : Nat, iv = .int .i64 k ∧ xv = .int .i64 (x + 6 * k) ∧ k ≤ n ∧ w = wr) (fun _ iv _ => n - (intOf iv).toNat)
  case atStart => exact ⟨0, rfl, by simp, by omega, rfl⟩
  case round =>
    obtain ⟨k, rfl, rfl, hk, rfl⟩ := hrel
    by_cases hlt : k < n
    · have i0 : (0 : Int) ≤ (k : Int) := by omega
      have i1 : (k : Int) < (n : Int) := by omega
      have e0 : w.cell? ⟨q, k * 6, none⟩ = some (.bool ((x + 6 * k) % 3 == 0)) := (hr k hlt).1
      have e1 : w.cell? ⟨q, k * 6 + 1, none⟩ = some (.int .i64 (x + 6 * k + 1)) := (hr k hlt).2.1
      have e2 : w.cell? ⟨q, k * 6 + 2, none⟩ = some (.int .i64 (x + 6 * k + 1 + 1)) := (hr k hlt).2.2.1
      have e3 : w.cell? ⟨q, k * 6 + 3, none⟩ = some (.int .i64 (x + 6 * k + 1 + 1 + 1)) := (hr k hlt).2.2.2.1
      have e4 : w.cell? ⟨q, k * 6 + 4, none⟩ = some (.int .i64 (x + 6 * k + 1 + 1 + 1 + 1)) := (hr k hlt).2.2.2.2.1
      have e5 : w.cell? ⟨q, k * 6 + 5, none⟩ = some (.int .i64 (x + 6 * k + 1 + 1 + 1 + 1 + 1)) := (hr k hlt).2.2.2.2.2
      have wr1 : IntKind.i64.wrap (x + 6 * k + 1) = x + 6 * k + 1 := wrapS (by omega) (by omega)
      have wr2 : IntKind.i64.wrap (x + 6 * k + 1 + 1) = x + 6 * k + 1 + 1 := wrapS (by omega) (by omega)
      have wr3 : IntKind.i64.wrap (x + 6 * k + 1 + 1 + 1) = x + 6 * k + 1 + 1 + 1 := wrapS (by omega) (by omega)
      have wr4 : IntKind.i64.wrap (x + 6 * k + 1 + 1 + 1 + 1) = x + 6 * k + 1 + 1 + 1 + 1 := wrapS (by omega) (by omega)
      have wr5 : IntKind.i64.wrap (x + 6 * k + 1 + 1 + 1 + 1 + 1) = x + 6 * k + 1 + 1 + 1 + 1 + 1 := wrapS (by omega) (by omega)
      have wr6 : IntKind.i64.wrap (x + 6 * k + 1 + 1 + 1 + 1 + 1 + 1) = x + 6 * k + 1 + 1 + 1 + 1 + 1 + 1 := wrapS (by omega) (by omega)
      go_wp2_with fail
      go_roundw
      case rel => exact ⟨k + 1, by go_num, (by congr 1; omega), by omega, (by first | rfl | trivial)⟩
      case measure => simp [intOf]; omega
    · have hkl : n = k := by omega
      subst hkl
      go_wp2_with fail
      go_ret
      exact ⟨rfl, rfl⟩

end Go.Proofs.Ytmhppadblddjoab
