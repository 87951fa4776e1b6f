import Derived.Test.YtmhppadblddjoaaDoorZTrueMkOk
import Derived.Test.YtmhppadblddjoaaDoorZTrueW1
import Derived.Test.YtmhppadblddjoaaDoorZTrueW7
namespace Go.Proofs.YtmhppadblddjoaaDoor
open Go.RowKit

theorem marksB_at {f a : Nat → Int} {n k : Nat} (h : marksB f a n = true) (hk : k < n) : stepB f a k = true := by
  unfold marksB marksTo at h
  rw [Bool.and_eq_true, List.all_eq_true] at h
  exact h.1 k (by simpa using hk)
theorem marksB_name {f a : Nat → Int} {n k : Nat} (h : marksB f a n = true) (hk : k < n) : inB (f k) 1 1000000000 = true := by
  have := marksB_at h hk
  unfold stepB at this
  simp only [Bool.and_eq_true] at this
  exact this.1.2

end Go.Proofs.YtmhppadblddjoaaDoor

namespace Go.Proofs.YtmhppadblddjoaaDoor
open Go.RowKit

theorem Turns.frozen {p : Nat} {w w' : World} (h : Turns p w w') {b o : Nat} {v : Value} (hb : b ≠ p) (hc : w.cell? ⟨b, o, none⟩ = some v) (hf : w.frozen? ⟨b, o, none⟩ = false) : w'.frozen? ⟨b, o, none⟩ = false := by
  have := h.block b (ltCell hc) hb
  unfold World.frozen? at hf ⊢
  rw [this]; exact hf
theorem Turns.below {p : Nat} {w w1 w' : World} (h : Turns p w1 w') (hb : Below w.heap.size w w1) (hp : w.heap.size ≤ p) : Below w.heap.size w w' :=
  hb.trans ⟨h.os, h.tape, h.output, h.size, fun k hk => h.block k (Nat.lt_of_lt_of_le hk hb.size) (by omega)⟩
theorem turn6 {w : World} {q : Nat} {v0 v1 v2 v3 v4 v5 : Value} : Turns q w ((((((w.setCell ⟨q, 0, none⟩ v0).setCell ⟨q, 1, none⟩ v1).setCell ⟨q, 2, none⟩ v2).setCell ⟨q, 3, none⟩ v3).setCell ⟨q, 4, none⟩ v4).setCell ⟨q, 5, none⟩ v5) :=
  ((((((Turns.refl q w).setCell 0 v0).setCell 1 v1).setCell 2 v2).setCell 3 v3).setCell 4 v4).setCell 5 v5

theorem set6 {w : World} {q : Nat} {u0 u1 u2 u3 u4 u5 v0 v1 v2 v3 v4 v5 : Value} (h0 : w.cell? ⟨q, 0, none⟩ = some u0) (h1 : w.cell? ⟨q, 1, none⟩ = some u1) (h2 : w.cell? ⟨q, 2, none⟩ = some u2) (h3 : w.cell? ⟨q, 3, none⟩ = some u3) (h4 : w.cell? ⟨q, 4, none⟩ = some u4) (h5 : w.cell? ⟨q, 5, none⟩ = some u5) :
    ((((((w.setCell ⟨q, 0, none⟩ v0).setCell ⟨q, 1, none⟩ v1).setCell ⟨q, 2, none⟩ v2).setCell ⟨q, 3, none⟩ v3).setCell ⟨q, 4, none⟩ v4).setCell ⟨q, 5, none⟩ v5).cell? ⟨q, 0, none⟩ = some v0 ∧ ((((((w.setCell ⟨q, 0, none⟩ v0).setCell ⟨q, 1, none⟩ v1).setCell ⟨q, 2, none⟩ v2).setCell ⟨q, 3, none⟩ v3).setCell ⟨q, 4, none⟩ v4).setCell ⟨q, 5, none⟩ v5).cell? ⟨q, 1, none⟩ = some v1 ∧ ((((((w.setCell ⟨q, 0, none⟩ v0).setCell ⟨q, 1, none⟩ v1).setCell ⟨q, 2, none⟩ v2).setCell ⟨q, 3, none⟩ v3).setCell ⟨q, 4, none⟩ v4).setCell ⟨q, 5, none⟩ v5).cell? ⟨q, 2, none⟩ = some v2 ∧ ((((((w.setCell ⟨q, 0, none⟩ v0).setCell ⟨q, 1, none⟩ v1).setCell ⟨q, 2, none⟩ v2).setCell ⟨q, 3, none⟩ v3).setCell ⟨q, 4, none⟩ v4).setCell ⟨q, 5, none⟩ v5).cell? ⟨q, 3, none⟩ = some v3 ∧ ((((((w.setCell ⟨q, 0, none⟩ v0).setCell ⟨q, 1, none⟩ v1).setCell ⟨q, 2, none⟩ v2).setCell ⟨q, 3, none⟩ v3).setCell ⟨q, 4, none⟩ v4).setCell ⟨q, 5, none⟩ v5).cell? ⟨q, 4, none⟩ = some v4 ∧ ((((((w.setCell ⟨q, 0, none⟩ v0).setCell ⟨q, 1, none⟩ v1).setCell ⟨q, 2, none⟩ v2).setCell ⟨q, 3, none⟩ v3).setCell ⟨q, 4, none⟩ v4).setCell ⟨q, 5, none⟩ v5).cell? ⟨q, 5, none⟩ = some v5 := by
  have a1_0 : (w.setCell ⟨q, 0, none⟩ v0).cell? ⟨q, 0, none⟩ = some v0 := World.cell?_setCell_same _ _ _ h0
  have a1_1 : (w.setCell ⟨q, 0, none⟩ v0).cell? ⟨q, 1, none⟩ = some u1 := (World.cell?_setCell_other _ _ _ _ (by simp)).trans h1
  have a1_2 : (w.setCell ⟨q, 0, none⟩ v0).cell? ⟨q, 2, none⟩ = some u2 := (World.cell?_setCell_other _ _ _ _ (by simp)).trans h2
  have a1_3 : (w.setCell ⟨q, 0, none⟩ v0).cell? ⟨q, 3, none⟩ = some u3 := (World.cell?_setCell_other _ _ _ _ (by simp)).trans h3
  have a1_4 : (w.setCell ⟨q, 0, none⟩ v0).cell? ⟨q, 4, none⟩ = some u4 := (World.cell?_setCell_other _ _ _ _ (by simp)).trans h4
  have a1_5 : (w.setCell ⟨q, 0, none⟩ v0).cell? ⟨q, 5, none⟩ = some u5 := (World.cell?_setCell_other _ _ _ _ (by simp)).trans h5
  have a2_0 : ((w.setCell ⟨q, 0, none⟩ v0).setCell ⟨q, 1, none⟩ v1).cell? ⟨q, 0, none⟩ = some v0 := (World.cell?_setCell_other _ _ _ _ (by simp)).trans a1_0
  have a2_1 : ((w.setCell ⟨q, 0, none⟩ v0).setCell ⟨q, 1, none⟩ v1).cell? ⟨q, 1, none⟩ = some v1 := World.cell?_setCell_same _ _ _ a1_1
  have a2_2 : ((w.setCell ⟨q, 0, none⟩ v0).setCell ⟨q, 1, none⟩ v1).cell? ⟨q, 2, none⟩ = some u2 := (World.cell?_setCell_other _ _ _ _ (by simp)).trans a1_2
  have a2_3 : ((w.setCell ⟨q, 0, none⟩ v0).setCell ⟨q, 1, none⟩ v1).cell? ⟨q, 3, none⟩ = some u3 := (World.cell?_setCell_other _ _ _ _ (by simp)).trans a1_3
  have a2_4 : ((w.setCell ⟨q, 0, none⟩ v0).setCell ⟨q, 1, none⟩ v1).cell? ⟨q, 4, none⟩ = some u4 := (World.cell?_setCell_other _ _ _ _ (by simp)).trans a1_4
  have a2_5 : ((w.setCell ⟨q, 0, none⟩ v0).setCell ⟨q, 1, none⟩ v1).cell? ⟨q, 5, none⟩ = some u5 := (World.cell?_setCell_other _ _ _ _ (by simp)).trans a1_5
  have a3_0 : (((w.setCell ⟨q, 0, none⟩ v0).setCell ⟨q, 1, none⟩ v1).setCell ⟨q, 2, none⟩ v2).cell? ⟨q, 0, none⟩ = some v0 := (World.cell?_setCell_other _ _ _ _ (by simp)).trans a2_0
  have a3_1 : (((w.setCell ⟨q, 0, none⟩ v0).setCell ⟨q, 1, none⟩ v1).setCell ⟨q, 2, none⟩ v2).cell? ⟨q, 1, none⟩ = some v1 := (World.cell?_setCell_other _ _ _ _ (by simp)).trans a2_1
  have a3_2 : (((w.setCell ⟨q, 0, none⟩ v0).setCell ⟨q, 1, none⟩ v1).setCell ⟨q, 2, none⟩ v2).cell? ⟨q, 2, none⟩ = some v2 := World.cell?_setCell_same _ _ _ a2_2
  have a3_3 : (((w.setCell ⟨q, 0, none⟩ v0).setCell ⟨q, 1, none⟩ v1).setCell ⟨q, 2, none⟩ v2).cell? ⟨q, 3, none⟩ = some u3 := (World.cell?_setCell_other _ _ _ _ (by simp)).trans a2_3
  have a3_4 : (((w.setCell ⟨q, 0, none⟩ v0).setCell ⟨q, 1, none⟩ v1).setCell ⟨q, 2, none⟩ v2).cell? ⟨q, 4, none⟩ = some u4 := (World.cell?_setCell_other _ _ _ _ (by simp)).trans a2_4
  have a3_5 : (((w.setCell ⟨q, 0, none⟩ v0).setCell ⟨q, 1, none⟩ v1).setCell ⟨q, 2, none⟩ v2).cell? ⟨q, 5, none⟩ = some u5 := (World.cell?_setCell_other _ _ _ _ (by simp)).trans a2_5
  have a4_0 : ((((w.setCell ⟨q, 0, none⟩ v0).setCell ⟨q, 1, none⟩ v1).setCell ⟨q, 2, none⟩ v2).setCell ⟨q, 3, none⟩ v3).cell? ⟨q, 0, none⟩ = some v0 := (World.cell?_setCell_other _ _ _ _ (by simp)).trans a3_0
  have a4_1 : ((((w.setCell ⟨q, 0, none⟩ v0).setCell ⟨q, 1, none⟩ v1).setCell ⟨q, 2, none⟩ v2).setCell ⟨q, 3, none⟩ v3).cell? ⟨q, 1, none⟩ = some v1 := (World.cell?_setCell_other _ _ _ _ (by simp)).trans a3_1
  have a4_2 : ((((w.setCell ⟨q, 0, none⟩ v0).setCell ⟨q, 1, none⟩ v1).setCell ⟨q, 2, none⟩ v2).setCell ⟨q, 3, none⟩ v3).cell? ⟨q, 2, none⟩ = some v2 := (World.cell?_setCell_other _ _ _ _ (by simp)).trans a3_2
  have a4_3 : ((((w.setCell ⟨q, 0, none⟩ v0).setCell ⟨q, 1, none⟩ v1).setCell ⟨q, 2, none⟩ v2).setCell ⟨q, 3, none⟩ v3).cell? ⟨q, 3, none⟩ = some v3 := World.cell?_setCell_same _ _ _ a3_3
  have a4_4 : ((((w.setCell ⟨q, 0, none⟩ v0).setCell ⟨q, 1, none⟩ v1).setCell ⟨q, 2, none⟩ v2).setCell ⟨q, 3, none⟩ v3).cell? ⟨q, 4, none⟩ = some u4 := (World.cell?_setCell_other _ _ _ _ (by simp)).trans a3_4
  have a4_5 : ((((w.setCell ⟨q, 0, none⟩ v0).setCell ⟨q, 1, none⟩ v1).setCell ⟨q, 2, none⟩ v2).setCell ⟨q, 3, none⟩ v3).cell? ⟨q, 5, none⟩ = some u5 := (World.cell?_setCell_other _ _ _ _ (by simp)).trans a3_5
  have a5_0 : (((((w.setCell ⟨q, 0, none⟩ v0).setCell ⟨q, 1, none⟩ v1).setCell ⟨q, 2, none⟩ v2).setCell ⟨q, 3, none⟩ v3).setCell ⟨q, 4, none⟩ v4).cell? ⟨q, 0, none⟩ = some v0 := (World.cell?_setCell_other _ _ _ _ (by simp)).trans a4_0
  have a5_1 : (((((w.setCell ⟨q, 0, none⟩ v0).setCell ⟨q, 1, none⟩ v1).setCell ⟨q, 2, none⟩ v2).setCell ⟨q, 3, none⟩ v3).setCell ⟨q, 4, none⟩ v4).cell? ⟨q, 1, none⟩ = some v1 := (World.cell?_setCell_other _ _ _ _ (by simp)).trans a4_1
  have a5_2 : (((((w.setCell ⟨q, 0, none⟩ v0).setCell ⟨q, 1, none⟩ v1).setCell ⟨q, 2, none⟩ v2).setCell ⟨q, 3, none⟩ v3).setCell ⟨q, 4, none⟩ v4).cell? ⟨q, 2, none⟩ = some v2 := (World.cell?_setCell_other _ _ _ _ (by simp)).trans a4_2
  have a5_3 : (((((w.setCell ⟨q, 0, none⟩ v0).setCell ⟨q, 1, none⟩ v1).setCell ⟨q, 2, none⟩ v2).setCell ⟨q, 3, none⟩ v3).setCell ⟨q, 4, none⟩ v4).cell? ⟨q, 3, none⟩ = some v3 := (World.cell?_setCell_other _ _ _ _ (by simp)).trans a4_3
  have a5_4 : (((((w.setCell ⟨q, 0, none⟩ v0).setCell ⟨q, 1, none⟩ v1).setCell ⟨q, 2, none⟩ v2).setCell ⟨q, 3, none⟩ v3).setCell ⟨q, 4, none⟩ v4).cell? ⟨q, 4, none⟩ = some v4 := World.cell?_setCell_same _ _ _ a4_4
  have a5_5 : (((((w.setCell ⟨q, 0, none⟩ v0).setCell ⟨q, 1, none⟩ v1).setCell ⟨q, 2, none⟩ v2).setCell ⟨q, 3, none⟩ v3).setCell ⟨q, 4, none⟩ v4).cell? ⟨q, 5, none⟩ = some u5 := (World.cell?_setCell_other _ _ _ _ (by simp)).trans a4_5
  have a6_0 : ((((((w.setCell ⟨q, 0, none⟩ v0).setCell ⟨q, 1, none⟩ v1).setCell ⟨q, 2, none⟩ v2).setCell ⟨q, 3, none⟩ v3).setCell ⟨q, 4, none⟩ v4).setCell ⟨q, 5, none⟩ v5).cell? ⟨q, 0, none⟩ = some v0 := (World.cell?_setCell_other _ _ _ _ (by simp)).trans a5_0
  have a6_1 : ((((((w.setCell ⟨q, 0, none⟩ v0).setCell ⟨q, 1, none⟩ v1).setCell ⟨q, 2, none⟩ v2).setCell ⟨q, 3, none⟩ v3).setCell ⟨q, 4, none⟩ v4).setCell ⟨q, 5, none⟩ v5).cell? ⟨q, 1, none⟩ = some v1 := (World.cell?_setCell_other _ _ _ _ (by simp)).trans a5_1
  have a6_2 : ((((((w.setCell ⟨q, 0, none⟩ v0).setCell ⟨q, 1, none⟩ v1).setCell ⟨q, 2, none⟩ v2).setCell ⟨q, 3, none⟩ v3).setCell ⟨q, 4, none⟩ v4).setCell ⟨q, 5, none⟩ v5).cell? ⟨q, 2, none⟩ = some v2 := (World.cell?_setCell_other _ _ _ _ (by simp)).trans a5_2
  have a6_3 : ((((((w.setCell ⟨q, 0, none⟩ v0).setCell ⟨q, 1, none⟩ v1).setCell ⟨q, 2, none⟩ v2).setCell ⟨q, 3, none⟩ v3).setCell ⟨q, 4, none⟩ v4).setCell ⟨q, 5, none⟩ v5).cell? ⟨q, 3, none⟩ = some v3 := (World.cell?_setCell_other _ _ _ _ (by simp)).trans a5_3
  have a6_4 : ((((((w.setCell ⟨q, 0, none⟩ v0).setCell ⟨q, 1, none⟩ v1).setCell ⟨q, 2, none⟩ v2).setCell ⟨q, 3, none⟩ v3).setCell ⟨q, 4, none⟩ v4).setCell ⟨q, 5, none⟩ v5).cell? ⟨q, 4, none⟩ = some v4 := (World.cell?_setCell_other _ _ _ _ (by simp)).trans a5_4
  have a6_5 : ((((((w.setCell ⟨q, 0, none⟩ v0).setCell ⟨q, 1, none⟩ v1).setCell ⟨q, 2, none⟩ v2).setCell ⟨q, 3, none⟩ v3).setCell ⟨q, 4, none⟩ v4).setCell ⟨q, 5, none⟩ v5).cell? ⟨q, 5, none⟩ = some v5 := World.cell?_setCell_same _ _ _ a5_5
  exact ⟨a6_0, a6_1, a6_2, a6_3, a6_4, a6_5⟩

end Go.Proofs.YtmhppadblddjoaaDoor

namespace Go.Proofs.YtmhppadblddjoaaDoor
open Go.RowKit

theorem infoSt : (Tryd.prog.info? 37).map (fun i => (i.zero, i.size, i.bytes)) = some (some (.agg #[.bool false, .int .i64 0, .int .i64 0, .int .i64 0, .int .i64 0, .int .i64 0]), 6, 48) := by kernel_rfl

def St.cs (t : St) : List Value := [.bool t.kn, .int .i64 t.l, .int .i64 t.h, .int .i64 t.si, .int .i64 t.la, .int .i64 t.od]
def evTo (fe ge : Nat → Int) (k : Nat) : Bool := (List.range k).all fun i => evB (fe i) (ge i)
theorem evTo_snoc {fe ge : Nat → Int} {k : Nat} (h : evTo fe ge k = true) (hk : evB (fe k) (ge k) = true) : evTo fe ge (k + 1) = true := by
  unfold evTo at *
  rw [List.range_succ, List.all_append, h]
  simpa using hk
theorem evTo_at {fe ge : Nat → Int} {k n : Nat} (h : evTo fe ge n = true) (hk : k < n) : evB (fe k) (ge k) = true := by
  unfold evTo at h
  rw [List.all_eq_true] at h
  exact h k (by simpa using hk)

section
variable (s j m g o : Int) (len : Nat) (f a : Nat → Int) (l h : Int) (fe ge : Nat → Int)
def runSt : Nat → St
  | 0 => ⟨true, l, h, 0, -1, 0⟩
  | k + 1 => doA s j m g o len f a (runSt k) (fe k) (ge k)
def runCs : Nat → List Value
  | 0 => []
  | k + 1 => runCs k ++ (runSt s j m g o len f a l h fe ge (k + 1)).cs
def runOk (el : Nat) : Bool := rOk s j m g o && bOk l h && marksB f a len && decide (el ≤ 2000) && evTo fe ge el
end

theorem lowCell {B : Nat} {W w1 : World} (hb : Below B W w1) {b o : Nat} (hlt : b < B) {v : Value} (h : W.cell? ⟨b, o, none⟩ = some v) : w1.cell? ⟨b, o, none⟩ = some v := by
  rw [hb.cell (p := ⟨b, o, none⟩) hlt]; exact h
theorem lowFrozen {B : Nat} {W w1 : World} (hb : Below B W w1) {b o : Nat} (hlt : b < B) (h : W.frozen? ⟨b, o, none⟩ = false) : w1.frozen? ⟨b, o, none⟩ = false := by
  rw [hb.frozen (p := ⟨b, o, none⟩) hlt]; exact h
theorem owns_of {w w' : World} {base : Nat} {e : TypeId} {size n : Nat} {v : Value} {xs : List Value} (h : w.ownsRow base e size v n xs) (hs : ∀ k, base ≤ k → k < w.heap.size → w'.heap[k]? = w.heap[k]?) : w'.ownsRow base e size v n xs := by
  obtain ⟨h1, h2⟩ := h
  refine ⟨h1, ?_⟩
  rcases h2 with h2 | ⟨g, cap, cur, hv, hg, hh, r⟩
  · exact Or.inl h2
  · refine Or.inr ⟨g, cap, cur, hv, hg, (hs g hg ?_).trans hh, r⟩
    rcases Nat.lt_or_ge g w.heap.size with h' | h'
    · exact h'
    · rw [Array.getElem?_eq_none h'] at hh; cases hh
theorem owns_base {w : World} {base base' : Nat} {e : TypeId} {size n : Nat} {v : Value} {xs : List Value} (h : w.ownsRow base e size v n xs) (hb : base' ≤ base) : w.ownsRow base' e size v n xs := by
  obtain ⟨h1, h2⟩ := h
  refine ⟨h1, ?_⟩
  rcases h2 with h2 | ⟨g, cap, cur, hv, hg, r⟩
  · exact Or.inl h2
  · exact Or.inr ⟨g, cap, cur, hv, by omega, r⟩
theorem owns_on {w w' : World} {base : Nat} {e : TypeId} {size n : Nat} {v : Value} {xs : List Value} (h : w.ownsRow base e size v n xs) (hb : Below w.heap.size w w') : w'.ownsRow base e size v n xs :=
  owns_of h fun k _ hk => hb.block k hk
theorem owns_set {w : World} {base q o : Nat} {u : Value} {e : TypeId} {size n : Nat} {v : Value} {xs : List Value} (h : w.ownsRow base e size v n xs) (hq : q < base) : (w.setCell ⟨q, o, none⟩ u).ownsRow base e size v n xs :=
  owns_of h fun k hk _ => Below.heap_setCell w ⟨q, o, none⟩ u k (by show k ≠ q; omega)
theorem grown_low {w w' : World} {base : Nat} {e : TypeId} {size n : Nat} {v : Value} {xs : List Value} (hown : w.ownsRow base e size v n xs) (hb : base ≤ w.heap.size) (hg : w.grownBy w' v.ownBlock) : Below base w w' := by
  refine ⟨hg.os, hg.tape, hg.output, hg.size, fun k hk => ?_⟩
  rw [hg.block k (by omega) ?_]
  obtain ⟨_, h2⟩ := hown
  rcases h2 with ⟨rfl, _⟩ | ⟨g, cap, cur, rfl, hg2, _⟩
  · simp [Value.ownBlock]
  · simp [Value.ownBlock]; omega

end Go.Proofs.YtmhppadblddjoaaDoor

