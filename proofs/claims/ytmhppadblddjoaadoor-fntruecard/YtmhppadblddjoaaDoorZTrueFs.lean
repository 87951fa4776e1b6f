import Derived.Maps.AppendAt
import Derived.Test.YtmhppadblddjoaaDoorZTrueIFa
import Derived.Test.YtmhppadblddjoaaDoorZTrueIMkS
import Derived.Test.YtmhppadblddjoaaDoorZTrueRel2
/- Chapter 4 of the program: what Felt keeps in its boxes while it feels. -/
namespace Go.Proofs.YtmhppadblddjoaaDoor
open Go.RowKit Go.Shelf

theorem blkOn {W W' : World} (hb : Below W.heap.size W W') {b : Nat} {o : Obj} (h : W.heap[b]? = some o) : W'.heap[b]? = some o := (hb.block b (Array.getElem?_eq_some_iff.1 h).1).trans h
theorem blkKept {A C : World} {row : Option Nat} {b : Nat} {o : Obj} (h : A.heap[b]? = some o) (ho : o.isCells = true) (hg : A.grownBy C row) (hr : ∀ r, row = some r → ∃ o : Obj, A.heap[r]? = some o ∧ o.isCells = false) : C.heap[b]? = some o :=
  (hg.block b (Array.getElem?_eq_some_iff.1 h).1 (fun e => by
    obtain ⟨o2, h2, h3⟩ := hr b e.symm
    rw [h] at h2; cases h2; rw [ho] at h3; cases h3)).trans h
theorem blkRow {A C : World} {b : Nat} {cs : Array Value} {t e : TypeId} {fz : Nat × Nat} (h : A.heap[b]? = some (.cells cs t fz)) (hte : t ≠ e) {base size k : Nat} {v : Value} {xs : List Value} (hr : A.ownsRow base e size v k xs) (hg : A.grownBy C v.ownBlock) : C.heap[b]? = some (.cells cs t fz) :=
  (hg.block b (Array.getElem?_eq_some_iff.1 h).1 (fun e' => by
    rcases hr.2 with ⟨rfl, _⟩ | ⟨g, cap, cur, rfl, _, hgb, _⟩
    · simp [Value.ownBlock] at e'
    · obtain rfl : b = g := by simpa [Value.ownBlock] using e'
      rw [h] at hgb
      simp at hgb
      exact hte hgb.2.1)).trans h
theorem blkSet {A : World} {b B : Nat} {o : Obj} {v : Value} (h : A.heap[b]? = some o) (hne : b ≠ B) : (A.setCell ⟨B, 0, none⟩ v).heap[b]? = some o := ((grownBy_setCell' A B v).block b (Array.getElem?_eq_some_iff.1 h).1 (fun e => hne (by cases e; rfl))).trans h

/-- The boxes. -/
structure FeS (w : World) (eb rb : Nat) (s j m g o : Int) (mv tv rv v : Value) (W : World) : Prop where
  r : W.heap[w.heap.size]? = some (.cells #[.int .i64 s, .int .i64 j, .int .i64 m, .int .i64 g, .int .i64 o] 24)
  k : Boxed W (w.heap.size + 1) 25 mv
  t : Boxed W (w.heap.size + 1 + 1) 39 tv
  d : Boxed W (w.heap.size + 1 + 1 + 1) 40 rv
  q : Boxed W (w.heap.size + 1 + 1 + 1 + 1) 28 (.slice none 0 0)
  e : Boxed W eb 28 v
  b : W.heap[rb]? = some (.cells #[.int .i64 s, .int .i64 j, .int .i64 m, .int .i64 g, .int .i64 o] 24)
  low : Below w.heap.size w W

theorem FeS.on {w : World} {eb rb : Nat} {s j m g o : Int} {mv tv rv v : Value} {W W' : World} (h : FeS w eb rb s j m g o mv tv rv v W) (hb : Below W.heap.size W W') : FeS w eb rb s j m g o mv tv rv v W' :=
  ⟨blkOn hb h.r, blkOn hb h.k, blkOn hb h.t, blkOn hb h.d, blkOn hb h.q, blkOn hb h.e, blkOn hb h.b, nbTrans h.low hb⟩
/-- Behind an append to the events and the store of what it gives. -/
theorem FeS.app {w : World} {eb rb : Nat} {s j m g o : Int} {mv tv rv v v' : Value} {W w1 : World} {k n : Nat} {xs ys : List Value} (h : FeS w eb rb s j m g o mv tv rv v W) (he : w.heap.size + 1 + 1 + 1 + 1 < eb) (her : eb ≠ rb)
    (hrow : W.ownsRow w.heap.size 48 2 v k xs) (hg : W.grownBy w1 v.ownBlock) (hown' : w1.ownsRow w.heap.size 48 2 v' n ys) :
    Boxed w1 eb 28 v ∧ FeS w eb rb s j m g o mv tv rv v' (w1.setCell ⟨eb, 0, none⟩ v') ∧ (w1.setCell ⟨eb, 0, none⟩ v').ownsRow w.heap.size 48 2 v' n ys ∧ KeepsOthers W (w1.setCell ⟨eb, 0, none⟩ v') := by
  have hv1 : Boxed w1 eb 28 v := h.e.kept hg (h.e.not_row (by decide) hrow)
  have hb : Below w.heap.size W w1 := (Below.refl _ W).grown hg h.low.size fun j ej => (hrow.lt j ej).1
  refine ⟨hv1, ⟨blkSet (blkRow h.r (by decide) hrow hg) (by omega), blkSet (blkRow h.k (by decide) hrow hg) (by omega), blkSet (blkRow h.t (by decide) hrow hg) (by omega), blkSet (blkRow h.d (by decide) hrow hg) (by omega), blkSet (blkRow h.q (by decide) hrow hg) (by omega), hv1.set v', blkSet (blkRow h.b (by decide) hrow hg) (Ne.symm her), (h.low.trans hb).setCell (p := ⟨eb, 0, none⟩) (by show w.heap.size ≤ eb; omega) v'⟩, hown'.kept (grownBy_setCell' w1 eb v') (.inr (hv1.not_row (by decide) hown').symm), ?_⟩
  refine (KeepsOthers.of_grownBy hg fun j o ej hj => ?_).trans (KeepsOthers.setCell _ _ _)
  rcases hrow.2 with ⟨rfl, _⟩ | ⟨g, cap, cur, rfl, _, hgb, _⟩
  · simp [Value.ownBlock] at ej
  · obtain rfl : g = j := by simpa [Value.ownBlock] using ej
    rw [hgb] at hj; cases hj; rfl
theorem FeS.set {w : World} {eb rb : Nat} {s j m g o : Int} {mv tv rv v : Value} {W : World} (h : FeS w eb rb s j m g o mv tv rv v W) : Below w.heap.size w (W.setCell ⟨w.heap.size + 1 + 1 + 1 + 1, 0, none⟩ (.slice none 0 0)) :=
  h.low.setCell (p := ⟨w.heap.size + 1 + 1 + 1 + 1, 0, none⟩) (by show w.heap.size ≤ w.heap.size + 1 + 1 + 1 + 1; omega) _
theorem owns_kept {A C : World} {row : Option Nat} {base size k : Nat} {e : TypeId} {v : Value} {xs : List Value} (h : A.ownsRow base e size v k xs) (hg : A.grownBy C row) (hr : ∀ r, row = some r → ∃ o : Obj, A.heap[r]? = some o ∧ o.isCells = false) : C.ownsRow base e size v k xs := by
  refine h.kept hg ?_
  rcases h.2 with ⟨rfl, _⟩ | ⟨g, cap, cur, rfl, _, hgb, _⟩
  · exact .inl rfl
  · refine .inr fun e' => ?_
    obtain ⟨o, ho, hc⟩ := hr g (by simpa [Value.ownBlock] using e'.symm)
    rw [hgb] at ho; cases ho; cases hc

/-- What comes of a tick. -/
def evT (m : Int) (f a : Nat → Int) (len : Nat) (x0 : Int) (tf tc rd : Nat → Int) (i : Nat) : List (Int × Int) := [(1, tc i)] ++ mkHit f a m (rd i) (pos x0 tf (i + 1)) len
def evsT (m : Int) (f a : Nat → Int) (len : Nat) (x0 : Int) (tf tc rd : Nat → Int) {n : Nat} (pre : List (Fin n)) : List (Int × Int) := pre.flatMap fun i => evT m f a len x0 tf tc rd i.1
theorem evsT_up {m : Int} {f a : Nat → Int} {len : Nat} {x0 : Int} {tf tc rd : Nat → Int} {n : Nat} : ∀ {k : Nat}, k ≤ n → evsT m f a len x0 tf tc rd (up n k) = feltE m f a len x0 tf tc rd k
  | 0, _ => by simp [evsT, up, feltE]
  | k + 1, h => by
    rw [up_succ h, feltE, ← evsT_up (Nat.le_of_succ_le h)]
    simp [evsT, evT, List.append_assoc]
theorem feltE_le {m : Int} {f a : Nat → Int} {len : Nat} {x0 : Int} {tf tc rd : Nat → Int} {k n : Nat} (h : k ≤ n) : (feltE m f a len x0 tf tc rd k).length ≤ (feltE m f a len x0 tf tc rd n).length := by
  induction n with
  | zero => rw [Nat.le_zero.1 h]; exact Nat.le_refl _
  | succ n ih =>
    by_cases hk : k = n + 1
    · rw [hk]; exact Nat.le_refl _
    · refine Nat.le_trans (ih (by omega)) ?_
      rw [feltE]
      simp only [List.length_append]
      omega
theorem mkHit_lenF {f a : Nat → Int} {m r x : Int} : ∀ {k : Nat}, (mkHit f a m r x k).length ≤ k
  | 0 => by simp [mkHit]
  | k + 1 => by
    have := mkHit_lenF (f := f) (a := a) (m := m) (r := r) (x := x) (k := k)
    unfold mkHit
    split <;> simp <;> omega
theorem mkHit_none {f a : Nat → Int} {m r x : Int} (h : r ≠ 1) : ∀ {k : Nat}, mkHit f a m r x k = []
  | 0 => rfl
  | k + 1 => by rw [mkHit_no (by simp [hitB, h]), mkHit_none h]
theorem cells2_append (xs ys : List (Int × Int)) : cells2 (xs ++ ys) = cells2 xs ++ cells2 ys := by simp [cells2]
theorem cells2_len : ∀ xs : List (Int × Int), (cells2 xs).length = xs.length * 2
  | [] => rfl
  | x :: xs => by
    have := cells2_len xs
    simp only [cells2, List.flatMap_cons, List.length_append, List.length_cons, List.length_nil] at *
    omega
theorem cells2_one {xs : List (Int × Int)} : ∀ u ∈ cells2 xs, u.oneCell' = true := fun u hu => by
  simp only [cells2, List.mem_flatMap] at hu
  obtain ⟨e, _, he⟩ := hu
  simp at he
  rcases he with rfl | rfl <;> rfl

theorem fd_felt (s j x0 : Int) (tf tc : Nat → Int) (i : Nat) : (if fdT s j x0 tf tc i = 0 then false else hasB (fdT s j x0 tf tc i) 5) = !feltT x0 tf tc i := by
  unfold fdT fdOf feltT
  cases numB (tf i) (tc i)
  · kernel_rfl
  · by_cases h : 100000000 < pos x0 tf (i + 1)
    · have h1 : decide (pos x0 tf (i + 1) ≤ 100000000) = false := by simp; omega
      cases fairB s j (tf i) (tc i)
      all_goals
        simp only [h, h1, Bool.false_eq_true, if_true, if_false]
        first | rfl | decide
    · have h1 : decide (pos x0 tf (i + 1) ≤ 100000000) = true := by simp; omega
      cases fairB s j (tf i) (tc i)
      all_goals
        simp only [h, h1, Bool.false_eq_true, if_true, if_false]
        first | rfl | decide
theorem hasFault_e (s j x0 : Int) (tf tc : Nat → Int) (i : Nat) (w : World) (hV : Vars w) :
    Calls Tryd.prog 52 #[erT s j x0 tf tc i, .int .i64 5] w fun e w' => e = .returned (.bool (!feltT x0 tf tc i)) ∧ Below w.heap.size w w' := by
  rw [← fd_felt s j x0 tf tc i]
  exact hasFault_c _ _ _ _ hV

end Go.Proofs.YtmhppadblddjoaaDoor

