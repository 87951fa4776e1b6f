import Derived.Test.YtmhppadblddjoaaDoorZTrueRunOk
import Derived.Test.YtmhppadblddjoaaDoorZTrueTk
/- A drawn trip: what is felt is right, and the front is where it is told to be. No Go in it. -/
namespace Go.Proofs.YtmhppadblddjoaaDoor
open Go.RowKit

theorem mkHit_len {f a : Nat → Int} {m r x : Int} : ∀ k, (mkHit f a m r x k).length ≤ k
  | 0 => by simp [mkHit]
  | k + 1 => by
    have := mkHit_len (f := f) (a := a) (m := m) (r := r) (x := x) k
    rw [mkHit, List.length_append]
    split <;> simp <;> omega
theorem feltE_len {m : Int} {f a : Nat → Int} {len : Nat} {x0 : Int} {tf tc rd : Nat → Int} (hl : len ≤ 7) : ∀ n, (feltE m f a len x0 tf tc rd n).length ≤ 8 * n
  | 0 => by simp [feltE]
  | n + 1 => by
    have h1 := feltE_len (m := m) (f := f) (a := a) (x0 := x0) (tf := tf) (tc := tc) (rd := rd) hl n
    have h2 := mkHit_len (f := f) (a := a) (m := m) (r := rd n) (x := pos x0 tf (n + 1)) len
    rw [feltE, List.length_append, List.length_append]
    simp
    omega
theorem pos_in {x0 : Int} {tf : Nat → Int} {n : Nat} (h0 : 0 ≤ x0) (h1 : x0 < 900) (ht : ∀ i, i < n → 0 ≤ tf i ∧ tf i ≤ 159) : ∀ i, i ≤ n → 0 ≤ pos x0 tf i ∧ pos x0 tf i ≤ 900 + 159 * i
  | 0, _ => ⟨h0, by simp only [pos]; omega⟩
  | i + 1, hi => by
    have h2 := pos_in h0 h1 ht i (by omega)
    have h3 := ht i (by omega)
    simp only [pos]
    omega
theorem tick_get {s j : Int} {ts : List (Int × Int)} (h : ∀ e ∈ ts, TickOk s j e) (i : Nat) (hi : i < ts.length) : TickOk s j (ts.getD i (0, 0)) := by
  rw [List.getD_eq_getElem?_getD, List.getElem?_eq_getElem hi]
  exact h _ (List.getElem_mem hi)

/-- All that a trip gives. -/
theorem trip_all {s j m g o x0 l h : Int} {f a : Nat → Int} {N : Nat} {ts : List (Int × Int)} {rd : Nat → Int} (hr : rOk s j m g o = true) (hmk : marksB f a N = true) (hN : N ≤ 7) (hinj : ∀ i k, i < N → k < N → f i = f k → i = k) (h0 : 0 ≤ x0) (h1 : x0 < 900)
    (hts : ∀ e ∈ ts, TickOk s j e) (htl : ts.length ≤ 19) (hbk : bOk l h = true) (hl : l ≤ x0) (hh : x0 ≤ h) :
    ∃ E : List (Int × Int), feltA s j m g o f a N x0 (fun i => (ts.getD i (0, 0)).1) (fun i => (ts.getD i (0, 0)).2) rd ts.length ts.length = E ∧ E.length ≤ 152 ∧
      fairA s j m g o (fun i => (ts.getD i (0, 0)).1) (fun i => (ts.getD i (0, 0)).2) ts.length = true ∧
      runOk s j m g o N f a l h (fun i => (E.getD i (0, 0)).1) (fun i => (E.getD i (0, 0)).2) E.length = true ∧
      (∀ i, i < E.length → EvIs m f a N x0 (fun i => (ts.getD i (0, 0)).1) (fun i => (ts.getD i (0, 0)).2) ts.length (E.getD i (0, 0)) (ones (E.take i))) ∧
      (∀ i, i ≤ E.length → TrueSt (runSt s j m g o N f a l h (fun i => (E.getD i (0, 0)).1) (fun i => (E.getD i (0, 0)).2) i) (pos x0 (fun i => (ts.getD i (0, 0)).1) (ones (E.take i))) ∧ ones (E.take i) ≤ ts.length) := by
  have htk : ∀ i, i < ts.length → tickB s j (ts.getD i (0, 0)).1 (ts.getD i (0, 0)).2 = true := fun i hi => (tick_get hts i hi).2.2
  have hin : ∀ i, i < ts.length → 0 ≤ (ts.getD i (0, 0)).1 ∧ (ts.getD i (0, 0)).1 ≤ 159 := fun i hi => ⟨(tick_get hts i hi).1, (tick_get hts i hi).2.1⟩
  have hpos := pos_in (tf := fun i => (ts.getD i (0, 0)).1) (n := ts.length) h0 h1 hin
  have hlen := feltE_len (m := m) (f := f) (a := a) (x0 := x0) (tf := fun i => (ts.getD i (0, 0)).1) (tc := fun i => (ts.getD i (0, 0)).2) (rd := rd) hN ts.length
  have hE := feltE_at (m := m) (f := f) (a := a) (len := N) (x0 := x0) (tf := fun i => (ts.getD i (0, 0)).1) (tc := fun i => (ts.getD i (0, 0)).2) (rd := rd) ts.length
  have hto : feltTo x0 (fun i => (ts.getD i (0, 0)).1) (fun i => (ts.getD i (0, 0)).2) ts.length = true := by
    unfold feltTo
    rw [List.all_eq_true]
    intro i hi
    rw [List.mem_range] at hi
    have h2 := htk i hi
    have h3 := hpos (i + 1) (by omega)
    simp only [tickB, Bool.and_eq_true] at h2
    simp only [feltT, h2.1, Bool.true_and, decide_eq_true_eq]
    omega
  have hx : inB x0 0 100000000 = true := by simp [inB]; omega
  have htt : tickTo s j (fun i => (ts.getD i (0, 0)).1) (fun i => (ts.getD i (0, 0)).2) ts.length = true := by
    unfold tickTo
    rw [List.all_eq_true]
    intro i hi
    rw [List.mem_range] at hi
    exact htk i hi
  have hA : feltA s j m g o f a N x0 (fun i => (ts.getD i (0, 0)).1) (fun i => (ts.getD i (0, 0)).2) rd ts.length ts.length = feltE m f a N x0 (fun i => (ts.getD i (0, 0)).1) (fun i => (ts.getD i (0, 0)).2) rd ts.length := by
    have h2 : ts.length ≤ 2000 := by omega
    have h3 : (feltE m f a N x0 (fun i => (ts.getD i (0, 0)).1) (fun i => (ts.getD i (0, 0)).2) rd ts.length).length ≤ 2000 := by omega
    unfold feltA feltOk
    simp only [hr, hmk, hx, hto, h2, h3, decide_true, Bool.and_self, if_true]
  generalize feltE m f a N x0 (fun i => (ts.getD i (0, 0)).1) (fun i => (ts.getD i (0, 0)).2) rd ts.length = E at *
  have hev := true_evs (s := s) (j := j) hE htk hmk
  refine ⟨E, hA, by omega, ?_, ?_, hE, true_all hr hbk hmk hinj hE htk (fun i hi => by have := hpos i hi; omega) hl hh⟩
  · have h2 : ts.length ≤ 2000 := by omega
    simp only [fairA, hr, h2, htt, decide_true, Bool.and_self]
  · have h2 : E.length ≤ 2000 := by omega
    simp only [runOk, hr, hbk, hmk, h2, hev, decide_true, Bool.and_self]

end Go.Proofs.YtmhppadblddjoaaDoor

