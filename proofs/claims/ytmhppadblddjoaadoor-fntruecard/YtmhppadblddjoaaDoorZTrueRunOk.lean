import Derived.Test.YtmhppadblddjoaaDoorZTrueFe
import Derived.Test.YtmhppadblddjoaaDoorZTrueIAll
import Derived.Test.YtmhppadblddjoaaDoorZTrueSet6
/- Every state of a run is a right one. -/
namespace Go.Proofs.YtmhppadblddjoaaDoor
open Go.RowKit

theorem st_mk {mk : Bool} {len : Nat} {kn : Bool} {l h si la od : Int} (h0 : mk = true) (h1 : -1 ≤ la ∧ la ≤ (len : Int) - 1) (h2 : 0 ≤ si ∧ si ≤ 1000000000) (h3 : 0 ≤ od ∧ od ≤ 1000000000)
    (h4 : kn = true → -100000000 ≤ l ∧ l ≤ h ∧ h ≤ 100000000) (h5 : kn = false → l = 0 ∧ h = 0 ∧ la = -1) : stB mk len kn l h si la od = true := by
  simp only [stB, inB, Bool.and_eq_true, decide_eq_true_eq]
  refine ⟨⟨⟨⟨h0, h1⟩, h2⟩, h3⟩, ?_⟩
  cases hk : kn
  · have := h5 hk
    simp [this]
  · have := h4 hk
    simp [bOk, this]
theorem st_all {mk : Bool} {len : Nat} {t : St} (h : stB mk len t.kn t.l t.h t.si t.la t.od = true) : mk = true ∧ (-1 ≤ t.la ∧ t.la ≤ (len : Int) - 1) ∧ (0 ≤ t.si ∧ t.si ≤ 1000000000) ∧ (0 ≤ t.od ∧ t.od ≤ 1000000000) ∧
    (t.kn = true → -100000000 ≤ t.l ∧ t.l ≤ t.h ∧ t.h ≤ 100000000) ∧ (t.kn = false → t.l = 0 ∧ t.h = 0 ∧ t.la = -1) := by
  simp only [stB, inB, Bool.and_eq_true, decide_eq_true_eq] at h
  obtain ⟨⟨⟨⟨h0, h1⟩, h2⟩, h3⟩, h4⟩ := h
  refine ⟨h0, h1, h2, h3, fun hk => ?_, fun hk => ?_⟩
  · rw [hk] at h4
    simp [bOk] at h4
    omega
  · rw [hk] at h4
    simp at h4
    exact ⟨h4.1.1, h4.1.2, h4.2⟩

theorem doM_st {s j m g o : Int} {len : Nat} {f a : Nat → Int} {t : St} {op n : Int} (hr : rOk s j m g o = true) (hev : evB op n = true) (hst : stB (marksB f a len) len t.kn t.l t.h t.si t.la t.od = true) :
    stB (marksB f a len) len (doM s j m len f a t op n).kn (doM s j m len f a t op n).l (doM s j m len f a t op n).h (doM s j m len f a t op n).si (doM s j m len f a t op n).la (doM s j m len f a t op n).od = true := by
  obtain ⟨hmk, hla, hsi, hod, hb, hu⟩ := st_all hst
  simp only [rOk, inB, Bool.and_eq_true, decide_eq_true_eq] at hr
  obtain ⟨⟨⟨⟨⟨hs0, hs1⟩, hj0, hj1⟩, hm0, hm1⟩, -⟩, -⟩ := hr
  obtain ⟨kn, l, h, si, la, od⟩ := t
  simp only at hla hsi hod hb hu ⊢
  rcases ev_op hev with hop | hop | hop | hop
  · have hn := evB_n1 hev hop
    simp only [inB, Bool.and_eq_true, decide_eq_true_eq] at hn
    have l0 := lst_nonneg (s := s) (j := j) (c := n) hs0
    have l1 := lst_le (s := s) (j := j) (c := n) hs0 hj0 hn.1
    have l2 := mst_ge (s := s) (j := j) (c := n) hs0 hs1 hj0 hn.1
    cases kn
    · have := hu rfl
      simp only [doM, hop, if_true, Bool.false_eq_true, if_false]
      exact st_mk hmk hla ⟨by omega, by omega⟩ hod (fun hk => by cases hk) (fun _ => this)
    · have := hb rfl
      simp only [doM, hop, if_true]
      exact st_mk hmk hla ⟨by omega, by omega⟩ hod (fun _ => ⟨by omega, by omega, by omega⟩) (fun hk => by cases hk)
  · have h1 : (op == 1) = false := by rw [eq_of_beq hop]; rfl
    rcases lastIx_cases f n len with ⟨hK, -⟩ | ⟨kk, hK, hkk, -⟩
    · simp only [doM, hop, h1, hK, if_true, Bool.false_eq_true, if_false, show ((-1 : Int) < 0) from by decide]
      exact st_mk hmk hla hsi ⟨by omega, by omega⟩ hb hu
    · have hz := mk_place hmk hkk
      simp only [inB, Bool.and_eq_true, decide_eq_true_eq] at hz
      have hlt : ¬ ((kk : Int) < 0) := by omega
      have hka : -1 ≤ (kk : Int) ∧ (kk : Int) ≤ (len : Int) - 1 := ⟨by omega, by omega⟩
      cases kn
      · simp only [doM, hop, h1, hK, if_true, Bool.false_eq_true, if_false, hlt, Int.toNat_natCast]
        exact st_mk hmk hka ⟨by omega, by omega⟩ hod (fun _ => ⟨by omega, by omega, by omega⟩) (fun hk => by cases hk)
      · have := hb rfl
        cases hmt : mB l h (min (a kk - m) 100000000) (min (a kk + m) 100000000)
        · simp only [doM, hop, h1, hK, if_true, Bool.false_eq_true, if_false, hlt, Int.toNat_natCast, hmt]
          exact st_mk hmk hka ⟨by omega, by omega⟩ ⟨by omega, by omega⟩ (fun _ => ⟨by omega, by omega, by omega⟩) (fun hk => by cases hk)
        · simp only [doM, hop, h1, hK, if_true, Bool.false_eq_true, if_false, hlt, Int.toNat_natCast, hmt]
          simp only [mB, Bool.and_eq_true, decide_eq_true_eq] at hmt
          exact st_mk hmk hka ⟨by omega, by omega⟩ hod (fun _ => ⟨by omega, by omega, by omega⟩) (fun hk => by cases hk)
  · have h1 : (op == 1) = false := by rw [eq_of_beq hop]; rfl
    have h2 : (op == 2) = false := by rw [eq_of_beq hop]; rfl
    have h4 : (op == 4) = false := by rw [eq_of_beq hop]; rfl
    simp only [doM, h1, h2, h4, Bool.false_eq_true, if_false]
    exact hst
  · have h1 : (op == 1) = false := by rw [eq_of_beq hop]; rfl
    have h2 : (op == 2) = false := by rw [eq_of_beq hop]; rfl
    simp only [doM, h1, h2, hop, Bool.false_eq_true, if_false, if_true]
    exact st_mk hmk ⟨by omega, by omega⟩ ⟨by omega, by omega⟩ hod (fun hk => by cases hk) (fun _ => ⟨rfl, rfl, rfl⟩)

section
variable {s j m g o : Int} {len : Nat} {f a : Nat → Int} {l h : Int} {fe ge : Nat → Int} {el : Nat}
theorem run_st (hr : rOk s j m g o = true) (hbk : bOk l h = true) (hmk : marksB f a len = true) (hto : evTo fe ge el = true) : ∀ k, k ≤ el →
    stB (marksB f a len) len (runSt s j m g o len f a l h fe ge k).kn (runSt s j m g o len f a l h fe ge k).l (runSt s j m g o len f a l h fe ge k).h (runSt s j m g o len f a l h fe ge k).si (runSt s j m g o len f a l h fe ge k).la (runSt s j m g o len f a l h fe ge k).od = true
  | 0, _ => by
    simp only [bOk, Bool.and_eq_true, decide_eq_true_eq] at hbk
    simp only [runSt]
    exact st_mk hmk ⟨by omega, by omega⟩ ⟨by omega, by omega⟩ ⟨by omega, by omega⟩ (fun _ => ⟨hbk.1.1, hbk.1.2, hbk.2⟩) (fun hk => by cases hk)
  | k + 1, hk => by
    have ih := run_st hr hbk hmk hto k (by omega)
    have hev := evTo_at hto (show k < el by omega)
    have : runSt s j m g o len f a l h fe ge (k + 1) = doM s j m len f a (runSt s j m g o len f a l h fe ge k) (fe k) (ge k) := by
      simp only [runSt, doA, hr, hev, ih, Bool.and_self, if_true]
    rw [this]
    exact doM_st hr hev ih
theorem run_step (hr : rOk s j m g o = true) (hbk : bOk l h = true) (hmk : marksB f a len = true) (hto : evTo fe ge el = true) (k : Nat) (hk : k < el) :
    doM s j m len f a (runSt s j m g o len f a l h fe ge k) (fe k) (ge k) = runSt s j m g o len f a l h fe ge (k + 1) := by
  have ih := run_st hr hbk hmk hto k (by omega)
  have hev := evTo_at hto hk
  simp only [runSt, doA, hr, hev, ih, Bool.and_self, if_true]
end

end Go.Proofs.YtmhppadblddjoaaDoor

/- Of a train whose wheels err no more than they may the front is in the bound at every event: the mathematics, no Go in it. -/
namespace Go.Proofs.YtmhppadblddjoaaDoor
open Go.RowKit

/-- How many of the events are wheels. -/
def ones (xs : List (Int × Int)) : Nat := xs.countP fun e => e.1 == 1
theorem ones_append (xs ys : List (Int × Int)) : ones (xs ++ ys) = ones xs + ones ys := by simp [ones]
theorem ones_snoc1 (xs : List (Int × Int)) (c : Int) : ones (xs ++ [(1, c)]) = ones xs + 1 := by simp [ones]
theorem mkHit_mem {f a : Nat → Int} {m r x : Int} : ∀ k e, e ∈ mkHit f a m r x k → e.1 = 2 ∧ ∃ q, q < k ∧ e.2 = f q ∧ inB x (a q - m) (a q + m) = true
  | 0, e, h => by simp [mkHit] at h
  | k + 1, e, h => by
    rw [mkHit, List.mem_append] at h
    rcases h with h | h
    · obtain ⟨h1, q, hq, h2⟩ := mkHit_mem k e h
      exact ⟨h1, q, by omega, h2⟩
    · split at h
      · rename_i hh
        simp at h
        subst h
        simp only [hitB, Bool.and_eq_true] at hh
        exact ⟨rfl, k, by omega, rfl, hh.2⟩
      · simp at h
theorem ones_zero {xs : List (Int × Int)} (h : ∀ e ∈ xs, e.1 = 2) : ones xs = 0 := by
  unfold ones
  rw [List.countP_eq_zero]
  intro e he
  rw [h e he]
  decide
section
variable {m : Int} {f a : Nat → Int} {len : Nat} {x0 : Int} {tf tc rd : Nat → Int}
theorem feltE_ones : ∀ n, ones (feltE m f a len x0 tf tc rd n) = n
  | 0 => rfl
  | n + 1 => by
    rw [feltE, ones_append, ones_snoc1, feltE_ones n, ones_zero (fun e he => (mkHit_mem _ e he).1)]
/-- What the i-th event is. -/
def EvIs (m : Int) (f a : Nat → Int) (len : Nat) (x0 : Int) (tf tc : Nat → Int) (n : Nat) (e : Int × Int) (c : Nat) : Prop :=
  (e = (1, tc c) ∧ c < n) ∨ (e.1 = 2 ∧ c ≤ n ∧ ∃ q, q < len ∧ e.2 = f q ∧ inB (pos x0 tf c) (a q - m) (a q + m) = true)
theorem feltE_at : ∀ n i, i < (feltE m f a len x0 tf tc rd n).length → EvIs m f a len x0 tf tc n ((feltE m f a len x0 tf tc rd n).getD i (0, 0)) (ones ((feltE m f a len x0 tf tc rd n).take i))
  | 0, i, h => by simp [feltE] at h
  | n + 1, i, h => by
    have hA := feltE_ones (m := m) (f := f) (a := a) (len := len) (x0 := x0) (tf := tf) (tc := tc) (rd := rd) n
    have ih := feltE_at n i
    rw [feltE] at h ⊢
    generalize feltE m f a len x0 tf tc rd n = A at *
    have hM := @mkHit_mem f a m (rd n) (pos x0 tf (n + 1)) len
    generalize mkHit f a m (rd n) (pos x0 tf (n + 1)) len = M at *
    by_cases h1 : i < A.length
    · have h2 := ih h1
      have e1 : (A ++ [(1, tc n)] ++ M).getD i (0, 0) = A.getD i (0, 0) := by
        simp only [List.getD_eq_getElem?_getD, List.append_assoc]
        rw [List.getElem?_append_left h1]
      have e2 : (A ++ [(1, tc n)] ++ M).take i = A.take i := by
        rw [List.append_assoc, List.take_append_of_le_length (by omega)]
      rw [e1, e2]
      rcases h2 with ⟨h3, h4⟩ | ⟨h3, h4, h5⟩
      · exact .inl ⟨h3, by omega⟩
      · exact .inr ⟨h3, by omega, h5⟩
    · by_cases h2 : i = A.length
      · subst h2
        have e1 : (A ++ [(1, tc n)] ++ M).getD A.length (0, 0) = (1, tc n) := by simp [List.getD_eq_getElem?_getD]
        have e2 : (A ++ [(1, tc n)] ++ M).take A.length = A := by simp
        rw [e1, e2, hA]
        exact .inl ⟨rfl, by omega⟩
      · simp only [List.length_append, List.length_singleton] at h
        obtain ⟨k, hk⟩ : ∃ k, i = A.length + 1 + k := ⟨i - (A.length + 1), by omega⟩
        subst hk
        have hl : (A ++ [((1 : Int), tc n)]).length = A.length + 1 := by simp
        have e1 : (A ++ [(1, tc n)] ++ M).getD (A.length + 1 + k) (0, 0) = M.getD k (0, 0) := by
          simp only [List.getD_eq_getElem?_getD]
          rw [List.getElem?_append_right (by rw [hl]; omega), hl, show A.length + 1 + k - (A.length + 1) = k by omega]
        have e2 : (A ++ [(1, tc n)] ++ M).take (A.length + 1 + k) = A ++ [(1, tc n)] ++ M.take k := by
          rw [List.take_append, hl, List.take_of_length_le (by rw [hl]; omega), show A.length + 1 + k - (A.length + 1) = k by omega]
        have hkM : k < M.length := by omega
        have hmem : M.getD k (0, 0) ∈ M := by
          rw [List.getD_eq_getElem?_getD, List.getElem?_eq_getElem hkM]
          exact List.getElem_mem hkM
        obtain ⟨g1, q, g2, g3, g4⟩ := hM _ hmem
        rw [e1, e2, ones_append, ones_snoc1, hA, ones_zero (fun e he => (hM e (List.mem_of_mem_take he)).1)]
        exact .inr ⟨g1, by omega, q, g2, g3, g4⟩
theorem ones_take_succ {xs : List (Int × Int)} {i : Nat} (hi : i < xs.length) : ones (xs.take (i + 1)) = ones (xs.take i) + (if (xs.getD i (0, 0)).1 == 1 then 1 else 0) := by
  rw [List.take_add_one, ones_append, List.getElem?_eq_getElem hi, List.getD_eq_getElem?_getD, List.getElem?_eq_getElem hi]
  simp [ones, List.countP_cons]
end

section
variable {s j m g o : Int} {f a : Nat → Int} {len : Nat} {x0 l h : Int} {tf tc rd : Nat → Int} {n : Nat}
/-- What is so of a state behind which the front is at x. -/
def TrueSt (t : St) (x : Int) : Prop := t.kn = true ∧ t.od = 0 ∧ t.l ≤ x ∧ x ≤ t.h
theorem true_do {t : St} {x y c : Int} (ht : TrueSt t x) (hf : fairB s j (y - x) c = true) (hy : y ≤ 100000000) : TrueSt (doM s j m len f a t 1 c) y := by
  obtain ⟨h1, h2, h3, h4⟩ := ht
  simp only [fairB, Bool.and_eq_true, decide_eq_true_eq] at hf
  simp only [doM, h1, beq_self_eq_true, if_true]
  exact ⟨rfl, h2, by simp only; omega, by simp only; omega⟩
theorem true_read {t : St} {x : Int} {q : Nat} (hq : q < len) (hinj : ∀ i k, i < len → k < len → f i = f k → i = k) (ht : TrueSt t x) (hh : inB x (a q - m) (a q + m) = true) (hy : x ≤ 100000000) : TrueSt (doM s j m len f a t 2 (f q)) x := by
  obtain ⟨h1, h2, h3, h4⟩ := ht
  simp only [inB, Bool.and_eq_true, decide_eq_true_eq] at hh
  have hix : lastIx f (f q) len = (q : Int) := by
    rcases lastIx_cases f (f q) len with ⟨-, h2⟩ | ⟨i, h1, h2, h3⟩
    · exact absurd rfl (h2 q hq)
    · rw [h1, hinj i q h2 hq h3]
  have hlt : ¬ ((q : Int) < 0) := by omega
  have e1 : ((2 : Int) == 1) = false := by decide
  have hmt : mB t.l t.h (min (a q - m) 100000000) (min (a q + m) 100000000) = true := by
    simp only [mB, Bool.and_eq_true, decide_eq_true_eq]
    omega
  simp only [doM, h1, e1, beq_self_eq_true, if_true, Bool.false_eq_true, if_false, hix, hlt, Int.toNat_natCast, hmt]
  exact ⟨rfl, h2, by simp only; omega, by simp only; omega⟩

variable {E : List (Int × Int)}
theorem true_evs (hE : ∀ i, i < E.length → EvIs m f a len x0 tf tc n (E.getD i (0, 0)) (ones (E.take i))) (htk : ∀ i, i < n → tickB s j (tf i) (tc i) = true) (hmk : marksB f a len = true) :
    evTo (fun i => (E.getD i (0, 0)).1) (fun i => (E.getD i (0, 0)).2) E.length = true := by
  unfold evTo
  rw [List.all_eq_true]
  intro i hi
  rw [List.mem_range] at hi
  show evB (E.getD i (0, 0)).1 (E.getD i (0, 0)).2 = true
  rcases hE i hi with ⟨h1, h2⟩ | ⟨h1, -, q, h2, h3, -⟩
  · rw [h1]
    have := htk _ h2
    simp only [tickB, numB, Bool.and_eq_true] at this
    simpa [evB] using this.1.2
  · rw [h1, h3]
    have := marksB_name hmk h2
    simpa [evB] using this
theorem true_all (hr : rOk s j m g o = true) (hbk : bOk l h = true) (hmk : marksB f a len = true) (hinj : ∀ i k, i < len → k < len → f i = f k → i = k)
    (hE : ∀ i, i < E.length → EvIs m f a len x0 tf tc n (E.getD i (0, 0)) (ones (E.take i))) (htk : ∀ i, i < n → tickB s j (tf i) (tc i) = true) (hpos : ∀ i, i ≤ n → pos x0 tf i ≤ 100000000) (hl : l ≤ x0) (hh : x0 ≤ h) :
    ∀ i, i ≤ E.length → TrueSt (runSt s j m g o len f a l h (fun i => (E.getD i (0, 0)).1) (fun i => (E.getD i (0, 0)).2) i) (pos x0 tf (ones (E.take i))) ∧ ones (E.take i) ≤ n
  | 0, _ => ⟨⟨rfl, rfl, hl, hh⟩, Nat.zero_le _⟩
  | i + 1, hi => by
    obtain ⟨ih, ihn⟩ := true_all hr hbk hmk hinj hE htk hpos hl hh i (by omega)
    rw [← run_step hr hbk hmk (true_evs hE htk hmk) i (by omega), ones_take_succ (by omega)]
    rcases hE i (by omega) with ⟨h1, h2⟩ | ⟨h1, -, q, h2, h3, h4⟩
    · have ht := htk _ h2
      simp only [tickB, Bool.and_eq_true] at ht
      simp only [h1]
      refine ⟨true_do ih ?_ (hpos _ (by simp; omega)), by simp; omega⟩
      simp only [beq_self_eq_true, if_true, pos]
      rw [Int.add_comm, Int.add_sub_cancel]
      exact ht.2
    · have e1 : ((2 : Int) == 1) = false := by decide
      simp only [h1, h3, e1, Bool.false_eq_true, if_false, Nat.add_zero]
      exact ⟨true_read h2 hinj ih h4 (hpos _ ihn), ihn⟩
end

end Go.Proofs.YtmhppadblddjoaaDoor

