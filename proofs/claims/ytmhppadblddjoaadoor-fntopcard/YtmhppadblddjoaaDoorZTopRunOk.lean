import Derived.Test.YtmhppadblddjoaaDoorZTopIAll
import Derived.Test.YtmhppadblddjoaaDoorZTopSet6
/- Every state of a run is a right one. -/
namespace Go.Proofs.YtmhppadblddjoaaDoor
open Go.RowKit

theorem st_mk {mk : Bool} {len : Nat} {kn : Bool} {l h si la od : Int} (h0 : mk = true) (h1 : -1 ≤ la ∧ la ≤ (len : Int) - 1) (h2 : 0 ≤ si ∧ si ≤ 1000000000) (h3 : 0 ≤ od ∧ od ≤ 1000000000)
    (h4 : kn = true → -100000000 ≤ l ∧ l ≤ h ∧ h ≤ 100000000) (h5 : kn = false → l = 0 ∧ h = 0 ∧ la = -1) : stB mk len kn l h si la od = true := by
  simp only [stB, inB, Bool.and_eq_true, decide_eq_true_eq]
  refine ⟨⟨⟨⟨h0, h1⟩, h2⟩, h3⟩, ?_⟩
  cases hk : kn
  · have := h5 hk
    simp [this]
  · have := h4 hk
    simp [bOk, this]
theorem st_all {mk : Bool} {len : Nat} {t : St} (h : stB mk len t.kn t.l t.h t.si t.la t.od = true) : mk = true ∧ (-1 ≤ t.la ∧ t.la ≤ (len : Int) - 1) ∧ (0 ≤ t.si ∧ t.si ≤ 1000000000) ∧ (0 ≤ t.od ∧ t.od ≤ 1000000000) ∧
    (t.kn = true → -100000000 ≤ t.l ∧ t.l ≤ t.h ∧ t.h ≤ 100000000) ∧ (t.kn = false → t.l = 0 ∧ t.h = 0 ∧ t.la = -1) := by
  simp only [stB, inB, Bool.and_eq_true, decide_eq_true_eq] at h
  obtain ⟨⟨⟨⟨h0, h1⟩, h2⟩, h3⟩, h4⟩ := h
  refine ⟨h0, h1, h2, h3, fun hk => ?_, fun hk => ?_⟩
  · rw [hk] at h4
    simp [bOk] at h4
    omega
  · rw [hk] at h4
    simp at h4
    exact ⟨h4.1.1, h4.1.2, h4.2⟩

theorem doM_st {s j m g o : Int} {len : Nat} {f a : Nat → Int} {t : St} {op n : Int} (hr : rOk s j m g o = true) (hev : evB op n = true) (hst : stB (marksB f a len) len t.kn t.l t.h t.si t.la t.od = true) :
    stB (marksB f a len) len (doM s j m len f a t op n).kn (doM s j m len f a t op n).l (doM s j m len f a t op n).h (doM s j m len f a t op n).si (doM s j m len f a t op n).la (doM s j m len f a t op n).od = true := by
  obtain ⟨hmk, hla, hsi, hod, hb, hu⟩ := st_all hst
  simp only [rOk, inB, Bool.and_eq_true, decide_eq_true_eq] at hr
  obtain ⟨⟨⟨⟨⟨hs0, hs1⟩, hj0, hj1⟩, hm0, hm1⟩, -⟩, -⟩ := hr
  obtain ⟨kn, l, h, si, la, od⟩ := t
  simp only at hla hsi hod hb hu ⊢
  rcases ev_op hev with hop | hop | hop | hop
  · have hn := evB_n1 hev hop
    simp only [inB, Bool.and_eq_true, decide_eq_true_eq] at hn
    have l0 := lst_nonneg (s := s) (j := j) (c := n) hs0
    have l1 := lst_le (s := s) (j := j) (c := n) hs0 hj0 hn.1
    have l2 := mst_ge (s := s) (j := j) (c := n) hs0 hs1 hj0 hn.1
    cases kn
    · have := hu rfl
      simp only [doM, hop, if_true, Bool.false_eq_true, if_false]
      exact st_mk hmk hla ⟨by omega, by omega⟩ hod (fun hk => by cases hk) (fun _ => this)
    · have := hb rfl
      simp only [doM, hop, if_true]
      exact st_mk hmk hla ⟨by omega, by omega⟩ hod (fun _ => ⟨by omega, by omega, by omega⟩) (fun hk => by cases hk)
  · have h1 : (op == 1) = false := by rw [eq_of_beq hop]; rfl
    rcases lastIx_cases f n len with ⟨hK, -⟩ | ⟨kk, hK, hkk, -⟩
    · simp only [doM, hop, h1, hK, if_true, Bool.false_eq_true, if_false, show ((-1 : Int) < 0) from by decide]
      exact st_mk hmk hla hsi ⟨by omega, by omega⟩ hb hu
    · have hz := mk_place hmk hkk
      simp only [inB, Bool.and_eq_true, decide_eq_true_eq] at hz
      have hlt : ¬ ((kk : Int) < 0) := by omega
      have hka : -1 ≤ (kk : Int) ∧ (kk : Int) ≤ (len : Int) - 1 := ⟨by omega, by omega⟩
      cases kn
      · simp only [doM, hop, h1, hK, if_true, Bool.false_eq_true, if_false, hlt, Int.toNat_natCast]
        exact st_mk hmk hka ⟨by omega, by omega⟩ hod (fun _ => ⟨by omega, by omega, by omega⟩) (fun hk => by cases hk)
      · have := hb rfl
        cases hmt : mB l h (min (a kk - m) 100000000) (min (a kk + m) 100000000)
        · simp only [doM, hop, h1, hK, if_true, Bool.false_eq_true, if_false, hlt, Int.toNat_natCast, hmt]
          exact st_mk hmk hka ⟨by omega, by omega⟩ ⟨by omega, by omega⟩ (fun _ => ⟨by omega, by omega, by omega⟩) (fun hk => by cases hk)
        · simp only [doM, hop, h1, hK, if_true, Bool.false_eq_true, if_false, hlt, Int.toNat_natCast, hmt]
          simp only [mB, Bool.and_eq_true, decide_eq_true_eq] at hmt
          exact st_mk hmk hka ⟨by omega, by omega⟩ hod (fun _ => ⟨by omega, by omega, by omega⟩) (fun hk => by cases hk)
  · have h1 : (op == 1) = false := by rw [eq_of_beq hop]; rfl
    have h2 : (op == 2) = false := by rw [eq_of_beq hop]; rfl
    have h4 : (op == 4) = false := by rw [eq_of_beq hop]; rfl
    simp only [doM, h1, h2, h4, Bool.false_eq_true, if_false]
    exact hst
  · have h1 : (op == 1) = false := by rw [eq_of_beq hop]; rfl
    have h2 : (op == 2) = false := by rw [eq_of_beq hop]; rfl
    simp only [doM, h1, h2, hop, Bool.false_eq_true, if_false, if_true]
    exact st_mk hmk ⟨by omega, by omega⟩ ⟨by omega, by omega⟩ hod (fun hk => by cases hk) (fun _ => ⟨rfl, rfl, rfl⟩)

section
variable {s j m g o : Int} {len : Nat} {f a : Nat → Int} {l h : Int} {fe ge : Nat → Int} {el : Nat}
theorem run_st (hr : rOk s j m g o = true) (hbk : bOk l h = true) (hmk : marksB f a len = true) (hto : evTo fe ge el = true) : ∀ k, k ≤ el →
    stB (marksB f a len) len (runSt s j m g o len f a l h fe ge k).kn (runSt s j m g o len f a l h fe ge k).l (runSt s j m g o len f a l h fe ge k).h (runSt s j m g o len f a l h fe ge k).si (runSt s j m g o len f a l h fe ge k).la (runSt s j m g o len f a l h fe ge k).od = true
  | 0, _ => by
    simp only [bOk, Bool.and_eq_true, decide_eq_true_eq] at hbk
    simp only [runSt]
    exact st_mk hmk ⟨by omega, by omega⟩ ⟨by omega, by omega⟩ ⟨by omega, by omega⟩ (fun _ => ⟨hbk.1.1, hbk.1.2, hbk.2⟩) (fun hk => by cases hk)
  | k + 1, hk => by
    have ih := run_st hr hbk hmk hto k (by omega)
    have hev := evTo_at hto (show k < el by omega)
    have : runSt s j m g o len f a l h fe ge (k + 1) = doM s j m len f a (runSt s j m g o len f a l h fe ge k) (fe k) (ge k) := by
      simp only [runSt, doA, hr, hev, ih, Bool.and_self, if_true]
    rw [this]
    exact doM_st hr hev ih
theorem run_step (hr : rOk s j m g o = true) (hbk : bOk l h = true) (hmk : marksB f a len = true) (hto : evTo fe ge el = true) (k : Nat) (hk : k < el) :
    doM s j m len f a (runSt s j m g o len f a l h fe ge k) (fe k) (ge k) = runSt s j m g o len f a l h fe ge (k + 1) := by
  have ih := run_st hr hbk hmk hto k (by omega)
  have hev := evTo_at hto hk
  simp only [runSt, doA, hr, hev, ih, Bool.and_self, if_true]
end

end Go.Proofs.YtmhppadblddjoaaDoor

