import Derived.Test.YtmhppadblddjoaaDoMk
namespace Go.Proofs.Ytmhppadblddjoaa
open Go.RowKit

theorem marksB_at {f a : Nat → Int} {n k : Nat} (h : marksB f a n = true) (hk : k < n) : stepB f a k = true := by
  unfold marksB marksTo at h
  rw [Bool.and_eq_true, List.all_eq_true] at h
  exact h.1 k (by simpa using hk)
theorem marksB_place {f a : Nat → Int} {n k : Nat} (h : marksB f a n = true) (hk : k < n) : inB (a k) 0 100000000 = true := by
  have := marksB_at h hk
  unfold stepB at this
  simp only [Bool.and_eq_true] at this
  exact this.1.1.1
theorem marksB_name {f a : Nat → Int} {n k : Nat} (h : marksB f a n = true) (hk : k < n) : inB (f k) 1 1000000000 = true := by
  have := marksB_at h hk
  unfold stepB at this
  simp only [Bool.and_eq_true] at this
  exact this.1.2

theorem evB_op {op n : Int} (h : evB op n = true) : (op == 1) = true ∨ (op == 2) = true ∨ (op == 3) = true ∨ (op == 4) = true := by
  unfold evB at h
  cases h1 : (op == 1)
  · cases h2 : (op == 2)
    · cases h3 : (op == 3)
      · cases h4 : (op == 4)
        · simp [h1, h2, h3, h4] at h
        · simp
      · simp
    · simp
  · simp

theorem retS {t u : St} (h : t = u) : Ending.returned t.v = .returned u.v := by rw [h]
theorem calls_to {f : FuncId} {args : Array Value} {w : World} {v u : Value} (h : v = u) (hc : Calls Try.prog f args w fun e w' => e = .returned v ∧ Below w.heap.size w w') :
    Calls Try.prog f args w fun e w' => e = .returned u ∧ Below w.heap.size w w' := by rw [← h]; exact hc

theorem specDo_c (b off len cap : Nat) (f a : Nat → Int) (s j m g o : Int) (t : St) (op n : Int) (w : World) (hl : len ≤ 1048576) (hrow : Row2 w b off len f a) :
    Calls Try.prog 15 #[.agg #[.int .i64 s, .int .i64 j, .int .i64 m, .int .i64 g, .int .i64 o], .slice (some ⟨b, off, none⟩) len cap, t.v, .agg #[.int .i64 op, .int .i64 n]] w fun e w' => e = .returned (doA s j m g o len f a t op n).v ∧ Below w.heap.size w w' := by
  obtain ⟨kn, l, h, si, la, od⟩ := t
  cases hall : (rOk s j m g o && stB (marksB f a len) len kn l h si la od && evB op n)
  · refine calls_to ?_ (specDo_bad b off len cap f a s j m g o kn l h si la od op n w hl hrow hall)
    simp [doA, hall, St.v]
  · have hA : doA s j m g o len f a ⟨kn, l, h, si, la, od⟩ op n = doM s j m len f a ⟨kn, l, h, si, la, od⟩ op n := by simp [doA, hall]
    rw [hA]
    simp only [Bool.and_eq_true] at hall
    obtain ⟨⟨hr, hst⟩, hev⟩ := hall
    have hmk : marksB f a len = true := by
      unfold stB at hst
      simp only [Bool.and_eq_true] at hst
      exact hst.1.1.1.1
    rcases evB_op hev with hop | hop | hop | hop
    · cases kn
      · refine calls_to ?_ (specDo_wheel0 b off len cap f a s j m g o l h si la od op n w hl hrow hr hst hev hop)
        simp [doM, hop, St.v]
      · refine calls_to ?_ (specDo_wheel1 b off len cap f a s j m g o l h si la od op n w hl hrow hr hst hev hop)
        simp [doM, hop, St.v]
    · have h1 : (op == 1) = false := by rw [eq_of_beq hop]; rfl
      rcases lastIx_cases f n len with ⟨hK, -⟩ | ⟨kk, hK, hkk, -⟩
      · refine calls_to ?_ (specDo_none b off len cap f a s j m g o kn l h si la od op n w hl hrow hr hst hev hop hK)
        simp [doM, hop, h1, hK, St.v]
      · have hz := marksB_place hmk hkk
        have hn : ¬ ((kk : Int) < 0) := by omega
        cases kn
        · refine calls_to ?_ (specDo_mark0 b off len cap f a s j m g o l h si la od op n w hl hrow hr hst hev hop kk hK hkk (a kk) rfl hz)
          simp [doM, hop, h1, hK, St.v, hn]
        · cases hmt : mB l h (min (a kk - m) 100000000) (min (a kk + m) 100000000)
          · refine calls_to ?_ (specDo_mark2 b off len cap f a s j m g o l h si la od op n w hl hrow hr hst hev hop kk hK hkk (a kk) rfl hz hmt)
            simp [doM, hop, h1, hK, St.v, hn, hmt]
          · refine calls_to ?_ (specDo_mark1 b off len cap f a s j m g o l h si la od op n w hl hrow hr hst hev hop kk hK hkk (a kk) rfl hz hmt)
            simp [doM, hop, h1, hK, St.v, hn, hmt]
    · have h1 : (op == 1) = false := by rw [eq_of_beq hop]; rfl
      have h2 : (op == 2) = false := by rw [eq_of_beq hop]; rfl
      have h4 : (op == 4) = false := by rw [eq_of_beq hop]; rfl
      refine calls_to ?_ (specDo_stand b off len cap f a s j m g o kn l h si la od op n w hl hrow hr hst hev hop)
      simp [doM, h1, h2, h4, St.v]
    · have h1 : (op == 1) = false := by rw [eq_of_beq hop]; rfl
      have h2 : (op == 2) = false := by rw [eq_of_beq hop]; rfl
      refine calls_to ?_ (specDo_lose b off len cap f a s j m g o kn l h si la od op n w hl hrow hr hst hev hop)
      simp [doM, h1, h2, hop, St.v]

end Go.Proofs.Ytmhppadblddjoaa
