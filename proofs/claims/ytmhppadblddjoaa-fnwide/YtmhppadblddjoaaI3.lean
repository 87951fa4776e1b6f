/- Chapter 3 of the program: the next mark, by halves; how wide. -/
import Derived.Test.YtmhppadblddjoaaI3a
import Derived.Test.YtmhppadblddjoaaIDoC
namespace Go.Proofs.Ytmhppadblddjoaa
open Go.RowKit

theorem nxt_at {a : Nat → Int} {l : Int} {K len : Nat} (hK : K ≤ len) (h1 : ∀ i, i < K → a i ≤ l) (h2 : K < len → l < a K) : ∀ n k, k + n = K → nxt a l k (len - k) = if K = len then -1 else (K : Int)
  | 0, k, e => by
    have e' : k = K := by omega
    subst e'
    by_cases hh : k = len
    · subst hh; simp [nxt]
    · rw [nxt_step (by omega), if_pos (h2 (by omega)), if_neg hh]
  | n + 1, k, e => by
    have := h1 k (by omega)
    rw [nxt_step (by omega), if_neg (by omega)]
    exact nxt_at hK h1 h2 n (k + 1) (by omega)
theorem rises_step {f a : Nat → Int} {n : Nat} (h : marksB f a n = true) {i : Nat} (hi : i + 1 < n) : a i < a (i + 1) := by
  unfold marksB marksTo at h
  rw [Bool.and_eq_true, List.all_eq_true] at h
  have := h.1 (i + 1) (by simpa using hi)
  unfold stepB at this
  simp only [Bool.and_eq_true, Bool.or_eq_true, decide_eq_true_eq, Nat.add_sub_cancel] at this
  have h2 := this.1.1.2
  simpa using h2
theorem rises {f a : Nat → Int} {n : Nat} (h : marksB f a n = true) {i : Nat} : ∀ d, i + d < n → a i ≤ a (i + d)
  | 0, _ => by simp
  | d + 1, hd => by
    have h1 := rises h (i := i) d (by omega)
    have h2 := rises_step h (i := i + d) (by omega)
    rw [show i + (d + 1) = i + d + 1 by omega]
    omega
theorem rises_to {f a : Nat → Int} {n i k : Nat} (h : marksB f a n = true) (hik : i ≤ k) (hk : k < n) : a i ≤ a k := by
  have := rises h (i := i) (k - i) (by omega)
  rwa [show i + (k - i) = k by omega] at this

def nxC (w : World) (pm ps b off len cap k : Nat) (l x : Int) : World → Prop := fun w' => w'.cell? ⟨pm, 0, none⟩ = some (.slice (some ⟨b, off, none⟩) len cap) ∧ w'.cell? ⟨ps, 1, none⟩ = some (.int .i64 l) ∧ w'.cell? ⟨b, off + k * 2 + 1, none⟩ = some (.int .i64 x) ∧ Below w.heap.size w w'
theorem nxC_on {w : World} {pm ps b off len cap k : Nat} {l x : Int} {w1 w2 : World} (hh : nxC w pm ps b off len cap k l x w1) (hb : Below w1.heap.size w1 w2) : nxC w pm ps b off len cap k l x w2 :=
  ⟨cellOn hb hh.1, cellOn hb hh.2.1, cellOn hb hh.2.2.1, nbTrans hh.2.2.2 hb⟩

set_option maxHeartbeats 1000000 in
theorem next1_c (pm ps b off len cap k : Nat) (f a : Nat → Int) (l : Int) (w : World) (hk : k < len) (hm : w.cell? ⟨pm, 0, none⟩ = some (.slice (some ⟨b, off, none⟩) len cap)) (hs : w.cell? ⟨ps, 1, none⟩ = some (.int .i64 l)) (hrow : Row2 w b off len f a) :
    Calls Try.prog 62 #[.int .i64 (k : Int), .pointer (some ⟨pm, 0, none⟩), .pointer (some ⟨ps, 0, none⟩)] w fun e w' => e = .returned (.bool (decide (l < a k))) ∧ Below w.heap.size w w' := by
  have d1 := (hrow k hk).2
  have i0 : (0 : Int) ≤ (k : Int) := by omega
  have i1 : (k : Int) < (len : Int) := by omega
  go_enter Try.func62, Try.ntmps62
  go_wp2_with fail
  refine region_kept (nxC w pm ps b off len cap k l (a k)) (by kernel_rfl) (by kernel_rfl) ?_ ?_
  · refine ⟨?_, ?_, ?_, Below.drew (Below.refl _ _)⟩ <;> simpa using (by assumption)
  intro hN_
  have k0 : ∀ d : Kept (nxC w pm ps b off len cap k l (a k)), d.w.cell? ⟨pm, 0, none⟩ = some (.slice (some ⟨b, off, none⟩) len cap) := fun d => d.h.1
  have k1 : ∀ d : Kept (nxC w pm ps b off len cap k l (a k)), d.w.cell? ⟨ps, 1, none⟩ = some (.int .i64 l) := fun d => d.h.2.1
  have k2 : ∀ d : Kept (nxC w pm ps b off len cap k l (a k)), d.w.cell? ⟨b, off + k * 2 + 1, none⟩ = some (.int .i64 (a k)) := fun d => d.h.2.2.1
  repeat (go_big_quiet_step (first | exact rfl))
  refine wpQuiet_nil ?_
  rintro w6 ⟨d, hd2⟩
  have hd := d.h
  rw [← hd2] at hd
  clear hd2 k0 k1 k2
  go_wp2_with fail
  go_ret
  exact ⟨rfl, hd.2.2.2⟩

set_option maxHeartbeats 2000000 in
theorem firstWhere_c (pm ps : Nat) (ad : Option Addr) (len cap : Nat) (f a : Nat → Int) (l : Int) (w : World) (hl : len ≤ 1048576) (hM : Hid (marksB f a len = true)) (hm : w.cell? ⟨pm, 0, none⟩ = some (.slice ad len cap)) (hs : w.cell? ⟨ps, 1, none⟩ = some (.int .i64 l)) (hrow : SRow w ad len f a) :
    Calls Try.prog 63 #[.int .i64 (len : Int), .func (.func 62) #[] #[.pointer (some ⟨pm, 0, none⟩), .pointer (some ⟨ps, 0, none⟩)]] w fun e w' => ∃ K : Nat, e = .returned (.int .i64 (K : Int)) ∧ K ≤ len ∧ Hid (∀ i, i < K → a i ≤ l) ∧ Hid (K < len → l < a K) ∧ Below w.heap.size w w' := by
  have HS : Hid (w.cell? ⟨pm, 0, none⟩ = some (.slice ad len cap)) := hm
  have HT : Hid (w.cell? ⟨ps, 1, none⟩ = some (.int .i64 l)) := hs
  clear hm hs
  go_enter Try.func63, Try.ntmps63
  go_wp2_with fail
  go_loopw [5, 6] (fun lo hi wr => ∃ L H : Nat, lo = .int .i64 L ∧ hi = .int .i64 H ∧ L ≤ H ∧ H ≤ len ∧ Hid (∀ i, i < L → a i ≤ l) ∧ Hid (∀ i, H ≤ i → i < len → l < a i) ∧ Below w.heap.size w wr) (fun lo hi _ => (intOf hi).toNat - (intOf lo).toNat)
  case atStart => exact ⟨0, len, rfl, rfl, by omega, by omega, fun i hi => absurd hi (by omega), fun i h1 h2 => absurd h1 (by omega), Below.refl _ _⟩
  case round =>
    obtain ⟨L, H, rfl, rfl, hLH, hHl, hx, hy, hB⟩ := hrel
    by_cases hlt : L < H
    · obtain ⟨M, hMd⟩ : ∃ M, M = L + (H - L) / 2 := ⟨_, rfl⟩
      have eM : (L : Int) + ((H : Int) - (L : Int)) / 2 = (M : Int) := by omega
      have hM1 : L ≤ M := by omega
      have hM2 : M < H := by omega
      have HMd : Hid (M = L + (H - L) / 2) := hMd
      clear hMd
      rcases hrow with h0 | ⟨b, off, rfl, hrow⟩
      · omega
      by_cases hg : l < a M
      · go_wp2_with fail
        refine (next1_c pm ps b off len cap M f a l wr (by omega) (cellOn hB HS.out) (cellOn hB HT.out) (hrow.on hB)).mono ?_
        rintro e w2 ⟨rfl, hb2⟩
        go_wp2_with fail
        go_roundw
        case rel => exact ⟨L, M, rfl, by go_num, by omega, by omega, hx, fun i h1 h2 => by have := rises_to hM.out h1 h2; omega, nbTrans hB hb2⟩
        case measure => simp [intOf]; omega
      · go_wp2_with fail
        refine (next1_c pm ps b off len cap M f a l wr (by omega) (cellOn hB HS.out) (cellOn hB HT.out) (hrow.on hB)).mono ?_
        rintro e w2 ⟨rfl, hb2⟩
        go_wp2_with fail
        go_roundw
        case rel => exact ⟨M + 1, H, by go_num, rfl, by omega, by omega, fun i h1 => by have := rises_to hM.out (show i ≤ M by omega) (by omega); omega, hy, nbTrans hB hb2⟩
        case measure => simp [intOf]; omega
    · have e : L = H := by omega
      subst e
      go_wp2_with fail
      go_ret
      exact ⟨L, rfl, hHl, hx, fun h => hy.out L (Nat.le_refl _) h, hB⟩

def nmC (w : World) (ad : Option Addr) (len cap : Nat) (kn : Bool) (l h si la od : Int) : World → Prop := fun w' => w'.cell? ⟨w.heap.size, 0, none⟩ = some (.slice ad len cap) ∧ w'.cell? ⟨w.heap.size + 1, 0, none⟩ = some (.bool kn) ∧ w'.cell? ⟨w.heap.size + 1, 1, none⟩ = some (.int .i64 l) ∧ w'.cell? ⟨w.heap.size + 1, 2, none⟩ = some (.int .i64 h) ∧ w'.cell? ⟨w.heap.size + 1, 3, none⟩ = some (.int .i64 si) ∧ w'.cell? ⟨w.heap.size + 1, 4, none⟩ = some (.int .i64 la) ∧ w'.cell? ⟨w.heap.size + 1, 5, none⟩ = some (.int .i64 od) ∧ Below w.heap.size w w'
theorem nmC_on {w : World} {ad : Option Addr} {len cap : Nat} {kn : Bool} {l h si la od : Int} {w1 w2 : World} (hh : nmC w ad len cap kn l h si la od w1) (hb : Below w1.heap.size w1 w2) : nmC w ad len cap kn l h si la od w2 :=
  ⟨cellOn hb hh.1, cellOn hb hh.2.1, cellOn hb hh.2.2.1, cellOn hb hh.2.2.2.1, cellOn hb hh.2.2.2.2.1, cellOn hb hh.2.2.2.2.2.1, cellOn hb hh.2.2.2.2.2.2.1, nbTrans hh.2.2.2.2.2.2.2 hb⟩

set_option maxHeartbeats 2000000 in
theorem implNext_s (ad : Option Addr) (len cap : Nat) (f a : Nat → Int) (kn : Bool) (l h si la od : Int) (w : World) (hl : len ≤ 1048576) (hrow : SRow w ad len f a) :
    Calls Try.prog 21 #[.slice ad len cap, .agg #[.bool kn, .int .i64 l, .int .i64 h, .int .i64 si, .int .i64 la, .int .i64 od]] w fun e w' => e = .returned (.int .i64 (nextA f a len kn l h)) ∧ Below w.heap.size w w' := by
  cases hm : marksB f a len
  case false =>
    go_enter Try.func21, Try.ntmps21
    go_wp2_with fail
    refine (implMarksOk_s ad len cap f a _ hl (hrow.on (nbAlloc (nbAlloc (Below.refl _ _) _) _))).mono ?_
    rintro e w1 ⟨rfl, hb1⟩
    simp only [hm]
    have hC1 : nmC w ad len cap kn l h si la od w1 := ⟨cellOn hb1 (by go_simp), cellOn hb1 (by go_simp), cellOn hb1 (by go_simp), cellOn hb1 (by go_simp), cellOn hb1 (by go_simp), cellOn hb1 (by go_simp), cellOn hb1 (by go_simp), nbTrans (nbAlloc (nbAlloc (Below.refl _ _) _) _) hb1⟩
    have c0 : w1.cell? ⟨w.heap.size, 0, none⟩ = some (.slice ad len cap) := hC1.1
    have c1 : w1.cell? ⟨w.heap.size + 1, 0, none⟩ = some (.bool kn) := hC1.2.1
    have c2 : w1.cell? ⟨w.heap.size + 1, 1, none⟩ = some (.int .i64 l) := hC1.2.2.1
    have c3 : w1.cell? ⟨w.heap.size + 1, 2, none⟩ = some (.int .i64 h) := hC1.2.2.2.1
    have c4 : w1.cell? ⟨w.heap.size + 1, 3, none⟩ = some (.int .i64 si) := hC1.2.2.2.2.1
    have c5 : w1.cell? ⟨w.heap.size + 1, 4, none⟩ = some (.int .i64 la) := hC1.2.2.2.2.2.1
    have c6 : w1.cell? ⟨w.heap.size + 1, 5, none⟩ = some (.int .i64 od) := hC1.2.2.2.2.2.2.1
    have c7 : Below w.heap.size w w1 := hC1.2.2.2.2.2.2.2
    go_wp2_with fail
    go_ret
    exact ⟨retI (by simp [nextA, hm]), c7⟩
  cases hp : (kn && bOk l h)
  case false =>
    go_enter Try.func21, Try.ntmps21
    go_wp2_with fail
    refine (implMarksOk_s ad len cap f a _ hl (hrow.on (nbAlloc (nbAlloc (Below.refl _ _) _) _))).mono ?_
    rintro e w1 ⟨rfl, hb1⟩
    simp only [hm]
    have hC1 : nmC w ad len cap kn l h si la od w1 := ⟨cellOn hb1 (by go_simp), cellOn hb1 (by go_simp), cellOn hb1 (by go_simp), cellOn hb1 (by go_simp), cellOn hb1 (by go_simp), cellOn hb1 (by go_simp), cellOn hb1 (by go_simp), nbTrans (nbAlloc (nbAlloc (Below.refl _ _) _) _) hb1⟩
    have c0 : w1.cell? ⟨w.heap.size, 0, none⟩ = some (.slice ad len cap) := hC1.1
    have c1 : w1.cell? ⟨w.heap.size + 1, 0, none⟩ = some (.bool kn) := hC1.2.1
    have c2 : w1.cell? ⟨w.heap.size + 1, 1, none⟩ = some (.int .i64 l) := hC1.2.2.1
    have c3 : w1.cell? ⟨w.heap.size + 1, 2, none⟩ = some (.int .i64 h) := hC1.2.2.2.1
    have c4 : w1.cell? ⟨w.heap.size + 1, 3, none⟩ = some (.int .i64 si) := hC1.2.2.2.2.1
    have c5 : w1.cell? ⟨w.heap.size + 1, 4, none⟩ = some (.int .i64 la) := hC1.2.2.2.2.2.1
    have c6 : w1.cell? ⟨w.heap.size + 1, 5, none⟩ = some (.int .i64 od) := hC1.2.2.2.2.2.2.1
    have c7 : Below w.heap.size w w1 := hC1.2.2.2.2.2.2.2
    go_wp2_with fail
    refine (placed_c _ _ _ _ _ _ _).mono ?_
    rintro e w2 ⟨rfl, hb2⟩
    simp only [hp]
    have hC2 := nmC_on hC1 hb2
    clear hC1 c0 c1 c2 c3 c4 c5 c6 c7
    have c0 : w2.cell? ⟨w.heap.size, 0, none⟩ = some (.slice ad len cap) := hC2.1
    have c1 : w2.cell? ⟨w.heap.size + 1, 0, none⟩ = some (.bool kn) := hC2.2.1
    have c2 : w2.cell? ⟨w.heap.size + 1, 1, none⟩ = some (.int .i64 l) := hC2.2.2.1
    have c3 : w2.cell? ⟨w.heap.size + 1, 2, none⟩ = some (.int .i64 h) := hC2.2.2.2.1
    have c4 : w2.cell? ⟨w.heap.size + 1, 3, none⟩ = some (.int .i64 si) := hC2.2.2.2.2.1
    have c5 : w2.cell? ⟨w.heap.size + 1, 4, none⟩ = some (.int .i64 la) := hC2.2.2.2.2.2.1
    have c6 : w2.cell? ⟨w.heap.size + 1, 5, none⟩ = some (.int .i64 od) := hC2.2.2.2.2.2.2.1
    have c7 : Below w.heap.size w w2 := hC2.2.2.2.2.2.2.2
    go_wp2_with fail
    go_ret
    exact ⟨retI (by simp only [nextA, hm, Bool.true_and, hp]; rfl), c7⟩
  have HA : Hid (nextA f a len kn l h = nxt a l 0 len) := by unfold Hid; simp only [nextA, hm, Bool.true_and, hp]; rfl
  have HM : Hid (marksB f a len = true) := hm
  have hmf : ∀ (fn : Fn) (first cap : Array Value) (w : World), (Instr.makeFunc fn first cap).run Try.prog w = .ok (.func fn first cap) w := fun _ _ _ _ => rfl
  go_enter Try.func21, Try.ntmps21
  go_wp2_with fail
  refine (implMarksOk_s ad len cap f a _ hl (hrow.on (nbAlloc (nbAlloc (Below.refl _ _) _) _))).mono ?_
  rintro e w1 ⟨rfl, hb1⟩
  simp only [hm]
  have hC1 : nmC w ad len cap kn l h si la od w1 := ⟨cellOn hb1 (by go_simp), cellOn hb1 (by go_simp), cellOn hb1 (by go_simp), cellOn hb1 (by go_simp), cellOn hb1 (by go_simp), cellOn hb1 (by go_simp), cellOn hb1 (by go_simp), nbTrans (nbAlloc (nbAlloc (Below.refl _ _) _) _) hb1⟩
  have c0 : w1.cell? ⟨w.heap.size, 0, none⟩ = some (.slice ad len cap) := hC1.1
  have c1 : w1.cell? ⟨w.heap.size + 1, 0, none⟩ = some (.bool kn) := hC1.2.1
  have c2 : w1.cell? ⟨w.heap.size + 1, 1, none⟩ = some (.int .i64 l) := hC1.2.2.1
  have c3 : w1.cell? ⟨w.heap.size + 1, 2, none⟩ = some (.int .i64 h) := hC1.2.2.2.1
  have c4 : w1.cell? ⟨w.heap.size + 1, 3, none⟩ = some (.int .i64 si) := hC1.2.2.2.2.1
  have c5 : w1.cell? ⟨w.heap.size + 1, 4, none⟩ = some (.int .i64 la) := hC1.2.2.2.2.2.1
  have c6 : w1.cell? ⟨w.heap.size + 1, 5, none⟩ = some (.int .i64 od) := hC1.2.2.2.2.2.2.1
  have c7 : Below w.heap.size w w1 := hC1.2.2.2.2.2.2.2
  go_wp2_with fail
  refine (placed_c _ _ _ _ _ _ _).mono ?_
  rintro e w2 ⟨rfl, hb2⟩
  simp only [hp]
  have hC2 := nmC_on hC1 hb2
  clear hC1 c0 c1 c2 c3 c4 c5 c6 c7
  have c0 : w2.cell? ⟨w.heap.size, 0, none⟩ = some (.slice ad len cap) := hC2.1
  have c1 : w2.cell? ⟨w.heap.size + 1, 0, none⟩ = some (.bool kn) := hC2.2.1
  have c2 : w2.cell? ⟨w.heap.size + 1, 1, none⟩ = some (.int .i64 l) := hC2.2.2.1
  have c3 : w2.cell? ⟨w.heap.size + 1, 2, none⟩ = some (.int .i64 h) := hC2.2.2.2.1
  have c4 : w2.cell? ⟨w.heap.size + 1, 3, none⟩ = some (.int .i64 si) := hC2.2.2.2.2.1
  have c5 : w2.cell? ⟨w.heap.size + 1, 4, none⟩ = some (.int .i64 la) := hC2.2.2.2.2.2.1
  have c6 : w2.cell? ⟨w.heap.size + 1, 5, none⟩ = some (.int .i64 od) := hC2.2.2.2.2.2.2.1
  have c7 : Below w.heap.size w w2 := hC2.2.2.2.2.2.2.2
  go_wp2_with fail
  refine (firstWhere_c _ _ ad len cap f a l w2 hl HM c0 c2 (hrow.on c7)).mono ?_
  rintro e w3 ⟨K, rfl, hK, hk1, hk2, hb3⟩
  have hC3 := nmC_on hC2 hb3
  clear hC2 c0 c1 c2 c3 c4 c5 c6 c7
  have c0 : w3.cell? ⟨w.heap.size, 0, none⟩ = some (.slice ad len cap) := hC3.1
  have c1 : w3.cell? ⟨w.heap.size + 1, 0, none⟩ = some (.bool kn) := hC3.2.1
  have c2 : w3.cell? ⟨w.heap.size + 1, 1, none⟩ = some (.int .i64 l) := hC3.2.2.1
  have c3 : w3.cell? ⟨w.heap.size + 1, 2, none⟩ = some (.int .i64 h) := hC3.2.2.2.1
  have c4 : w3.cell? ⟨w.heap.size + 1, 3, none⟩ = some (.int .i64 si) := hC3.2.2.2.2.1
  have c5 : w3.cell? ⟨w.heap.size + 1, 4, none⟩ = some (.int .i64 la) := hC3.2.2.2.2.2.1
  have c6 : w3.cell? ⟨w.heap.size + 1, 5, none⟩ = some (.int .i64 od) := hC3.2.2.2.2.2.2.1
  have c7 : Below w.heap.size w w3 := hC3.2.2.2.2.2.2.2
  have HN : Hid (nxt a l 0 len = if K = len then -1 else (K : Int)) := nxt_at (len := len) hK hk1.out hk2.out K 0 (by omega)
  by_cases hkl : K = len
  · go_wp2_with fail
    go_ret
    exact ⟨retI (by rw [HA.out, HN.out, if_pos hkl]), c7⟩
  · have hkl2 : ¬ (K : Int) = (len : Int) := by omega
    go_wp2_with fail
    go_ret
    exact ⟨retI (by rw [HA.out, HN.out, if_neg hkl]), c7⟩
theorem implNext_c (b off len cap : Nat) (f a : Nat → Int) (kn : Bool) (l h si la od : Int) (w : World) (hl : len ≤ 1048576) (hrow : Row2 w b off len f a) :
    Calls Try.prog 21 #[.slice (some ⟨b, off, none⟩) len cap, .agg #[.bool kn, .int .i64 l, .int .i64 h, .int .i64 si, .int .i64 la, .int .i64 od]] w fun e w' => e = .returned (.int .i64 (nextA f a len kn l h)) ∧ Below w.heap.size w w' :=
  implNext_s _ len cap f a kn l h si la od w hl (Or.inr ⟨b, off, rfl, hrow⟩)

set_option maxHeartbeats 2000000 in
theorem implWide_s (ad : Option Addr) (len cap : Nat) (f a : Nat → Int) (s j m g o c : Int) (w : World) (hl : len ≤ 1048576) (hrow : SRow w ad len f a) :
    Calls Try.prog 18 #[.agg #[.int .i64 s, .int .i64 j, .int .i64 m, .int .i64 g, .int .i64 o], .slice ad len cap, .int .i64 c] w fun e w' => e = .returned (.int .i64 (wideA s j m g o f a len c)) ∧ Below w.heap.size w w' := by
  cases hr : rOk s j m g o
  case false =>
    go_enter Try.func18, Try.ntmps18
    go_wp2_with fail
    refine (implRulesOk_c _ _ _ _ _ _).mono ?_
    rintro e w1 ⟨rfl, hb1⟩
    simp only [hr]
    have hC1 : s3W w s j m g o w1 := ⟨cellOn hb1 (by go_simp), cellOn hb1 (by go_simp), cellOn hb1 (by go_simp), cellOn hb1 (by go_simp), cellOn hb1 (by go_simp), nbTrans (nbAlloc (Below.refl _ _) _) hb1⟩
    have c0 : w1.cell? ⟨w.heap.size, 0, none⟩ = some (.int .i64 s) := hC1.1
    have c1 : w1.cell? ⟨w.heap.size, 1, none⟩ = some (.int .i64 j) := hC1.2.1
    have c2 : w1.cell? ⟨w.heap.size, 2, none⟩ = some (.int .i64 m) := hC1.2.2.1
    have c3 : w1.cell? ⟨w.heap.size, 3, none⟩ = some (.int .i64 g) := hC1.2.2.2.1
    have c4 : w1.cell? ⟨w.heap.size, 4, none⟩ = some (.int .i64 o) := hC1.2.2.2.2.1
    have c5 : Below w.heap.size w w1 := hC1.2.2.2.2.2
    go_wp2_with fail
    go_ret
    exact ⟨retI (by simp [wideA, hr]), c5⟩
  cases hm : marksB f a len
  case false =>
    go_enter Try.func18, Try.ntmps18
    go_wp2_with fail
    refine (implRulesOk_c _ _ _ _ _ _).mono ?_
    rintro e w1 ⟨rfl, hb1⟩
    simp only [hr]
    have hC1 : s3W w s j m g o w1 := ⟨cellOn hb1 (by go_simp), cellOn hb1 (by go_simp), cellOn hb1 (by go_simp), cellOn hb1 (by go_simp), cellOn hb1 (by go_simp), nbTrans (nbAlloc (Below.refl _ _) _) hb1⟩
    have c0 : w1.cell? ⟨w.heap.size, 0, none⟩ = some (.int .i64 s) := hC1.1
    have c1 : w1.cell? ⟨w.heap.size, 1, none⟩ = some (.int .i64 j) := hC1.2.1
    have c2 : w1.cell? ⟨w.heap.size, 2, none⟩ = some (.int .i64 m) := hC1.2.2.1
    have c3 : w1.cell? ⟨w.heap.size, 3, none⟩ = some (.int .i64 g) := hC1.2.2.2.1
    have c4 : w1.cell? ⟨w.heap.size, 4, none⟩ = some (.int .i64 o) := hC1.2.2.2.2.1
    have c5 : Below w.heap.size w w1 := hC1.2.2.2.2.2
    go_wp2_with fail
    refine (implMarksOk_s ad len cap f a _ hl (hrow.on c5)).mono ?_
    rintro e w2 ⟨rfl, hb2⟩
    simp only [hm]
    have hC2 := s3W_on hC1 hb2
    clear hC1 c0 c1 c2 c3 c4 c5
    have c0 : w2.cell? ⟨w.heap.size, 0, none⟩ = some (.int .i64 s) := hC2.1
    have c1 : w2.cell? ⟨w.heap.size, 1, none⟩ = some (.int .i64 j) := hC2.2.1
    have c2 : w2.cell? ⟨w.heap.size, 2, none⟩ = some (.int .i64 m) := hC2.2.2.1
    have c3 : w2.cell? ⟨w.heap.size, 3, none⟩ = some (.int .i64 g) := hC2.2.2.2.1
    have c4 : w2.cell? ⟨w.heap.size, 4, none⟩ = some (.int .i64 o) := hC2.2.2.2.2.1
    have c5 : Below w.heap.size w w2 := hC2.2.2.2.2.2
    go_wp2_with fail
    go_ret
    exact ⟨retI (by simp [wideA, hm]), c5⟩
  cases hc : inB c 0 100000
  case false =>
    go_enter Try.func18, Try.ntmps18
    go_wp2_with fail
    refine (implRulesOk_c _ _ _ _ _ _).mono ?_
    rintro e w1 ⟨rfl, hb1⟩
    simp only [hr]
    have hC1 : s3W w s j m g o w1 := ⟨cellOn hb1 (by go_simp), cellOn hb1 (by go_simp), cellOn hb1 (by go_simp), cellOn hb1 (by go_simp), cellOn hb1 (by go_simp), nbTrans (nbAlloc (Below.refl _ _) _) hb1⟩
    have c0 : w1.cell? ⟨w.heap.size, 0, none⟩ = some (.int .i64 s) := hC1.1
    have c1 : w1.cell? ⟨w.heap.size, 1, none⟩ = some (.int .i64 j) := hC1.2.1
    have c2 : w1.cell? ⟨w.heap.size, 2, none⟩ = some (.int .i64 m) := hC1.2.2.1
    have c3 : w1.cell? ⟨w.heap.size, 3, none⟩ = some (.int .i64 g) := hC1.2.2.2.1
    have c4 : w1.cell? ⟨w.heap.size, 4, none⟩ = some (.int .i64 o) := hC1.2.2.2.2.1
    have c5 : Below w.heap.size w w1 := hC1.2.2.2.2.2
    go_wp2_with fail
    refine (implMarksOk_s ad len cap f a _ hl (hrow.on c5)).mono ?_
    rintro e w2 ⟨rfl, hb2⟩
    simp only [hm]
    have hC2 := s3W_on hC1 hb2
    clear hC1 c0 c1 c2 c3 c4 c5
    have c0 : w2.cell? ⟨w.heap.size, 0, none⟩ = some (.int .i64 s) := hC2.1
    have c1 : w2.cell? ⟨w.heap.size, 1, none⟩ = some (.int .i64 j) := hC2.2.1
    have c2 : w2.cell? ⟨w.heap.size, 2, none⟩ = some (.int .i64 m) := hC2.2.2.1
    have c3 : w2.cell? ⟨w.heap.size, 3, none⟩ = some (.int .i64 g) := hC2.2.2.2.1
    have c4 : w2.cell? ⟨w.heap.size, 4, none⟩ = some (.int .i64 o) := hC2.2.2.2.2.1
    have c5 : Below w.heap.size w w2 := hC2.2.2.2.2.2
    go_wp2_with fail
    refine (upTo_c _ _).mono ?_
    rintro e w3 ⟨rfl, hb3⟩
    have hC3 := s3W_on hC2 hb3
    clear hC2 c0 c1 c2 c3 c4 c5
    have c0 : w3.cell? ⟨w.heap.size, 0, none⟩ = some (.int .i64 s) := hC3.1
    have c1 : w3.cell? ⟨w.heap.size, 1, none⟩ = some (.int .i64 j) := hC3.2.1
    have c2 : w3.cell? ⟨w.heap.size, 2, none⟩ = some (.int .i64 m) := hC3.2.2.1
    have c3 : w3.cell? ⟨w.heap.size, 3, none⟩ = some (.int .i64 g) := hC3.2.2.2.1
    have c4 : w3.cell? ⟨w.heap.size, 4, none⟩ = some (.int .i64 o) := hC3.2.2.2.2.1
    have c5 : Below w.heap.size w w3 := hC3.2.2.2.2.2
    go_wp2_with fail
    refine (has_f _ _ _ _ hc).mono ?_
    rintro e w4 ⟨rfl, hb4⟩
    have hC4 := s3W_on hC3 hb4
    clear hC3 c0 c1 c2 c3 c4 c5
    have c0 : w4.cell? ⟨w.heap.size, 0, none⟩ = some (.int .i64 s) := hC4.1
    have c1 : w4.cell? ⟨w.heap.size, 1, none⟩ = some (.int .i64 j) := hC4.2.1
    have c2 : w4.cell? ⟨w.heap.size, 2, none⟩ = some (.int .i64 m) := hC4.2.2.1
    have c3 : w4.cell? ⟨w.heap.size, 3, none⟩ = some (.int .i64 g) := hC4.2.2.2.1
    have c4 : w4.cell? ⟨w.heap.size, 4, none⟩ = some (.int .i64 o) := hC4.2.2.2.2.1
    have c5 : Below w.heap.size w w4 := hC4.2.2.2.2.2
    go_wp2_with fail
    go_ret
    exact ⟨retI (by simp [wideA, hc]), c5⟩
  have HA : Hid (wideA s j m g o f a len c = 2 * m + mst s j c - lst s j c) := by unfold Hid; simp [wideA, hr, hm, hc]
  have hr' := hr
  simp only [rOk, inB, Bool.and_eq_true, decide_eq_true_eq] at hr'
  have hc' := hc
  simp only [inB, Bool.and_eq_true, decide_eq_true_eq] at hc'
  have l0 := lst_nonneg (s := s) (j := j) (c := c) (by omega)
  have l1 := lst_le (s := s) (j := j) (c := c) (by omega) (by omega) hc'.1
  have l2 := mst_ge (s := s) (j := j) (c := c) (by omega) (by omega) (by omega) hc'.1
  have l3 := mst_le (s := s) (j := j) (c := c) (by omega) (by omega) (by omega) hc'.2
  have wr1 : IntKind.i64.wrap (2 * m) = 2 * m := wrapS (by omega) (by omega)
  have wr2 : IntKind.i64.wrap (2 * m + mst s j c) = 2 * m + mst s j c := wrapS (by omega) (by omega)
  have wr3 : IntKind.i64.wrap (2 * m + mst s j c - lst s j c) = 2 * m + mst s j c - lst s j c := wrapS (by omega) (by omega)
  rw [HA.out]
  go_enter Try.func18, Try.ntmps18
  go_wp2_with fail
  refine (implRulesOk_c _ _ _ _ _ _).mono ?_
  rintro e w1 ⟨rfl, hb1⟩
  simp only [hr]
  have hC1 : s3W w s j m g o w1 := ⟨cellOn hb1 (by go_simp), cellOn hb1 (by go_simp), cellOn hb1 (by go_simp), cellOn hb1 (by go_simp), cellOn hb1 (by go_simp), nbTrans (nbAlloc (Below.refl _ _) _) hb1⟩
  have c0 : w1.cell? ⟨w.heap.size, 0, none⟩ = some (.int .i64 s) := hC1.1
  have c1 : w1.cell? ⟨w.heap.size, 1, none⟩ = some (.int .i64 j) := hC1.2.1
  have c2 : w1.cell? ⟨w.heap.size, 2, none⟩ = some (.int .i64 m) := hC1.2.2.1
  have c3 : w1.cell? ⟨w.heap.size, 3, none⟩ = some (.int .i64 g) := hC1.2.2.2.1
  have c4 : w1.cell? ⟨w.heap.size, 4, none⟩ = some (.int .i64 o) := hC1.2.2.2.2.1
  have c5 : Below w.heap.size w w1 := hC1.2.2.2.2.2
  go_wp2_with fail
  refine (implMarksOk_s ad len cap f a _ hl (hrow.on c5)).mono ?_
  rintro e w2 ⟨rfl, hb2⟩
  simp only [hm]
  have hC2 := s3W_on hC1 hb2
  clear hC1 c0 c1 c2 c3 c4 c5
  have c0 : w2.cell? ⟨w.heap.size, 0, none⟩ = some (.int .i64 s) := hC2.1
  have c1 : w2.cell? ⟨w.heap.size, 1, none⟩ = some (.int .i64 j) := hC2.2.1
  have c2 : w2.cell? ⟨w.heap.size, 2, none⟩ = some (.int .i64 m) := hC2.2.2.1
  have c3 : w2.cell? ⟨w.heap.size, 3, none⟩ = some (.int .i64 g) := hC2.2.2.2.1
  have c4 : w2.cell? ⟨w.heap.size, 4, none⟩ = some (.int .i64 o) := hC2.2.2.2.2.1
  have c5 : Below w.heap.size w w2 := hC2.2.2.2.2.2
  go_wp2_with fail
  refine (upTo_c _ _).mono ?_
  rintro e w3 ⟨rfl, hb3⟩
  have hC3 := s3W_on hC2 hb3
  clear hC2 c0 c1 c2 c3 c4 c5
  have c0 : w3.cell? ⟨w.heap.size, 0, none⟩ = some (.int .i64 s) := hC3.1
  have c1 : w3.cell? ⟨w.heap.size, 1, none⟩ = some (.int .i64 j) := hC3.2.1
  have c2 : w3.cell? ⟨w.heap.size, 2, none⟩ = some (.int .i64 m) := hC3.2.2.1
  have c3 : w3.cell? ⟨w.heap.size, 3, none⟩ = some (.int .i64 g) := hC3.2.2.2.1
  have c4 : w3.cell? ⟨w.heap.size, 4, none⟩ = some (.int .i64 o) := hC3.2.2.2.2.1
  have c5 : Below w.heap.size w w3 := hC3.2.2.2.2.2
  go_wp2_with fail
  refine (has_t _ _ _ _ hc).mono ?_
  rintro e w4 ⟨rfl, hb4⟩
  have hC4 := s3W_on hC3 hb4
  clear hC3 c0 c1 c2 c3 c4 c5
  have c0 : w4.cell? ⟨w.heap.size, 0, none⟩ = some (.int .i64 s) := hC4.1
  have c1 : w4.cell? ⟨w.heap.size, 1, none⟩ = some (.int .i64 j) := hC4.2.1
  have c2 : w4.cell? ⟨w.heap.size, 2, none⟩ = some (.int .i64 m) := hC4.2.2.1
  have c3 : w4.cell? ⟨w.heap.size, 3, none⟩ = some (.int .i64 g) := hC4.2.2.2.1
  have c4 : w4.cell? ⟨w.heap.size, 4, none⟩ = some (.int .i64 o) := hC4.2.2.2.2.1
  have c5 : Below w.heap.size w w4 := hC4.2.2.2.2.2
  go_wp2_with fail
  clear c0 c1 c2 c3 c4 c5
  refine region_kept (s3W w s j m g o) (by kernel_rfl) (by kernel_rfl) (s3W_on hC4 (Below.drew (Below.refl _ _))) ?_
  intro hN_
  have k0 : ∀ d : Kept (s3W w s j m g o), d.w.cell? ⟨w.heap.size, 0, none⟩ = some (.int .i64 s) := fun d => d.h.1
  have k1 : ∀ d : Kept (s3W w s j m g o), d.w.cell? ⟨w.heap.size, 1, none⟩ = some (.int .i64 j) := fun d => d.h.2.1
  have k2 : ∀ d : Kept (s3W w s j m g o), d.w.cell? ⟨w.heap.size, 2, none⟩ = some (.int .i64 m) := fun d => d.h.2.2.1
  have k3 : ∀ d : Kept (s3W w s j m g o), d.w.cell? ⟨w.heap.size, 3, none⟩ = some (.int .i64 g) := fun d => d.h.2.2.2.1
  have k4 : ∀ d : Kept (s3W w s j m g o), d.w.cell? ⟨w.heap.size, 4, none⟩ = some (.int .i64 o) := fun d => d.h.2.2.2.2.1
  repeat (go_big_quiet_step (first | (go_at_call 52; exact call_kept _ s3W_on (mostCome_c _ _ _ _ _ _ _ (by omega) (by omega) (by omega) (by omega) (by omega) (by omega))) | (go_at_call 51; exact call_kept _ s3W_on (leastCome_c _ _ _ _ _ _ _ (by omega) (by omega) (by omega) (by omega) (by omega) (by omega))) | exact rfl))
  refine wpQuiet_nil ?_
  rintro w6 ⟨d, hd2⟩
  have hd := d.h
  rw [← hd2] at hd
  clear hd2 k0 k1 k2 k3 k4
  go_wp2_with fail
  go_ret
  exact ⟨rfl, hd.2.2.2.2.2⟩
theorem implWide_c (b off len cap : Nat) (f a : Nat → Int) (s j m g o c : Int) (w : World) (hl : len ≤ 1048576) (hrow : Row2 w b off len f a) :
    Calls Try.prog 18 #[.agg #[.int .i64 s, .int .i64 j, .int .i64 m, .int .i64 g, .int .i64 o], .slice (some ⟨b, off, none⟩) len cap, .int .i64 c] w fun e w' => e = .returned (.int .i64 (wideA s j m g o f a len c)) ∧ Below w.heap.size w w' :=
  implWide_s _ len cap f a s j m g o c w hl (Or.inr ⟨b, off, rfl, hrow⟩)

end Go.Proofs.Ytmhppadblddjoaa
