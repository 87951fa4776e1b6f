import Derived.Test.YtmhppadblddjoaaDoorZTopMkOk
import Derived.Test.YtmhppadblddjoaaDoorZTopW1
/- The marks that are drawn, with what stands in them. -/
namespace Go.Proofs.YtmhppadblddjoaaDoor
open Go.RowKit

def mkCells (f a : Nat → Int) : Nat → List Value
  | 0 => []
  | k + 1 => mkCells f a k ++ [.int .i64 (f k), .int .i64 (a k)]
theorem mkCells_congr {f a f' a' : Nat → Int} : ∀ c, (∀ i, i < c → f i = f' i ∧ a i = a' i) → mkCells f a c = mkCells f' a' c
  | 0, _ => rfl
  | c + 1, h => by rw [mkCells, mkCells, mkCells_congr c (fun i hi => h i (by omega)), (h c (by omega)).1, (h c (by omega)).2]
/-- c of N drawn marks, the next one at t. -/
def DM (N c : Nat) (t : Int) (xs : List Value) : Prop := ∃ f a : Nat → Int, xs = mkCells f a c ∧ (∀ i, i < c → 1 + 7 * ((N : Int) - i) ≤ f i ∧ f i ≤ 3 + 7 * ((N : Int) - i)) ∧ (∀ i, i < c → 0 ≤ a i ∧ a i < t) ∧ ∀ i, 0 < i → i < c → a (i - 1) < a i
theorem DM.nil (N : Nat) (t : Int) : DM N 0 t [] := ⟨fun _ => 0, fun _ => 0, rfl, fun i hi => by omega, fun i hi => by omega, fun i _ hi => by omega⟩
theorem DM.step {N c n : Nat} {t t' q : Int} {xs : List Value} (h : DM N c t xs) (hc : c + n = N) (ht : 0 ≤ t) (q0 : 0 ≤ q) (q1 : q < 3) (htt : t < t') : DM N (c + 1) t' (xs ++ [.int .i64 (1 + 7 * (n : Int) + q), .int .i64 t]) := by
  obtain ⟨f, a, rfl, h1, h2, h3⟩ := h
  refine ⟨fun i => if i = c then 1 + 7 * (n : Int) + q else f i, fun i => if i = c then t else a i, ?_, fun i hi => ?_, fun i hi => ?_, fun i h0 hi => ?_⟩
  · rw [mkCells]
    simp only [if_true]
    rw [mkCells_congr c (fun i hi => ⟨(if_neg (by omega : ¬ i = c)).symm, (if_neg (by omega : ¬ i = c)).symm⟩)]
  · by_cases hic : i = c
    · simp only [hic, if_true]; omega
    · simp only [hic, if_false]; exact h1 i (by omega)
  · by_cases hic : i = c
    · simp only [hic, if_true]; omega
    · simp only [hic, if_false]
      have := h2 i (by omega)
      omega
  · by_cases hic : i = c
    · have hn : ¬ i - 1 = c := by omega
      simp only [hn, if_false]
      rw [if_pos hic]
      exact (h2 (i - 1) (by omega)).2
    · have hn : ¬ i - 1 = c := by omega
      simp only [hn, hic, if_false]
      exact h3 i h0 (by omega)

theorem DM.marks {N : Nat} {t : Int} {xs : List Value} (h : DM N N t xs) (hN : N ≤ 7) (ht : t ≤ 5000) : ∃ f a : Nat → Int, xs = mkCells f a N ∧ marksB f a N = true ∧ (∀ i, i < N → 0 ≤ a i ∧ a i ≤ 5000) ∧ ∀ i k, i < N → k < N → f i = f k → i = k := by
  obtain ⟨f, a, hx, h1, h2, h3⟩ := h
  have inj : ∀ i k, i < N → k < N → f i = f k → i = k := fun i k hi hk he => by
    have := h1 i hi
    have := h1 k hk
    omega
  refine ⟨f, a, hx, ?_, fun i hi => ⟨(h2 i hi).1, by have := h2 i hi; omega⟩, inj⟩
  unfold marksB marksTo
  simp only [Bool.and_eq_true, List.all_eq_true, decide_eq_true_eq]
  refine ⟨fun i hi => ?_, by omega⟩
  have hi' : i < N := by simpa using hi
  refine stepB_mk ?_ ?_ ?_ ?_
  · have := h2 i hi'
    simp only [inB, Bool.and_eq_true, decide_eq_true_eq]; omega
  · by_cases h0 : i = 0
    · exact .inl h0
    · exact .inr (h3 i (by omega) hi')
  · have := h1 i hi'
    simp only [inB, Bool.and_eq_true, decide_eq_true_eq]; omega
  · unfold freshB
    rw [List.all_eq_true]
    intro k hk
    have hk' : k < i := by simpa using hk
    simp only [bne_iff_ne, ne_eq]
    intro he
    have := inj k i (by omega) hi' he
    omega

theorem owns_low {w : World} {base base' : Nat} {e : TypeId} {size n : Nat} {v : Value} {xs : List Value} (h : w.ownsRow base e size v n xs) (hb : base' ≤ base) : w.ownsRow base' e size v n xs := by
  obtain ⟨h1, h2⟩ := h
  refine ⟨h1, ?_⟩
  rcases h2 with h2 | ⟨g, cap, cur, hv, hg, r⟩
  · exact Or.inl h2
  · exact Or.inr ⟨g, cap, cur, hv, by omega, r⟩
set_option maxHeartbeats 1000000 in
theorem marks_d {p : Nat} {a0 : Option Addr} {len cap : Nat} (K : Nat) (w : World) (hC : CurAt p a0 len cap K w) (hK : K ≤ 9990000) :
    Calls Tryd.prog 48 #[.pointer (some ⟨p, 0, none⟩)] w fun e w' => ∃ v, e = .returned v ∧ CurAt p a0 len cap (K + 30) w' ∧ Turns p w w' ∧ ∃ (N : Nat) (t : Int) (xs : List Value), N ≤ 7 ∧ t ≤ 5000 ∧ DM N N t xs ∧ w'.ownsRow w.heap.size 111 2 v N xs := by
  have hlt := hC.lt
  obtain ⟨i0, hi, hz0, hz1, hz2⟩ := info_parts infoMark
  have HC : Hid (CurAt p a0 len cap K w) := hC
  go_enter Tryd.func48, Tryd.ntmps48
  go_wp2_with fail
  refine (wide_c K 300 _ hC (by omega) (by omega) (by omega)).mono ?_
  rintro e w1 ⟨t, rfl, t0, t1, hC1, ht1⟩
  go_wp2_with fail
  refine (pick_c _ 8 _ hC1 (by omega) (by omega) (by omega)).mono ?_
  rintro e w2 ⟨q, rfl, q0, q1, hC2, ht2⟩
  have hT2 := ht1.trans ht2
  obtain ⟨n0, rfl⟩ := Int.eq_ofNat_of_zero_le q0
  clear hC hC1 ht1 ht2
  have hN7 : n0 ≤ 7 := by omega
  go_wp2_with fail
  go_loopw [3, 4, 5] (fun v tt k wr => ∃ (n c : Nat) (a : Int) (xs : List Value), k = .int .i64 n ∧ n ≤ 7 ∧ c + n = n0 ∧ DM n0 c a xs ∧ tt = .int .i64 a ∧ 0 ≤ a ∧ a + 601 * n ≤ 5000 ∧ wr.ownsRow w.heap.size 111 2 v c xs ∧ CurAt p a0 len cap (K + 27 - 3 * n) wr ∧ Turns p w wr) (fun _ _ k _ => (intOf k).toNat)
  case atStart => exact ⟨n0, 0, t, [], rfl, by omega, by omega, DM.nil n0 t, rfl, t0, by omega, World.ownsRow_nil _ _ _ _, hC2.le (by omega), hT2⟩
  case round =>
    obtain ⟨n, c, a, xs, rfl, hn, hcn, hDM, rfl, h0, h1, hown, hCr, hTr⟩ := hrel
    have HDM : Hid (DM n0 c a xs) := hDM
    clear hDM
    by_cases hn0 : 0 < n
    · go_wp2_with fail
      refine (pick_c _ 3 _ hCr (by omega) (by omega) (by omega)).mono ?_
      rintro e w3 ⟨q, rfl, q0, q1, hC3, ht3⟩
      have hown3 := ownsOn hown ht3 hlt
      have hT3 := hTr.trans ht3
      have hsz3 := hT3.size
      clear hown hCr hTr ht3
      go_wp2_with (at_builtin; refine wpList_append_own _ rfl _ _ 25 rfl w.heap.size 111 i0 (.agg #[.int .i64 0, .int .i64 0]) 2 16 Tryd.underlying25 hi hz0 hz1 hz2 rfl (by decide) _ _ _ rfl (hown3.alloc _) ⟨w3.heap.size, 0, none⟩ 1 1 [.int .i64 (1 + 7 * (n : Int) + q), .int .i64 a] rfl rfl ?c1 ?c2 ?c3 ?c4 ?c5 ?_)
      case c1 =>
        intro j u hj
        match j, hj with
        | 0, hj => simp at hj; subst hj; simp [Addr.add]
        | 1, hj => simp at hj; subst hj; simp [Addr.add]
      case c2 => intro u hu; simp at hu; rcases hu with rfl | rfl <;> rfl
      case c3 => unfold maxLen; omega
      case c4 => omega
      case c5 => simp; omega
      intro v' w4 hown4 hgrow _
      have hT4 := (hT3.alloc _).grown (hown3.alloc _) (Nat.le_refl _) hgrow
      have hC4 := CurAt.grown (HC.out.le (by omega)) hT4 (hC3.on ((Below.refl _ _).alloc (Nat.le_refl _) _)) (hown3.alloc _) hlt hgrow
      clear hgrow hown3 hC3 hT3
      go_wp2_with fail
      refine (wide_c _ 600 _ hC4 (by omega) (by omega) (by omega)).mono ?_
      rintro e w5 ⟨z, rfl, z0, z1, hC5, ht5⟩
      have hown5 := ownsOn hown4 ht5 hlt
      have hT5 := hT4.trans ht5
      go_wp2_with fail
      go_roundw
      case rel => exact ⟨n - 1, c + 1, a + (1 + z), _, by go_num, by omega, by omega, HDM.out.step hcn h0 q0 (by omega) (by omega), rfl, by omega, by omega, hown5, hC5.le (by omega), hT5⟩
      case measure => simp [intOf]; omega
    · go_wp2_with fail
      go_ret
      have hcN : c = n0 := by omega
      subst hcN
      exact ⟨_, rfl, hCr.le (by omega), hTr, c, a, xs, hN7, by omega, HDM.out, hown⟩

end Go.Proofs.YtmhppadblddjoaaDoor

