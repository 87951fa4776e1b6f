import Derived.Test.YtmhppadblddjoaaDoorZTrueMkOk
import Derived.Test.YtmhppadblddjoaaDoorZTrueW1
/- The marks that are drawn, with what stands in them. -/
namespace Go.Proofs.YtmhppadblddjoaaDoor
open Go.RowKit

def mkCells (f a : Nat → Int) : Nat → List Value
  | 0 => []
  | k + 1 => mkCells f a k ++ [.int .i64 (f k), .int .i64 (a k)]
theorem mkCells_congr {f a f' a' : Nat → Int} : ∀ c, (∀ i, i < c → f i = f' i ∧ a i = a' i) → mkCells f a c = mkCells f' a' c
  | 0, _ => rfl
  | c + 1, h => by rw [mkCells, mkCells, mkCells_congr c (fun i hi => h i (by omega)), (h c (by omega)).1, (h c (by omega)).2]
theorem mkCells_len (f a : Nat → Int) : ∀ c, (mkCells f a c).length = c * 2
  | 0 => rfl
  | c + 1 => by rw [mkCells, List.length_append, mkCells_len]; simp; omega
theorem mkCells_get (f a : Nat → Int) : ∀ c i, i < c → (mkCells f a c)[i * 2]? = some (.int .i64 (f i)) ∧ (mkCells f a c)[i * 2 + 1]? = some (.int .i64 (a i))
  | 0, i, hi => by omega
  | c + 1, i, hi => by
    have hL := mkCells_len f a c
    rw [mkCells]
    by_cases hin : i < c
    · rw [List.getElem?_append_left (by omega), List.getElem?_append_left (by omega)]
      exact mkCells_get f a c i hin
    · have : i = c := by omega
      subst this
      rw [List.getElem?_append_right (by omega), List.getElem?_append_right (by omega), hL]
      simp

/-- c of N drawn marks, the next one at t. -/
def DM (N c : Nat) (t : Int) (xs : List Value) : Prop := ∃ f a : Nat → Int, xs = mkCells f a c ∧ (∀ i, i < c → 1 + 7 * ((N : Int) - i) ≤ f i ∧ f i ≤ 3 + 7 * ((N : Int) - i)) ∧ (∀ i, i < c → 0 ≤ a i ∧ a i < t) ∧ ∀ i, 0 < i → i < c → a (i - 1) < a i
theorem DM.nil (N : Nat) (t : Int) : DM N 0 t [] := ⟨fun _ => 0, fun _ => 0, rfl, fun i hi => by omega, fun i hi => by omega, fun i _ hi => by omega⟩
theorem DM.step {N c n : Nat} {t t' q : Int} {xs : List Value} (h : DM N c t xs) (hc : c + n = N) (ht : 0 ≤ t) (q0 : 0 ≤ q) (q1 : q < 3) (htt : t < t') : DM N (c + 1) t' (xs ++ [.int .i64 (1 + 7 * (n : Int) + q), .int .i64 t]) := by
  obtain ⟨f, a, rfl, h1, h2, h3⟩ := h
  refine ⟨fun i => if i = c then 1 + 7 * (n : Int) + q else f i, fun i => if i = c then t else a i, ?_, fun i hi => ?_, fun i hi => ?_, fun i h0 hi => ?_⟩
  · rw [mkCells]
    simp only [if_true]
    rw [mkCells_congr c (fun i hi => ⟨(if_neg (by omega : ¬ i = c)).symm, (if_neg (by omega : ¬ i = c)).symm⟩)]
  · by_cases hic : i = c
    · simp only [hic, if_true]; omega
    · simp only [hic, if_false]; exact h1 i (by omega)
  · by_cases hic : i = c
    · simp only [hic, if_true]; omega
    · simp only [hic, if_false]
      have := h2 i (by omega)
      omega
  · by_cases hic : i = c
    · have hn : ¬ i - 1 = c := by omega
      simp only [hn, if_false]
      rw [if_pos hic]
      exact (h2 (i - 1) (by omega)).2
    · have hn : ¬ i - 1 = c := by omega
      simp only [hn, hic, if_false]
      exact h3 i h0 (by omega)

theorem DM.marks {N : Nat} {t : Int} {xs : List Value} (h : DM N N t xs) (hN : N ≤ 7) (ht : t ≤ 5000) : ∃ f a : Nat → Int, xs = mkCells f a N ∧ marksB f a N = true ∧ (∀ i, i < N → 0 ≤ a i ∧ a i ≤ 5000) ∧ ∀ i k, i < N → k < N → f i = f k → i = k := by
  obtain ⟨f, a, hx, h1, h2, h3⟩ := h
  have inj : ∀ i k, i < N → k < N → f i = f k → i = k := fun i k hi hk he => by
    have := h1 i hi
    have := h1 k hk
    omega
  refine ⟨f, a, hx, ?_, fun i hi => ⟨(h2 i hi).1, by have := h2 i hi; omega⟩, inj⟩
  unfold marksB marksTo
  simp only [Bool.and_eq_true, List.all_eq_true, decide_eq_true_eq]
  refine ⟨fun i hi => ?_, by omega⟩
  have hi' : i < N := by simpa using hi
  refine stepB_mk ?_ ?_ ?_ ?_
  · have := h2 i hi'
    simp only [inB, Bool.and_eq_true, decide_eq_true_eq]; omega
  · by_cases h0 : i = 0
    · exact .inl h0
    · exact .inr (h3 i (by omega) hi')
  · have := h1 i hi'
    simp only [inB, Bool.and_eq_true, decide_eq_true_eq]; omega
  · unfold freshB
    rw [List.all_eq_true]
    intro k hk
    have hk' : k < i := by simpa using hk
    simp only [bne_iff_ne, ne_eq]
    intro he
    have := inj k i (by omega) hi' he
    omega

theorem owns_low {w : World} {base base' : Nat} {e : TypeId} {size n : Nat} {v : Value} {xs : List Value} (h : w.ownsRow base e size v n xs) (hb : base' ≤ base) : w.ownsRow base' e size v n xs := by
  obtain ⟨h1, h2⟩ := h
  refine ⟨h1, ?_⟩
  rcases h2 with h2 | ⟨g, cap, cur, hv, hg, r⟩
  · exact Or.inl h2
  · exact Or.inr ⟨g, cap, cur, hv, by omega, r⟩
theorem mkRow_of {w : World} {B N : Nat} {v : Value} {f a : Nat → Int} (hw : w.ownsRow B 111 2 v N (mkCells f a N)) : ∃ ad cap, v = .slice ad N cap ∧ SRow w ad N f a := by
  obtain ⟨h1, h2⟩ := hw
  rcases h2 with ⟨rfl, rfl⟩ | ⟨q, cap, cur, rfl, hg, hh, hn, hm, hs, htk⟩
  · exact ⟨none, 0, rfl, .inl rfl⟩
  · refine ⟨some ⟨q, 0, none⟩, cap, rfl, .inr ⟨q, 0, rfl, fun i hi => ?_⟩⟩
    have key : ∀ o, o < N * 2 → w.cell? ⟨q, o, none⟩ = (mkCells f a N)[o]? := fun o ho => by
      rw [Joins.cell_of_block hh, ← htk, List.getElem?_take, if_pos ho]
      simp
    obtain ⟨g1, g2⟩ := mkCells_get f a N i hi
    exact ⟨by rw [show 0 + i * 2 = i * 2 by omega, key _ (by omega)]; exact g1, by rw [show 0 + i * 2 + 1 = i * 2 + 1 by omega, key _ (by omega)]; exact g2⟩

set_option maxHeartbeats 1000000 in
theorem marks_d {p : Nat} {a0 : Option Addr} {len cap : Nat} (K : Nat) (w : World) (hC : CurAt p a0 len cap K w) (hK : K ≤ 9990000) :
    Calls Tryd.prog 48 #[.pointer (some ⟨p, 0, none⟩)] w fun e w' => ∃ v, e = .returned v ∧ CurAt p a0 len cap (K + 30) w' ∧ Turns p w w' ∧ ∃ (N : Nat) (t : Int) (xs : List Value), N ≤ 7 ∧ t ≤ 5000 ∧ DM N N t xs ∧ w'.ownsRow w.heap.size 111 2 v N xs := by
  have hlt := hC.lt
  obtain ⟨i0, hi, hz0, hz1, hz2⟩ := info_parts infoMark
  have HC : Hid (CurAt p a0 len cap K w) := hC
  go_enter Tryd.func48, Tryd.ntmps48
  go_wp2_with fail
  refine (wide_c K 300 _ hC (by omega) (by omega) (by omega)).mono ?_
  rintro e w1 ⟨t, rfl, t0, t1, hC1, ht1⟩
  go_wp2_with fail
  refine (pick_c _ 8 _ hC1 (by omega) (by omega) (by omega)).mono ?_
  rintro e w2 ⟨q, rfl, q0, q1, hC2, ht2⟩
  have hT2 := ht1.trans ht2
  obtain ⟨n0, rfl⟩ := Int.eq_ofNat_of_zero_le q0
  clear hC hC1 ht1 ht2
  have hN7 : n0 ≤ 7 := by omega
  go_wp2_with fail
  go_loopw [3, 4, 5] (fun v tt k wr => ∃ (n c : Nat) (a : Int) (xs : List Value), k = .int .i64 n ∧ n ≤ 7 ∧ c + n = n0 ∧ DM n0 c a xs ∧ tt = .int .i64 a ∧ 0 ≤ a ∧ a + 601 * n ≤ 5000 ∧ wr.ownsRow w.heap.size 111 2 v c xs ∧ CurAt p a0 len cap (K + 27 - 3 * n) wr ∧ Turns p w wr) (fun _ _ k _ => (intOf k).toNat)
  case atStart => exact ⟨n0, 0, t, [], rfl, by omega, by omega, DM.nil n0 t, rfl, t0, by omega, World.ownsRow_nil _ _ _ _, hC2.le (by omega), hT2⟩
  case round =>
    obtain ⟨n, c, a, xs, rfl, hn, hcn, hDM, rfl, h0, h1, hown, hCr, hTr⟩ := hrel
    have HDM : Hid (DM n0 c a xs) := hDM
    clear hDM
    by_cases hn0 : 0 < n
    · go_wp2_with fail
      refine (pick_c _ 3 _ hCr (by omega) (by omega) (by omega)).mono ?_
      rintro e w3 ⟨q, rfl, q0, q1, hC3, ht3⟩
      have hown3 := ownsOn hown ht3 hlt
      have hT3 := hTr.trans ht3
      have hsz3 := hT3.size
      clear hown hCr hTr ht3
      go_wp2_with (at_builtin; refine wpList_append_own _ rfl _ _ 25 rfl w.heap.size 111 i0 (.agg #[.int .i64 0, .int .i64 0]) 2 16 Tryd.underlying25 hi hz0 hz1 hz2 rfl (by decide) _ _ _ rfl (hown3.alloc _) ⟨w3.heap.size, 0, none⟩ 1 1 [.int .i64 (1 + 7 * (n : Int) + q), .int .i64 a] rfl rfl ?c1 ?c2 ?c3 ?c4 ?c5 ?_)
      case c1 =>
        intro j u hj
        match j, hj with
        | 0, hj => simp at hj; subst hj; simp [Addr.add]
        | 1, hj => simp at hj; subst hj; simp [Addr.add]
      case c2 => intro u hu; simp at hu; rcases hu with rfl | rfl <;> rfl
      case c3 => unfold maxLen; omega
      case c4 => omega
      case c5 => simp; omega
      intro v' w4 hown4 hgrow _
      have hT4 := (hT3.alloc _).grown (hown3.alloc _) (Nat.le_refl _) hgrow
      have hC4 := CurAt.grown (HC.out.le (by omega)) hT4 (hC3.on ((Below.refl _ _).alloc (Nat.le_refl _) _)) (hown3.alloc _) hlt hgrow
      clear hgrow hown3 hC3 hT3
      go_wp2_with fail
      refine (wide_c _ 600 _ hC4 (by omega) (by omega) (by omega)).mono ?_
      rintro e w5 ⟨z, rfl, z0, z1, hC5, ht5⟩
      have hown5 := ownsOn hown4 ht5 hlt
      have hT5 := hT4.trans ht5
      go_wp2_with fail
      go_roundw
      case rel => exact ⟨n - 1, c + 1, a + (1 + z), _, by go_num, by omega, by omega, HDM.out.step hcn h0 q0 (by omega) (by omega), rfl, by omega, by omega, hown5, hC5.le (by omega), hT5⟩
      case measure => simp [intOf]; omega
    · go_wp2_with fail
      go_ret
      have hcN : c = n0 := by omega
      subst hcN
      exact ⟨_, rfl, hCr.le (by omega), hTr, c, a, xs, hN7, by omega, HDM.out, hown⟩

end Go.Proofs.YtmhppadblddjoaaDoor

/- The bytes that came in, each by its number. -/
namespace Go.Proofs.YtmhppadblddjoaaDoor
open Go.RowKit

def byteAt (w : World) (a : Addr) : Int := match w.cell? a with | some (.int _ n) => n | _ => 0
def BytesV (w : World) (a0 : Option Addr) (len : Nat) (v : Nat → Int) : Prop :=
  len = 0 ∨ ∃ b off, a0 = some ⟨b, off, none⟩ ∧ ∀ i, i < len → 0 ≤ v i ∧ v i ≤ 255 ∧ w.cell? ⟨b, off + i, none⟩ = some (.int .u8 (v i))
theorem BytesV.on {w w' : World} {a0 : Option Addr} {len : Nat} {v : Nat → Int} (h : BytesV w a0 len v) (hb : Below w.heap.size w w') : BytesV w' a0 len v := by
  rcases h with h | ⟨b, off, h1, h3⟩
  · exact .inl h
  · exact .inr ⟨b, off, h1, fun i hi => ⟨(h3 i hi).1, (h3 i hi).2.1, cellOn hb (h3 i hi).2.2⟩⟩
theorem Bytes.toV {w : World} {a0 : Option Addr} {len : Nat} (h : Bytes w a0 len) : ∃ v, BytesV w a0 len v := by
  rcases h with h | ⟨b, off, h1, h3⟩
  · exact ⟨fun _ => 0, .inl h⟩
  · refine ⟨fun i => byteAt w ⟨b, off + i, none⟩, .inr ⟨b, off, h1, fun i hi => ?_⟩⟩
    obtain ⟨v, x, y, c⟩ := h3 i hi
    have : byteAt w ⟨b, off + i, none⟩ = v := by unfold byteAt; rw [c]
    dsimp only
    rw [this]
    exact ⟨x, y, c⟩
/-- What wByte answers. -/
def bv (len : Nat) (v : Nat → Int) (i : Int) : Int := if len = 0 then 0 else v (i % (len : Int)).toNat
theorem bv_range {w : World} {a0 : Option Addr} {len : Nat} {v : Nat → Int} (h : BytesV w a0 len v) (i : Int) : 0 ≤ bv len v i ∧ bv len v i ≤ 255 := by
  unfold bv
  rcases h with h | ⟨b, off, -, h3⟩
  · rw [if_pos h]; omega
  · by_cases hz : len = 0
    · rw [if_pos hz]; omega
    · rw [if_neg hz]
      have hm1 : i % (len : Int) < (len : Int) := Int.emod_lt_of_pos _ (by omega)
      have hm0 : 0 ≤ i % (len : Int) := Int.emod_nonneg _ (by omega)
      have := h3 (i % (len : Int)).toNat (by omega)
      exact ⟨this.1, this.2.1⟩

set_option maxHeartbeats 1000000 in
theorem wByteV_c (a0 : Option Addr) (len cap : Nat) (v : Nat → Int) (i : Int) (w : World) (hby : BytesV w a0 len v) (hl : len ≤ 1048576) (hi0 : 0 ≤ i) (hi1 : i ≤ 1000) :
    Calls Tryd.prog 15 #[.slice a0 len cap, .int .i64 i] w fun e w' => e = .returned (.int .i64 (bv len v i)) ∧ w = w' := by
  by_cases hz : len = 0
  · subst hz
    go_enter Tryd.func15, Tryd.ntmps15
    go_wp2
    go_ret
    exact ⟨retI (by simp [bv]), rfl⟩
  · rcases hby with h | ⟨b, off, rfl, h3⟩
    · exact absurd h hz
    · have hlp : (0 : Int) < (len : Int) := by omega
      have hm0 : 0 ≤ i % (len : Int) := Int.emod_nonneg _ (by omega)
      have hm1 : i % (len : Int) < (len : Int) := Int.emod_lt_of_pos _ hlp
      obtain ⟨v0, v1, hc⟩ := h3 (i % (len : Int)).toNat (by omega)
      have hne : ((len : Int) == 0) = false := by simp; omega
      have hv : Hid (bv len v i = v (i % (len : Int)).toNat) := by unfold Hid bv; rw [if_neg hz]
      clear h3
      generalize v (i % (len : Int)).toNat = x at *
      go_enter Tryd.func15, Tryd.ntmps15
      go_wp2
      go_ret
      exact ⟨retI hv.out.symm, rfl⟩
theorem wByteQ_c (a0 : Option Addr) (len cap : Nat) (v : Nat → Int) (i : Int) (w : World) (hby : BytesV w a0 len v) (hl : len ≤ 1048576) (hi0 : 0 ≤ i) (hi1 : i ≤ 1000) :
    Calls Tryd.prog 15 #[.slice a0 len cap, .int .i64 i] w fun e w' => e = .returned (.int .i64 (bv len v i)) ∧ Below w.heap.size w w' :=
  (wByteV_c a0 len cap v i w hby hl hi0 hi1).mono fun e w' h => ⟨h.1, by rw [← h.2]; exact Below.refl _ _⟩

end Go.Proofs.YtmhppadblddjoaaDoor

