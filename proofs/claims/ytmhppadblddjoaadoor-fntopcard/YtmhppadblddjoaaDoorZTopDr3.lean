import Derived.Test.YtmhppadblddjoaaDoorZTopDr
import Derived.Test.YtmhppadblddjoaaDoorZTopSet6
/- The draws of a run: marks, whatever they are. -/
namespace Go.Proofs.YtmhppadblddjoaaDoor
open Go.RowKit
set_option linter.unusedVariables false

theorem own_cell {w : World} {B N c g : Nat} {xs : List Value} {e : TypeId} (h : w.ownsRow B e 2 (.slice (some ⟨g, 0, none⟩) N c) N xs) (hi : AllInt xs) {k : Nat} (hk : k < N * 2) : ∃ x : Int, w.cell? ⟨g, k, none⟩ = some (.int .i64 x) := by
  have hc := h.cells (g := g) rfl
  have hlt : k < xs.length := by have := h.1; omega
  obtain ⟨n, hn⟩ := hi _ (List.getElem_mem hlt)
  have := hc k _ (List.getElem?_eq_getElem hlt)
  rw [hn, show (⟨g, 0, none⟩ : Addr).add k = ⟨g, k, none⟩ by unfold Addr.add; split <;> simp_all] at this
  exact ⟨n, this⟩
theorem own_free {w : World} {B N c g : Nat} {xs : List Value} {e : TypeId} (h : w.ownsRow B e 2 (.slice (some ⟨g, 0, none⟩) N c) N xs) (k : Nat) : w.frozen? ⟨g, k, none⟩ = false := by
  obtain ⟨h1, h2⟩ := h
  rcases h2 with ⟨hv, -⟩ | ⟨g', cap, cur, hv, hg, hh, r⟩
  · cases hv
  · cases hv
    exact Joins.unfrozen_of_block hh k
theorem own_base {w : World} {B N c g : Nat} {xs : List Value} {e : TypeId} (h : w.ownsRow B e 2 (.slice (some ⟨g, 0, none⟩) N c) N xs) : B ≤ g := by
  obtain ⟨h1, h2⟩ := h
  rcases h2 with ⟨hv, -⟩ | ⟨g', cap, cur, hv, hg, hh, r⟩
  · cases hv
  · cases hv
    exact hg
theorem own_put {w : World} {B N c g : Nat} {xs : List Value} {e : TypeId} (h : w.ownsRow B e 2 (.slice (some ⟨g, 0, none⟩) N c) N xs) (hi : AllInt xs) (k : Nat) (n : Int) : ∃ ys, (w.setCell ⟨g, k, none⟩ (.int .i64 n)).ownsRow B e 2 (.slice (some ⟨g, 0, none⟩) N c) N ys ∧ AllInt ys := by
  obtain ⟨h1, h2⟩ := h
  rcases h2 with ⟨hv, -⟩ | ⟨g', cap, cur, hv, hg, hh, hn, hm, hs, htk⟩
  · cases hv
  · cases hv
    refine ⟨xs.set k (.int .i64 n), ⟨by simpa using h1, .inr ⟨g, c, cur.setIfInBounds k (.int .i64 n), rfl, hg, heap_setCell_same w g k cur e _ hh, hn, hm, by simpa using hs, ?_⟩⟩, ?_⟩
    · rw [Array.toList_setIfInBounds, List.take_set, htk]
    · intro u hu
      rcases List.mem_or_eq_of_mem_set hu with hu | hu
      · exact hi u hu
      · exact ⟨n, hu⟩

def lenV : Value → Nat
  | .slice _ n _ => n
  | _ => 0
theorem own_shape1 {w : World} {B M : Nat} {v : Value} {xs : List Value} {e : TypeId} (h : w.ownsRow B e 2 v (M + 1) xs) : ∃ g c, v = .slice (some ⟨g, 0, none⟩) (M + 1) c := by
  obtain ⟨h1, h2⟩ := h
  rcases h2 with ⟨-, h0⟩ | ⟨g', cap, cur, hv, r⟩
  · omega
  · exact ⟨g', cap, hv⟩
theorem all_int2 {xs : List Value} (h : AllInt xs) (x y : Int) : AllInt (xs ++ [.int .i64 x, .int .i64 y]) := fun u hu => by
  rw [List.mem_append] at hu
  rcases hu with hu | hu
  · exact h u hu
  · simp at hu
    rcases hu with rfl | rfl
    · exact ⟨x, rfl⟩
    · exact ⟨y, rfl⟩

set_option maxRecDepth 100000 in
set_option maxHeartbeats 4000000 in
theorem oddmarks_d {p : Nat} {a0 : Option Addr} {len cap : Nat} (K0 : Nat) (wb : World) (ad : Option Addr) (N mc Bm : Nat) (xs : List Value) (w : World) (hC0 : CurAt p a0 len cap K0 wb) (hC : CurAt p a0 len cap K0 w) (hK : K0 ≤ 9990000) (hT : Turns p wb w) (hwb : wb.heap.size ≤ Bm) (hBw : Bm ≤ w.heap.size) (hown : w.ownsRow Bm 111 2 (.slice ad N mc) N xs) (hint : AllInt xs) (hpB : p < Bm) (hN : N ≤ 7) :
    Calls Tryd.prog 94 #[.pointer (some ⟨p, 0, none⟩), .slice ad N mc] w fun e w' => ∃ (v : Value) (N' : Nat) (ys : List Value), e = .returned v ∧ N' ≤ 101 ∧ w'.ownsRow Bm 111 2 v N' ys ∧ AllInt ys ∧ CurAt p a0 len cap (K0 + 130) w' ∧ Turns p wb w' := by
  have HC0 : Hid (CurAt p a0 len cap K0 wb) := hC0
  clear hC0
  by_cases hN0 : N = 0
  · subst hN0
    go_enter Tryd.func94, Tryd.ntmps94
    go_wp2_with fail
    go_ret
    exact ⟨_, 0, xs, rfl, by omega, hown, hint, hC.le (by omega), hT⟩
  obtain ⟨g, -, rfl, -⟩ := own_get hown hint (show 0 < N by omega)
  have hgB : Bm ≤ g := own_base hown
  have hNb : ((N : Int) == 0) = false := by simp; omega
  have hNp : (0 : Int) < (N : Int) := by omega
  have hNi : (N : Int) ≤ 200 := by omega
  go_enter Tryd.func94, Tryd.ntmps94
  go_wp2_with fail
  refine (pick_any _ (N : Int) _ hC (by omega) (by omega) (by omega)).mono ?_
  rintro e w2 ⟨y, rfl, y0, y1, hC2, ht2⟩
  obtain ⟨k, rfl⟩ := Int.eq_ofNat_of_zero_le y0
  have hkN : k < N := by omega
  have hT2 := hT.trans ht2
  have hown2 := ownsOn hown ht2 hpB
  go_wp2_with fail
  refine (pick_c _ 5 _ hC2 (by omega) (by omega) (by omega)).mono ?_
  rintro e w3 ⟨q, rfl, q0, q1, hC3, ht3⟩
  have hT3 := hT2.trans ht3
  have HOW3 : Hid (w3.ownsRow Bm 111 2 (.slice (some ⟨g, 0, none⟩) N mc) N xs) := ownsOn hown2 ht3 hpB
  have hBsz : Bm ≤ w3.heap.size := by have := ht2.size; have := ht3.size; omega
  obtain ⟨xA, hcA⟩ := own_cell HOW3.out hint (show k * 2 < N * 2 by omega)
  obtain ⟨xB, hcB⟩ := own_cell HOW3.out hint (show k * 2 + 1 < N * 2 by omega)
  have hfA := own_free HOW3.out (k * 2)
  have hfB := own_free HOW3.out (k * 2 + 1)
  clear hC hT hown hown2 hC2 ht2 ht3 hT2
  rcases (by omega : q = 0 ∨ q = 1 ∨ q = 2 ∨ q = 3 ∨ q = 4) with hq | hq | hq | hq | hq
  · subst hq
    go_wp2_with fail
    have hC5a := hC3.on ((Below.refl w3.heap.size w3).alloc (Nat.le_refl _) (.cells #[.int .i64 (-1), .int .i64 0, .int .i64 100000000, .int .i64 100000001] 3))
    have hl5 : Hid ((w3.alloc (.cells #[.int .i64 (-1), .int .i64 0, .int .i64 100000000, .int .i64 100000001] 3)).heap[w3.heap.size]? = some (.cells #[.int .i64 (-1), .int .i64 0, .int .i64 100000000, .int .i64 100000001] 3)) := newBlk _ _ rfl
    have hp5 := hC3.lt
    refine (pick_c _ 4 _ hC5a (by omega) (by omega) (by omega)).mono ?_
    rintro e w5 ⟨q5, rfl, q50, q51, hC5, ht5⟩
    obtain ⟨k5, rfl⟩ := Int.eq_ofNat_of_zero_le q50
    have hk5 : w5.heap[w3.heap.size]? = some (.cells #[.int .i64 (-1), .int .i64 0, .int .i64 100000000, .int .i64 100000001] 3) := ht5.blk (by omega) hl5.out
    obtain ⟨y5, hy5⟩ : ∃ y : Int, w5.cell? ⟨w3.heap.size, k5, none⟩ = some (.int .i64 y) := by
      rcases (by omega : k5 = 0 ∨ k5 = 1 ∨ k5 = 2 ∨ k5 = 3) with rfl | rfl | rfl | rfl <;> exact ⟨_, by simp [World.cell?, hk5]; rfl⟩
    have hT5 := (hT3.alloc _).trans ht5
    have hlt5 : g < w3.heap.size := ltCell hcA
    have HOW : Hid (w5.ownsRow Bm 111 2 (.slice (some ⟨g, 0, none⟩) N mc) N xs) := ownsOn (HOW3.out.alloc _) ht5 (by omega)
    obtain ⟨xo, hxo⟩ := own_cell HOW.out hint (show k * 2 + 1 < N * 2 by omega)
    have hfo := own_free HOW.out (k * 2 + 1)
    clear hcA hcB hfA hfB hl5 hC5a hk5 ht5
    generalize w3.heap.size = r at *
    go_wp2_with fail
    go_ret
    obtain ⟨ys, hw9, hi9⟩ := own_put HOW.out hint (k * 2 + 1) (y5)
    have hcur := CurAt.fin (HC0.out.le (by omega)) (hC5.le (show _ ≤ K0 + 130 by omega)) (hT5.setOwn (show wb.heap.size ≤ g by omega) (k * 2 + 1) (.int .i64 (y5))) (hpSet rfl (by omega))
    exact ⟨_, N, ys, rfl, by omega, hw9, hi9, hcur, hT5.setOwn (by omega) _ _⟩
  · subst hq
    go_wp2_with fail
    refine (pick_c _ 9 _ hC3 (by omega) (by omega) (by omega)).mono ?_
    rintro e w5 ⟨t, rfl, t0, t1, hC5, ht5⟩
    have hT5 := hT3.trans ht5
    have HOW : Hid (w5.ownsRow Bm 111 2 (.slice (some ⟨g, 0, none⟩) N mc) N xs) := ownsOn HOW3.out ht5 (by omega)
    obtain ⟨xo, hxo⟩ := own_cell HOW.out hint (show k * 2 < N * 2 by omega)
    have hfo := own_free HOW.out (k * 2)
    clear hcA hcB hfA hfB ht5
    go_wp2_with fail
    go_ret
    obtain ⟨ys, hw9, hi9⟩ := own_put HOW.out hint (k * 2) (t)
    have hcur := CurAt.fin (HC0.out.le (by omega)) (hC5.le (show _ ≤ K0 + 130 by omega)) (hT5.setOwn (show wb.heap.size ≤ g by omega) (k * 2) (.int .i64 (t))) (hpSet rfl (by omega))
    exact ⟨_, N, ys, rfl, by omega, hw9, hi9, hcur, hT5.setOwn (by omega) _ _⟩
  · subst hq
    have HOW := HOW3
    obtain ⟨xo, hxo⟩ := own_cell HOW3.out hint (show 0 < N * 2 by omega)
    clear hcB hfB
    go_wp2_with fail
    go_ret
    obtain ⟨ys, hw9, hi9⟩ := own_put HOW.out hint (k * 2) (xo)
    have hcur := CurAt.fin (HC0.out.le (by omega)) (hC3.le (show _ ≤ K0 + 130 by omega)) (hT3.setOwn (show wb.heap.size ≤ g by omega) (k * 2) (.int .i64 (xo))) (hpSet rfl (by omega))
    exact ⟨_, N, ys, rfl, by omega, hw9, hi9, hcur, hT3.setOwn (by omega) _ _⟩
  · subst hq
    clear hcA hcB hfA hfB
    go_wp2_with fail
    go_loopw [1] (fun v wr => ∃ (M : Nat) (ys : List Value), 1 ≤ M ∧ M ≤ 101 ∧ wr.ownsRow Bm 111 2 v M ys ∧ AllInt ys ∧ CurAt p a0 len cap (K0 + 20 + M) wr ∧ Turns p wb wr ∧ Bm ≤ wr.heap.size) (fun v wr => 102 - lenV v)
    case atStart => exact ⟨N, xs, by omega, by omega, HOW3.out, hint, hC3.le (by omega), hT3, hBsz⟩
    case round =>
      obtain ⟨M, ys, hM1, hM2, hown, hiy, hCr, hTr, hbs⟩ := hrel
      obtain ⟨M', rfl⟩ : ∃ M', M = M' + 1 := ⟨M - 1, by omega⟩
      obtain ⟨g', c', rfl⟩ := own_shape1 hown
      go_wp2_with fail
      refine (pick_c _ 2 _ hCr (by omega) (by omega) (by omega)).mono ?_
      rintro e w5 ⟨t, rfl, t0, t1, hC5, ht5⟩
      have hT5 := hTr.trans ht5
      have hown5 := ownsOn hown ht5 (by omega)
      have hbs5 : Bm ≤ w5.heap.size := by have := ht5.size; omega
      obtain ⟨xo, hxo⟩ := own_cell hown5 hiy (show M' * 2 + 1 < (M' + 1) * 2 by omega)
      clear hown hCr hTr ht5
      by_cases hgo : ((M' + 1 : Nat) : Int) < 100 + t
      · have hgo2 : (M' : Int) + 1 < 100 + t := by omega
        have i0_ : (0 : Int) ≤ (M' : Int) := by omega
        have i1_ : (M' : Int) < (M' : Int) + 1 := by omega
        obtain ⟨i0', hi, hz0, hz1, hz2⟩ := info_parts infoMark
        go_wp2_with (at_builtin; refine wpList_append_own _ rfl _ _ 25 rfl (Bm) 111 i0' (.agg #[.int .i64 0, .int .i64 0]) 2 16 Tryd.underlying25 hi hz0 hz1 hz2 rfl (by decide) _ _ _ rfl (hown5.alloc _) ⟨w5.heap.size, 0, none⟩ 1 1 [.int .i64 (1000 + ((M' : Int) + 1)), .int .i64 (wrap64 (xo + 1))] rfl rfl ?c1a ?c2a ?c3a ?c4a ?c5a ?_)
        try (case c1a =>
          intro j u hj
          match j, hj with
          | 0, hj => simp at hj; subst hj; simp [Addr.add]
          | 1, hj => simp at hj; subst hj; simp [Addr.add])
        case c2a => first | exact ⟨rfl, rfl⟩ | rfl | (intro u hu; simp at hu; rcases hu with rfl | rfl <;> rfl)
        case c3a => unfold maxLen; omega
        case c4a => omega
        case c5a => first | omega | (simp; omega) | (show _ ≤ (Array.push _ _).size; rw [Array.size_push]; omega)
        intro v' w6 hown6 hgrow _
        have hT6 := (hT5.alloc _).grown (hown5.alloc _) hwb hgrow
        have hC6 := CurAt.grown (HC0.out.le (by omega)) hT6 (hC5.on ((Below.refl _ _).alloc (Nat.le_refl _) _)) (hown5.alloc _) hpB hgrow
        have hbs6 : Bm ≤ w6.heap.size := by
          have h9 := (grown_low (hown5.alloc _) (by show Bm ≤ (Array.push _ _).size; rw [Array.size_push]; omega) hgrow).size
          have h8 : (Array.push _ _).size ≤ _ := h9
          rw [Array.size_push] at h8
          omega
        clear hgrow hown5 hC5 hT5 hi hz0 hz1 hz2
        obtain ⟨g6, c6, rfl⟩ := own_shape1 hown6
        go_wp2_with fail
        go_roundw
        case rel => exact ⟨M' + 1 + 1, _, by omega, by omega, hown6, all_int2 hiy _ _, hC6.le (by omega), hT6, hbs6⟩
        case measure => simp [lenV]; omega
      · have hgo2 : ¬ (M' : Int) + 1 < 100 + t := by omega
        go_wp2_with fail
        go_ret
        exact ⟨_, M' + 1, ys, rfl, by omega, hown5, hiy, hC5.le (by omega), hT5⟩
  · subst hq
    by_cases hN1 : N = 1
    · subst hN1
      go_wp2_with fail
      go_ret
      exact ⟨_, 1, xs, rfl, by omega, HOW3.out, hint, hC3.le (by omega), hT3⟩
    · have hN2 : (1 : Int) < (N : Int) := by omega
      obtain ⟨xo, hxo⟩ := own_cell HOW3.out hint (show 1 < N * 2 by omega)
      obtain ⟨xq, hxq⟩ := own_cell HOW3.out hint (show 3 < N * 2 by omega)
      have hfq := own_free HOW3.out 3
      clear hcA hcB hfA hfB
      go_wp2_with fail
      go_region_with (first | (go_at_call 27; refine (pick_c _ 2 _ hC3.drew (by omega) (by omega) (by omega)).mono ?_; rintro e w5 ⟨t, rfl, t0, t1, hC5, ht5⟩; have y1 : w5.cell? ⟨g, 1, none⟩ = some (.int .i64 xo) := ht5.cell (by omega) hxo; have y3 : w5.cell? ⟨g, 3, none⟩ = some (.int .i64 xq) := ht5.cell (by omega) hxq; have yf : w5.frozen? ⟨g, 3, none⟩ = false := ht5.frozen (by omega) hxq hfq))
      all_goals
        go_wp2
        go_ret
        have hT5 := ((hT3.drewN 1)).trans ht5
        have HOW : Hid (w5.ownsRow Bm 111 2 (.slice (some ⟨g, 0, none⟩) N mc) N xs) := ownsOn (owns_on HOW3.out (Below.drew (Below.refl _ _))) ht5 (by omega)
        obtain ⟨ys, hw9, hi9⟩ := own_put HOW.out hint (3) (IntKind.i64.wrap (xo + t))
        have hcur := CurAt.fin (HC0.out.le (by omega)) (hC5.le (show _ ≤ K0 + 130 by omega)) (hT5.setOwn (show wb.heap.size ≤ g by omega) (3) (.int .i64 (IntKind.i64.wrap (xo + t)))) (hpSet rfl (by omega))
        exact ⟨_, N, ys, rfl, by omega, hw9, hi9, hcur, hT5.setOwn (by omega) _ _⟩

end Go.Proofs.YtmhppadblddjoaaDoor

/- The draws of a run: all of it. -/
namespace Go.Proofs.YtmhppadblddjoaaDoor
open Go.RowKit
set_option linter.unusedVariables false

theorem mkCells_int (f a : Nat → Int) : ∀ n, AllInt (mkCells f a n)
  | 0 => fun u hu => by simp [mkCells] at hu
  | n + 1 => by
    have := all_int2 (mkCells_int f a n) (f n) (a n)
    simpa [mkCells] using this
theorem own_slice {w : World} {base : Nat} {e : TypeId} {size n : Nat} {v : Value} {xs : List Value} (h : w.ownsRow base e size v n xs) : ∃ ad cap, v = .slice ad n cap := by
  obtain ⟨h1, h2⟩ := h
  rcases h2 with ⟨rfl, rfl⟩ | ⟨q, cap, cur, rfl, hg, hh, hn, hm, hs, htk⟩
  · exact ⟨none, 0, rfl⟩
  · exact ⟨some ⟨q, 0, none⟩, cap, rfl⟩

set_option maxRecDepth 100000 in
set_option maxHeartbeats 1000000 in
theorem l5marks_d {p : Nat} {a0 : Option Addr} {len cap : Nat} (K : Nat) (w : World) (hC : CurAt p a0 len cap K w) (hK : K ≤ 9980000) :
    Calls Tryd.prog 69 #[.pointer (some ⟨p, 0, none⟩)] w fun e w' => ∃ (v : Value) (N' : Nat) (ys : List Value), e = .returned v ∧ N' ≤ 101 ∧ w'.ownsRow w.heap.size 111 2 v N' ys ∧ AllInt ys ∧ CurAt p a0 len cap (K + 200) w' ∧ Turns p w w' := by
  have hlt := hC.lt
  have HC : Hid (CurAt p a0 len cap K w) := hC
  go_enter Tryd.func69, Tryd.ntmps69
  go_wp2_with fail
  refine (marks_d K _ hC (by omega)).mono ?_
  rintro e w1 ⟨v, rfl, hC1, ht1, N, t, xs, hN, htt, hDM, hown1⟩
  have hint : AllInt xs := by
    obtain ⟨f, a, rfl, -⟩ := hDM.marks hN htt
    exact mkCells_int f a N
  obtain ⟨ad, mc, rfl⟩ := own_slice hown1
  have HOW1 : Hid (w1.ownsRow w.heap.size 111 2 (.slice ad N mc) N xs) := hown1
  have HIN : Hid (AllInt xs) := hint
  clear hC hDM htt hown1 hint
  go_wp2_with fail
  refine (pick_c _ 16 _ hC1 (by omega) (by omega) (by omega)).mono ?_
  rintro e w2 ⟨z, rfl, z0, z1, hC2, ht2⟩
  have hT2 := ht1.trans ht2
  have HOW2 : Hid (w2.ownsRow w.heap.size 111 2 (.slice ad N mc) N xs) := ownsOn HOW1.out ht2 hlt
  clear hC1 ht1 ht2 HOW1
  by_cases hz : z = 0
  · subst hz
    go_wp2_with fail
    refine (oddmarks_d (K + 31) w ad N mc w.heap.size xs _ (HC.out.le (by omega)) (hC2.le (by omega)) (by omega) hT2 (Nat.le_refl _) hT2.size HOW2.out HIN.out hlt hN).mono ?_
    rintro e w3 ⟨v3, N3, ys, rfl, hN3, hown3, hi3, hC3, hT3⟩
    go_wp2_with fail
    go_ret
    exact ⟨_, N3, ys, rfl, hN3, hown3, hi3, hC3.le (by omega), hT3⟩
  · have hzb : (z == 0) = false := by simpa using hz
    go_wp2_with fail
    go_ret
    exact ⟨_, N, xs, rfl, by omega, HOW2.out, HIN.out, hC2.le (by omega), hT2⟩

theorem infoEvD : (Tryd.prog.info? 48).map (fun i => (i.zero, i.size, i.bytes)) = some (some (.agg #[.int .i64 0, .int .i64 0]), 2, 16) := by kernel_rfl
set_option maxRecDepth 100000 in
set_option maxHeartbeats 4000000 in
theorem l5run_d (a0 : Option Addr) (len cap : Nat) (w : World) (hby : Bytes w a0 len) :
    Calls Tryd.prog 26 #[.slice a0 len cap] w fun e w' => ∃ (s j m g o : Int) (mv : Value) (N : Nat) (ys : List Value) (x y : Int) (lv : Value) (M : Nat) (zs : List Value), e = .returned (.tuple #[.agg #[.int .i64 s, .int .i64 j, .int .i64 m, .int .i64 g, .int .i64 o], mv, .agg #[.int .i64 x, .int .i64 y], lv]) ∧ N ≤ 101 ∧ w'.ownsRow w.heap.size 111 2 mv N ys ∧ AllInt ys ∧ M ≤ 21 ∧ w'.ownsRow w.heap.size 48 2 lv M zs ∧ AllInt zs ∧ Below w.heap.size w w' := by
  have hb0 : Below w.heap.size w (((w.alloc (.cells #[.int .i64 0, .int .i64 0, .int .i64 0, .int .i64 0, .int .i64 0] 24)).alloc (.cells #[.int .i64 0, .int .i64 0] 27)).alloc (.cells #[.slice a0 len cap, .int .i64 0, .int .u64 0] 61)) := nbAlloc (nbAlloc (nbAlloc (Below.refl _ _) _) _) _
  have hC0 : CurAt (w.heap.size + 1 + 1) a0 len cap 0 (((w.alloc (.cells #[.int .i64 0, .int .i64 0, .int .i64 0, .int .i64 0, .int .i64 0] 24)).alloc (.cells #[.int .i64 0, .int .i64 0] 27)).alloc (.cells #[.slice a0 len cap, .int .i64 0, .int .u64 0] 61)) := by
    refine ⟨hby.row hb0 (by omega), 0, 0, Nat.le_refl _, ?_⟩
    exact newBlk _ _ (by simp)
  have hA0 : Hid ((((w.alloc (.cells #[.int .i64 0, .int .i64 0, .int .i64 0, .int .i64 0, .int .i64 0] 24)).alloc (.cells #[.int .i64 0, .int .i64 0] 27)).alloc (.cells #[.slice a0 len cap, .int .i64 0, .int .u64 0] 61)).heap[w.heap.size]? = some (.cells #[.int .i64 0, .int .i64 0, .int .i64 0, .int .i64 0, .int .i64 0] 24)) := oldBlk (oldBlk (newBlk _ _ rfl) _) _
  have hB0 : Hid ((((w.alloc (.cells #[.int .i64 0, .int .i64 0, .int .i64 0, .int .i64 0, .int .i64 0] 24)).alloc (.cells #[.int .i64 0, .int .i64 0] 27)).alloc (.cells #[.slice a0 len cap, .int .i64 0, .int .u64 0] 61)).heap[w.heap.size + 1]? = some (.cells #[.int .i64 0, .int .i64 0] 27)) := oldBlk (newBlk _ _ (by simp)) _
  clear hby
  go_enter Tryd.func26, Tryd.ntmps26
  go_wp2_with fail
  refine (l5rules_d 0 _ hC0 (by omega)).mono ?_
  rintro e w1 ⟨s, j, m, g, o, rfl, hC1, ht1⟩
  have hA1 : Hid (w1.heap[w.heap.size]? = some (.cells #[.int .i64 0, .int .i64 0, .int .i64 0, .int .i64 0, .int .i64 0] 24)) := ht1.blk (by omega) hA0.out
  have hB1 : Hid (w1.heap[w.heap.size + 1]? = some (.cells #[.int .i64 0, .int .i64 0] 27)) := ht1.blk (by omega) hB0.out
  have hW1 : Hid (Below w.heap.size w w1) := turnsBelow hb0 ht1 (by omega)
  have hp1 := hC1.lt
  clear hb0 hC0 hA0 hB0 ht1
  go_wp2_with fail
  have hr1 : Hid ((w1.alloc (.cells #[.int .i64 s, .int .i64 j, .int .i64 m, .int .i64 g, .int .i64 o] 24)).heap[w1.heap.size]? = some (.cells #[.int .i64 s, .int .i64 j, .int .i64 m, .int .i64 g, .int .i64 o] 24)) := newBlk _ _ rfl
  have hA2 : Hid ((w1.alloc (.cells #[.int .i64 s, .int .i64 j, .int .i64 m, .int .i64 g, .int .i64 o] 24)).heap[w.heap.size]? = some (.cells #[.int .i64 0, .int .i64 0, .int .i64 0, .int .i64 0, .int .i64 0] 24)) := oldBlk hA1.out _
  have hB2 : Hid ((w1.alloc (.cells #[.int .i64 s, .int .i64 j, .int .i64 m, .int .i64 g, .int .i64 o] 24)).heap[w.heap.size + 1]? = some (.cells #[.int .i64 0, .int .i64 0] 27)) := oldBlk hB1.out _
  have hW2 : Hid (Below w.heap.size w (w1.alloc (.cells #[.int .i64 s, .int .i64 j, .int .i64 m, .int .i64 g, .int .i64 o] 24))) := nbAlloc hW1.out _
  have hC1a := hC1.on ((Below.refl w1.heap.size w1).alloc (Nat.le_refl _) (.cells #[.int .i64 s, .int .i64 j, .int .i64 m, .int .i64 g, .int .i64 o] 24))
  have hsza : w1.heap.size + 1 ≤ (w1.alloc (.cells #[.int .i64 s, .int .i64 j, .int .i64 m, .int .i64 g, .int .i64 o] 24)).heap.size := by show _ ≤ (Array.push _ _).size; rw [Array.size_push]; omega
  clear hC1 hA1 hB1 hW1
  generalize w1.alloc (.cells #[.int .i64 s, .int .i64 j, .int .i64 m, .int .i64 g, .int .i64 o] 24) = wa at *
  generalize w1.heap.size = r at *
  refine (l5marks_d _ _ hC1a (by omega)).mono ?_
  rintro e w2 ⟨mv, N, ys, rfl, hN, hown2, hiy, hC2, ht2⟩
  have HIY : Hid (AllInt ys) := hiy
  obtain ⟨ad, mc, rfl⟩ := own_slice hown2
  obtain ⟨Bm, hBm, hBm2⟩ : ∃ Bm, Hid (wa.heap.size = Bm) ∧ r + 1 ≤ Bm := ⟨_, rfl, hsza⟩
  have HM2 : Hid (w2.ownsRow Bm 111 2 (.slice ad N mc) N ys) := hBm.out ▸ hown2
  have hs2 : Bm ≤ w2.heap.size := by have := ht2.size; have := hBm.out; omega
  clear hiy hown2 hC1a
  go_wp2_with fail
  refine (bound_d _ _ hC2 (by omega)).mono ?_
  rintro e w3 ⟨x, y, rfl, hC3, ht3⟩
  have hT3 := ht2.trans ht3
  have HM3 : Hid (w3.ownsRow Bm 111 2 (.slice ad N mc) N ys) := ownsOn HM2.out ht3 (by omega)
  have hs3 : Bm ≤ w3.heap.size := by have := ht3.size; omega
  have hd3 : Hid ((w3.alloc (.cells #[.int .i64 x, .int .i64 y] 27)).heap[w3.heap.size]? = some (.cells #[.int .i64 x, .int .i64 y] 27)) := newBlk _ _ rfl
  have hA3 : Hid ((w3.alloc (.cells #[.int .i64 x, .int .i64 y] 27)).heap[w.heap.size]? = some (.cells #[.int .i64 0, .int .i64 0, .int .i64 0, .int .i64 0, .int .i64 0] 24)) := oldBlk (hT3.blk (by omega) hA2.out) _
  have hB3 : Hid ((w3.alloc (.cells #[.int .i64 x, .int .i64 y] 27)).heap[w.heap.size + 1]? = some (.cells #[.int .i64 0, .int .i64 0] 27)) := oldBlk (hT3.blk (by omega) hB2.out) _
  have hR3 : Hid ((w3.alloc (.cells #[.int .i64 x, .int .i64 y] 27)).heap[r]? = some (.cells #[.int .i64 s, .int .i64 j, .int .i64 m, .int .i64 g, .int .i64 o] 24)) := oldBlk (hT3.blk (by omega) hr1.out) _
  have hW3 : Hid (Below w.heap.size w (w3.alloc (.cells #[.int .i64 x, .int .i64 y] 27))) := nbAlloc (turnsBelow hW2.out hT3 (by omega)) _
  have HM3a : Hid ((w3.alloc (.cells #[.int .i64 x, .int .i64 y] 27)).ownsRow Bm 111 2 (.slice ad N mc) N ys) := HM3.out.alloc _
  have hC3a := hC3.on ((Below.refl w3.heap.size w3).alloc (Nat.le_refl _) (.cells #[.int .i64 x, .int .i64 y] 27))
  have hp3 := hC3.lt
  have hszb : w3.heap.size + 1 ≤ (w3.alloc (.cells #[.int .i64 x, .int .i64 y] 27)).heap.size := by show _ ≤ (Array.push _ _).size; rw [Array.size_push]; omega
  clear hA2 hB2 hr1 hW2 HM2 HM3 hC2 hC3 ht2 ht3 hT3 hBm
  go_wp2_with fail
  generalize w3.alloc (.cells #[.int .i64 x, .int .i64 y] 27) = wb at *
  generalize w3.heap.size = d at *
  refine (pick_c _ 20 _ hC3a (by omega) (by omega) (by omega)).mono ?_
  rintro e w4 ⟨q, rfl, q0, q1, hC4, ht4⟩
  obtain ⟨n0, rfl⟩ := Int.eq_ofNat_of_zero_le q0
  have HA : Hid (w4.heap[w.heap.size]? = some (.cells #[.int .i64 0, .int .i64 0, .int .i64 0, .int .i64 0, .int .i64 0] 24)) := ht4.blk (by omega) hA3.out
  have HB : Hid (w4.heap[w.heap.size + 1]? = some (.cells #[.int .i64 0, .int .i64 0] 27)) := ht4.blk (by omega) hB3.out
  have HR : Hid (w4.heap[r]? = some (.cells #[.int .i64 s, .int .i64 j, .int .i64 m, .int .i64 g, .int .i64 o] 24)) := ht4.blk (by omega) hR3.out
  have HD : Hid (w4.heap[d]? = some (.cells #[.int .i64 x, .int .i64 y] 27)) := ht4.blk (by omega) hd3.out
  have HM4 : Hid (w4.ownsRow Bm 111 2 (.slice ad N mc) N ys) := ownsOn HM3a.out ht4 (by omega)
  have HBW : Hid (Below w.heap.size w w4) := turnsBelow hW3.out ht4 (by omega)
  have HC4 : Hid (CurAt (w.heap.size + 1 + 1) a0 len cap 300 w4) := hC4.le (by omega)
  obtain ⟨Be, hBe, hBe2⟩ : ∃ Be, w4.heap.size ≤ Be ∧ Be ≤ w4.heap.size := ⟨_, Nat.le_refl _, Nat.le_refl _⟩
  have hdB : d < Be := by have := ht4.size; omega
  clear hA3 hB3 hR3 hd3 hW3 HM3a hC3a ht4
  go_wp2_with fail
  go_loopw [10, 11] (fun v k wr => ∃ (n M : Nat) (zs : List Value), k = .int .i64 n ∧ n ≤ 19 ∧ M + n ≤ 19 ∧ wr.ownsRow Be 48 2 v M zs ∧ AllInt zs ∧ CurAt (w.heap.size + 1 + 1) a0 len cap (1000 - 30 * n) wr ∧ Turns (w.heap.size + 1 + 1) w4 wr) (fun _ k _ => (intOf k).toNat)
  case atStart => exact ⟨n0, 0, [], rfl, by omega, by omega, World.ownsRow_nil _ _ _ _, fun u hu => absurd hu (by simp), hC4.le (by omega), Turns.refl _ _⟩
  case round =>
    clear hC4 q0 q1
    obtain ⟨n, M, zs, rfl, hn, hMn, hown, hiz, hCr, hTr⟩ := hrel
    have HIZ : Hid (AllInt zs) := hiz
    clear hiz
    by_cases hn0 : 0 < n
    · have hMr := ownsOn HM4.out hTr (by omega)
      go_wp2_with fail
      refine (event_d _ ad N mc Bm ys _ hCr (by omega) hMr HIY.out (by omega) (by omega)).mono ?_
      rintro e w5 ⟨ex, ey, rfl, hC5, ht5⟩
      have hT5 := hTr.trans ht5
      have hown5 := ownsOn hown ht5 (by omega)
      have hsz5 : Be ≤ w5.heap.size := by have := hT5.size; omega
      clear hown hCr hTr ht5 hMr
      obtain ⟨i0', hi, hz0, hz1, hz2⟩ := info_parts infoEvD
      go_wp2_with (at_builtin; refine wpList_append_own _ rfl _ _ 28 rfl (Be) 48 i0' (.agg #[.int .i64 0, .int .i64 0]) 2 16 Tryd.underlying28 hi hz0 hz1 hz2 rfl (by decide) _ _ _ rfl (hown5.alloc _) ⟨w5.heap.size, 0, none⟩ 1 1 [.int .i64 ex, .int .i64 ey] rfl rfl ?c1a ?c2a ?c3a ?c4a ?c5a ?_)
      try (case c1a =>
        intro j u hj
        match j, hj with
        | 0, hj => simp at hj; subst hj; simp [Addr.add]
        | 1, hj => simp at hj; subst hj; simp [Addr.add])
      case c2a => first | exact ⟨rfl, rfl⟩ | rfl | (intro u hu; simp at hu; rcases hu with rfl | rfl <;> rfl)
      case c3a => unfold maxLen; omega
      case c4a => omega
      case c5a => first | omega | (simp; omega) | (show _ ≤ (Array.push _ _).size; rw [Array.size_push]; omega)
      intro v' w6 hown6 hgrow _
      have hT6 := (hT5.alloc _).grown (hown5.alloc _) hBe hgrow
      have hC6' : CurAt (w.heap.size + 1 + 1) a0 len cap (1000 - 30 * n + 20) w6 := CurAt.grown (HC4.out.le (by omega)) hT6 (hC5.on ((Below.refl _ _).alloc (Nat.le_refl _) _)) (hown5.alloc _) (by omega) hgrow
      clear hgrow hown5 hC5 hT5 hi hz0 hz1 hz2
      go_wp2_with fail
      go_roundw
      case rel => exact ⟨n - 1, M + 1, _, by go_num, by omega, by omega, hown6, all_int2 HIZ.out _ _, hC6'.le (by omega), hT6⟩
      case measure => simp [intOf]; omega
    · have hCr' := hCr.le (show _ ≤ 1000 by omega)
      obtain ⟨la, lc, rfl⟩ := own_slice hown
      go_wp2_with fail
      refine (pick_c _ 16 _ hCr' (by omega) (by omega) (by omega)).mono ?_
      rintro e w7 ⟨z, rfl, z0, z1, hC7, ht7⟩
      have hT7 := hTr.trans ht7
      have hown7 := ownsOn hown ht7 (by omega)
      have hsz7 : Be ≤ w7.heap.size := by have := hT7.size; omega
      clear hown hCr hCr' hTr ht7
      by_cases hz : z = 0
      · subst hz
        go_wp2_with fail
        refine (oddevent_d _ _ hC7 (by omega)).mono ?_
        rintro e w8 ⟨ex, ey, rfl, hC8, ht8⟩
        have hT8 := hT7.trans ht8
        have hown8 := ownsOn hown7 ht8 (by omega)
        have hsz8 : Be ≤ w8.heap.size := by have := hT8.size; omega
        clear hown7 hC7 hT7 ht8
        obtain ⟨i0', hi, hz0, hz1, hz2⟩ := info_parts infoEvD
        go_wp2_with (at_builtin; refine wpList_append_own _ rfl _ _ 28 rfl (Be) 48 i0' (.agg #[.int .i64 0, .int .i64 0]) 2 16 Tryd.underlying28 hi hz0 hz1 hz2 rfl (by decide) _ _ _ rfl (hown8.alloc _) ⟨w8.heap.size, 0, none⟩ 1 1 [.int .i64 ex, .int .i64 ey] rfl rfl ?c1b ?c2b ?c3b ?c4b ?c5b ?_)
        try (case c1b =>
          intro j u hj
          match j, hj with
          | 0, hj => simp at hj; subst hj; simp [Addr.add]
          | 1, hj => simp at hj; subst hj; simp [Addr.add])
        case c2b => first | exact ⟨rfl, rfl⟩ | rfl | (intro u hu; simp at hu; rcases hu with rfl | rfl <;> rfl)
        case c3b => unfold maxLen; omega
        case c4b => omega
        case c5b => first | omega | (simp; omega) | (show _ ≤ (Array.push _ _).size; rw [Array.size_push]; omega)
        intro v' w9 hown9 hgrow _
        have hT9 := (hT8.alloc _).grown (hown8.alloc _) hBe hgrow
        have hiz9 := all_int2 HIZ.out ex ey
        obtain ⟨l9, c9, rfl⟩ := own_slice hown9
        clear hgrow hown8 hC8 hT8 hi hz0 hz1 hz2
        have hA5 : w9.heap[w.heap.size]? = some (.cells #[.int .i64 0, .int .i64 0, .int .i64 0, .int .i64 0, .int .i64 0] 24) := hT9.blk (by omega) HA.out
        have hB5 : w9.heap[w.heap.size + 1]? = some (.cells #[.int .i64 0, .int .i64 0] 27) := hT9.blk (by omega) HB.out
        have hr5 : w9.heap[r]? = some (.cells #[.int .i64 s, .int .i64 j, .int .i64 m, .int .i64 g, .int .i64 o] 24) := hT9.blk (by omega) HR.out
        have hd5 : w9.heap[d]? = some (.cells #[.int .i64 x, .int .i64 y] 27) := hT9.blk (by omega) HD.out
        have xa0 : w9.cell? ⟨w.heap.size, 0, none⟩ = some (.int .i64 0) := by simp [World.cell?, hA5]
        have xaf0 : w9.frozen? ⟨w.heap.size, 0, none⟩ = false := by simp [World.frozen?, hA5]
        have xa1 : w9.cell? ⟨w.heap.size, 1, none⟩ = some (.int .i64 0) := by simp [World.cell?, hA5]
        have xaf1 : w9.frozen? ⟨w.heap.size, 1, none⟩ = false := by simp [World.frozen?, hA5]
        have xa2 : w9.cell? ⟨w.heap.size, 2, none⟩ = some (.int .i64 0) := by simp [World.cell?, hA5]
        have xaf2 : w9.frozen? ⟨w.heap.size, 2, none⟩ = false := by simp [World.frozen?, hA5]
        have xa3 : w9.cell? ⟨w.heap.size, 3, none⟩ = some (.int .i64 0) := by simp [World.cell?, hA5]
        have xaf3 : w9.frozen? ⟨w.heap.size, 3, none⟩ = false := by simp [World.frozen?, hA5]
        have xa4 : w9.cell? ⟨w.heap.size, 4, none⟩ = some (.int .i64 0) := by simp [World.cell?, hA5]
        have xaf4 : w9.frozen? ⟨w.heap.size, 4, none⟩ = false := by simp [World.frozen?, hA5]
        have xb0 : w9.cell? ⟨w.heap.size + 1, 0, none⟩ = some (.int .i64 0) := by simp [World.cell?, hB5]
        have xbf0 : w9.frozen? ⟨w.heap.size + 1, 0, none⟩ = false := by simp [World.frozen?, hB5]
        have xb1 : w9.cell? ⟨w.heap.size + 1, 1, none⟩ = some (.int .i64 0) := by simp [World.cell?, hB5]
        have xbf1 : w9.frozen? ⟨w.heap.size + 1, 1, none⟩ = false := by simp [World.frozen?, hB5]
        have xr0 : w9.cell? ⟨r, 0, none⟩ = some (.int .i64 s) := by simp [World.cell?, hr5]
        have xrf0 : w9.frozen? ⟨r, 0, none⟩ = false := by simp [World.frozen?, hr5]
        have xr1 : w9.cell? ⟨r, 1, none⟩ = some (.int .i64 j) := by simp [World.cell?, hr5]
        have xrf1 : w9.frozen? ⟨r, 1, none⟩ = false := by simp [World.frozen?, hr5]
        have xr2 : w9.cell? ⟨r, 2, none⟩ = some (.int .i64 m) := by simp [World.cell?, hr5]
        have xrf2 : w9.frozen? ⟨r, 2, none⟩ = false := by simp [World.frozen?, hr5]
        have xr3 : w9.cell? ⟨r, 3, none⟩ = some (.int .i64 g) := by simp [World.cell?, hr5]
        have xrf3 : w9.frozen? ⟨r, 3, none⟩ = false := by simp [World.frozen?, hr5]
        have xr4 : w9.cell? ⟨r, 4, none⟩ = some (.int .i64 o) := by simp [World.cell?, hr5]
        have xrf4 : w9.frozen? ⟨r, 4, none⟩ = false := by simp [World.frozen?, hr5]
        have xd0 : w9.cell? ⟨d, 0, none⟩ = some (.int .i64 x) := by simp [World.cell?, hd5]
        have xdf0 : w9.frozen? ⟨d, 0, none⟩ = false := by simp [World.frozen?, hd5]
        have xd1 : w9.cell? ⟨d, 1, none⟩ = some (.int .i64 y) := by simp [World.cell?, hd5]
        have xdf1 : w9.frozen? ⟨d, 1, none⟩ = false := by simp [World.frozen?, hd5]
        have HM9 : Hid (w9.ownsRow Bm 111 2 (.slice ad N mc) N ys) := ownsOn HM4.out hT9 (by omega)
        have HO9 : Hid (w9.ownsRow Be 48 2 (.slice l9 (M + 1) c9) (M + 1) (zs ++ [.int .i64 ex, .int .i64 ey])) := hown9
        have HB9 : Hid (Below w.heap.size w w9) := turnsBelow HBW.out hT9 (by omega)
        have HZ9 : Hid (AllInt (zs ++ [.int .i64 ex, .int .i64 ey])) := hiz9
        have hn1_ : r ≠ w.heap.size := by omega
        have hn2_ : r ≠ w.heap.size + 1 := by omega
        have hn3_ : d ≠ w.heap.size := by omega
        have hn4_ : d ≠ w.heap.size + 1 := by omega
        clear hA5 hB5 hr5 hd5 HA HB HR HD
        go_wp2_with fail
        go_region
        all_goals
          go_wp2
          exact bodyPost_ret (v := .tuple #[.agg #[.int .i64 s, .int .i64 j, .int .i64 m, .int .i64 g, .int .i64 o], .slice ad N mc, .agg #[.int .i64 x, .int .i64 y], .slice l9 (M + 1) c9]) (by simp [results, Tryd.results26, go_sem, *]) rfl ⟨s, j, m, g, o, _, N, ys, x, y, _, M + 1, (zs ++ [.int .i64 ex, .int .i64 ey]), rfl, hN, owns_low (owns_on (owns_set (owns_set (owns_set (owns_set (owns_set (owns_set (owns_set (HM9.out) (by omega)) (by omega)) (by omega)) (by omega)) (by omega)) (by omega)) (by omega)) (Below.drew (Below.refl _ _))) (by omega), HIY.out, by omega, owns_low (owns_on (owns_set (owns_set (owns_set (owns_set (owns_set (owns_set (owns_set (HO9.out) (by omega)) (by omega)) (by omega)) (by omega)) (by omega)) (by omega)) (by omega)) (Below.drew (Below.refl _ _))) (by omega), HZ9.out, Below.drew (nbSetX (nbSetX (nbSetX (nbSetX (nbSetX (nbSetX (nbSetX (HB9.out) (by omega)) (by omega)) (by omega)) (by omega)) (by omega)) (by omega)) (by omega))⟩

      · have hzb : (z == 0) = false := by simpa using hz
        have hA5 : w7.heap[w.heap.size]? = some (.cells #[.int .i64 0, .int .i64 0, .int .i64 0, .int .i64 0, .int .i64 0] 24) := hT7.blk (by omega) HA.out
        have hB5 : w7.heap[w.heap.size + 1]? = some (.cells #[.int .i64 0, .int .i64 0] 27) := hT7.blk (by omega) HB.out
        have hr5 : w7.heap[r]? = some (.cells #[.int .i64 s, .int .i64 j, .int .i64 m, .int .i64 g, .int .i64 o] 24) := hT7.blk (by omega) HR.out
        have hd5 : w7.heap[d]? = some (.cells #[.int .i64 x, .int .i64 y] 27) := hT7.blk (by omega) HD.out
        have xa0 : w7.cell? ⟨w.heap.size, 0, none⟩ = some (.int .i64 0) := by simp [World.cell?, hA5]
        have xaf0 : w7.frozen? ⟨w.heap.size, 0, none⟩ = false := by simp [World.frozen?, hA5]
        have xa1 : w7.cell? ⟨w.heap.size, 1, none⟩ = some (.int .i64 0) := by simp [World.cell?, hA5]
        have xaf1 : w7.frozen? ⟨w.heap.size, 1, none⟩ = false := by simp [World.frozen?, hA5]
        have xa2 : w7.cell? ⟨w.heap.size, 2, none⟩ = some (.int .i64 0) := by simp [World.cell?, hA5]
        have xaf2 : w7.frozen? ⟨w.heap.size, 2, none⟩ = false := by simp [World.frozen?, hA5]
        have xa3 : w7.cell? ⟨w.heap.size, 3, none⟩ = some (.int .i64 0) := by simp [World.cell?, hA5]
        have xaf3 : w7.frozen? ⟨w.heap.size, 3, none⟩ = false := by simp [World.frozen?, hA5]
        have xa4 : w7.cell? ⟨w.heap.size, 4, none⟩ = some (.int .i64 0) := by simp [World.cell?, hA5]
        have xaf4 : w7.frozen? ⟨w.heap.size, 4, none⟩ = false := by simp [World.frozen?, hA5]
        have xb0 : w7.cell? ⟨w.heap.size + 1, 0, none⟩ = some (.int .i64 0) := by simp [World.cell?, hB5]
        have xbf0 : w7.frozen? ⟨w.heap.size + 1, 0, none⟩ = false := by simp [World.frozen?, hB5]
        have xb1 : w7.cell? ⟨w.heap.size + 1, 1, none⟩ = some (.int .i64 0) := by simp [World.cell?, hB5]
        have xbf1 : w7.frozen? ⟨w.heap.size + 1, 1, none⟩ = false := by simp [World.frozen?, hB5]
        have xr0 : w7.cell? ⟨r, 0, none⟩ = some (.int .i64 s) := by simp [World.cell?, hr5]
        have xrf0 : w7.frozen? ⟨r, 0, none⟩ = false := by simp [World.frozen?, hr5]
        have xr1 : w7.cell? ⟨r, 1, none⟩ = some (.int .i64 j) := by simp [World.cell?, hr5]
        have xrf1 : w7.frozen? ⟨r, 1, none⟩ = false := by simp [World.frozen?, hr5]
        have xr2 : w7.cell? ⟨r, 2, none⟩ = some (.int .i64 m) := by simp [World.cell?, hr5]
        have xrf2 : w7.frozen? ⟨r, 2, none⟩ = false := by simp [World.frozen?, hr5]
        have xr3 : w7.cell? ⟨r, 3, none⟩ = some (.int .i64 g) := by simp [World.cell?, hr5]
        have xrf3 : w7.frozen? ⟨r, 3, none⟩ = false := by simp [World.frozen?, hr5]
        have xr4 : w7.cell? ⟨r, 4, none⟩ = some (.int .i64 o) := by simp [World.cell?, hr5]
        have xrf4 : w7.frozen? ⟨r, 4, none⟩ = false := by simp [World.frozen?, hr5]
        have xd0 : w7.cell? ⟨d, 0, none⟩ = some (.int .i64 x) := by simp [World.cell?, hd5]
        have xdf0 : w7.frozen? ⟨d, 0, none⟩ = false := by simp [World.frozen?, hd5]
        have xd1 : w7.cell? ⟨d, 1, none⟩ = some (.int .i64 y) := by simp [World.cell?, hd5]
        have xdf1 : w7.frozen? ⟨d, 1, none⟩ = false := by simp [World.frozen?, hd5]
        have HM9 : Hid (w7.ownsRow Bm 111 2 (.slice ad N mc) N ys) := ownsOn HM4.out hT7 (by omega)
        have HO9 : Hid (w7.ownsRow Be 48 2 (.slice la M lc) (M) zs) := hown7
        have HB9 : Hid (Below w.heap.size w w7) := turnsBelow HBW.out hT7 (by omega)
        have HZ9 : Hid (AllInt zs) := HIZ.out
        have hn1_ : r ≠ w.heap.size := by omega
        have hn2_ : r ≠ w.heap.size + 1 := by omega
        have hn3_ : d ≠ w.heap.size := by omega
        have hn4_ : d ≠ w.heap.size + 1 := by omega
        clear hA5 hB5 hr5 hd5 HA HB HR HD
        go_wp2_with fail
        go_region
        all_goals
          go_wp2
          exact bodyPost_ret (v := .tuple #[.agg #[.int .i64 s, .int .i64 j, .int .i64 m, .int .i64 g, .int .i64 o], .slice ad N mc, .agg #[.int .i64 x, .int .i64 y], .slice la M lc]) (by simp [results, Tryd.results26, go_sem, *]) rfl ⟨s, j, m, g, o, _, N, ys, x, y, _, M, zs, rfl, hN, owns_low (owns_on (owns_set (owns_set (owns_set (owns_set (owns_set (owns_set (owns_set (HM9.out) (by omega)) (by omega)) (by omega)) (by omega)) (by omega)) (by omega)) (by omega)) (Below.drew (Below.refl _ _))) (by omega), HIY.out, by omega, owns_low (owns_on (owns_set (owns_set (owns_set (owns_set (owns_set (owns_set (owns_set (HO9.out) (by omega)) (by omega)) (by omega)) (by omega)) (by omega)) (by omega)) (by omega)) (Below.drew (Below.refl _ _))) (by omega), HZ9.out, Below.drew (nbSetX (nbSetX (nbSetX (nbSetX (nbSetX (nbSetX (nbSetX (HB9.out) (by omega)) (by omega)) (by omega)) (by omega)) (by omega)) (by omega)) (by omega))⟩


end Go.Proofs.YtmhppadblddjoaaDoor

/- The draws of a run: DrawRun. -/
namespace Go.Proofs.YtmhppadblddjoaaDoor
open Go.RowKit
set_option linter.unusedVariables false

theorem Bytes.onD {w w' : World} {a0 : Option Addr} {len : Nat} (h : Bytes w a0 len) (hb : Below w.heap.size w w') : Bytes w' a0 len := by
  rcases h with h | ⟨b, off, h1, h3⟩
  · exact .inl h
  · exact .inr ⟨b, off, h1, fun i hi => let ⟨v, x, y, c⟩ := h3 i hi; ⟨v, x, y, cellOn hb c⟩⟩

set_option maxRecDepth 100000 in
set_option maxHeartbeats 4000000 in
theorem drawRun_d (a0 : Option Addr) (len cap : Nat) (w : World) (hby : Bytes w a0 len) :
    Calls Tryd.prog 6 #[.slice a0 len cap] w fun e w' => ∃ (s j m g o : Int) (mv : Value) (N : Nat) (ys : List Value) (x y : Int) (lv : Value) (M : Nat) (zs : List Value), e = .returned (.tuple #[.agg #[.int .i64 s, .int .i64 j, .int .i64 m, .int .i64 g, .int .i64 o], mv, .agg #[.int .i64 x, .int .i64 y], lv]) ∧ N ≤ 101 ∧ w'.ownsRow w.heap.size 111 2 mv N ys ∧ AllInt ys ∧ M ≤ 2001 ∧ w'.ownsRow w.heap.size 48 2 lv M zs ∧ AllInt zs ∧ Below w.heap.size w w' := by
  have hb0 : Below w.heap.size w ((w.alloc (.cells #[.int .i64 0, .int .i64 0, .int .i64 0, .int .i64 0, .int .i64 0] 24)).alloc (.cells #[.int .i64 0, .int .i64 0] 27)) := nbAlloc (nbAlloc (Below.refl _ _) _) _
  have hA0 : Hid (((w.alloc (.cells #[.int .i64 0, .int .i64 0, .int .i64 0, .int .i64 0, .int .i64 0] 24)).alloc (.cells #[.int .i64 0, .int .i64 0] 27)).heap[w.heap.size]? = some (.cells #[.int .i64 0, .int .i64 0, .int .i64 0, .int .i64 0, .int .i64 0] 24)) := oldBlk (newBlk _ _ rfl) _
  have hB0 : Hid (((w.alloc (.cells #[.int .i64 0, .int .i64 0, .int .i64 0, .int .i64 0, .int .i64 0] 24)).alloc (.cells #[.int .i64 0, .int .i64 0] 27)).heap[w.heap.size + 1]? = some (.cells #[.int .i64 0, .int .i64 0] 27)) := newBlk _ _ (by simp)
  have hsz0 : Hid (((w.alloc (.cells #[.int .i64 0, .int .i64 0, .int .i64 0, .int .i64 0, .int .i64 0] 24)).alloc (.cells #[.int .i64 0, .int .i64 0] 27)).heap.size = w.heap.size + 1 + 1) := by unfold Hid; simp
  have hby0 := hby.onD hb0
  have HBY : Hid (Bytes w a0 len) := hby
  clear hby
  go_enter Tryd.func6, Tryd.ntmps6
  go_wp2_with fail
  generalize ((w.alloc (.cells #[.int .i64 0, .int .i64 0, .int .i64 0, .int .i64 0, .int .i64 0] 24)).alloc (.cells #[.int .i64 0, .int .i64 0] 27)) = w0 at *
  refine (l5run_d a0 len cap _ hby0).mono ?_
  rintro e w1 ⟨s, j, m, g, o, mv, N, ys, x, y, lv, M, zs, rfl, hN, hM1, hiy, hMb, hE1, hiz, hB1⟩
  have HIY : Hid (AllInt ys) := hiy
  have HIZ : Hid (AllInt zs) := hiz
  have hsz1 : w.heap.size + 1 + 1 ≤ w1.heap.size := by have := hB1.size; have := hsz0.out; omega
  have HA : Hid (w1.heap[w.heap.size]? = some (.cells #[.int .i64 0, .int .i64 0, .int .i64 0, .int .i64 0, .int .i64 0] 24)) := by unfold Hid; rw [hB1.block _ (by have := hsz0.out; omega)]; exact hA0.out
  have HB : Hid (w1.heap[w.heap.size + 1]? = some (.cells #[.int .i64 0, .int .i64 0] 27)) := by unfold Hid; rw [hB1.block _ (by have := hsz0.out; omega)]; exact hB0.out
  have HBW : Hid (Below w.heap.size w w1) := hb0.trans (hB1.mono (by have := hsz0.out; omega))
  have HM0 : Hid (w1.ownsRow (w.heap.size + 1 + 1) 111 2 mv N ys) := hsz0.out ▸ hM1
  have HE0 : Hid (w1.ownsRow (w.heap.size + 1 + 1) 48 2 lv M zs) := hsz0.out ▸ hE1
  obtain ⟨ad, mc, rfl⟩ := own_slice hM1
  obtain ⟨la, lc, rfl⟩ := own_slice hE1
  have HM1 := HM0
  have HE1 := HE0
  clear hM1 hE1 hiy hiz hB1 hb0 hA0 hB0 hby0 hsz0 HM0 HE0
  go_wp2_with fail
  have hbb : Below w1.heap.size w1 (((w1.alloc (.cells #[.int .i64 s, .int .i64 j, .int .i64 m, .int .i64 g, .int .i64 o] 24)).alloc (.cells #[.int .i64 x, .int .i64 y] 27)).alloc (.cells #[.slice a0 len cap, .int .i64 0, .int .u64 0] 61)) := nbAlloc (nbAlloc (nbAlloc (Below.refl _ _) _) _) _
  have hC0 : CurAt (w1.heap.size + 1 + 1) a0 len cap 0 (((w1.alloc (.cells #[.int .i64 s, .int .i64 j, .int .i64 m, .int .i64 g, .int .i64 o] 24)).alloc (.cells #[.int .i64 x, .int .i64 y] 27)).alloc (.cells #[.slice a0 len cap, .int .i64 0, .int .u64 0] 61)) := by
    refine ⟨HBY.out.row (HBW.out.trans (hbb.mono (by omega))) (by omega), 0, 0, Nat.le_refl _, ?_⟩
    exact newBlk _ _ (by simp)
  have hR0 : Hid ((((w1.alloc (.cells #[.int .i64 s, .int .i64 j, .int .i64 m, .int .i64 g, .int .i64 o] 24)).alloc (.cells #[.int .i64 x, .int .i64 y] 27)).alloc (.cells #[.slice a0 len cap, .int .i64 0, .int .u64 0] 61)).heap[w1.heap.size]? = some (.cells #[.int .i64 s, .int .i64 j, .int .i64 m, .int .i64 g, .int .i64 o] 24)) := oldBlk (oldBlk (newBlk _ _ rfl) _) _
  have hD0 : Hid ((((w1.alloc (.cells #[.int .i64 s, .int .i64 j, .int .i64 m, .int .i64 g, .int .i64 o] 24)).alloc (.cells #[.int .i64 x, .int .i64 y] 27)).alloc (.cells #[.slice a0 len cap, .int .i64 0, .int .u64 0] 61)).heap[w1.heap.size + 1]? = some (.cells #[.int .i64 x, .int .i64 y] 27)) := oldBlk (newBlk _ _ (by simp)) _
  generalize (((w1.alloc (.cells #[.int .i64 s, .int .i64 j, .int .i64 m, .int .i64 g, .int .i64 o] 24)).alloc (.cells #[.int .i64 x, .int .i64 y] 27)).alloc (.cells #[.slice a0 len cap, .int .i64 0, .int .u64 0] 61)) = wb at *
  refine (pick_c 0 80 _ hC0 (by omega) (by omega) (by omega)).mono ?_
  rintro e w2 ⟨z, rfl, z0, z1, hC2, ht2⟩
  have hW2 : Below w1.heap.size w1 w2 := turnsBelow hbb ht2 (by omega)
  have hR2 : w2.heap[w1.heap.size]? = some (.cells #[.int .i64 s, .int .i64 j, .int .i64 m, .int .i64 g, .int .i64 o] 24) := ht2.blk (by omega) hR0.out
  have hD2 : w2.heap[w1.heap.size + 1]? = some (.cells #[.int .i64 x, .int .i64 y] 27) := ht2.blk (by omega) hD0.out
  obtain ⟨r, hr⟩ : ∃ r, Hid (w1.heap.size = r) := ⟨_, rfl⟩
  obtain ⟨d, hd⟩ : ∃ d, Hid (w1.heap.size + 1 = d) := ⟨_, rfl⟩
  have HR : Hid (w2.heap[r]? = some (.cells #[.int .i64 s, .int .i64 j, .int .i64 m, .int .i64 g, .int .i64 o] 24)) := hr.out ▸ hR2
  have HD : Hid (w2.heap[d]? = some (.cells #[.int .i64 x, .int .i64 y] 27)) := hd.out ▸ hD2
  have hrd : w1.heap.size = r ∧ w1.heap.size + 1 = d := ⟨hr.out, hd.out⟩
  obtain ⟨p, hp⟩ : ∃ p, Hid (w1.heap.size + 1 + 1 = p) := ⟨_, rfl⟩
  have hC2p : CurAt p a0 len cap 1 w2 := hp.out ▸ hC2
  have hpd : d < p ∧ r < d ∧ w1.heap.size ≤ r := by have := hp.out; omega
  have hlt2 := hC2p.lt
  have hW2' : Hid (Below w1.heap.size w1 w2) := hW2
  have hMb2 : M ≤ 2001 := by omega
  rw [hp.out, hd.out, hr.out]
  clear hR0 hD0 hR2 hD2 hC0 hC2 ht2 hbb hW2 HBY
  by_cases hz : z = 0
  · subst hz
    have HC2 : Hid (CurAt p a0 len cap 1 w2) := hC2p
    obtain ⟨Be, hBe, hBe2⟩ : ∃ Be, w2.heap.size ≤ Be ∧ Be ≤ w2.heap.size := ⟨_, Nat.le_refl _, Nat.le_refl _⟩
    have hrd0 : w.heap.size + 1 + 1 ≤ Be := by omega
    go_wp2_with fail
    go_loopw [9] (fun v wr => ∃ (Q : Nat) (qs : List Value), Q ≤ 2001 ∧ wr.ownsRow Be 48 2 v Q qs ∧ AllInt qs ∧ CurAt p a0 len cap (1 + Q) wr ∧ Turns p w2 wr) (fun v wr => 2002 - lenV v)
    case atStart => exact ⟨0, [], by omega, World.ownsRow_nil _ _ _ _, fun u hu => absurd hu (by simp), HC2.out.le (by omega), Turns.refl _ _⟩
    case round =>
      clear hC2p
      obtain ⟨Q, qs, hQ, hown, hiq, hCr, hTr⟩ := hrel
      obtain ⟨qa, qc, rfl⟩ := own_slice hown
      have HIQ : Hid (AllInt qs) := hiq
      clear hiq
      go_wp2_with fail
      refine (pick_c _ 2 _ hCr (by omega) (by omega) (by omega)).mono ?_
      rintro e w5 ⟨t, rfl, t0, t1, hC5, ht5⟩
      have hT5 := hTr.trans ht5
      have hown5 := ownsOn hown ht5 (by omega)
      have hsz5 : Be ≤ w5.heap.size := by have := hT5.size; omega
      clear hown hCr hTr ht5
      by_cases hgo : (Q : Int) < 2000 + t
      · 
        obtain ⟨i0', hi, hz0, hz1, hz2⟩ := info_parts infoEvD
        go_wp2_with (at_builtin; refine wpList_append_own _ rfl _ _ 28 rfl (Be) 48 i0' (.agg #[.int .i64 0, .int .i64 0]) 2 16 Tryd.underlying28 hi hz0 hz1 hz2 rfl (by decide) _ _ _ rfl (hown5.alloc _) ⟨w5.heap.size, 0, none⟩ 1 1 [.int .i64 3, .int .i64 0] rfl rfl ?c1a ?c2a ?c3a ?c4a ?c5a ?_)
        try (case c1a =>
          intro j u hj
          match j, hj with
          | 0, hj => simp at hj; subst hj; simp [Addr.add]
          | 1, hj => simp at hj; subst hj; simp [Addr.add])
        case c2a => first | exact ⟨rfl, rfl⟩ | rfl | (intro u hu; simp at hu; rcases hu with rfl | rfl <;> rfl)
        case c3a => unfold maxLen; omega
        case c4a => omega
        case c5a => first | omega | (simp; omega) | (show _ ≤ (Array.push _ _).size; rw [Array.size_push]; omega)
        intro v' w6 hown6 hgrow _
        have hT6 := (hT5.alloc _).grown (hown5.alloc _) hBe hgrow
        have hC6 := CurAt.grown (HC2.out.le (by omega)) hT6 (hC5.on ((Below.refl _ _).alloc (Nat.le_refl _) _)) (hown5.alloc _) (by omega) hgrow
        obtain ⟨q6, c6, rfl⟩ := own_slice hown6
        clear hgrow hown5 hC5 hT5 hi hz0 hz1 hz2
        go_wp2_with fail
        go_roundw
        case rel => exact ⟨Q + 1, _, by omega, hown6, all_int2 HIQ.out _ _, hC6.le (by omega), hT6⟩
        case measure => simp [lenV]; omega
      · have hWW : Below w1.heap.size w1 w5 := turnsBelow hW2'.out hT5 (by omega)
        have hA5 : w5.heap[w.heap.size]? = some (.cells #[.int .i64 0, .int .i64 0, .int .i64 0, .int .i64 0, .int .i64 0] 24) := by rw [hWW.block _ (by omega)]; exact HA.out
        have hB5 : w5.heap[w.heap.size + 1]? = some (.cells #[.int .i64 0, .int .i64 0] 27) := by rw [hWW.block _ (by omega)]; exact HB.out
        have hr5 : w5.heap[r]? = some (.cells #[.int .i64 s, .int .i64 j, .int .i64 m, .int .i64 g, .int .i64 o] 24) := hT5.blk (by omega) HR.out
        have hd5 : w5.heap[d]? = some (.cells #[.int .i64 x, .int .i64 y] 27) := hT5.blk (by omega) HD.out
        have xa0 : w5.cell? ⟨w.heap.size, 0, none⟩ = some (.int .i64 0) := by simp [World.cell?, hA5]
        have xaf0 : w5.frozen? ⟨w.heap.size, 0, none⟩ = false := by simp [World.frozen?, hA5]
        have xa1 : w5.cell? ⟨w.heap.size, 1, none⟩ = some (.int .i64 0) := by simp [World.cell?, hA5]
        have xaf1 : w5.frozen? ⟨w.heap.size, 1, none⟩ = false := by simp [World.frozen?, hA5]
        have xa2 : w5.cell? ⟨w.heap.size, 2, none⟩ = some (.int .i64 0) := by simp [World.cell?, hA5]
        have xaf2 : w5.frozen? ⟨w.heap.size, 2, none⟩ = false := by simp [World.frozen?, hA5]
        have xa3 : w5.cell? ⟨w.heap.size, 3, none⟩ = some (.int .i64 0) := by simp [World.cell?, hA5]
        have xaf3 : w5.frozen? ⟨w.heap.size, 3, none⟩ = false := by simp [World.frozen?, hA5]
        have xa4 : w5.cell? ⟨w.heap.size, 4, none⟩ = some (.int .i64 0) := by simp [World.cell?, hA5]
        have xaf4 : w5.frozen? ⟨w.heap.size, 4, none⟩ = false := by simp [World.frozen?, hA5]
        have xb0 : w5.cell? ⟨w.heap.size + 1, 0, none⟩ = some (.int .i64 0) := by simp [World.cell?, hB5]
        have xbf0 : w5.frozen? ⟨w.heap.size + 1, 0, none⟩ = false := by simp [World.frozen?, hB5]
        have xb1 : w5.cell? ⟨w.heap.size + 1, 1, none⟩ = some (.int .i64 0) := by simp [World.cell?, hB5]
        have xbf1 : w5.frozen? ⟨w.heap.size + 1, 1, none⟩ = false := by simp [World.frozen?, hB5]
        have xr0 : w5.cell? ⟨r, 0, none⟩ = some (.int .i64 s) := by simp [World.cell?, hr5]
        have xrf0 : w5.frozen? ⟨r, 0, none⟩ = false := by simp [World.frozen?, hr5]
        have xr1 : w5.cell? ⟨r, 1, none⟩ = some (.int .i64 j) := by simp [World.cell?, hr5]
        have xrf1 : w5.frozen? ⟨r, 1, none⟩ = false := by simp [World.frozen?, hr5]
        have xr2 : w5.cell? ⟨r, 2, none⟩ = some (.int .i64 m) := by simp [World.cell?, hr5]
        have xrf2 : w5.frozen? ⟨r, 2, none⟩ = false := by simp [World.frozen?, hr5]
        have xr3 : w5.cell? ⟨r, 3, none⟩ = some (.int .i64 g) := by simp [World.cell?, hr5]
        have xrf3 : w5.frozen? ⟨r, 3, none⟩ = false := by simp [World.frozen?, hr5]
        have xr4 : w5.cell? ⟨r, 4, none⟩ = some (.int .i64 o) := by simp [World.cell?, hr5]
        have xrf4 : w5.frozen? ⟨r, 4, none⟩ = false := by simp [World.frozen?, hr5]
        have xd0 : w5.cell? ⟨d, 0, none⟩ = some (.int .i64 x) := by simp [World.cell?, hd5]
        have xdf0 : w5.frozen? ⟨d, 0, none⟩ = false := by simp [World.frozen?, hd5]
        have xd1 : w5.cell? ⟨d, 1, none⟩ = some (.int .i64 y) := by simp [World.cell?, hd5]
        have xdf1 : w5.frozen? ⟨d, 1, none⟩ = false := by simp [World.frozen?, hd5]
        have HM9 : Hid (w5.ownsRow (w.heap.size + 1 + 1) 111 2 (.slice ad N mc) N ys) := owns_on HM1.out hWW
        have HO9 : Hid (w5.ownsRow (w.heap.size + 1 + 1) 48 2 (.slice qa Q qc) (Q) qs) := owns_low hown5 hrd0
        have HB9 : Hid (Below w.heap.size w w5) := (HBW.out.trans (hWW.mono (by omega)))
        have HZ9 : Hid (AllInt qs) := HIQ.out
        have hn1_ : r ≠ w.heap.size := by omega
        have hn2_ : r ≠ w.heap.size + 1 := by omega
        have hn3_ : d ≠ w.heap.size := by omega
        have hn4_ : d ≠ w.heap.size + 1 := by omega
        clear hA5 hB5 hr5 hd5
        go_wp2_with fail
        go_region
        all_goals
          go_wp2
          exact bodyPost_ret (v := .tuple #[.agg #[.int .i64 s, .int .i64 j, .int .i64 m, .int .i64 g, .int .i64 o], .slice ad N mc, .agg #[.int .i64 x, .int .i64 y], .slice qa Q qc]) (by simp [results, Tryd.results6, go_sem, *]) rfl ⟨s, j, m, g, o, _, N, ys, x, y, _, Q, qs, rfl, hN, owns_low (owns_on (owns_set (owns_set (owns_set (owns_set (owns_set (owns_set (owns_set (HM9.out) (by omega)) (by omega)) (by omega)) (by omega)) (by omega)) (by omega)) (by omega)) (Below.drew (Below.refl _ _))) (by omega), HIY.out, by omega, owns_low (owns_on (owns_set (owns_set (owns_set (owns_set (owns_set (owns_set (owns_set (HO9.out) (by omega)) (by omega)) (by omega)) (by omega)) (by omega)) (by omega)) (by omega)) (Below.drew (Below.refl _ _))) (by omega), HZ9.out, Below.drew (nbSetX (nbSetX (nbSetX (nbSetX (nbSetX (nbSetX (nbSetX (HB9.out) (by omega)) (by omega)) (by omega)) (by omega)) (by omega)) (by omega)) (by omega))⟩

  · have hzb : (z == 0) = false := by simpa using hz
    have hTT := Turns.refl p w2
    have hWW := hW2'.out
    have hA5 : w2.heap[w.heap.size]? = some (.cells #[.int .i64 0, .int .i64 0, .int .i64 0, .int .i64 0, .int .i64 0] 24) := by rw [hWW.block _ (by omega)]; exact HA.out
    have hB5 : w2.heap[w.heap.size + 1]? = some (.cells #[.int .i64 0, .int .i64 0] 27) := by rw [hWW.block _ (by omega)]; exact HB.out
    have hr5 : w2.heap[r]? = some (.cells #[.int .i64 s, .int .i64 j, .int .i64 m, .int .i64 g, .int .i64 o] 24) := hTT.blk (by omega) HR.out
    have hd5 : w2.heap[d]? = some (.cells #[.int .i64 x, .int .i64 y] 27) := hTT.blk (by omega) HD.out
    have xa0 : w2.cell? ⟨w.heap.size, 0, none⟩ = some (.int .i64 0) := by simp [World.cell?, hA5]
    have xaf0 : w2.frozen? ⟨w.heap.size, 0, none⟩ = false := by simp [World.frozen?, hA5]
    have xa1 : w2.cell? ⟨w.heap.size, 1, none⟩ = some (.int .i64 0) := by simp [World.cell?, hA5]
    have xaf1 : w2.frozen? ⟨w.heap.size, 1, none⟩ = false := by simp [World.frozen?, hA5]
    have xa2 : w2.cell? ⟨w.heap.size, 2, none⟩ = some (.int .i64 0) := by simp [World.cell?, hA5]
    have xaf2 : w2.frozen? ⟨w.heap.size, 2, none⟩ = false := by simp [World.frozen?, hA5]
    have xa3 : w2.cell? ⟨w.heap.size, 3, none⟩ = some (.int .i64 0) := by simp [World.cell?, hA5]
    have xaf3 : w2.frozen? ⟨w.heap.size, 3, none⟩ = false := by simp [World.frozen?, hA5]
    have xa4 : w2.cell? ⟨w.heap.size, 4, none⟩ = some (.int .i64 0) := by simp [World.cell?, hA5]
    have xaf4 : w2.frozen? ⟨w.heap.size, 4, none⟩ = false := by simp [World.frozen?, hA5]
    have xb0 : w2.cell? ⟨w.heap.size + 1, 0, none⟩ = some (.int .i64 0) := by simp [World.cell?, hB5]
    have xbf0 : w2.frozen? ⟨w.heap.size + 1, 0, none⟩ = false := by simp [World.frozen?, hB5]
    have xb1 : w2.cell? ⟨w.heap.size + 1, 1, none⟩ = some (.int .i64 0) := by simp [World.cell?, hB5]
    have xbf1 : w2.frozen? ⟨w.heap.size + 1, 1, none⟩ = false := by simp [World.frozen?, hB5]
    have xr0 : w2.cell? ⟨r, 0, none⟩ = some (.int .i64 s) := by simp [World.cell?, hr5]
    have xrf0 : w2.frozen? ⟨r, 0, none⟩ = false := by simp [World.frozen?, hr5]
    have xr1 : w2.cell? ⟨r, 1, none⟩ = some (.int .i64 j) := by simp [World.cell?, hr5]
    have xrf1 : w2.frozen? ⟨r, 1, none⟩ = false := by simp [World.frozen?, hr5]
    have xr2 : w2.cell? ⟨r, 2, none⟩ = some (.int .i64 m) := by simp [World.cell?, hr5]
    have xrf2 : w2.frozen? ⟨r, 2, none⟩ = false := by simp [World.frozen?, hr5]
    have xr3 : w2.cell? ⟨r, 3, none⟩ = some (.int .i64 g) := by simp [World.cell?, hr5]
    have xrf3 : w2.frozen? ⟨r, 3, none⟩ = false := by simp [World.frozen?, hr5]
    have xr4 : w2.cell? ⟨r, 4, none⟩ = some (.int .i64 o) := by simp [World.cell?, hr5]
    have xrf4 : w2.frozen? ⟨r, 4, none⟩ = false := by simp [World.frozen?, hr5]
    have xd0 : w2.cell? ⟨d, 0, none⟩ = some (.int .i64 x) := by simp [World.cell?, hd5]
    have xdf0 : w2.frozen? ⟨d, 0, none⟩ = false := by simp [World.frozen?, hd5]
    have xd1 : w2.cell? ⟨d, 1, none⟩ = some (.int .i64 y) := by simp [World.cell?, hd5]
    have xdf1 : w2.frozen? ⟨d, 1, none⟩ = false := by simp [World.frozen?, hd5]
    have HM9 : Hid (w2.ownsRow (w.heap.size + 1 + 1) 111 2 (.slice ad N mc) N ys) := owns_on HM1.out hWW
    have HO9 : Hid (w2.ownsRow (w.heap.size + 1 + 1) 48 2 (.slice la M lc) (M) zs) := owns_on HE1.out hWW
    have HB9 : Hid (Below w.heap.size w w2) := (HBW.out.trans (hWW.mono (by omega)))
    have HZ9 : Hid (AllInt zs) := HIZ.out
    have hn1_ : r ≠ w.heap.size := by omega
    have hn2_ : r ≠ w.heap.size + 1 := by omega
    have hn3_ : d ≠ w.heap.size := by omega
    have hn4_ : d ≠ w.heap.size + 1 := by omega
    clear hA5 hB5 hr5 hd5
    go_wp2_with fail
    go_region
    all_goals
      go_wp2
      exact bodyPost_ret (v := .tuple #[.agg #[.int .i64 s, .int .i64 j, .int .i64 m, .int .i64 g, .int .i64 o], .slice ad N mc, .agg #[.int .i64 x, .int .i64 y], .slice la M lc]) (by simp [results, Tryd.results6, go_sem, *]) rfl ⟨s, j, m, g, o, _, N, ys, x, y, _, M, zs, rfl, hN, owns_low (owns_on (owns_set (owns_set (owns_set (owns_set (owns_set (owns_set (owns_set (HM9.out) (by omega)) (by omega)) (by omega)) (by omega)) (by omega)) (by omega)) (by omega)) (Below.drew (Below.refl _ _))) (by omega), HIY.out, by omega, owns_low (owns_on (owns_set (owns_set (owns_set (owns_set (owns_set (owns_set (owns_set (HO9.out) (by omega)) (by omega)) (by omega)) (by omega)) (by omega)) (by omega)) (by omega)) (Below.drew (Below.refl _ _))) (by omega), HZ9.out, Below.drew (nbSetX (nbSetX (nbSetX (nbSetX (nbSetX (nbSetX (nbSetX (HB9.out) (by omega)) (by omega)) (by omega)) (by omega)) (by omega)) (by omega)) (by omega))⟩


end Go.Proofs.YtmhppadblddjoaaDoor

