import Derived.Test.YtmhppadblddjoaaDoorZTrueCur4
import Derived.Test.YtmhppadblddjoaaDoorZTrueFe
import Derived.Test.YtmhppadblddjoaaDoorZTrueMk
import Derived.Test.YtmhppadblddjoaaDoorZTrueW1
/- The draws of a trip: fair ticks, what is read. -/
namespace Go.Proofs.YtmhppadblddjoaaDoor
open Go.RowKit

/-- A tick that is drawn: short, and fair. -/
def TickOk (s j : Int) (e : Int × Int) : Prop := 0 ≤ e.1 ∧ e.1 ≤ 159 ∧ tickB s j e.1 e.2 = true
theorem tick_ok {s j F A z C : Int} (hs0 : 0 ≤ s) (hs1 : s < 80) (hF0 : 0 ≤ F) (hF1 : F ≤ 159) (hA : (s * F + 1000 * j) / 1000 = A) (hA0 : 0 ≤ A) (hA1 : A ≤ 1000) (hz0 : 0 ≤ z) (hz1 : z < 2 * A + 1) (hC : C = F - A + z ∧ 0 ≤ C ∨ F - A + z < 0 ∧ C = 0) : TickOk s j (F, C) := by
  refine ⟨hF0, hF1, ?_⟩
  have h1 := (lst_iff (s := s) (j := j) (c := C) (f := F) hs0 hF0).2
  have h2 := (mst_iff (s := s) (j := j) (c := C) (f := F) (by omega)).2
  generalize s * F = p at *
  simp only [tickB, numB, fairB, inB, Bool.and_eq_true, decide_eq_true_eq]
  refine ⟨⟨⟨by omega, by omega⟩, by omega, by omega⟩, h1 (by omega), h2 (by omega)⟩
theorem prod4 {x y : Int} (hx0 : 0 ≤ x) (hx1 : x < 160) (hy0 : 0 ≤ y) (hy1 : y < 4) : 0 ≤ x * y ∧ x * y ≤ 477 := by
  have h1 : x * y ≤ 159 * y := Int.mul_le_mul_of_nonneg_right (by omega) hy0
  exact ⟨Int.mul_nonneg hx0 hy0, by omega⟩
theorem prodS {s x : Int} (hs0 : 0 ≤ s) (hs1 : s < 80) (hx0 : 0 ≤ x) (hx1 : x ≤ 159) : 0 ≤ s * x ∧ s * x ≤ 12561 := by
  have h1 : s * x ≤ 79 * x := Int.mul_le_mul_of_nonneg_right (by omega) hx0
  exact ⟨Int.mul_nonneg hs0 hx0, by omega⟩

set_option maxRecDepth 100000 in
set_option maxHeartbeats 2000000 in
theorem ticks_d {p : Nat} {a0 : Option Addr} {len cap : Nat} (K : Nat) (s j m g o : Int) (w : World) (hC : CurAt p a0 len cap K w) (hK : K ≤ 9990000) (hs0 : 0 ≤ s) (hs1 : s < 80) (hj0 : 0 ≤ j) (hj1 : j < 6) :
    Calls Tryd.prog 50 #[.pointer (some ⟨p, 0, none⟩), .agg #[.int .i64 s, .int .i64 j, .int .i64 m, .int .i64 g, .int .i64 o]] w fun e w' => ∃ (v : Value) (xs : List (Int × Int)), e = .returned v ∧ xs.length ≤ 19 ∧ (∀ e ∈ xs, TickOk s j e) ∧ w'.ownsRow w.heap.size 50 2 v xs.length (cells2 xs) ∧ CurAt p a0 len cap (K + 200) w' ∧ Turns p w w' := by
  have hlt := hC.lt
  have HC : Hid (CurAt p a0 len cap K (w.alloc (.cells #[.int .i64 s, .int .i64 j, .int .i64 m, .int .i64 g, .int .i64 o] 24))) := hC.on ((Below.refl _ _).alloc (Nat.le_refl _) _)
  have hr0 : Hid ((w.alloc (.cells #[.int .i64 s, .int .i64 j, .int .i64 m, .int .i64 g, .int .i64 o] 24)).heap[w.heap.size]? = some (.cells #[.int .i64 s, .int .i64 j, .int .i64 m, .int .i64 g, .int .i64 o] 24)) := newBlk _ _ rfl
  have hT0 : Turns p w (w.alloc (.cells #[.int .i64 s, .int .i64 j, .int .i64 m, .int .i64 g, .int .i64 o] 24)) := (Turns.refl p w).alloc _
  have hsz0 : (w.alloc (.cells #[.int .i64 s, .int .i64 j, .int .i64 m, .int .i64 g, .int .i64 o] 24)).heap.size = w.heap.size + 1 := by show (Array.push _ _).size = _; rw [Array.size_push]
  have HSZ : Hid ((w.alloc (.cells #[.int .i64 s, .int .i64 j, .int .i64 m, .int .i64 g, .int .i64 o] 24)).heap.size = w.heap.size + 1) := hsz0
  clear hsz0 hC
  go_enter Tryd.func50, Tryd.ntmps50
  go_wp2_with fail
  generalize w.alloc (.cells #[.int .i64 s, .int .i64 j, .int .i64 m, .int .i64 g, .int .i64 o] 24) = w0 at *
  refine (pick_c K 20 _ HC.out (by omega) (by omega) (by omega)).mono ?_
  rintro e w2 ⟨q, rfl, q0, q1, hC2, ht2⟩
  obtain ⟨n0, rfl⟩ := Int.eq_ofNat_of_zero_le q0
  go_wp2_with fail
  go_loopw [5, 6] (fun v k wr => ∃ (n : Nat) (xs : List (Int × Int)), k = .int .i64 n ∧ n ≤ 19 ∧ xs.length + n ≤ 19 ∧ Hid (∀ e ∈ xs, TickOk s j e) ∧ wr.ownsRow (w.heap.size + 1) 50 2 v xs.length (cells2 xs) ∧ CurAt p a0 len cap (K + 150 - 6 * n) wr ∧ Turns p w0 wr) (fun _ k _ => (intOf k).toNat)
  case atStart => exact ⟨n0, [], rfl, by omega, by simp; omega, fun e he => absurd he (by simp), World.ownsRow_nil _ _ _ _, hC2.le (by omega), ht2⟩
  case round =>
    clear hC2 ht2 q0 q1
    obtain ⟨n, xs, rfl, hn, hnx, hxs, hown, hCr, hTr⟩ := hrel
    by_cases hn0 : 0 < n
    · go_wp2_with fail
      refine (wide_c _ 160 _ hCr (by omega) (by omega) (by omega)).mono ?_
      rintro e w3 ⟨x, rfl, x0, x1, hC3, ht3⟩
      go_wp2_with fail
      refine (pick_c _ 4 _ hC3 (by omega) (by omega) (by omega)).mono ?_
      rintro e w4 ⟨y, rfl, y0, y1, hC4, ht4⟩
      have hP := prod4 x0 x1 y0 y1
      have wp : IntKind.i64.wrap (x * y) = x * y := wrapS (by omega) (by omega)
      have hT4 := (hTr.trans ht3).trans ht4
      have hown4 := ownsOn (ownsOn hown ht3 (by omega)) ht4 (by omega)
      have hb4 : w4.heap[w.heap.size]? = some (.cells #[.int .i64 s, .int .i64 j, .int .i64 m, .int .i64 g, .int .i64 o] 24) := hT4.blk (by omega) hr0.out
      have c0 : w4.cell? ⟨w.heap.size, 0, none⟩ = some (.int .i64 s) := by simp [World.cell?, hb4]
      have c1 : w4.cell? ⟨w.heap.size, 1, none⟩ = some (.int .i64 j) := by simp [World.cell?, hb4]
      clear hown hCr hTr hC3 ht3 ht4 hb4
      obtain ⟨P, hPP⟩ : ∃ P, x * y = P := ⟨_, rfl⟩
      rw [hPP] at hP
      obtain ⟨F, hF⟩ : ∃ F, P / 3 = F := ⟨_, rfl⟩
      have hF0 : 0 ≤ F ∧ F ≤ 159 := by omega
      have hS := prodS hs0 hs1 hF0.1 hF0.2
      have ws : IntKind.i64.wrap (s * F) = s * F := wrapS (by omega) (by omega)
      have wj : IntKind.i64.wrap (1000 * j) = 1000 * j := wrapS (by omega) (by omega)
      have wk : IntKind.i64.wrap (s * F + 1000 * j) = s * F + 1000 * j := wrapS (by omega) (by omega)
      obtain ⟨A, hA⟩ : ∃ A, (s * F + 1000 * j) / 1000 = A := ⟨_, rfl⟩
      have hA0 : 0 ≤ A ∧ A ≤ 1000 := by omega
      have hsum : 0 ≤ s * F + 1000 * j := by omega
      have tA1 : ¬ A < 0 := by omega
      have tA2 : ¬ 100000 < A := by omega
      have hP0 : 0 ≤ P := hP.1
      go_wp2_with fail
      refine (wide_c _ (2 * A + 1) _ hC4 (by omega) (by omega) (by omega)).mono ?_
      rintro e w5 ⟨z, rfl, z0, z1, hC5, ht5⟩
      have hT5 := hT4.trans ht5
      have hown5 := ownsOn hown4 ht5 (by omega)
      have hsz5 := hT5.size
      have HA : Hid ((s * F + 1000 * j) / 1000 = A) := hA
      have hszw : w.heap.size + 1 ≤ w5.heap.size := by have := HSZ.out; omega
      clear hT4 hown4 hC4 ht5 hA c0 c1 wp ws wj wk hPP hF hsum hS hP hP0 x0 x1 y0 y1
      have wz : IntKind.i64.wrap (F - A + z) = F - A + z := wrapS (by omega) (by omega)
      by_cases hneg : F - A + z < 0
      · have hok : TickOk s j (F, 0) := tick_ok hs0 hs1 hF0.1 hF0.2 HA.out hA0.1 hA0.2 z0 z1 (.inr ⟨hneg, rfl⟩)
        have hok2 : Hid (TickOk s j (F, 0)) := hok
        clear hok
        obtain ⟨i0', hi, hz0, hz1, hz2⟩ := info_parts infoTr
        go_wp2_with (at_builtin; refine wpList_append_own _ rfl _ _ 39 rfl (w.heap.size + 1) 50 i0' (.agg #[.int .i64 0, .int .i64 0]) 2 16 Tryd.underlying39 hi hz0 hz1 hz2 rfl (by decide) _ _ _ rfl (hown5.alloc _) ⟨w5.heap.size, 0, none⟩ 1 1 [.int .i64 F, .int .i64 0] rfl rfl ?c1a ?c2a ?c3a ?c4a ?c5a ?_)
        try (case c1a =>
          intro j u hj
          match j, hj with
          | 0, hj => simp at hj; subst hj; simp [Addr.add]
          | 1, hj => simp at hj; subst hj; simp [Addr.add])
        case c2a => first | exact ⟨rfl, rfl⟩ | rfl | (intro u hu; simp at hu; rcases hu with rfl | rfl <;> rfl)
        case c3a => unfold maxLen; omega
        case c4a => omega
        case c5a => first | omega | (simp; omega) | (show _ ≤ (Array.push _ _).size; rw [Array.size_push]; omega)
        intro v' w6 hown6 hgrow _
        have hT6 := (hT5.alloc _).grown (hown5.alloc _) (by have := HSZ.out; omega) hgrow
        have hC6 := CurAt.grown (HC.out.le (by omega)) hT6 (hC5.on ((Below.refl _ _).alloc (Nat.le_refl _) _)) (hown5.alloc _) (by omega) hgrow
        clear hgrow hown5 hC5 hT5 hi hz0 hz1 hz2
        have hxs2 : Hid (∀ e ∈ xs ++ [(F, 0)], TickOk s j e) := fun e he => by
          rw [List.mem_append] at he
          rcases he with he | he
          · exact hxs.out e he
          · rw [List.mem_singleton.1 he]; exact hok2.out
        go_wp2_with fail
        go_roundw
        case rel => exact ⟨n - 1, xs ++ [(F, 0)], by go_num, by omega, by simp; omega, hxs2, by rw [cells2_snoc, List.length_append]; exact hown6, hC6.le (by omega), hT6⟩
        case measure => simp [intOf]; omega

      · obtain ⟨C, hCC⟩ : ∃ C, F - A + z = C := ⟨_, rfl⟩
        have hok : TickOk s j (F, C) := tick_ok hs0 hs1 hF0.1 hF0.2 HA.out hA0.1 hA0.2 z0 z1 (.inl ⟨hCC.symm, by omega⟩)
        rw [hCC] at hneg
        have wzC : IntKind.i64.wrap (F - A + z) = C := by rw [wz, hCC]
        have HCC : Hid (F - A + z = C) := hCC
        clear wz hCC
        have hok2 : Hid (TickOk s j (F, C)) := hok
        clear hok
        obtain ⟨i0', hi, hz0, hz1, hz2⟩ := info_parts infoTr
        go_wp2_with (at_builtin; refine wpList_append_own _ rfl _ _ 39 rfl (w.heap.size + 1) 50 i0' (.agg #[.int .i64 0, .int .i64 0]) 2 16 Tryd.underlying39 hi hz0 hz1 hz2 rfl (by decide) _ _ _ rfl (hown5.alloc _) ⟨w5.heap.size, 0, none⟩ 1 1 [.int .i64 F, .int .i64 C] rfl rfl ?c1b ?c2b ?c3b ?c4b ?c5b ?_)
        try (case c1b =>
          intro j u hj
          match j, hj with
          | 0, hj => simp at hj; subst hj; simp [Addr.add]
          | 1, hj => simp at hj; subst hj; simp [Addr.add])
        case c2b => first | exact ⟨rfl, rfl⟩ | rfl | (intro u hu; simp at hu; rcases hu with rfl | rfl <;> rfl)
        case c3b => unfold maxLen; omega
        case c4b => omega
        case c5b => first | omega | (simp; omega) | (show _ ≤ (Array.push _ _).size; rw [Array.size_push]; omega)
        intro v' w6 hown6 hgrow _
        have hT6 := (hT5.alloc _).grown (hown5.alloc _) (by have := HSZ.out; omega) hgrow
        have hC6 := CurAt.grown (HC.out.le (by omega)) hT6 (hC5.on ((Below.refl _ _).alloc (Nat.le_refl _) _)) (hown5.alloc _) (by omega) hgrow
        clear hgrow hown5 hC5 hT5 hi hz0 hz1 hz2
        have hxs2 : Hid (∀ e ∈ xs ++ [(F, C)], TickOk s j e) := fun e he => by
          rw [List.mem_append] at he
          rcases he with he | he
          · exact hxs.out e he
          · rw [List.mem_singleton.1 he]; exact hok2.out
        go_wp2_with fail
        go_roundw
        case rel => exact ⟨n - 1, xs ++ [(F, C)], by go_num, by omega, by simp; omega, hxs2, by rw [cells2_snoc, List.length_append]; exact hown6, hC6.le (by omega), hT6⟩
        case measure => simp [intOf]; omega

    · go_wp2_with fail
      go_ret
      exact ⟨_, xs, rfl, by omega, hxs.out, owns_low hown (by omega), hCr.le (by omega), hT0.trans hTr⟩

end Go.Proofs.YtmhppadblddjoaaDoor

/- The draws of a trip: all of it. -/
namespace Go.Proofs.YtmhppadblddjoaaDoor
open Go.RowKit

theorem owns_shT {w : World} {base : Nat} {e : TypeId} {size n : Nat} {v : Value} {xs : List Value} (h : w.ownsRow base e size v n xs) : ∃ ad cap, v = .slice ad n cap := by
  obtain ⟨h1, h2⟩ := h
  rcases h2 with ⟨rfl, rfl⟩ | ⟨q, cap, cur, rfl, hg, hh, hn, hm, hs, htk⟩
  · exact ⟨none, 0, rfl⟩
  · exact ⟨some ⟨q, 0, none⟩, cap, rfl⟩
theorem infoI : (Tryd.prog.info? 3).map (fun i => (i.zero, i.size, i.bytes)) = some (some (.int .i64 0), 1, 8) := by kernel_rfl

set_option maxRecDepth 100000 in
set_option maxHeartbeats 2000000 in
theorem trips_d (a0 : Option Addr) (len cap : Nat) (w : World) (hby : Bytes w a0 len) :
    Calls Tryd.prog 13 #[.slice a0 len cap] w fun e w' => ∃ (s j m g o x : Int) (mv : Value) (N : Nat) (xs : List Value) (tv : Value) (ts : List (Int × Int)) (rv : Value) (rs : List Int), e = .returned (.tuple #[.agg #[.int .i64 s, .int .i64 j, .int .i64 m, .int .i64 g, .int .i64 o], mv, .int .i64 x, tv, rv]) ∧
      0 ≤ s ∧ s < 80 ∧ 0 ≤ j ∧ j < 6 ∧ 0 ≤ m ∧ m < 30 ∧ 1 ≤ g ∧ g ≤ 400 ∧ 0 ≤ o ∧ o < 20 ∧ 0 ≤ x ∧ x < 900 ∧ (∃ t : Int, N ≤ 7 ∧ t ≤ 5000 ∧ DM N N t xs) ∧ ts.length ≤ 19 ∧ (∀ e ∈ ts, TickOk s j e) ∧ rs.length = ts.length ∧
      w'.ownsRow w.heap.size 111 2 mv N xs ∧ w'.ownsRow w.heap.size 50 2 tv ts.length (cells2 ts) ∧ w'.ownsRow w.heap.size 3 1 rv rs.length (rs.map (Value.int .i64)) ∧ Below w.heap.size w w' := by
  have hb0 : Below w.heap.size w ((w.alloc (.cells #[.int .i64 0, .int .i64 0, .int .i64 0, .int .i64 0, .int .i64 0] 24)).alloc (.cells #[.slice a0 len cap, .int .i64 0, .int .u64 0] 61)) := nbAlloc (nbAlloc (Below.refl _ _) _) _
  have hC0 : CurAt (w.heap.size + 1) a0 len cap 0 ((w.alloc (.cells #[.int .i64 0, .int .i64 0, .int .i64 0, .int .i64 0, .int .i64 0] 24)).alloc (.cells #[.slice a0 len cap, .int .i64 0, .int .u64 0] 61)) := by
    refine ⟨hby.row hb0 (by omega), 0, 0, Nat.le_refl _, ?_⟩
    exact newBlk _ _ (by simp)
  have hA0 : Hid (((w.alloc (.cells #[.int .i64 0, .int .i64 0, .int .i64 0, .int .i64 0, .int .i64 0] 24)).alloc (.cells #[.slice a0 len cap, .int .i64 0, .int .u64 0] 61)).heap[w.heap.size]? = some (.cells #[.int .i64 0, .int .i64 0, .int .i64 0, .int .i64 0, .int .i64 0] 24)) := oldBlk (newBlk _ _ rfl) _
  clear hby
  go_enter Tryd.func13, Tryd.ntmps13
  go_wp2_with fail
  refine (rules_c 0 _ hC0 (by omega)).mono ?_
  rintro e w1 ⟨s, j, m, g, o, rfl, s0, s1, j0, j1, m0, m1, g0, g1, o0, o1, hC1, ht1⟩
  have hA1 : Hid (w1.heap[w.heap.size]? = some (.cells #[.int .i64 0, .int .i64 0, .int .i64 0, .int .i64 0, .int .i64 0] 24)) := ht1.blk (by omega) hA0.out
  have hT1 : Hid (Below w.heap.size w w1) := turnsBelow hb0 ht1 (by omega)
  clear hb0 hC0 hA0 ht1
  go_wp2_with fail
  have hsz1 := hC1.lt
  have hr1 : Hid ((w1.alloc (.cells #[.int .i64 s, .int .i64 j, .int .i64 m, .int .i64 g, .int .i64 o] 24)).heap[w1.heap.size]? = some (.cells #[.int .i64 s, .int .i64 j, .int .i64 m, .int .i64 g, .int .i64 o] 24)) := newBlk _ _ rfl
  have hA2 : Hid ((w1.alloc (.cells #[.int .i64 s, .int .i64 j, .int .i64 m, .int .i64 g, .int .i64 o] 24)).heap[w.heap.size]? = some (.cells #[.int .i64 0, .int .i64 0, .int .i64 0, .int .i64 0, .int .i64 0] 24)) := oldBlk hA1.out _
  have hB2 : Hid (Below w.heap.size w (w1.alloc (.cells #[.int .i64 s, .int .i64 j, .int .i64 m, .int .i64 g, .int .i64 o] 24))) := nbAlloc hT1.out _
  have hC1a := hC1.on ((Below.refl _ _).alloc (Nat.le_refl _) (.cells #[.int .i64 s, .int .i64 j, .int .i64 m, .int .i64 g, .int .i64 o] 24))
  have hszr : (w1.alloc (.cells #[.int .i64 s, .int .i64 j, .int .i64 m, .int .i64 g, .int .i64 o] 24)).heap.size = w1.heap.size + 1 := by show (Array.push _ _).size = _; rw [Array.size_push]
  have HSZ : Hid ((w1.alloc (.cells #[.int .i64 s, .int .i64 j, .int .i64 m, .int .i64 g, .int .i64 o] 24)).heap.size = w1.heap.size + 1) := hszr
  clear hC1 hA1 hT1 hszr
  generalize w1.alloc (.cells #[.int .i64 s, .int .i64 j, .int .i64 m, .int .i64 g, .int .i64 o] 24) = wa at *
  generalize w1.heap.size = r at *
  refine (marks_d _ _ hC1a (by omega)).mono ?_
  rintro e w2 ⟨mv, rfl, hC2, ht2, N, tt, xs, hN, htt, hDM, hown2⟩
  have HDM : Hid (∃ t : Int, N ≤ 7 ∧ t ≤ 5000 ∧ DM N N t xs) := ⟨tt, hN, htt, hDM⟩
  have HM2 : Hid (w2.ownsRow (r + 1) 111 2 mv N xs) := HSZ.out ▸ hown2
  clear hN htt hDM hown2 hC1a
  go_wp2_with fail
  refine (wide_c _ 900 _ hC2 (by omega) (by omega) (by omega)).mono ?_
  rintro e w3 ⟨x, rfl, x0, x1, hC3, ht3⟩
  have hT3 := ht2.trans ht3
  have HM3 : Hid (w3.ownsRow (r + 1) 111 2 mv N xs) := ownsOn HM2.out ht3 (by omega)
  have hr3 : w3.heap[r]? = some (.cells #[.int .i64 s, .int .i64 j, .int .i64 m, .int .i64 g, .int .i64 o] 24) := hT3.blk (by omega) hr1.out
  have hs3 : r + 1 ≤ w3.heap.size := by have := hT3.size; have := HSZ.out; omega
  have xr0 : w3.cell? ⟨r, 0, none⟩ = some (.int .i64 s) := by simp [World.cell?, hr3]
  have xr1 : w3.cell? ⟨r, 1, none⟩ = some (.int .i64 j) := by simp [World.cell?, hr3]
  have xr2 : w3.cell? ⟨r, 2, none⟩ = some (.int .i64 m) := by simp [World.cell?, hr3]
  have xr3 : w3.cell? ⟨r, 3, none⟩ = some (.int .i64 g) := by simp [World.cell?, hr3]
  have xr4 : w3.cell? ⟨r, 4, none⟩ = some (.int .i64 o) := by simp [World.cell?, hr3]
  have HR3 : Hid (w3.heap[r]? = some (.cells #[.int .i64 s, .int .i64 j, .int .i64 m, .int .i64 g, .int .i64 o] 24)) := hr3
  clear HM2 hC2 ht2 ht3 hr3 hr1
  go_wp2_with fail
  refine (ticks_d _ s j m g o _ hC3 (by omega) s0 s1 j0 j1).mono ?_
  rintro e w4 ⟨tv, ts, rfl, htl, hts, hown4, hC4, ht4⟩
  have HTS : Hid (∀ e ∈ ts, TickOk s j e) := hts
  have hT4 := hT3.trans ht4
  have HM4 : Hid (w4.ownsRow (r + 1) 111 2 mv N xs) := ownsOn HM3.out ht4 (by omega)
  have HR4 : Hid (w4.heap[r]? = some (.cells #[.int .i64 s, .int .i64 j, .int .i64 m, .int .i64 g, .int .i64 o] 24)) := ht4.blk (by omega) HR3.out
  have HT4 : Hid (w4.ownsRow w3.heap.size 50 2 tv ts.length (cells2 ts)) := hown4
  have hs4 : w3.heap.size ≤ w4.heap.size := ht4.size
  clear hts hown4 hC3 ht4 HM3 HR3 hT3 xr0 xr1 xr2 xr3 xr4
  obtain ⟨ta, tcap, rfl⟩ := owns_shT HT4.out
  have HC4 : Hid (CurAt (w.heap.size + 1) a0 len cap 400 w4) := hC4.le (by omega)
  go_wp2_with fail
  go_loopw [12, 27] (fun v iv wr => ∃ (k : Nat) (rs : List Int), iv = .int .i64 k ∧ rs.length = k ∧ k ≤ ts.length ∧ wr.ownsRow w4.heap.size 3 1 v k (rs.map (Value.int .i64)) ∧ CurAt (w.heap.size + 1) a0 len cap (400 + k) wr ∧ Turns (w.heap.size + 1) w4 wr) (fun _ iv _ => ts.length - (intOf iv).toNat)
  case atStart => exact ⟨0, [], rfl, rfl, by omega, World.ownsRow_nil _ _ _ _, HC4.out, Turns.refl _ _⟩
  case round =>
    clear hC4
    obtain ⟨k, rs, rfl, hrs, hk, hown, hCr, hTr⟩ := hrel
    by_cases hlt : k < ts.length
    · have i1 : (k : Int) < (ts.length : Int) := by omega
      have HRS : Hid (rs.length = k) := hrs
      clear hrs
      go_wp2_with fail
      refine (pick_c _ 2 _ hCr (by omega) (by omega) (by omega)).mono ?_
      rintro e w5 ⟨q, rfl, q0, q1, hC5, ht5⟩
      have hT5 := hTr.trans ht5
      have hown5 := ownsOn hown ht5 (by omega)
      have hsz5 := hT5.size
      clear hown hCr hTr ht5
      obtain ⟨i0', hi, hz0, hz1, hz2⟩ := info_parts infoI
      go_wp2_with (at_builtin; refine wpList_append_own _ rfl _ _ 40 rfl (w4.heap.size) 3 i0' (.int .i64 0) 1 8 Tryd.underlying40 hi hz0 hz1 hz2 rfl (by decide) _ _ _ rfl (hown5.alloc _) ⟨w5.heap.size, 0, none⟩ 1 1 [.int .i64 q] rfl rfl ?c1a ?c2a ?c3a ?c4a ?c5a ?_)
      try (case c1a =>
        intro j u hj
        match j, hj with
        | 0, hj => simp at hj; subst hj; simp [Addr.add])
      case c2a => first | exact ⟨rfl, rfl⟩ | rfl | (intro u hu; simp at hu; subst hu; rfl)
      case c3a => unfold maxLen; omega
      case c4a => omega
      case c5a => first | omega | (simp; omega) | (show _ ≤ (Array.push _ _).size; rw [Array.size_push]; omega)
      intro v' w6 hown6 hgrow _
      have hT6 := (hT5.alloc _).grown (hown5.alloc _) (Nat.le_refl _) hgrow
      have hC6 := CurAt.grown (HC4.out.le (by omega)) hT6 (hC5.on ((Below.refl _ _).alloc (Nat.le_refl _) _)) (hown5.alloc _) (by omega) hgrow
      clear hgrow hown5 hC5 hT5 hi hz0 hz1 hz2
      go_wp2_with fail
      go_roundw
      case rel => exact ⟨k + 1, rs ++ [q], by go_num, by have := HRS.out; simp; omega, by omega, by rw [List.map_append]; exact hown6, hC6, hT6⟩
      case measure => simp [intOf]; omega
    · have hkl : k = ts.length := by omega
      have HRS : Hid (rs.length = ts.length) := by unfold Hid; omega
      subst hkl
      clear hrs
      have hA5 : wr.heap[w.heap.size]? = some (.cells #[.int .i64 0, .int .i64 0, .int .i64 0, .int .i64 0, .int .i64 0] 24) := (hT4.trans hTr).blk (by omega) hA2.out
      have hr5 : wr.heap[r]? = some (.cells #[.int .i64 s, .int .i64 j, .int .i64 m, .int .i64 g, .int .i64 o] 24) := hTr.blk (by omega) HR4.out
      have xa0 : wr.cell? ⟨w.heap.size, 0, none⟩ = some (.int .i64 0) := by simp [World.cell?, hA5]
      have xf0 : wr.frozen? ⟨w.heap.size, 0, none⟩ = false := by simp [World.frozen?, hA5]
      have xa1 : wr.cell? ⟨w.heap.size, 1, none⟩ = some (.int .i64 0) := by simp [World.cell?, hA5]
      have xf1 : wr.frozen? ⟨w.heap.size, 1, none⟩ = false := by simp [World.frozen?, hA5]
      have xa2 : wr.cell? ⟨w.heap.size, 2, none⟩ = some (.int .i64 0) := by simp [World.cell?, hA5]
      have xf2 : wr.frozen? ⟨w.heap.size, 2, none⟩ = false := by simp [World.frozen?, hA5]
      have xa3 : wr.cell? ⟨w.heap.size, 3, none⟩ = some (.int .i64 0) := by simp [World.cell?, hA5]
      have xf3 : wr.frozen? ⟨w.heap.size, 3, none⟩ = false := by simp [World.frozen?, hA5]
      have xa4 : wr.cell? ⟨w.heap.size, 4, none⟩ = some (.int .i64 0) := by simp [World.cell?, hA5]
      have xf4 : wr.frozen? ⟨w.heap.size, 4, none⟩ = false := by simp [World.frozen?, hA5]
      have xr0 : wr.cell? ⟨r, 0, none⟩ = some (.int .i64 s) := by simp [World.cell?, hr5]
      have xr1 : wr.cell? ⟨r, 1, none⟩ = some (.int .i64 j) := by simp [World.cell?, hr5]
      have xr2 : wr.cell? ⟨r, 2, none⟩ = some (.int .i64 m) := by simp [World.cell?, hr5]
      have xr3 : wr.cell? ⟨r, 3, none⟩ = some (.int .i64 g) := by simp [World.cell?, hr5]
      have xr4 : wr.cell? ⟨r, 4, none⟩ = some (.int .i64 o) := by simp [World.cell?, hr5]
      have HM5 : Hid (wr.ownsRow (r + 1) 111 2 mv N xs) := ownsOn HM4.out hTr (by omega)
      have HT5 : Hid (wr.ownsRow w3.heap.size 50 2 (.slice ta ts.length tcap) ts.length (cells2 ts)) := ownsOn HT4.out hTr (by omega)
      have HI5 : Hid (wr.ownsRow w4.heap.size 3 1 u12 ts.length (rs.map (Value.int .i64))) := hown
      have HB5 : Hid (Below w.heap.size w wr) := turnsBelow hB2.out (hT4.trans hTr) (by omega)
      clear hA5 hr5 hown hCr hTr hT4
      go_wp2_with fail
      exact bodyPost_ret (v := .tuple #[.agg #[.int .i64 s, .int .i64 j, .int .i64 m, .int .i64 g, .int .i64 o], mv, .int .i64 x, .slice ta ts.length tcap, u12]) (by simp [results, Tryd.results13, go_sem, *]) rfl ⟨s, j, m, g, o, x, mv, N, xs, _, ts, _, rs, rfl, s0, s1, j0, j1, m0, m1, g0, g1, o0, o1, x0, x1, HDM.out, htl, HTS.out, HRS.out,
        owns_low (owns_set (owns_set (owns_set (owns_set (owns_set (HM5.out) (by omega)) (by omega)) (by omega)) (by omega)) (by omega)) (by omega), owns_low (owns_set (owns_set (owns_set (owns_set (owns_set (HT5.out) (by omega)) (by omega)) (by omega)) (by omega)) (by omega)) (by omega), by rw [HRS.out]; exact owns_low (owns_set (owns_set (owns_set (owns_set (owns_set (HI5.out) (by omega)) (by omega)) (by omega)) (by omega)) (by omega)) (by omega), nbSetX (nbSetX (nbSetX (nbSetX (nbSetX HB5.out (Nat.le_refl _)) (Nat.le_refl _)) (Nat.le_refl _)) (Nat.le_refl _)) (Nat.le_refl _)⟩

end Go.Proofs.YtmhppadblddjoaaDoor

