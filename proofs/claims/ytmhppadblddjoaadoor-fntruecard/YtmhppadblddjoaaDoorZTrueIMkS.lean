import Derived.Test.YtmhppadblddjoaaDoorZTrueFe
import Derived.Test.YtmhppadblddjoaaDoorZTrueIMap
import Derived.Test.YtmhppadblddjoaaDoorZTrueMkOk
import Derived.Test.YtmhppadblddjoaaDoorZTrueW7
/- Chapter 4 of the program: the marks that are read at a place. -/
namespace Go.Proofs.YtmhppadblddjoaaDoor
open Go.RowKit

theorem in_mark {x c m : Int} (hm : 0 ≤ m) (hc : c ≤ 100000000) (hx1 : x ≤ 100000000) : inB x (min (c - m) 100000000) (min (c + m) 100000000) = inB x (c - m) (c + m) := by
  unfold inB
  rw [Bool.eq_iff_iff]
  simp only [Bool.and_eq_true, decide_eq_true_eq]
  omega

set_option maxRecDepth 100000 in
set_option maxHeartbeats 4000000 in
theorem readsAt_c (ad : Option Addr) (len cap : Nat) (f a : Nat → Int) (x s j m g o : Int) (w : World) (hrow : SRow w ad len f a) (hr : rOk s j m g o = true) (hm : marksB f a len = true) (hx1 : x ≤ 100000000) :
    Calls Tryd.prog 55 #[.agg #[.int .i64 s, .int .i64 j, .int .i64 m, .int .i64 g, .int .i64 o], .slice ad len cap, .int .i64 x] w fun e w' => ∃ v, e = .returned v ∧ (v = .slice none 0 0 ↔ mkHit f a m 1 x len = []) ∧ Felts w (mkHit f a m 1 x len) v w' := by
  obtain ⟨bm, om, hA2⟩ := hrow.at
  have hM : Hid (marksB f a len = true) := hm
  have hml := marks_len hm
  have hm0 : 0 ≤ m ∧ m ≤ 10000 := by
    simp only [rOk, inB, Bool.and_eq_true, decide_eq_true_eq] at hr
    omega
  obtain ⟨B, hBB, hB0, hB1⟩ : ∃ B, Hid (B = w.heap.size + 1) ∧ w.heap.size + 1 ≤ B ∧ B ≤ w.heap.size + 1 := ⟨_, rfl, Nat.le_refl _, Nat.le_refl _⟩
  go_enter Tryd.func55, Tryd.ntmps55
  go_wp2_with fail
  have hC1 : f4C w s j m g o (w.alloc (.cells #[.int .i64 s, .int .i64 j, .int .i64 m, .int .i64 g, .int .i64 o] 24)) := ⟨by go_simp, by go_simp, by go_simp, by go_simp, by go_simp, nbAlloc (Below.refl _ _) _⟩
  go_loopw [7, 12] (fun v iv wr => ∃ q : Nat, ∃ E : List (Int × Int), iv = .int .i64 q ∧ q ≤ len ∧ Hid (E = mkHit f a m 1 x q) ∧ E.length ≤ q ∧ Hid (v = .slice none 0 0 ↔ E = []) ∧ wr.ownsRow B 48 2 v E.length (cells2 E) ∧ f4C w s j m g o wr ∧ B ≤ wr.heap.size) (fun _ iv _ => len - (intOf iv).toNat)
  case atStart => exact ⟨0, [], rfl, by omega, rfl, by simp, by simp [Hid], World.ownsRow_nil _ _ _ _, hC1, by simp; omega⟩
  case round =>
    clear hC1
    obtain ⟨q, E, rfl, hq, hE, hEl, hnil, hown, hC, hsz⟩ := hrel
    by_cases hlq : q < len
    · have j0 : (0 : Int) ≤ (q : Int) := by omega
      have j1 : (q : Int) < (len : Int) := by omega
      have ea := hA2.1 (by omega)
      subst ea
      have d0 := cellOn hC.2.2.2.2.2 (hA2.2 q hlq).1
      have d1 := cellOn hC.2.2.2.2.2 (hA2.2 q hlq).2
      have hC2 := f4C_on hC (nbAlloc (Below.refl wr.heap.size wr) (.cells #[.int .i64 (f q), .int .i64 (a q)] 111))
      have hown2 := hown.alloc (.cells #[.int .i64 (f q), .int .i64 (a q)] 111)
      have ha := marks_at hM.out hlq
      have c0 : (wr.alloc (.cells #[.int .i64 (f q), .int .i64 (a q)] 111)).cell? ⟨w.heap.size, 0, none⟩ = some (.int .i64 s) := hC2.1
      have c1 : (wr.alloc (.cells #[.int .i64 (f q), .int .i64 (a q)] 111)).cell? ⟨w.heap.size, 1, none⟩ = some (.int .i64 j) := hC2.2.1
      have c2 : (wr.alloc (.cells #[.int .i64 (f q), .int .i64 (a q)] 111)).cell? ⟨w.heap.size, 2, none⟩ = some (.int .i64 m) := hC2.2.2.1
      have c3 : (wr.alloc (.cells #[.int .i64 (f q), .int .i64 (a q)] 111)).cell? ⟨w.heap.size, 3, none⟩ = some (.int .i64 g) := hC2.2.2.2.1
      have c4 : (wr.alloc (.cells #[.int .i64 (f q), .int .i64 (a q)] 111)).cell? ⟨w.heap.size, 4, none⟩ = some (.int .i64 o) := hC2.2.2.2.2.1
      go_wp2_with fail
      refine (boundOfMark_c _ _ _ _ _ _ _ hm0.1 hm0.2 ha.1 ha.2).mono ?_
      rintro e w3 ⟨rfl, hb3⟩
      have hC3 := f4C_on hC2 hb3
      have hown3 := owns_on hown2 hb3
      have e0 := cellOn hb3 (show (wr.alloc (.cells #[.int .i64 (f q), .int .i64 (a q)] 111)).cell? ⟨wr.heap.size, 0, none⟩ = some (.int .i64 (f q)) by go_simp)
      have hsz3 : B ≤ w3.heap.size := by have h6 : (wr.heap.push _).size ≤ _ := hb3.size; rw [Array.size_push] at h6; omega
      clear hb3 hC2 hown2 d0 d1 c0 c1 c2 c3 c4 hC hown
      go_wp2_with fail
      refine (intervalOf_c _ _ _).mono ?_
      rintro e w4 ⟨rfl, hb4⟩
      have hC4 := f4C_on hC3 hb4
      have hown4 := owns_on hown3 hb4
      have e0 := cellOn hb4 e0
      have hsz4 : B ≤ w4.heap.size := Nat.le_trans hsz3 hb4.size
      clear hb4 hC3 hown3 hsz3
      go_wp2_with fail
      refine (has_c _ _ _ _).mono ?_
      rintro e w5 ⟨rfl, hb5⟩
      rw [in_mark hm0.1 ha.2 hx1]
      have hC5 := f4C_on hC4 hb5
      have hown5 := owns_on hown4 hb5
      have e0 := cellOn hb5 e0
      have hsz5 : B ≤ w5.heap.size := Nat.le_trans hsz4 hb5.size
      clear hb5 hC4 hown4 hsz4
      cases hh : inB x (a q - m) (a q + m)
      · have hE2 : Hid (E = mkHit f a m 1 x (q + 1)) := by
          unfold Hid
          rw [mkHit_no (by simp [hitB, hh])]
          exact hE.out
        clear hE
        go_wp2_with fail
        go_roundw
        case rel => exact ⟨q + 1, E, by go_num, by omega, hE2, by omega, hnil, hown5, hC5, hsz5⟩
        case measure => simp [intOf]; omega
      · have hE2 : Hid (E ++ [(2, f q)] = mkHit f a m 1 x (q + 1)) := by
          unfold Hid
          rw [mkHit_yes (by simp [hitB, hh]), hE.out]
        clear hE
        obtain ⟨i0', hi, hz0, hz1, hz2⟩ := info_parts infoEv
        go_wp2_with (at_builtin; refine wpList_append_own _ rfl _ _ 28 rfl B 48 i0' (.agg #[.int .i64 0, .int .i64 0]) 2 16 Tryd.underlying28 hi hz0 hz1 hz2 rfl (by decide) _ _ _ rfl (hown5.alloc _) ⟨w5.heap.size, 0, none⟩ 1 1 [.int .i64 2, .int .i64 (f q)] rfl rfl ?c1b ?c2b ?c3b ?c4b ?c5b ?_)
        try (case c1b =>
          intro j u hj
          match j, hj with
          | 0, hj => simp at hj; subst hj; simp [Addr.add]
          | 1, hj => simp at hj; subst hj; simp [Addr.add])
        case c2b => first | exact ⟨rfl, rfl⟩ | (intro u hu; simp at hu; rcases hu with rfl | rfl <;> rfl)
        case c3b => unfold maxLen; omega
        case c4b => omega
        case c5b => first | omega | (show B ≤ (Array.push _ _).size; rw [Array.size_push]; omega)
        intro v' w8 hown8 hgrow hnil8
        have hN8 : Hid (v' = .slice none 0 0 ↔ E ++ [(2, f q)] = []) := by
          unfold Hid
          exact ⟨fun h => absurd h hnil8, fun h => by simp at h⟩
        have hlow := grown_low (hown5.alloc _) (by show B ≤ (Array.push _ _).size; rw [Array.size_push]; omega) hgrow
        have hC8 := f4C_low (f4C_on hC5 (nbAlloc (Below.refl _ _) _)) (hBB.out ▸ hlow)
        have hsz8 : B ≤ w8.heap.size := by
          have h9 : (Array.push _ _).size ≤ _ := hlow.size
          rw [Array.size_push] at h9; omega
        clear hgrow hlow hi hz0 hz1 hz2 hown5 hC5 hsz5 e0 hnil hnil8
        go_wp2_with fail
        go_roundw
        case rel => exact ⟨q + 1, E ++ [(2, f q)], by go_num, by omega, hE2, by simp; omega, hN8, by rw [cells2_snoc, List.length_append]; exact hown8, hC8, hsz8⟩
        case measure => simp [intOf]; omega
    · have hql : q = len := by omega
      subst hql
      obtain ⟨qa, qc, rfl⟩ := owns_shape hown
      go_wp2_with fail
      go_ret
      exact ⟨_, rfl, by rw [← hE.out]; exact hnil.out, by rw [← hE.out]; exact owns_base hown (by omega), hC.2.2.2.2.2⟩

end Go.Proofs.YtmhppadblddjoaaDoor

/- The program's MarksOk at every slice (for a text that does not reach Do). -/
namespace Go.Proofs.YtmhppadblddjoaaDoor
open Go.RowKit Go.Maps

set_option maxHeartbeats 400000 in
theorem spotsByName_0x (ad : Option Addr) (cap : Nat) (f a : Nat → Int) (w : World) :
    Calls Tryd.prog 36 #[.slice ad 0 cap] w fun e w' => e = .returned (.map (some w.heap.size)) ∧ MapAt w' w.heap.size 0 f a ∧ Below w.heap.size w w' := by
  have hmm : ∀ (n : Int) (w : World), (Instr.makeMap 70 (some (.int .i64 n))).run Tryd.prog w = .ok (.map (some w.heap.size)) (w.alloc (.map #[] 0)) := fun n w => by
    simp [Instr.makeMap, run_underlying Tryd.underlying70]
    rfl
  go_enter Tryd.func36, Tryd.ntmps36
  go_wp2_with fail
  refine wp_loop_rounds 1 ?_
  rw [rounds_succ]
  go_wp2_with fail
  go_ret
  exact ⟨rfl, World.ownsMap_made _ _ _ _, (Below.refl _ _).alloc (Nat.le_refl _) _⟩

theorem spotsByName_ex (ad : Option Addr) (cap : Nat) (f a : Nat → Int) (w : World) :
    Calls Tryd.prog 36 #[.slice ad 0 cap] w fun e w' => ∃ q, e = .returned (.map (some q)) ∧ MapAt w' q 0 f a ∧ Below w.heap.size w w' :=
  (spotsByName_0x ad cap f a w).mono fun _ _ h => ⟨_, h⟩

set_option maxHeartbeats 400000 in
theorem implMarksOk_0x (ad : Option Addr) (cap : Nat) (f a : Nat → Int) (w : World) :
    Calls Tryd.prog 33 #[.slice ad 0 cap] w fun e w' => e = .returned (.bool (marksB f a 0)) ∧ Below w.heap.size w w' := by
  go_enter Tryd.func33, Tryd.ntmps33
  go_wp2_with fail
  refine (upTo_c _ _).mono ?_
  rintro e w1 ⟨rfl, hb1⟩
  go_wp2_with fail
  refine wp_loop_rounds 1 ?_
  rw [rounds_succ]
  go_wp2_with fail
  refine (spotsByName_ex ad cap f a _).mono ?_
  rintro e w5 ⟨q, rfl, hM5, hb5⟩
  go_wp2_with (first | (at_len; refine wpList_len_own _ rfl _ 70 rfl 3 125 Tryd.underlying70 spotElem q 0 (spots f a 0) rfl hM5 ?_) | fail)
  go_ret
  exact ⟨retB rfl, nbTrans (nbAlloc (nbAlloc hb1 _) _) hb5⟩

theorem implMarksOk_sx (ad : Option Addr) (len cap : Nat) (f a : Nat → Int) (w : World) (hl : len ≤ 1048576) (hr : SRow w ad len f a) :
    Calls Tryd.prog 33 #[.slice ad len cap] w fun e w' => e = .returned (.bool (marksB f a len)) ∧ Below w.heap.size w w' := by
  rcases hr with rfl | ⟨b, off, rfl, h⟩
  · exact implMarksOk_0x ad cap f a w
  · exact implMarksOk_c b off len cap f a w hl h

end Go.Proofs.YtmhppadblddjoaaDoor

