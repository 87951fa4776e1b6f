import Derived.Test.YtmhppadblddjoaaMk
import Derived.Test.YtmhppadblddjoaaW2
namespace Go.Proofs.Ytmhppadblddjoaa
open Go.RowKit

def freshB (f : Nat → Int) (i k : Nat) : Bool := (List.range k).all fun j => f j != f i
def stepB (f g : Nat → Int) (i : Nat) : Bool := inB (g i) 0 100000000 && (i == 0 || decide (g (i - 1) < g i)) && inB (f i) 1 1000000000 && freshB f i i
def marksTo (f g : Nat → Int) (k : Nat) : Bool := (List.range k).all fun i => stepB f g i
def marksB (f g : Nat → Int) (n : Nat) : Bool := marksTo f g n && decide (n ≤ 100)

theorem fresh_snoc {f : Nat → Int} {i k : Nat} (h : freshB f i k = true) (hk : (f k == f i) = false) : freshB f i (k + 1) = true := by
  unfold freshB at *
  rw [List.range_succ, List.all_append, h]
  simpa using hk
theorem fresh_no {f : Nat → Int} {i k n : Nat} (hk : k < n) (h : (f k == f i) = true) : freshB f i n = false := by
  unfold freshB
  rw [List.all_eq_false]
  exact ⟨k, by simpa using hk, by simpa using h⟩
theorem marksTo_snoc {f g : Nat → Int} {k : Nat} (h : marksTo f g k = true) (hk : stepB f g k = true) : marksTo f g (k + 1) = true := by
  unfold marksTo at *
  rw [List.range_succ, List.all_append, h]
  simpa using hk
theorem marksB_no {f g : Nat → Int} {k n : Nat} (hk : k < n) (h : stepB f g k = false) : marksB f g n = false := by
  unfold marksB marksTo
  rw [Bool.and_eq_false_iff]
  left
  rw [List.all_eq_false]
  exact ⟨k, by simpa using hk, by simpa using h⟩

theorem stepB_mk {f g : Nat → Int} {k : Nat} (h1 : inB (g k) 0 100000000 = true) (h2 : k = 0 ∨ g (k - 1) < g k) (h3 : inB (f k) 1 1000000000 = true) (h4 : freshB f k k = true) : stepB f g k = true := by
  unfold stepB
  rw [h1, h3, h4]
  simpa using h2

theorem l1in_t (x a b : Int) (w : World) (h : inB x a b = true) :
    Calls Try.prog 54 #[.int .i64 x, .int .i64 a, .int .i64 b] w fun e w' => e = .returned (.bool true) ∧ Below w.heap.size w w' :=
  (l1in_c x a b w).mono fun e w' hh => ⟨by rw [hh.1, h], by rw [hh.2]; exact Below.refl _ _⟩
theorem l1in_f (x a b : Int) (w : World) (h : inB x a b = false) :
    Calls Try.prog 54 #[.int .i64 x, .int .i64 a, .int .i64 b] w fun e w' => e = .returned (.bool false) ∧ Below w.heap.size w w' :=
  (l1in_c x a b w).mono fun e w' hh => ⟨by rw [hh.1, h], by rw [hh.2]; exact Below.refl _ _⟩

/-- In the round: the mark's own copy, the place of the one before it. -/
def mkC (w : World) (p b o : Nat) (x y z : Int) : World → Prop := fun w' => w'.cell? ⟨p, 0, none⟩ = some (.int .i64 x) ∧ w'.cell? ⟨p, 1, none⟩ = some (.int .i64 y) ∧ w'.cell? ⟨b, o, none⟩ = some (.int .i64 z) ∧ Below w.heap.size w w'
theorem mkC_on {w : World} {p b o : Nat} {x y z : Int} {w1 w2 : World} (hh : mkC w p b o x y z w1) (hb : Below w1.heap.size w1 w2) : mkC w p b o x y z w2 :=
  ⟨cellOn hb hh.1, cellOn hb hh.2.1, cellOn hb hh.2.2.1, nbTrans hh.2.2.2 hb⟩

set_option maxHeartbeats 4000000 in
theorem specMarksOk_c (b off len cap : Nat) (f g : Nat → Int) (w : World) (hl : len ≤ 1048576) (hr : Row2 w b off len f g) :
    Calls Try.prog 58 #[.slice (some ⟨b, off, none⟩) len cap] w fun e w' => e = .returned (.bool (marksB f g len)) ∧ Below w.heap.size w w' := by
  go_enter Try.func58, Try.ntmps58
  go_wp2_with fail
  go_loopw [8] (fun iv wr => ∃ k : Nat, iv = .int .i64 k ∧ k ≤ len ∧ marksTo f g k = true ∧ Below w.heap.size w wr) (fun iv _ => len - (intOf iv).toNat)
  case atStart => exact ⟨0, rfl, by omega, rfl, Below.refl _ _⟩
  case round =>
    obtain ⟨k, rfl, hk, hm, hB⟩ := hrel
    by_cases hlt : k < len
    · have HM : Hid (marksTo f g k = true) := hm
      clear hm
      have i0 : (0 : Int) ≤ (k : Int) := by omega
      have i1 : (k : Int) < (len : Int) := by omega
      have d0 := cellOn hB (hr k hlt).1
      have d1 := cellOn hB (hr k hlt).2
      go_wp2_with fail
      have x0 : (wr.alloc (.cells #[.int .i64 (f k), .int .i64 (g k)] 37)).cell? ⟨wr.heap.size, 0, none⟩ = some (.int .i64 (f k)) := by go_simp
      have x1 : (wr.alloc (.cells #[.int .i64 (f k), .int .i64 (g k)] 37)).cell? ⟨wr.heap.size, 1, none⟩ = some (.int .i64 (g k)) := by go_simp
      have x3 : Below w.heap.size w (wr.alloc (.cells #[.int .i64 (f k), .int .i64 (g k)] 37)) := nbAlloc hB _
      generalize wr.alloc (.cells #[.int .i64 (f k), .int .i64 (g k)] 37) = w1 at *
      generalize wr.heap.size = pm at *
      clear d0 d1 hB
      have x2 := cellOn x3 (hr k hlt).2
      cases hA : inB (g k) 0 100000000
      · refine region_kept (mkC w pm b (off + k * 2 + 1) (f k) (g k) (g k)) (by kernel_rfl) (by kernel_rfl) ⟨x0, x1, x2, x3.drew⟩ ?_
        intro hN
        have k0 : ∀ d : Kept (mkC w pm b (off + k * 2 + 1) (f k) (g k) (g k)), d.w.cell? ⟨pm, 0, none⟩ = some (.int .i64 (f k)) := fun d => d.h.1
        have k1 : ∀ d : Kept (mkC w pm b (off + k * 2 + 1) (f k) (g k) (g k)), d.w.cell? ⟨pm, 1, none⟩ = some (.int .i64 (g k)) := fun d => d.h.2.1
        have k2 : ∀ d : Kept (mkC w pm b (off + k * 2 + 1) (f k) (g k) (g k)), d.w.cell? ⟨b, (off + k * 2 + 1), none⟩ = some (.int .i64 (g k)) := fun d => d.h.2.2.1
        repeat (go_big_quiet_step (first | (go_at_call 54; exact call_kept _ mkC_on (l1in_t _ _ _ _ (by assumption))) | (go_at_call 54; exact call_kept _ mkC_on (l1in_f _ _ _ _ (by assumption)))))
        refine wpQuiet_nil ?_
        rintro w2 ⟨d, hd2⟩
        have hd := d.h
        rw [← hd2] at hd
        clear hd2 k0 k1 k2
        go_wp2_with fail
        go_ret
        exact ⟨retB (marksB_no hlt (by simp [stepB, hA])).symm, hd.2.2.2⟩

      by_cases hk0 : k = 0
      · have hkp : decide ((0 : Int) < (k : Int)) = false := by simp; omega
        have hkn : decide (0 < k) = false := by simp; omega
        have HK0 : Hid (k = 0) := hk0
        clear hk0
        cases hN1 : inB (f k) 1 1000000000
        · refine region_kept (mkC w pm b (off + k * 2 + 1) (f k) (g k) (g k)) (by kernel_rfl) (by kernel_rfl) ⟨x0, x1, x2, x3.drew⟩ ?_
          intro hN
          have k0 : ∀ d : Kept (mkC w pm b (off + k * 2 + 1) (f k) (g k) (g k)), d.w.cell? ⟨pm, 0, none⟩ = some (.int .i64 (f k)) := fun d => d.h.1
          have k1 : ∀ d : Kept (mkC w pm b (off + k * 2 + 1) (f k) (g k) (g k)), d.w.cell? ⟨pm, 1, none⟩ = some (.int .i64 (g k)) := fun d => d.h.2.1
          have k2 : ∀ d : Kept (mkC w pm b (off + k * 2 + 1) (f k) (g k) (g k)), d.w.cell? ⟨b, (off + k * 2 + 1), none⟩ = some (.int .i64 (g k)) := fun d => d.h.2.2.1
          repeat (go_big_quiet_step (first | (go_at_call 54; exact call_kept _ mkC_on (l1in_t _ _ _ _ (by assumption))) | (go_at_call 54; exact call_kept _ mkC_on (l1in_f _ _ _ _ (by assumption)))))
          refine wpQuiet_nil ?_
          rintro w2 ⟨d, hd2⟩
          have hd := d.h
          rw [← hd2] at hd
          clear hd2 k0 k1 k2
          go_wp2_with fail
          go_ret
          exact ⟨retB (marksB_no hlt (by simp [stepB, hN1])).symm, hd.2.2.2⟩

        · refine region_kept (mkC w pm b (off + k * 2 + 1) (f k) (g k) (g k)) (by kernel_rfl) (by kernel_rfl) ⟨x0, x1, x2, x3.drew⟩ ?_
          intro hN
          have k0 : ∀ d : Kept (mkC w pm b (off + k * 2 + 1) (f k) (g k) (g k)), d.w.cell? ⟨pm, 0, none⟩ = some (.int .i64 (f k)) := fun d => d.h.1
          have k1 : ∀ d : Kept (mkC w pm b (off + k * 2 + 1) (f k) (g k) (g k)), d.w.cell? ⟨pm, 1, none⟩ = some (.int .i64 (g k)) := fun d => d.h.2.1
          have k2 : ∀ d : Kept (mkC w pm b (off + k * 2 + 1) (f k) (g k) (g k)), d.w.cell? ⟨b, (off + k * 2 + 1), none⟩ = some (.int .i64 (g k)) := fun d => d.h.2.2.1
          repeat (go_big_quiet_step (first | (go_at_call 54; exact call_kept _ mkC_on (l1in_t _ _ _ _ (by assumption))) | (go_at_call 54; exact call_kept _ mkC_on (l1in_f _ _ _ _ (by assumption)))))
          refine wpQuiet_nil ?_
          rintro w2 ⟨d, hd2⟩
          have hd := d.h
          rw [← hd2] at hd
          clear hd2 k0 k1 k2
          have y0 : w2.cell? ⟨pm, 0, none⟩ = some (.int .i64 (f k)) := hd.1
          have hB2 := hd.2.2.2
          have hpm := ltCell y0
          clear hd x0 x1 x2 x3
          go_wp2_with fail
          go_loopw [5] (fun jv wj => ∃ j : Nat, jv = .int .i64 j ∧ j ≤ k ∧ freshB f k j = true ∧ wj.cell? ⟨pm, 0, none⟩ = some (.int .i64 (f k)) ∧ Below w.heap.size w wj) (fun jv _ => k - (intOf jv).toNat)
          case atStart => exact ⟨0, rfl, by omega, rfl, y0, hB2⟩
          case round =>
            obtain ⟨j, rfl, hj, hfr, y1, hBj⟩ := hrel
            have HF : Hid (freshB f k j = true) := hfr
            clear hfr
            by_cases hjk : j < k
            · have j0 : (0 : Int) ≤ (j : Int) := by omega
              have j1 : (j : Int) < (len : Int) := by omega
              have z0 := cellOn hBj (hr j (by omega)).1
              cases hEq : (f j == f k)
              · go_wp2_with fail
                go_quiet (fail)
                go_wp2_with fail
                go_roundw
                case rel => exact ⟨j + 1, by go_num, by omega, fresh_snoc HF.out hEq, y1, nbDrewN _ hBj⟩
                case measure => simp [intOf]; omega
              · go_wp2_with fail
                go_quiet (fail)
                go_wp2_with fail
                go_ret
                exact ⟨retB (marksB_no hlt (by simp [stepB, fresh_no hjk hEq])).symm, nbDrewN _ hBj⟩
            · have hjk2 : j = k := by omega
              subst hjk2
              go_wp2_with fail
              go_roundw
              case rel => exact ⟨j + 1, by go_num, by omega, marksTo_snoc HM.out (stepB_mk hA (.inl HK0.out) hN1 HF.out), hBj⟩
              case measure => simp [intOf]; omega

      · have HK0 : Hid (¬ k = 0) := hk0
        have x4 : w1.cell? ⟨b, off + (k - 1) * 2 + 1, none⟩ = some (.int .i64 (g (k - 1))) := cellOn x3 (hr (k - 1) (by omega)).2
        clear x2
        have x2 := x4
        clear x4
        have hkp : (0 : Int) < (k : Int) := by omega
        have hkn : 0 < k := by omega
        have wr1 : IntKind.i64.wrap ((k : Int) - 1) = (k : Int) - 1 := wrapS (by omega) (by omega)
        have q0 : (0 : Int) ≤ (k : Int) - 1 := by omega
        have q1 : (k : Int) - 1 < (len : Int) := by omega
        clear hk0
        by_cases hgt : g k ≤ g (k - 1)
        · refine region_kept (mkC w pm b (off + (k - 1) * 2 + 1) (f k) (g k) (g (k - 1))) (by kernel_rfl) (by kernel_rfl) ⟨x0, x1, x2, x3.drew⟩ ?_
          intro hN
          have k0 : ∀ d : Kept (mkC w pm b (off + (k - 1) * 2 + 1) (f k) (g k) (g (k - 1))), d.w.cell? ⟨pm, 0, none⟩ = some (.int .i64 (f k)) := fun d => d.h.1
          have k1 : ∀ d : Kept (mkC w pm b (off + (k - 1) * 2 + 1) (f k) (g k) (g (k - 1))), d.w.cell? ⟨pm, 1, none⟩ = some (.int .i64 (g k)) := fun d => d.h.2.1
          have k2 : ∀ d : Kept (mkC w pm b (off + (k - 1) * 2 + 1) (f k) (g k) (g (k - 1))), d.w.cell? ⟨b, (off + (k - 1) * 2 + 1), none⟩ = some (.int .i64 (g (k - 1))) := fun d => d.h.2.2.1
          repeat (go_big_quiet_step (first | (go_at_call 54; exact call_kept _ mkC_on (l1in_t _ _ _ _ (by assumption))) | (go_at_call 54; exact call_kept _ mkC_on (l1in_f _ _ _ _ (by assumption)))))
          refine wpQuiet_nil ?_
          rintro w2 ⟨d, hd2⟩
          have hd := d.h
          rw [← hd2] at hd
          clear hd2 k0 k1 k2
          go_wp2_with fail
          go_ret
          exact ⟨retB (marksB_no hlt (by simp [stepB, HK0.out]; intro _ h3; omega)).symm, hd.2.2.2⟩

        · have hgt2 : decide (g k ≤ g (k - 1)) = false := by simpa using hgt
          cases hN1 : inB (f k) 1 1000000000
          · refine region_kept (mkC w pm b (off + (k - 1) * 2 + 1) (f k) (g k) (g (k - 1))) (by kernel_rfl) (by kernel_rfl) ⟨x0, x1, x2, x3.drew⟩ ?_
            intro hN
            have k0 : ∀ d : Kept (mkC w pm b (off + (k - 1) * 2 + 1) (f k) (g k) (g (k - 1))), d.w.cell? ⟨pm, 0, none⟩ = some (.int .i64 (f k)) := fun d => d.h.1
            have k1 : ∀ d : Kept (mkC w pm b (off + (k - 1) * 2 + 1) (f k) (g k) (g (k - 1))), d.w.cell? ⟨pm, 1, none⟩ = some (.int .i64 (g k)) := fun d => d.h.2.1
            have k2 : ∀ d : Kept (mkC w pm b (off + (k - 1) * 2 + 1) (f k) (g k) (g (k - 1))), d.w.cell? ⟨b, (off + (k - 1) * 2 + 1), none⟩ = some (.int .i64 (g (k - 1))) := fun d => d.h.2.2.1
            repeat (go_big_quiet_step (first | (go_at_call 54; exact call_kept _ mkC_on (l1in_t _ _ _ _ (by assumption))) | (go_at_call 54; exact call_kept _ mkC_on (l1in_f _ _ _ _ (by assumption)))))
            refine wpQuiet_nil ?_
            rintro w2 ⟨d, hd2⟩
            have hd := d.h
            rw [← hd2] at hd
            clear hd2 k0 k1 k2
            go_wp2_with fail
            go_ret
            exact ⟨retB (marksB_no hlt (by simp [stepB, hN1])).symm, hd.2.2.2⟩

          · refine region_kept (mkC w pm b (off + (k - 1) * 2 + 1) (f k) (g k) (g (k - 1))) (by kernel_rfl) (by kernel_rfl) ⟨x0, x1, x2, x3.drew⟩ ?_
            intro hN
            have k0 : ∀ d : Kept (mkC w pm b (off + (k - 1) * 2 + 1) (f k) (g k) (g (k - 1))), d.w.cell? ⟨pm, 0, none⟩ = some (.int .i64 (f k)) := fun d => d.h.1
            have k1 : ∀ d : Kept (mkC w pm b (off + (k - 1) * 2 + 1) (f k) (g k) (g (k - 1))), d.w.cell? ⟨pm, 1, none⟩ = some (.int .i64 (g k)) := fun d => d.h.2.1
            have k2 : ∀ d : Kept (mkC w pm b (off + (k - 1) * 2 + 1) (f k) (g k) (g (k - 1))), d.w.cell? ⟨b, (off + (k - 1) * 2 + 1), none⟩ = some (.int .i64 (g (k - 1))) := fun d => d.h.2.2.1
            repeat (go_big_quiet_step (first | (go_at_call 54; exact call_kept _ mkC_on (l1in_t _ _ _ _ (by assumption))) | (go_at_call 54; exact call_kept _ mkC_on (l1in_f _ _ _ _ (by assumption)))))
            refine wpQuiet_nil ?_
            rintro w2 ⟨d, hd2⟩
            have hd := d.h
            rw [← hd2] at hd
            clear hd2 k0 k1 k2
            have y0 : w2.cell? ⟨pm, 0, none⟩ = some (.int .i64 (f k)) := hd.1
            have hB2 := hd.2.2.2
            have hpm := ltCell y0
            clear hd x0 x1 x2 x3
            go_wp2_with fail
            go_loopw [5] (fun jv wj => ∃ j : Nat, jv = .int .i64 j ∧ j ≤ k ∧ freshB f k j = true ∧ wj.cell? ⟨pm, 0, none⟩ = some (.int .i64 (f k)) ∧ Below w.heap.size w wj) (fun jv _ => k - (intOf jv).toNat)
            case atStart => exact ⟨0, rfl, by omega, rfl, y0, hB2⟩
            case round =>
              obtain ⟨j, rfl, hj, hfr, y1, hBj⟩ := hrel
              have HF : Hid (freshB f k j = true) := hfr
              clear hfr
              by_cases hjk : j < k
              · have j0 : (0 : Int) ≤ (j : Int) := by omega
                have j1 : (j : Int) < (len : Int) := by omega
                have z0 := cellOn hBj (hr j (by omega)).1
                cases hEq : (f j == f k)
                · go_wp2_with fail
                  go_quiet (fail)
                  go_wp2_with fail
                  go_roundw
                  case rel => exact ⟨j + 1, by go_num, by omega, fresh_snoc HF.out hEq, y1, nbDrewN _ hBj⟩
                  case measure => simp [intOf]; omega
                · go_wp2_with fail
                  go_quiet (fail)
                  go_wp2_with fail
                  go_ret
                  exact ⟨retB (marksB_no hlt (by simp [stepB, fresh_no hjk hEq])).symm, nbDrewN _ hBj⟩
              · have hjk2 : j = k := by omega
                subst hjk2
                go_wp2_with fail
                go_roundw
                case rel => exact ⟨j + 1, by go_num, by omega, marksTo_snoc HM.out (stepB_mk hA (.inr (by omega)) hN1 HF.out), hBj⟩
                case measure => simp [intOf]; omega

    · have hkl : k = len := by omega
      subst hkl
      go_wp2_with fail
      go_ret
      exact ⟨retB (by simp only [marksB, hm, Bool.true_and, decide_eq_decide]; omega), hB⟩

end Go.Proofs.Ytmhppadblddjoaa
