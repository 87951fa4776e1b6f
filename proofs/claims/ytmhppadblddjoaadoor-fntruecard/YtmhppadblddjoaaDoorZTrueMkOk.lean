import Derived.Test.YtmhppadblddjoaaDoorZTrueMk
import Derived.Test.YtmhppadblddjoaaDoorZTrueW2
namespace Go.Proofs.YtmhppadblddjoaaDoor
open Go.RowKit

def freshB (f : Nat → Int) (i k : Nat) : Bool := (List.range k).all fun j => f j != f i
def stepB (f g : Nat → Int) (i : Nat) : Bool := inB (g i) 0 100000000 && (i == 0 || decide (g (i - 1) < g i)) && inB (f i) 1 1000000000 && freshB f i i
def marksTo (f g : Nat → Int) (k : Nat) : Bool := (List.range k).all fun i => stepB f g i
def marksB (f g : Nat → Int) (n : Nat) : Bool := marksTo f g n && decide (n ≤ 100)

theorem fresh_snoc {f : Nat → Int} {i k : Nat} (h : freshB f i k = true) (hk : (f k == f i) = false) : freshB f i (k + 1) = true := by
  unfold freshB at *
  rw [List.range_succ, List.all_append, h]
  simpa using hk
theorem fresh_no {f : Nat → Int} {i k n : Nat} (hk : k < n) (h : (f k == f i) = true) : freshB f i n = false := by
  unfold freshB
  rw [List.all_eq_false]
  exact ⟨k, by simpa using hk, by simpa using h⟩
theorem marksTo_snoc {f g : Nat → Int} {k : Nat} (h : marksTo f g k = true) (hk : stepB f g k = true) : marksTo f g (k + 1) = true := by
  unfold marksTo at *
  rw [List.range_succ, List.all_append, h]
  simpa using hk
theorem marksB_no {f g : Nat → Int} {k n : Nat} (hk : k < n) (h : stepB f g k = false) : marksB f g n = false := by
  unfold marksB marksTo
  rw [Bool.and_eq_false_iff]
  left
  rw [List.all_eq_false]
  exact ⟨k, by simpa using hk, by simpa using h⟩

theorem stepB_mk {f g : Nat → Int} {k : Nat} (h1 : inB (g k) 0 100000000 = true) (h2 : k = 0 ∨ g (k - 1) < g k) (h3 : inB (f k) 1 1000000000 = true) (h4 : freshB f k k = true) : stepB f g k = true := by
  unfold stepB
  rw [h1, h3, h4]
  simpa using h2

theorem l1in_t (x a b : Int) (w : World) (h : inB x a b = true) :
    Calls Tryd.prog 57 #[.int .i64 x, .int .i64 a, .int .i64 b] w fun e w' => e = .returned (.bool true) ∧ Below w.heap.size w w' :=
  (l1in_c x a b w).mono fun e w' hh => ⟨by rw [hh.1, h], by rw [hh.2]; exact Below.refl _ _⟩
theorem l1in_f (x a b : Int) (w : World) (h : inB x a b = false) :
    Calls Tryd.prog 57 #[.int .i64 x, .int .i64 a, .int .i64 b] w fun e w' => e = .returned (.bool false) ∧ Below w.heap.size w w' :=
  (l1in_c x a b w).mono fun e w' hh => ⟨by rw [hh.1, h], by rw [hh.2]; exact Below.refl _ _⟩

/-- In the round: the mark's own copy, the place of the one before it. -/
def mkC (w : World) (p b o : Nat) (x y z : Int) : World → Prop := fun w' => w'.cell? ⟨p, 0, none⟩ = some (.int .i64 x) ∧ w'.cell? ⟨p, 1, none⟩ = some (.int .i64 y) ∧ w'.cell? ⟨b, o, none⟩ = some (.int .i64 z) ∧ Below w.heap.size w w'
theorem mkC_on {w : World} {p b o : Nat} {x y z : Int} {w1 w2 : World} (hh : mkC w p b o x y z w1) (hb : Below w1.heap.size w1 w2) : mkC w p b o x y z w2 :=
  ⟨cellOn hb hh.1, cellOn hb hh.2.1, cellOn hb hh.2.2.1, nbTrans hh.2.2.2 hb⟩

set_option maxHeartbeats 4000000 in
theorem specMarksOk_c (b off len cap : Nat) (f g : Nat → Int) (w : World) (hl : len ≤ 1048576) (hr : Row2 w b off len f g) :
    Calls Tryd.prog 29 #[.slice (some ⟨b, off, none⟩) len cap] w fun e w' => e = .returned (.bool (marksB f g len)) ∧ Below w.heap.size w w' := by
  go_enter Tryd.func29, Tryd.ntmps29
  go_wp2_with fail
  go_loopw [8] (fun iv wr => ∃ k : Nat, iv = .int .i64 k ∧ k ≤ len ∧ marksTo f g k = true ∧ Below w.heap.size w wr) (fun iv _ => len - (intOf iv).toNat)
  case atStart => exact ⟨0, rfl, by omega, rfl, Below.refl _ _⟩
  case round =>
    obtain ⟨k, rfl, hk, hm, hB⟩ := hrel
    by_cases hlt : k < len
    · have HM : Hid (marksTo f g k = true) := hm
      clear hm
      have i0 : (0 : Int) ≤ (k : Int) := by omega
      have i1 : (k : Int) < (len : Int) := by omega
      have d0 := cellOn hB (hr k hlt).1
      have d1 := cellOn hB (hr k hlt).2
      go_wp2_with fail
      have x0 : (wr.alloc (.cells #[.int .i64 (f k), .int .i64 (g k)] 111)).cell? ⟨wr.heap.size, 0, none⟩ = some (.int .i64 (f k)) := by go_simp
      have x1 : (wr.alloc (.cells #[.int .i64 (f k), .int .i64 (g k)] 111)).cell? ⟨wr.heap.size, 1, none⟩ = some (.int .i64 (g k)) := by go_simp
      have x3 : Below w.heap.size w (wr.alloc (.cells #[.int .i64 (f k), .int .i64 (g k)] 111)) := nbAlloc hB _
      generalize wr.alloc (.cells #[.int .i64 (f k), .int .i64 (g k)] 111) = w1 at *
      generalize wr.heap.size = pm at *
      clear d0 d1 hB
      have x2 := cellOn x3 (hr k hlt).2
      cases hA : inB (g k) 0 100000000
      · refine region_kept (mkC w pm b (off + k * 2 + 1) (f k) (g k) (g k)) (by kernel_rfl) (by kernel_rfl) ⟨x0, x1, x2, x3.drew⟩ ?_
        intro hN
        have k0 : ∀ d : Kept (mkC w pm b (off + k * 2 + 1) (f k) (g k) (g k)), d.w.cell? ⟨pm, 0, none⟩ = some (.int .i64 (f k)) := fun d => d.h.1
        have k1 : ∀ d : Kept (mkC w pm b (off + k * 2 + 1) (f k) (g k) (g k)), d.w.cell? ⟨pm, 1, none⟩ = some (.int .i64 (g k)) := fun d => d.h.2.1
        have k2 : ∀ d : Kept (mkC w pm b (off + k * 2 + 1) (f k) (g k) (g k)), d.w.cell? ⟨b, (off + k * 2 + 1), none⟩ = some (.int .i64 (g k)) := fun d => d.h.2.2.1
        repeat (go_big_quiet_step (first | (go_at_call 57; exact call_kept _ mkC_on (l1in_t _ _ _ _ (by assumption))) | (go_at_call 57; exact call_kept _ mkC_on (l1in_f _ _ _ _ (by assumption)))))
        refine wpQuiet_nil ?_
        rintro w2 ⟨d, hd2⟩
        have hd := d.h
        rw [← hd2] at hd
        clear hd2 k0 k1 k2
        go_wp2_with fail
        go_ret
        exact ⟨retB (marksB_no hlt (by simp [stepB, hA])).symm, hd.2.2.2⟩

      by_cases hk0 : k = 0
      · have hkp : decide ((0 : Int) < (k : Int)) = false := by simp; omega
        have hkn : decide (0 < k) = false := by simp; omega
        have HK0 : Hid (k = 0) := hk0
        clear hk0
        cases hN1 : inB (f k) 1 1000000000
        · refine region_kept (mkC w pm b (off + k * 2 + 1) (f k) (g k) (g k)) (by kernel_rfl) (by kernel_rfl) ⟨x0, x1, x2, x3.drew⟩ ?_
          intro hN
          have k0 : ∀ d : Kept (mkC w pm b (off + k * 2 + 1) (f k) (g k) (g k)), d.w.cell? ⟨pm, 0, none⟩ = some (.int .i64 (f k)) := fun d => d.h.1
          have k1 : ∀ d : Kept (mkC w pm b (off + k * 2 + 1) (f k) (g k) (g k)), d.w.cell? ⟨pm, 1, none⟩ = some (.int .i64 (g k)) := fun d => d.h.2.1
          have k2 : ∀ d : Kept (mkC w pm b (off + k * 2 + 1) (f k) (g k) (g k)), d.w.cell? ⟨b, (off + k * 2 + 1), none⟩ = some (.int .i64 (g k)) := fun d => d.h.2.2.1
          repeat (go_big_quiet_step (first | (go_at_call 57; exact call_kept _ mkC_on (l1in_t _ _ _ _ (by assumption))) | (go_at_call 57; exact call_kept _ mkC_on (l1in_f _ _ _ _ (by assumption)))))
          refine wpQuiet_nil ?_
          rintro w2 ⟨d, hd2⟩
          have hd := d.h
          rw [← hd2] at hd
          clear hd2 k0 k1 k2
          go_wp2_with fail
          go_ret
          exact ⟨retB (marksB_no hlt (by simp [stepB, hN1])).symm, hd.2.2.2⟩

        · refine region_kept (mkC w pm b (off + k * 2 + 1) (f k) (g k) (g k)) (by kernel_rfl) (by kernel_rfl) ⟨x0, x1, x2, x3.drew⟩ ?_
          intro hN
          have k0 : ∀ d : Kept (mkC w pm b (off + k * 2 + 1) (f k) (g k) (g k)), d.w.cell? ⟨pm, 0, none⟩ = some (.int .i64 (f k)) := fun d => d.h.1
          have k1 : ∀ d : Kept (mkC w pm b (off + k * 2 + 1) (f k) (g k) (g k)), d.w.cell? ⟨pm, 1, none⟩ = some (.int .i64 (g k)) := fun d => d.h.2.1
          have k2 : ∀ d : Kept (mkC w pm b (off + k * 2 + 1) (f k) (g k) (g k)), d.w.cell? ⟨b, (off + k * 2 + 1), none⟩ = some (.int .i64 (g k)) := fun d => d.h.2.2.1
          repeat (go_big_quiet_step (first | (go_at_call 57; exact call_kept _ mkC_on (l1in_t _ _ _ _ (by assumption))) | (go_at_call 57; exact call_kept _ mkC_on (l1in_f _ _ _ _ (by assumption)))))
          refine wpQuiet_nil ?_
          rintro w2 ⟨d, hd2⟩
          have hd := d.h
          rw [← hd2] at hd
          clear hd2 k0 k1 k2
          have y0 : w2.cell? ⟨pm, 0, none⟩ = some (.int .i64 (f k)) := hd.1
          have hB2 := hd.2.2.2
          have hpm := ltCell y0
          clear hd x0 x1 x2 x3
          go_wp2_with fail
          go_loopw [5] (fun jv wj => ∃ j : Nat, jv = .int .i64 j ∧ j ≤ k ∧ freshB f k j = true ∧ wj.cell? ⟨pm, 0, none⟩ = some (.int .i64 (f k)) ∧ Below w.heap.size w wj) (fun jv _ => k - (intOf jv).toNat)
          case atStart => exact ⟨0, rfl, by omega, rfl, y0, hB2⟩
          case round =>
            obtain ⟨j, rfl, hj, hfr, y1, hBj⟩ := hrel
            have HF : Hid (freshB f k j = true) := hfr
            clear hfr
            by_cases hjk : j < k
            · have j0 : (0 : Int) ≤ (j : Int) := by omega
              have j1 : (j : Int) < (len : Int) := by omega
              have z0 := cellOn hBj (hr j (by omega)).1
              cases hEq : (f j == f k)
              · go_wp2_with fail
                go_quiet (fail)
                go_wp2_with fail
                go_roundw
                case rel => exact ⟨j + 1, by go_num, by omega, fresh_snoc HF.out hEq, y1, nbDrewN _ hBj⟩
                case measure => simp [intOf]; omega
              · go_wp2_with fail
                go_quiet (fail)
                go_wp2_with fail
                go_ret
                exact ⟨retB (marksB_no hlt (by simp [stepB, fresh_no hjk hEq])).symm, nbDrewN _ hBj⟩
            · have hjk2 : j = k := by omega
              subst hjk2
              go_wp2_with fail
              go_roundw
              case rel => exact ⟨j + 1, by go_num, by omega, marksTo_snoc HM.out (stepB_mk hA (.inl HK0.out) hN1 HF.out), hBj⟩
              case measure => simp [intOf]; omega

      · have HK0 : Hid (¬ k = 0) := hk0
        have x4 : w1.cell? ⟨b, off + (k - 1) * 2 + 1, none⟩ = some (.int .i64 (g (k - 1))) := cellOn x3 (hr (k - 1) (by omega)).2
        clear x2
        have x2 := x4
        clear x4
        have hkp : (0 : Int) < (k : Int) := by omega
        have hkn : 0 < k := by omega
        have wr1 : IntKind.i64.wrap ((k : Int) - 1) = (k : Int) - 1 := wrapS (by omega) (by omega)
        have q0 : (0 : Int) ≤ (k : Int) - 1 := by omega
        have q1 : (k : Int) - 1 < (len : Int) := by omega
        clear hk0
        by_cases hgt : g k ≤ g (k - 1)
        · refine region_kept (mkC w pm b (off + (k - 1) * 2 + 1) (f k) (g k) (g (k - 1))) (by kernel_rfl) (by kernel_rfl) ⟨x0, x1, x2, x3.drew⟩ ?_
          intro hN
          have k0 : ∀ d : Kept (mkC w pm b (off + (k - 1) * 2 + 1) (f k) (g k) (g (k - 1))), d.w.cell? ⟨pm, 0, none⟩ = some (.int .i64 (f k)) := fun d => d.h.1
          have k1 : ∀ d : Kept (mkC w pm b (off + (k - 1) * 2 + 1) (f k) (g k) (g (k - 1))), d.w.cell? ⟨pm, 1, none⟩ = some (.int .i64 (g k)) := fun d => d.h.2.1
          have k2 : ∀ d : Kept (mkC w pm b (off + (k - 1) * 2 + 1) (f k) (g k) (g (k - 1))), d.w.cell? ⟨b, (off + (k - 1) * 2 + 1), none⟩ = some (.int .i64 (g (k - 1))) := fun d => d.h.2.2.1
          repeat (go_big_quiet_step (first | (go_at_call 57; exact call_kept _ mkC_on (l1in_t _ _ _ _ (by assumption))) | (go_at_call 57; exact call_kept _ mkC_on (l1in_f _ _ _ _ (by assumption)))))
          refine wpQuiet_nil ?_
          rintro w2 ⟨d, hd2⟩
          have hd := d.h
          rw [← hd2] at hd
          clear hd2 k0 k1 k2
          go_wp2_with fail
          go_ret
          exact ⟨retB (marksB_no hlt (by simp [stepB, HK0.out]; intro _ h3; omega)).symm, hd.2.2.2⟩

        · have hgt2 : decide (g k ≤ g (k - 1)) = false := by simpa using hgt
          cases hN1 : inB (f k) 1 1000000000
          · refine region_kept (mkC w pm b (off + (k - 1) * 2 + 1) (f k) (g k) (g (k - 1))) (by kernel_rfl) (by kernel_rfl) ⟨x0, x1, x2, x3.drew⟩ ?_
            intro hN
            have k0 : ∀ d : Kept (mkC w pm b (off + (k - 1) * 2 + 1) (f k) (g k) (g (k - 1))), d.w.cell? ⟨pm, 0, none⟩ = some (.int .i64 (f k)) := fun d => d.h.1
            have k1 : ∀ d : Kept (mkC w pm b (off + (k - 1) * 2 + 1) (f k) (g k) (g (k - 1))), d.w.cell? ⟨pm, 1, none⟩ = some (.int .i64 (g k)) := fun d => d.h.2.1
            have k2 : ∀ d : Kept (mkC w pm b (off + (k - 1) * 2 + 1) (f k) (g k) (g (k - 1))), d.w.cell? ⟨b, (off + (k - 1) * 2 + 1), none⟩ = some (.int .i64 (g (k - 1))) := fun d => d.h.2.2.1
            repeat (go_big_quiet_step (first | (go_at_call 57; exact call_kept _ mkC_on (l1in_t _ _ _ _ (by assumption))) | (go_at_call 57; exact call_kept _ mkC_on (l1in_f _ _ _ _ (by assumption)))))
            refine wpQuiet_nil ?_
            rintro w2 ⟨d, hd2⟩
            have hd := d.h
            rw [← hd2] at hd
            clear hd2 k0 k1 k2
            go_wp2_with fail
            go_ret
            exact ⟨retB (marksB_no hlt (by simp [stepB, hN1])).symm, hd.2.2.2⟩

          · refine region_kept (mkC w pm b (off + (k - 1) * 2 + 1) (f k) (g k) (g (k - 1))) (by kernel_rfl) (by kernel_rfl) ⟨x0, x1, x2, x3.drew⟩ ?_
            intro hN
            have k0 : ∀ d : Kept (mkC w pm b (off + (k - 1) * 2 + 1) (f k) (g k) (g (k - 1))), d.w.cell? ⟨pm, 0, none⟩ = some (.int .i64 (f k)) := fun d => d.h.1
            have k1 : ∀ d : Kept (mkC w pm b (off + (k - 1) * 2 + 1) (f k) (g k) (g (k - 1))), d.w.cell? ⟨pm, 1, none⟩ = some (.int .i64 (g k)) := fun d => d.h.2.1
            have k2 : ∀ d : Kept (mkC w pm b (off + (k - 1) * 2 + 1) (f k) (g k) (g (k - 1))), d.w.cell? ⟨b, (off + (k - 1) * 2 + 1), none⟩ = some (.int .i64 (g (k - 1))) := fun d => d.h.2.2.1
            repeat (go_big_quiet_step (first | (go_at_call 57; exact call_kept _ mkC_on (l1in_t _ _ _ _ (by assumption))) | (go_at_call 57; exact call_kept _ mkC_on (l1in_f _ _ _ _ (by assumption)))))
            refine wpQuiet_nil ?_
            rintro w2 ⟨d, hd2⟩
            have hd := d.h
            rw [← hd2] at hd
            clear hd2 k0 k1 k2
            have y0 : w2.cell? ⟨pm, 0, none⟩ = some (.int .i64 (f k)) := hd.1
            have hB2 := hd.2.2.2
            have hpm := ltCell y0
            clear hd x0 x1 x2 x3
            go_wp2_with fail
            go_loopw [5] (fun jv wj => ∃ j : Nat, jv = .int .i64 j ∧ j ≤ k ∧ freshB f k j = true ∧ wj.cell? ⟨pm, 0, none⟩ = some (.int .i64 (f k)) ∧ Below w.heap.size w wj) (fun jv _ => k - (intOf jv).toNat)
            case atStart => exact ⟨0, rfl, by omega, rfl, y0, hB2⟩
            case round =>
              obtain ⟨j, rfl, hj, hfr, y1, hBj⟩ := hrel
              have HF : Hid (freshB f k j = true) := hfr
              clear hfr
              by_cases hjk : j < k
              · have j0 : (0 : Int) ≤ (j : Int) := by omega
                have j1 : (j : Int) < (len : Int) := by omega
                have z0 := cellOn hBj (hr j (by omega)).1
                cases hEq : (f j == f k)
                · go_wp2_with fail
                  go_quiet (fail)
                  go_wp2_with fail
                  go_roundw
                  case rel => exact ⟨j + 1, by go_num, by omega, fresh_snoc HF.out hEq, y1, nbDrewN _ hBj⟩
                  case measure => simp [intOf]; omega
                · go_wp2_with fail
                  go_quiet (fail)
                  go_wp2_with fail
                  go_ret
                  exact ⟨retB (marksB_no hlt (by simp [stepB, fresh_no hjk hEq])).symm, nbDrewN _ hBj⟩
              · have hjk2 : j = k := by omega
                subst hjk2
                go_wp2_with fail
                go_roundw
                case rel => exact ⟨j + 1, by go_num, by omega, marksTo_snoc HM.out (stepB_mk hA (.inr (by omega)) hN1 HF.out), hBj⟩
                case measure => simp [intOf]; omega

    · have hkl : k = len := by omega
      subst hkl
      go_wp2_with fail
      go_ret
      exact ⟨retB (by simp only [marksB, hm, Bool.true_and, decide_eq_decide]; omega), hB⟩

end Go.Proofs.YtmhppadblddjoaaDoor

namespace Go.Proofs.YtmhppadblddjoaaDoor
open Go.RowKit

theorem nbSetX {w w' : World} {n o : Nat} {v : Value} (h : Below w.heap.size w w') (hn : w.heap.size ≤ n) : Below w.heap.size w (w'.setCell ⟨n, o, none⟩ v) := h.setCell (p := ⟨n, o, none⟩) hn v

def evB (op n : Int) : Bool := if op == 1 then inB n 0 100000 else if op == 2 then inB n 1 1000000000 else if op == 3 then n == 0 else if op == 4 then n == 0 else false
def stB (mk : Bool) (len : Nat) (kn : Bool) (l h si la od : Int) : Bool := mk && inB la (-1) ((len : Int) - 1) && inB si 0 1000000000 && inB od 0 1000000000 && (if kn then bOk l h else l == 0 && h == 0 && la == -1)

end Go.Proofs.YtmhppadblddjoaaDoor

namespace Go.Proofs.YtmhppadblddjoaaDoor
open Go.RowKit

theorem infoEv : (Tryd.prog.info? 48).map (fun i => (i.zero, i.size, i.bytes)) = some (some (.agg #[.int .i64 0, .int .i64 0]), 2, 16) := by kernel_rfl

end Go.Proofs.YtmhppadblddjoaaDoor

/- States as my texts hold them, and what the specification's Do makes of one. -/
namespace Go.Proofs.YtmhppadblddjoaaDoor
open Go.RowKit

structure St where
  kn : Bool
  l : Int
  h : Int
  si : Int
  la : Int
  od : Int
def St.v (t : St) : Value := .agg #[.bool t.kn, .int .i64 t.l, .int .i64 t.h, .int .i64 t.si, .int .i64 t.la, .int .i64 t.od]

/-- The last mark of a name ahead of the k-th. -/
def lastIx (f : Nat → Int) (n : Int) : Nat → Int
  | 0 => -1
  | k + 1 => if f k == n then k else lastIx f n k
theorem lastIx_yes {f : Nat → Int} {n : Int} {k : Nat} (h : (f k == n) = true) : lastIx f n (k + 1) = k := by simp [lastIx, h]
theorem lastIx_no {f : Nat → Int} {n : Int} {k : Nat} (h : (f k == n) = false) : lastIx f n (k + 1) = lastIx f n k := by simp [lastIx, h]
theorem lastIx_cases (f : Nat → Int) (n : Int) : ∀ k, lastIx f n k = -1 ∧ (∀ i, i < k → f i ≠ n) ∨ ∃ i : Nat, lastIx f n k = (i : Int) ∧ i < k ∧ f i = n
  | 0 => .inl ⟨rfl, fun i hi => by omega⟩
  | k + 1 => by
    cases hk : (f k == n)
    · rw [lastIx_no hk]
      rcases lastIx_cases f n k with ⟨h1, h2⟩ | ⟨i, h1, h2, h3⟩
      · refine .inl ⟨h1, fun i hi => ?_⟩
        by_cases hik : i = k
        · subst hik; simpa using hk
        · exact h2 i (by omega)
      · exact .inr ⟨i, h1, by omega, h3⟩
    · rw [lastIx_yes hk]
      exact .inr ⟨k, rfl, by omega, by simpa using hk⟩

def doM (s j m : Int) (len : Nat) (f a : Nat → Int) (t : St) (op n : Int) : St :=
  if op == 1 then
    if t.kn then ⟨true, min (t.l + lst s j n) 100000000, min (t.h + mst s j n) 100000000, min (t.si + n) 1000000000, t.la, t.od⟩
    else ⟨false, t.l, t.h, min (t.si + n) 1000000000, t.la, t.od⟩
  else if op == 2 then
    if lastIx f n len < 0 then ⟨t.kn, t.l, t.h, t.si, t.la, min (t.od + 1) 1000000000⟩
    else
      let z := a (lastIx f n len).toNat
      let x := min (z - m) 100000000
      let y := min (z + m) 100000000
      if t.kn then
        if mB t.l t.h x y then ⟨true, max t.l x, min t.h y, 0, lastIx f n len, t.od⟩
        else ⟨true, min t.l x, max t.h y, 0, lastIx f n len, min (t.od + 1) 1000000000⟩
      else ⟨true, x, y, 0, lastIx f n len, t.od⟩
  else if op == 4 then ⟨false, 0, 0, 0, -1, t.od⟩
  else t
def doA (s j m g o : Int) (len : Nat) (f a : Nat → Int) (t : St) (op n : Int) : St :=
  if rOk s j m g o && stB (marksB f a len) len t.kn t.l t.h t.si t.la t.od && evB op n then doM s j m len f a t op n else ⟨false, 0, 0, 0, 0, 0⟩

end Go.Proofs.YtmhppadblddjoaaDoor

/- The program's events: the four types behind the interface, happeningOf, EventOk. -/
namespace Go.Proofs.YtmhppadblddjoaaDoor
open Go.RowKit

/-- An event as the program holds it. -/
def hapV (op n : Int) : Value :=
  if op == 1 then .iface 126 (.int .i64 n) else if op == 2 then .iface 128 (.int .i64 n) else if op == 3 then .iface 131 (.int .i64 n) else if op == 4 then .iface 129 (.int .i64 n) else .nilIface

set_option maxHeartbeats 400000 in
theorem rightWheels_c (n : Int) (w : World) :
    Calls Tryd.prog 145 #[.int .i64 n] w fun e w' => e = .returned (.bool (inB n 0 100000)) ∧ Below w.heap.size w w' := by
  go_enter Tryd.func145, Tryd.ntmps145
  go_wp2_with fail
  refine (upTo_c _ _).mono ?_
  rintro e w1 ⟨rfl, hb1⟩
  go_wp2_with fail
  refine (has_c _ _ _ _).mono ?_
  rintro e w2 ⟨rfl, hb2⟩
  go_wp2_with fail
  go_ret
  exact ⟨rfl, nbTrans hb1 hb2⟩

set_option maxHeartbeats 400000 in
theorem rightMark_c (n : Int) (w : World) :
    Calls Tryd.prog 146 #[.int .i64 n] w fun e w' => e = .returned (.bool (inB n 1 1000000000)) ∧ Below w.heap.size w w' := by
  go_enter Tryd.func146, Tryd.ntmps146
  go_wp2_with fail
  refine (has_c _ _ _ _).mono ?_
  rintro e w2 ⟨rfl, hb2⟩
  go_wp2_with fail
  go_ret
  exact ⟨rfl, hb2⟩

set_option maxHeartbeats 400000 in
theorem rightStands_c (n : Int) (w : World) :
    Calls Tryd.prog 148 #[.int .i64 n] w fun e w' => e = .returned (.bool (n == 0)) ∧ Below w.heap.size w w' := by
  go_enter Tryd.func148, Tryd.ntmps148
  go_wp2_with fail
  go_ret
  exact ⟨rfl, Below.refl _ _⟩

set_option maxHeartbeats 400000 in
theorem rightLost_c (n : Int) (w : World) :
    Calls Tryd.prog 147 #[.int .i64 n] w fun e w' => e = .returned (.bool (n == 0)) ∧ Below w.heap.size w w' := by
  go_enter Tryd.func147, Tryd.ntmps147
  go_wp2_with fail
  go_ret
  exact ⟨rfl, Below.refl _ _⟩

set_option maxHeartbeats 400000 in
theorem happeningOf_c (op n : Int) (w : World) :
    Calls Tryd.prog 39 #[.agg #[.int .i64 op, .int .i64 n]] w fun e w' => e = .returned (hapV op n) ∧ Below w.heap.size w w' := by
  cases h1 : (op == 1)
  case true =>
    go_enter Tryd.func39, Tryd.ntmps39
    go_wp2_with fail
    go_ret
    exact ⟨by simp [hapV, h1], nbAlloc (Below.refl _ _) _⟩
  cases h2 : (op == 2)
  case true =>
    go_enter Tryd.func39, Tryd.ntmps39
    go_wp2_with fail
    go_ret
    exact ⟨by simp [hapV, h1, h2], nbAlloc (Below.refl _ _) _⟩
  cases h3 : (op == 3)
  case true =>
    go_enter Tryd.func39, Tryd.ntmps39
    go_wp2_with fail
    go_ret
    exact ⟨by simp [hapV, h1, h2, h3], nbAlloc (Below.refl _ _) _⟩
  cases h4 : (op == 4)
  case true =>
    go_enter Tryd.func39, Tryd.ntmps39
    go_wp2_with fail
    go_ret
    exact ⟨by simp [hapV, h1, h2, h3, h4], nbAlloc (Below.refl _ _) _⟩
  go_enter Tryd.func39, Tryd.ntmps39
  go_wp2_with fail
  go_ret
  exact ⟨by simp [hapV, h1, h2, h3, h4], nbAlloc (Below.refl _ _) _⟩

theorem neqNil (t : TypeId) (v : Value) (w : World) : (binOp .neq 79 (.iface t v) .nilIface).run Tryd.prog w = .ok (.bool true) w := by kernel_rfl
theorem neqNil0 (w : World) : (binOp .neq 79 .nilIface .nilIface).run Tryd.prog w = .ok (.bool false) w := by kernel_rfl

theorem methodW (n : Int) (w : World) : (method 320 126 (.int .i64 n) "loop.example/milepost/impl.right").run Tryd.prog w = .ok (145, .int .i64 n) w := by kernel_rfl
theorem methodM (n : Int) (w : World) : (method 320 128 (.int .i64 n) "loop.example/milepost/impl.right").run Tryd.prog w = .ok (146, .int .i64 n) w := by kernel_rfl
theorem methodS (n : Int) (w : World) : (method 320 131 (.int .i64 n) "loop.example/milepost/impl.right").run Tryd.prog w = .ok (148, .int .i64 n) w := by kernel_rfl
theorem methodL (n : Int) (w : World) : (method 320 129 (.int .i64 n) "loop.example/milepost/impl.right").run Tryd.prog w = .ok (147, .int .i64 n) w := by kernel_rfl

set_option maxRecDepth 100000 in
set_option maxHeartbeats 400000 in
theorem implEventOk_c (op n : Int) (w : World) :
    Calls Tryd.prog 79 #[.agg #[.int .i64 op, .int .i64 n]] w fun e w' => e = .returned (.bool (evB op n)) ∧ Below w.heap.size w w' := by
  have hq := neqNil
  have hq0 := neqNil0
  cases h1 : (op == 1)
  case true =>
    have hv : hapV op n = .iface 126 (.int .i64 n) := by simp [hapV, h1]
    have hm := methodW
    go_enter Tryd.func79, Tryd.ntmps79
    go_wp2_with fail
    refine (happeningOf_c _ _ _).mono ?_
    rintro e w1 ⟨rfl, hb1⟩
    rw [hv]
    go_wp2_with fail
    refine (rightWheels_c _ _).mono ?_
    rintro e w2 ⟨rfl, hb2⟩
    go_wp2_with fail
    go_ret
    exact ⟨retB (by simp [evB, h1]), nbTrans (nbTrans (nbAlloc (Below.refl _ _) _) hb1) hb2⟩
  cases h2 : (op == 2)
  case true =>
    have hv : hapV op n = .iface 128 (.int .i64 n) := by simp [hapV, h1, h2]
    have hm := methodM
    go_enter Tryd.func79, Tryd.ntmps79
    go_wp2_with fail
    refine (happeningOf_c _ _ _).mono ?_
    rintro e w1 ⟨rfl, hb1⟩
    rw [hv]
    go_wp2_with fail
    refine (rightMark_c _ _).mono ?_
    rintro e w2 ⟨rfl, hb2⟩
    go_wp2_with fail
    go_ret
    exact ⟨retB (by simp [evB, h1, h2]), nbTrans (nbTrans (nbAlloc (Below.refl _ _) _) hb1) hb2⟩
  cases h3 : (op == 3)
  case true =>
    have hv : hapV op n = .iface 131 (.int .i64 n) := by simp [hapV, h1, h2, h3]
    have hm := methodS
    go_enter Tryd.func79, Tryd.ntmps79
    go_wp2_with fail
    refine (happeningOf_c _ _ _).mono ?_
    rintro e w1 ⟨rfl, hb1⟩
    rw [hv]
    go_wp2_with fail
    refine (rightStands_c _ _).mono ?_
    rintro e w2 ⟨rfl, hb2⟩
    go_wp2_with fail
    go_ret
    exact ⟨retB (by simp [evB, h1, h2, h3]), nbTrans (nbTrans (nbAlloc (Below.refl _ _) _) hb1) hb2⟩
  cases h4 : (op == 4)
  case true =>
    have hv : hapV op n = .iface 129 (.int .i64 n) := by simp [hapV, h1, h2, h3, h4]
    have hm := methodL
    go_enter Tryd.func79, Tryd.ntmps79
    go_wp2_with fail
    refine (happeningOf_c _ _ _).mono ?_
    rintro e w1 ⟨rfl, hb1⟩
    rw [hv]
    go_wp2_with fail
    refine (rightLost_c _ _).mono ?_
    rintro e w2 ⟨rfl, hb2⟩
    go_wp2_with fail
    go_ret
    exact ⟨retB (by simp [evB, h1, h2, h3, h4]), nbTrans (nbTrans (nbAlloc (Below.refl _ _) _) hb1) hb2⟩
  have hv : hapV op n = .nilIface := by simp [hapV, h1, h2, h3, h4]
  go_enter Tryd.func79, Tryd.ntmps79
  go_wp2_with fail
  refine (happeningOf_c _ _ _).mono ?_
  rintro e w1 ⟨rfl, hb1⟩
  rw [hv]
  go_wp2_with fail
  go_ret
  exact ⟨retB (by simp [evB, h1, h2, h3, h4]), nbTrans (nbAlloc (Below.refl _ _) _) hb1⟩

end Go.Proofs.YtmhppadblddjoaaDoor

