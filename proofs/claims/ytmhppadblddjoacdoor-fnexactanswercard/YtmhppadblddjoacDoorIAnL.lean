/- Chapter 4 of the program: a line of the answer. -/
import Derived.Test.YtmhppadblddjoacDoorIAn
namespace Go.Proofs.YtmhppadblddjoacDoor
open Go.RowKit

def alC (wz : World) (pt : Nat) (kn : Bool) (tl th tsi tla tod : Int) : World → Prop := fun w' => anC wz pt kn tl th tsi tla tod w' ∧ Tab w'
theorem alC_on {wz : World} {pt : Nat} {kn : Bool} {tl th tsi tla tod : Int} {w1 w2 : World} (hh : alC wz pt kn tl th tsi tla tod w1) (hb : Below w1.heap.size w1 w2) : alC wz pt kn tl th tsi tla tod w2 := ⟨anC_on hh.1 hb, hh.2.on hb⟩

set_option maxRecDepth 100000 in
set_option maxHeartbeats 2000000 in
theorem lineOf_f (tl th tsi tla tod : Int) (w : World) (hT : Tab w) (hN : StNum ⟨false, tl, th, tsi, tla, tod⟩) :
    Calls Tryd.prog 52 #[.agg #[.bool false, .int .i64 tl, .int .i64 th, .int .i64 tsi, .int .i64 tla, .int .i64 tod]] w fun e w' => e = .returned (.string (lineB ⟨false, tl, th, tsi, tla, tod⟩)) ∧ Below w.heap.size w w' := by
  obtain ⟨n1, n2, n3, n4, n5⟩ := hN
  simp only at n1 n2 n3 n4 n5
  have x1 := decB_size (n := tl) (by omega) (by omega)
  have x2 := decB_size (n := th) (by omega) (by omega)
  have x3 := decB_size (n := tsi) (by omega) (by omega)
  have x4 := decB_size (n := tla) (by omega) (by omega)
  have x5 := decB_size (n := tod) (by omega) (by omega)
  obtain ⟨hd, hhd⟩ : ∃ x : ByteArray, x = ⟨#[108, 111, 115, 116]⟩ := ⟨_, rfl⟩
  have zhd : hd.size ≤ 4000000012 := by rw [hhd]; have y1 := z1; omega
  obtain ⟨s1, hs1⟩ : ∃ x : ByteArray, x = hd ++ ⟨#[32, 115, 105, 110, 99, 101, 32]⟩ := ⟨_, rfl⟩
  have zs1 : s1.size ≤ 4000000020 := by rw [hs1, ByteArray.size_append]; have y0 := z0; have y1 := z1; have y2 := z2; have y3 := z3; have y4 := z4; have y5 := z5; omega
  have as1 := addS (a := hd) (b := ⟨#[32, 115, 105, 110, 99, 101, 32]⟩) (by have y0 := z0; have y1 := z1; have y2 := z2; have y3 := z3; have y4 := z4; have y5 := z5; omega)
  rw [← hs1] at as1
  have Hs1 : Hid (s1 = hd ++ ⟨#[32, 115, 105, 110, 99, 101, 32]⟩) := hs1
  clear hs1
  obtain ⟨s2, hs2⟩ : ∃ x : ByteArray, x = s1 ++ decB tsi := ⟨_, rfl⟩
  have zs2 : s2.size ≤ 6000000030 := by rw [hs2, ByteArray.size_append]; have y0 := z0; have y1 := z1; have y2 := z2; have y3 := z3; have y4 := z4; have y5 := z5; omega
  have as2 := addS (a := s1) (b := decB tsi) (by have y0 := z0; have y1 := z1; have y2 := z2; have y3 := z3; have y4 := z4; have y5 := z5; omega)
  rw [← hs2] at as2
  have Hs2 : Hid (s2 = s1 ++ decB tsi) := hs2
  clear hs2
  obtain ⟨s3, hs3⟩ : ∃ x : ByteArray, x = s2 ++ ⟨#[32, 108, 97, 115, 116, 32]⟩ := ⟨_, rfl⟩
  have zs3 : s3.size ≤ 6000000040 := by rw [hs3, ByteArray.size_append]; have y0 := z0; have y1 := z1; have y2 := z2; have y3 := z3; have y4 := z4; have y5 := z5; omega
  have as3 := addS (a := s2) (b := ⟨#[32, 108, 97, 115, 116, 32]⟩) (by have y0 := z0; have y1 := z1; have y2 := z2; have y3 := z3; have y4 := z4; have y5 := z5; omega)
  rw [← hs3] at as3
  have Hs3 : Hid (s3 = s2 ++ ⟨#[32, 108, 97, 115, 116, 32]⟩) := hs3
  clear hs3
  obtain ⟨s4, hs4⟩ : ∃ x : ByteArray, x = s3 ++ decB tla := ⟨_, rfl⟩
  have zs4 : s4.size ≤ 8000000050 := by rw [hs4, ByteArray.size_append]; have y0 := z0; have y1 := z1; have y2 := z2; have y3 := z3; have y4 := z4; have y5 := z5; omega
  have as4 := addS (a := s3) (b := decB tla) (by have y0 := z0; have y1 := z1; have y2 := z2; have y3 := z3; have y4 := z4; have y5 := z5; omega)
  rw [← hs4] at as4
  have Hs4 : Hid (s4 = s3 ++ decB tla) := hs4
  clear hs4
  obtain ⟨s5, hs5⟩ : ∃ x : ByteArray, x = s4 ++ ⟨#[32, 111, 100, 100, 32]⟩ := ⟨_, rfl⟩
  have zs5 : s5.size ≤ 8000000060 := by rw [hs5, ByteArray.size_append]; have y0 := z0; have y1 := z1; have y2 := z2; have y3 := z3; have y4 := z4; have y5 := z5; omega
  have as5 := addS (a := s4) (b := ⟨#[32, 111, 100, 100, 32]⟩) (by have y0 := z0; have y1 := z1; have y2 := z2; have y3 := z3; have y4 := z4; have y5 := z5; omega)
  rw [← hs5] at as5
  have Hs5 : Hid (s5 = s4 ++ ⟨#[32, 111, 100, 100, 32]⟩) := hs5
  clear hs5
  obtain ⟨s6, hs6⟩ : ∃ x : ByteArray, x = s5 ++ decB tod := ⟨_, rfl⟩
  have zs6 : s6.size ≤ 10000000070 := by rw [hs6, ByteArray.size_append]; have y0 := z0; have y1 := z1; have y2 := z2; have y3 := z3; have y4 := z4; have y5 := z5; omega
  have as6 := addS (a := s5) (b := decB tod) (by have y0 := z0; have y1 := z1; have y2 := z2; have y3 := z3; have y4 := z4; have y5 := z5; omega)
  rw [← hs6] at as6
  have Hs6 : Hid (s6 = s5 ++ decB tod) := hs6
  clear hs6
  obtain ⟨s7, hs7⟩ : ∃ x : ByteArray, x = s6 ++ ⟨#[10]⟩ := ⟨_, rfl⟩
  have zs7 : s7.size ≤ 10000000080 := by rw [hs7, ByteArray.size_append]; have y0 := z0; have y1 := z1; have y2 := z2; have y3 := z3; have y4 := z4; have y5 := z5; omega
  have as7 := addS (a := s6) (b := ⟨#[10]⟩) (by have y0 := z0; have y1 := z1; have y2 := z2; have y3 := z3; have y4 := z4; have y5 := z5; omega)
  rw [← hs7] at as7
  have Hs7 : Hid (s7 = s6 ++ ⟨#[10]⟩) := hs7
  clear hs7
  subst hhd
  have HL : Hid (lineB ⟨false, tl, th, tsi, tla, tod⟩ = s7) := by
    unfold Hid lineB headB restB
    rw [Hs7.out, Hs6.out, Hs5.out, Hs4.out, Hs3.out, Hs2.out, Hs1.out]
    simp only [ByteArray.append_assoc, Bool.false_eq_true, if_false]
  have hC0 : alC (w.alloc (.cells #[.bool false, .int .i64 tl, .int .i64 th, .int .i64 tsi, .int .i64 tla, .int .i64 tod] 94)) w.heap.size false tl th tsi tla tod (w.alloc (.cells #[.bool false, .int .i64 tl, .int .i64 th, .int .i64 tsi, .int .i64 tla, .int .i64 tod] 94)) := ⟨by refine ⟨?_, ?_, ?_, ?_, ?_, ?_, Below.refl _ _⟩ <;> go_simp, hT.on (nbAlloc (Below.refl _ _) _)⟩
  have hB0 : Below w.heap.size w (w.alloc (.cells #[.bool false, .int .i64 tl, .int .i64 th, .int .i64 tsi, .int .i64 tla, .int .i64 tod] 94)) := nbAlloc (Below.refl _ _) _
  have c0 := hC0.1.1
  go_enter Tryd.func52, Tryd.ntmps52
  go_wp2_with fail
  generalize hwz : (w.alloc (.cells #[.bool false, .int .i64 tl, .int .i64 th, .int .i64 tsi, .int .i64 tla, .int .i64 tod] 94)) = wz at *
  clear hwz c0
  refine region_kept (alC wz w.heap.size false tl th tsi tla tod) (by kernel_rfl) (by kernel_rfl) (alC_on hC0 (Below.drew (Below.refl _ _))) ?_
  intro hN_
  have k0 : ∀ d : Kept (alC wz w.heap.size false tl th tsi tla tod), d.w.cell? ⟨w.heap.size, 0, none⟩ = some (.bool false) := fun d => d.h.1.1
  have k1 : ∀ d : Kept (alC wz w.heap.size false tl th tsi tla tod), d.w.cell? ⟨w.heap.size, 1, none⟩ = some (.int .i64 tl) := fun d => d.h.1.2.1
  have k2 : ∀ d : Kept (alC wz w.heap.size false tl th tsi tla tod), d.w.cell? ⟨w.heap.size, 2, none⟩ = some (.int .i64 th) := fun d => d.h.1.2.2.1
  have k3 : ∀ d : Kept (alC wz w.heap.size false tl th tsi tla tod), d.w.cell? ⟨w.heap.size, 3, none⟩ = some (.int .i64 tsi) := fun d => d.h.1.2.2.2.1
  have k4 : ∀ d : Kept (alC wz w.heap.size false tl th tsi tla tod), d.w.cell? ⟨w.heap.size, 4, none⟩ = some (.int .i64 tla) := fun d => d.h.1.2.2.2.2.1
  have k5 : ∀ d : Kept (alC wz w.heap.size false tl th tsi tla tod), d.w.cell? ⟨w.heap.size, 5, none⟩ = some (.int .i64 tod) := fun d => d.h.1.2.2.2.2.2.1
  have kT : ∀ d : Kept (alC wz w.heap.size false tl th tsi tla tod), Tab d.w := fun d => d.h.2
  repeat (go_big_quiet_step (first | (go_at_call 72; exact call_kept _ alC_on (itoa_c _ _ (kT _) (by omega) (by omega))) | exact rfl))
  refine wpQuiet_nil ?_
  rintro w6 ⟨d, hd_⟩
  have hC6 := d.h
  rw [← hd_] at hC6
  clear hd_ k0 k1 k2 k3 k4 k5 kT
  go_wp2_with fail
  go_ret
  exact ⟨retStr HL.out.symm, nbTrans hB0 hC6.1.2.2.2.2.2.2⟩

set_option maxRecDepth 100000 in
set_option maxHeartbeats 2000000 in
theorem lineOf_t (tl th tsi tla tod : Int) (w : World) (hT : Tab w) (hN : StNum ⟨true, tl, th, tsi, tla, tod⟩) :
    Calls Tryd.prog 52 #[.agg #[.bool true, .int .i64 tl, .int .i64 th, .int .i64 tsi, .int .i64 tla, .int .i64 tod]] w fun e w' => e = .returned (.string (lineB ⟨true, tl, th, tsi, tla, tod⟩)) ∧ Below w.heap.size w w' := by
  obtain ⟨n1, n2, n3, n4, n5⟩ := hN
  simp only at n1 n2 n3 n4 n5
  have x1 := decB_size (n := tl) (by omega) (by omega)
  have x2 := decB_size (n := th) (by omega) (by omega)
  have x3 := decB_size (n := tsi) (by omega) (by omega)
  have x4 := decB_size (n := tla) (by omega) (by omega)
  have x5 := decB_size (n := tod) (by omega) (by omega)
  obtain ⟨s0, hs0⟩ : ∃ x : ByteArray, x = decB tl ++ ⟨#[32]⟩ := ⟨_, rfl⟩
  have zs0 : s0.size ≤ 2000000010 := by rw [hs0, ByteArray.size_append]; have y0 := z0; have y1 := z1; have y2 := z2; have y3 := z3; have y4 := z4; have y5 := z5; omega
  have as0 := addS (a := decB tl) (b := ⟨#[32]⟩) (by have y0 := z0; have y1 := z1; have y2 := z2; have y3 := z3; have y4 := z4; have y5 := z5; omega)
  rw [← hs0] at as0
  have Hs0 : Hid (s0 = decB tl ++ ⟨#[32]⟩) := hs0
  clear hs0
  obtain ⟨hd, hhd⟩ : ∃ x : ByteArray, x = s0 ++ decB th := ⟨_, rfl⟩
  have zhd : hd.size ≤ 4000000012 := by rw [hhd, ByteArray.size_append]; have y0 := z0; have y1 := z1; have y2 := z2; have y3 := z3; have y4 := z4; have y5 := z5; omega
  have ahd := addS (a := s0) (b := decB th) (by have y0 := z0; have y1 := z1; have y2 := z2; have y3 := z3; have y4 := z4; have y5 := z5; omega)
  rw [← hhd] at ahd
  have Hhd : Hid (hd = s0 ++ decB th) := hhd
  clear hhd
  obtain ⟨s1, hs1⟩ : ∃ x : ByteArray, x = hd ++ ⟨#[32, 115, 105, 110, 99, 101, 32]⟩ := ⟨_, rfl⟩
  have zs1 : s1.size ≤ 4000000020 := by rw [hs1, ByteArray.size_append]; have y0 := z0; have y1 := z1; have y2 := z2; have y3 := z3; have y4 := z4; have y5 := z5; omega
  have as1 := addS (a := hd) (b := ⟨#[32, 115, 105, 110, 99, 101, 32]⟩) (by have y0 := z0; have y1 := z1; have y2 := z2; have y3 := z3; have y4 := z4; have y5 := z5; omega)
  rw [← hs1] at as1
  have Hs1 : Hid (s1 = hd ++ ⟨#[32, 115, 105, 110, 99, 101, 32]⟩) := hs1
  clear hs1
  obtain ⟨s2, hs2⟩ : ∃ x : ByteArray, x = s1 ++ decB tsi := ⟨_, rfl⟩
  have zs2 : s2.size ≤ 6000000030 := by rw [hs2, ByteArray.size_append]; have y0 := z0; have y1 := z1; have y2 := z2; have y3 := z3; have y4 := z4; have y5 := z5; omega
  have as2 := addS (a := s1) (b := decB tsi) (by have y0 := z0; have y1 := z1; have y2 := z2; have y3 := z3; have y4 := z4; have y5 := z5; omega)
  rw [← hs2] at as2
  have Hs2 : Hid (s2 = s1 ++ decB tsi) := hs2
  clear hs2
  obtain ⟨s3, hs3⟩ : ∃ x : ByteArray, x = s2 ++ ⟨#[32, 108, 97, 115, 116, 32]⟩ := ⟨_, rfl⟩
  have zs3 : s3.size ≤ 6000000040 := by rw [hs3, ByteArray.size_append]; have y0 := z0; have y1 := z1; have y2 := z2; have y3 := z3; have y4 := z4; have y5 := z5; omega
  have as3 := addS (a := s2) (b := ⟨#[32, 108, 97, 115, 116, 32]⟩) (by have y0 := z0; have y1 := z1; have y2 := z2; have y3 := z3; have y4 := z4; have y5 := z5; omega)
  rw [← hs3] at as3
  have Hs3 : Hid (s3 = s2 ++ ⟨#[32, 108, 97, 115, 116, 32]⟩) := hs3
  clear hs3
  obtain ⟨s4, hs4⟩ : ∃ x : ByteArray, x = s3 ++ decB tla := ⟨_, rfl⟩
  have zs4 : s4.size ≤ 8000000050 := by rw [hs4, ByteArray.size_append]; have y0 := z0; have y1 := z1; have y2 := z2; have y3 := z3; have y4 := z4; have y5 := z5; omega
  have as4 := addS (a := s3) (b := decB tla) (by have y0 := z0; have y1 := z1; have y2 := z2; have y3 := z3; have y4 := z4; have y5 := z5; omega)
  rw [← hs4] at as4
  have Hs4 : Hid (s4 = s3 ++ decB tla) := hs4
  clear hs4
  obtain ⟨s5, hs5⟩ : ∃ x : ByteArray, x = s4 ++ ⟨#[32, 111, 100, 100, 32]⟩ := ⟨_, rfl⟩
  have zs5 : s5.size ≤ 8000000060 := by rw [hs5, ByteArray.size_append]; have y0 := z0; have y1 := z1; have y2 := z2; have y3 := z3; have y4 := z4; have y5 := z5; omega
  have as5 := addS (a := s4) (b := ⟨#[32, 111, 100, 100, 32]⟩) (by have y0 := z0; have y1 := z1; have y2 := z2; have y3 := z3; have y4 := z4; have y5 := z5; omega)
  rw [← hs5] at as5
  have Hs5 : Hid (s5 = s4 ++ ⟨#[32, 111, 100, 100, 32]⟩) := hs5
  clear hs5
  obtain ⟨s6, hs6⟩ : ∃ x : ByteArray, x = s5 ++ decB tod := ⟨_, rfl⟩
  have zs6 : s6.size ≤ 10000000070 := by rw [hs6, ByteArray.size_append]; have y0 := z0; have y1 := z1; have y2 := z2; have y3 := z3; have y4 := z4; have y5 := z5; omega
  have as6 := addS (a := s5) (b := decB tod) (by have y0 := z0; have y1 := z1; have y2 := z2; have y3 := z3; have y4 := z4; have y5 := z5; omega)
  rw [← hs6] at as6
  have Hs6 : Hid (s6 = s5 ++ decB tod) := hs6
  clear hs6
  obtain ⟨s7, hs7⟩ : ∃ x : ByteArray, x = s6 ++ ⟨#[10]⟩ := ⟨_, rfl⟩
  have zs7 : s7.size ≤ 10000000080 := by rw [hs7, ByteArray.size_append]; have y0 := z0; have y1 := z1; have y2 := z2; have y3 := z3; have y4 := z4; have y5 := z5; omega
  have as7 := addS (a := s6) (b := ⟨#[10]⟩) (by have y0 := z0; have y1 := z1; have y2 := z2; have y3 := z3; have y4 := z4; have y5 := z5; omega)
  rw [← hs7] at as7
  have Hs7 : Hid (s7 = s6 ++ ⟨#[10]⟩) := hs7
  clear hs7
  have HL : Hid (lineB ⟨true, tl, th, tsi, tla, tod⟩ = s7) := by
    unfold Hid lineB headB restB
    rw [Hs7.out, Hs6.out, Hs5.out, Hs4.out, Hs3.out, Hs2.out, Hs1.out, Hhd.out, Hs0.out]
    simp only [ByteArray.append_assoc, if_true]
  have hC0 : alC (w.alloc (.cells #[.bool true, .int .i64 tl, .int .i64 th, .int .i64 tsi, .int .i64 tla, .int .i64 tod] 94)) w.heap.size true tl th tsi tla tod (w.alloc (.cells #[.bool true, .int .i64 tl, .int .i64 th, .int .i64 tsi, .int .i64 tla, .int .i64 tod] 94)) := ⟨by refine ⟨?_, ?_, ?_, ?_, ?_, ?_, Below.refl _ _⟩ <;> go_simp, hT.on (nbAlloc (Below.refl _ _) _)⟩
  have hB0 : Below w.heap.size w (w.alloc (.cells #[.bool true, .int .i64 tl, .int .i64 th, .int .i64 tsi, .int .i64 tla, .int .i64 tod] 94)) := nbAlloc (Below.refl _ _) _
  have c0 := hC0.1.1
  go_enter Tryd.func52, Tryd.ntmps52
  go_wp2_with fail
  generalize hwz : (w.alloc (.cells #[.bool true, .int .i64 tl, .int .i64 th, .int .i64 tsi, .int .i64 tla, .int .i64 tod] 94)) = wz at *
  clear hwz c0
  refine region_kept (alC wz w.heap.size true tl th tsi tla tod) (by kernel_rfl) (by kernel_rfl) (alC_on hC0 (Below.drew (Below.refl _ _))) ?_
  intro hN_
  have k0 : ∀ d : Kept (alC wz w.heap.size true tl th tsi tla tod), d.w.cell? ⟨w.heap.size, 0, none⟩ = some (.bool true) := fun d => d.h.1.1
  have k1 : ∀ d : Kept (alC wz w.heap.size true tl th tsi tla tod), d.w.cell? ⟨w.heap.size, 1, none⟩ = some (.int .i64 tl) := fun d => d.h.1.2.1
  have k2 : ∀ d : Kept (alC wz w.heap.size true tl th tsi tla tod), d.w.cell? ⟨w.heap.size, 2, none⟩ = some (.int .i64 th) := fun d => d.h.1.2.2.1
  have k3 : ∀ d : Kept (alC wz w.heap.size true tl th tsi tla tod), d.w.cell? ⟨w.heap.size, 3, none⟩ = some (.int .i64 tsi) := fun d => d.h.1.2.2.2.1
  have k4 : ∀ d : Kept (alC wz w.heap.size true tl th tsi tla tod), d.w.cell? ⟨w.heap.size, 4, none⟩ = some (.int .i64 tla) := fun d => d.h.1.2.2.2.2.1
  have k5 : ∀ d : Kept (alC wz w.heap.size true tl th tsi tla tod), d.w.cell? ⟨w.heap.size, 5, none⟩ = some (.int .i64 tod) := fun d => d.h.1.2.2.2.2.2.1
  have kT : ∀ d : Kept (alC wz w.heap.size true tl th tsi tla tod), Tab d.w := fun d => d.h.2
  repeat (go_big_quiet_step (first | (go_at_call 72; exact call_kept _ alC_on (itoa_c _ _ (kT _) (by omega) (by omega))) | exact rfl))
  refine wpQuiet_nil ?_
  rintro w5 ⟨d, hd_⟩
  have hC5 := d.h
  rw [← hd_] at hC5
  clear hd_ k0 k1 k2 k3 k4 k5 kT
  go_wp2_with fail
  refine region_kept (alC wz w.heap.size true tl th tsi tla tod) (by kernel_rfl) (by kernel_rfl) (alC_on hC5 (Below.drew (Below.refl _ _))) ?_
  intro hN_
  have k0 : ∀ d : Kept (alC wz w.heap.size true tl th tsi tla tod), d.w.cell? ⟨w.heap.size, 0, none⟩ = some (.bool true) := fun d => d.h.1.1
  have k1 : ∀ d : Kept (alC wz w.heap.size true tl th tsi tla tod), d.w.cell? ⟨w.heap.size, 1, none⟩ = some (.int .i64 tl) := fun d => d.h.1.2.1
  have k2 : ∀ d : Kept (alC wz w.heap.size true tl th tsi tla tod), d.w.cell? ⟨w.heap.size, 2, none⟩ = some (.int .i64 th) := fun d => d.h.1.2.2.1
  have k3 : ∀ d : Kept (alC wz w.heap.size true tl th tsi tla tod), d.w.cell? ⟨w.heap.size, 3, none⟩ = some (.int .i64 tsi) := fun d => d.h.1.2.2.2.1
  have k4 : ∀ d : Kept (alC wz w.heap.size true tl th tsi tla tod), d.w.cell? ⟨w.heap.size, 4, none⟩ = some (.int .i64 tla) := fun d => d.h.1.2.2.2.2.1
  have k5 : ∀ d : Kept (alC wz w.heap.size true tl th tsi tla tod), d.w.cell? ⟨w.heap.size, 5, none⟩ = some (.int .i64 tod) := fun d => d.h.1.2.2.2.2.2.1
  have kT : ∀ d : Kept (alC wz w.heap.size true tl th tsi tla tod), Tab d.w := fun d => d.h.2
  repeat (go_big_quiet_step (first | (go_at_call 72; exact call_kept _ alC_on (itoa_c _ _ (kT _) (by omega) (by omega))) | exact rfl))
  refine wpQuiet_nil ?_
  rintro w6 ⟨d, hd_⟩
  have hC6 := d.h
  rw [← hd_] at hC6
  clear hd_ k0 k1 k2 k3 k4 k5 kT
  go_wp2_with fail
  go_ret
  exact ⟨retStr HL.out.symm, nbTrans hB0 hC6.1.2.2.2.2.2.2⟩

theorem lineOf_c (t : St) (w : World) (hT : Tab w) (hN : StNum t) :
    Calls Tryd.prog 52 #[.agg #[.bool t.kn, .int .i64 t.l, .int .i64 t.h, .int .i64 t.si, .int .i64 t.la, .int .i64 t.od]] w fun e w' => e = .returned (.string (lineB t)) ∧ Below w.heap.size w w' := by
  obtain ⟨kn, tl, th, tsi, tla, tod⟩ := t
  cases kn
  · exact lineOf_f tl th tsi tla tod w hT hN
  · exact lineOf_t tl th tsi tla tod w hT hN

end Go.Proofs.YtmhppadblddjoacDoor
