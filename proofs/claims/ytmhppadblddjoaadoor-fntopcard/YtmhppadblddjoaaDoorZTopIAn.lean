import Derived.Lib.AppendIntMem
import Derived.Test.YtmhppadblddjoaaDoorZTopBu
import Derived.Test.YtmhppadblddjoaaDoorZTopRel
import Derived.Test.YtmhppadblddjoaaDoorZTopShelf
/- Chapter 4 of the program: a line of the answer. -/
namespace Go.Proofs.YtmhppadblddjoaaDoor
open Go.RowKit

/-- What the listed table holds. -/
def Tab (w : World) : Prop := Lib.TabIs Tryd.prog w "internal/strconv.uint64pow10" .u64 Lib.pow10Tab
theorem Tab.on {w w' : World} (h : Tab w) (hb : Below w.heap.size w w') : Tab w' := Lib.tabBelow_of_tabIs h w' hb

theorem ba_one (x : UInt8) (l : List UInt8) : (⟨#[x]⟩ : ByteArray) ++ ⟨l.toArray⟩ = ⟨(x :: l).toArray⟩ := by
  apply ByteArray.ext
  simp
theorem digs_dec (n : Nat) : ∀ l : List UInt8, 0 < n → digs n ⟨l.toArray⟩ = ⟨(Lib.decDigits n ++ l).toArray⟩ := by
  induction n using Nat.strongRecOn with
  | _ n ih =>
    intro l hn
    rw [digs_s (by omega), ba_one]
    by_cases h : n < 10
    · rw [show n / 10 = 0 by omega, digs_0, Lib.decDigits_one h, show n % 10 = n by omega]
      rfl
    · rw [ih (n / 10) (by omega) _ (by omega)]
      conv => rhs; rw [Lib.decDigits, dif_neg h]
      simp
theorem decB_itoa (n : Int) : (⟨(Lib.itoa n).toArray⟩ : ByteArray) = decB n := by
  unfold decB Lib.itoa
  by_cases h0 : n = 0
  · subst h0
    simp [Lib.decDigits]
  · rw [if_neg h0]
    by_cases hn : n < 0
    · rw [if_pos hn, if_pos hn]
      have e : (⟨#[]⟩ : ByteArray) = ⟨([] : List UInt8).toArray⟩ := rfl
      rw [e, digs_dec _ _ (by omega), ba_one, show n.natAbs = (-n).toNat by omega]
      simp
    · rw [if_neg hn, if_neg hn]
      have e : (⟨#[]⟩ : ByteArray) = ⟨([] : List UInt8).toArray⟩ := rfl
      rw [e, digs_dec _ _ (by omega)]
      simp

theorem belowGrow (w : World) (k : Nat) (os : Array Obj) : Below w.heap.size w (Sort.grow (w.drewN k) os) := by
  refine ⟨rfl, rfl, rfl, ?_, fun i hi => ?_⟩
  · simp [Sort.grow, World.drewN]
  · simp [Sort.grow, World.drewN, Array.getElem?_append, hi]

theorem itoa_c (n : Int) (w : World) (hT : Tab w) (h0 : -1000000000 ≤ n) (h1 : n ≤ 2000000000) :
    Calls Tryd.prog 84 #[.int .i64 n] w fun e w' => e = .returned (.string (decB n)) ∧ Below w.heap.size w w' := by
  refine (sh_strconv_Itoa n (by omega) (by omega) w hT).mono ?_
  rintro e w' ⟨rfl, k, os, rfl⟩
  exact ⟨retStr (decB_itoa n), belowGrow _ _ _⟩

end Go.Proofs.YtmhppadblddjoaaDoor

/- Chapter 4 of the program: a line of the answer. -/
namespace Go.Proofs.YtmhppadblddjoaaDoor
open Go.RowKit

def alC (wz : World) (pt : Nat) (kn : Bool) (tl th tsi tla tod : Int) : World → Prop := fun w' => anC wz pt kn tl th tsi tla tod w' ∧ Tab w'
theorem alC_on {wz : World} {pt : Nat} {kn : Bool} {tl th tsi tla tod : Int} {w1 w2 : World} (hh : alC wz pt kn tl th tsi tla tod w1) (hb : Below w1.heap.size w1 w2) : alC wz pt kn tl th tsi tla tod w2 := ⟨anC_on hh.1 hb, hh.2.on hb⟩

set_option maxRecDepth 100000 in
set_option maxHeartbeats 2000000 in
theorem lineOf_f (tl th tsi tla tod : Int) (w : World) (hT : Tab w) (hN : StNum ⟨false, tl, th, tsi, tla, tod⟩) :
    Calls Tryd.prog 42 #[.agg #[.bool false, .int .i64 tl, .int .i64 th, .int .i64 tsi, .int .i64 tla, .int .i64 tod]] w fun e w' => e = .returned (.string (lineB ⟨false, tl, th, tsi, tla, tod⟩)) ∧ Below w.heap.size w w' := by
  obtain ⟨n1, n2, n3, n4, n5⟩ := hN
  simp only at n1 n2 n3 n4 n5
  have x1 := decB_size (n := tl) (by omega) (by omega)
  have x2 := decB_size (n := th) (by omega) (by omega)
  have x3 := decB_size (n := tsi) (by omega) (by omega)
  have x4 := decB_size (n := tla) (by omega) (by omega)
  have x5 := decB_size (n := tod) (by omega) (by omega)
  obtain ⟨hd, hhd⟩ : ∃ x : ByteArray, x = ⟨#[108, 111, 115, 116]⟩ := ⟨_, rfl⟩
  have zhd : hd.size ≤ 4000000012 := by rw [hhd]; have y1 := z1; omega
  obtain ⟨s1, hs1⟩ : ∃ x : ByteArray, x = hd ++ ⟨#[32, 115, 105, 110, 99, 101, 32]⟩ := ⟨_, rfl⟩
  have zs1 : s1.size ≤ 4000000020 := by rw [hs1, ByteArray.size_append]; have y0 := z0; have y1 := z1; have y2 := z2; have y3 := z3; have y4 := z4; have y5 := z5; omega
  have as1 := addS (a := hd) (b := ⟨#[32, 115, 105, 110, 99, 101, 32]⟩) (by have y0 := z0; have y1 := z1; have y2 := z2; have y3 := z3; have y4 := z4; have y5 := z5; omega)
  rw [← hs1] at as1
  have Hs1 : Hid (s1 = hd ++ ⟨#[32, 115, 105, 110, 99, 101, 32]⟩) := hs1
  clear hs1
  obtain ⟨s2, hs2⟩ : ∃ x : ByteArray, x = s1 ++ decB tsi := ⟨_, rfl⟩
  have zs2 : s2.size ≤ 6000000030 := by rw [hs2, ByteArray.size_append]; have y0 := z0; have y1 := z1; have y2 := z2; have y3 := z3; have y4 := z4; have y5 := z5; omega
  have as2 := addS (a := s1) (b := decB tsi) (by have y0 := z0; have y1 := z1; have y2 := z2; have y3 := z3; have y4 := z4; have y5 := z5; omega)
  rw [← hs2] at as2
  have Hs2 : Hid (s2 = s1 ++ decB tsi) := hs2
  clear hs2
  obtain ⟨s3, hs3⟩ : ∃ x : ByteArray, x = s2 ++ ⟨#[32, 108, 97, 115, 116, 32]⟩ := ⟨_, rfl⟩
  have zs3 : s3.size ≤ 6000000040 := by rw [hs3, ByteArray.size_append]; have y0 := z0; have y1 := z1; have y2 := z2; have y3 := z3; have y4 := z4; have y5 := z5; omega
  have as3 := addS (a := s2) (b := ⟨#[32, 108, 97, 115, 116, 32]⟩) (by have y0 := z0; have y1 := z1; have y2 := z2; have y3 := z3; have y4 := z4; have y5 := z5; omega)
  rw [← hs3] at as3
  have Hs3 : Hid (s3 = s2 ++ ⟨#[32, 108, 97, 115, 116, 32]⟩) := hs3
  clear hs3
  obtain ⟨s4, hs4⟩ : ∃ x : ByteArray, x = s3 ++ decB tla := ⟨_, rfl⟩
  have zs4 : s4.size ≤ 8000000050 := by rw [hs4, ByteArray.size_append]; have y0 := z0; have y1 := z1; have y2 := z2; have y3 := z3; have y4 := z4; have y5 := z5; omega
  have as4 := addS (a := s3) (b := decB tla) (by have y0 := z0; have y1 := z1; have y2 := z2; have y3 := z3; have y4 := z4; have y5 := z5; omega)
  rw [← hs4] at as4
  have Hs4 : Hid (s4 = s3 ++ decB tla) := hs4
  clear hs4
  obtain ⟨s5, hs5⟩ : ∃ x : ByteArray, x = s4 ++ ⟨#[32, 111, 100, 100, 32]⟩ := ⟨_, rfl⟩
  have zs5 : s5.size ≤ 8000000060 := by rw [hs5, ByteArray.size_append]; have y0 := z0; have y1 := z1; have y2 := z2; have y3 := z3; have y4 := z4; have y5 := z5; omega
  have as5 := addS (a := s4) (b := ⟨#[32, 111, 100, 100, 32]⟩) (by have y0 := z0; have y1 := z1; have y2 := z2; have y3 := z3; have y4 := z4; have y5 := z5; omega)
  rw [← hs5] at as5
  have Hs5 : Hid (s5 = s4 ++ ⟨#[32, 111, 100, 100, 32]⟩) := hs5
  clear hs5
  obtain ⟨s6, hs6⟩ : ∃ x : ByteArray, x = s5 ++ decB tod := ⟨_, rfl⟩
  have zs6 : s6.size ≤ 10000000070 := by rw [hs6, ByteArray.size_append]; have y0 := z0; have y1 := z1; have y2 := z2; have y3 := z3; have y4 := z4; have y5 := z5; omega
  have as6 := addS (a := s5) (b := decB tod) (by have y0 := z0; have y1 := z1; have y2 := z2; have y3 := z3; have y4 := z4; have y5 := z5; omega)
  rw [← hs6] at as6
  have Hs6 : Hid (s6 = s5 ++ decB tod) := hs6
  clear hs6
  obtain ⟨s7, hs7⟩ : ∃ x : ByteArray, x = s6 ++ ⟨#[10]⟩ := ⟨_, rfl⟩
  have zs7 : s7.size ≤ 10000000080 := by rw [hs7, ByteArray.size_append]; have y0 := z0; have y1 := z1; have y2 := z2; have y3 := z3; have y4 := z4; have y5 := z5; omega
  have as7 := addS (a := s6) (b := ⟨#[10]⟩) (by have y0 := z0; have y1 := z1; have y2 := z2; have y3 := z3; have y4 := z4; have y5 := z5; omega)
  rw [← hs7] at as7
  have Hs7 : Hid (s7 = s6 ++ ⟨#[10]⟩) := hs7
  clear hs7
  subst hhd
  have HL : Hid (lineB ⟨false, tl, th, tsi, tla, tod⟩ = s7) := by
    unfold Hid lineB headB restB
    rw [Hs7.out, Hs6.out, Hs5.out, Hs4.out, Hs3.out, Hs2.out, Hs1.out]
    simp only [ByteArray.append_assoc, Bool.false_eq_true, if_false]
  have hC0 : alC (w.alloc (.cells #[.bool false, .int .i64 tl, .int .i64 th, .int .i64 tsi, .int .i64 tla, .int .i64 tod] 37)) w.heap.size false tl th tsi tla tod (w.alloc (.cells #[.bool false, .int .i64 tl, .int .i64 th, .int .i64 tsi, .int .i64 tla, .int .i64 tod] 37)) := ⟨by refine ⟨?_, ?_, ?_, ?_, ?_, ?_, Below.refl _ _⟩ <;> go_simp, hT.on (nbAlloc (Below.refl _ _) _)⟩
  have hB0 : Below w.heap.size w (w.alloc (.cells #[.bool false, .int .i64 tl, .int .i64 th, .int .i64 tsi, .int .i64 tla, .int .i64 tod] 37)) := nbAlloc (Below.refl _ _) _
  have c0 := hC0.1.1
  go_enter Tryd.func42, Tryd.ntmps42
  go_wp2_with fail
  generalize hwz : (w.alloc (.cells #[.bool false, .int .i64 tl, .int .i64 th, .int .i64 tsi, .int .i64 tla, .int .i64 tod] 37)) = wz at *
  clear hwz c0
  refine region_kept (alC wz w.heap.size false tl th tsi tla tod) (by kernel_rfl) (by kernel_rfl) (alC_on hC0 (Below.drew (Below.refl _ _))) ?_
  intro hN_
  have k0 : ∀ d : Kept (alC wz w.heap.size false tl th tsi tla tod), d.w.cell? ⟨w.heap.size, 0, none⟩ = some (.bool false) := fun d => d.h.1.1
  have k1 : ∀ d : Kept (alC wz w.heap.size false tl th tsi tla tod), d.w.cell? ⟨w.heap.size, 1, none⟩ = some (.int .i64 tl) := fun d => d.h.1.2.1
  have k2 : ∀ d : Kept (alC wz w.heap.size false tl th tsi tla tod), d.w.cell? ⟨w.heap.size, 2, none⟩ = some (.int .i64 th) := fun d => d.h.1.2.2.1
  have k3 : ∀ d : Kept (alC wz w.heap.size false tl th tsi tla tod), d.w.cell? ⟨w.heap.size, 3, none⟩ = some (.int .i64 tsi) := fun d => d.h.1.2.2.2.1
  have k4 : ∀ d : Kept (alC wz w.heap.size false tl th tsi tla tod), d.w.cell? ⟨w.heap.size, 4, none⟩ = some (.int .i64 tla) := fun d => d.h.1.2.2.2.2.1
  have k5 : ∀ d : Kept (alC wz w.heap.size false tl th tsi tla tod), d.w.cell? ⟨w.heap.size, 5, none⟩ = some (.int .i64 tod) := fun d => d.h.1.2.2.2.2.2.1
  have kT : ∀ d : Kept (alC wz w.heap.size false tl th tsi tla tod), Tab d.w := fun d => d.h.2
  repeat (go_big_quiet_step (first | (go_at_call 84; exact call_kept _ alC_on (itoa_c _ _ (kT _) (by omega) (by omega))) | exact rfl))
  refine wpQuiet_nil ?_
  rintro w6 ⟨d, hd_⟩
  have hC6 := d.h
  rw [← hd_] at hC6
  clear hd_ k0 k1 k2 k3 k4 k5 kT
  go_wp2_with fail
  go_ret
  exact ⟨retStr HL.out.symm, nbTrans hB0 hC6.1.2.2.2.2.2.2⟩

set_option maxRecDepth 100000 in
set_option maxHeartbeats 2000000 in
theorem lineOf_t (tl th tsi tla tod : Int) (w : World) (hT : Tab w) (hN : StNum ⟨true, tl, th, tsi, tla, tod⟩) :
    Calls Tryd.prog 42 #[.agg #[.bool true, .int .i64 tl, .int .i64 th, .int .i64 tsi, .int .i64 tla, .int .i64 tod]] w fun e w' => e = .returned (.string (lineB ⟨true, tl, th, tsi, tla, tod⟩)) ∧ Below w.heap.size w w' := by
  obtain ⟨n1, n2, n3, n4, n5⟩ := hN
  simp only at n1 n2 n3 n4 n5
  have x1 := decB_size (n := tl) (by omega) (by omega)
  have x2 := decB_size (n := th) (by omega) (by omega)
  have x3 := decB_size (n := tsi) (by omega) (by omega)
  have x4 := decB_size (n := tla) (by omega) (by omega)
  have x5 := decB_size (n := tod) (by omega) (by omega)
  obtain ⟨s0, hs0⟩ : ∃ x : ByteArray, x = decB tl ++ ⟨#[32]⟩ := ⟨_, rfl⟩
  have zs0 : s0.size ≤ 2000000010 := by rw [hs0, ByteArray.size_append]; have y0 := z0; have y1 := z1; have y2 := z2; have y3 := z3; have y4 := z4; have y5 := z5; omega
  have as0 := addS (a := decB tl) (b := ⟨#[32]⟩) (by have y0 := z0; have y1 := z1; have y2 := z2; have y3 := z3; have y4 := z4; have y5 := z5; omega)
  rw [← hs0] at as0
  have Hs0 : Hid (s0 = decB tl ++ ⟨#[32]⟩) := hs0
  clear hs0
  obtain ⟨hd, hhd⟩ : ∃ x : ByteArray, x = s0 ++ decB th := ⟨_, rfl⟩
  have zhd : hd.size ≤ 4000000012 := by rw [hhd, ByteArray.size_append]; have y0 := z0; have y1 := z1; have y2 := z2; have y3 := z3; have y4 := z4; have y5 := z5; omega
  have ahd := addS (a := s0) (b := decB th) (by have y0 := z0; have y1 := z1; have y2 := z2; have y3 := z3; have y4 := z4; have y5 := z5; omega)
  rw [← hhd] at ahd
  have Hhd : Hid (hd = s0 ++ decB th) := hhd
  clear hhd
  obtain ⟨s1, hs1⟩ : ∃ x : ByteArray, x = hd ++ ⟨#[32, 115, 105, 110, 99, 101, 32]⟩ := ⟨_, rfl⟩
  have zs1 : s1.size ≤ 4000000020 := by rw [hs1, ByteArray.size_append]; have y0 := z0; have y1 := z1; have y2 := z2; have y3 := z3; have y4 := z4; have y5 := z5; omega
  have as1 := addS (a := hd) (b := ⟨#[32, 115, 105, 110, 99, 101, 32]⟩) (by have y0 := z0; have y1 := z1; have y2 := z2; have y3 := z3; have y4 := z4; have y5 := z5; omega)
  rw [← hs1] at as1
  have Hs1 : Hid (s1 = hd ++ ⟨#[32, 115, 105, 110, 99, 101, 32]⟩) := hs1
  clear hs1
  obtain ⟨s2, hs2⟩ : ∃ x : ByteArray, x = s1 ++ decB tsi := ⟨_, rfl⟩
  have zs2 : s2.size ≤ 6000000030 := by rw [hs2, ByteArray.size_append]; have y0 := z0; have y1 := z1; have y2 := z2; have y3 := z3; have y4 := z4; have y5 := z5; omega
  have as2 := addS (a := s1) (b := decB tsi) (by have y0 := z0; have y1 := z1; have y2 := z2; have y3 := z3; have y4 := z4; have y5 := z5; omega)
  rw [← hs2] at as2
  have Hs2 : Hid (s2 = s1 ++ decB tsi) := hs2
  clear hs2
  obtain ⟨s3, hs3⟩ : ∃ x : ByteArray, x = s2 ++ ⟨#[32, 108, 97, 115, 116, 32]⟩ := ⟨_, rfl⟩
  have zs3 : s3.size ≤ 6000000040 := by rw [hs3, ByteArray.size_append]; have y0 := z0; have y1 := z1; have y2 := z2; have y3 := z3; have y4 := z4; have y5 := z5; omega
  have as3 := addS (a := s2) (b := ⟨#[32, 108, 97, 115, 116, 32]⟩) (by have y0 := z0; have y1 := z1; have y2 := z2; have y3 := z3; have y4 := z4; have y5 := z5; omega)
  rw [← hs3] at as3
  have Hs3 : Hid (s3 = s2 ++ ⟨#[32, 108, 97, 115, 116, 32]⟩) := hs3
  clear hs3
  obtain ⟨s4, hs4⟩ : ∃ x : ByteArray, x = s3 ++ decB tla := ⟨_, rfl⟩
  have zs4 : s4.size ≤ 8000000050 := by rw [hs4, ByteArray.size_append]; have y0 := z0; have y1 := z1; have y2 := z2; have y3 := z3; have y4 := z4; have y5 := z5; omega
  have as4 := addS (a := s3) (b := decB tla) (by have y0 := z0; have y1 := z1; have y2 := z2; have y3 := z3; have y4 := z4; have y5 := z5; omega)
  rw [← hs4] at as4
  have Hs4 : Hid (s4 = s3 ++ decB tla) := hs4
  clear hs4
  obtain ⟨s5, hs5⟩ : ∃ x : ByteArray, x = s4 ++ ⟨#[32, 111, 100, 100, 32]⟩ := ⟨_, rfl⟩
  have zs5 : s5.size ≤ 8000000060 := by rw [hs5, ByteArray.size_append]; have y0 := z0; have y1 := z1; have y2 := z2; have y3 := z3; have y4 := z4; have y5 := z5; omega
  have as5 := addS (a := s4) (b := ⟨#[32, 111, 100, 100, 32]⟩) (by have y0 := z0; have y1 := z1; have y2 := z2; have y3 := z3; have y4 := z4; have y5 := z5; omega)
  rw [← hs5] at as5
  have Hs5 : Hid (s5 = s4 ++ ⟨#[32, 111, 100, 100, 32]⟩) := hs5
  clear hs5
  obtain ⟨s6, hs6⟩ : ∃ x : ByteArray, x = s5 ++ decB tod := ⟨_, rfl⟩
  have zs6 : s6.size ≤ 10000000070 := by rw [hs6, ByteArray.size_append]; have y0 := z0; have y1 := z1; have y2 := z2; have y3 := z3; have y4 := z4; have y5 := z5; omega
  have as6 := addS (a := s5) (b := decB tod) (by have y0 := z0; have y1 := z1; have y2 := z2; have y3 := z3; have y4 := z4; have y5 := z5; omega)
  rw [← hs6] at as6
  have Hs6 : Hid (s6 = s5 ++ decB tod) := hs6
  clear hs6
  obtain ⟨s7, hs7⟩ : ∃ x : ByteArray, x = s6 ++ ⟨#[10]⟩ := ⟨_, rfl⟩
  have zs7 : s7.size ≤ 10000000080 := by rw [hs7, ByteArray.size_append]; have y0 := z0; have y1 := z1; have y2 := z2; have y3 := z3; have y4 := z4; have y5 := z5; omega
  have as7 := addS (a := s6) (b := ⟨#[10]⟩) (by have y0 := z0; have y1 := z1; have y2 := z2; have y3 := z3; have y4 := z4; have y5 := z5; omega)
  rw [← hs7] at as7
  have Hs7 : Hid (s7 = s6 ++ ⟨#[10]⟩) := hs7
  clear hs7
  have HL : Hid (lineB ⟨true, tl, th, tsi, tla, tod⟩ = s7) := by
    unfold Hid lineB headB restB
    rw [Hs7.out, Hs6.out, Hs5.out, Hs4.out, Hs3.out, Hs2.out, Hs1.out, Hhd.out, Hs0.out]
    simp only [ByteArray.append_assoc, if_true]
  have hC0 : alC (w.alloc (.cells #[.bool true, .int .i64 tl, .int .i64 th, .int .i64 tsi, .int .i64 tla, .int .i64 tod] 37)) w.heap.size true tl th tsi tla tod (w.alloc (.cells #[.bool true, .int .i64 tl, .int .i64 th, .int .i64 tsi, .int .i64 tla, .int .i64 tod] 37)) := ⟨by refine ⟨?_, ?_, ?_, ?_, ?_, ?_, Below.refl _ _⟩ <;> go_simp, hT.on (nbAlloc (Below.refl _ _) _)⟩
  have hB0 : Below w.heap.size w (w.alloc (.cells #[.bool true, .int .i64 tl, .int .i64 th, .int .i64 tsi, .int .i64 tla, .int .i64 tod] 37)) := nbAlloc (Below.refl _ _) _
  have c0 := hC0.1.1
  go_enter Tryd.func42, Tryd.ntmps42
  go_wp2_with fail
  generalize hwz : (w.alloc (.cells #[.bool true, .int .i64 tl, .int .i64 th, .int .i64 tsi, .int .i64 tla, .int .i64 tod] 37)) = wz at *
  clear hwz c0
  refine region_kept (alC wz w.heap.size true tl th tsi tla tod) (by kernel_rfl) (by kernel_rfl) (alC_on hC0 (Below.drew (Below.refl _ _))) ?_
  intro hN_
  have k0 : ∀ d : Kept (alC wz w.heap.size true tl th tsi tla tod), d.w.cell? ⟨w.heap.size, 0, none⟩ = some (.bool true) := fun d => d.h.1.1
  have k1 : ∀ d : Kept (alC wz w.heap.size true tl th tsi tla tod), d.w.cell? ⟨w.heap.size, 1, none⟩ = some (.int .i64 tl) := fun d => d.h.1.2.1
  have k2 : ∀ d : Kept (alC wz w.heap.size true tl th tsi tla tod), d.w.cell? ⟨w.heap.size, 2, none⟩ = some (.int .i64 th) := fun d => d.h.1.2.2.1
  have k3 : ∀ d : Kept (alC wz w.heap.size true tl th tsi tla tod), d.w.cell? ⟨w.heap.size, 3, none⟩ = some (.int .i64 tsi) := fun d => d.h.1.2.2.2.1
  have k4 : ∀ d : Kept (alC wz w.heap.size true tl th tsi tla tod), d.w.cell? ⟨w.heap.size, 4, none⟩ = some (.int .i64 tla) := fun d => d.h.1.2.2.2.2.1
  have k5 : ∀ d : Kept (alC wz w.heap.size true tl th tsi tla tod), d.w.cell? ⟨w.heap.size, 5, none⟩ = some (.int .i64 tod) := fun d => d.h.1.2.2.2.2.2.1
  have kT : ∀ d : Kept (alC wz w.heap.size true tl th tsi tla tod), Tab d.w := fun d => d.h.2
  repeat (go_big_quiet_step (first | (go_at_call 84; exact call_kept _ alC_on (itoa_c _ _ (kT _) (by omega) (by omega))) | exact rfl))
  refine wpQuiet_nil ?_
  rintro w5 ⟨d, hd_⟩
  have hC5 := d.h
  rw [← hd_] at hC5
  clear hd_ k0 k1 k2 k3 k4 k5 kT
  go_wp2_with fail
  refine region_kept (alC wz w.heap.size true tl th tsi tla tod) (by kernel_rfl) (by kernel_rfl) (alC_on hC5 (Below.drew (Below.refl _ _))) ?_
  intro hN_
  have k0 : ∀ d : Kept (alC wz w.heap.size true tl th tsi tla tod), d.w.cell? ⟨w.heap.size, 0, none⟩ = some (.bool true) := fun d => d.h.1.1
  have k1 : ∀ d : Kept (alC wz w.heap.size true tl th tsi tla tod), d.w.cell? ⟨w.heap.size, 1, none⟩ = some (.int .i64 tl) := fun d => d.h.1.2.1
  have k2 : ∀ d : Kept (alC wz w.heap.size true tl th tsi tla tod), d.w.cell? ⟨w.heap.size, 2, none⟩ = some (.int .i64 th) := fun d => d.h.1.2.2.1
  have k3 : ∀ d : Kept (alC wz w.heap.size true tl th tsi tla tod), d.w.cell? ⟨w.heap.size, 3, none⟩ = some (.int .i64 tsi) := fun d => d.h.1.2.2.2.1
  have k4 : ∀ d : Kept (alC wz w.heap.size true tl th tsi tla tod), d.w.cell? ⟨w.heap.size, 4, none⟩ = some (.int .i64 tla) := fun d => d.h.1.2.2.2.2.1
  have k5 : ∀ d : Kept (alC wz w.heap.size true tl th tsi tla tod), d.w.cell? ⟨w.heap.size, 5, none⟩ = some (.int .i64 tod) := fun d => d.h.1.2.2.2.2.2.1
  have kT : ∀ d : Kept (alC wz w.heap.size true tl th tsi tla tod), Tab d.w := fun d => d.h.2
  repeat (go_big_quiet_step (first | (go_at_call 84; exact call_kept _ alC_on (itoa_c _ _ (kT _) (by omega) (by omega))) | exact rfl))
  refine wpQuiet_nil ?_
  rintro w6 ⟨d, hd_⟩
  have hC6 := d.h
  rw [← hd_] at hC6
  clear hd_ k0 k1 k2 k3 k4 k5 kT
  go_wp2_with fail
  go_ret
  exact ⟨retStr HL.out.symm, nbTrans hB0 hC6.1.2.2.2.2.2.2⟩

theorem lineOf_c (t : St) (w : World) (hT : Tab w) (hN : StNum t) :
    Calls Tryd.prog 42 #[.agg #[.bool t.kn, .int .i64 t.l, .int .i64 t.h, .int .i64 t.si, .int .i64 t.la, .int .i64 t.od]] w fun e w' => e = .returned (.string (lineB t)) ∧ Below w.heap.size w w' := by
  obtain ⟨kn, tl, th, tsi, tla, tod⟩ := t
  cases kn
  · exact lineOf_f tl th tsi tla tod w hT hN
  · exact lineOf_t tl th tsi tla tod w hT hN

end Go.Proofs.YtmhppadblddjoaaDoor

/- Chapter 4 of the program: Answer. -/
namespace Go.Proofs.YtmhppadblddjoaaDoor
open Go.RowKit

theorem cellSame {w w' : World} {q o : Nat} {v : Value} (hq : w'.heap[q]? = w.heap[q]?) (h : w.cell? ⟨q, o, none⟩ = some v) : w'.cell? ⟨q, o, none⟩ = some v := by
  rw [← h]
  simp [World.cell?, hq]
theorem Row6.same {w w' : World} {q n : Nat} {t : Nat → St} (h : Row6 w q n t) (hq : w'.heap[q]? = w.heap[q]?) : Row6 w' q n t :=
  fun i hi => ⟨cellSame hq (h i hi).1, cellSame hq (h i hi).2.1, cellSame hq (h i hi).2.2.1, cellSame hq (h i hi).2.2.2.1, cellSame hq (h i hi).2.2.2.2.1, cellSame hq (h i hi).2.2.2.2.2⟩
theorem ba_back (A : ByteArray) : (⟨A.data.toList.toArray⟩ : ByteArray) = A := by cases A; simp

set_option maxRecDepth 100000 in
set_option maxHeartbeats 4000000 in
theorem implAnswer_m (s j m g o : Int) (mv : Value) (l h : Int) (xv : Value) (n : Nat) (T : Nat → St) (w : World) (hn : n ≤ 2000) (hT : Hid (∀ i, i < n → StNum (T i)))
    (HR : Hid (∀ w', Below w.heap.size w w' → Calls Tryd.prog 8 #[.agg #[.int .i64 s, .int .i64 j, .int .i64 m, .int .i64 g, .int .i64 o], mv, .agg #[.int .i64 l, .int .i64 h], xv] w' fun e w'' => ∃ v, e = .returned v ∧ StRow w'' w'.heap.size v n T ∧ Below w'.heap.size w' w'')) (hTab : Tab w) :
    Calls Tryd.prog 10 #[.agg #[.int .i64 s, .int .i64 j, .int .i64 m, .int .i64 g, .int .i64 o], mv, .agg #[.int .i64 l, .int .i64 h], xv] w fun e w' => e = .returned (.string (ansB T n)) ∧ Below w.heap.size w w' := by
  have hTb := hTab
  clear hTab
  have bu0 : (((w.alloc (.cells #[.int .i64 s, .int .i64 j, .int .i64 m, .int .i64 g, .int .i64 o] 24)).alloc (.cells #[.int .i64 l, .int .i64 h] 27)).alloc (.cells #[.pointer none, .slice none 0 0] 84)).heap[w.heap.size + 1 + 1]? = some (.cells #[.pointer none, .slice none 0 0] 84) := newBlkD _ _ (by simp)
  go_enter Tryd.func10, Tryd.ntmps10
  go_wp2_with fail
  refine (HR.out _ (nbAlloc (nbAlloc (nbAlloc (Below.refl _ _) _) _) _)).mono ?_
  rintro e w1 ⟨v, rfl, hv, hb1⟩
  have hB1 : Below w.heap.size w w1 := nbTrans (nbAlloc (nbAlloc (nbAlloc (Below.refl _ _) _) _) _) hb1
  have bu1 : w1.heap[w.heap.size + 1 + 1]? = some (.cells #[.pointer none, .slice none 0 0] 84) := (hb1.block _ (Array.getElem?_eq_some_iff.1 bu0).1).trans bu0
  obtain ⟨q, hq0, hqB, ad, cap, rfl, hq⟩ : ∃ q, (0 < n → w.heap.size + 1 + 1 < q) ∧ (0 < n → q < w1.heap.size) ∧ ∃ ad cap, v = .slice ad n cap ∧ (0 < n → ad = some ⟨q, 0, none⟩) ∧ Row6 w1 q n T := by
    obtain ⟨q, hbq, h1⟩ := hv.at
    have hlt := h1.lt
    obtain ⟨a, cap, h2, h3⟩ := h1
    refine ⟨q, fun h => by simp at hbq; omega, hlt, a, cap, h2, ?_⟩
    rcases h3 with rfl | ⟨ha, h4, -⟩
    · exact ⟨fun h => absurd h (by omega), fun i hi => absurd hi (by omega)⟩
    · exact ⟨fun _ => ha, h4⟩
  have hqa := hq.1
  have hq1 := hq.2
  obtain ⟨B, hB0, hB2⟩ : ∃ B, w1.heap.size ≤ B ∧ B ≤ w1.heap.size := ⟨_, Nat.le_refl _, Nat.le_refl _⟩
  replace hqB : 0 < n → q < B := fun h => by have := hqB h; omega
  have hwB : w.heap.size + 1 + 1 < B := by have := (Array.getElem?_eq_some_iff.1 bu1).1; omega
  clear hv hb1 hq HR bu0
  go_wp2_with fail
  go_loopw [18] (fun iv wr => ∃ k : Nat, ∃ A : ByteArray, ∃ pp vv : Value, iv = .int .i64 k ∧ k ≤ n ∧ Hid (A = ansB T k) ∧ A.size ≤ 10000000100 * k ∧ wr.heap[w.heap.size + 1 + 1]? = some (.cells #[pp, vv] 84) ∧ (pp = .pointer none ∨ pp = .pointer (some ⟨w.heap.size + 1 + 1, 0, none⟩)) ∧ wr.ownsRow B 5 1 vv A.size (Lib.strCells A) ∧ Row6 wr q n T ∧ Below w.heap.size w wr ∧ B ≤ wr.heap.size) (fun iv _ => n - (intOf iv).toNat)
  case atStart => exact ⟨0, ⟨#[]⟩, _, _, rfl, by omega, rfl, Nat.zero_le _, bu1, .inl rfl, World.ownsRow_nil _ _ _ _, hq1, hB1, hB2⟩
  case round =>
    clear hB1 hq1 hB0 hB2 bu1
    obtain ⟨k, A, pp, vv, rfl, hk, hA, hAz, hbu, hpp, hown, hq1, hB, hsz⟩ := hrel
    by_cases hlt : k < n
    · have i0 : (0 : Int) ≤ (k : Int) := by omega
      have i1 : (k : Int) < (n : Int) := by omega
      have ea := hqa (by omega)
      subst ea
      obtain ⟨⟨kn, tl, th, tsi, tla, tod⟩, eT⟩ : ∃ t, Hid (t = T k) := ⟨_, rfl⟩
      have hN := hT.out k hlt
      have hr := hq1 k hlt
      rw [← eT.out] at hN hr
      have d0 : wr.cell? ⟨q, k * 6, none⟩ = some (.bool kn) := hr.1
      have d1 : wr.cell? ⟨q, k * 6 + 1, none⟩ = some (.int .i64 tl) := hr.2.1
      have d2 : wr.cell? ⟨q, k * 6 + 2, none⟩ = some (.int .i64 th) := hr.2.2.1
      have d3 : wr.cell? ⟨q, k * 6 + 3, none⟩ = some (.int .i64 tsi) := hr.2.2.2.1
      have d4 : wr.cell? ⟨q, k * 6 + 4, none⟩ = some (.int .i64 tla) := hr.2.2.2.2.1
      have d5 : wr.cell? ⟨q, k * 6 + 5, none⟩ = some (.int .i64 tod) := hr.2.2.2.2.2
      have hTw := hTb.on hB
      have hLB := lineB_size hN
      have hALm : Hid (ansB T (k + 1) = A ++ lineB ⟨kn, tl, th, tsi, tla, tod⟩) := by unfold Hid; rw [ansB, ← hA.out, ← eT.out]
      go_wp2_with fail
      refine (lineOf_c ⟨kn, tl, th, tsi, tla, tod⟩ _ (hTw.on (nbAlloc (Below.refl _ _) _)) hN).mono ?_
      rintro e w3 ⟨rfl, hb3⟩
      have hb3' : Below wr.heap.size wr w3 := nbTrans (nbAlloc (Below.refl _ _) _) hb3
      have hbu3 : w3.heap[w.heap.size + 1 + 1]? = some (.cells #[pp, vv] 84) := (hb3'.block _ (Array.getElem?_eq_some_iff.1 hbu).1).trans hbu
      have hown3 := owns_on hown hb3'
      have hq3 := hq1.on hb3'
      have hB3 : Below w.heap.size w w3 := nbTrans hB hb3'
      have hsz3 : B ≤ w3.heap.size := by have := hb3'.size; omega
      clear hb3 hb3' d0 d1 d2 d3 d4 d5 hr hown hq1 hB hbu hTw
      have hlc : (Lib.strCells A).length = A.size := Lib.strCells_length A
      generalize lineB ⟨kn, tl, th, tsi, tla, tod⟩ = ln at *
      go_wp2_with fail
      refine (write_c (w.heap.size + 1 + 1) B pp vv (Lib.strCells A) ln w3 hbu3 hpp (by rw [hlc]; exact hown3) (by rw [hlc]; omega) hsz3).mono ?_
      rintro e w4 ⟨rfl, v4, hbu4, hown4, hF4⟩
      have hB4 : Below w.heap.size w w4 := hB3.trans ((hF4.below (by omega)).mono (by omega))
      have hq4 : Row6 w4 q n T := hq3.same (hF4.block q (hqB (by omega)) (by have := hq0 (by omega); omega))
      have hsz4 : B ≤ w4.heap.size := Nat.le_trans hsz3 hF4.size
      have hown5 : w4.ownsRow B 5 1 v4 (A ++ ln).size (Lib.strCells (A ++ ln)) := by
        rw [strCells_append, ByteArray.size_append]
        rw [List.length_append, Lib.strCells_length, Lib.strCells_length] at hown4
        exact hown4
      clear hown4 hF4 hbu3 hown3 hq3 hB3 hsz3 hlc
      go_wp2_with fail
      go_roundw
      case rel => exact ⟨k + 1, A ++ ln, _, v4, by go_num, by omega, hALm.out.symm, by rw [ByteArray.size_append]; omega, hbu4, .inr rfl, hown5, hq4, hB4, hsz4⟩
      case measure => simp [intOf]; omega
    · have hkn : k = n := by omega
      subst hkn
      have hne := Lib.ownBlock_ne hown hbu (by decide)
      have hIs : Lib.IsBuilder 84 5 (w.heap.size + 1 + 1) (w.heap.size + 1 + 1) (Lib.byteCells A.data.toList) wr := by
        have hA2 : Lib.BuilderAt 84 5 (w.heap.size + 1 + 1) (w.heap.size + 1 + 1) pp (Lib.byteCells A.data.toList) wr := ⟨Nat.le_refl _, vv, hbu, by
          have e1 : (Lib.byteCells A.data.toList).length = A.size := by rw [Lib.byteCells_length, Array.length_toList]; rfl
          rw [e1]
          exact owns_base hown (by omega), hne⟩
        rcases hpp with rfl | rfl
        · exact .inl hA2
        · exact .inr hA2
      go_wp2_with fail
      refine (sh_Builder_String_any _ _ _ _ hIs (by omega)).mono ?_
      rintro e w5 ⟨rfl, hb5⟩
      go_wp2_with fail
      go_ret
      exact ⟨retStr (by rw [ba_back, hA.out]), hB.trans (hb5.mono (by omega))⟩

end Go.Proofs.YtmhppadblddjoaaDoor

