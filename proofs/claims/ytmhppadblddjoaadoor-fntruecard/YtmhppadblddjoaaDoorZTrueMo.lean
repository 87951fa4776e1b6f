import Derived.RangeFuncNested
import Derived.RangeFuncBound
import Derived.RangeFuncCalls
import Derived.RangeFuncLeaves
import Derived.Shelf.Abstract
import Derived.Shelf.RegionOpen
import Derived.OwnWalkIn
import Derived.TacticsInMore
import Derived.LoopNIn
import Derived.LoopIn
import Derived.Test.YtmhppadblddjoaaDoorZTrueFe
import Derived.Test.YtmhppadblddjoaaDoorZTrueV4
/- Chapter 4 of the program: the moments, an iterator over the ticks. -/
namespace Go.Proofs.YtmhppadblddjoaaDoor
open Go.RowKit Go.Shelf
attribute [local go_sem] Oper.semAt_some

theorem abid {β : Type} {B : Nat} {J : β → World → Prop} (hJ : AbidesFrom B J) {s : β} {A C : World} (h : J s A) (hb : Below A.heap.size A C) : J s C :=
  hJ s A C none h ⟨hb.os, hb.tape, hb.output, hb.size, fun i hi _ => hb.block i hi⟩ (fun r e => by cases e)

theorem wideD {d : Nat} : Fence.wide.depth.isSome = true → 1 ≤ d := fun h => by cases h

/-- The first k of n. -/
def up (n k : Nat) : List (Fin n) := (List.finRange n).take k
theorem up_succ {n k : Nat} (h : k < n) : up n (k + 1) = up n k ++ [⟨k, h⟩] := by
  unfold up
  rw [List.take_add_one, List.getElem?_eq_getElem (by simpa using h)]
  simp
theorem up_len {n k : Nat} (h : k ≤ n) : (up n k).length = k := by simp [up, h]

/-- What comes at a tick: the moment and the error. -/
def momI (tf tc : Nat → Int) (i : Nat) : Int := if numB (tf i) (tc i) then i else 0
def momF (x0 : Int) (tf tc : Nat → Int) (i : Nat) : Int := if numB (tf i) (tc i) then pos x0 tf (i + 1) else 0
def fdT (s j x0 : Int) (tf tc : Nat → Int) (i : Nat) : Int := if numB (tf i) (tc i) then fdOf s j (tf i) (tc i) (pos x0 tf (i + 1)) else 1
def erT (s j x0 : Int) (tf tc : Nat → Int) (i : Nat) : Value := errV i (fdT s j x0 tf tc i)
def encT (s j x0 : Int) (tf tc : Nat → Int) (i : Nat) : Array Value := #[.agg #[.int .i64 (momI tf tc i), .int .i64 (momF x0 tf tc i)], erT s j x0 tf tc i]

theorem moments_c (s j m g o x0 : Int) (ad : Option Addr) (n c : Nat) (w : World) :
    Calls Tryd.prog 51 #[.agg #[.int .i64 s, .int .i64 j, .int .i64 m, .int .i64 g, .int .i64 o], .int .i64 x0, .slice ad n c] w fun e w' => e = .returned (.func (.func 85) #[] #[.pointer (some ⟨w.heap.size + 1, 0, none⟩), .pointer (some ⟨w.heap.size + 1 + 1, 0, none⟩), .pointer (some ⟨w.heap.size, 0, none⟩)]) ∧ w' = ((w.alloc (.cells #[.int .i64 s, .int .i64 j, .int .i64 m, .int .i64 g, .int .i64 o] 24)).alloc (.cells #[.int .i64 x0] 3)).alloc (.cells #[.slice ad n c] 39) := by
  have hmf : ∀ (fn : Fn) (first cap : Array Value) (w : World), (Instr.makeFunc fn first cap).run Tryd.prog w = .ok (.func fn first cap) w := fun _ _ _ _ => rfl
  go_enter Tryd.func51, Tryd.ntmps51
  go_wp2
  go_ret
  exact ⟨rfl, rfl⟩

/-- What a round that goes on keeps. -/
def KpR (n₀ rb : Nat) (W W' : World) : Prop := Below n₀ W W' ∧ W'.heap[rb]? = W.heap[rb]?

set_option maxRecDepth 100000 in
set_option maxHeartbeats 4000000 in
theorem momentsC_in (d : Nat) (l n₀ xb tb rb bt ot n c : Nat) (ad : Option Addr) (s j m g o x0 : Int) (tf tc : Nat → Int) (hr : rOk s j m g o = true) (hn : n ≤ 2000) (hx0 : 0 ≤ x0) (hx1 : x0 ≤ 100000000) (J Jx : List (Fin n) → World → Prop) (W : World) (hJ : AbidesFrom W.heap.size J) (hrb : rb < W.heap.size) (hn₀ : n₀ ≤ W.heap.size)
    (hY : ∀ pre (x : Fin n) W1, J pre W1 → pre.length < n → YieldAt Fence.wide (d - 1) Tryd.prog l (encT s j x0 tf tc x.1) W1 fun e W' =>
      (e = .returned (.bool true) ∧ J (pre ++ [x]) W' ∧ KpR n₀ rb W1 W') ∨ (e = .returned (.bool false) ∧ Jx (pre ++ [x]) W'))
    (hxb : W.cell? ⟨xb, 0, none⟩ = some (.int .i64 x0)) (htb : W.cell? ⟨tb, 0, none⟩ = some (.slice ad n c)) (hRb : W.heap[rb]? = some (.cells #[.int .i64 s, .int .i64 j, .int .i64 m, .int .i64 g, .int .i64 o] 24))
    (hT : At2 W ad n tf tc bt ot) (hbt : 0 < n → bt < n₀) (h0 : J [] W) :
    CallsIn Fence.wide d Tryd.prog 85 #[.func (.yield l) #[] #[], .pointer (some ⟨xb, 0, none⟩), .pointer (some ⟨tb, 0, none⟩), .pointer (some ⟨rb, 0, none⟩)] W fun e W' => (∃ v, e = .returned v) ∧
      ((∃ ys, (∃ k, k ≤ n ∧ ys = up n k ∧ (k = n ∨ ∃ i ∈ ys, numB (tf i.1) (tc i.1) = false)) ∧ J ys W') ∨ (∃ pre, (∃ k, k ≤ n ∧ pre = up n k) ∧ Jx pre W')) := by
  refine callsIn_of_wp Tryd.func85 rfl trivial ?_ rfl
  simp only [Tryd.ntmps85, List.size_toArray, List.length_cons, List.length_nil, Nat.reduceAdd, Nat.reduceSub, Array.replicate_succ, Array.replicate_zero, List.push_toArray, List.append_toArray, List.nil_append, List.cons_append]
  gi_wp2
  gi_loopw [5, 11] (fun fv iv wr => ∃ k : Nat, ∃ fr : Int, k ≤ n ∧ iv = .int .i64 k ∧ fv = .int .i64 fr ∧ Hid (fr = pos x0 tf k) ∧ 0 ≤ fr ∧ fr ≤ x0 + 100000 * k ∧ J (up n k) wr ∧ Below n₀ W wr ∧ W.heap.size ≤ wr.heap.size ∧ wr.heap[rb]? = some (.cells #[.int .i64 s, .int .i64 j, .int .i64 m, .int .i64 g, .int .i64 o] 24))
    (fun _ iv _ => n - (intOf iv).toNat)
  case atStart => exact ⟨0, x0, Nat.zero_le _, rfl, rfl, rfl, hx0, by omega, h0, Below.refl _ _, Nat.le_refl _, hRb⟩
  case round =>
    obtain ⟨k, fr, hk, rfl, rfl, hfr, f0, f1, hJs, hnx, hsz, hrk⟩ := hrel
    by_cases hlt : k < n
    · have i0 : (0 : Int) ≤ (k : Int) := by omega
      have i1 : (k : Int) < (n : Int) := by omega
      have et := hT.1 (by omega)
      subst et
      have d0 := (hnx.cell (p := ⟨bt, _, none⟩) (hbt (by omega))).trans (hT.2 k hlt).1
      have d1 := (hnx.cell (p := ⟨bt, _, none⟩) (hbt (by omega))).trans (hT.2 k hlt).2
      have hJ2 := abid hJ hJs (nbAlloc (Below.refl wr.heap.size wr) (.cells #[.int .i64 (tf k), .int .i64 (tc k)] 50))
      cases hnb : numB (tf k) (tc k)
      · gi_wp2_with fail
        refine ⟨trivial, wideD, (callsIn_wide.2 (inRange_c _ _ _)).mono ?_⟩
        rintro e w3 ⟨rfl, hb3⟩
        simp only [hnb]
        have hJ3 := abid hJ hJ2 hb3
        obtain ⟨fn, tmps, assign, body, hy, hR⟩ := hY _ ⟨k, hlt⟩ w3 hJ3 (by rw [up_len hk]; exact hlt)
        have he : encT s j x0 tf tc k = #[.agg #[.int .i64 0, .int .i64 0], errV k 1] := by simp [encT, momI, momF, erT, fdT, hnb]
        dsimp only at hy
        rw [he] at hy
        gi_wp2_with fail
        refine ⟨trivial, wideD, (callsIn_wide.2 (tickErrorOf_c _ _ _)).mono ?_⟩
        rintro e w4 ⟨rfl, rfl⟩
        gi_wp2
        refine ⟨wideD, hR.mono ?_⟩
        rintro e W3 (⟨rfl, hJ3, hk3⟩ | ⟨rfl, hJx3⟩)
        · gi_wp2
          refine bodyPost_ret (results_none rfl _ _ _) rfl ?_
          exact ⟨⟨_, rfl⟩, .inl ⟨_, ⟨k + 1, hlt, (up_succ hlt).symm, .inr ⟨⟨k, hlt⟩, by simp, hnb⟩⟩, hJ3⟩⟩
        · gi_wp2
          refine bodyPost_ret (results_none rfl _ _ _) rfl ?_
          exact ⟨⟨_, rfl⟩, .inr ⟨_, ⟨k + 1, hlt, (up_succ hlt).symm⟩, hJx3⟩⟩
      · have hnb' := hnb
        simp only [numB, inB, Bool.and_eq_true, decide_eq_true_eq] at hnb'
        have wr1 : IntKind.i64.wrap (fr + tf k) = fr + tf k := wrapS (by omega) (by omega)
        gi_wp2_with fail
        refine ⟨trivial, wideD, (callsIn_wide.2 (inRange_c _ _ _)).mono ?_⟩
        rintro e w3 ⟨rfl, hb3⟩
        simp only [hnb]
        have hJ3 := abid hJ hJ2 hb3
        have e0 := cellOn hb3 (show (wr.alloc (.cells #[.int .i64 (tf k), .int .i64 (tc k)] 50)).cell? ⟨wr.heap.size, 0, none⟩ = some (.int .i64 (tf k)) by go_simp)
        have e1 := cellOn hb3 (show (wr.alloc (.cells #[.int .i64 (tf k), .int .i64 (tc k)] 50)).cell? ⟨wr.heap.size, 1, none⟩ = some (.int .i64 (tc k)) by go_simp)
        have hB3 : Below wr.heap.size wr w3 := nbTrans (nbAlloc (Below.refl _ _) _) hb3
        have hrk3 : w3.heap[rb]? = _ := (hB3.block rb (by omega)).trans hrk
        have c0 : w3.cell? ⟨rb, 0, none⟩ = some (.int .i64 s) := by simp [World.cell?, hrk3]
        have c1 : w3.cell? ⟨rb, 1, none⟩ = some (.int .i64 j) := by simp [World.cell?, hrk3]
        have c2 : w3.cell? ⟨rb, 2, none⟩ = some (.int .i64 m) := by simp [World.cell?, hrk3]
        have c3 : w3.cell? ⟨rb, 3, none⟩ = some (.int .i64 g) := by simp [World.cell?, hrk3]
        have c4 : w3.cell? ⟨rb, 4, none⟩ = some (.int .i64 o) := by simp [World.cell?, hrk3]
        gi_wp2_with fail
        refine ⟨trivial, wideD, (callsIn_wide.2 (faultsOf_c _ _ _ _ _ _ _ _ _ hr hnb)).mono ?_⟩
        rintro e w5 ⟨rfl, hb5⟩
        have hJ5 := abid hJ hJ3 hb5
        obtain ⟨fn, tmps, assign, body, hy, hR⟩ := hY _ ⟨k, hlt⟩ w5 hJ5 (by rw [up_len hk]; exact hlt)
        have hfr2 : pos x0 tf (k + 1) = fr + tf k := by rw [pos, hfr.out]
        have he : encT s j x0 tf tc k = #[.agg #[.int .i64 k, .int .i64 (fr + tf k)], errV k (fdOf s j (tf k) (tc k) (fr + tf k))] := by simp only [encT, momI, momF, erT, fdT, hnb, hfr2, if_true]
        have HF : Hid (fr + tf k = pos x0 tf (k + 1)) := hfr2.symm
        clear hfr2
        dsimp only at hy
        rw [he] at hy
        have hB5 : Below wr.heap.size wr w5 := nbTrans hB3 hb5
        have hrk5 : w5.heap[rb]? = _ := (hB5.block rb (by omega)).trans hrk
        clear e0 e1 c0 c1 c2 c3 c4 hb3 hb5
        gi_wp2_with fail
        refine ⟨trivial, wideD, (callsIn_wide.2 (tickErrorOf_c _ _ _)).mono ?_⟩
        rintro e w4 ⟨rfl, rfl⟩
        gi_wp2
        refine ⟨wideD, hR.mono ?_⟩
        rintro e W3 (⟨rfl, hJ3, hk3⟩ | ⟨rfl, hJx3⟩)
        · gi_wp2
          go_roundw
          case rel => exact ⟨k + 1, _, hlt, by go_num, rfl, HF, by omega, by omega, by rw [up_succ hlt]; exact hJ3, (hnx.trans (hB5.mono (by omega))).trans hk3.1, by have := hB5.size; have := hk3.1.size; omega, hk3.2.trans hrk5⟩
          case measure => simp [intOf]; omega
        · gi_wp2
          refine bodyPost_ret (results_none rfl _ _ _) rfl ?_
          exact ⟨⟨_, rfl⟩, .inr ⟨_, ⟨k + 1, hlt, (up_succ hlt).symm⟩, hJx3⟩⟩
    · obtain rfl : k = n := by omega
      gi_wp2
      go_end0
      exact ⟨⟨_, rfl⟩, .inl ⟨_, ⟨k, Nat.le_refl _, rfl, .inl rfl⟩, hJs⟩⟩

end Go.Proofs.YtmhppadblddjoaaDoor

