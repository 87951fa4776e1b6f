/- The law of Felt: its walk, with both functions as premises. -/
import Derived.Test.YtmhppadblddjoacDoorFl
namespace Go.Proofs.YtmhppadblddjoacDoor
open Go.RowKit

def fuC (w : World) (s j m g o : Int) : World → Prop := fun w' => w'.cell? ⟨w.heap.size, 0, none⟩ = some (.int .i64 s) ∧ w'.cell? ⟨w.heap.size, 1, none⟩ = some (.int .i64 j) ∧ w'.cell? ⟨w.heap.size, 2, none⟩ = some (.int .i64 m) ∧ w'.cell? ⟨w.heap.size, 3, none⟩ = some (.int .i64 g) ∧ w'.cell? ⟨w.heap.size, 4, none⟩ = some (.int .i64 o) ∧ Below w.heap.size w w'
theorem fuC_on {w : World} {s j m g o : Int} {w1 w2 : World} (hh : fuC w s j m g o w1) (hb : Below w1.heap.size w1 w2) : fuC w s j m g o w2 :=
  ⟨cellOn hb hh.1, cellOn hb hh.2.1, cellOn hb hh.2.2.1, cellOn hb hh.2.2.2.1, cellOn hb hh.2.2.2.2.1, nbTrans hh.2.2.2.2.2 hb⟩

def fwC (w : World) (s j m g o : Int) (q0 : Nat) (v0 : Value) (N : Nat) (fe ge : Nat → Int) : World → Prop := fun w' => w'.cell? ⟨w.heap.size, 0, none⟩ = some (.int .i64 s) ∧ w'.cell? ⟨w.heap.size, 1, none⟩ = some (.int .i64 j) ∧ w'.cell? ⟨w.heap.size, 2, none⟩ = some (.int .i64 m) ∧ w'.cell? ⟨w.heap.size, 3, none⟩ = some (.int .i64 g) ∧ w'.cell? ⟨w.heap.size, 4, none⟩ = some (.int .i64 o) ∧ EvAt w' q0 v0 N fe ge ∧ Below w.heap.size w w'
theorem fwC_on {w : World} {s j m g o : Int} {q0 : Nat} {v0 : Value} {N : Nat} {fe ge : Nat → Int} {w1 w2 : World} (hh : fwC w s j m g o q0 v0 N fe ge w1) (hb : Below w1.heap.size w1 w2) : fwC w s j m g o q0 v0 N fe ge w2 :=
  ⟨cellOn hb hh.1, cellOn hb hh.2.1, cellOn hb hh.2.2.1, cellOn hb hh.2.2.2.1, cellOn hb hh.2.2.2.2.1, hh.2.2.2.2.2.1.on hb, nbTrans hh.2.2.2.2.2.2 hb⟩

def fvC (w : World) (s j m g o : Int) (q1 len : Nat) (f a : Nat → Int) (q3 n : Nat) (tf tc : Nat → Int) (q4 rn : Nat) (rd : Nat → Int) (q0 : Nat) (v0 : Value) (N : Nat) (fe ge : Nat → Int) : World → Prop := fun w' => w'.cell? ⟨w.heap.size, 0, none⟩ = some (.int .i64 s) ∧ w'.cell? ⟨w.heap.size, 1, none⟩ = some (.int .i64 j) ∧ w'.cell? ⟨w.heap.size, 2, none⟩ = some (.int .i64 m) ∧ w'.cell? ⟨w.heap.size, 3, none⟩ = some (.int .i64 g) ∧ w'.cell? ⟨w.heap.size, 4, none⟩ = some (.int .i64 o) ∧ Own2 w' q1 len f a ∧ Own2 w' q3 n tf tc ∧ Own1 w' q4 rn rd ∧ EvAt w' q0 v0 N fe ge ∧ Below w.heap.size w w'
theorem fvC_on {w : World} {s j m g o : Int} {q1 len : Nat} {f a : Nat → Int} {q3 n : Nat} {tf tc : Nat → Int} {q4 rn : Nat} {rd : Nat → Int} {q0 : Nat} {v0 : Value} {N : Nat} {fe ge : Nat → Int} {w1 w2 : World} (hh : fvC w s j m g o q1 len f a q3 n tf tc q4 rn rd q0 v0 N fe ge w1) (hb : Below w1.heap.size w1 w2) : fvC w s j m g o q1 len f a q3 n tf tc q4 rn rd q0 v0 N fe ge w2 :=
  ⟨cellOn hb hh.1, cellOn hb hh.2.1, cellOn hb hh.2.2.1, cellOn hb hh.2.2.2.1, cellOn hb hh.2.2.2.2.1, hh.2.2.2.2.2.1.on hb, hh.2.2.2.2.2.2.1.on hb, hh.2.2.2.2.2.2.2.1.on hb, hh.2.2.2.2.2.2.2.2.1.on hb, nbTrans hh.2.2.2.2.2.2.2.2.2 hb⟩

def fxC (w : World) (s j m g o : Int) (q1 len : Nat) (f a : Nat → Int) (q3 n : Nat) (tf tc : Nat → Int) (q4 rn : Nat) (rd : Nat → Int) (q0 : Nat) (v0 : Value) (N : Nat) (fe ge : Nat → Int) (b : Nat) (v1 : Value) : World → Prop := fun w' => w'.cell? ⟨w.heap.size, 0, none⟩ = some (.int .i64 s) ∧ w'.cell? ⟨w.heap.size, 1, none⟩ = some (.int .i64 j) ∧ w'.cell? ⟨w.heap.size, 2, none⟩ = some (.int .i64 m) ∧ w'.cell? ⟨w.heap.size, 3, none⟩ = some (.int .i64 g) ∧ w'.cell? ⟨w.heap.size, 4, none⟩ = some (.int .i64 o) ∧ Own2 w' q1 len f a ∧ Own2 w' q3 n tf tc ∧ Own1 w' q4 rn rd ∧ EvAt w' q0 v0 N fe ge ∧ EvAt w' b v1 N fe ge ∧ Below w.heap.size w w'
theorem fxC_on {w : World} {s j m g o : Int} {q1 len : Nat} {f a : Nat → Int} {q3 n : Nat} {tf tc : Nat → Int} {q4 rn : Nat} {rd : Nat → Int} {q0 : Nat} {v0 : Value} {N : Nat} {fe ge : Nat → Int} {b : Nat} {v1 : Value} {w1 w2 : World} (hh : fxC w s j m g o q1 len f a q3 n tf tc q4 rn rd q0 v0 N fe ge b v1 w1) (hb : Below w1.heap.size w1 w2) : fxC w s j m g o q1 len f a q3 n tf tc q4 rn rd q0 v0 N fe ge b v1 w2 :=
  ⟨cellOn hb hh.1, cellOn hb hh.2.1, cellOn hb hh.2.2.1, cellOn hb hh.2.2.2.1, cellOn hb hh.2.2.2.2.1, hh.2.2.2.2.2.1.on hb, hh.2.2.2.2.2.2.1.on hb, hh.2.2.2.2.2.2.2.1.on hb, hh.2.2.2.2.2.2.2.2.1.on hb, hh.2.2.2.2.2.2.2.2.2.1.on hb, nbTrans hh.2.2.2.2.2.2.2.2.2.2 hb⟩

def fyC (w : World) (s j m g o : Int) (q3 n : Nat) (tf tc : Nat → Int) (q4 rn : Nat) (rd : Nat → Int) (q0 : Nat) (v0 : Value) (N : Nat) (fe ge : Nat → Int) (b : Nat) (v1 : Value) : World → Prop := fun w' => w'.cell? ⟨w.heap.size, 0, none⟩ = some (.int .i64 s) ∧ w'.cell? ⟨w.heap.size, 1, none⟩ = some (.int .i64 j) ∧ w'.cell? ⟨w.heap.size, 2, none⟩ = some (.int .i64 m) ∧ w'.cell? ⟨w.heap.size, 3, none⟩ = some (.int .i64 g) ∧ w'.cell? ⟨w.heap.size, 4, none⟩ = some (.int .i64 o) ∧ Own2 w' q3 n tf tc ∧ Own1 w' q4 rn rd ∧ EvAt w' q0 v0 N fe ge ∧ EvAt w' b v1 N fe ge ∧ Below w.heap.size w w'
theorem fyC_on {w : World} {s j m g o : Int} {q3 n : Nat} {tf tc : Nat → Int} {q4 rn : Nat} {rd : Nat → Int} {q0 : Nat} {v0 : Value} {N : Nat} {fe ge : Nat → Int} {b : Nat} {v1 : Value} {w1 w2 : World} (hh : fyC w s j m g o q3 n tf tc q4 rn rd q0 v0 N fe ge b v1 w1) (hb : Below w1.heap.size w1 w2) : fyC w s j m g o q3 n tf tc q4 rn rd q0 v0 N fe ge b v1 w2 :=
  ⟨cellOn hb hh.1, cellOn hb hh.2.1, cellOn hb hh.2.2.1, cellOn hb hh.2.2.2.1, cellOn hb hh.2.2.2.2.1, hh.2.2.2.2.2.1.on hb, hh.2.2.2.2.2.2.1.on hb, hh.2.2.2.2.2.2.2.1.on hb, hh.2.2.2.2.2.2.2.2.1.on hb, nbTrans hh.2.2.2.2.2.2.2.2.2 hb⟩

def fyD (w : World) (s j m g o : Int) (q4 rn : Nat) (rd : Nat → Int) (q0 : Nat) (v0 : Value) (N : Nat) (fe ge : Nat → Int) (b : Nat) (v1 : Value) : World → Prop := fun w' => w'.cell? ⟨w.heap.size, 0, none⟩ = some (.int .i64 s) ∧ w'.cell? ⟨w.heap.size, 1, none⟩ = some (.int .i64 j) ∧ w'.cell? ⟨w.heap.size, 2, none⟩ = some (.int .i64 m) ∧ w'.cell? ⟨w.heap.size, 3, none⟩ = some (.int .i64 g) ∧ w'.cell? ⟨w.heap.size, 4, none⟩ = some (.int .i64 o) ∧ Own1 w' q4 rn rd ∧ EvAt w' q0 v0 N fe ge ∧ EvAt w' b v1 N fe ge ∧ Below w.heap.size w w'
theorem fyD_on {w : World} {s j m g o : Int} {q4 rn : Nat} {rd : Nat → Int} {q0 : Nat} {v0 : Value} {N : Nat} {fe ge : Nat → Int} {b : Nat} {v1 : Value} {w1 w2 : World} (hh : fyD w s j m g o q4 rn rd q0 v0 N fe ge b v1 w1) (hb : Below w1.heap.size w1 w2) : fyD w s j m g o q4 rn rd q0 v0 N fe ge b v1 w2 :=
  ⟨cellOn hb hh.1, cellOn hb hh.2.1, cellOn hb hh.2.2.1, cellOn hb hh.2.2.2.1, cellOn hb hh.2.2.2.2.1, hh.2.2.2.2.2.1.on hb, hh.2.2.2.2.2.2.1.on hb, hh.2.2.2.2.2.2.2.1.on hb, nbTrans hh.2.2.2.2.2.2.2.2 hb⟩

def fzC (w : World) (s j m g o : Int) (q0 : Nat) (v0 : Value) (N : Nat) (fe ge : Nat → Int) (b : Nat) (v1 : Value) : World → Prop := fun w' => w'.cell? ⟨w.heap.size, 0, none⟩ = some (.int .i64 s) ∧ w'.cell? ⟨w.heap.size, 1, none⟩ = some (.int .i64 j) ∧ w'.cell? ⟨w.heap.size, 2, none⟩ = some (.int .i64 m) ∧ w'.cell? ⟨w.heap.size, 3, none⟩ = some (.int .i64 g) ∧ w'.cell? ⟨w.heap.size, 4, none⟩ = some (.int .i64 o) ∧ EvAt w' q0 v0 N fe ge ∧ EvAt w' b v1 N fe ge ∧ Below w.heap.size w w'
theorem fzC_on {w : World} {s j m g o : Int} {q0 : Nat} {v0 : Value} {N : Nat} {fe ge : Nat → Int} {b : Nat} {v1 : Value} {w1 w2 : World} (hh : fzC w s j m g o q0 v0 N fe ge b v1 w1) (hb : Below w1.heap.size w1 w2) : fzC w s j m g o q0 v0 N fe ge b v1 w2 :=
  ⟨cellOn hb hh.1, cellOn hb hh.2.1, cellOn hb hh.2.2.1, cellOn hb hh.2.2.2.1, cellOn hb hh.2.2.2.2.1, hh.2.2.2.2.2.1.on hb, hh.2.2.2.2.2.2.1.on hb, nbTrans hh.2.2.2.2.2.2.2 hb⟩

def ftC (w : World) (s j m g o : Int) (q0 : Nat) (v0 : Value) (N : Nat) (fe ge : Nat → Int) (b : Nat) (v1 : Value) : World → Prop := fun w' => w'.cell? ⟨w.heap.size, 0, none⟩ = some (.int .i64 s) ∧ w'.cell? ⟨w.heap.size, 1, none⟩ = some (.int .i64 j) ∧ w'.cell? ⟨w.heap.size, 2, none⟩ = some (.int .i64 m) ∧ w'.cell? ⟨w.heap.size, 3, none⟩ = some (.int .i64 g) ∧ w'.cell? ⟨w.heap.size, 4, none⟩ = some (.int .i64 o) ∧ EvAt w' q0 v0 N fe ge ∧ EvHeld w' b v1 N (fun i => 1 + 2 * i) (fun i => 1 + 2 * i + 1) ∧ Below w.heap.size w w'
theorem ftC_on {w : World} {s j m g o : Int} {q0 : Nat} {v0 : Value} {N : Nat} {fe ge : Nat → Int} {b : Nat} {v1 : Value} {w1 w2 : World} (hh : ftC w s j m g o q0 v0 N fe ge b v1 w1) (hb : Below w1.heap.size w1 w2) : ftC w s j m g o q0 v0 N fe ge b v1 w2 :=
  ⟨cellOn hb hh.1, cellOn hb hh.2.1, cellOn hb hh.2.2.1, cellOn hb hh.2.2.2.1, cellOn hb hh.2.2.2.2.1, hh.2.2.2.2.2.1.on hb, hh.2.2.2.2.2.2.1.on hb, nbTrans hh.2.2.2.2.2.2.2 hb⟩

set_option maxRecDepth 100000 in
set_option maxHeartbeats 4000000 in
theorem lawFelt_c (ad : Option Addr) (len cap : Nat) (f a : Nat → Int) (x0 : Int) (at2 : Option Addr) (n nc : Nat) (tf tc : Nat → Int) (ar : Option Addr) (rn rc : Nat) (rd : Nat → Int) (s j m g o : Int) (N : Nat) (fe ge : Nat → Int) (w : World) (hlen : len ≤ 9223372036854775807) (hnlen : n ≤ 9223372036854775807) (hrlen : rn ≤ 9223372036854775807) (hrow : SRow w ad len f a) (htk : SRow w at2 n tf tc) (hrd : SRow1 w ar rn rd) (hN : Hid (N ≤ 1048576))
    (hs : Hid (∀ q qt qr w, len ≤ 1048576 → n ≤ 1048576 → rn ≤ 1048576 → Row2 w q 0 len f a → Row2 w qt 0 n tf tc → Row1 w qr 0 rn rd → Calls Tryd.prog 13 #[.agg #[.int .i64 s, .int .i64 j, .int .i64 m, .int .i64 g, .int .i64 o], .slice (some ⟨q, 0, none⟩) len len, .int .i64 x0, .slice (some ⟨qt, 0, none⟩) n n, .slice (some ⟨qr, 0, none⟩) rn rn] w fun e w' => ∃ v, e = .returned v ∧ EvRow w' w.heap.size v N fe ge ∧ Below w.heap.size w w'))
    (hi : Hid (∀ q qt qr wz, Below w.heap.size w wz → len ≤ 1048576 → n ≤ 1048576 → rn ≤ 1048576 → Row2 wz q 0 len f a → Row2 wz qt 0 n tf tc → Row1 wz qr 0 rn rd → Calls Tryd.prog 16 #[.agg #[.int .i64 s, .int .i64 j, .int .i64 m, .int .i64 g, .int .i64 o], .slice (some ⟨q, 0, none⟩) len len, .int .i64 x0, .slice (some ⟨qt, 0, none⟩) n n, .slice (some ⟨qr, 0, none⟩) rn rn] wz fun e w' => ∃ v, e = .returned v ∧ EvRow w' wz.heap.size v N fe ge ∧ Below wz.heap.size wz w')) :
    Calls Tryd.prog 4 #[.agg #[.int .i64 s, .int .i64 j, .int .i64 m, .int .i64 g, .int .i64 o], .slice ad len cap, .int .i64 x0, .slice at2 n nc, .slice ar rn rc] w fun e w' => e = .returned (.bool true) ∧ Below w.heap.size w w' := by
  by_cases hbig0 : (1048576 : Int) < (rn : Int)
  · go_enter Tryd.func4, Tryd.ntmps4
    go_wp2_with fail
    go_ret
    exact ⟨rfl, nbAlloc (Below.refl _ _) _⟩
  have HI : Hid (rn ≤ 1048576) := by unfold Hid; omega
  go_enter Tryd.func4, Tryd.ntmps4
  go_wp2_with fail
  refine (szMarkS_c _ _ _ _ _ (by omega) (by omega) hlen).mono ?_
  rintro e w1 ⟨rfl, rfl⟩
  by_cases hbig : (1048576 : Int) - (len : Int) < 0
  · rw [if_pos hbig]
    go_wp2_with fail
    go_ret
    exact ⟨rfl, nbAlloc (Below.refl _ _) _⟩
  rw [if_neg hbig]
  have i0 : ¬ ((1048576 : Int) - (len : Int) < 0) := hbig
  go_wp2_with fail
  refine (szTrueS_c _ _ _ _ _ (by omega) (by omega) hnlen).mono ?_
  rintro e w1 ⟨rfl, rfl⟩
  by_cases hbig2 : (1048576 : Int) - (len : Int) - (n : Int) < 0
  · rw [if_pos hbig2]
    go_wp2_with fail
    go_ret
    exact ⟨rfl, nbAlloc (Below.refl _ _) _⟩
  rw [if_neg hbig2]
  have i1 : ¬ ((1048576 : Int) - (len : Int) - (n : Int) < 0) := hbig2
  have HB : Hid (len ≤ 1048576) := by unfold Hid; omega
  have HT : Hid (n ≤ 1048576) := by unfold Hid; omega
  have hk0 : decide ((1 : Int) + 2 * (len : Int) + 2 * (n : Int) + (rn : Int) < 0) = false := by simp; omega
  have hq0 : decide ((1 : Int) + 2 * (N : Int) < 0) = false := by simp; omega
  have hC0 : fuC w s j m g o (w.alloc (.cells #[.int .i64 s, .int .i64 j, .int .i64 m, .int .i64 g, .int .i64 o] 23)) := by
    refine ⟨?_, ?_, ?_, ?_, ?_, nbAlloc (Below.refl _ _) _⟩ <;> go_simp
  go_wp2_with fail
  clear hbig hbig2 hbig0
  generalize w.alloc (.cells #[.int .i64 s, .int .i64 j, .int .i64 m, .int .i64 g, .int .i64 o] 23) = w0 at *
  have c0 : w0.cell? ⟨w.heap.size, 0, none⟩ = some (.int .i64 s) := hC0.1
  have c1 : w0.cell? ⟨w.heap.size, 1, none⟩ = some (.int .i64 j) := hC0.2.1
  have c2 : w0.cell? ⟨w.heap.size, 2, none⟩ = some (.int .i64 m) := hC0.2.2.1
  have c3 : w0.cell? ⟨w.heap.size, 3, none⟩ = some (.int .i64 g) := hC0.2.2.2.1
  have c4 : w0.cell? ⟨w.heap.size, 4, none⟩ = some (.int .i64 o) := hC0.2.2.2.2.1
  go_wp2_with fail
  refine (toRules_c _ _ _ _ _ _).mono ?_
  rintro e pa ⟨rfl, pha⟩
  have pA := fuC_on hC0 pha
  clear c0 c1 c2 c3 c4
  clear pha
  go_wp2_with fail
  refine (toMarkS_any ad len cap f a _ HB.out (hrow.on pA.2.2.2.2.2)).mono ?_
  rintro e pb ⟨pq, rfl, -, pr, -, phb⟩
  have pB := fuC_on pA phb
  clear phb pA
  go_wp2_with fail
  refine (toTrueS_any at2 n nc tf tc _ HT.out (htk.on pB.2.2.2.2.2)).mono ?_
  rintro e pc ⟨pt, rfl, -, pu, -, phc⟩
  have pC := fuC_on pB phc
  replace pr := pr.on phc
  clear phc pB
  go_wp2_with fail
  refine (toIntS_any ar rn rc rd _ HI.out (hrd.on pC.2.2.2.2.2)).mono ?_
  rintro e pd ⟨pi, rfl, -, pv, -, phd⟩
  have pD := fuC_on pC phd
  replace pr := pr.on phd
  replace pu := pu.on phd
  clear phd pC
  go_wp2_with fail
  refine (hs.out _ _ _ _ HB.out HT.out HI.out pr pu pv).mono ?_
  rintro e pe ⟨px, rfl, py, phe⟩
  have pE := fuC_on pD phe
  clear pr pu pv pD
  refine Exists.elim py.at (fun q0 e0 => ?_)
  have s0 := e0.2
  clear e0 py
  generalize px = v0 at *
  have hl0 := s0.lt
  have hna := ltCell pE.1
  have hF : fwC w s j m g o q0 v0 N fe ge pe := ⟨pE.1, pE.2.1, pE.2.2.1, pE.2.2.2.1, pE.2.2.2.2.1, s0, pE.2.2.2.2.2⟩
  clear pE s0 phe hC0
  go_wp2_with fail
  refine (toMarkS_any ad len cap f a _ HB.out (hrow.on hF.2.2.2.2.2.2)).mono ?_
  rintro e wb ⟨q1, rfl, hq1, hr1, hf1, hbb⟩
  have hFb := fwC_on hF hbb
  go_wp2_with fail
  refine (toTrueS_any at2 n nc tf tc _ HT.out (htk.on hFb.2.2.2.2.2.2)).mono ?_
  rintro e wc ⟨q3, rfl, hq3, hr3, hf3, hbc⟩
  have hFc := fwC_on hFb hbc
  go_wp2_with fail
  refine (toIntS_any ar rn rc rd _ HI.out (hrd.on hFc.2.2.2.2.2.2)).mono ?_
  rintro e wd ⟨q4, rfl, hq4, hr4, hf4, hbd⟩
  have hFd := fwC_on hFc hbd
  have O1 : Own2 wb q1 len f a := ⟨hr1, hf1⟩
  have O3 : Own2 wc q3 n tf tc := ⟨hr3, hf3⟩
  have O4 : Own1 wd q4 rn rd := ⟨hr4, hf4⟩
  have hV : fvC w s j m g o q1 len f a q3 n tf tc q4 rn rd q0 v0 N fe ge wd := ⟨hFd.1, hFd.2.1, hFd.2.2.1, hFd.2.2.2.1, hFd.2.2.2.2.1, (O1.on hbc).on hbd, O3.on hbd, O4, hFd.2.2.2.2.2.1, hFd.2.2.2.2.2.2⟩
  have HO : Hid ((0 < N → q0 < pe.heap.size) ∧ pe.heap.size ≤ q1 ∧ (0 < len → q1 < wb.heap.size) ∧ pe.heap.size ≤ wb.heap.size ∧ wb.heap.size ≤ q3 ∧ (0 < n → q3 < wc.heap.size) ∧ wb.heap.size ≤ wc.heap.size ∧ wc.heap.size ≤ q4 ∧ (0 < rn → q4 < wd.heap.size) ∧ wc.heap.size ≤ wd.heap.size ∧ w.heap.size < pe.heap.size) :=
    ⟨hl0, hq1, O1.lt, hbb.size, hq3, O3.lt, hbc.size, hq4, O4.lt, hbd.size, hna⟩
  clear O1 O3 O4 hF hFb hFc hFd hq1 hr1 hf1 hbb hq3 hr3 hf3 hbc hq4 hr4 hf4 hbd hl0 hna
  generalize pe.heap.size = sa at *
  generalize wb.heap.size = sb at *
  generalize wc.heap.size = sc at *
  have c0 : wd.cell? ⟨w.heap.size, 0, none⟩ = some (.int .i64 s) := hV.1
  have c1 : wd.cell? ⟨w.heap.size, 1, none⟩ = some (.int .i64 j) := hV.2.1
  have c2 : wd.cell? ⟨w.heap.size, 2, none⟩ = some (.int .i64 m) := hV.2.2.1
  have c3 : wd.cell? ⟨w.heap.size, 3, none⟩ = some (.int .i64 g) := hV.2.2.2.1
  have c4 : wd.cell? ⟨w.heap.size, 4, none⟩ = some (.int .i64 o) := hV.2.2.2.2.1
  go_wp2_with fail
  refine (toRules_c _ _ _ _ _ _).mono ?_
  rintro e we ⟨rfl, hbe⟩
  have hVe := fvC_on hV hbe
  have hse : wd.heap.size ≤ we.heap.size := hbe.size
  clear hV hbe c0 c1 c2 c3 c4
  go_wp2_with fail
  refine (hi.out _ _ _ _ hVe.2.2.2.2.2.2.2.2.2 HB.out HT.out HI.out (hVe.2.2.2.2.2.1).1 (hVe.2.2.2.2.2.2.1).1 (hVe.2.2.2.2.2.2.2.1).1).mono ?_
  rintro e wf ⟨v1, rfl, hy1, hbf⟩
  have hVf := fvC_on hVe hbf
  refine Exists.elim hy1.at (fun b e1 => ?_)
  have hbg : wd.heap.size ≤ b := by have := e1.1; omega
  have s1 := e1.2
  clear e1 hy1 hbf hVe hse
  have hX4 : fxC w s j m g o q1 len f a q3 n tf tc q4 rn rd q0 v0 N fe ge b v1 wf := ⟨hVf.1, hVf.2.1, hVf.2.2.1, hVf.2.2.2.1, hVf.2.2.2.2.1, hVf.2.2.2.2.2.1, hVf.2.2.2.2.2.2.1, hVf.2.2.2.2.2.2.2.1, hVf.2.2.2.2.2.2.2.2.1, s1, hVf.2.2.2.2.2.2.2.2.2⟩
  clear hVf s1
  generalize wd.heap.size = sd at *
  go_wp2_with fail
  refine (eqEventS_v _ hN.out hX4.2.2.2.2.2.2.2.2.2.1 hX4.2.2.2.2.2.2.2.2.1).mono ?_
  rintro e w5 ⟨rfl, hb5⟩
  have hX5 := fxC_on hX4 hb5
  clear hX4
  clear hb5
  go_wp2_with fail
  refine (toMarkS_any ad len cap f a _ HB.out (hrow.on hX5.2.2.2.2.2.2.2.2.2.2)).mono ?_
  rintro e w6 ⟨q6, rfl, -, hr6, -, hb6⟩
  have hX6 := fxC_on hX5 hb6
  clear hX5
  clear hb6
  go_wp2_with fail
  refine (eqMarkS_c q1 q6 len len len f a _ HB.out (hX6.2.2.2.2.2.1).1 hr6).mono ?_
  rintro e w7 ⟨rfl, hb7⟩
  have hX7 := fxC_on hX6 hb7
  clear hX6
  clear hb7 hr6
  go_wp2_with fail
  refine (toTrueS_any at2 n nc tf tc _ HT.out (htk.on hX7.2.2.2.2.2.2.2.2.2.2)).mono ?_
  rintro e w8 ⟨q8, rfl, -, hr8, -, hb8⟩
  have hX8 := fxC_on hX7 hb8
  clear hX7
  clear hb8
  go_wp2_with fail
  refine (eqTrueS_c q3 q8 n n n tf tc _ HT.out (hX8.2.2.2.2.2.2.1).1 hr8).mono ?_
  rintro e w9 ⟨rfl, hb9⟩
  have hX9 := fxC_on hX8 hb9
  clear hX8
  clear hb9 hr8
  go_wp2_with fail
  refine (toIntS_any ar rn rc rd _ HI.out (hrd.on hX9.2.2.2.2.2.2.2.2.2.2)).mono ?_
  rintro e w10 ⟨q10, rfl, -, hr10, -, hb10⟩
  have hX10 := fxC_on hX9 hb10
  clear hX9
  clear hb10
  go_wp2_with fail
  refine (eqIntS_c q4 q10 rn rn rn rd _ HI.out (hX10.2.2.2.2.2.2.2.1).1 hr10).mono ?_
  rintro e w11 ⟨rfl, hb11⟩
  have hX11 := fxC_on hX10 hb11
  clear hX10
  clear hb11 hr10
  go_wp2_with fail
  refine (markMarkS_v q1 len len 1 f a _ HB.out (by omega) (by omega) hX11.2.2.2.2.2.1).mono ?_
  rintro e w12 ⟨rfl, hT12⟩
  have hY12 : fyC w s j m g o q3 n tf tc q4 rn rd q0 v0 N fe ge b v1 w12 := by
    obtain ⟨o0, o1, o2, o3, o4, o5, o6, o7, o8, o9, o10⟩ := HO.out
    exact ⟨hT12.cell (fun _ => by omega) hX11.1, hT12.cell (fun _ => by omega) hX11.2.1, hT12.cell (fun _ => by omega) hX11.2.2.1, hT12.cell (fun _ => by omega) hX11.2.2.2.1, hT12.cell (fun _ => by omega) hX11.2.2.2.2.1, hT12.own hX11.2.2.2.2.2.2.1 (fun _ h2 => by have := o2 h2; omega), hT12.own1 hX11.2.2.2.2.2.2.2.1 (fun _ h2 => by have := o2 h2; omega), hT12.ev hX11.2.2.2.2.2.2.2.2.1 (fun h1 _ => by have := o0 h1; omega), hT12.ev hX11.2.2.2.2.2.2.2.2.2.1 (fun _ h2 => by have := o2 h2; omega), hT12.below hX11.2.2.2.2.2.2.2.2.2.2 (by omega)⟩
  clear hX11 hT12
  go_wp2_with fail
  refine (markTrueS_v q3 n n (1 + 2 * (len : Int)) tf tc _ HT.out (by omega) (by have := HB.out; omega) hY12.2.2.2.2.2.1).mono ?_
  rintro e w13 ⟨rfl, hT13⟩
  have hY13 : fyD w s j m g o q4 rn rd q0 v0 N fe ge b v1 w13 := by
    obtain ⟨o0, o1, o2, o3, o4, o5, o6, o7, o8, o9, o10⟩ := HO.out
    exact ⟨hT13.cell (fun _ => by omega) hY12.1, hT13.cell (fun _ => by omega) hY12.2.1, hT13.cell (fun _ => by omega) hY12.2.2.1, hT13.cell (fun _ => by omega) hY12.2.2.2.1, hT13.cell (fun _ => by omega) hY12.2.2.2.2.1, hT13.own1 hY12.2.2.2.2.2.2.1 (fun _ h2 => by have := o5 h2; omega), hT13.ev hY12.2.2.2.2.2.2.2.1 (fun h1 _ => by have := o0 h1; omega), hT13.ev hY12.2.2.2.2.2.2.2.2.1 (fun _ h2 => by have := o5 h2; omega), hT13.below hY12.2.2.2.2.2.2.2.2.2 (by omega)⟩
  clear hY12 hT13
  go_wp2_with fail
  refine (markIntS_v q4 rn rn (1 + 2 * (len : Int) + 2 * (n : Int)) rd _ HI.out (by omega) (by have := HB.out; have := HT.out; omega) hY13.2.2.2.2.2.1).mono ?_
  rintro e w14 ⟨rfl, hT14⟩
  have hZ14 : fzC w s j m g o q0 v0 N fe ge b v1 w14 := by
    obtain ⟨o0, o1, o2, o3, o4, o5, o6, o7, o8, o9, o10⟩ := HO.out
    exact ⟨hT14.cell (fun _ => by omega) hY13.1, hT14.cell (fun _ => by omega) hY13.2.1, hT14.cell (fun _ => by omega) hY13.2.2.1, hT14.cell (fun _ => by omega) hY13.2.2.2.1, hT14.cell (fun _ => by omega) hY13.2.2.2.2.1, hT14.ev hY13.2.2.2.2.2.2.1 (fun h1 _ => by have := o0 h1; omega), hT14.ev hY13.2.2.2.2.2.2.2.1 (fun _ h2 => by have := o8 h2; omega), hT14.below hY13.2.2.2.2.2.2.2.2 (by omega)⟩
  clear hY13 hT14
  go_wp2_with fail
  refine (eqEventS_v _ hN.out hZ14.2.2.2.2.2.2.1 hZ14.2.2.2.2.2.1).mono ?_
  rintro e w15 ⟨rfl, hb15⟩
  have hZ15 := fzC_on hZ14 hb15
  clear hZ14
  clear hb15
  go_wp2_with fail
  refine (markEventS_a b N v1 fe ge _ hN.out hZ15.2.2.2.2.2.2.1).mono ?_
  rintro e w16 ⟨rfl, hH16, hT16⟩
  have hW16 : ftC w s j m g o q0 v0 N fe ge b v1 w16 := by
    obtain ⟨o0, o1, o2, o3, o4, o5, o6, o7, o8, o9, o10⟩ := HO.out
    exact ⟨hT16.cell (fun _ => by omega) hZ15.1, hT16.cell (fun _ => by omega) hZ15.2.1, hT16.cell (fun _ => by omega) hZ15.2.2.1, hT16.cell (fun _ => by omega) hZ15.2.2.2.1, hT16.cell (fun _ => by omega) hZ15.2.2.2.2.1, hT16.ev hZ15.2.2.2.2.2.1 (fun h1 _ => by have := o0 h1; omega), hH16, hT16.below hZ15.2.2.2.2.2.2.2 (by omega)⟩
  clear hZ15 hT16 hH16
  go_wp2_with fail
  refine (heldEventS_v b N v1 _ hN.out hW16.2.2.2.2.2.2.1).mono ?_
  rintro e w17 ⟨rfl, hw17⟩
  subst hw17
  have c0 : w16.cell? ⟨w.heap.size, 0, none⟩ = some (.int .i64 s) := hW16.1
  have c1 : w16.cell? ⟨w.heap.size, 1, none⟩ = some (.int .i64 j) := hW16.2.1
  have c2 : w16.cell? ⟨w.heap.size, 2, none⟩ = some (.int .i64 m) := hW16.2.2.1
  have c3 : w16.cell? ⟨w.heap.size, 3, none⟩ = some (.int .i64 g) := hW16.2.2.2.1
  have c4 : w16.cell? ⟨w.heap.size, 4, none⟩ = some (.int .i64 o) := hW16.2.2.2.2.1
  go_wp2_with fail
  refine (toRules_c _ _ _ _ _ _).mono ?_
  rintro e ua ⟨rfl, uha⟩
  have uA := ftC_on hW16 uha
  clear c0 c1 c2 c3 c4
  clear uha
  go_wp2_with fail
  refine (toMarkS_any ad len cap f a _ HB.out (hrow.on uA.2.2.2.2.2.2.2)).mono ?_
  rintro e ub ⟨uq, rfl, -, ur, -, uhb⟩
  have uB := ftC_on uA uhb
  clear uhb uA
  go_wp2_with fail
  refine (toTrueS_any at2 n nc tf tc _ HT.out (htk.on uB.2.2.2.2.2.2.2)).mono ?_
  rintro e uc ⟨ut, rfl, -, uu, -, uhc⟩
  have uC := ftC_on uB uhc
  replace ur := ur.on uhc
  clear uhc uB
  go_wp2_with fail
  refine (toIntS_any ar rn rc rd _ HI.out (hrd.on uC.2.2.2.2.2.2.2)).mono ?_
  rintro e ud ⟨ui, rfl, -, uv, -, uhd⟩
  have uD := ftC_on uC uhd
  replace ur := ur.on uhd
  replace uu := uu.on uhd
  clear uhd uC
  go_wp2_with fail
  refine (hi.out _ _ _ _ uD.2.2.2.2.2.2.2 HB.out HT.out HI.out ur uu uv).mono ?_
  rintro e ue ⟨ux, rfl, uy, uhe⟩
  have uE := ftC_on uD uhe
  clear ur uu uv uD
  refine Exists.elim uy.at (fun q9 e9 => ?_)
  have s9 := e9.2
  clear e9 uy uhe
  go_wp2_with fail
  refine (eqEventS_v _ hN.out s9 uE.2.2.2.2.2.1).mono ?_
  rintro e w18 ⟨rfl, hb18⟩
  have hC18 := ftC_on uE hb18
  clear uE s9 hb18
  go_wp2_with fail
  refine (heldEventS_v b N v1 _ hN.out hC18.2.2.2.2.2.2.1).mono ?_
  rintro e w19 ⟨rfl, hw19⟩
  go_wp2_with fail
  go_ret
  exact ⟨rfl, hw19 ▸ hC18.2.2.2.2.2.2.2⟩

end Go.Proofs.YtmhppadblddjoacDoor
