/- How wide the bound is: the law's walk, the program's Wide as a premise. -/
import Derived.Test.YtmhppadblddjoaaKnown2
import Derived.Test.YtmhppadblddjoaaWB
import Derived.Test.YtmhppadblddjoaaIDoC
import Derived.Test.YtmhppadblddjoaaSp3
namespace Go.Proofs.Ytmhppadblddjoaa
open Go.RowKit
set_option linter.unusedVariables false

theorem Row2.farW {w : World} {b off N p o : Nat} {v : Value} {f a : Nat → Int} (h : Row2 w b off N f a) (hb : 0 < N → b ≠ p) : Row2 (w.setCell ⟨p, o, none⟩ v) b off N f a :=
  fun i hi => ⟨cellFar (hb (by omega)) (h i hi).1, cellFar (hb (by omega)) (h i hi).2⟩
theorem BytesV.turnsW {w w' : World} {a0 : Option Addr} {len p : Nat} {u : Nat → Int} (h : BytesV w a0 len u) (hT : Turns p w w') (hb : ∀ q, 0 < len → a0 = some q → q.block ≠ p) : BytesV w' a0 len u := by
  rcases h with h | ⟨b, off, h1, h3⟩
  · exact .inl h
  · exact .inr ⟨b, off, h1, fun i hi => ⟨(h3 i hi).1, (h3 i hi).2.1, hT.cell (hb _ (by omega) h1) (h3 i hi).2.2⟩⟩
theorem Row2.turnsW {w w' : World} {b off N p : Nat} {f a : Nat → Int} (h : Row2 w b off N f a) (hT : Turns p w w') (hb : 0 < N → b ≠ p) : Row2 w' b off N f a :=
  fun i hi => ⟨hT.cell (hb (by omega)) (h i hi).1, hT.cell (hb (by omega)) (h i hi).2⟩
theorem BytesV.ltW {w : World} {a0 : Option Addr} {len : Nat} {u : Nat → Int} (h : BytesV w a0 len u) : ∀ q, 0 < len → a0 = some q → q.block < w.heap.size := fun q hl hq => by
  rcases h with h | ⟨b, off, h1, h3⟩
  · omega
  · rw [h1] at hq
    cases hq
    exact ltCell (h3 0 hl).2.2

def wd0 (w : World) (s j m g o : Int) (p5 : Nat) : World → Prop := fun w' => w'.cell? ⟨p5, 0, none⟩ = some (.int .i64 s) ∧ w'.cell? ⟨p5, 1, none⟩ = some (.int .i64 j) ∧ w'.cell? ⟨p5, 2, none⟩ = some (.int .i64 m) ∧ w'.cell? ⟨p5, 3, none⟩ = some (.int .i64 g) ∧ w'.cell? ⟨p5, 4, none⟩ = some (.int .i64 o) ∧ Below w.heap.size w w'
theorem wd0_on {w : World} {s j m g o : Int} {p5 : Nat} {w1 w2 : World} (hh : wd0 w s j m g o p5 w1) (hb : Below w1.heap.size w1 w2) : wd0 w s j m g o p5 w2 :=
  ⟨cellOn hb hh.1, cellOn hb hh.2.1, cellOn hb hh.2.2.1, cellOn hb hh.2.2.2.1, cellOn hb hh.2.2.2.2.1, nbTrans hh.2.2.2.2.2 hb⟩

def wdC (w : World) (s j m g o bl bh : Int) (p5 p7 : Nat) (b off N : Nat) (f a : Nat → Int) (a1 : Option Addr) (len1 : Nat) (u : Nat → Int) : World → Prop := fun w' => w'.cell? ⟨p5, 0, none⟩ = some (.int .i64 s) ∧ w'.cell? ⟨p5, 1, none⟩ = some (.int .i64 j) ∧ w'.cell? ⟨p5, 2, none⟩ = some (.int .i64 m) ∧ w'.cell? ⟨p5, 3, none⟩ = some (.int .i64 g) ∧ w'.cell? ⟨p5, 4, none⟩ = some (.int .i64 o) ∧ w'.cell? ⟨p7, 0, none⟩ = some (.bool true) ∧ w'.cell? ⟨p7, 1, none⟩ = some (.int .i64 bl) ∧ w'.cell? ⟨p7, 2, none⟩ = some (.int .i64 bh) ∧ w'.cell? ⟨p7, 3, none⟩ = some (.int .i64 0) ∧ w'.cell? ⟨p7, 4, none⟩ = some (.int .i64 (-1)) ∧ w'.cell? ⟨p7, 5, none⟩ = some (.int .i64 0) ∧ w'.frozen? ⟨p7, 0, none⟩ = false ∧ w'.frozen? ⟨p7, 1, none⟩ = false ∧ w'.frozen? ⟨p7, 2, none⟩ = false ∧ Row2 w' b off N f a ∧ BytesV w' a1 len1 u ∧ Below w.heap.size w w'
theorem wdC_on {w : World} {s j m g o bl bh : Int} {p5 p7 : Nat} {b off N : Nat} {f a : Nat → Int} {a1 : Option Addr} {len1 : Nat} {u : Nat → Int} {w1 w2 : World} (hh : wdC w s j m g o bl bh p5 p7 b off N f a a1 len1 u w1) (hb : Below w1.heap.size w1 w2) : wdC w s j m g o bl bh p5 p7 b off N f a a1 len1 u w2 :=
  ⟨cellOn hb hh.1, cellOn hb hh.2.1, cellOn hb hh.2.2.1, cellOn hb hh.2.2.2.1, cellOn hb hh.2.2.2.2.1, cellOn hb hh.2.2.2.2.2.1, cellOn hb hh.2.2.2.2.2.2.1, cellOn hb hh.2.2.2.2.2.2.2.1, cellOn hb hh.2.2.2.2.2.2.2.2.1, cellOn hb hh.2.2.2.2.2.2.2.2.2.1, cellOn hb hh.2.2.2.2.2.2.2.2.2.2.1, frozenOn hb hh.2.2.2.2.2.1 hh.2.2.2.2.2.2.2.2.2.2.2.1, frozenOn hb hh.2.2.2.2.2.2.1 hh.2.2.2.2.2.2.2.2.2.2.2.2.1, frozenOn hb hh.2.2.2.2.2.2.2.1 hh.2.2.2.2.2.2.2.2.2.2.2.2.2.1, hh.2.2.2.2.2.2.2.2.2.2.2.2.2.2.1.on hb, hh.2.2.2.2.2.2.2.2.2.2.2.2.2.2.2.1.on hb, nbTrans hh.2.2.2.2.2.2.2.2.2.2.2.2.2.2.2.2 hb⟩

def wdG (w : World) (s j m g o : Int) (p5 p7 : Nat) (b off N : Nat) (f a : Nat → Int) (a1 : Option Addr) (len1 : Nat) (u : Nat → Int) (wx : World) : World → Prop := fun w' => w'.cell? ⟨p5, 0, none⟩ = some (.int .i64 s) ∧ w'.cell? ⟨p5, 1, none⟩ = some (.int .i64 j) ∧ w'.cell? ⟨p5, 2, none⟩ = some (.int .i64 m) ∧ w'.cell? ⟨p5, 3, none⟩ = some (.int .i64 g) ∧ w'.cell? ⟨p5, 4, none⟩ = some (.int .i64 o) ∧ w'.cell? ⟨p7, 0, none⟩ = some (.bool false) ∧ w'.cell? ⟨p7, 1, none⟩ = some (.int .i64 0) ∧ w'.cell? ⟨p7, 2, none⟩ = some (.int .i64 0) ∧ w'.cell? ⟨p7, 3, none⟩ = some (.int .i64 0) ∧ w'.cell? ⟨p7, 4, none⟩ = some (.int .i64 (-1)) ∧ w'.cell? ⟨p7, 5, none⟩ = some (.int .i64 0) ∧ Row2 w' b off N f a ∧ BytesV w' a1 len1 u ∧ Below wx.heap.size wx w' ∧ Below w.heap.size w w'
theorem wdG_on {w : World} {s j m g o : Int} {p5 p7 : Nat} {b off N : Nat} {f a : Nat → Int} {a1 : Option Addr} {len1 : Nat} {u : Nat → Int} {wx : World} {w1 w2 : World} (hh : wdG w s j m g o p5 p7 b off N f a a1 len1 u wx w1) (hb : Below w1.heap.size w1 w2) : wdG w s j m g o p5 p7 b off N f a a1 len1 u wx w2 :=
  ⟨cellOn hb hh.1, cellOn hb hh.2.1, cellOn hb hh.2.2.1, cellOn hb hh.2.2.2.1, cellOn hb hh.2.2.2.2.1, cellOn hb hh.2.2.2.2.2.1, cellOn hb hh.2.2.2.2.2.2.1, cellOn hb hh.2.2.2.2.2.2.2.1, cellOn hb hh.2.2.2.2.2.2.2.2.1, cellOn hb hh.2.2.2.2.2.2.2.2.2.1, cellOn hb hh.2.2.2.2.2.2.2.2.2.2.1, hh.2.2.2.2.2.2.2.2.2.2.2.1.on hb, hh.2.2.2.2.2.2.2.2.2.2.2.2.1.on hb, nbTrans hh.2.2.2.2.2.2.2.2.2.2.2.2.2.1 hb, nbTrans hh.2.2.2.2.2.2.2.2.2.2.2.2.2.2 hb⟩

def wdH (w : World) (s j m g o : Int) (p5 p10 : Nat) (I : Nat) (xl xh : Int) (b off N : Nat) (f a : Nat → Int) (a1 : Option Addr) (len1 : Nat) (u : Nat → Int) : World → Prop := fun w' => w'.cell? ⟨p5, 0, none⟩ = some (.int .i64 s) ∧ w'.cell? ⟨p5, 1, none⟩ = some (.int .i64 j) ∧ w'.cell? ⟨p5, 2, none⟩ = some (.int .i64 m) ∧ w'.cell? ⟨p5, 3, none⟩ = some (.int .i64 g) ∧ w'.cell? ⟨p5, 4, none⟩ = some (.int .i64 o) ∧ w'.cell? ⟨p10, 0, none⟩ = some (.bool true) ∧ w'.cell? ⟨p10, 1, none⟩ = some (.int .i64 xl) ∧ w'.cell? ⟨p10, 2, none⟩ = some (.int .i64 xh) ∧ w'.cell? ⟨p10, 3, none⟩ = some (.int .i64 0) ∧ w'.cell? ⟨p10, 4, none⟩ = some (.int .i64 ((I : Int))) ∧ w'.cell? ⟨p10, 5, none⟩ = some (.int .i64 0) ∧ Row2 w' b off N f a ∧ BytesV w' a1 len1 u ∧ Below w.heap.size w w'
theorem wdH_on {w : World} {s j m g o : Int} {p5 p10 : Nat} {I : Nat} {xl xh : Int} {b off N : Nat} {f a : Nat → Int} {a1 : Option Addr} {len1 : Nat} {u : Nat → Int} {w1 w2 : World} (hh : wdH w s j m g o p5 p10 I xl xh b off N f a a1 len1 u w1) (hb : Below w1.heap.size w1 w2) : wdH w s j m g o p5 p10 I xl xh b off N f a a1 len1 u w2 :=
  ⟨cellOn hb hh.1, cellOn hb hh.2.1, cellOn hb hh.2.2.1, cellOn hb hh.2.2.2.1, cellOn hb hh.2.2.2.2.1, cellOn hb hh.2.2.2.2.2.1, cellOn hb hh.2.2.2.2.2.2.1, cellOn hb hh.2.2.2.2.2.2.2.1, cellOn hb hh.2.2.2.2.2.2.2.2.1, cellOn hb hh.2.2.2.2.2.2.2.2.2.1, cellOn hb hh.2.2.2.2.2.2.2.2.2.2.1, hh.2.2.2.2.2.2.2.2.2.2.2.1.on hb, hh.2.2.2.2.2.2.2.2.2.2.2.2.1.on hb, nbTrans hh.2.2.2.2.2.2.2.2.2.2.2.2.2 hb⟩

def wdK (w : World) (s j m g o : Int) (p5 p10 : Nat) (I : Nat) (xl xh : Int) (b off N : Nat) (f a : Nat → Int) (a1 : Option Addr) (len1 : Nat) (u : Nat → Int) (p11 : Nat) (yl yh c : Int) : World → Prop := fun w' => w'.cell? ⟨p5, 0, none⟩ = some (.int .i64 s) ∧ w'.cell? ⟨p5, 1, none⟩ = some (.int .i64 j) ∧ w'.cell? ⟨p5, 2, none⟩ = some (.int .i64 m) ∧ w'.cell? ⟨p5, 3, none⟩ = some (.int .i64 g) ∧ w'.cell? ⟨p5, 4, none⟩ = some (.int .i64 o) ∧ w'.cell? ⟨p10, 0, none⟩ = some (.bool true) ∧ w'.cell? ⟨p10, 1, none⟩ = some (.int .i64 xl) ∧ w'.cell? ⟨p10, 2, none⟩ = some (.int .i64 xh) ∧ w'.cell? ⟨p10, 3, none⟩ = some (.int .i64 0) ∧ w'.cell? ⟨p10, 4, none⟩ = some (.int .i64 ((I : Int))) ∧ w'.cell? ⟨p10, 5, none⟩ = some (.int .i64 0) ∧ w'.cell? ⟨p11, 0, none⟩ = some (.bool true) ∧ w'.cell? ⟨p11, 1, none⟩ = some (.int .i64 yl) ∧ w'.cell? ⟨p11, 2, none⟩ = some (.int .i64 yh) ∧ w'.cell? ⟨p11, 3, none⟩ = some (.int .i64 c) ∧ w'.cell? ⟨p11, 4, none⟩ = some (.int .i64 ((I : Int))) ∧ w'.cell? ⟨p11, 5, none⟩ = some (.int .i64 0) ∧ Row2 w' b off N f a ∧ BytesV w' a1 len1 u ∧ Below w.heap.size w w'
theorem wdK_on {w : World} {s j m g o : Int} {p5 p10 : Nat} {I : Nat} {xl xh : Int} {b off N : Nat} {f a : Nat → Int} {a1 : Option Addr} {len1 : Nat} {u : Nat → Int} {p11 : Nat} {yl yh c : Int} {w1 w2 : World} (hh : wdK w s j m g o p5 p10 I xl xh b off N f a a1 len1 u p11 yl yh c w1) (hb : Below w1.heap.size w1 w2) : wdK w s j m g o p5 p10 I xl xh b off N f a a1 len1 u p11 yl yh c w2 :=
  ⟨cellOn hb hh.1, cellOn hb hh.2.1, cellOn hb hh.2.2.1, cellOn hb hh.2.2.2.1, cellOn hb hh.2.2.2.2.1, cellOn hb hh.2.2.2.2.2.1, cellOn hb hh.2.2.2.2.2.2.1, cellOn hb hh.2.2.2.2.2.2.2.1, cellOn hb hh.2.2.2.2.2.2.2.2.1, cellOn hb hh.2.2.2.2.2.2.2.2.2.1, cellOn hb hh.2.2.2.2.2.2.2.2.2.2.1, cellOn hb hh.2.2.2.2.2.2.2.2.2.2.2.1, cellOn hb hh.2.2.2.2.2.2.2.2.2.2.2.2.1, cellOn hb hh.2.2.2.2.2.2.2.2.2.2.2.2.2.1, cellOn hb hh.2.2.2.2.2.2.2.2.2.2.2.2.2.2.1, cellOn hb hh.2.2.2.2.2.2.2.2.2.2.2.2.2.2.2.1, cellOn hb hh.2.2.2.2.2.2.2.2.2.2.2.2.2.2.2.2.1, hh.2.2.2.2.2.2.2.2.2.2.2.2.2.2.2.2.2.1.on hb, hh.2.2.2.2.2.2.2.2.2.2.2.2.2.2.2.2.2.2.1.on hb, nbTrans hh.2.2.2.2.2.2.2.2.2.2.2.2.2.2.2.2.2.2.2 hb⟩

def wdY (B : Nat) (rv mv sv iv pv nv ev dv : Value) : Nat → Value → World → Prop
  | 0, v, _ => v = rv
  | 1, v, _ => v = mv
  | 2, v, _ => v = sv
  | 3, v, _ => v = mv
  | 4, v, _ => v = iv
  | 5, v, _ => v = pv
  | 6, v, _ => v = pv
  | 7, v, _ => v = nv
  | 8, v, _ => v = ev
  | 9, v, _ => v = dv
  | 10, v, w => ∃ p, v = .pointer (some ⟨p, 0, none⟩) ∧ B ≤ p ∧ w.heap[p]? = some (.cells #[.bool false, .int .i64 0, .int .i64 0, .int .i64 0, .int .i64 0, .int .i64 0] 29)
  | _, _, _ => True
theorem wdY_on {B : Nat} {rv mv sv iv pv nv ev dv : Value} : ∀ jj v w w', wdY B rv mv sv iv pv nv ev dv jj v w → Below w.heap.size w w' → wdY B rv mv sv iv pv nv ev dv jj v w'
  | 0, _, _, _, h, _ => h
  | 1, _, _, _, h, _ => h
  | 2, _, _, _, h, _ => h
  | 3, _, _, _, h, _ => h
  | 4, _, _, _, h, _ => h
  | 5, _, _, _, h, _ => h
  | 6, _, _, _, h, _ => h
  | 7, _, _, _, h, _ => h
  | 8, _, _, _, h, _ => h
  | 9, _, _, _, h, _ => h
  | 10, _, _, _, ⟨p, h1, h2, h3⟩, hb => ⟨p, h1, h2, by rw [hb.block p (Array.getElem?_eq_some_iff.1 h3).1]; exact h3⟩
  | _ + 11, _, _, _, _, _ => trivial
theorem wdY_10 {B : Nat} {rv mv sv iv pv nv ev dv : Value} {v : Value} {w : World} (h : wdY B rv mv sv iv pv nv ev dv 10 v w) : ∃ p, v = .pointer (some ⟨p, 0, none⟩) ∧ B ≤ p ∧ w.heap[p]? = some (.cells #[.bool false, .int .i64 0, .int .i64 0, .int .i64 0, .int .i64 0, .int .i64 0] 29) := h

/-- What the two steps make. -/
theorem wide_X {s j m g o c : Int} {N I : Nat} {f a : Nat → Int} (hr : rOk s j m g o = true) (hm1 : m < 30) (hmk : marksB f a N = true) (hI : I < N) (hinj : ∀ i k, i < N → k < N → f i = f k → i = k) (hz0 : 0 ≤ a I) (hz1 : a I ≤ 5000) (hc0 : 0 ≤ c) (hc1 : c < 3000) :
    doA s j m g o N f a ⟨false, 0, 0, 0, -1, 0⟩ 2 (f I) = ⟨true, a I - m, a I + m, 0, (I : Int), 0⟩ ∧
    doA s j m g o N f a ⟨true, a I - m, a I + m, 0, (I : Int), 0⟩ 1 c = ⟨true, a I - m + lst s j c, a I + m + mst s j c, c, (I : Int), 0⟩ ∧
    a I + m + mst s j c - (a I - m + lst s j c) = wideA s j m g o f a N c ∧ 0 ≤ lst s j c ∧ lst s j c ≤ 3000 ∧ 0 ≤ mst s j c ∧ mst s j c ≤ 202000 := by
  have hr' := hr
  simp only [rOk, inB, Bool.and_eq_true, decide_eq_true_eq] at hr'
  have l0 := lst_nonneg (s := s) (j := j) (c := c) (by omega)
  have l1 := lst_le (s := s) (j := j) (c := c) (by omega) (by omega) hc0
  have l2 := mst_ge (s := s) (j := j) (c := c) (by omega) (by omega) (by omega) hc0
  have l3 := mst_le (s := s) (j := j) (c := c) (by omega) (by omega) (by omega) (by omega)
  have hix : lastIx f (f I) N = (I : Int) := by
    rcases lastIx_cases f (f I) N with ⟨-, h2⟩ | ⟨i, h1, h2, h3⟩
    · exact absurd rfl (h2 I hI)
    · rw [h1, hinj i I h2 hI h3]
  have hnm := mk_name hmk hI
  have hev : evB 2 (f I) = true := by simpa [evB] using hnm
  have hev1 : evB 1 c = true := by simp [evB, inB]; omega
  have hst : stB (marksB f a N) N false 0 0 0 (-1) 0 = true := by
    simp [stB, inB, hmk]
    omega
  have hst1 : stB (marksB f a N) N true (a I - m) (a I + m) 0 (I : Int) 0 = true := by
    simp [stB, inB, bOk, hmk]
    omega
  have hlt : ¬ ((I : Int) < 0) := by omega
  have e1 : min (a I - m) 100000000 = a I - m := by omega
  have e2 : min (a I + m) 100000000 = a I + m := by omega
  have e3 : min (a I - m + lst s j c) 100000000 = a I - m + lst s j c := by omega
  have e4 : min (a I + m + mst s j c) 100000000 = a I + m + mst s j c := by omega
  have e5 : min (0 + c) 1000000000 = c := by omega
  have hin : inB c 0 100000 = true := by simp [inB]; omega
  refine ⟨?_, ?_, ?_, l0, by omega, by omega, l3⟩
  · simp only [doA, hr, hst, hev, Bool.and_self, if_true]
    simp [doM, hix, hlt, e1, e2]
  · simp only [doA, hr, hst1, hev1, Bool.and_self, if_true]
    simp [doM, e3, e4]
    omega
  · simp only [wideA, hr, hmk, hin, Bool.and_self, if_true]
    omega

set_option maxRecDepth 100000 in
set_option maxHeartbeats 1500000 in
theorem wide_in (a0 a1 : Option Addr) (len0 cap0 len1 cap1 : Nat) (w : World) (hl0 : len0 ≤ 1048576) (hl1 : len1 ≤ 1048576) (hb0 : Bytes w a0 len0) (hb1 : Bytes w a1 len1)
    (HW : Hid (∀ (ad : Option Addr) (len cap : Nat) (f a : Nat → Int) (s j m g o c : Int) (w : World), len ≤ 1048576 → SRow w ad len f a → Calls Try.prog 18 #[.agg #[.int .i64 s, .int .i64 j, .int .i64 m, .int .i64 g, .int .i64 o], .slice ad len cap, .int .i64 c] w fun e w' => e = .returned (.int .i64 (wideA s j m g o f a len c)) ∧ Below w.heap.size w w'))
    (HSW : Hid (∀ (ad : Option Addr) (len cap : Nat) (f a : Nat → Int) (s j m g o c : Int) (w : World), len ≤ 1048576 → SRow w ad len f a → Calls Try.prog 19 #[.agg #[.int .i64 s, .int .i64 j, .int .i64 m, .int .i64 g, .int .i64 o], .slice ad len cap, .int .i64 c] w fun e w' => e = .returned (.int .i64 (wideA s j m g o f a len c)) ∧ Below w.heap.size w w')) :
    Calls Try.prog 5 #[.slice a0 len0 cap0, .slice a1 len1 cap1] w fun e w' => e = .returned (.bool true) ∧ Below w.heap.size w w' := by
  have i0 : ¬ (1048576 : Int) < (len0 : Int) := by omega
  have i1 : ¬ (1048576 : Int) < (len1 : Int) := by omega
  obtain ⟨u, hu⟩ := hb1.toV
  have HU : Hid (BytesV w a1 len1 u) := hu
  clear hb1 hu
  go_enter Try.func5, Try.ntmps5
  go_wp2_with fail
  refine (known_d a0 len0 cap0 _ hb0).mono ?_
  rintro e w1 ⟨s, j, m, g, o, bl, bh, mv, N, xs, rfl, s0, s1, j0, j1, m0, m1, g0, g1, o0, o1, l0, l1, lh, h1, hDM, hown, hB1⟩
  obtain ⟨t, hN, ht, hD⟩ := hDM
  obtain ⟨f, a, rfl, hmk, hpl, hinj⟩ := hD.marks hN ht
  obtain ⟨ad, cap, rfl, hrow⟩ := mkRow_of hown
  have HMK : Hid (marksB f a N = true) := hmk
  have HPL : Hid (∀ i, i < N → 0 ≤ a i ∧ a i ≤ 5000) := hpl
  have HIJ : Hid (∀ i k, i < N → k < N → f i = f k → i = k) := hinj
  have HN : Hid (N ≤ 7) := hN
  have hrk : Hid (rOk s j m g o = true) := by
    unfold Hid
    simp only [rOk, inB, Bool.and_eq_true, decide_eq_true_eq]
    omega
  clear hmk hpl hinj hD hown t hN ht hb0
  by_cases hN0 : N = 0
  · subst hN0
    have e0 : SRow w1 ad 0 f a := .inl rfl
    go_wp2_with fail
    have hC0 : wd0 w s j m g o w1.heap.size ((w1.alloc (.cells #[.int .i64 s, .int .i64 j, .int .i64 m, .int .i64 g, .int .i64 o] 24)).alloc (.cells #[.bool true, .int .i64 bl, .int .i64 bh, .int .i64 0, .int .i64 (-1), .int .i64 0] 29)) := by
      refine ⟨?_, ?_, ?_, ?_, ?_, nbAlloc (nbAlloc hB1 _) _⟩
      all_goals go_simp
    generalize ((w1.alloc (.cells #[.int .i64 s, .int .i64 j, .int .i64 m, .int .i64 g, .int .i64 o] 24)).alloc (.cells #[.bool true, .int .i64 bl, .int .i64 bh, .int .i64 0, .int .i64 (-1), .int .i64 0] 29)) = w2 at *
    generalize w1.heap.size = p5 at *
    refine region_kept (wd0 w s j m g o p5) (by kernel_rfl) (by kernel_rfl) (wd0_on hC0 (Below.drew (Below.refl _ _))) ?_
    intro hN_
    have k0 : ∀ d : Kept (wd0 w s j m g o p5), d.w.cell? ⟨p5, 0, none⟩ = some (.int .i64 s) := fun d => d.h.1
    have k1 : ∀ d : Kept (wd0 w s j m g o p5), d.w.cell? ⟨p5, 1, none⟩ = some (.int .i64 j) := fun d => d.h.2.1
    have k2 : ∀ d : Kept (wd0 w s j m g o p5), d.w.cell? ⟨p5, 2, none⟩ = some (.int .i64 m) := fun d => d.h.2.2.1
    have k3 : ∀ d : Kept (wd0 w s j m g o p5), d.w.cell? ⟨p5, 3, none⟩ = some (.int .i64 g) := fun d => d.h.2.2.2.1
    have k4 : ∀ d : Kept (wd0 w s j m g o p5), d.w.cell? ⟨p5, 4, none⟩ = some (.int .i64 o) := fun d => d.h.2.2.2.2.1
    repeat (go_big_quiet_step (first | (go_at_call 18; exact call_kept _ wd0_on (HW.out ad 0 cap f a s j m g o 0 _ (by omega) (.inl rfl))) | (go_at_call 19; exact call_kept _ wd0_on (HSW.out ad 0 cap f a s j m g o 0 _ (by omega) (.inl rfl))) | exact rfl))
    refine wpQuiet_nil ?_
    rintro wz ⟨d, hd2⟩
    have hd := d.h
    rw [← hd2] at hd
    clear hd2 k0 k1 k2 k3 k4
    go_wp2_with fail
    go_ret
    exact ⟨by simp, hd.2.2.2.2.2⟩
  rcases hrow with hz | ⟨b, off, rfl, hr⟩
  · exact absurd hz hN0
  have hne : ((N : Int) == 0) = false := by simp; omega
  have HN0 : Hid (0 < N) := by unfold Hid; omega
  clear hN0
  go_wp2_with fail
  have hbN : b < w1.heap.size := ltCell (hr 0 HN0.out).1
  have hC : wdC w s j m g o bl bh w1.heap.size (w1.heap.size + 1) b off N f a a1 len1 u ((w1.alloc (.cells #[.int .i64 s, .int .i64 j, .int .i64 m, .int .i64 g, .int .i64 o] 24)).alloc (.cells #[.bool true, .int .i64 bl, .int .i64 bh, .int .i64 0, .int .i64 (-1), .int .i64 0] 29)) := by
    refine ⟨?_, ?_, ?_, ?_, ?_, ?_, ?_, ?_, ?_, ?_, ?_, ?_, ?_, ?_, hr.on (nbAlloc (nbAlloc (Below.refl _ _) _) _), HU.out.on (nbAlloc (nbAlloc hB1 _) _), nbAlloc (nbAlloc hB1 _) _⟩
    all_goals go_simp
  have hul : ∀ q, 0 < len1 → a1 = some q → q.block < w1.heap.size := fun q hq he => Nat.lt_of_lt_of_le (HU.out.ltW q hq he) hB1.size
  have HUL : Hid (∀ q, 0 < len1 → a1 = some q → q.block < w1.heap.size) := hul
  have hbs : w.heap.size ≤ w1.heap.size := hB1.size
  clear hul hB1 hr
  generalize ((w1.alloc (.cells #[.int .i64 s, .int .i64 j, .int .i64 m, .int .i64 g, .int .i64 o] 24)).alloc (.cells #[.bool true, .int .i64 bl, .int .i64 bh, .int .i64 0, .int .i64 (-1), .int .i64 0] 29)) = w2 at *
  have hpq : w1.heap.size < w1.heap.size + 1 := by omega
  generalize w1.heap.size + 1 = p7 at *
  generalize w1.heap.size = p5 at *
  refine (wByteV_c a1 len1 cap1 u 0 _ hC.2.2.2.2.2.2.2.2.2.2.2.2.2.2.2.1 hl1 (by omega) (by omega)).mono ?_
  rintro e w' ⟨rfl, rfl⟩
  have r0 := bv_range HU.out 0
  generalize bv len1 u 0 = v0 at *
  obtain ⟨I, hI⟩ : ∃ I : Nat, v0 % (N : Int) = (I : Int) := ⟨(v0 % (N : Int)).toNat, (Int.toNat_of_nonneg (Int.emod_nonneg _ (by have := HN0.out; omega))).symm⟩
  have hIN : I < N := by
    have h2 := Int.emod_lt_of_pos v0 (show (0 : Int) < (N : Int) by have := HN0.out; omega)
    omega
  have i2 : (0 : Int) ≤ (I : Int) := by omega
  have i3 : (I : Int) < (N : Int) := by omega
  have HZ : Hid (0 ≤ a I ∧ a I ≤ 5000) := HPL.out I hIN
  go_wp2_with fail
  simp only [hI]
  clear r0 hI
  refine (wByteV_c a1 len1 cap1 u 1 _ hC.2.2.2.2.2.2.2.2.2.2.2.2.2.2.2.1 hl1 (by omega) (by omega)).mono ?_
  rintro e w' ⟨rfl, rfl⟩
  have r1 := bv_range HU.out 1
  generalize bv len1 u 1 = v1 at *
  go_wp2_with fail
  refine (wByteV_c a1 len1 cap1 u 2 _ hC.2.2.2.2.2.2.2.2.2.2.2.2.2.2.2.1 hl1 (by omega) (by omega)).mono ?_
  rintro e w' ⟨rfl, rfl⟩
  have r2 := bv_range HU.out 2
  generalize bv len1 u 2 = v2 at *
  obtain ⟨c, hc⟩ : ∃ c, (v1 + 256 * v2) % 3000 = c := ⟨_, rfl⟩
  have hc0 : 0 ≤ c ∧ c < 3000 := by omega
  obtain ⟨xe, ye, we, q0, q1, q2, q3_⟩ := wide_X (c := c) hrk.out m1 HMK.out hIN HIJ.out HZ.out.1 HZ.out.2 hc0.1 hc0.2
  have hzz := HZ.out
  obtain ⟨xl, hxl⟩ : ∃ x, a I - m = x := ⟨_, rfl⟩
  obtain ⟨xh, hxh⟩ : ∃ x, a I + m = x := ⟨_, rfl⟩
  obtain ⟨yl, hyl⟩ : ∃ x, a I - m + lst s j c = x := ⟨_, rfl⟩
  obtain ⟨yh, hyh⟩ : ∃ x, a I + m + mst s j c = x := ⟨_, rfl⟩
  have wry : IntKind.i64.wrap (yh - yl) = yh - yl := wrapS (by omega) (by omega)
  rw [hyl, hyh] at ye we
  rw [hxl, hxh] at xe ye
  have HX : Hid (∀ w, Row2 w b off N f a → Calls Try.prog 13 #[.agg #[.int .i64 s, .int .i64 j, .int .i64 m, .int .i64 g, .int .i64 o], .slice (some ⟨b, off, none⟩) N cap, .agg #[.bool false, .int .i64 0, .int .i64 0, .int .i64 0, .int .i64 (-1), .int .i64 0], .agg #[.int .i64 2, .int .i64 (f I)]] w fun e w' => e = .returned (.agg #[.bool true, .int .i64 xl, .int .i64 xh, .int .i64 0, .int .i64 ((I : Int)), .int .i64 0]) ∧ Below w.heap.size w w') := fun w hr => calls_eq (by rw [xe]; rfl) (implDo_s (some ⟨b, off, none⟩) N cap f a s j m g o ⟨false, 0, 0, 0, -1, 0⟩ 2 (f I) w (by have := HN.out; omega) (.inr ⟨b, off, rfl, hr⟩))
  have HY : Hid (∀ w, Row2 w b off N f a → Calls Try.prog 13 #[.agg #[.int .i64 s, .int .i64 j, .int .i64 m, .int .i64 g, .int .i64 o], .slice (some ⟨b, off, none⟩) N cap, .agg #[.bool true, .int .i64 xl, .int .i64 xh, .int .i64 0, .int .i64 ((I : Int)), .int .i64 0], .agg #[.int .i64 1, .int .i64 c]] w fun e w' => e = .returned (.agg #[.bool true, .int .i64 yl, .int .i64 yh, .int .i64 c, .int .i64 ((I : Int)), .int .i64 0]) ∧ Below w.heap.size w w') := fun w hr => calls_eq (by rw [ye]; rfl) (implDo_s (some ⟨b, off, none⟩) N cap f a s j m g o ⟨true, xl, xh, 0, (I : Int), 0⟩ 1 c w (by have := HN.out; omega) (.inr ⟨b, off, rfl, hr⟩))
  have HWV : Hid (∀ w, Row2 w b off N f a → Calls Try.prog 18 #[.agg #[.int .i64 s, .int .i64 j, .int .i64 m, .int .i64 g, .int .i64 o], .slice (some ⟨b, off, none⟩) N cap, .int .i64 c] w fun e w' => e = .returned (.int .i64 (yh - yl)) ∧ Below w.heap.size w w') := fun w hr => calls_eq (by rw [we]) (HW.out (some ⟨b, off, none⟩) N cap f a s j m g o c w (by have := HN.out; omega) (.inr ⟨b, off, rfl, hr⟩))
  clear xe ye we q0 q1 q2 q3_ hxl hxh hyl hyh hzz
  have c0 : w2.cell? ⟨p5, 0, none⟩ = some (.int .i64 s) := hC.1
  have c1 : w2.cell? ⟨p5, 1, none⟩ = some (.int .i64 j) := hC.2.1
  have c2 : w2.cell? ⟨p5, 2, none⟩ = some (.int .i64 m) := hC.2.2.1
  have c3 : w2.cell? ⟨p5, 3, none⟩ = some (.int .i64 g) := hC.2.2.2.1
  have c4 : w2.cell? ⟨p5, 4, none⟩ = some (.int .i64 o) := hC.2.2.2.2.1
  have c5 : w2.cell? ⟨p7, 0, none⟩ = some (.bool true) := hC.2.2.2.2.2.1
  have c6 : w2.cell? ⟨p7, 1, none⟩ = some (.int .i64 bl) := hC.2.2.2.2.2.2.1
  have c7 : w2.cell? ⟨p7, 2, none⟩ = some (.int .i64 bh) := hC.2.2.2.2.2.2.2.1
  have c8 : w2.cell? ⟨p7, 3, none⟩ = some (.int .i64 0) := hC.2.2.2.2.2.2.2.2.1
  have c9 : w2.cell? ⟨p7, 4, none⟩ = some (.int .i64 (-1)) := hC.2.2.2.2.2.2.2.2.2.1
  have c10 : w2.cell? ⟨p7, 5, none⟩ = some (.int .i64 0) := hC.2.2.2.2.2.2.2.2.2.2.1
  have c11 : w2.frozen? ⟨p7, 0, none⟩ = false := hC.2.2.2.2.2.2.2.2.2.2.2.1
  have c12 : w2.frozen? ⟨p7, 1, none⟩ = false := hC.2.2.2.2.2.2.2.2.2.2.2.2.1
  have c13 : w2.frozen? ⟨p7, 2, none⟩ = false := hC.2.2.2.2.2.2.2.2.2.2.2.2.2.1
  go_wp2_with fail
  simp only [hc]
  have hT3 : Turns p7 w2 (((w2.setCell ⟨p7, 0, none⟩ (.bool false)).setCell ⟨p7, 1, none⟩ (.int .i64 0)).setCell ⟨p7, 2, none⟩ (.int .i64 0)) := (((Turns.refl p7 w2).setCell 0 _).setCell 1 _).setCell 2 _
  have hG : wdG w s j m g o p5 p7 b off N f a a1 len1 u (((w2.setCell ⟨p7, 0, none⟩ (.bool false)).setCell ⟨p7, 1, none⟩ (.int .i64 0)).setCell ⟨p7, 2, none⟩ (.int .i64 0)) (((w2.setCell ⟨p7, 0, none⟩ (.bool false)).setCell ⟨p7, 1, none⟩ (.int .i64 0)).setCell ⟨p7, 2, none⟩ (.int .i64 0)) := ⟨hT3.cell (by omega) c0, hT3.cell (by omega) c1, hT3.cell (by omega) c2, hT3.cell (by omega) c3, hT3.cell (by omega) c4, (World.cell?_setCell_other _ _ _ _ (by simp)).trans ((World.cell?_setCell_other _ _ _ _ (by simp)).trans (World.cell?_setCell_same _ _ _ c5)), (World.cell?_setCell_other _ _ _ _ (by simp)).trans (World.cell?_setCell_same _ _ _ ((World.cell?_setCell_other _ _ _ _ (by simp)).trans (c6))), World.cell?_setCell_same _ _ _ ((World.cell?_setCell_other _ _ _ _ (by simp)).trans ((World.cell?_setCell_other _ _ _ _ (by simp)).trans (c7))), (World.cell?_setCell_other _ _ _ _ (by simp)).trans ((World.cell?_setCell_other _ _ _ _ (by simp)).trans ((World.cell?_setCell_other _ _ _ _ (by simp)).trans (c8))), (World.cell?_setCell_other _ _ _ _ (by simp)).trans ((World.cell?_setCell_other _ _ _ _ (by simp)).trans ((World.cell?_setCell_other _ _ _ _ (by simp)).trans (c9))), (World.cell?_setCell_other _ _ _ _ (by simp)).trans ((World.cell?_setCell_other _ _ _ _ (by simp)).trans ((World.cell?_setCell_other _ _ _ _ (by simp)).trans (c10))), (hC.2.2.2.2.2.2.2.2.2.2.2.2.2.2.1).turnsW hT3 (fun _ => by omega), (hC.2.2.2.2.2.2.2.2.2.2.2.2.2.2.2.1).turnsW hT3 (fun q h1 h2 => by have := HUL.out q h1 h2; omega), Below.refl _ _, hT3.below hC.2.2.2.2.2.2.2.2.2.2.2.2.2.2.2.2 (by omega)⟩
  have hs5 := ltCell hG.1
  have hwx := hG.2.2.2.2.2.2.2.2.2.2.2.2.2.2.size
  clear hC hT3 hc r1 r2
  clear c0 c1 c2 c3 c4 c5 c6 c7 c8 c9 c10 c11 c12 c13
  generalize (((w2.setCell ⟨p7, 0, none⟩ (.bool false)).setCell ⟨p7, 1, none⟩ (.int .i64 0)).setCell ⟨p7, 2, none⟩ (.int .i64 0)) = w3 at *
  refine region_relL (wdG w s j m g o p5 p7 b off N f a a1 len1 u w3) (wdY w3.heap.size (.agg #[.int .i64 s, .int .i64 j, .int .i64 m, .int .i64 g, .int .i64 o]) (.slice (some ⟨b, off, none⟩) N cap) (.agg #[.bool false, .int .i64 0, .int .i64 0, .int .i64 0, .int .i64 (-1), .int .i64 0]) (.int .i64 (I : Int)) (.pointer (some ⟨b, off + I * 2, none⟩)) (.int .i64 (f I)) (.agg #[.int .i64 2, .int .i64 (f I)]) (.agg #[.bool true, .int .i64 xl, .int .i64 xh, .int .i64 0, .int .i64 ((I : Int)), .int .i64 0])) 11 (fun _ _ => wdG_on) wdY_on (by kernel_rfl) (by kernel_rfl) (by kernel_rfl) ?_ ?_ ?_
  · exact wdG_on hG (Below.drew (Below.refl _ _))
  · intro j' o' ho hne' vs w4 hC4 hw
    have hBS : w3.heap.size ≤ w4.heap.size := hC4.2.2.2.2.2.2.2.2.2.2.2.2.2.1.size
    have hrq : Row2 w4 b off N f a := hC4.2.2.2.2.2.2.2.2.2.2.2.1
    have x0 := (hrq I hIN).1
    have c0 : w4.cell? ⟨p5, 0, none⟩ = some (.int .i64 s) := hC4.1
    have c1 : w4.cell? ⟨p5, 1, none⟩ = some (.int .i64 j) := hC4.2.1
    have c2 : w4.cell? ⟨p5, 2, none⟩ = some (.int .i64 m) := hC4.2.2.1
    have c3 : w4.cell? ⟨p5, 3, none⟩ = some (.int .i64 g) := hC4.2.2.2.1
    have c4 : w4.cell? ⟨p5, 4, none⟩ = some (.int .i64 o) := hC4.2.2.2.2.1
    have c5 : w4.cell? ⟨p7, 0, none⟩ = some (.bool false) := hC4.2.2.2.2.2.1
    have c6 : w4.cell? ⟨p7, 1, none⟩ = some (.int .i64 0) := hC4.2.2.2.2.2.2.1
    have c7 : w4.cell? ⟨p7, 2, none⟩ = some (.int .i64 0) := hC4.2.2.2.2.2.2.2.1
    have c8 : w4.cell? ⟨p7, 3, none⟩ = some (.int .i64 0) := hC4.2.2.2.2.2.2.2.2.1
    have c9 : w4.cell? ⟨p7, 4, none⟩ = some (.int .i64 (-1)) := hC4.2.2.2.2.2.2.2.2.2.1
    have c10 : w4.cell? ⟨p7, 5, none⟩ = some (.int .i64 0) := hC4.2.2.2.2.2.2.2.2.2.2.1
    match j', ho with
    | 0, ho =>
      cases ho
      clear hw
      simp [mix]
      go_simp
      exact ⟨rfl, Below.refl _ _⟩
    | 1, ho =>
      cases ho
      clear hw
      simp [mix]
      go_simp
      exact ⟨rfl, Below.refl _ _⟩
    | 2, ho =>
      cases ho
      clear hw
      simp [mix]
      go_simp
      exact ⟨rfl, Below.refl _ _⟩
    | 3, ho =>
      cases ho
      clear hw
      simp [mix]
      go_simp
      exact ⟨rfl, Below.refl _ _⟩
    | 4, ho =>
      cases ho
      clear hw
      simp [mix]
      go_simp
      exact ⟨rfl, Below.refl _ _⟩
    | 5, ho =>
      cases ho
      have y3 : vs 3 = _ := hw 3 (waits_of (by kernel_rfl))
      have y4 : vs 4 = _ := hw 4 (waits_of (by kernel_rfl))
      clear hw
      simp [mix, y3, y4]
      go_simp
      exact ⟨rfl, Below.refl _ _⟩
    | 6, ho =>
      cases ho
      have y5 : vs 5 = _ := hw 5 (waits_of (by kernel_rfl))
      clear hw
      simp [mix, y5]
      go_simp
      exact ⟨rfl, Below.refl _ _⟩
    | 7, ho =>
      cases ho
      have y6 : vs 6 = _ := hw 6 (waits_of (by kernel_rfl))
      clear hw
      simp [mix, y6]
      go_simp
      exact ⟨rfl, Below.refl _ _⟩
    | 8, ho =>
      cases ho
      have y7 : vs 7 = _ := hw 7 (waits_of (by kernel_rfl))
      clear hw
      simp [mix, y7]
      go_simp
      exact ⟨rfl, Below.refl _ _⟩
    | 9, ho =>
      cases ho
      have y0 : vs 0 = _ := hw 0 (waits_of (by kernel_rfl))
      have y1 : vs 1 = _ := hw 1 (waits_of (by kernel_rfl))
      have y2 : vs 2 = _ := hw 2 (waits_of (by kernel_rfl))
      have y8 : vs 8 = _ := hw 8 (waits_of (by kernel_rfl))
      clear hw
      simp [mix, y0, y1, y2, y8]
      go_simp
      refine (HX.out _ hrq).mono ?_
      rintro e w5 ⟨rfl, hb5⟩
      exact ⟨_, rfl, rfl, hb5⟩
    | 10, ho =>
      cases ho
      clear hw
      simp [mix]
      go_simp
      exact ⟨⟨_, rfl, hBS, newBlkD _ _ rfl⟩, nbAlloc (Below.refl _ _) _⟩
    | 11, ho => exact absurd rfl hne'
    | k + 12, ho => simp at ho
  intro vs w4 hC4 hy
  have y0 : vs 0 = _ := hy 0 (by simp) (by simp)
  have y1 : vs 1 = _ := hy 1 (by simp) (by simp)
  have y2 : vs 2 = _ := hy 2 (by simp) (by simp)
  have y3 : vs 3 = _ := hy 3 (by simp) (by simp)
  have y4 : vs 4 = _ := hy 4 (by simp) (by simp)
  have y5 : vs 5 = _ := hy 5 (by simp) (by simp)
  have y6 : vs 6 = _ := hy 6 (by simp) (by simp)
  have y7 : vs 7 = _ := hy 7 (by simp) (by simp)
  have y8 : vs 8 = _ := hy 8 (by simp) (by simp)
  have y9 : vs 9 = _ := hy 9 (by simp) (by simp)
  refine Exists.elim (wdY_10 (hy 10 (by simp) (by simp))) (fun p10 e4 => ?_)
  have y10 := e4.1
  have hp := e4.2.1
  have hblk := e4.2.2
  clear e4 hy
  have r0 : w4.cell? ⟨p10, 0, none⟩ = some (.bool false) := by simp [World.cell?, hblk]
  have f0 : w4.frozen? ⟨p10, 0, none⟩ = false := by simp [World.frozen?, hblk]
  have r1 : w4.cell? ⟨p10, 1, none⟩ = some (.int .i64 0) := by simp [World.cell?, hblk]
  have f1 : w4.frozen? ⟨p10, 1, none⟩ = false := by simp [World.frozen?, hblk]
  have r2 : w4.cell? ⟨p10, 2, none⟩ = some (.int .i64 0) := by simp [World.cell?, hblk]
  have f2 : w4.frozen? ⟨p10, 2, none⟩ = false := by simp [World.frozen?, hblk]
  have r3 : w4.cell? ⟨p10, 3, none⟩ = some (.int .i64 0) := by simp [World.cell?, hblk]
  have f3 : w4.frozen? ⟨p10, 3, none⟩ = false := by simp [World.frozen?, hblk]
  have r4 : w4.cell? ⟨p10, 4, none⟩ = some (.int .i64 0) := by simp [World.cell?, hblk]
  have f4 : w4.frozen? ⟨p10, 4, none⟩ = false := by simp [World.frozen?, hblk]
  have r5 : w4.cell? ⟨p10, 5, none⟩ = some (.int .i64 0) := by simp [World.cell?, hblk]
  have f5 : w4.frozen? ⟨p10, 5, none⟩ = false := by simp [World.frozen?, hblk]
  have hT := turn6 (w := w4) (q := p10) (v0 := .bool true) (v1 := .int .i64 xl) (v2 := .int .i64 xh) (v3 := .int .i64 0) (v4 := .int .i64 ((I : Int))) (v5 := .int .i64 0)
  have S := set6 (v0 := .bool true) (v1 := .int .i64 xl) (v2 := .int .i64 xh) (v3 := .int .i64 0) (v4 := .int .i64 ((I : Int))) (v5 := .int .i64 0) r0 r1 r2 r3 r4 r5
  have hH : wdH w s j m g o p5 p10 I xl xh b off N f a a1 len1 u ((((((w4.setCell ⟨p10, 0, none⟩ (.bool true)).setCell ⟨p10, 1, none⟩ (.int .i64 xl)).setCell ⟨p10, 2, none⟩ (.int .i64 xh)).setCell ⟨p10, 3, none⟩ (.int .i64 0)).setCell ⟨p10, 4, none⟩ (.int .i64 ((I : Int)))).setCell ⟨p10, 5, none⟩ (.int .i64 0)) := ⟨hT.cell (by omega) hC4.1, hT.cell (by omega) hC4.2.1, hT.cell (by omega) hC4.2.2.1, hT.cell (by omega) hC4.2.2.2.1, hT.cell (by omega) hC4.2.2.2.2.1, S.1, S.2.1, S.2.2.1, S.2.2.2.1, S.2.2.2.2.1, S.2.2.2.2.2, (hC4.2.2.2.2.2.2.2.2.2.2.2.1).turnsW hT (fun _ => by omega), (hC4.2.2.2.2.2.2.2.2.2.2.2.2.1).turnsW hT (fun q h1 h2 => by have := HUL.out q h1 h2; omega), hT.below hC4.2.2.2.2.2.2.2.2.2.2.2.2.2.2 (by omega)⟩
  refine ⟨?_⟩
  simp only [mix, y0, y1, y2, y3, y4, y5, y6, y7, y8, y9, y10]
  go_simp
  generalize ((((((w4.setCell ⟨p10, 0, none⟩ (.bool true)).setCell ⟨p10, 1, none⟩ (.int .i64 xl)).setCell ⟨p10, 2, none⟩ (.int .i64 xh)).setCell ⟨p10, 3, none⟩ (.int .i64 0)).setCell ⟨p10, 4, none⟩ (.int .i64 ((I : Int)))).setCell ⟨p10, 5, none⟩ (.int .i64 0)) = w5 at *
  clear hT S r0 f0 r1 f1 r2 f2 r3 f3 r4 f4 r5 f5 hblk y0 y1 y2 y3 y4 y5 y6 y7 y8 y9 y10 hC4 hG HX
  have c0 : w5.cell? ⟨p5, 0, none⟩ = some (.int .i64 s) := hH.1
  have c1 : w5.cell? ⟨p5, 1, none⟩ = some (.int .i64 j) := hH.2.1
  have c2 : w5.cell? ⟨p5, 2, none⟩ = some (.int .i64 m) := hH.2.2.1
  have c3 : w5.cell? ⟨p5, 3, none⟩ = some (.int .i64 g) := hH.2.2.2.1
  have c4 : w5.cell? ⟨p5, 4, none⟩ = some (.int .i64 o) := hH.2.2.2.2.1
  have c5 : w5.cell? ⟨p10, 0, none⟩ = some (.bool true) := hH.2.2.2.2.2.1
  have c6 : w5.cell? ⟨p10, 1, none⟩ = some (.int .i64 xl) := hH.2.2.2.2.2.2.1
  have c7 : w5.cell? ⟨p10, 2, none⟩ = some (.int .i64 xh) := hH.2.2.2.2.2.2.2.1
  have c8 : w5.cell? ⟨p10, 3, none⟩ = some (.int .i64 0) := hH.2.2.2.2.2.2.2.2.1
  have c9 : w5.cell? ⟨p10, 4, none⟩ = some (.int .i64 ((I : Int))) := hH.2.2.2.2.2.2.2.2.2.1
  have c10 : w5.cell? ⟨p10, 5, none⟩ = some (.int .i64 0) := hH.2.2.2.2.2.2.2.2.2.2.1
  go_wp2_with fail
  refine (HY.out _ hH.2.2.2.2.2.2.2.2.2.2.2.1).mono ?_
  rintro e w8 ⟨rfl, hb8⟩
  have hH8 := wdH_on hH hb8
  clear c0 c1 c2 c3 c4 c5 c6 c7 c8 c9 c10
  clear hH hb8 HY
  have hK : wdK w s j m g o p5 p10 I xl xh b off N f a a1 len1 u w8.heap.size yl yh c (w8.alloc (.cells #[.bool true, .int .i64 yl, .int .i64 yh, .int .i64 c, .int .i64 ((I : Int)), .int .i64 0] 29)) := ⟨cellNew hH8.1 _, cellNew hH8.2.1 _, cellNew hH8.2.2.1 _, cellNew hH8.2.2.2.1 _, cellNew hH8.2.2.2.2.1 _, cellNew hH8.2.2.2.2.2.1 _, cellNew hH8.2.2.2.2.2.2.1 _, cellNew hH8.2.2.2.2.2.2.2.1 _, cellNew hH8.2.2.2.2.2.2.2.2.1 _, cellNew hH8.2.2.2.2.2.2.2.2.2.1 _, cellNew hH8.2.2.2.2.2.2.2.2.2.2.1 _, by rw [Joins.cell_of_block (newBlkD _ _ rfl)]; rfl, by rw [Joins.cell_of_block (newBlkD _ _ rfl)]; rfl, by rw [Joins.cell_of_block (newBlkD _ _ rfl)]; rfl, by rw [Joins.cell_of_block (newBlkD _ _ rfl)]; rfl, by rw [Joins.cell_of_block (newBlkD _ _ rfl)]; rfl, by rw [Joins.cell_of_block (newBlkD _ _ rfl)]; rfl, (hH8.2.2.2.2.2.2.2.2.2.2.2.1).on (nbAlloc (Below.refl _ _) _), (hH8.2.2.2.2.2.2.2.2.2.2.2.2.1).on (nbAlloc (Below.refl _ _) _), nbAlloc hH8.2.2.2.2.2.2.2.2.2.2.2.2.2 _⟩
  clear hH8
  go_wp2_with fail
  generalize w8.alloc (.cells #[.bool true, .int .i64 yl, .int .i64 yh, .int .i64 c, .int .i64 ((I : Int)), .int .i64 0] 29) = w9 at *
  generalize w8.heap.size = p11 at *
  refine region_kept (wdK w s j m g o p5 p10 I xl xh b off N f a a1 len1 u p11 yl yh c) (by kernel_rfl) (by kernel_rfl) (wdK_on hK (Below.drew (Below.refl _ _))) ?_
  intro hN_
  have k0 : ∀ d : Kept (wdK w s j m g o p5 p10 I xl xh b off N f a a1 len1 u p11 yl yh c), d.w.cell? ⟨p5, 0, none⟩ = some (.int .i64 s) := fun d => d.h.1
  have k1 : ∀ d : Kept (wdK w s j m g o p5 p10 I xl xh b off N f a a1 len1 u p11 yl yh c), d.w.cell? ⟨p5, 1, none⟩ = some (.int .i64 j) := fun d => d.h.2.1
  have k2 : ∀ d : Kept (wdK w s j m g o p5 p10 I xl xh b off N f a a1 len1 u p11 yl yh c), d.w.cell? ⟨p5, 2, none⟩ = some (.int .i64 m) := fun d => d.h.2.2.1
  have k3 : ∀ d : Kept (wdK w s j m g o p5 p10 I xl xh b off N f a a1 len1 u p11 yl yh c), d.w.cell? ⟨p5, 3, none⟩ = some (.int .i64 g) := fun d => d.h.2.2.2.1
  have k4 : ∀ d : Kept (wdK w s j m g o p5 p10 I xl xh b off N f a a1 len1 u p11 yl yh c), d.w.cell? ⟨p5, 4, none⟩ = some (.int .i64 o) := fun d => d.h.2.2.2.2.1
  have k5 : ∀ d : Kept (wdK w s j m g o p5 p10 I xl xh b off N f a a1 len1 u p11 yl yh c), d.w.cell? ⟨p10, 0, none⟩ = some (.bool true) := fun d => d.h.2.2.2.2.2.1
  have k6 : ∀ d : Kept (wdK w s j m g o p5 p10 I xl xh b off N f a a1 len1 u p11 yl yh c), d.w.cell? ⟨p10, 1, none⟩ = some (.int .i64 xl) := fun d => d.h.2.2.2.2.2.2.1
  have k7 : ∀ d : Kept (wdK w s j m g o p5 p10 I xl xh b off N f a a1 len1 u p11 yl yh c), d.w.cell? ⟨p10, 2, none⟩ = some (.int .i64 xh) := fun d => d.h.2.2.2.2.2.2.2.1
  have k8 : ∀ d : Kept (wdK w s j m g o p5 p10 I xl xh b off N f a a1 len1 u p11 yl yh c), d.w.cell? ⟨p10, 3, none⟩ = some (.int .i64 0) := fun d => d.h.2.2.2.2.2.2.2.2.1
  have k9 : ∀ d : Kept (wdK w s j m g o p5 p10 I xl xh b off N f a a1 len1 u p11 yl yh c), d.w.cell? ⟨p10, 4, none⟩ = some (.int .i64 ((I : Int))) := fun d => d.h.2.2.2.2.2.2.2.2.2.1
  have k10 : ∀ d : Kept (wdK w s j m g o p5 p10 I xl xh b off N f a a1 len1 u p11 yl yh c), d.w.cell? ⟨p10, 5, none⟩ = some (.int .i64 0) := fun d => d.h.2.2.2.2.2.2.2.2.2.2.1
  have k11 : ∀ d : Kept (wdK w s j m g o p5 p10 I xl xh b off N f a a1 len1 u p11 yl yh c), d.w.cell? ⟨p11, 0, none⟩ = some (.bool true) := fun d => d.h.2.2.2.2.2.2.2.2.2.2.2.1
  have k12 : ∀ d : Kept (wdK w s j m g o p5 p10 I xl xh b off N f a a1 len1 u p11 yl yh c), d.w.cell? ⟨p11, 1, none⟩ = some (.int .i64 yl) := fun d => d.h.2.2.2.2.2.2.2.2.2.2.2.2.1
  have k13 : ∀ d : Kept (wdK w s j m g o p5 p10 I xl xh b off N f a a1 len1 u p11 yl yh c), d.w.cell? ⟨p11, 2, none⟩ = some (.int .i64 yh) := fun d => d.h.2.2.2.2.2.2.2.2.2.2.2.2.2.1
  have k14 : ∀ d : Kept (wdK w s j m g o p5 p10 I xl xh b off N f a a1 len1 u p11 yl yh c), d.w.cell? ⟨p11, 3, none⟩ = some (.int .i64 c) := fun d => d.h.2.2.2.2.2.2.2.2.2.2.2.2.2.2.1
  have k15 : ∀ d : Kept (wdK w s j m g o p5 p10 I xl xh b off N f a a1 len1 u p11 yl yh c), d.w.cell? ⟨p11, 4, none⟩ = some (.int .i64 ((I : Int))) := fun d => d.h.2.2.2.2.2.2.2.2.2.2.2.2.2.2.2.1
  have k16 : ∀ d : Kept (wdK w s j m g o p5 p10 I xl xh b off N f a a1 len1 u p11 yl yh c), d.w.cell? ⟨p11, 5, none⟩ = some (.int .i64 0) := fun d => d.h.2.2.2.2.2.2.2.2.2.2.2.2.2.2.2.2.1
  have kR : ∀ d : Kept (wdK w s j m g o p5 p10 I xl xh b off N f a a1 len1 u p11 yl yh c), Row2 d.w b off N f a := fun d => d.h.2.2.2.2.2.2.2.2.2.2.2.2.2.2.2.2.2.1
  repeat (go_big_quiet_step (first | (go_at_call 18; exact call_kept _ wdK_on (HWV.out _ (kR _))) | exact rfl))
  refine wpQuiet_nil ?_
  rintro wz ⟨d, hd2⟩
  have hd := d.h
  rw [← hd2] at hd
  clear hd2 k0 k1 k2 k3 k4 k5 k6 k7 k8 k9 k10 k11 k12 k13 k14 k15 k16 kR
  go_wp2_with fail
  go_ret
  exact ⟨by simp, hd.2.2.2.2.2.2.2.2.2.2.2.2.2.2.2.2.2.2.2⟩

end Go.Proofs.Ytmhppadblddjoaa
