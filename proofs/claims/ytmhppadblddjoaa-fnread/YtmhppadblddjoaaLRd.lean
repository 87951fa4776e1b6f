/- Marks that fit, and that do not: the law's walk. -/
import Derived.Test.YtmhppadblddjoaaKnown2
import Derived.Test.YtmhppadblddjoaaWB
import Derived.Test.YtmhppadblddjoaaIDoC
import Derived.Test.YtmhppadblddjoaaDoAll
namespace Go.Proofs.Ytmhppadblddjoaa
open Go.RowKit

theorem Row2.far {w : World} {b off N p o : Nat} {v : Value} {f a : Nat → Int} (h : Row2 w b off N f a) (hb : 0 < N → b ≠ p) : Row2 (w.setCell ⟨p, o, none⟩ v) b off N f a :=
  fun i hi => ⟨cellFar (hb (by omega)) (h i hi).1, cellFar (hb (by omega)) (h i hi).2⟩
theorem BytesV.far {w : World} {a0 : Option Addr} {len p o : Nat} {v : Value} {u : Nat → Int} (h : BytesV w a0 len u) (hb : ∀ q, 0 < len → a0 = some q → q.block ≠ p) : BytesV (w.setCell ⟨p, o, none⟩ v) a0 len u := by
  rcases h with h | ⟨b, off, h1, h3⟩
  · exact .inl h
  · exact .inr ⟨b, off, h1, fun i hi => ⟨(h3 i hi).1, (h3 i hi).2.1, cellFar (hb _ (by omega) h1) (h3 i hi).2.2⟩⟩
theorem Row2.turnsB {w w' : World} {b off N p : Nat} {f a : Nat → Int} (h : Row2 w b off N f a) (hT : Turns p w w') (hb : 0 < N → b ≠ p) : Row2 w' b off N f a :=
  fun i hi => ⟨hT.cell (hb (by omega)) (h i hi).1, hT.cell (hb (by omega)) (h i hi).2⟩
theorem BytesV.turnsB {w w' : World} {a0 : Option Addr} {len p : Nat} {u : Nat → Int} (h : BytesV w a0 len u) (hT : Turns p w w') (hb : ∀ q, 0 < len → a0 = some q → q.block ≠ p) : BytesV w' a0 len u := by
  rcases h with h | ⟨b, off, h1, h3⟩
  · exact .inl h
  · exact .inr ⟨b, off, h1, fun i hi => ⟨(h3 i hi).1, (h3 i hi).2.1, hT.cell (hb _ (by omega) h1) (h3 i hi).2.2⟩⟩
theorem BytesV.lt {w : World} {a0 : Option Addr} {len : Nat} {u : Nat → Int} (h : BytesV w a0 len u) : ∀ q, 0 < len → a0 = some q → q.block < w.heap.size := fun q hl hq => by
  rcases h with h | ⟨b, off, h1, h3⟩
  · omega
  · rw [h1] at hq
    cases hq
    exact ltCell (h3 0 hl).2.2

theorem fieldOdd (kn : Bool) (l h si la od : Int) (w : World) : (Instr.field 29 (.agg #[.bool kn, .int .i64 l, .int .i64 h, .int .i64 si, .int .i64 la, .int .i64 od]) 4).run Try.prog w = .ok (.int .i64 od) w := by kernel_rfl

/-- What behind the mark is believed. -/
theorem read_D {s j m g o L H : Int} {N I : Nat} {f a : Nat → Int} (hr : rOk s j m g o = true) (hm1 : m < 30) (hmk : marksB f a N = true) (hI : I < N) (hinj : ∀ i k, i < N → k < N → f i = f k → i = k) (hz0 : 0 ≤ a I) (hz1 : a I ≤ 5000) (hL0 : -1000 ≤ L) (hLH : L ≤ H) (hH : H ≤ 100000) :
    ∃ dl dh dod, doA s j m g o N f a ⟨true, L, H, 0, -1, 0⟩ 2 (f I) = ⟨true, dl, dh, 0, (I : Int), dod⟩ ∧ ((L ≤ a I + m ∧ a I - m ≤ H ∧ dl = max L (a I - m) ∧ dh = min H (a I + m) ∧ dod = 0) ∨ (¬ (L ≤ a I + m ∧ a I - m ≤ H) ∧ dl = min L (a I - m) ∧ dh = max H (a I + m) ∧ dod = 1)) := by
  have hm0 : 0 ≤ m := by
    simp only [rOk, inB, Bool.and_eq_true, decide_eq_true_eq] at hr
    omega
  have hst : stB (marksB f a N) N true L H 0 (-1) 0 = true := by
    simp [stB, inB, bOk, hmk]
    omega
  have hnm := marksB_name hmk hI
  have hev : evB 2 (f I) = true := by simpa [evB] using hnm
  have hix : lastIx f (f I) N = (I : Int) := by
    rcases lastIx_cases f (f I) N with ⟨-, h2⟩ | ⟨i, h1, h2, h3⟩
    · exact absurd rfl (h2 I hI)
    · rw [h1, hinj i I h2 hI h3]
  have hA : doA s j m g o N f a ⟨true, L, H, 0, -1, 0⟩ 2 (f I) = doM s j m N f a ⟨true, L, H, 0, -1, 0⟩ 2 (f I) := by simp only [doA, hr, hst, hev, Bool.and_self, if_true]
  have hlt : ¬ ((I : Int) < 0) := by omega
  have e1 : min (a I - m) 100000000 = a I - m := by omega
  have e2 : min (a I + m) 100000000 = a I + m := by omega
  rw [hA]
  cases hmt : mB L H (a I - m) (a I + m)
  · refine ⟨min L (a I - m), max H (a I + m), 1, ?_, .inr ⟨?_, rfl, rfl, rfl⟩⟩
    · simp [doM, hix, hlt, e1, e2, hmt]
      omega
    · simp only [mB, Bool.and_eq_false_iff, decide_eq_false_iff_not] at hmt
      omega
  · refine ⟨max L (a I - m), min H (a I + m), 0, ?_, .inl ⟨?_, ?_, rfl, rfl, rfl⟩⟩
    · simp [doM, hix, hlt, e1, e2, hmt]
    · simp only [mB, Bool.and_eq_true, decide_eq_true_eq] at hmt
      omega
    · simp only [mB, Bool.and_eq_true, decide_eq_true_eq] at hmt
      omega

def rfC (w : World) (s j m g o bl bh : Int) (p5 p7 : Nat) (b off N : Nat) (f a : Nat → Int) (a1 : Option Addr) (len1 : Nat) (u : Nat → Int) : World → Prop := fun w' => w'.cell? ⟨p5, 0, none⟩ = some (.int .i64 s) ∧ w'.cell? ⟨p5, 1, none⟩ = some (.int .i64 j) ∧ w'.cell? ⟨p5, 2, none⟩ = some (.int .i64 m) ∧ w'.cell? ⟨p5, 3, none⟩ = some (.int .i64 g) ∧ w'.cell? ⟨p5, 4, none⟩ = some (.int .i64 o) ∧ w'.cell? ⟨p7, 0, none⟩ = some (.bool true) ∧ w'.cell? ⟨p7, 1, none⟩ = some (.int .i64 bl) ∧ w'.cell? ⟨p7, 2, none⟩ = some (.int .i64 bh) ∧ w'.cell? ⟨p7, 3, none⟩ = some (.int .i64 0) ∧ w'.cell? ⟨p7, 4, none⟩ = some (.int .i64 (-1)) ∧ w'.cell? ⟨p7, 5, none⟩ = some (.int .i64 0) ∧ w'.frozen? ⟨p7, 0, none⟩ = false ∧ w'.frozen? ⟨p7, 1, none⟩ = false ∧ w'.frozen? ⟨p7, 2, none⟩ = false ∧ w'.frozen? ⟨p7, 3, none⟩ = false ∧ w'.frozen? ⟨p7, 4, none⟩ = false ∧ w'.frozen? ⟨p7, 5, none⟩ = false ∧ Row2 w' b off N f a ∧ BytesV w' a1 len1 u ∧ Below w.heap.size w w'
theorem rfC_on {w : World} {s j m g o bl bh : Int} {p5 p7 : Nat} {b off N : Nat} {f a : Nat → Int} {a1 : Option Addr} {len1 : Nat} {u : Nat → Int} {w1 w2 : World} (hh : rfC w s j m g o bl bh p5 p7 b off N f a a1 len1 u w1) (hb : Below w1.heap.size w1 w2) : rfC w s j m g o bl bh p5 p7 b off N f a a1 len1 u w2 :=
  ⟨cellOn hb hh.1, cellOn hb hh.2.1, cellOn hb hh.2.2.1, cellOn hb hh.2.2.2.1, cellOn hb hh.2.2.2.2.1, cellOn hb hh.2.2.2.2.2.1, cellOn hb hh.2.2.2.2.2.2.1, cellOn hb hh.2.2.2.2.2.2.2.1, cellOn hb hh.2.2.2.2.2.2.2.2.1, cellOn hb hh.2.2.2.2.2.2.2.2.2.1, cellOn hb hh.2.2.2.2.2.2.2.2.2.2.1, frozenOn hb hh.2.2.2.2.2.1 hh.2.2.2.2.2.2.2.2.2.2.2.1, frozenOn hb hh.2.2.2.2.2.2.1 hh.2.2.2.2.2.2.2.2.2.2.2.2.1, frozenOn hb hh.2.2.2.2.2.2.2.1 hh.2.2.2.2.2.2.2.2.2.2.2.2.2.1, frozenOn hb hh.2.2.2.2.2.2.2.2.1 hh.2.2.2.2.2.2.2.2.2.2.2.2.2.2.1, frozenOn hb hh.2.2.2.2.2.2.2.2.2.1 hh.2.2.2.2.2.2.2.2.2.2.2.2.2.2.2.1, frozenOn hb hh.2.2.2.2.2.2.2.2.2.2.1 hh.2.2.2.2.2.2.2.2.2.2.2.2.2.2.2.2.1, hh.2.2.2.2.2.2.2.2.2.2.2.2.2.2.2.2.2.1.on hb, hh.2.2.2.2.2.2.2.2.2.2.2.2.2.2.2.2.2.2.1.on hb, nbTrans hh.2.2.2.2.2.2.2.2.2.2.2.2.2.2.2.2.2.2.2 hb⟩

theorem rfC_l {w : World} {s j m g o bl bh : Int} {p5 p7 : Nat} {b off N : Nat} {f a : Nat → Int} {a1 : Option Addr} {len1 : Nat} {u : Nat → Int} {w1 : World} (hh : rfC w s j m g o bl bh p5 p7 b off N f a a1 len1 u w1) (X : Int) (hp : p5 ≠ p7) (hw : w.heap.size ≤ p7) (hb1 : 0 < N → b ≠ p7) (hb2 : ∀ q, 0 < len1 → a1 = some q → q.block ≠ p7) : rfC w s j m g o X bh p5 p7 b off N f a a1 len1 u (w1.setCell ⟨p7, 1, none⟩ (.int .i64 X)) :=
  ⟨cellFar (by omega) hh.1,
   cellFar (by omega) hh.2.1,
   cellFar (by omega) hh.2.2.1,
   cellFar (by omega) hh.2.2.2.1,
   cellFar (by omega) hh.2.2.2.2.1,
   (World.cell?_setCell_other _ _ _ _ (by simp)).trans hh.2.2.2.2.2.1,
   World.cell?_setCell_same _ _ _ hh.2.2.2.2.2.2.1,
   (World.cell?_setCell_other _ _ _ _ (by simp)).trans hh.2.2.2.2.2.2.2.1,
   (World.cell?_setCell_other _ _ _ _ (by simp)).trans hh.2.2.2.2.2.2.2.2.1,
   (World.cell?_setCell_other _ _ _ _ (by simp)).trans hh.2.2.2.2.2.2.2.2.2.1,
   (World.cell?_setCell_other _ _ _ _ (by simp)).trans hh.2.2.2.2.2.2.2.2.2.2.1,
   (World.frozen?_setCell _ _ _ _).trans hh.2.2.2.2.2.2.2.2.2.2.2.1,
   (World.frozen?_setCell _ _ _ _).trans hh.2.2.2.2.2.2.2.2.2.2.2.2.1,
   (World.frozen?_setCell _ _ _ _).trans hh.2.2.2.2.2.2.2.2.2.2.2.2.2.1,
   (World.frozen?_setCell _ _ _ _).trans hh.2.2.2.2.2.2.2.2.2.2.2.2.2.2.1,
   (World.frozen?_setCell _ _ _ _).trans hh.2.2.2.2.2.2.2.2.2.2.2.2.2.2.2.1,
   (World.frozen?_setCell _ _ _ _).trans hh.2.2.2.2.2.2.2.2.2.2.2.2.2.2.2.2.1,
   (hh.2.2.2.2.2.2.2.2.2.2.2.2.2.2.2.2.2.1).far hb1,
   (hh.2.2.2.2.2.2.2.2.2.2.2.2.2.2.2.2.2.2.1).far hb2,
   nbSetX hh.2.2.2.2.2.2.2.2.2.2.2.2.2.2.2.2.2.2.2 (by omega)⟩

theorem rfC_h {w : World} {s j m g o bl bh : Int} {p5 p7 : Nat} {b off N : Nat} {f a : Nat → Int} {a1 : Option Addr} {len1 : Nat} {u : Nat → Int} {w1 : World} (hh : rfC w s j m g o bl bh p5 p7 b off N f a a1 len1 u w1) (X : Int) (hp : p5 ≠ p7) (hw : w.heap.size ≤ p7) (hb1 : 0 < N → b ≠ p7) (hb2 : ∀ q, 0 < len1 → a1 = some q → q.block ≠ p7) : rfC w s j m g o bl X p5 p7 b off N f a a1 len1 u (w1.setCell ⟨p7, 2, none⟩ (.int .i64 X)) :=
  ⟨cellFar (by omega) hh.1,
   cellFar (by omega) hh.2.1,
   cellFar (by omega) hh.2.2.1,
   cellFar (by omega) hh.2.2.2.1,
   cellFar (by omega) hh.2.2.2.2.1,
   (World.cell?_setCell_other _ _ _ _ (by simp)).trans hh.2.2.2.2.2.1,
   (World.cell?_setCell_other _ _ _ _ (by simp)).trans hh.2.2.2.2.2.2.1,
   World.cell?_setCell_same _ _ _ hh.2.2.2.2.2.2.2.1,
   (World.cell?_setCell_other _ _ _ _ (by simp)).trans hh.2.2.2.2.2.2.2.2.1,
   (World.cell?_setCell_other _ _ _ _ (by simp)).trans hh.2.2.2.2.2.2.2.2.2.1,
   (World.cell?_setCell_other _ _ _ _ (by simp)).trans hh.2.2.2.2.2.2.2.2.2.2.1,
   (World.frozen?_setCell _ _ _ _).trans hh.2.2.2.2.2.2.2.2.2.2.2.1,
   (World.frozen?_setCell _ _ _ _).trans hh.2.2.2.2.2.2.2.2.2.2.2.2.1,
   (World.frozen?_setCell _ _ _ _).trans hh.2.2.2.2.2.2.2.2.2.2.2.2.2.1,
   (World.frozen?_setCell _ _ _ _).trans hh.2.2.2.2.2.2.2.2.2.2.2.2.2.2.1,
   (World.frozen?_setCell _ _ _ _).trans hh.2.2.2.2.2.2.2.2.2.2.2.2.2.2.2.1,
   (World.frozen?_setCell _ _ _ _).trans hh.2.2.2.2.2.2.2.2.2.2.2.2.2.2.2.2.1,
   (hh.2.2.2.2.2.2.2.2.2.2.2.2.2.2.2.2.2.1).far hb1,
   (hh.2.2.2.2.2.2.2.2.2.2.2.2.2.2.2.2.2.2.1).far hb2,
   nbSetX hh.2.2.2.2.2.2.2.2.2.2.2.2.2.2.2.2.2.2.2 (by omega)⟩

def rgC (w : World) (s j m g o bl bh : Int) (p5 p7 : Nat) (b off N : Nat) (f a : Nat → Int) (a1 : Option Addr) (len1 : Nat) (u : Nat → Int) (wx : World) : World → Prop := fun w' => w'.cell? ⟨p5, 0, none⟩ = some (.int .i64 s) ∧ w'.cell? ⟨p5, 1, none⟩ = some (.int .i64 j) ∧ w'.cell? ⟨p5, 2, none⟩ = some (.int .i64 m) ∧ w'.cell? ⟨p5, 3, none⟩ = some (.int .i64 g) ∧ w'.cell? ⟨p5, 4, none⟩ = some (.int .i64 o) ∧ w'.cell? ⟨p7, 0, none⟩ = some (.bool true) ∧ w'.cell? ⟨p7, 1, none⟩ = some (.int .i64 bl) ∧ w'.cell? ⟨p7, 2, none⟩ = some (.int .i64 bh) ∧ w'.cell? ⟨p7, 3, none⟩ = some (.int .i64 0) ∧ w'.cell? ⟨p7, 4, none⟩ = some (.int .i64 (-1)) ∧ w'.cell? ⟨p7, 5, none⟩ = some (.int .i64 0) ∧ Row2 w' b off N f a ∧ BytesV w' a1 len1 u ∧ Below wx.heap.size wx w' ∧ Below w.heap.size w w'
theorem rgC_on {w : World} {s j m g o bl bh : Int} {p5 p7 : Nat} {b off N : Nat} {f a : Nat → Int} {a1 : Option Addr} {len1 : Nat} {u : Nat → Int} {wx : World} {w1 w2 : World} (hh : rgC w s j m g o bl bh p5 p7 b off N f a a1 len1 u wx w1) (hb : Below w1.heap.size w1 w2) : rgC w s j m g o bl bh p5 p7 b off N f a a1 len1 u wx w2 :=
  ⟨cellOn hb hh.1, cellOn hb hh.2.1, cellOn hb hh.2.2.1, cellOn hb hh.2.2.2.1, cellOn hb hh.2.2.2.2.1, cellOn hb hh.2.2.2.2.2.1, cellOn hb hh.2.2.2.2.2.2.1, cellOn hb hh.2.2.2.2.2.2.2.1, cellOn hb hh.2.2.2.2.2.2.2.2.1, cellOn hb hh.2.2.2.2.2.2.2.2.2.1, cellOn hb hh.2.2.2.2.2.2.2.2.2.2.1, hh.2.2.2.2.2.2.2.2.2.2.2.1.on hb, hh.2.2.2.2.2.2.2.2.2.2.2.2.1.on hb, nbTrans hh.2.2.2.2.2.2.2.2.2.2.2.2.2.1 hb, nbTrans hh.2.2.2.2.2.2.2.2.2.2.2.2.2.2 hb⟩

def rhC (w : World) (s j m g o bl bh : Int) (p5 p7 : Nat) (b off N : Nat) (f a : Nat → Int) (a1 : Option Addr) (len1 : Nat) (u : Nat → Int) (p10 I : Nat) (dl dh dod : Int) : World → Prop := fun w' => w'.cell? ⟨p5, 0, none⟩ = some (.int .i64 s) ∧ w'.cell? ⟨p5, 1, none⟩ = some (.int .i64 j) ∧ w'.cell? ⟨p5, 2, none⟩ = some (.int .i64 m) ∧ w'.cell? ⟨p5, 3, none⟩ = some (.int .i64 g) ∧ w'.cell? ⟨p5, 4, none⟩ = some (.int .i64 o) ∧ w'.cell? ⟨p7, 0, none⟩ = some (.bool true) ∧ w'.cell? ⟨p7, 1, none⟩ = some (.int .i64 bl) ∧ w'.cell? ⟨p7, 2, none⟩ = some (.int .i64 bh) ∧ w'.cell? ⟨p7, 3, none⟩ = some (.int .i64 0) ∧ w'.cell? ⟨p7, 4, none⟩ = some (.int .i64 (-1)) ∧ w'.cell? ⟨p7, 5, none⟩ = some (.int .i64 0) ∧ w'.cell? ⟨p10, 0, none⟩ = some (.bool true) ∧ w'.cell? ⟨p10, 1, none⟩ = some (.int .i64 dl) ∧ w'.cell? ⟨p10, 2, none⟩ = some (.int .i64 dh) ∧ w'.cell? ⟨p10, 3, none⟩ = some (.int .i64 0) ∧ w'.cell? ⟨p10, 4, none⟩ = some (.int .i64 ((I : Int))) ∧ w'.cell? ⟨p10, 5, none⟩ = some (.int .i64 dod) ∧ Row2 w' b off N f a ∧ BytesV w' a1 len1 u ∧ Below w.heap.size w w'
theorem rhC_on {w : World} {s j m g o bl bh : Int} {p5 p7 : Nat} {b off N : Nat} {f a : Nat → Int} {a1 : Option Addr} {len1 : Nat} {u : Nat → Int} {p10 I : Nat} {dl dh dod : Int} {w1 w2 : World} (hh : rhC w s j m g o bl bh p5 p7 b off N f a a1 len1 u p10 I dl dh dod w1) (hb : Below w1.heap.size w1 w2) : rhC w s j m g o bl bh p5 p7 b off N f a a1 len1 u p10 I dl dh dod w2 :=
  ⟨cellOn hb hh.1, cellOn hb hh.2.1, cellOn hb hh.2.2.1, cellOn hb hh.2.2.2.1, cellOn hb hh.2.2.2.2.1, cellOn hb hh.2.2.2.2.2.1, cellOn hb hh.2.2.2.2.2.2.1, cellOn hb hh.2.2.2.2.2.2.2.1, cellOn hb hh.2.2.2.2.2.2.2.2.1, cellOn hb hh.2.2.2.2.2.2.2.2.2.1, cellOn hb hh.2.2.2.2.2.2.2.2.2.2.1, cellOn hb hh.2.2.2.2.2.2.2.2.2.2.2.1, cellOn hb hh.2.2.2.2.2.2.2.2.2.2.2.2.1, cellOn hb hh.2.2.2.2.2.2.2.2.2.2.2.2.2.1, cellOn hb hh.2.2.2.2.2.2.2.2.2.2.2.2.2.2.1, cellOn hb hh.2.2.2.2.2.2.2.2.2.2.2.2.2.2.2.1, cellOn hb hh.2.2.2.2.2.2.2.2.2.2.2.2.2.2.2.2.1, hh.2.2.2.2.2.2.2.2.2.2.2.2.2.2.2.2.2.1.on hb, hh.2.2.2.2.2.2.2.2.2.2.2.2.2.2.2.2.2.2.1.on hb, nbTrans hh.2.2.2.2.2.2.2.2.2.2.2.2.2.2.2.2.2.2.2 hb⟩

def rdY (B : Nat) (rv mv sv iv pv nv ev dv : Value) : Nat → Value → World → Prop
  | 0, v, _ => v = rv
  | 1, v, _ => v = mv
  | 2, v, _ => v = sv
  | 3, v, _ => v = mv
  | 4, v, _ => v = iv
  | 5, v, _ => v = pv
  | 6, v, _ => v = pv
  | 7, v, _ => v = nv
  | 8, v, _ => v = ev
  | 9, v, _ => v = dv
  | 10, v, w => ∃ p, v = .pointer (some ⟨p, 0, none⟩) ∧ B ≤ p ∧ w.heap[p]? = some (.cells #[.bool false, .int .i64 0, .int .i64 0, .int .i64 0, .int .i64 0, .int .i64 0] 29)
  | _, _, _ => True
theorem rdY_on {B : Nat} {rv mv sv iv pv nv ev dv : Value} : ∀ jj v w w', rdY B rv mv sv iv pv nv ev dv jj v w → Below w.heap.size w w' → rdY B rv mv sv iv pv nv ev dv jj v w'
  | 0, _, _, _, h, _ => h
  | 1, _, _, _, h, _ => h
  | 2, _, _, _, h, _ => h
  | 3, _, _, _, h, _ => h
  | 4, _, _, _, h, _ => h
  | 5, _, _, _, h, _ => h
  | 6, _, _, _, h, _ => h
  | 7, _, _, _, h, _ => h
  | 8, _, _, _, h, _ => h
  | 9, _, _, _, h, _ => h
  | 10, _, _, _, ⟨p, h1, h2, h3⟩, hb => ⟨p, h1, h2, by rw [hb.block p (Array.getElem?_eq_some_iff.1 h3).1]; exact h3⟩
  | _ + 11, _, _, _, _, _ => trivial
theorem rdY_10 {B : Nat} {rv mv sv iv pv nv ev dv : Value} {v : Value} {w : World} (h : rdY B rv mv sv iv pv nv ev dv 10 v w) : ∃ p, v = .pointer (some ⟨p, 0, none⟩) ∧ B ≤ p ∧ w.heap[p]? = some (.cells #[.bool false, .int .i64 0, .int .i64 0, .int .i64 0, .int .i64 0, .int .i64 0] 29) := h

def raY (p1 p2 lv xv bv3 hv : Value) : Nat → Value → World → Prop
  | 0, v, _ => v = p1
  | 1, v, _ => v = p1
  | 2, v, _ => v = lv
  | 3, v, _ => v = xv
  | 4, v, _ => v = bv3
  | 5, v, _ => v = hv
  | 6, v, _ => v = p1
  | 7, v, _ => v = p2
  | _, _, _ => True
theorem raY_on {p1 p2 lv xv bv3 hv : Value} : ∀ jj v w w', raY p1 p2 lv xv bv3 hv jj v w → Below w.heap.size w w' → raY p1 p2 lv xv bv3 hv jj v w'
  | 0, _, _, _, h, _ => h
  | 1, _, _, _, h, _ => h
  | 2, _, _, _, h, _ => h
  | 3, _, _, _, h, _ => h
  | 4, _, _, _, h, _ => h
  | 5, _, _, _, h, _ => h
  | 6, _, _, _, h, _ => h
  | 7, _, _, _, h, _ => h
  | _ + 8, _, _, _, _, _ => trivial

set_option maxRecDepth 100000 in
set_option maxHeartbeats 4000000 in
theorem read_in (a0 a1 : Option Addr) (len0 cap0 len1 cap1 : Nat) (w : World) (hl0 : len0 ≤ 1048576) (hl1 : len1 ≤ 1048576) (hb0 : Bytes w a0 len0) (hb1 : Bytes w a1 len1) :
    Calls Try.prog 3 #[.slice a0 len0 cap0, .slice a1 len1 cap1] w fun e w' => e = .returned (.bool true) ∧ Below w.heap.size w w' := by
  have i0 : ¬ (1048576 : Int) < (len0 : Int) := by omega
  have i1 : ¬ (1048576 : Int) < (len1 : Int) := by omega
  obtain ⟨u, hu⟩ := hb1.toV
  have HU : Hid (BytesV w a1 len1 u) := hu
  clear hb1 hu
  go_enter Try.func3, Try.ntmps3
  go_wp2_with fail
  refine (known_d a0 len0 cap0 _ hb0).mono ?_
  rintro e w1 ⟨s, j, m, g, o, bl, bh, mv, N, xs, rfl, s0, s1, j0, j1, m0, m1, g0, g1, o0, o1, l0, l1, lh, h1, hDM, hown, hB1⟩
  obtain ⟨t, hN, ht, hD⟩ := hDM
  obtain ⟨f, a, rfl, hmk, hpl, hinj⟩ := hD.marks hN ht
  obtain ⟨ad, cap, rfl, hrow⟩ := mkRow_of hown
  have HMK : Hid (marksB f a N = true) := hmk
  have HPL : Hid (∀ i, i < N → 0 ≤ a i ∧ a i ≤ 5000) := hpl
  have HIJ : Hid (∀ i k, i < N → k < N → f i = f k → i = k) := hinj
  have HN : Hid (N ≤ 7) := hN
  have hrk : Hid (rOk s j m g o = true) := by
    unfold Hid
    simp only [rOk, inB, Bool.and_eq_true, decide_eq_true_eq]
    omega
  clear hmk hpl hinj hD hown t hN ht hb0
  by_cases hN0 : N = 0
  · subst hN0
    have hst : Hid (stB (marksB f a 0) 0 true bl bh 0 (-1) 0 = true) := by
      unfold Hid
      simp [stB, inB, bOk, HMK.out]
      omega
    go_wp2_with fail
    refine (implDo_s ad 0 cap f a s j m g o ⟨true, bl, bh, 0, -1, 0⟩ 2 5 _ (by omega) (.inl rfl)).mono ?_
    rintro e w3 ⟨rfl, hb3⟩
    have hA : doA s j m g o 0 f a ⟨true, bl, bh, 0, -1, 0⟩ 2 5 = ⟨true, bl, bh, 0, -1, 1⟩ := by simp [doA, doM, hrk.out, hst.out, evB, inB, lastIx]; omega
    rw [hA]
    simp only [St.v]
    have hfo := fieldOdd
    go_wp2_with fail
    go_ret
    exact ⟨rfl, nbTrans (nbAlloc (nbAlloc hB1 _) _) hb3⟩
  rcases hrow with hz | ⟨b, off, rfl, hr⟩
  · exact absurd hz hN0
  have hne : ((N : Int) == 0) = false := by simp; omega
  have HN0 : Hid (0 < N) := by unfold Hid; omega
  clear hN0
  go_wp2_with fail
  have hbN : b < w1.heap.size := ltCell (hr 0 HN0.out).1
  have hC : rfC w s j m g o bl bh w1.heap.size (w1.heap.size + 1) b off N f a a1 len1 u ((w1.alloc (.cells #[.int .i64 s, .int .i64 j, .int .i64 m, .int .i64 g, .int .i64 o] 24)).alloc (.cells #[.bool true, .int .i64 bl, .int .i64 bh, .int .i64 0, .int .i64 (-1), .int .i64 0] 29)) := by
    refine ⟨?_, ?_, ?_, ?_, ?_, ?_, ?_, ?_, ?_, ?_, ?_, ?_, ?_, ?_, ?_, ?_, ?_, hr.on ?_, HU.out.on ?_, nbAlloc (nbAlloc hB1 _) _⟩
    case refine_18 => exact nbAlloc (nbAlloc (Below.refl _ _) _) _
    case refine_19 => exact nbAlloc (nbAlloc hB1 _) _
    all_goals go_simp
  have hul : ∀ q, 0 < len1 → a1 = some q → q.block < w1.heap.size := fun q hq he => Nat.lt_of_lt_of_le (HU.out.lt q hq he) hB1.size
  have HUL : Hid (∀ q, 0 < len1 → a1 = some q → q.block < w1.heap.size) := hul
  have hbs : w.heap.size ≤ w1.heap.size := hB1.size
  clear hul hB1 hr
  generalize ((w1.alloc (.cells #[.int .i64 s, .int .i64 j, .int .i64 m, .int .i64 g, .int .i64 o] 24)).alloc (.cells #[.bool true, .int .i64 bl, .int .i64 bh, .int .i64 0, .int .i64 (-1), .int .i64 0] 29)) = w2 at *
  have hpq : w1.heap.size < w1.heap.size + 1 := by omega
  generalize w1.heap.size + 1 = p7 at *
  generalize w1.heap.size = p5 at *
  refine (wByteV_c a1 len1 cap1 u 0 _ hC.2.2.2.2.2.2.2.2.2.2.2.2.2.2.2.2.2.2.1 hl1 (by omega) (by omega)).mono ?_
  rintro e w' ⟨rfl, rfl⟩
  have r0 := bv_range HU.out 0
  generalize bv len1 u 0 = v0 at *
  obtain ⟨I, hI⟩ : ∃ I : Nat, v0 % (N : Int) = (I : Int) := ⟨(v0 % (N : Int)).toNat, (Int.toNat_of_nonneg (Int.emod_nonneg _ (by have := HN0.out; omega))).symm⟩
  have hIN : I < N := by
    have h2 := Int.emod_lt_of_pos v0 (show (0 : Int) < (N : Int) by have := HN0.out; omega)
    omega
  have i2 : (0 : Int) ≤ (I : Int) := by omega
  have i3 : (I : Int) < (N : Int) := by omega
  have d0 := (hC.2.2.2.2.2.2.2.2.2.2.2.2.2.2.2.2.2.1 I hIN).1
  have d1 := (hC.2.2.2.2.2.2.2.2.2.2.2.2.2.2.2.2.2.1 I hIN).2
  have hz := HPL.out I hIN
  have HZ : Hid (0 ≤ a I ∧ a I ≤ 5000) := hz
  go_wp2_with fail
  simp only [hI]
  clear r0 hI
  refine (wByteV_c a1 len1 cap1 u 1 _ hC.2.2.2.2.2.2.2.2.2.2.2.2.2.2.2.2.2.2.1 hl1 (by omega) (by omega)).mono ?_
  rintro e w' ⟨rfl, rfl⟩
  have r1 := bv_range HU.out 1
  generalize bv len1 u 1 = v1 at *
  cases hadj : (v1 % 2 == 0)
  · have HLH : Hid (-1000 ≤ bl ∧ bl ≤ bh ∧ bh ≤ 100000) := ⟨by omega, by omega, by omega⟩
    refine Exists.elim (read_D (L := bl) (H := bh) hrk.out m1 HMK.out hIN HIJ.out HZ.out.1 HZ.out.2 HLH.out.1 HLH.out.2.1 HLH.out.2.2) (fun dl e1 => ?_)
    refine Exists.elim e1 (fun dh e2 => ?_)
    refine Exists.elim e2 (fun dod e3 => ?_)
    have HD := e3.1
    have HCS : Hid (_ ∨ _) := e3.2
    have HI : Hid (∀ w, Row2 w b off N f a → Calls Try.prog 13 #[.agg #[.int .i64 s, .int .i64 j, .int .i64 m, .int .i64 g, .int .i64 o], .slice (some ⟨b, off, none⟩) N cap, .agg #[.bool true, .int .i64 bl, .int .i64 bh, .int .i64 0, .int .i64 (-1), .int .i64 0], .agg #[.int .i64 2, .int .i64 (f I)]] w fun e w' => e = .returned (.agg #[.bool true, .int .i64 dl, .int .i64 dh, .int .i64 0, .int .i64 ((I : Int)), .int .i64 dod]) ∧ Below w.heap.size w w') := fun w hr => calls_eq (by rw [HD]; rfl) (implDo_s (some ⟨b, off, none⟩) N cap f a s j m g o ⟨true, bl, bh, 0, -1, 0⟩ 2 (f I) w (by have := HN.out; omega) (.inr ⟨b, off, rfl, hr⟩))
    have HS : Hid (∀ w, Row2 w b off N f a → Calls Try.prog 15 #[.agg #[.int .i64 s, .int .i64 j, .int .i64 m, .int .i64 g, .int .i64 o], .slice (some ⟨b, off, none⟩) N cap, .agg #[.bool true, .int .i64 bl, .int .i64 bh, .int .i64 0, .int .i64 (-1), .int .i64 0], .agg #[.int .i64 2, .int .i64 (f I)]] w fun e w' => e = .returned (.agg #[.bool true, .int .i64 dl, .int .i64 dh, .int .i64 0, .int .i64 ((I : Int)), .int .i64 dod]) ∧ Below w.heap.size w w') := fun w hr => calls_eq (by rw [HD]; rfl) (specDo_c b off N cap f a s j m g o ⟨true, bl, bh, 0, -1, 0⟩ 2 (f I) w (by have := HN.out; omega) hr)
    clear e1 e2 e3 HD
    have c0 : w2.cell? ⟨p5, 0, none⟩ = some (.int .i64 s) := hC.1
    have c1 : w2.cell? ⟨p5, 1, none⟩ = some (.int .i64 j) := hC.2.1
    have c2 : w2.cell? ⟨p5, 2, none⟩ = some (.int .i64 m) := hC.2.2.1
    have c3 : w2.cell? ⟨p5, 3, none⟩ = some (.int .i64 g) := hC.2.2.2.1
    have c4 : w2.cell? ⟨p5, 4, none⟩ = some (.int .i64 o) := hC.2.2.2.2.1
    have c5 : w2.cell? ⟨p7, 0, none⟩ = some (.bool true) := hC.2.2.2.2.2.1
    have c6 : w2.cell? ⟨p7, 1, none⟩ = some (.int .i64 bl) := hC.2.2.2.2.2.2.1
    have c7 : w2.cell? ⟨p7, 2, none⟩ = some (.int .i64 bh) := hC.2.2.2.2.2.2.2.1
    have c8 : w2.cell? ⟨p7, 3, none⟩ = some (.int .i64 0) := hC.2.2.2.2.2.2.2.2.1
    have c9 : w2.cell? ⟨p7, 4, none⟩ = some (.int .i64 (-1)) := hC.2.2.2.2.2.2.2.2.2.1
    have c10 : w2.cell? ⟨p7, 5, none⟩ = some (.int .i64 0) := hC.2.2.2.2.2.2.2.2.2.2.1
    have c11 : w2.frozen? ⟨p7, 0, none⟩ = false := hC.2.2.2.2.2.2.2.2.2.2.2.1
    have c12 : w2.frozen? ⟨p7, 1, none⟩ = false := hC.2.2.2.2.2.2.2.2.2.2.2.2.1
    have c13 : w2.frozen? ⟨p7, 2, none⟩ = false := hC.2.2.2.2.2.2.2.2.2.2.2.2.2.1
    have c14 : w2.frozen? ⟨p7, 3, none⟩ = false := hC.2.2.2.2.2.2.2.2.2.2.2.2.2.2.1
    have c15 : w2.frozen? ⟨p7, 4, none⟩ = false := hC.2.2.2.2.2.2.2.2.2.2.2.2.2.2.2.1
    have c16 : w2.frozen? ⟨p7, 5, none⟩ = false := hC.2.2.2.2.2.2.2.2.2.2.2.2.2.2.2.2.1
    have c19 : Below w.heap.size w w2 := hC.2.2.2.2.2.2.2.2.2.2.2.2.2.2.2.2.2.2.2
    go_wp2_with fail
    clear c0 c1 c2 c3 c4 c5 c6 c7 c8 c9 c10 c11 c12 c13 c14 c15 c16 c19
    clear d0 d1 hz
    have hG : rgC w s j m g o bl bh p5 p7 b off N f a a1 len1 u w2 w2 := ⟨hC.1, hC.2.1, hC.2.2.1, hC.2.2.2.1, hC.2.2.2.2.1, hC.2.2.2.2.2.1, hC.2.2.2.2.2.2.1, hC.2.2.2.2.2.2.2.1, hC.2.2.2.2.2.2.2.2.1, hC.2.2.2.2.2.2.2.2.2.1, hC.2.2.2.2.2.2.2.2.2.2.1, hC.2.2.2.2.2.2.2.2.2.2.2.2.2.2.2.2.2.1, hC.2.2.2.2.2.2.2.2.2.2.2.2.2.2.2.2.2.2.1, Below.refl _ _, hC.2.2.2.2.2.2.2.2.2.2.2.2.2.2.2.2.2.2.2⟩
    have hs5 := ltCell hC.1
    have hs7 := ltCell hC.2.2.2.2.2.1
    have hwx := hC.2.2.2.2.2.2.2.2.2.2.2.2.2.2.2.2.2.2.2.size
    clear hC
    refine region_relL (rgC w s j m g o bl bh p5 p7 b off N f a a1 len1 u w2) (rdY w2.heap.size (.agg #[.int .i64 s, .int .i64 j, .int .i64 m, .int .i64 g, .int .i64 o]) (.slice (some ⟨b, off, none⟩) N cap) (.agg #[.bool true, .int .i64 bl, .int .i64 bh, .int .i64 0, .int .i64 (-1), .int .i64 0]) (.int .i64 (I : Int)) (.pointer (some ⟨b, off + I * 2, none⟩)) (.int .i64 (f I)) (.agg #[.int .i64 2, .int .i64 (f I)]) (.agg #[.bool true, .int .i64 dl, .int .i64 dh, .int .i64 0, .int .i64 ((I : Int)), .int .i64 dod])) 11 (fun _ _ => rgC_on) rdY_on (by kernel_rfl) (by kernel_rfl) (by kernel_rfl) ?_ ?_ ?_
    · exact rgC_on hG (Below.drew (Below.refl _ _))
    · intro j' o' ho hne' vs w4 hC4 hw
      have hBS : w2.heap.size ≤ w4.heap.size := hC4.2.2.2.2.2.2.2.2.2.2.2.2.2.1.size
      have hrq : Row2 w4 b off N f a := hC4.2.2.2.2.2.2.2.2.2.2.2.1
      have x0 := (hrq I hIN).1
      have c0 : w4.cell? ⟨p5, 0, none⟩ = some (.int .i64 s) := hC4.1
      have c1 : w4.cell? ⟨p5, 1, none⟩ = some (.int .i64 j) := hC4.2.1
      have c2 : w4.cell? ⟨p5, 2, none⟩ = some (.int .i64 m) := hC4.2.2.1
      have c3 : w4.cell? ⟨p5, 3, none⟩ = some (.int .i64 g) := hC4.2.2.2.1
      have c4 : w4.cell? ⟨p5, 4, none⟩ = some (.int .i64 o) := hC4.2.2.2.2.1
      have c5 : w4.cell? ⟨p7, 0, none⟩ = some (.bool true) := hC4.2.2.2.2.2.1
      have c6 : w4.cell? ⟨p7, 1, none⟩ = some (.int .i64 bl) := hC4.2.2.2.2.2.2.1
      have c7 : w4.cell? ⟨p7, 2, none⟩ = some (.int .i64 bh) := hC4.2.2.2.2.2.2.2.1
      have c8 : w4.cell? ⟨p7, 3, none⟩ = some (.int .i64 0) := hC4.2.2.2.2.2.2.2.2.1
      have c9 : w4.cell? ⟨p7, 4, none⟩ = some (.int .i64 (-1)) := hC4.2.2.2.2.2.2.2.2.2.1
      have c10 : w4.cell? ⟨p7, 5, none⟩ = some (.int .i64 0) := hC4.2.2.2.2.2.2.2.2.2.2.1
      match j', ho with
      | 0, ho =>
        cases ho
        clear hw
        simp [mix]
        go_simp
        exact ⟨rfl, Below.refl _ _⟩
      | 1, ho =>
        cases ho
        clear hw
        simp [mix]
        go_simp
        exact ⟨rfl, Below.refl _ _⟩
      | 2, ho =>
        cases ho
        clear hw
        simp [mix]
        go_simp
        exact ⟨rfl, Below.refl _ _⟩
      | 3, ho =>
        cases ho
        clear hw
        simp [mix]
        go_simp
        exact ⟨rfl, Below.refl _ _⟩
      | 4, ho =>
        cases ho
        clear hw
        simp [mix]
        go_simp
        exact ⟨rfl, Below.refl _ _⟩
      | 5, ho =>
        cases ho
        have y3 : vs 3 = _ := hw 3 (waits_of (by kernel_rfl))
        have y4 : vs 4 = _ := hw 4 (waits_of (by kernel_rfl))
        clear hw
        simp [mix, y3, y4]
        go_simp
        exact ⟨rfl, Below.refl _ _⟩
      | 6, ho =>
        cases ho
        have y5 : vs 5 = _ := hw 5 (waits_of (by kernel_rfl))
        clear hw
        simp [mix, y5]
        go_simp
        exact ⟨rfl, Below.refl _ _⟩
      | 7, ho =>
        cases ho
        have y6 : vs 6 = _ := hw 6 (waits_of (by kernel_rfl))
        clear hw
        simp [mix, y6]
        go_simp
        exact ⟨rfl, Below.refl _ _⟩
      | 8, ho =>
        cases ho
        have y7 : vs 7 = _ := hw 7 (waits_of (by kernel_rfl))
        clear hw
        simp [mix, y7]
        go_simp
        exact ⟨rfl, Below.refl _ _⟩
      | 9, ho =>
        cases ho
        have y0 : vs 0 = _ := hw 0 (waits_of (by kernel_rfl))
        have y1 : vs 1 = _ := hw 1 (waits_of (by kernel_rfl))
        have y2 : vs 2 = _ := hw 2 (waits_of (by kernel_rfl))
        have y8 : vs 8 = _ := hw 8 (waits_of (by kernel_rfl))
        clear hw
        simp [mix, y0, y1, y2, y8]
        go_simp
        refine (HI.out _ hrq).mono ?_
        rintro e w5 ⟨rfl, hb5⟩
        exact ⟨_, rfl, rfl, hb5⟩
      | 10, ho =>
        cases ho
        clear hw
        simp [mix]
        go_simp
        exact ⟨⟨_, rfl, hBS, newBlkD _ _ rfl⟩, nbAlloc (Below.refl _ _) _⟩
      | 11, ho => exact absurd rfl hne'
      | k + 12, ho => simp at ho
    · intro vs w4 hC4 hy
      have y0 : vs 0 = _ := hy 0 (by simp) (by simp)
      have y1 : vs 1 = _ := hy 1 (by simp) (by simp)
      have y2 : vs 2 = _ := hy 2 (by simp) (by simp)
      have y3 : vs 3 = _ := hy 3 (by simp) (by simp)
      have y4 : vs 4 = _ := hy 4 (by simp) (by simp)
      have y5 : vs 5 = _ := hy 5 (by simp) (by simp)
      have y6 : vs 6 = _ := hy 6 (by simp) (by simp)
      have y7 : vs 7 = _ := hy 7 (by simp) (by simp)
      have y8 : vs 8 = _ := hy 8 (by simp) (by simp)
      have y9 : vs 9 = _ := hy 9 (by simp) (by simp)
      refine Exists.elim (rdY_10 (hy 10 (by simp) (by simp))) (fun p10 e4 => ?_)
      have y10 := e4.1
      have hp := e4.2.1
      have hblk := e4.2.2
      clear e4 hy
      have r0 : w4.cell? ⟨p10, 0, none⟩ = some (.bool false) := by simp [World.cell?, hblk]
      have f0 : w4.frozen? ⟨p10, 0, none⟩ = false := by simp [World.frozen?, hblk]
      have r1 : w4.cell? ⟨p10, 1, none⟩ = some (.int .i64 0) := by simp [World.cell?, hblk]
      have f1 : w4.frozen? ⟨p10, 1, none⟩ = false := by simp [World.frozen?, hblk]
      have r2 : w4.cell? ⟨p10, 2, none⟩ = some (.int .i64 0) := by simp [World.cell?, hblk]
      have f2 : w4.frozen? ⟨p10, 2, none⟩ = false := by simp [World.frozen?, hblk]
      have r3 : w4.cell? ⟨p10, 3, none⟩ = some (.int .i64 0) := by simp [World.cell?, hblk]
      have f3 : w4.frozen? ⟨p10, 3, none⟩ = false := by simp [World.frozen?, hblk]
      have r4 : w4.cell? ⟨p10, 4, none⟩ = some (.int .i64 0) := by simp [World.cell?, hblk]
      have f4 : w4.frozen? ⟨p10, 4, none⟩ = false := by simp [World.frozen?, hblk]
      have r5 : w4.cell? ⟨p10, 5, none⟩ = some (.int .i64 0) := by simp [World.cell?, hblk]
      have f5 : w4.frozen? ⟨p10, 5, none⟩ = false := by simp [World.frozen?, hblk]
      have hT := turn6 (w := w4) (q := p10) (v0 := .bool true) (v1 := .int .i64 dl) (v2 := .int .i64 dh) (v3 := .int .i64 0) (v4 := .int .i64 ((I : Int))) (v5 := .int .i64 dod)
      have S := set6 (v0 := .bool true) (v1 := .int .i64 dl) (v2 := .int .i64 dh) (v3 := .int .i64 0) (v4 := .int .i64 ((I : Int))) (v5 := .int .i64 dod) r0 r1 r2 r3 r4 r5
      have hH : rhC w s j m g o bl bh p5 p7 b off N f a a1 len1 u p10 I dl dh dod ((((((w4.setCell ⟨p10, 0, none⟩ (.bool true)).setCell ⟨p10, 1, none⟩ (.int .i64 dl)).setCell ⟨p10, 2, none⟩ (.int .i64 dh)).setCell ⟨p10, 3, none⟩ (.int .i64 0)).setCell ⟨p10, 4, none⟩ (.int .i64 ((I : Int)))).setCell ⟨p10, 5, none⟩ (.int .i64 dod)) := ⟨hT.cell (by omega) hC4.1, hT.cell (by omega) hC4.2.1, hT.cell (by omega) hC4.2.2.1, hT.cell (by omega) hC4.2.2.2.1, hT.cell (by omega) hC4.2.2.2.2.1, hT.cell (by omega) hC4.2.2.2.2.2.1, hT.cell (by omega) hC4.2.2.2.2.2.2.1, hT.cell (by omega) hC4.2.2.2.2.2.2.2.1, hT.cell (by omega) hC4.2.2.2.2.2.2.2.2.1, hT.cell (by omega) hC4.2.2.2.2.2.2.2.2.2.1, hT.cell (by omega) hC4.2.2.2.2.2.2.2.2.2.2.1, S.1, S.2.1, S.2.2.1, S.2.2.2.1, S.2.2.2.2.1, S.2.2.2.2.2, (hC4.2.2.2.2.2.2.2.2.2.2.2.1).turnsB hT (fun _ => by omega), (hC4.2.2.2.2.2.2.2.2.2.2.2.2.1).turnsB hT (fun q h1 h2 => by have := HUL.out q h1 h2; omega), hT.below hC4.2.2.2.2.2.2.2.2.2.2.2.2.2.2 (by omega)⟩
      refine ⟨?_⟩
      simp only [mix, y0, y1, y2, y3, y4, y5, y6, y7, y8, y9, y10]
      go_simp
      generalize ((((((w4.setCell ⟨p10, 0, none⟩ (.bool true)).setCell ⟨p10, 1, none⟩ (.int .i64 dl)).setCell ⟨p10, 2, none⟩ (.int .i64 dh)).setCell ⟨p10, 3, none⟩ (.int .i64 0)).setCell ⟨p10, 4, none⟩ (.int .i64 ((I : Int)))).setCell ⟨p10, 5, none⟩ (.int .i64 dod)) = w5 at *
      clear hT S r0 f0 r1 f1 r2 f2 r3 f3 r4 f4 r5 f5 hblk y0 y1 y2 y3 y4 y5 y6 y7 y8 y9 y10 hC4 hG
      go_wp2_with fail
      refine region_kept (rhC w s j m g o bl bh p5 p7 b off N f a a1 len1 u p10 I dl dh dod) (by kernel_rfl) (by kernel_rfl) (rhC_on hH (Below.drew (Below.refl _ _))) ?_
      intro hN_
      have k0 : ∀ d : Kept (rhC w s j m g o bl bh p5 p7 b off N f a a1 len1 u p10 I dl dh dod), d.w.cell? ⟨p5, 0, none⟩ = some (.int .i64 s) := fun d => d.h.1
      have k1 : ∀ d : Kept (rhC w s j m g o bl bh p5 p7 b off N f a a1 len1 u p10 I dl dh dod), d.w.cell? ⟨p5, 1, none⟩ = some (.int .i64 j) := fun d => d.h.2.1
      have k2 : ∀ d : Kept (rhC w s j m g o bl bh p5 p7 b off N f a a1 len1 u p10 I dl dh dod), d.w.cell? ⟨p5, 2, none⟩ = some (.int .i64 m) := fun d => d.h.2.2.1
      have k3 : ∀ d : Kept (rhC w s j m g o bl bh p5 p7 b off N f a a1 len1 u p10 I dl dh dod), d.w.cell? ⟨p5, 3, none⟩ = some (.int .i64 g) := fun d => d.h.2.2.2.1
      have k4 : ∀ d : Kept (rhC w s j m g o bl bh p5 p7 b off N f a a1 len1 u p10 I dl dh dod), d.w.cell? ⟨p5, 4, none⟩ = some (.int .i64 o) := fun d => d.h.2.2.2.2.1
      have k5 : ∀ d : Kept (rhC w s j m g o bl bh p5 p7 b off N f a a1 len1 u p10 I dl dh dod), d.w.cell? ⟨p7, 0, none⟩ = some (.bool true) := fun d => d.h.2.2.2.2.2.1
      have k6 : ∀ d : Kept (rhC w s j m g o bl bh p5 p7 b off N f a a1 len1 u p10 I dl dh dod), d.w.cell? ⟨p7, 1, none⟩ = some (.int .i64 bl) := fun d => d.h.2.2.2.2.2.2.1
      have k7 : ∀ d : Kept (rhC w s j m g o bl bh p5 p7 b off N f a a1 len1 u p10 I dl dh dod), d.w.cell? ⟨p7, 2, none⟩ = some (.int .i64 bh) := fun d => d.h.2.2.2.2.2.2.2.1
      have k8 : ∀ d : Kept (rhC w s j m g o bl bh p5 p7 b off N f a a1 len1 u p10 I dl dh dod), d.w.cell? ⟨p7, 3, none⟩ = some (.int .i64 0) := fun d => d.h.2.2.2.2.2.2.2.2.1
      have k9 : ∀ d : Kept (rhC w s j m g o bl bh p5 p7 b off N f a a1 len1 u p10 I dl dh dod), d.w.cell? ⟨p7, 4, none⟩ = some (.int .i64 (-1)) := fun d => d.h.2.2.2.2.2.2.2.2.2.1
      have k10 : ∀ d : Kept (rhC w s j m g o bl bh p5 p7 b off N f a a1 len1 u p10 I dl dh dod), d.w.cell? ⟨p7, 5, none⟩ = some (.int .i64 0) := fun d => d.h.2.2.2.2.2.2.2.2.2.2.1
      have k11 : ∀ d : Kept (rhC w s j m g o bl bh p5 p7 b off N f a a1 len1 u p10 I dl dh dod), d.w.cell? ⟨p10, 0, none⟩ = some (.bool true) := fun d => d.h.2.2.2.2.2.2.2.2.2.2.2.1
      have k12 : ∀ d : Kept (rhC w s j m g o bl bh p5 p7 b off N f a a1 len1 u p10 I dl dh dod), d.w.cell? ⟨p10, 1, none⟩ = some (.int .i64 dl) := fun d => d.h.2.2.2.2.2.2.2.2.2.2.2.2.1
      have k13 : ∀ d : Kept (rhC w s j m g o bl bh p5 p7 b off N f a a1 len1 u p10 I dl dh dod), d.w.cell? ⟨p10, 2, none⟩ = some (.int .i64 dh) := fun d => d.h.2.2.2.2.2.2.2.2.2.2.2.2.2.1
      have k14 : ∀ d : Kept (rhC w s j m g o bl bh p5 p7 b off N f a a1 len1 u p10 I dl dh dod), d.w.cell? ⟨p10, 3, none⟩ = some (.int .i64 0) := fun d => d.h.2.2.2.2.2.2.2.2.2.2.2.2.2.2.1
      have k15 : ∀ d : Kept (rhC w s j m g o bl bh p5 p7 b off N f a a1 len1 u p10 I dl dh dod), d.w.cell? ⟨p10, 4, none⟩ = some (.int .i64 ((I : Int))) := fun d => d.h.2.2.2.2.2.2.2.2.2.2.2.2.2.2.2.1
      have k16 : ∀ d : Kept (rhC w s j m g o bl bh p5 p7 b off N f a a1 len1 u p10 I dl dh dod), d.w.cell? ⟨p10, 5, none⟩ = some (.int .i64 dod) := fun d => d.h.2.2.2.2.2.2.2.2.2.2.2.2.2.2.2.2.1
      have kR : ∀ d : Kept (rhC w s j m g o bl bh p5 p7 b off N f a a1 len1 u p10 I dl dh dod), Row2 d.w b off N f a := fun d => d.h.2.2.2.2.2.2.2.2.2.2.2.2.2.2.2.2.2.1
      have kx : ∀ d : Kept (rhC w s j m g o bl bh p5 p7 b off N f a a1 len1 u p10 I dl dh dod), d.w.cell? ⟨b, off + I * 2, none⟩ = some (.int .i64 (f I)) := fun d => (kR d I hIN).1
      repeat (go_big_quiet_step (first | (go_at_call 15; exact call_kept _ rhC_on (HS.out _ (kR _)))))
      refine wpQuiet_nil ?_
      rintro w6 ⟨d, hd2⟩
      have hd := d.h
      rw [← hd2] at hd
      clear hd2 k0 k1 k2 k3 k4 k5 k6 k7 k8 k9 k10 k11 k12 k13 k14 k15 k16 kR kx hH
      have HZ' := HZ.out
      have w1' : IntKind.i64.wrap (a I + m) = a I + m := wrapS (by omega) (by omega)
      have w2' : IntKind.i64.wrap (a I - m) = a I - m := wrapS (by omega) (by omega)
      by_cases hfit : (bl ≤ a I + m ∧ a I - m ≤ bh)
      · have hq : dl = max bl (a I - m) ∧ dh = min bh (a I + m) ∧ dod = 0 := by
          rcases HCS.out with h2 | h2
          · exact h2.2.2
          · exact absurd hfit h2.1
        have hdl : Hid (dl = max bl (a I - m)) := hq.1
        have hdh : Hid (dh = min bh (a I + m)) := hq.2.1
        have hdo : dod = 0 := hq.2.2
        have g1 : decide (a I + m < bl) = false := by simp; omega
        have g2 : decide (bh < a I - m) = false := by simp; omega
        have c0 : w6.cell? ⟨p5, 0, none⟩ = some (.int .i64 s) := hd.1
        have c1 : w6.cell? ⟨p5, 1, none⟩ = some (.int .i64 j) := hd.2.1
        have c2 : w6.cell? ⟨p5, 2, none⟩ = some (.int .i64 m) := hd.2.2.1
        have c3 : w6.cell? ⟨p5, 3, none⟩ = some (.int .i64 g) := hd.2.2.2.1
        have c4 : w6.cell? ⟨p5, 4, none⟩ = some (.int .i64 o) := hd.2.2.2.2.1
        have c5 : w6.cell? ⟨p7, 0, none⟩ = some (.bool true) := hd.2.2.2.2.2.1
        have c6 : w6.cell? ⟨p7, 1, none⟩ = some (.int .i64 bl) := hd.2.2.2.2.2.2.1
        have c7 : w6.cell? ⟨p7, 2, none⟩ = some (.int .i64 bh) := hd.2.2.2.2.2.2.2.1
        have c8 : w6.cell? ⟨p7, 3, none⟩ = some (.int .i64 0) := hd.2.2.2.2.2.2.2.2.1
        have c9 : w6.cell? ⟨p7, 4, none⟩ = some (.int .i64 (-1)) := hd.2.2.2.2.2.2.2.2.2.1
        have c10 : w6.cell? ⟨p7, 5, none⟩ = some (.int .i64 0) := hd.2.2.2.2.2.2.2.2.2.2.1
        have c11 : w6.cell? ⟨p10, 0, none⟩ = some (.bool true) := hd.2.2.2.2.2.2.2.2.2.2.2.1
        have c12 : w6.cell? ⟨p10, 1, none⟩ = some (.int .i64 dl) := hd.2.2.2.2.2.2.2.2.2.2.2.2.1
        have c13 : w6.cell? ⟨p10, 2, none⟩ = some (.int .i64 dh) := hd.2.2.2.2.2.2.2.2.2.2.2.2.2.1
        have c14 : w6.cell? ⟨p10, 3, none⟩ = some (.int .i64 0) := hd.2.2.2.2.2.2.2.2.2.2.2.2.2.2.1
        have c15 : w6.cell? ⟨p10, 4, none⟩ = some (.int .i64 ((I : Int))) := hd.2.2.2.2.2.2.2.2.2.2.2.2.2.2.2.1
        have c16 : w6.cell? ⟨p10, 5, none⟩ = some (.int .i64 dod) := hd.2.2.2.2.2.2.2.2.2.2.2.2.2.2.2.2.1
        go_wp2_with fail
        clear c0 c1 c2 c3 c4 c5 c6 c7 c8 c9 c10 c11 c12 c13 c14 c15 c16
        clear hq hfit g1 g2 HCS
        go_loopw [11] (fun iv wr => ∃ k : Nat, iv = .int .i64 k ∧ k ≤ 20 ∧ rhC w s j m g o bl bh p5 p7 b off N f a a1 len1 u p10 I dl dh dod wr) (fun iv _ => 20 - (intOf iv).toNat)
        case atStart => exact ⟨0, rfl, by omega, hd⟩
        case round =>
          clear hd
          obtain ⟨k, rfl, hk, hr⟩ := hrel
          by_cases hlt : k < 20
          · have i4 : (k : Int) < 20 := by omega
            have rk := bv_range HU.out (k : Int)
            obtain ⟨vk, hvk⟩ : ∃ v, bv len1 u (k : Int) = v := ⟨_, rfl⟩
            rw [hvk] at rk
            have HQ : Hid (∀ w, BytesV w a1 len1 u → Calls Try.prog 14 #[.slice a1 len1 cap1, .int .i64 (k : Int)] w fun e w' => e = .returned (.int .i64 vk) ∧ Below w.heap.size w w') := fun w hb => by
              have := wByteQ_c a1 len1 cap1 u (k : Int) w hb hl1 (by omega) (by omega)
              rw [hvk] at this
              exact this
            clear hvk
            have hp0 : 0 ≤ vk * (m + 1) := Int.mul_nonneg rk.1 (by omega)
            have hp1 : vk * (m + 1) ≤ 255 * 30 := Int.mul_le_mul rk.2 (by omega) (by omega) (by omega)
            have e1 : IntKind.i64.wrap (m + 1) = m + 1 := wrapS (by omega) (by omega)
            have e2 : IntKind.i64.wrap (vk * (m + 1)) = vk * (m + 1) := wrapS (by omega) (by omega)
            have e3 : IntKind.i64.wrap (a I + vk * (m + 1) / 100) = a I + vk * (m + 1) / 100 := wrapS (by omega) (by omega)
            have e4 : IntKind.i64.wrap (a I + vk * (m + 1) / 100 - m) = a I + vk * (m + 1) / 100 - m := wrapS (by omega) (by omega)
            go_wp2_with fail
            refine region_kept (rhC w s j m g o bl bh p5 p7 b off N f a a1 len1 u p10 I dl dh dod) (by kernel_rfl) (by kernel_rfl) (rhC_on hr (Below.drew (Below.refl _ _))) ?_
            intro hN_
            have k0 : ∀ d : Kept (rhC w s j m g o bl bh p5 p7 b off N f a a1 len1 u p10 I dl dh dod), d.w.cell? ⟨p5, 0, none⟩ = some (.int .i64 s) := fun d => d.h.1
            have k1 : ∀ d : Kept (rhC w s j m g o bl bh p5 p7 b off N f a a1 len1 u p10 I dl dh dod), d.w.cell? ⟨p5, 1, none⟩ = some (.int .i64 j) := fun d => d.h.2.1
            have k2 : ∀ d : Kept (rhC w s j m g o bl bh p5 p7 b off N f a a1 len1 u p10 I dl dh dod), d.w.cell? ⟨p5, 2, none⟩ = some (.int .i64 m) := fun d => d.h.2.2.1
            have k3 : ∀ d : Kept (rhC w s j m g o bl bh p5 p7 b off N f a a1 len1 u p10 I dl dh dod), d.w.cell? ⟨p5, 3, none⟩ = some (.int .i64 g) := fun d => d.h.2.2.2.1
            have k4 : ∀ d : Kept (rhC w s j m g o bl bh p5 p7 b off N f a a1 len1 u p10 I dl dh dod), d.w.cell? ⟨p5, 4, none⟩ = some (.int .i64 o) := fun d => d.h.2.2.2.2.1
            have k5 : ∀ d : Kept (rhC w s j m g o bl bh p5 p7 b off N f a a1 len1 u p10 I dl dh dod), d.w.cell? ⟨p7, 0, none⟩ = some (.bool true) := fun d => d.h.2.2.2.2.2.1
            have k6 : ∀ d : Kept (rhC w s j m g o bl bh p5 p7 b off N f a a1 len1 u p10 I dl dh dod), d.w.cell? ⟨p7, 1, none⟩ = some (.int .i64 bl) := fun d => d.h.2.2.2.2.2.2.1
            have k7 : ∀ d : Kept (rhC w s j m g o bl bh p5 p7 b off N f a a1 len1 u p10 I dl dh dod), d.w.cell? ⟨p7, 2, none⟩ = some (.int .i64 bh) := fun d => d.h.2.2.2.2.2.2.2.1
            have k8 : ∀ d : Kept (rhC w s j m g o bl bh p5 p7 b off N f a a1 len1 u p10 I dl dh dod), d.w.cell? ⟨p7, 3, none⟩ = some (.int .i64 0) := fun d => d.h.2.2.2.2.2.2.2.2.1
            have k9 : ∀ d : Kept (rhC w s j m g o bl bh p5 p7 b off N f a a1 len1 u p10 I dl dh dod), d.w.cell? ⟨p7, 4, none⟩ = some (.int .i64 (-1)) := fun d => d.h.2.2.2.2.2.2.2.2.2.1
            have k10 : ∀ d : Kept (rhC w s j m g o bl bh p5 p7 b off N f a a1 len1 u p10 I dl dh dod), d.w.cell? ⟨p7, 5, none⟩ = some (.int .i64 0) := fun d => d.h.2.2.2.2.2.2.2.2.2.2.1
            have k11 : ∀ d : Kept (rhC w s j m g o bl bh p5 p7 b off N f a a1 len1 u p10 I dl dh dod), d.w.cell? ⟨p10, 0, none⟩ = some (.bool true) := fun d => d.h.2.2.2.2.2.2.2.2.2.2.2.1
            have k12 : ∀ d : Kept (rhC w s j m g o bl bh p5 p7 b off N f a a1 len1 u p10 I dl dh dod), d.w.cell? ⟨p10, 1, none⟩ = some (.int .i64 dl) := fun d => d.h.2.2.2.2.2.2.2.2.2.2.2.2.1
            have k13 : ∀ d : Kept (rhC w s j m g o bl bh p5 p7 b off N f a a1 len1 u p10 I dl dh dod), d.w.cell? ⟨p10, 2, none⟩ = some (.int .i64 dh) := fun d => d.h.2.2.2.2.2.2.2.2.2.2.2.2.2.1
            have k14 : ∀ d : Kept (rhC w s j m g o bl bh p5 p7 b off N f a a1 len1 u p10 I dl dh dod), d.w.cell? ⟨p10, 3, none⟩ = some (.int .i64 0) := fun d => d.h.2.2.2.2.2.2.2.2.2.2.2.2.2.2.1
            have k15 : ∀ d : Kept (rhC w s j m g o bl bh p5 p7 b off N f a a1 len1 u p10 I dl dh dod), d.w.cell? ⟨p10, 4, none⟩ = some (.int .i64 ((I : Int))) := fun d => d.h.2.2.2.2.2.2.2.2.2.2.2.2.2.2.2.1
            have k16 : ∀ d : Kept (rhC w s j m g o bl bh p5 p7 b off N f a a1 len1 u p10 I dl dh dod), d.w.cell? ⟨p10, 5, none⟩ = some (.int .i64 dod) := fun d => d.h.2.2.2.2.2.2.2.2.2.2.2.2.2.2.2.2.1
            have kU : ∀ d : Kept (rhC w s j m g o bl bh p5 p7 b off N f a a1 len1 u p10 I dl dh dod), BytesV d.w a1 len1 u := fun d => d.h.2.2.2.2.2.2.2.2.2.2.2.2.2.2.2.2.2.2.1
            repeat (go_big_quiet_step (first | (go_at_call 14; exact call_kept _ rhC_on (HQ.out _ (kU _))) | exact rfl))
            refine wpQuiet_nil ?_
            rintro w7 ⟨d, hd2⟩
            have hd := d.h
            rw [← hd2] at hd
            clear hd2 k0 k1 k2 k3 k4 k5 k6 k7 k8 k9 k10 k11 k12 k13 k14 k15 k16 kU hr HQ e1 e2 e3 e4 hp0 hp1 rk
            generalize a I + vk * (m + 1) / 100 - m = x at *
            have HDL := hdl.out
            have HDH := hdh.out
            have c0 : w7.cell? ⟨p5, 0, none⟩ = some (.int .i64 s) := hd.1
            have c1 : w7.cell? ⟨p5, 1, none⟩ = some (.int .i64 j) := hd.2.1
            have c2 : w7.cell? ⟨p5, 2, none⟩ = some (.int .i64 m) := hd.2.2.1
            have c3 : w7.cell? ⟨p5, 3, none⟩ = some (.int .i64 g) := hd.2.2.2.1
            have c4 : w7.cell? ⟨p5, 4, none⟩ = some (.int .i64 o) := hd.2.2.2.2.1
            have c5 : w7.cell? ⟨p7, 0, none⟩ = some (.bool true) := hd.2.2.2.2.2.1
            have c6 : w7.cell? ⟨p7, 1, none⟩ = some (.int .i64 bl) := hd.2.2.2.2.2.2.1
            have c7 : w7.cell? ⟨p7, 2, none⟩ = some (.int .i64 bh) := hd.2.2.2.2.2.2.2.1
            have c8 : w7.cell? ⟨p7, 3, none⟩ = some (.int .i64 0) := hd.2.2.2.2.2.2.2.2.1
            have c9 : w7.cell? ⟨p7, 4, none⟩ = some (.int .i64 (-1)) := hd.2.2.2.2.2.2.2.2.2.1
            have c10 : w7.cell? ⟨p7, 5, none⟩ = some (.int .i64 0) := hd.2.2.2.2.2.2.2.2.2.2.1
            have c11 : w7.cell? ⟨p10, 0, none⟩ = some (.bool true) := hd.2.2.2.2.2.2.2.2.2.2.2.1
            have c12 : w7.cell? ⟨p10, 1, none⟩ = some (.int .i64 dl) := hd.2.2.2.2.2.2.2.2.2.2.2.2.1
            have c13 : w7.cell? ⟨p10, 2, none⟩ = some (.int .i64 dh) := hd.2.2.2.2.2.2.2.2.2.2.2.2.2.1
            have c14 : w7.cell? ⟨p10, 3, none⟩ = some (.int .i64 0) := hd.2.2.2.2.2.2.2.2.2.2.2.2.2.2.1
            have c15 : w7.cell? ⟨p10, 4, none⟩ = some (.int .i64 ((I : Int))) := hd.2.2.2.2.2.2.2.2.2.2.2.2.2.2.2.1
            have c16 : w7.cell? ⟨p10, 5, none⟩ = some (.int .i64 dod) := hd.2.2.2.2.2.2.2.2.2.2.2.2.2.2.2.2.1
            by_cases x1 : bl ≤ x
            · by_cases x2 : x ≤ bh
              · by_cases x3 : a I - m ≤ x
                · by_cases x4 : x ≤ a I + m
                  · have t0 : bl ≤ x := by omega
                    have t1 : x ≤ bh := by omega
                    have t2 : a I - m ≤ x := by omega
                    have t3 : x ≤ a I + m := by omega
                    have t4 : dl ≤ x := by omega
                    have t5 : x ≤ dh := by omega
                    clear HDL HDH
                    clear x1 x2 x3 x4
                    go_wp2_with fail
                    go_roundw
                    case rel => exact ⟨k + 1, by go_num, by omega, hd⟩
                    case measure => simp [intOf]; omega
                  · have t0 : bl ≤ x := by omega
                    have t1 : x ≤ bh := by omega
                    have t2 : a I - m ≤ x := by omega
                    have t3 : dl ≤ x := by omega
                    have n0 : decide (x ≤ a I + m) = false := by simp; omega
                    have n1 : decide (x ≤ dh) = false := by simp; omega
                    clear HDL HDH
                    clear x1 x2 x3 x4
                    go_wp2_with fail
                    go_roundw
                    case rel => exact ⟨k + 1, by go_num, by omega, hd⟩
                    case measure => simp [intOf]; omega
                · have t0 : bl ≤ x := by omega
                  have t1 : x ≤ bh := by omega
                  have n0 : decide (a I - m ≤ x) = false := by simp; omega
                  have n1 : decide (dl ≤ x) = false := by simp; omega
                  clear HDL HDH
                  clear x1 x2 x3
                  go_wp2_with fail
                  go_roundw
                  case rel => exact ⟨k + 1, by go_num, by omega, hd⟩
                  case measure => simp [intOf]; omega
              · by_cases y1 : dl ≤ x
                · have t0 : bl ≤ x := by omega
                  have t1 : dl ≤ x := by omega
                  have n0 : decide (x ≤ bh) = false := by simp; omega
                  have n1 : decide (x ≤ dh) = false := by simp; omega
                  clear HDL HDH
                  clear x1 x2 y1
                  go_wp2_with fail
                  go_roundw
                  case rel => exact ⟨k + 1, by go_num, by omega, hd⟩
                  case measure => simp [intOf]; omega
                · have t0 : bl ≤ x := by omega
                  have n0 : decide (x ≤ bh) = false := by simp; omega
                  have n1 : decide (dl ≤ x) = false := by simp; omega
                  clear HDL HDH
                  clear x1 x2 y1
                  go_wp2_with fail
                  go_roundw
                  case rel => exact ⟨k + 1, by go_num, by omega, hd⟩
                  case measure => simp [intOf]; omega
            · have n0 : decide (bl ≤ x) = false := by simp; omega
              have n1 : decide (dl ≤ x) = false := by simp; omega
              clear HDL HDH
              clear x1
              go_wp2_with fail
              go_roundw
              case rel => exact ⟨k + 1, by go_num, by omega, hd⟩
              case measure => simp [intOf]; omega
          · have hk20 : k = 20 := by omega
            subst hk20
            have c0 : wr.cell? ⟨p5, 0, none⟩ = some (.int .i64 s) := hr.1
            have c1 : wr.cell? ⟨p5, 1, none⟩ = some (.int .i64 j) := hr.2.1
            have c2 : wr.cell? ⟨p5, 2, none⟩ = some (.int .i64 m) := hr.2.2.1
            have c3 : wr.cell? ⟨p5, 3, none⟩ = some (.int .i64 g) := hr.2.2.2.1
            have c4 : wr.cell? ⟨p5, 4, none⟩ = some (.int .i64 o) := hr.2.2.2.2.1
            have c5 : wr.cell? ⟨p7, 0, none⟩ = some (.bool true) := hr.2.2.2.2.2.1
            have c6 : wr.cell? ⟨p7, 1, none⟩ = some (.int .i64 bl) := hr.2.2.2.2.2.2.1
            have c7 : wr.cell? ⟨p7, 2, none⟩ = some (.int .i64 bh) := hr.2.2.2.2.2.2.2.1
            have c8 : wr.cell? ⟨p7, 3, none⟩ = some (.int .i64 0) := hr.2.2.2.2.2.2.2.2.1
            have c9 : wr.cell? ⟨p7, 4, none⟩ = some (.int .i64 (-1)) := hr.2.2.2.2.2.2.2.2.2.1
            have c10 : wr.cell? ⟨p7, 5, none⟩ = some (.int .i64 0) := hr.2.2.2.2.2.2.2.2.2.2.1
            have c11 : wr.cell? ⟨p10, 0, none⟩ = some (.bool true) := hr.2.2.2.2.2.2.2.2.2.2.2.1
            have c12 : wr.cell? ⟨p10, 1, none⟩ = some (.int .i64 dl) := hr.2.2.2.2.2.2.2.2.2.2.2.2.1
            have c13 : wr.cell? ⟨p10, 2, none⟩ = some (.int .i64 dh) := hr.2.2.2.2.2.2.2.2.2.2.2.2.2.1
            have c14 : wr.cell? ⟨p10, 3, none⟩ = some (.int .i64 0) := hr.2.2.2.2.2.2.2.2.2.2.2.2.2.2.1
            have c15 : wr.cell? ⟨p10, 4, none⟩ = some (.int .i64 ((I : Int))) := hr.2.2.2.2.2.2.2.2.2.2.2.2.2.2.2.1
            have c16 : wr.cell? ⟨p10, 5, none⟩ = some (.int .i64 dod) := hr.2.2.2.2.2.2.2.2.2.2.2.2.2.2.2.2.1
            go_wp2_with fail
            go_ret
            exact ⟨rfl, hr.2.2.2.2.2.2.2.2.2.2.2.2.2.2.2.2.2.2.2⟩
      · have hq : dl = min bl (a I - m) ∧ dh = max bh (a I + m) ∧ dod = 1 := by
          rcases HCS.out with h2 | h2
          · exact absurd ⟨h2.1, h2.2.1⟩ hfit
          · exact h2.2
        have hdo : dod = 1 := hq.2.2
        have t1 : dl ≤ bl := by omega
        have t2 : dl ≤ a I - m := by omega
        have t3 : bh ≤ dh := by omega
        have t4 : a I + m ≤ dh := by omega
        have c0 : w6.cell? ⟨p5, 0, none⟩ = some (.int .i64 s) := hd.1
        have c1 : w6.cell? ⟨p5, 1, none⟩ = some (.int .i64 j) := hd.2.1
        have c2 : w6.cell? ⟨p5, 2, none⟩ = some (.int .i64 m) := hd.2.2.1
        have c3 : w6.cell? ⟨p5, 3, none⟩ = some (.int .i64 g) := hd.2.2.2.1
        have c4 : w6.cell? ⟨p5, 4, none⟩ = some (.int .i64 o) := hd.2.2.2.2.1
        have c5 : w6.cell? ⟨p7, 0, none⟩ = some (.bool true) := hd.2.2.2.2.2.1
        have c6 : w6.cell? ⟨p7, 1, none⟩ = some (.int .i64 bl) := hd.2.2.2.2.2.2.1
        have c7 : w6.cell? ⟨p7, 2, none⟩ = some (.int .i64 bh) := hd.2.2.2.2.2.2.2.1
        have c8 : w6.cell? ⟨p7, 3, none⟩ = some (.int .i64 0) := hd.2.2.2.2.2.2.2.2.1
        have c9 : w6.cell? ⟨p7, 4, none⟩ = some (.int .i64 (-1)) := hd.2.2.2.2.2.2.2.2.2.1
        have c10 : w6.cell? ⟨p7, 5, none⟩ = some (.int .i64 0) := hd.2.2.2.2.2.2.2.2.2.2.1
        have c11 : w6.cell? ⟨p10, 0, none⟩ = some (.bool true) := hd.2.2.2.2.2.2.2.2.2.2.2.1
        have c12 : w6.cell? ⟨p10, 1, none⟩ = some (.int .i64 dl) := hd.2.2.2.2.2.2.2.2.2.2.2.2.1
        have c13 : w6.cell? ⟨p10, 2, none⟩ = some (.int .i64 dh) := hd.2.2.2.2.2.2.2.2.2.2.2.2.2.1
        have c14 : w6.cell? ⟨p10, 3, none⟩ = some (.int .i64 0) := hd.2.2.2.2.2.2.2.2.2.2.2.2.2.2.1
        have c15 : w6.cell? ⟨p10, 4, none⟩ = some (.int .i64 ((I : Int))) := hd.2.2.2.2.2.2.2.2.2.2.2.2.2.2.2.1
        have c16 : w6.cell? ⟨p10, 5, none⟩ = some (.int .i64 dod) := hd.2.2.2.2.2.2.2.2.2.2.2.2.2.2.2.2.1
        by_cases hg : a I + m < bl
        · clear hq hfit HCS
          go_wp2_with fail
          go_ret
          exact ⟨rfl, hd.2.2.2.2.2.2.2.2.2.2.2.2.2.2.2.2.2.2.2⟩
        · have g1 : decide (a I + m < bl) = false := by simp; omega
          have g2 : bh < a I - m := by omega
          clear hq hfit HCS hg
          go_wp2_with fail
          go_ret
          exact ⟨rfl, hd.2.2.2.2.2.2.2.2.2.2.2.2.2.2.2.2.2.2.2⟩
  · go_wp2_with fail
    refine (wByteV_c a1 len1 cap1 u 2 _ hC.2.2.2.2.2.2.2.2.2.2.2.2.2.2.2.2.2.2.1 hl1 (by omega) (by omega)).mono ?_
    rintro e w' ⟨rfl, rfl⟩
    have r2 := bv_range HU.out 2
    generalize bv len1 u 2 = v2 at *
    have r3 := bv_range HU.out 3
    obtain ⟨L, hL⟩ : ∃ L, a I - v2 % 90 = L := ⟨_, rfl⟩
    obtain ⟨v3, hv3⟩ : ∃ v, bv len1 u 3 = v := ⟨_, rfl⟩
    rw [hv3] at r3
    have HQ3 : Hid (∀ w, BytesV w a1 len1 u → Calls Try.prog 14 #[.slice a1 len1 cap1, .int .i64 3] w fun e w' => e = .returned (.int .i64 v3) ∧ Below w.heap.size w w') := fun w hb => by
      have := wByteQ_c a1 len1 cap1 u 3 w hb hl1 (by omega) (by omega)
      rw [hv3] at this
      exact this
    obtain ⟨H, hH⟩ : ∃ H, L + v3 = H := ⟨_, rfl⟩
    have HLH : Hid (-1000 ≤ L ∧ L ≤ H ∧ H ≤ 100000) := ⟨by omega, by omega, by omega⟩
    have wr2 : IntKind.i64.wrap (L + v3) = H := by rw [← hH]; exact wrapS (by omega) (by omega)
    have wr : IntKind.i64.wrap (a I - v2 % 90) = L := by rw [← hL]; exact wrapS (by omega) (by omega)
    clear hv3 hH
    refine Exists.elim (read_D (L := L) (H := H) hrk.out m1 HMK.out hIN HIJ.out HZ.out.1 HZ.out.2 HLH.out.1 HLH.out.2.1 HLH.out.2.2) (fun dl e1 => ?_)
    refine Exists.elim e1 (fun dh e2 => ?_)
    refine Exists.elim e2 (fun dod e3 => ?_)
    have HD := e3.1
    have HCS : Hid (_ ∨ _) := e3.2
    have HI : Hid (∀ w, Row2 w b off N f a → Calls Try.prog 13 #[.agg #[.int .i64 s, .int .i64 j, .int .i64 m, .int .i64 g, .int .i64 o], .slice (some ⟨b, off, none⟩) N cap, .agg #[.bool true, .int .i64 L, .int .i64 H, .int .i64 0, .int .i64 (-1), .int .i64 0], .agg #[.int .i64 2, .int .i64 (f I)]] w fun e w' => e = .returned (.agg #[.bool true, .int .i64 dl, .int .i64 dh, .int .i64 0, .int .i64 ((I : Int)), .int .i64 dod]) ∧ Below w.heap.size w w') := fun w hr => calls_eq (by rw [HD]; rfl) (implDo_s (some ⟨b, off, none⟩) N cap f a s j m g o ⟨true, L, H, 0, -1, 0⟩ 2 (f I) w (by have := HN.out; omega) (.inr ⟨b, off, rfl, hr⟩))
    have HS : Hid (∀ w, Row2 w b off N f a → Calls Try.prog 15 #[.agg #[.int .i64 s, .int .i64 j, .int .i64 m, .int .i64 g, .int .i64 o], .slice (some ⟨b, off, none⟩) N cap, .agg #[.bool true, .int .i64 L, .int .i64 H, .int .i64 0, .int .i64 (-1), .int .i64 0], .agg #[.int .i64 2, .int .i64 (f I)]] w fun e w' => e = .returned (.agg #[.bool true, .int .i64 dl, .int .i64 dh, .int .i64 0, .int .i64 ((I : Int)), .int .i64 dod]) ∧ Below w.heap.size w w') := fun w hr => calls_eq (by rw [HD]; rfl) (specDo_c b off N cap f a s j m g o ⟨true, L, H, 0, -1, 0⟩ 2 (f I) w (by have := HN.out; omega) hr)
    clear e1 e2 e3 HD
    have c0 : w2.cell? ⟨p5, 0, none⟩ = some (.int .i64 s) := hC.1
    have c1 : w2.cell? ⟨p5, 1, none⟩ = some (.int .i64 j) := hC.2.1
    have c2 : w2.cell? ⟨p5, 2, none⟩ = some (.int .i64 m) := hC.2.2.1
    have c3 : w2.cell? ⟨p5, 3, none⟩ = some (.int .i64 g) := hC.2.2.2.1
    have c4 : w2.cell? ⟨p5, 4, none⟩ = some (.int .i64 o) := hC.2.2.2.2.1
    have c5 : w2.cell? ⟨p7, 0, none⟩ = some (.bool true) := hC.2.2.2.2.2.1
    have c6 : w2.cell? ⟨p7, 1, none⟩ = some (.int .i64 bl) := hC.2.2.2.2.2.2.1
    have c7 : w2.cell? ⟨p7, 2, none⟩ = some (.int .i64 bh) := hC.2.2.2.2.2.2.2.1
    have c8 : w2.cell? ⟨p7, 3, none⟩ = some (.int .i64 0) := hC.2.2.2.2.2.2.2.2.1
    have c9 : w2.cell? ⟨p7, 4, none⟩ = some (.int .i64 (-1)) := hC.2.2.2.2.2.2.2.2.2.1
    have c10 : w2.cell? ⟨p7, 5, none⟩ = some (.int .i64 0) := hC.2.2.2.2.2.2.2.2.2.2.1
    have c11 : w2.frozen? ⟨p7, 0, none⟩ = false := hC.2.2.2.2.2.2.2.2.2.2.2.1
    have c12 : w2.frozen? ⟨p7, 1, none⟩ = false := hC.2.2.2.2.2.2.2.2.2.2.2.2.1
    have c13 : w2.frozen? ⟨p7, 2, none⟩ = false := hC.2.2.2.2.2.2.2.2.2.2.2.2.2.1
    have c14 : w2.frozen? ⟨p7, 3, none⟩ = false := hC.2.2.2.2.2.2.2.2.2.2.2.2.2.2.1
    have c15 : w2.frozen? ⟨p7, 4, none⟩ = false := hC.2.2.2.2.2.2.2.2.2.2.2.2.2.2.2.1
    have c16 : w2.frozen? ⟨p7, 5, none⟩ = false := hC.2.2.2.2.2.2.2.2.2.2.2.2.2.2.2.2.1
    have c19 : Below w.heap.size w w2 := hC.2.2.2.2.2.2.2.2.2.2.2.2.2.2.2.2.2.2.2
    go_wp2_with fail
    clear c0 c1 c2 c3 c4 c5 c6 c7 c8 c9 c10 c11 c12 c13 c14 c15 c16 c19
    clear d0 d1 hz
    have hA := rfC_l hC L (by omega) (by omega) (fun _ => by omega) (fun q h1 h2 => by have := HUL.out q h1 h2; omega)
    have hbp7 := hbN
    clear hC wr hL r2 r3
    generalize w2.setCell ⟨p7, 1, none⟩ (.int .i64 L) = w3 at *
    refine region_relL (rfC w s j m g o L bh p5 p7 b off N f a a1 len1 u) (raY (.pointer (some ⟨p7, 1, none⟩)) (.pointer (some ⟨p7, 2, none⟩)) (.int .i64 L) (.slice a1 len1 cap1) (.int .i64 v3) (.int .i64 H)) 8 (fun _ _ => rfC_on) raY_on (by kernel_rfl) (by kernel_rfl) (by kernel_rfl) ?_ ?_ ?_
    · exact rfC_on hA (Below.drew (Below.refl _ _))
    · intro j' o' ho hne' vs w4 hC4 hw
      have hbq : BytesV w4 a1 len1 u := hC4.2.2.2.2.2.2.2.2.2.2.2.2.2.2.2.2.2.2.1
      have c0 : w4.cell? ⟨p5, 0, none⟩ = some (.int .i64 s) := hC4.1
      have c1 : w4.cell? ⟨p5, 1, none⟩ = some (.int .i64 j) := hC4.2.1
      have c2 : w4.cell? ⟨p5, 2, none⟩ = some (.int .i64 m) := hC4.2.2.1
      have c3 : w4.cell? ⟨p5, 3, none⟩ = some (.int .i64 g) := hC4.2.2.2.1
      have c4 : w4.cell? ⟨p5, 4, none⟩ = some (.int .i64 o) := hC4.2.2.2.2.1
      have c5 : w4.cell? ⟨p7, 0, none⟩ = some (.bool true) := hC4.2.2.2.2.2.1
      have c6 : w4.cell? ⟨p7, 1, none⟩ = some (.int .i64 L) := hC4.2.2.2.2.2.2.1
      have c7 : w4.cell? ⟨p7, 2, none⟩ = some (.int .i64 bh) := hC4.2.2.2.2.2.2.2.1
      have c8 : w4.cell? ⟨p7, 3, none⟩ = some (.int .i64 0) := hC4.2.2.2.2.2.2.2.2.1
      have c9 : w4.cell? ⟨p7, 4, none⟩ = some (.int .i64 (-1)) := hC4.2.2.2.2.2.2.2.2.2.1
      have c10 : w4.cell? ⟨p7, 5, none⟩ = some (.int .i64 0) := hC4.2.2.2.2.2.2.2.2.2.2.1
      match j', ho with
      | 0, ho =>
        cases ho
        clear hw
        simp [mix]
        go_simp
        exact ⟨rfl, Below.refl _ _⟩
      | 1, ho =>
        cases ho
        have y0 : vs 0 = _ := hw 0 (waits_of (by kernel_rfl))
        clear hw
        simp [mix, y0]
        go_simp
        exact ⟨rfl, Below.refl _ _⟩
      | 2, ho =>
        cases ho
        have y1 : vs 1 = _ := hw 1 (waits_of (by kernel_rfl))
        clear hw
        simp [mix, y1]
        go_simp
        exact ⟨rfl, Below.refl _ _⟩
      | 3, ho =>
        cases ho
        clear hw
        simp [mix]
        go_simp
        exact ⟨rfl, Below.refl _ _⟩
      | 4, ho =>
        cases ho
        have y3 : vs 3 = _ := hw 3 (waits_of (by kernel_rfl))
        clear hw
        simp [mix, y3]
        go_simp
        refine (HQ3.out _ hbq).mono ?_
        rintro e w5 ⟨rfl, hb5⟩
        exact ⟨_, rfl, rfl, hb5⟩
      | 5, ho =>
        cases ho
        have y2 : vs 2 = _ := hw 2 (waits_of (by kernel_rfl))
        have y4 : vs 4 = _ := hw 4 (waits_of (by kernel_rfl))
        clear hw
        simp [mix, y2, y4]
        go_simp
        exact ⟨rfl, Below.refl _ _⟩
      | 6, ho =>
        cases ho
        clear hw
        simp [mix]
        go_simp
        exact ⟨rfl, Below.refl _ _⟩
      | 7, ho =>
        cases ho
        have y6 : vs 6 = _ := hw 6 (waits_of (by kernel_rfl))
        clear hw
        simp [mix, y6]
        go_simp
        exact ⟨rfl, Below.refl _ _⟩
      | 8, ho => exact absurd rfl hne'
      | k + 9, ho => simp at ho
    intro vs w9 h9 hy
    have y0 : vs 0 = _ := hy 0 (by simp) (by simp)
    have y1 : vs 1 = _ := hy 1 (by simp) (by simp)
    have y2 : vs 2 = _ := hy 2 (by simp) (by simp)
    have y3 : vs 3 = _ := hy 3 (by simp) (by simp)
    have y4 : vs 4 = _ := hy 4 (by simp) (by simp)
    have y5 : vs 5 = _ := hy 5 (by simp) (by simp)
    have y6 : vs 6 = _ := hy 6 (by simp) (by simp)
    have y7 : vs 7 = _ := hy 7 (by simp) (by simp)
    clear hy
    have c0 : w9.cell? ⟨p5, 0, none⟩ = some (.int .i64 s) := h9.1
    have c1 : w9.cell? ⟨p5, 1, none⟩ = some (.int .i64 j) := h9.2.1
    have c2 : w9.cell? ⟨p5, 2, none⟩ = some (.int .i64 m) := h9.2.2.1
    have c3 : w9.cell? ⟨p5, 3, none⟩ = some (.int .i64 g) := h9.2.2.2.1
    have c4 : w9.cell? ⟨p5, 4, none⟩ = some (.int .i64 o) := h9.2.2.2.2.1
    have c5 : w9.cell? ⟨p7, 0, none⟩ = some (.bool true) := h9.2.2.2.2.2.1
    have c6 : w9.cell? ⟨p7, 1, none⟩ = some (.int .i64 L) := h9.2.2.2.2.2.2.1
    have c7 : w9.cell? ⟨p7, 2, none⟩ = some (.int .i64 bh) := h9.2.2.2.2.2.2.2.1
    have c8 : w9.cell? ⟨p7, 3, none⟩ = some (.int .i64 0) := h9.2.2.2.2.2.2.2.2.1
    have c9 : w9.cell? ⟨p7, 4, none⟩ = some (.int .i64 (-1)) := h9.2.2.2.2.2.2.2.2.2.1
    have c10 : w9.cell? ⟨p7, 5, none⟩ = some (.int .i64 0) := h9.2.2.2.2.2.2.2.2.2.2.1
    have c11 : w9.frozen? ⟨p7, 0, none⟩ = false := h9.2.2.2.2.2.2.2.2.2.2.2.1
    have c12 : w9.frozen? ⟨p7, 1, none⟩ = false := h9.2.2.2.2.2.2.2.2.2.2.2.2.1
    have c13 : w9.frozen? ⟨p7, 2, none⟩ = false := h9.2.2.2.2.2.2.2.2.2.2.2.2.2.1
    have c14 : w9.frozen? ⟨p7, 3, none⟩ = false := h9.2.2.2.2.2.2.2.2.2.2.2.2.2.2.1
    have c15 : w9.frozen? ⟨p7, 4, none⟩ = false := h9.2.2.2.2.2.2.2.2.2.2.2.2.2.2.2.1
    have c16 : w9.frozen? ⟨p7, 5, none⟩ = false := h9.2.2.2.2.2.2.2.2.2.2.2.2.2.2.2.2.1
    have c19 : Below w.heap.size w w9 := h9.2.2.2.2.2.2.2.2.2.2.2.2.2.2.2.2.2.2.2
    refine ⟨?_⟩
    simp only [mix, y0, y1, y2, y3, y4, y5, y6, y7]
    go_simp
    have hB := rfC_h h9 H (by omega) (by omega) (fun _ => by omega) (fun q h1 h2 => by have := HUL.out q h1 h2; omega)
    clear y0 y1 y2 y3 y4 y5 y6 y7
    clear hA h9 HQ3 wr2
    clear c0 c1 c2 c3 c4 c5 c6 c7 c8 c9 c10 c11 c12 c13 c14 c15 c16 c19
    generalize w9.setCell ⟨p7, 2, none⟩ (.int .i64 H) = w10 at *
    go_wp2_with fail
    have hG : rgC w s j m g o L H p5 p7 b off N f a a1 len1 u w10 w10 := ⟨hB.1, hB.2.1, hB.2.2.1, hB.2.2.2.1, hB.2.2.2.2.1, hB.2.2.2.2.2.1, hB.2.2.2.2.2.2.1, hB.2.2.2.2.2.2.2.1, hB.2.2.2.2.2.2.2.2.1, hB.2.2.2.2.2.2.2.2.2.1, hB.2.2.2.2.2.2.2.2.2.2.1, hB.2.2.2.2.2.2.2.2.2.2.2.2.2.2.2.2.2.1, hB.2.2.2.2.2.2.2.2.2.2.2.2.2.2.2.2.2.2.1, Below.refl _ _, hB.2.2.2.2.2.2.2.2.2.2.2.2.2.2.2.2.2.2.2⟩
    have hs5 := ltCell hB.1
    have hs7 := ltCell hB.2.2.2.2.2.1
    have hwx := hB.2.2.2.2.2.2.2.2.2.2.2.2.2.2.2.2.2.2.2.size
    clear hB
    refine region_relL (rgC w s j m g o L H p5 p7 b off N f a a1 len1 u w10) (rdY w10.heap.size (.agg #[.int .i64 s, .int .i64 j, .int .i64 m, .int .i64 g, .int .i64 o]) (.slice (some ⟨b, off, none⟩) N cap) (.agg #[.bool true, .int .i64 L, .int .i64 H, .int .i64 0, .int .i64 (-1), .int .i64 0]) (.int .i64 (I : Int)) (.pointer (some ⟨b, off + I * 2, none⟩)) (.int .i64 (f I)) (.agg #[.int .i64 2, .int .i64 (f I)]) (.agg #[.bool true, .int .i64 dl, .int .i64 dh, .int .i64 0, .int .i64 ((I : Int)), .int .i64 dod])) 11 (fun _ _ => rgC_on) rdY_on (by kernel_rfl) (by kernel_rfl) (by kernel_rfl) ?_ ?_ ?_
    · exact rgC_on hG (Below.drew (Below.refl _ _))
    · intro j' o' ho hne' vs w4 hC4 hw
      have hBS : w10.heap.size ≤ w4.heap.size := hC4.2.2.2.2.2.2.2.2.2.2.2.2.2.1.size
      have hrq : Row2 w4 b off N f a := hC4.2.2.2.2.2.2.2.2.2.2.2.1
      have x0 := (hrq I hIN).1
      have c0 : w4.cell? ⟨p5, 0, none⟩ = some (.int .i64 s) := hC4.1
      have c1 : w4.cell? ⟨p5, 1, none⟩ = some (.int .i64 j) := hC4.2.1
      have c2 : w4.cell? ⟨p5, 2, none⟩ = some (.int .i64 m) := hC4.2.2.1
      have c3 : w4.cell? ⟨p5, 3, none⟩ = some (.int .i64 g) := hC4.2.2.2.1
      have c4 : w4.cell? ⟨p5, 4, none⟩ = some (.int .i64 o) := hC4.2.2.2.2.1
      have c5 : w4.cell? ⟨p7, 0, none⟩ = some (.bool true) := hC4.2.2.2.2.2.1
      have c6 : w4.cell? ⟨p7, 1, none⟩ = some (.int .i64 L) := hC4.2.2.2.2.2.2.1
      have c7 : w4.cell? ⟨p7, 2, none⟩ = some (.int .i64 H) := hC4.2.2.2.2.2.2.2.1
      have c8 : w4.cell? ⟨p7, 3, none⟩ = some (.int .i64 0) := hC4.2.2.2.2.2.2.2.2.1
      have c9 : w4.cell? ⟨p7, 4, none⟩ = some (.int .i64 (-1)) := hC4.2.2.2.2.2.2.2.2.2.1
      have c10 : w4.cell? ⟨p7, 5, none⟩ = some (.int .i64 0) := hC4.2.2.2.2.2.2.2.2.2.2.1
      match j', ho with
      | 0, ho =>
        cases ho
        clear hw
        simp [mix]
        go_simp
        exact ⟨rfl, Below.refl _ _⟩
      | 1, ho =>
        cases ho
        clear hw
        simp [mix]
        go_simp
        exact ⟨rfl, Below.refl _ _⟩
      | 2, ho =>
        cases ho
        clear hw
        simp [mix]
        go_simp
        exact ⟨rfl, Below.refl _ _⟩
      | 3, ho =>
        cases ho
        clear hw
        simp [mix]
        go_simp
        exact ⟨rfl, Below.refl _ _⟩
      | 4, ho =>
        cases ho
        clear hw
        simp [mix]
        go_simp
        exact ⟨rfl, Below.refl _ _⟩
      | 5, ho =>
        cases ho
        have y3 : vs 3 = _ := hw 3 (waits_of (by kernel_rfl))
        have y4 : vs 4 = _ := hw 4 (waits_of (by kernel_rfl))
        clear hw
        simp [mix, y3, y4]
        go_simp
        exact ⟨rfl, Below.refl _ _⟩
      | 6, ho =>
        cases ho
        have y5 : vs 5 = _ := hw 5 (waits_of (by kernel_rfl))
        clear hw
        simp [mix, y5]
        go_simp
        exact ⟨rfl, Below.refl _ _⟩
      | 7, ho =>
        cases ho
        have y6 : vs 6 = _ := hw 6 (waits_of (by kernel_rfl))
        clear hw
        simp [mix, y6]
        go_simp
        exact ⟨rfl, Below.refl _ _⟩
      | 8, ho =>
        cases ho
        have y7 : vs 7 = _ := hw 7 (waits_of (by kernel_rfl))
        clear hw
        simp [mix, y7]
        go_simp
        exact ⟨rfl, Below.refl _ _⟩
      | 9, ho =>
        cases ho
        have y0 : vs 0 = _ := hw 0 (waits_of (by kernel_rfl))
        have y1 : vs 1 = _ := hw 1 (waits_of (by kernel_rfl))
        have y2 : vs 2 = _ := hw 2 (waits_of (by kernel_rfl))
        have y8 : vs 8 = _ := hw 8 (waits_of (by kernel_rfl))
        clear hw
        simp [mix, y0, y1, y2, y8]
        go_simp
        refine (HI.out _ hrq).mono ?_
        rintro e w5 ⟨rfl, hb5⟩
        exact ⟨_, rfl, rfl, hb5⟩
      | 10, ho =>
        cases ho
        clear hw
        simp [mix]
        go_simp
        exact ⟨⟨_, rfl, hBS, newBlkD _ _ rfl⟩, nbAlloc (Below.refl _ _) _⟩
      | 11, ho => exact absurd rfl hne'
      | k + 12, ho => simp at ho
    · intro vs w4 hC4 hy
      have y0 : vs 0 = _ := hy 0 (by simp) (by simp)
      have y1 : vs 1 = _ := hy 1 (by simp) (by simp)
      have y2 : vs 2 = _ := hy 2 (by simp) (by simp)
      have y3 : vs 3 = _ := hy 3 (by simp) (by simp)
      have y4 : vs 4 = _ := hy 4 (by simp) (by simp)
      have y5 : vs 5 = _ := hy 5 (by simp) (by simp)
      have y6 : vs 6 = _ := hy 6 (by simp) (by simp)
      have y7 : vs 7 = _ := hy 7 (by simp) (by simp)
      have y8 : vs 8 = _ := hy 8 (by simp) (by simp)
      have y9 : vs 9 = _ := hy 9 (by simp) (by simp)
      refine Exists.elim (rdY_10 (hy 10 (by simp) (by simp))) (fun p10 e4 => ?_)
      have y10 := e4.1
      have hp := e4.2.1
      have hblk := e4.2.2
      clear e4 hy
      have r0 : w4.cell? ⟨p10, 0, none⟩ = some (.bool false) := by simp [World.cell?, hblk]
      have f0 : w4.frozen? ⟨p10, 0, none⟩ = false := by simp [World.frozen?, hblk]
      have r1 : w4.cell? ⟨p10, 1, none⟩ = some (.int .i64 0) := by simp [World.cell?, hblk]
      have f1 : w4.frozen? ⟨p10, 1, none⟩ = false := by simp [World.frozen?, hblk]
      have r2 : w4.cell? ⟨p10, 2, none⟩ = some (.int .i64 0) := by simp [World.cell?, hblk]
      have f2 : w4.frozen? ⟨p10, 2, none⟩ = false := by simp [World.frozen?, hblk]
      have r3 : w4.cell? ⟨p10, 3, none⟩ = some (.int .i64 0) := by simp [World.cell?, hblk]
      have f3 : w4.frozen? ⟨p10, 3, none⟩ = false := by simp [World.frozen?, hblk]
      have r4 : w4.cell? ⟨p10, 4, none⟩ = some (.int .i64 0) := by simp [World.cell?, hblk]
      have f4 : w4.frozen? ⟨p10, 4, none⟩ = false := by simp [World.frozen?, hblk]
      have r5 : w4.cell? ⟨p10, 5, none⟩ = some (.int .i64 0) := by simp [World.cell?, hblk]
      have f5 : w4.frozen? ⟨p10, 5, none⟩ = false := by simp [World.frozen?, hblk]
      have hT := turn6 (w := w4) (q := p10) (v0 := .bool true) (v1 := .int .i64 dl) (v2 := .int .i64 dh) (v3 := .int .i64 0) (v4 := .int .i64 ((I : Int))) (v5 := .int .i64 dod)
      have S := set6 (v0 := .bool true) (v1 := .int .i64 dl) (v2 := .int .i64 dh) (v3 := .int .i64 0) (v4 := .int .i64 ((I : Int))) (v5 := .int .i64 dod) r0 r1 r2 r3 r4 r5
      have hH : rhC w s j m g o L H p5 p7 b off N f a a1 len1 u p10 I dl dh dod ((((((w4.setCell ⟨p10, 0, none⟩ (.bool true)).setCell ⟨p10, 1, none⟩ (.int .i64 dl)).setCell ⟨p10, 2, none⟩ (.int .i64 dh)).setCell ⟨p10, 3, none⟩ (.int .i64 0)).setCell ⟨p10, 4, none⟩ (.int .i64 ((I : Int)))).setCell ⟨p10, 5, none⟩ (.int .i64 dod)) := ⟨hT.cell (by omega) hC4.1, hT.cell (by omega) hC4.2.1, hT.cell (by omega) hC4.2.2.1, hT.cell (by omega) hC4.2.2.2.1, hT.cell (by omega) hC4.2.2.2.2.1, hT.cell (by omega) hC4.2.2.2.2.2.1, hT.cell (by omega) hC4.2.2.2.2.2.2.1, hT.cell (by omega) hC4.2.2.2.2.2.2.2.1, hT.cell (by omega) hC4.2.2.2.2.2.2.2.2.1, hT.cell (by omega) hC4.2.2.2.2.2.2.2.2.2.1, hT.cell (by omega) hC4.2.2.2.2.2.2.2.2.2.2.1, S.1, S.2.1, S.2.2.1, S.2.2.2.1, S.2.2.2.2.1, S.2.2.2.2.2, (hC4.2.2.2.2.2.2.2.2.2.2.2.1).turnsB hT (fun _ => by omega), (hC4.2.2.2.2.2.2.2.2.2.2.2.2.1).turnsB hT (fun q h1 h2 => by have := HUL.out q h1 h2; omega), hT.below hC4.2.2.2.2.2.2.2.2.2.2.2.2.2.2 (by omega)⟩
      refine ⟨?_⟩
      simp only [mix, y0, y1, y2, y3, y4, y5, y6, y7, y8, y9, y10]
      go_simp
      generalize ((((((w4.setCell ⟨p10, 0, none⟩ (.bool true)).setCell ⟨p10, 1, none⟩ (.int .i64 dl)).setCell ⟨p10, 2, none⟩ (.int .i64 dh)).setCell ⟨p10, 3, none⟩ (.int .i64 0)).setCell ⟨p10, 4, none⟩ (.int .i64 ((I : Int)))).setCell ⟨p10, 5, none⟩ (.int .i64 dod)) = w5 at *
      clear hT S r0 f0 r1 f1 r2 f2 r3 f3 r4 f4 r5 f5 hblk y0 y1 y2 y3 y4 y5 y6 y7 y8 y9 y10 hC4 hG
      go_wp2_with fail
      refine region_kept (rhC w s j m g o L H p5 p7 b off N f a a1 len1 u p10 I dl dh dod) (by kernel_rfl) (by kernel_rfl) (rhC_on hH (Below.drew (Below.refl _ _))) ?_
      intro hN_
      have k0 : ∀ d : Kept (rhC w s j m g o L H p5 p7 b off N f a a1 len1 u p10 I dl dh dod), d.w.cell? ⟨p5, 0, none⟩ = some (.int .i64 s) := fun d => d.h.1
      have k1 : ∀ d : Kept (rhC w s j m g o L H p5 p7 b off N f a a1 len1 u p10 I dl dh dod), d.w.cell? ⟨p5, 1, none⟩ = some (.int .i64 j) := fun d => d.h.2.1
      have k2 : ∀ d : Kept (rhC w s j m g o L H p5 p7 b off N f a a1 len1 u p10 I dl dh dod), d.w.cell? ⟨p5, 2, none⟩ = some (.int .i64 m) := fun d => d.h.2.2.1
      have k3 : ∀ d : Kept (rhC w s j m g o L H p5 p7 b off N f a a1 len1 u p10 I dl dh dod), d.w.cell? ⟨p5, 3, none⟩ = some (.int .i64 g) := fun d => d.h.2.2.2.1
      have k4 : ∀ d : Kept (rhC w s j m g o L H p5 p7 b off N f a a1 len1 u p10 I dl dh dod), d.w.cell? ⟨p5, 4, none⟩ = some (.int .i64 o) := fun d => d.h.2.2.2.2.1
      have k5 : ∀ d : Kept (rhC w s j m g o L H p5 p7 b off N f a a1 len1 u p10 I dl dh dod), d.w.cell? ⟨p7, 0, none⟩ = some (.bool true) := fun d => d.h.2.2.2.2.2.1
      have k6 : ∀ d : Kept (rhC w s j m g o L H p5 p7 b off N f a a1 len1 u p10 I dl dh dod), d.w.cell? ⟨p7, 1, none⟩ = some (.int .i64 L) := fun d => d.h.2.2.2.2.2.2.1
      have k7 : ∀ d : Kept (rhC w s j m g o L H p5 p7 b off N f a a1 len1 u p10 I dl dh dod), d.w.cell? ⟨p7, 2, none⟩ = some (.int .i64 H) := fun d => d.h.2.2.2.2.2.2.2.1
      have k8 : ∀ d : Kept (rhC w s j m g o L H p5 p7 b off N f a a1 len1 u p10 I dl dh dod), d.w.cell? ⟨p7, 3, none⟩ = some (.int .i64 0) := fun d => d.h.2.2.2.2.2.2.2.2.1
      have k9 : ∀ d : Kept (rhC w s j m g o L H p5 p7 b off N f a a1 len1 u p10 I dl dh dod), d.w.cell? ⟨p7, 4, none⟩ = some (.int .i64 (-1)) := fun d => d.h.2.2.2.2.2.2.2.2.2.1
      have k10 : ∀ d : Kept (rhC w s j m g o L H p5 p7 b off N f a a1 len1 u p10 I dl dh dod), d.w.cell? ⟨p7, 5, none⟩ = some (.int .i64 0) := fun d => d.h.2.2.2.2.2.2.2.2.2.2.1
      have k11 : ∀ d : Kept (rhC w s j m g o L H p5 p7 b off N f a a1 len1 u p10 I dl dh dod), d.w.cell? ⟨p10, 0, none⟩ = some (.bool true) := fun d => d.h.2.2.2.2.2.2.2.2.2.2.2.1
      have k12 : ∀ d : Kept (rhC w s j m g o L H p5 p7 b off N f a a1 len1 u p10 I dl dh dod), d.w.cell? ⟨p10, 1, none⟩ = some (.int .i64 dl) := fun d => d.h.2.2.2.2.2.2.2.2.2.2.2.2.1
      have k13 : ∀ d : Kept (rhC w s j m g o L H p5 p7 b off N f a a1 len1 u p10 I dl dh dod), d.w.cell? ⟨p10, 2, none⟩ = some (.int .i64 dh) := fun d => d.h.2.2.2.2.2.2.2.2.2.2.2.2.2.1
      have k14 : ∀ d : Kept (rhC w s j m g o L H p5 p7 b off N f a a1 len1 u p10 I dl dh dod), d.w.cell? ⟨p10, 3, none⟩ = some (.int .i64 0) := fun d => d.h.2.2.2.2.2.2.2.2.2.2.2.2.2.2.1
      have k15 : ∀ d : Kept (rhC w s j m g o L H p5 p7 b off N f a a1 len1 u p10 I dl dh dod), d.w.cell? ⟨p10, 4, none⟩ = some (.int .i64 ((I : Int))) := fun d => d.h.2.2.2.2.2.2.2.2.2.2.2.2.2.2.2.1
      have k16 : ∀ d : Kept (rhC w s j m g o L H p5 p7 b off N f a a1 len1 u p10 I dl dh dod), d.w.cell? ⟨p10, 5, none⟩ = some (.int .i64 dod) := fun d => d.h.2.2.2.2.2.2.2.2.2.2.2.2.2.2.2.2.1
      have kR : ∀ d : Kept (rhC w s j m g o L H p5 p7 b off N f a a1 len1 u p10 I dl dh dod), Row2 d.w b off N f a := fun d => d.h.2.2.2.2.2.2.2.2.2.2.2.2.2.2.2.2.2.1
      have kx : ∀ d : Kept (rhC w s j m g o L H p5 p7 b off N f a a1 len1 u p10 I dl dh dod), d.w.cell? ⟨b, off + I * 2, none⟩ = some (.int .i64 (f I)) := fun d => (kR d I hIN).1
      repeat (go_big_quiet_step (first | (go_at_call 15; exact call_kept _ rhC_on (HS.out _ (kR _)))))
      refine wpQuiet_nil ?_
      rintro w6 ⟨d, hd2⟩
      have hd := d.h
      rw [← hd2] at hd
      clear hd2 k0 k1 k2 k3 k4 k5 k6 k7 k8 k9 k10 k11 k12 k13 k14 k15 k16 kR kx hH
      have HZ' := HZ.out
      have w1' : IntKind.i64.wrap (a I + m) = a I + m := wrapS (by omega) (by omega)
      have w2' : IntKind.i64.wrap (a I - m) = a I - m := wrapS (by omega) (by omega)
      by_cases hfit : (L ≤ a I + m ∧ a I - m ≤ H)
      · have hq : dl = max L (a I - m) ∧ dh = min H (a I + m) ∧ dod = 0 := by
          rcases HCS.out with h2 | h2
          · exact h2.2.2
          · exact absurd hfit h2.1
        have hdl : Hid (dl = max L (a I - m)) := hq.1
        have hdh : Hid (dh = min H (a I + m)) := hq.2.1
        have hdo : dod = 0 := hq.2.2
        have g1 : decide (a I + m < L) = false := by simp; omega
        have g2 : decide (H < a I - m) = false := by simp; omega
        have c0 : w6.cell? ⟨p5, 0, none⟩ = some (.int .i64 s) := hd.1
        have c1 : w6.cell? ⟨p5, 1, none⟩ = some (.int .i64 j) := hd.2.1
        have c2 : w6.cell? ⟨p5, 2, none⟩ = some (.int .i64 m) := hd.2.2.1
        have c3 : w6.cell? ⟨p5, 3, none⟩ = some (.int .i64 g) := hd.2.2.2.1
        have c4 : w6.cell? ⟨p5, 4, none⟩ = some (.int .i64 o) := hd.2.2.2.2.1
        have c5 : w6.cell? ⟨p7, 0, none⟩ = some (.bool true) := hd.2.2.2.2.2.1
        have c6 : w6.cell? ⟨p7, 1, none⟩ = some (.int .i64 L) := hd.2.2.2.2.2.2.1
        have c7 : w6.cell? ⟨p7, 2, none⟩ = some (.int .i64 H) := hd.2.2.2.2.2.2.2.1
        have c8 : w6.cell? ⟨p7, 3, none⟩ = some (.int .i64 0) := hd.2.2.2.2.2.2.2.2.1
        have c9 : w6.cell? ⟨p7, 4, none⟩ = some (.int .i64 (-1)) := hd.2.2.2.2.2.2.2.2.2.1
        have c10 : w6.cell? ⟨p7, 5, none⟩ = some (.int .i64 0) := hd.2.2.2.2.2.2.2.2.2.2.1
        have c11 : w6.cell? ⟨p10, 0, none⟩ = some (.bool true) := hd.2.2.2.2.2.2.2.2.2.2.2.1
        have c12 : w6.cell? ⟨p10, 1, none⟩ = some (.int .i64 dl) := hd.2.2.2.2.2.2.2.2.2.2.2.2.1
        have c13 : w6.cell? ⟨p10, 2, none⟩ = some (.int .i64 dh) := hd.2.2.2.2.2.2.2.2.2.2.2.2.2.1
        have c14 : w6.cell? ⟨p10, 3, none⟩ = some (.int .i64 0) := hd.2.2.2.2.2.2.2.2.2.2.2.2.2.2.1
        have c15 : w6.cell? ⟨p10, 4, none⟩ = some (.int .i64 ((I : Int))) := hd.2.2.2.2.2.2.2.2.2.2.2.2.2.2.2.1
        have c16 : w6.cell? ⟨p10, 5, none⟩ = some (.int .i64 dod) := hd.2.2.2.2.2.2.2.2.2.2.2.2.2.2.2.2.1
        go_wp2_with fail
        clear c0 c1 c2 c3 c4 c5 c6 c7 c8 c9 c10 c11 c12 c13 c14 c15 c16
        clear hq hfit g1 g2 HCS
        go_loopw [11] (fun iv wr => ∃ k : Nat, iv = .int .i64 k ∧ k ≤ 20 ∧ rhC w s j m g o L H p5 p7 b off N f a a1 len1 u p10 I dl dh dod wr) (fun iv _ => 20 - (intOf iv).toNat)
        case atStart => exact ⟨0, rfl, by omega, hd⟩
        case round =>
          clear hd
          obtain ⟨k, rfl, hk, hr⟩ := hrel
          by_cases hlt : k < 20
          · have i4 : (k : Int) < 20 := by omega
            have rk := bv_range HU.out (k : Int)
            obtain ⟨vk, hvk⟩ : ∃ v, bv len1 u (k : Int) = v := ⟨_, rfl⟩
            rw [hvk] at rk
            have HQ : Hid (∀ w, BytesV w a1 len1 u → Calls Try.prog 14 #[.slice a1 len1 cap1, .int .i64 (k : Int)] w fun e w' => e = .returned (.int .i64 vk) ∧ Below w.heap.size w w') := fun w hb => by
              have := wByteQ_c a1 len1 cap1 u (k : Int) w hb hl1 (by omega) (by omega)
              rw [hvk] at this
              exact this
            clear hvk
            have hp0 : 0 ≤ vk * (m + 1) := Int.mul_nonneg rk.1 (by omega)
            have hp1 : vk * (m + 1) ≤ 255 * 30 := Int.mul_le_mul rk.2 (by omega) (by omega) (by omega)
            have e1 : IntKind.i64.wrap (m + 1) = m + 1 := wrapS (by omega) (by omega)
            have e2 : IntKind.i64.wrap (vk * (m + 1)) = vk * (m + 1) := wrapS (by omega) (by omega)
            have e3 : IntKind.i64.wrap (a I + vk * (m + 1) / 100) = a I + vk * (m + 1) / 100 := wrapS (by omega) (by omega)
            have e4 : IntKind.i64.wrap (a I + vk * (m + 1) / 100 - m) = a I + vk * (m + 1) / 100 - m := wrapS (by omega) (by omega)
            go_wp2_with fail
            refine region_kept (rhC w s j m g o L H p5 p7 b off N f a a1 len1 u p10 I dl dh dod) (by kernel_rfl) (by kernel_rfl) (rhC_on hr (Below.drew (Below.refl _ _))) ?_
            intro hN_
            have k0 : ∀ d : Kept (rhC w s j m g o L H p5 p7 b off N f a a1 len1 u p10 I dl dh dod), d.w.cell? ⟨p5, 0, none⟩ = some (.int .i64 s) := fun d => d.h.1
            have k1 : ∀ d : Kept (rhC w s j m g o L H p5 p7 b off N f a a1 len1 u p10 I dl dh dod), d.w.cell? ⟨p5, 1, none⟩ = some (.int .i64 j) := fun d => d.h.2.1
            have k2 : ∀ d : Kept (rhC w s j m g o L H p5 p7 b off N f a a1 len1 u p10 I dl dh dod), d.w.cell? ⟨p5, 2, none⟩ = some (.int .i64 m) := fun d => d.h.2.2.1
            have k3 : ∀ d : Kept (rhC w s j m g o L H p5 p7 b off N f a a1 len1 u p10 I dl dh dod), d.w.cell? ⟨p5, 3, none⟩ = some (.int .i64 g) := fun d => d.h.2.2.2.1
            have k4 : ∀ d : Kept (rhC w s j m g o L H p5 p7 b off N f a a1 len1 u p10 I dl dh dod), d.w.cell? ⟨p5, 4, none⟩ = some (.int .i64 o) := fun d => d.h.2.2.2.2.1
            have k5 : ∀ d : Kept (rhC w s j m g o L H p5 p7 b off N f a a1 len1 u p10 I dl dh dod), d.w.cell? ⟨p7, 0, none⟩ = some (.bool true) := fun d => d.h.2.2.2.2.2.1
            have k6 : ∀ d : Kept (rhC w s j m g o L H p5 p7 b off N f a a1 len1 u p10 I dl dh dod), d.w.cell? ⟨p7, 1, none⟩ = some (.int .i64 L) := fun d => d.h.2.2.2.2.2.2.1
            have k7 : ∀ d : Kept (rhC w s j m g o L H p5 p7 b off N f a a1 len1 u p10 I dl dh dod), d.w.cell? ⟨p7, 2, none⟩ = some (.int .i64 H) := fun d => d.h.2.2.2.2.2.2.2.1
            have k8 : ∀ d : Kept (rhC w s j m g o L H p5 p7 b off N f a a1 len1 u p10 I dl dh dod), d.w.cell? ⟨p7, 3, none⟩ = some (.int .i64 0) := fun d => d.h.2.2.2.2.2.2.2.2.1
            have k9 : ∀ d : Kept (rhC w s j m g o L H p5 p7 b off N f a a1 len1 u p10 I dl dh dod), d.w.cell? ⟨p7, 4, none⟩ = some (.int .i64 (-1)) := fun d => d.h.2.2.2.2.2.2.2.2.2.1
            have k10 : ∀ d : Kept (rhC w s j m g o L H p5 p7 b off N f a a1 len1 u p10 I dl dh dod), d.w.cell? ⟨p7, 5, none⟩ = some (.int .i64 0) := fun d => d.h.2.2.2.2.2.2.2.2.2.2.1
            have k11 : ∀ d : Kept (rhC w s j m g o L H p5 p7 b off N f a a1 len1 u p10 I dl dh dod), d.w.cell? ⟨p10, 0, none⟩ = some (.bool true) := fun d => d.h.2.2.2.2.2.2.2.2.2.2.2.1
            have k12 : ∀ d : Kept (rhC w s j m g o L H p5 p7 b off N f a a1 len1 u p10 I dl dh dod), d.w.cell? ⟨p10, 1, none⟩ = some (.int .i64 dl) := fun d => d.h.2.2.2.2.2.2.2.2.2.2.2.2.1
            have k13 : ∀ d : Kept (rhC w s j m g o L H p5 p7 b off N f a a1 len1 u p10 I dl dh dod), d.w.cell? ⟨p10, 2, none⟩ = some (.int .i64 dh) := fun d => d.h.2.2.2.2.2.2.2.2.2.2.2.2.2.1
            have k14 : ∀ d : Kept (rhC w s j m g o L H p5 p7 b off N f a a1 len1 u p10 I dl dh dod), d.w.cell? ⟨p10, 3, none⟩ = some (.int .i64 0) := fun d => d.h.2.2.2.2.2.2.2.2.2.2.2.2.2.2.1
            have k15 : ∀ d : Kept (rhC w s j m g o L H p5 p7 b off N f a a1 len1 u p10 I dl dh dod), d.w.cell? ⟨p10, 4, none⟩ = some (.int .i64 ((I : Int))) := fun d => d.h.2.2.2.2.2.2.2.2.2.2.2.2.2.2.2.1
            have k16 : ∀ d : Kept (rhC w s j m g o L H p5 p7 b off N f a a1 len1 u p10 I dl dh dod), d.w.cell? ⟨p10, 5, none⟩ = some (.int .i64 dod) := fun d => d.h.2.2.2.2.2.2.2.2.2.2.2.2.2.2.2.2.1
            have kU : ∀ d : Kept (rhC w s j m g o L H p5 p7 b off N f a a1 len1 u p10 I dl dh dod), BytesV d.w a1 len1 u := fun d => d.h.2.2.2.2.2.2.2.2.2.2.2.2.2.2.2.2.2.2.1
            repeat (go_big_quiet_step (first | (go_at_call 14; exact call_kept _ rhC_on (HQ.out _ (kU _))) | exact rfl))
            refine wpQuiet_nil ?_
            rintro w7 ⟨d, hd2⟩
            have hd := d.h
            rw [← hd2] at hd
            clear hd2 k0 k1 k2 k3 k4 k5 k6 k7 k8 k9 k10 k11 k12 k13 k14 k15 k16 kU hr HQ e1 e2 e3 e4 hp0 hp1 rk
            generalize a I + vk * (m + 1) / 100 - m = x at *
            have HDL := hdl.out
            have HDH := hdh.out
            have c0 : w7.cell? ⟨p5, 0, none⟩ = some (.int .i64 s) := hd.1
            have c1 : w7.cell? ⟨p5, 1, none⟩ = some (.int .i64 j) := hd.2.1
            have c2 : w7.cell? ⟨p5, 2, none⟩ = some (.int .i64 m) := hd.2.2.1
            have c3 : w7.cell? ⟨p5, 3, none⟩ = some (.int .i64 g) := hd.2.2.2.1
            have c4 : w7.cell? ⟨p5, 4, none⟩ = some (.int .i64 o) := hd.2.2.2.2.1
            have c5 : w7.cell? ⟨p7, 0, none⟩ = some (.bool true) := hd.2.2.2.2.2.1
            have c6 : w7.cell? ⟨p7, 1, none⟩ = some (.int .i64 L) := hd.2.2.2.2.2.2.1
            have c7 : w7.cell? ⟨p7, 2, none⟩ = some (.int .i64 H) := hd.2.2.2.2.2.2.2.1
            have c8 : w7.cell? ⟨p7, 3, none⟩ = some (.int .i64 0) := hd.2.2.2.2.2.2.2.2.1
            have c9 : w7.cell? ⟨p7, 4, none⟩ = some (.int .i64 (-1)) := hd.2.2.2.2.2.2.2.2.2.1
            have c10 : w7.cell? ⟨p7, 5, none⟩ = some (.int .i64 0) := hd.2.2.2.2.2.2.2.2.2.2.1
            have c11 : w7.cell? ⟨p10, 0, none⟩ = some (.bool true) := hd.2.2.2.2.2.2.2.2.2.2.2.1
            have c12 : w7.cell? ⟨p10, 1, none⟩ = some (.int .i64 dl) := hd.2.2.2.2.2.2.2.2.2.2.2.2.1
            have c13 : w7.cell? ⟨p10, 2, none⟩ = some (.int .i64 dh) := hd.2.2.2.2.2.2.2.2.2.2.2.2.2.1
            have c14 : w7.cell? ⟨p10, 3, none⟩ = some (.int .i64 0) := hd.2.2.2.2.2.2.2.2.2.2.2.2.2.2.1
            have c15 : w7.cell? ⟨p10, 4, none⟩ = some (.int .i64 ((I : Int))) := hd.2.2.2.2.2.2.2.2.2.2.2.2.2.2.2.1
            have c16 : w7.cell? ⟨p10, 5, none⟩ = some (.int .i64 dod) := hd.2.2.2.2.2.2.2.2.2.2.2.2.2.2.2.2.1
            by_cases x1 : L ≤ x
            · by_cases x2 : x ≤ H
              · by_cases x3 : a I - m ≤ x
                · by_cases x4 : x ≤ a I + m
                  · have t0 : L ≤ x := by omega
                    have t1 : x ≤ H := by omega
                    have t2 : a I - m ≤ x := by omega
                    have t3 : x ≤ a I + m := by omega
                    have t4 : dl ≤ x := by omega
                    have t5 : x ≤ dh := by omega
                    clear HDL HDH
                    clear x1 x2 x3 x4
                    go_wp2_with fail
                    go_roundw
                    case rel => exact ⟨k + 1, by go_num, by omega, hd⟩
                    case measure => simp [intOf]; omega
                  · have t0 : L ≤ x := by omega
                    have t1 : x ≤ H := by omega
                    have t2 : a I - m ≤ x := by omega
                    have t3 : dl ≤ x := by omega
                    have n0 : decide (x ≤ a I + m) = false := by simp; omega
                    have n1 : decide (x ≤ dh) = false := by simp; omega
                    clear HDL HDH
                    clear x1 x2 x3 x4
                    go_wp2_with fail
                    go_roundw
                    case rel => exact ⟨k + 1, by go_num, by omega, hd⟩
                    case measure => simp [intOf]; omega
                · have t0 : L ≤ x := by omega
                  have t1 : x ≤ H := by omega
                  have n0 : decide (a I - m ≤ x) = false := by simp; omega
                  have n1 : decide (dl ≤ x) = false := by simp; omega
                  clear HDL HDH
                  clear x1 x2 x3
                  go_wp2_with fail
                  go_roundw
                  case rel => exact ⟨k + 1, by go_num, by omega, hd⟩
                  case measure => simp [intOf]; omega
              · by_cases y1 : dl ≤ x
                · have t0 : L ≤ x := by omega
                  have t1 : dl ≤ x := by omega
                  have n0 : decide (x ≤ H) = false := by simp; omega
                  have n1 : decide (x ≤ dh) = false := by simp; omega
                  clear HDL HDH
                  clear x1 x2 y1
                  go_wp2_with fail
                  go_roundw
                  case rel => exact ⟨k + 1, by go_num, by omega, hd⟩
                  case measure => simp [intOf]; omega
                · have t0 : L ≤ x := by omega
                  have n0 : decide (x ≤ H) = false := by simp; omega
                  have n1 : decide (dl ≤ x) = false := by simp; omega
                  clear HDL HDH
                  clear x1 x2 y1
                  go_wp2_with fail
                  go_roundw
                  case rel => exact ⟨k + 1, by go_num, by omega, hd⟩
                  case measure => simp [intOf]; omega
            · have n0 : decide (L ≤ x) = false := by simp; omega
              have n1 : decide (dl ≤ x) = false := by simp; omega
              clear HDL HDH
              clear x1
              go_wp2_with fail
              go_roundw
              case rel => exact ⟨k + 1, by go_num, by omega, hd⟩
              case measure => simp [intOf]; omega
          · have hk20 : k = 20 := by omega
            subst hk20
            have c0 : wr.cell? ⟨p5, 0, none⟩ = some (.int .i64 s) := hr.1
            have c1 : wr.cell? ⟨p5, 1, none⟩ = some (.int .i64 j) := hr.2.1
            have c2 : wr.cell? ⟨p5, 2, none⟩ = some (.int .i64 m) := hr.2.2.1
            have c3 : wr.cell? ⟨p5, 3, none⟩ = some (.int .i64 g) := hr.2.2.2.1
            have c4 : wr.cell? ⟨p5, 4, none⟩ = some (.int .i64 o) := hr.2.2.2.2.1
            have c5 : wr.cell? ⟨p7, 0, none⟩ = some (.bool true) := hr.2.2.2.2.2.1
            have c6 : wr.cell? ⟨p7, 1, none⟩ = some (.int .i64 L) := hr.2.2.2.2.2.2.1
            have c7 : wr.cell? ⟨p7, 2, none⟩ = some (.int .i64 H) := hr.2.2.2.2.2.2.2.1
            have c8 : wr.cell? ⟨p7, 3, none⟩ = some (.int .i64 0) := hr.2.2.2.2.2.2.2.2.1
            have c9 : wr.cell? ⟨p7, 4, none⟩ = some (.int .i64 (-1)) := hr.2.2.2.2.2.2.2.2.2.1
            have c10 : wr.cell? ⟨p7, 5, none⟩ = some (.int .i64 0) := hr.2.2.2.2.2.2.2.2.2.2.1
            have c11 : wr.cell? ⟨p10, 0, none⟩ = some (.bool true) := hr.2.2.2.2.2.2.2.2.2.2.2.1
            have c12 : wr.cell? ⟨p10, 1, none⟩ = some (.int .i64 dl) := hr.2.2.2.2.2.2.2.2.2.2.2.2.1
            have c13 : wr.cell? ⟨p10, 2, none⟩ = some (.int .i64 dh) := hr.2.2.2.2.2.2.2.2.2.2.2.2.2.1
            have c14 : wr.cell? ⟨p10, 3, none⟩ = some (.int .i64 0) := hr.2.2.2.2.2.2.2.2.2.2.2.2.2.2.1
            have c15 : wr.cell? ⟨p10, 4, none⟩ = some (.int .i64 ((I : Int))) := hr.2.2.2.2.2.2.2.2.2.2.2.2.2.2.2.1
            have c16 : wr.cell? ⟨p10, 5, none⟩ = some (.int .i64 dod) := hr.2.2.2.2.2.2.2.2.2.2.2.2.2.2.2.2.1
            go_wp2_with fail
            go_ret
            exact ⟨rfl, hr.2.2.2.2.2.2.2.2.2.2.2.2.2.2.2.2.2.2.2⟩
      · have hq : dl = min L (a I - m) ∧ dh = max H (a I + m) ∧ dod = 1 := by
          rcases HCS.out with h2 | h2
          · exact absurd ⟨h2.1, h2.2.1⟩ hfit
          · exact h2.2
        have hdo : dod = 1 := hq.2.2
        have t1 : dl ≤ L := by omega
        have t2 : dl ≤ a I - m := by omega
        have t3 : H ≤ dh := by omega
        have t4 : a I + m ≤ dh := by omega
        have c0 : w6.cell? ⟨p5, 0, none⟩ = some (.int .i64 s) := hd.1
        have c1 : w6.cell? ⟨p5, 1, none⟩ = some (.int .i64 j) := hd.2.1
        have c2 : w6.cell? ⟨p5, 2, none⟩ = some (.int .i64 m) := hd.2.2.1
        have c3 : w6.cell? ⟨p5, 3, none⟩ = some (.int .i64 g) := hd.2.2.2.1
        have c4 : w6.cell? ⟨p5, 4, none⟩ = some (.int .i64 o) := hd.2.2.2.2.1
        have c5 : w6.cell? ⟨p7, 0, none⟩ = some (.bool true) := hd.2.2.2.2.2.1
        have c6 : w6.cell? ⟨p7, 1, none⟩ = some (.int .i64 L) := hd.2.2.2.2.2.2.1
        have c7 : w6.cell? ⟨p7, 2, none⟩ = some (.int .i64 H) := hd.2.2.2.2.2.2.2.1
        have c8 : w6.cell? ⟨p7, 3, none⟩ = some (.int .i64 0) := hd.2.2.2.2.2.2.2.2.1
        have c9 : w6.cell? ⟨p7, 4, none⟩ = some (.int .i64 (-1)) := hd.2.2.2.2.2.2.2.2.2.1
        have c10 : w6.cell? ⟨p7, 5, none⟩ = some (.int .i64 0) := hd.2.2.2.2.2.2.2.2.2.2.1
        have c11 : w6.cell? ⟨p10, 0, none⟩ = some (.bool true) := hd.2.2.2.2.2.2.2.2.2.2.2.1
        have c12 : w6.cell? ⟨p10, 1, none⟩ = some (.int .i64 dl) := hd.2.2.2.2.2.2.2.2.2.2.2.2.1
        have c13 : w6.cell? ⟨p10, 2, none⟩ = some (.int .i64 dh) := hd.2.2.2.2.2.2.2.2.2.2.2.2.2.1
        have c14 : w6.cell? ⟨p10, 3, none⟩ = some (.int .i64 0) := hd.2.2.2.2.2.2.2.2.2.2.2.2.2.2.1
        have c15 : w6.cell? ⟨p10, 4, none⟩ = some (.int .i64 ((I : Int))) := hd.2.2.2.2.2.2.2.2.2.2.2.2.2.2.2.1
        have c16 : w6.cell? ⟨p10, 5, none⟩ = some (.int .i64 dod) := hd.2.2.2.2.2.2.2.2.2.2.2.2.2.2.2.2.1
        by_cases hg : a I + m < L
        · clear hq hfit HCS
          go_wp2_with fail
          go_ret
          exact ⟨rfl, hd.2.2.2.2.2.2.2.2.2.2.2.2.2.2.2.2.2.2.2⟩
        · have g1 : decide (a I + m < L) = false := by simp; omega
          have g2 : H < a I - m := by omega
          clear hq hfit HCS hg
          go_wp2_with fail
          go_ret
          exact ⟨rfl, hd.2.2.2.2.2.2.2.2.2.2.2.2.2.2.2.2.2.2.2⟩

end Go.Proofs.Ytmhppadblddjoaa
