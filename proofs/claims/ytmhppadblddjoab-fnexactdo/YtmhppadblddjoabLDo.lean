/- The law of Do: its walk, with the program's Do as a premise. -/
import Derived.Test.YtmhppadblddjoabDoAll
import Derived.Test.YtmhppadblddjoabRel
import Derived.Test.YtmhppadblddjoabSet6
namespace Go.Proofs.Ytmhppadblddjoab
open Go.RowKit

theorem Row2.turns {w0 w w' : World} {q off len p : Nat} {f a : Nat → Int} (h : Row2 w q off len f a) (hT : Turns p w w') (h0 : Row2 w0 q off len f a) (hp : w0.heap.size ≤ p) : Row2 w' q off len f a := fun i hi => by
  have := ltCell (h0 i hi).1
  exact ⟨hT.cell (by omega) (h i hi).1, hT.cell (by omega) (h i hi).2⟩

def ldC (w : World) (s j m g o : Int) (kn : Bool) (l h si la od op n : Int) : World → Prop := fun w' => w'.cell? ⟨w.heap.size, 0, none⟩ = some (.int .i64 s) ∧ w'.cell? ⟨w.heap.size, 1, none⟩ = some (.int .i64 j) ∧ w'.cell? ⟨w.heap.size, 2, none⟩ = some (.int .i64 m) ∧ w'.cell? ⟨w.heap.size, 3, none⟩ = some (.int .i64 g) ∧ w'.cell? ⟨w.heap.size, 4, none⟩ = some (.int .i64 o) ∧ w'.cell? ⟨w.heap.size + 1, 0, none⟩ = some (.bool kn) ∧ w'.cell? ⟨w.heap.size + 1, 1, none⟩ = some (.int .i64 l) ∧ w'.cell? ⟨w.heap.size + 1, 2, none⟩ = some (.int .i64 h) ∧ w'.cell? ⟨w.heap.size + 1, 3, none⟩ = some (.int .i64 si) ∧ w'.cell? ⟨w.heap.size + 1, 4, none⟩ = some (.int .i64 la) ∧ w'.cell? ⟨w.heap.size + 1, 5, none⟩ = some (.int .i64 od) ∧ w'.cell? ⟨w.heap.size + 1 + 1, 0, none⟩ = some (.int .i64 op) ∧ w'.cell? ⟨w.heap.size + 1 + 1, 1, none⟩ = some (.int .i64 n) ∧ Below w.heap.size w w'
theorem ldC_on {w : World} {s j m g o : Int} {kn : Bool} {l h si la od op n : Int} {w1 w2 : World} (hh : ldC w s j m g o kn l h si la od op n w1) (hb : Below w1.heap.size w1 w2) : ldC w s j m g o kn l h si la od op n w2 :=
  ⟨cellOn hb hh.1, cellOn hb hh.2.1, cellOn hb hh.2.2.1, cellOn hb hh.2.2.2.1, cellOn hb hh.2.2.2.2.1, cellOn hb hh.2.2.2.2.2.1, cellOn hb hh.2.2.2.2.2.2.1, cellOn hb hh.2.2.2.2.2.2.2.1, cellOn hb hh.2.2.2.2.2.2.2.2.1, cellOn hb hh.2.2.2.2.2.2.2.2.2.1, cellOn hb hh.2.2.2.2.2.2.2.2.2.2.1, cellOn hb hh.2.2.2.2.2.2.2.2.2.2.2.1, cellOn hb hh.2.2.2.2.2.2.2.2.2.2.2.2.1, nbTrans hh.2.2.2.2.2.2.2.2.2.2.2.2.2 hb⟩

def ldD (w : World) (s j m g o : Int) (kn : Bool) (l h si la od op n : Int) (p : Nat) (t : St) : World → Prop := fun w' => w'.cell? ⟨w.heap.size, 0, none⟩ = some (.int .i64 s) ∧ w'.cell? ⟨w.heap.size, 1, none⟩ = some (.int .i64 j) ∧ w'.cell? ⟨w.heap.size, 2, none⟩ = some (.int .i64 m) ∧ w'.cell? ⟨w.heap.size, 3, none⟩ = some (.int .i64 g) ∧ w'.cell? ⟨w.heap.size, 4, none⟩ = some (.int .i64 o) ∧ w'.cell? ⟨w.heap.size + 1, 0, none⟩ = some (.bool kn) ∧ w'.cell? ⟨w.heap.size + 1, 1, none⟩ = some (.int .i64 l) ∧ w'.cell? ⟨w.heap.size + 1, 2, none⟩ = some (.int .i64 h) ∧ w'.cell? ⟨w.heap.size + 1, 3, none⟩ = some (.int .i64 si) ∧ w'.cell? ⟨w.heap.size + 1, 4, none⟩ = some (.int .i64 la) ∧ w'.cell? ⟨w.heap.size + 1, 5, none⟩ = some (.int .i64 od) ∧ w'.cell? ⟨w.heap.size + 1 + 1, 0, none⟩ = some (.int .i64 op) ∧ w'.cell? ⟨w.heap.size + 1 + 1, 1, none⟩ = some (.int .i64 n) ∧ w'.cell? ⟨p, 0, none⟩ = some (.bool t.kn) ∧ w'.cell? ⟨p, 1, none⟩ = some (.int .i64 t.l) ∧ w'.cell? ⟨p, 2, none⟩ = some (.int .i64 t.h) ∧ w'.cell? ⟨p, 3, none⟩ = some (.int .i64 t.si) ∧ w'.cell? ⟨p, 4, none⟩ = some (.int .i64 t.la) ∧ w'.cell? ⟨p, 5, none⟩ = some (.int .i64 t.od) ∧ Below w.heap.size w w'
theorem ldD_on {w : World} {s j m g o : Int} {kn : Bool} {l h si la od op n : Int} {p : Nat} {t : St} {w1 w2 : World} (hh : ldD w s j m g o kn l h si la od op n p t w1) (hb : Below w1.heap.size w1 w2) : ldD w s j m g o kn l h si la od op n p t w2 :=
  ⟨cellOn hb hh.1, cellOn hb hh.2.1, cellOn hb hh.2.2.1, cellOn hb hh.2.2.2.1, cellOn hb hh.2.2.2.2.1, cellOn hb hh.2.2.2.2.2.1, cellOn hb hh.2.2.2.2.2.2.1, cellOn hb hh.2.2.2.2.2.2.2.1, cellOn hb hh.2.2.2.2.2.2.2.2.1, cellOn hb hh.2.2.2.2.2.2.2.2.2.1, cellOn hb hh.2.2.2.2.2.2.2.2.2.2.1, cellOn hb hh.2.2.2.2.2.2.2.2.2.2.2.1, cellOn hb hh.2.2.2.2.2.2.2.2.2.2.2.2.1, cellOn hb hh.2.2.2.2.2.2.2.2.2.2.2.2.2.1, cellOn hb hh.2.2.2.2.2.2.2.2.2.2.2.2.2.2.1, cellOn hb hh.2.2.2.2.2.2.2.2.2.2.2.2.2.2.2.1, cellOn hb hh.2.2.2.2.2.2.2.2.2.2.2.2.2.2.2.2.1, cellOn hb hh.2.2.2.2.2.2.2.2.2.2.2.2.2.2.2.2.2.1, cellOn hb hh.2.2.2.2.2.2.2.2.2.2.2.2.2.2.2.2.2.2.1, nbTrans hh.2.2.2.2.2.2.2.2.2.2.2.2.2.2.2.2.2.2.2 hb⟩

def ldE (w : World) (s j m g o : Int) (kn : Bool) (l h si la od op n : Int) (p : Nat) (t : St) (q1 len : Nat) (f a : Nat → Int) (w6 : World) : World → Prop := fun w' => w'.cell? ⟨w.heap.size, 0, none⟩ = some (.int .i64 s) ∧ w'.cell? ⟨w.heap.size, 1, none⟩ = some (.int .i64 j) ∧ w'.cell? ⟨w.heap.size, 2, none⟩ = some (.int .i64 m) ∧ w'.cell? ⟨w.heap.size, 3, none⟩ = some (.int .i64 g) ∧ w'.cell? ⟨w.heap.size, 4, none⟩ = some (.int .i64 o) ∧ w'.cell? ⟨w.heap.size + 1, 0, none⟩ = some (.bool kn) ∧ w'.cell? ⟨w.heap.size + 1, 1, none⟩ = some (.int .i64 l) ∧ w'.cell? ⟨w.heap.size + 1, 2, none⟩ = some (.int .i64 h) ∧ w'.cell? ⟨w.heap.size + 1, 3, none⟩ = some (.int .i64 si) ∧ w'.cell? ⟨w.heap.size + 1, 4, none⟩ = some (.int .i64 la) ∧ w'.cell? ⟨w.heap.size + 1, 5, none⟩ = some (.int .i64 od) ∧ w'.cell? ⟨w.heap.size + 1 + 1, 0, none⟩ = some (.int .i64 op) ∧ w'.cell? ⟨w.heap.size + 1 + 1, 1, none⟩ = some (.int .i64 n) ∧ w'.cell? ⟨p, 0, none⟩ = some (.bool t.kn) ∧ w'.cell? ⟨p, 1, none⟩ = some (.int .i64 t.l) ∧ w'.cell? ⟨p, 2, none⟩ = some (.int .i64 t.h) ∧ w'.cell? ⟨p, 3, none⟩ = some (.int .i64 t.si) ∧ w'.cell? ⟨p, 4, none⟩ = some (.int .i64 t.la) ∧ w'.cell? ⟨p, 5, none⟩ = some (.int .i64 t.od) ∧ Row2 w' q1 0 len f a ∧ Below w6.heap.size w6 w' ∧ Below w.heap.size w w'
theorem ldE_on {w : World} {s j m g o : Int} {kn : Bool} {l h si la od op n : Int} {p : Nat} {t : St} {q1 len : Nat} {f a : Nat → Int} {w6 : World} {w1 w2 : World} (hh : ldE w s j m g o kn l h si la od op n p t q1 len f a w6 w1) (hb : Below w1.heap.size w1 w2) : ldE w s j m g o kn l h si la od op n p t q1 len f a w6 w2 :=
  ⟨cellOn hb hh.1, cellOn hb hh.2.1, cellOn hb hh.2.2.1, cellOn hb hh.2.2.2.1, cellOn hb hh.2.2.2.2.1, cellOn hb hh.2.2.2.2.2.1, cellOn hb hh.2.2.2.2.2.2.1, cellOn hb hh.2.2.2.2.2.2.2.1, cellOn hb hh.2.2.2.2.2.2.2.2.1, cellOn hb hh.2.2.2.2.2.2.2.2.2.1, cellOn hb hh.2.2.2.2.2.2.2.2.2.2.1, cellOn hb hh.2.2.2.2.2.2.2.2.2.2.2.1, cellOn hb hh.2.2.2.2.2.2.2.2.2.2.2.2.1, cellOn hb hh.2.2.2.2.2.2.2.2.2.2.2.2.2.1, cellOn hb hh.2.2.2.2.2.2.2.2.2.2.2.2.2.2.1, cellOn hb hh.2.2.2.2.2.2.2.2.2.2.2.2.2.2.2.1, cellOn hb hh.2.2.2.2.2.2.2.2.2.2.2.2.2.2.2.2.1, cellOn hb hh.2.2.2.2.2.2.2.2.2.2.2.2.2.2.2.2.2.1, cellOn hb hh.2.2.2.2.2.2.2.2.2.2.2.2.2.2.2.2.2.2.1, hh.2.2.2.2.2.2.2.2.2.2.2.2.2.2.2.2.2.2.2.1.on hb, nbTrans hh.2.2.2.2.2.2.2.2.2.2.2.2.2.2.2.2.2.2.2.2.1 hb, nbTrans hh.2.2.2.2.2.2.2.2.2.2.2.2.2.2.2.2.2.2.2.2.2 hb⟩

def ldG (w : World) (s j m g o : Int) (kn : Bool) (l h si la od op n : Int) (p : Nat) (t : St) (q1 len : Nat) (f a : Nat → Int) (w6 : World) (p2 : Nat) : World → Prop := fun w' => w'.cell? ⟨w.heap.size, 0, none⟩ = some (.int .i64 s) ∧ w'.cell? ⟨w.heap.size, 1, none⟩ = some (.int .i64 j) ∧ w'.cell? ⟨w.heap.size, 2, none⟩ = some (.int .i64 m) ∧ w'.cell? ⟨w.heap.size, 3, none⟩ = some (.int .i64 g) ∧ w'.cell? ⟨w.heap.size, 4, none⟩ = some (.int .i64 o) ∧ w'.cell? ⟨w.heap.size + 1, 0, none⟩ = some (.bool kn) ∧ w'.cell? ⟨w.heap.size + 1, 1, none⟩ = some (.int .i64 l) ∧ w'.cell? ⟨w.heap.size + 1, 2, none⟩ = some (.int .i64 h) ∧ w'.cell? ⟨w.heap.size + 1, 3, none⟩ = some (.int .i64 si) ∧ w'.cell? ⟨w.heap.size + 1, 4, none⟩ = some (.int .i64 la) ∧ w'.cell? ⟨w.heap.size + 1, 5, none⟩ = some (.int .i64 od) ∧ w'.cell? ⟨w.heap.size + 1 + 1, 0, none⟩ = some (.int .i64 op) ∧ w'.cell? ⟨w.heap.size + 1 + 1, 1, none⟩ = some (.int .i64 n) ∧ w'.cell? ⟨p, 0, none⟩ = some (.bool t.kn) ∧ w'.cell? ⟨p, 1, none⟩ = some (.int .i64 t.l) ∧ w'.cell? ⟨p, 2, none⟩ = some (.int .i64 t.h) ∧ w'.cell? ⟨p, 3, none⟩ = some (.int .i64 t.si) ∧ w'.cell? ⟨p, 4, none⟩ = some (.int .i64 t.la) ∧ w'.cell? ⟨p, 5, none⟩ = some (.int .i64 t.od) ∧ Row2 w' q1 0 len f a ∧ Below w6.heap.size w6 w' ∧ w'.cell? ⟨p2, 0, none⟩ = some (.bool t.kn) ∧ w'.cell? ⟨p2, 1, none⟩ = some (.int .i64 t.l) ∧ w'.cell? ⟨p2, 2, none⟩ = some (.int .i64 t.h) ∧ w'.cell? ⟨p2, 3, none⟩ = some (.int .i64 t.si) ∧ w'.cell? ⟨p2, 4, none⟩ = some (.int .i64 t.la) ∧ w'.cell? ⟨p2, 5, none⟩ = some (.int .i64 t.od) ∧ Below w.heap.size w w'
theorem ldG_on {w : World} {s j m g o : Int} {kn : Bool} {l h si la od op n : Int} {p : Nat} {t : St} {q1 len : Nat} {f a : Nat → Int} {w6 : World} {p2 : Nat} {w1 w2 : World} (hh : ldG w s j m g o kn l h si la od op n p t q1 len f a w6 p2 w1) (hb : Below w1.heap.size w1 w2) : ldG w s j m g o kn l h si la od op n p t q1 len f a w6 p2 w2 :=
  ⟨cellOn hb hh.1, cellOn hb hh.2.1, cellOn hb hh.2.2.1, cellOn hb hh.2.2.2.1, cellOn hb hh.2.2.2.2.1, cellOn hb hh.2.2.2.2.2.1, cellOn hb hh.2.2.2.2.2.2.1, cellOn hb hh.2.2.2.2.2.2.2.1, cellOn hb hh.2.2.2.2.2.2.2.2.1, cellOn hb hh.2.2.2.2.2.2.2.2.2.1, cellOn hb hh.2.2.2.2.2.2.2.2.2.2.1, cellOn hb hh.2.2.2.2.2.2.2.2.2.2.2.1, cellOn hb hh.2.2.2.2.2.2.2.2.2.2.2.2.1, cellOn hb hh.2.2.2.2.2.2.2.2.2.2.2.2.2.1, cellOn hb hh.2.2.2.2.2.2.2.2.2.2.2.2.2.2.1, cellOn hb hh.2.2.2.2.2.2.2.2.2.2.2.2.2.2.2.1, cellOn hb hh.2.2.2.2.2.2.2.2.2.2.2.2.2.2.2.2.1, cellOn hb hh.2.2.2.2.2.2.2.2.2.2.2.2.2.2.2.2.2.1, cellOn hb hh.2.2.2.2.2.2.2.2.2.2.2.2.2.2.2.2.2.2.1, hh.2.2.2.2.2.2.2.2.2.2.2.2.2.2.2.2.2.2.2.1.on hb, nbTrans hh.2.2.2.2.2.2.2.2.2.2.2.2.2.2.2.2.2.2.2.2.1 hb, cellOn hb hh.2.2.2.2.2.2.2.2.2.2.2.2.2.2.2.2.2.2.2.2.2.1, cellOn hb hh.2.2.2.2.2.2.2.2.2.2.2.2.2.2.2.2.2.2.2.2.2.2.1, cellOn hb hh.2.2.2.2.2.2.2.2.2.2.2.2.2.2.2.2.2.2.2.2.2.2.2.1, cellOn hb hh.2.2.2.2.2.2.2.2.2.2.2.2.2.2.2.2.2.2.2.2.2.2.2.2.1, cellOn hb hh.2.2.2.2.2.2.2.2.2.2.2.2.2.2.2.2.2.2.2.2.2.2.2.2.2.1, cellOn hb hh.2.2.2.2.2.2.2.2.2.2.2.2.2.2.2.2.2.2.2.2.2.2.2.2.2.2.1, nbTrans hh.2.2.2.2.2.2.2.2.2.2.2.2.2.2.2.2.2.2.2.2.2.2.2.2.2.2.2 hb⟩

def ldY (B : Nat) (mv rv sv ev tv : Value) (len : Nat) (f a : Nat → Int) : Nat → Value → World → Prop
  | 0, v, _ => v = rv
  | 1, v, _ => v = rv
  | 2, v, _ => v = mv
  | 3, v, w => ∃ q, v = .slice (some ⟨q, 0, none⟩) len len ∧ Row2 w q 0 len f a
  | 4, v, _ => v = sv
  | 5, v, _ => v = sv
  | 6, v, _ => v = ev
  | 7, v, _ => v = ev
  | 8, v, _ => v = tv
  | 9, v, w => ∃ p, v = .pointer (some ⟨p, 0, none⟩) ∧ B ≤ p ∧ w.heap[p]? = some (.cells #[.bool false, .int .i64 0, .int .i64 0, .int .i64 0, .int .i64 0, .int .i64 0] 46)
  | _, _, _ => True
theorem ldY_on {B : Nat} {mv rv sv ev tv : Value} {len : Nat} {f a : Nat → Int} : ∀ jj v w w', ldY B mv rv sv ev tv len f a jj v w → Below w.heap.size w w' → ldY B mv rv sv ev tv len f a jj v w'
  | 0, _, _, _, h, _ => h
  | 1, _, _, _, h, _ => h
  | 2, _, _, _, h, _ => h
  | 3, _, _, _, ⟨q, h1, h2⟩, hb => ⟨q, h1, h2.on hb⟩
  | 4, _, _, _, h, _ => h
  | 5, _, _, _, h, _ => h
  | 6, _, _, _, h, _ => h
  | 7, _, _, _, h, _ => h
  | 8, _, _, _, h, _ => h
  | 9, _, _, _, ⟨p, h1, h2, h3⟩, hb => ⟨p, h1, h2, by rw [hb.block p (Array.getElem?_eq_some_iff.1 h3).1]; exact h3⟩
  | _ + 10, _, _, _, _, _ => trivial
theorem ldY_3 {B : Nat} {mv rv sv ev tv : Value} {len : Nat} {f a : Nat → Int} {v : Value} {w : World} (h : ldY B mv rv sv ev tv len f a 3 v w) : ∃ q, v = .slice (some ⟨q, 0, none⟩) len len ∧ Row2 w q 0 len f a := h
theorem ldY_9 {B : Nat} {mv rv sv ev tv : Value} {len : Nat} {f a : Nat → Int} {v : Value} {w : World} (h : ldY B mv rv sv ev tv len f a 9 v w) : ∃ p, v = .pointer (some ⟨p, 0, none⟩) ∧ B ≤ p ∧ w.heap[p]? = some (.cells #[.bool false, .int .i64 0, .int .i64 0, .int .i64 0, .int .i64 0, .int .i64 0] 46) := h

def ldZ (B : Nat) (mv rv sv ev tv : Value) : Nat → Value → World → Prop
  | 0, v, _ => v = rv
  | 1, v, _ => v = rv
  | 2, v, _ => v = mv
  | 3, v, _ => v = sv
  | 4, v, _ => v = sv
  | 5, v, _ => v = ev
  | 6, v, _ => v = ev
  | 7, v, _ => v = tv
  | 8, v, w => ∃ p, v = .pointer (some ⟨p, 0, none⟩) ∧ B ≤ p ∧ w.heap[p]? = some (.cells #[.bool false, .int .i64 0, .int .i64 0, .int .i64 0, .int .i64 0, .int .i64 0] 46)
  | _, _, _ => True
theorem ldZ_on {B : Nat} {mv rv sv ev tv : Value} : ∀ jj v w w', ldZ B mv rv sv ev tv jj v w → Below w.heap.size w w' → ldZ B mv rv sv ev tv jj v w'
  | 0, _, _, _, h, _ => h
  | 1, _, _, _, h, _ => h
  | 2, _, _, _, h, _ => h
  | 3, _, _, _, h, _ => h
  | 4, _, _, _, h, _ => h
  | 5, _, _, _, h, _ => h
  | 6, _, _, _, h, _ => h
  | 7, _, _, _, h, _ => h
  | 8, _, _, _, ⟨p, h1, h2, h3⟩, hb => ⟨p, h1, h2, by rw [hb.block p (Array.getElem?_eq_some_iff.1 h3).1]; exact h3⟩
  | _ + 9, _, _, _, _, _ => trivial
theorem ldZ_8 {B : Nat} {mv rv sv ev tv : Value} {v : Value} {w : World} (h : ldZ B mv rv sv ev tv 8 v w) : ∃ p, v = .pointer (some ⟨p, 0, none⟩) ∧ B ≤ p ∧ w.heap[p]? = some (.cells #[.bool false, .int .i64 0, .int .i64 0, .int .i64 0, .int .i64 0, .int .i64 0] 46) := h

set_option maxRecDepth 100000 in
set_option maxHeartbeats 4000000 in
theorem lawDo_c (ad : Option Addr) (len cap : Nat) (f a : Nat → Int) (s j m g o : Int) (kn : Bool) (l h si la od op n : Int) (t : St) (w : World) (hlen : len ≤ 9223372036854775807) (hrow : SRow w ad len f a)
    (hs : Hid (∀ q w, len ≤ 1048576 → Row2 w q 0 len f a → Calls Try.prog 30 #[.agg #[.int .i64 s, .int .i64 j, .int .i64 m, .int .i64 g, .int .i64 o], .slice (some ⟨q, 0, none⟩) len len, .agg #[.bool kn, .int .i64 l, .int .i64 h, .int .i64 si, .int .i64 la, .int .i64 od], .agg #[.int .i64 op, .int .i64 n]] w fun e w' => e = .returned (.agg #[.bool t.kn, .int .i64 t.l, .int .i64 t.h, .int .i64 t.si, .int .i64 t.la, .int .i64 t.od]) ∧ Below w.heap.size w w'))
    (hi : Hid (∀ q w, len ≤ 1048576 → Row2 w q 0 len f a → Calls Try.prog 32 #[.agg #[.int .i64 s, .int .i64 j, .int .i64 m, .int .i64 g, .int .i64 o], .slice (some ⟨q, 0, none⟩) len len, .agg #[.bool kn, .int .i64 l, .int .i64 h, .int .i64 si, .int .i64 la, .int .i64 od], .agg #[.int .i64 op, .int .i64 n]] w fun e w' => e = .returned (.agg #[.bool t.kn, .int .i64 t.l, .int .i64 t.h, .int .i64 t.si, .int .i64 t.la, .int .i64 t.od]) ∧ Below w.heap.size w w')) :
    Calls Try.prog 7 #[.agg #[.int .i64 s, .int .i64 j, .int .i64 m, .int .i64 g, .int .i64 o], .slice ad len cap, .agg #[.bool kn, .int .i64 l, .int .i64 h, .int .i64 si, .int .i64 la, .int .i64 od], .agg #[.int .i64 op, .int .i64 n]] w fun e w' => e = .returned (.bool true) ∧ Below w.heap.size w w' := by
  go_enter Try.func7, Try.ntmps7
  go_wp2_with fail
  refine (szMarkS_c _ _ _ _ _ (by omega) (by omega) hlen).mono ?_
  rintro e w1 ⟨rfl, rfl⟩
  by_cases hbig : (1048576 : Int) - (len : Int) < 0
  · rw [if_pos hbig]
    go_wp2_with fail
    go_ret
    exact ⟨rfl, nbAlloc (nbAlloc (nbAlloc (Below.refl _ _) _) _) _⟩
  · rw [if_neg hbig]
    have hl : len ≤ 1048576 := by omega
    have HB : Hid (len ≤ 1048576) := hl
    have i0 : ¬ ((1048576 : Int) - (len : Int) < 0) := hbig
    clear hl
    go_wp2_with fail
    refine region_relL (ldC w s j m g o kn l h si la od op n) (ldY (w.heap.size + 1 + 1 + 1) (.slice ad len cap) (.agg #[.int .i64 s, .int .i64 j, .int .i64 m, .int .i64 g, .int .i64 o]) (.agg #[.bool kn, .int .i64 l, .int .i64 h, .int .i64 si, .int .i64 la, .int .i64 od]) (.agg #[.int .i64 op, .int .i64 n]) (.agg #[.bool t.kn, .int .i64 t.l, .int .i64 t.h, .int .i64 t.si, .int .i64 t.la, .int .i64 t.od]) len f a) 10 (fun _ _ => ldC_on) ldY_on (by kernel_rfl) (by kernel_rfl) (by kernel_rfl) ?_ ?_ ?_
    · refine ⟨?_, ?_, ?_, ?_, ?_, ?_, ?_, ?_, ?_, ?_, ?_, ?_, ?_, Below.drew (nbAlloc (nbAlloc (nbAlloc (Below.refl _ _) _) _) _)⟩ <;> go_simp
    · intro j' o' ho hne vs w4 hC hw
      have hBS : w.heap.size + 1 + 1 + 1 ≤ w4.heap.size := by have := ltCell hC.2.2.2.2.2.2.2.2.2.2.2.1; omega
      have hB4 := hC.2.2.2.2.2.2.2.2.2.2.2.2.2
      have c0 : w4.cell? ⟨w.heap.size, 0, none⟩ = some (.int .i64 s) := hC.1
      have c1 : w4.cell? ⟨w.heap.size, 1, none⟩ = some (.int .i64 j) := hC.2.1
      have c2 : w4.cell? ⟨w.heap.size, 2, none⟩ = some (.int .i64 m) := hC.2.2.1
      have c3 : w4.cell? ⟨w.heap.size, 3, none⟩ = some (.int .i64 g) := hC.2.2.2.1
      have c4 : w4.cell? ⟨w.heap.size, 4, none⟩ = some (.int .i64 o) := hC.2.2.2.2.1
      have c5 : w4.cell? ⟨w.heap.size + 1, 0, none⟩ = some (.bool kn) := hC.2.2.2.2.2.1
      have c6 : w4.cell? ⟨w.heap.size + 1, 1, none⟩ = some (.int .i64 l) := hC.2.2.2.2.2.2.1
      have c7 : w4.cell? ⟨w.heap.size + 1, 2, none⟩ = some (.int .i64 h) := hC.2.2.2.2.2.2.2.1
      have c8 : w4.cell? ⟨w.heap.size + 1, 3, none⟩ = some (.int .i64 si) := hC.2.2.2.2.2.2.2.2.1
      have c9 : w4.cell? ⟨w.heap.size + 1, 4, none⟩ = some (.int .i64 la) := hC.2.2.2.2.2.2.2.2.2.1
      have c10 : w4.cell? ⟨w.heap.size + 1, 5, none⟩ = some (.int .i64 od) := hC.2.2.2.2.2.2.2.2.2.2.1
      have c11 : w4.cell? ⟨w.heap.size + 1 + 1, 0, none⟩ = some (.int .i64 op) := hC.2.2.2.2.2.2.2.2.2.2.2.1
      have c12 : w4.cell? ⟨w.heap.size + 1 + 1, 1, none⟩ = some (.int .i64 n) := hC.2.2.2.2.2.2.2.2.2.2.2.2.1
      have c13 : Below w.heap.size w w4 := hC.2.2.2.2.2.2.2.2.2.2.2.2.2
      match j', ho with
      | 0, ho =>
        cases ho
        clear hw
        simp [mix]
        go_simp
        exact ⟨rfl, Below.refl _ _⟩
      | 1, ho =>
        cases ho
        have y0 : vs 0 = _ := hw 0 (waits_of (by kernel_rfl))
        clear hw
        simp [mix, y0]
        go_simp
        refine (toRules_c _ _ _ _ _ _).mono ?_
        rintro e w5 ⟨rfl, hb5⟩
        exact ⟨_, rfl, rfl, hb5⟩
      | 2, ho =>
        cases ho
        clear hw
        simp [mix]
        go_simp
        exact ⟨rfl, Below.refl _ _⟩
      | 3, ho =>
        cases ho
        have y2 : vs 2 = _ := hw 2 (waits_of (by kernel_rfl))
        clear hw
        simp [mix, y2]
        go_simp
        refine (toMarkS_any ad len cap f a _ HB.out (hrow.on hB4)).mono ?_
        rintro e w5 ⟨q2, rfl, hq2, hr2, -, hb5⟩
        exact ⟨_, rfl, ⟨q2, rfl, hr2⟩, hb5⟩
      | 4, ho =>
        cases ho
        clear hw
        simp [mix]
        go_simp
        exact ⟨rfl, Below.refl _ _⟩
      | 5, ho =>
        cases ho
        have y4 : vs 4 = _ := hw 4 (waits_of (by kernel_rfl))
        clear hw
        simp [mix, y4]
        go_simp
        refine (toState_c _ _ _ _ _ _ _).mono ?_
        rintro e w5 ⟨rfl, hb5⟩
        exact ⟨_, rfl, rfl, hb5⟩
      | 6, ho =>
        cases ho
        clear hw
        simp [mix]
        go_simp
        exact ⟨rfl, Below.refl _ _⟩
      | 7, ho =>
        cases ho
        have y6 : vs 6 = _ := hw 6 (waits_of (by kernel_rfl))
        clear hw
        simp [mix, y6]
        go_simp
        refine (toEvent_c _ _ _).mono ?_
        rintro e w5 ⟨rfl, hb5⟩
        exact ⟨_, rfl, rfl, hb5⟩
      | 8, ho =>
        cases ho
        have y1 : vs 1 = _ := hw 1 (waits_of (by kernel_rfl))
        have y5 : vs 5 = _ := hw 5 (waits_of (by kernel_rfl))
        have y7 : vs 7 = _ := hw 7 (waits_of (by kernel_rfl))
        refine Exists.elim (ldY_3 (hw 3 (waits_of (by kernel_rfl)))) (fun q hq0 => ?_)
        have y3 := hq0.1
        have hq := hq0.2
        clear hq0
        clear hw
        simp [mix, y1, y5, y7, y3]
        go_simp
        refine (hs.out q _ HB.out hq).mono ?_
        rintro e w5 ⟨rfl, hb5⟩
        exact ⟨_, rfl, rfl, hb5⟩
      | 9, ho =>
        cases ho
        clear hw
        simp [mix]
        go_simp
        exact ⟨⟨_, rfl, hBS, newBlkD _ _ rfl⟩, nbAlloc (Below.refl _ _) _⟩
      | 10, ho => exact absurd rfl hne
      | k + 11, ho => simp at ho
    · intro vs w4 hC hy
      have y0 : vs 0 = _ := hy 0 (by simp) (by simp)
      have y1 : vs 1 = _ := hy 1 (by simp) (by simp)
      have y2 : vs 2 = _ := hy 2 (by simp) (by simp)
      refine Exists.elim (ldY_3 (hy 3 (by simp) (by simp))) (fun q2 e2 => ?_)
      have y3 := e2.1
      clear e2
      have y4 : vs 4 = _ := hy 4 (by simp) (by simp)
      have y5 : vs 5 = _ := hy 5 (by simp) (by simp)
      have y6 : vs 6 = _ := hy 6 (by simp) (by simp)
      have y7 : vs 7 = _ := hy 7 (by simp) (by simp)
      have y8 : vs 8 = _ := hy 8 (by simp) (by simp)
      refine Exists.elim (ldY_9 (hy 9 (by simp) (by simp))) (fun p e4 => ?_)
      have y9 := e4.1
      have hp := e4.2.1
      have hblk := e4.2.2
      clear e4
      clear hy
      have r0 : w4.cell? ⟨p, 0, none⟩ = some (.bool false) := by simp [World.cell?, hblk]
      have f0 : w4.frozen? ⟨p, 0, none⟩ = false := by simp [World.frozen?, hblk]
      have r1 : w4.cell? ⟨p, 1, none⟩ = some (.int .i64 0) := by simp [World.cell?, hblk]
      have f1 : w4.frozen? ⟨p, 1, none⟩ = false := by simp [World.frozen?, hblk]
      have r2 : w4.cell? ⟨p, 2, none⟩ = some (.int .i64 0) := by simp [World.cell?, hblk]
      have f2 : w4.frozen? ⟨p, 2, none⟩ = false := by simp [World.frozen?, hblk]
      have r3 : w4.cell? ⟨p, 3, none⟩ = some (.int .i64 0) := by simp [World.cell?, hblk]
      have f3 : w4.frozen? ⟨p, 3, none⟩ = false := by simp [World.frozen?, hblk]
      have r4 : w4.cell? ⟨p, 4, none⟩ = some (.int .i64 0) := by simp [World.cell?, hblk]
      have f4 : w4.frozen? ⟨p, 4, none⟩ = false := by simp [World.frozen?, hblk]
      have r5 : w4.cell? ⟨p, 5, none⟩ = some (.int .i64 0) := by simp [World.cell?, hblk]
      have f5 : w4.frozen? ⟨p, 5, none⟩ = false := by simp [World.frozen?, hblk]
      have hT := turn6 (w := w4) (q := p) (v0 := .bool t.kn) (v1 := .int .i64 t.l) (v2 := .int .i64 t.h) (v3 := .int .i64 t.si) (v4 := .int .i64 t.la) (v5 := .int .i64 t.od)
      have S := set6 (v0 := .bool t.kn) (v1 := .int .i64 t.l) (v2 := .int .i64 t.h) (v3 := .int .i64 t.si) (v4 := .int .i64 t.la) (v5 := .int .i64 t.od) r0 r1 r2 r3 r4 r5
      have hJ : ldD w s j m g o kn l h si la od op n p t ((((((w4.setCell ⟨p, 0, none⟩ (.bool t.kn)).setCell ⟨p, 1, none⟩ (.int .i64 t.l)).setCell ⟨p, 2, none⟩ (.int .i64 t.h)).setCell ⟨p, 3, none⟩ (.int .i64 t.si)).setCell ⟨p, 4, none⟩ (.int .i64 t.la)).setCell ⟨p, 5, none⟩ (.int .i64 t.od)) := ⟨hT.cell (by omega) hC.1, hT.cell (by omega) hC.2.1, hT.cell (by omega) hC.2.2.1, hT.cell (by omega) hC.2.2.2.1, hT.cell (by omega) hC.2.2.2.2.1, hT.cell (by omega) hC.2.2.2.2.2.1, hT.cell (by omega) hC.2.2.2.2.2.2.1, hT.cell (by omega) hC.2.2.2.2.2.2.2.1, hT.cell (by omega) hC.2.2.2.2.2.2.2.2.1, hT.cell (by omega) hC.2.2.2.2.2.2.2.2.2.1, hT.cell (by omega) hC.2.2.2.2.2.2.2.2.2.2.1, hT.cell (by omega) hC.2.2.2.2.2.2.2.2.2.2.2.1, hT.cell (by omega) hC.2.2.2.2.2.2.2.2.2.2.2.2.1, S.1, S.2.1, S.2.2.1, S.2.2.2.1, S.2.2.2.2.1, S.2.2.2.2.2, hT.below hC.2.2.2.2.2.2.2.2.2.2.2.2.2 (by omega)⟩
      refine ⟨?_⟩
      simp only [mix, y0, y1, y2, y3, y4, y5, y6, y7, y8, y9]
      go_simp
      generalize ((((((w4.setCell ⟨p, 0, none⟩ (.bool t.kn)).setCell ⟨p, 1, none⟩ (.int .i64 t.l)).setCell ⟨p, 2, none⟩ (.int .i64 t.h)).setCell ⟨p, 3, none⟩ (.int .i64 t.si)).setCell ⟨p, 4, none⟩ (.int .i64 t.la)).setCell ⟨p, 5, none⟩ (.int .i64 t.od)) = w5 at *
      clear hT S r0 f0 r1 f1 r2 f2 r3 f3 r4 f4 r5 f5 hblk y0 y1 y2 y3 y4 y5 y6 y7 y8 y9 hC
      have hB5 : Below w.heap.size w w5 := hJ.2.2.2.2.2.2.2.2.2.2.2.2.2.2.2.2.2.2.2
      go_wp2_with fail
      refine (toMarkS_any ad len cap f a _ HB.out (hrow.on hB5)).mono ?_
      rintro e w6 ⟨q1, rfl, hq1, hr1, -, hb6⟩
      have hJ6 := ldD_on hJ hb6
      have hpl := ltCell hJ6.2.2.2.2.2.2.2.2.2.2.2.2.2.1
      have hwl := hJ6.2.2.2.2.2.2.2.2.2.2.2.2.2.2.2.2.2.2.2.size
      have hE : ldE w s j m g o kn l h si la od op n p t q1 len f a w6 w6 := ⟨hJ6.1, hJ6.2.1, hJ6.2.2.1, hJ6.2.2.2.1, hJ6.2.2.2.2.1, hJ6.2.2.2.2.2.1, hJ6.2.2.2.2.2.2.1, hJ6.2.2.2.2.2.2.2.1, hJ6.2.2.2.2.2.2.2.2.1, hJ6.2.2.2.2.2.2.2.2.2.1, hJ6.2.2.2.2.2.2.2.2.2.2.1, hJ6.2.2.2.2.2.2.2.2.2.2.2.1, hJ6.2.2.2.2.2.2.2.2.2.2.2.2.1, hJ6.2.2.2.2.2.2.2.2.2.2.2.2.2.1, hJ6.2.2.2.2.2.2.2.2.2.2.2.2.2.2.1, hJ6.2.2.2.2.2.2.2.2.2.2.2.2.2.2.2.1, hJ6.2.2.2.2.2.2.2.2.2.2.2.2.2.2.2.2.1, hJ6.2.2.2.2.2.2.2.2.2.2.2.2.2.2.2.2.2.1, hJ6.2.2.2.2.2.2.2.2.2.2.2.2.2.2.2.2.2.2.1, hr1, Below.refl _ _, hJ6.2.2.2.2.2.2.2.2.2.2.2.2.2.2.2.2.2.2.2⟩
      clear hJ hJ6 hB5 hb6
      go_wp2_with fail
      refine region_relL (ldE w s j m g o kn l h si la od op n p t q1 len f a w6) (ldZ w6.heap.size (.slice (some ⟨q1, 0, none⟩) len len) (.agg #[.int .i64 s, .int .i64 j, .int .i64 m, .int .i64 g, .int .i64 o]) (.agg #[.bool kn, .int .i64 l, .int .i64 h, .int .i64 si, .int .i64 la, .int .i64 od]) (.agg #[.int .i64 op, .int .i64 n]) (.agg #[.bool t.kn, .int .i64 t.l, .int .i64 t.h, .int .i64 t.si, .int .i64 t.la, .int .i64 t.od])) 9 (fun _ _ => ldE_on) ldZ_on (by kernel_rfl) (by kernel_rfl) (by kernel_rfl) ?_ ?_ ?_
      · exact ldE_on hE (Below.drew (Below.refl _ _))
      · intro j' o' ho hne vs w4 hC hw
        have hBS : w6.heap.size ≤ w4.heap.size := hC.2.2.2.2.2.2.2.2.2.2.2.2.2.2.2.2.2.2.2.2.1.size
        have hrq : Row2 w4 q1 0 len f a := hC.2.2.2.2.2.2.2.2.2.2.2.2.2.2.2.2.2.2.2.1
        have c0 : w4.cell? ⟨w.heap.size, 0, none⟩ = some (.int .i64 s) := hC.1
        have c1 : w4.cell? ⟨w.heap.size, 1, none⟩ = some (.int .i64 j) := hC.2.1
        have c2 : w4.cell? ⟨w.heap.size, 2, none⟩ = some (.int .i64 m) := hC.2.2.1
        have c3 : w4.cell? ⟨w.heap.size, 3, none⟩ = some (.int .i64 g) := hC.2.2.2.1
        have c4 : w4.cell? ⟨w.heap.size, 4, none⟩ = some (.int .i64 o) := hC.2.2.2.2.1
        have c5 : w4.cell? ⟨w.heap.size + 1, 0, none⟩ = some (.bool kn) := hC.2.2.2.2.2.1
        have c6 : w4.cell? ⟨w.heap.size + 1, 1, none⟩ = some (.int .i64 l) := hC.2.2.2.2.2.2.1
        have c7 : w4.cell? ⟨w.heap.size + 1, 2, none⟩ = some (.int .i64 h) := hC.2.2.2.2.2.2.2.1
        have c8 : w4.cell? ⟨w.heap.size + 1, 3, none⟩ = some (.int .i64 si) := hC.2.2.2.2.2.2.2.2.1
        have c9 : w4.cell? ⟨w.heap.size + 1, 4, none⟩ = some (.int .i64 la) := hC.2.2.2.2.2.2.2.2.2.1
        have c10 : w4.cell? ⟨w.heap.size + 1, 5, none⟩ = some (.int .i64 od) := hC.2.2.2.2.2.2.2.2.2.2.1
        have c11 : w4.cell? ⟨w.heap.size + 1 + 1, 0, none⟩ = some (.int .i64 op) := hC.2.2.2.2.2.2.2.2.2.2.2.1
        have c12 : w4.cell? ⟨w.heap.size + 1 + 1, 1, none⟩ = some (.int .i64 n) := hC.2.2.2.2.2.2.2.2.2.2.2.2.1
        have c13 : w4.cell? ⟨p, 0, none⟩ = some (.bool t.kn) := hC.2.2.2.2.2.2.2.2.2.2.2.2.2.1
        have c14 : w4.cell? ⟨p, 1, none⟩ = some (.int .i64 t.l) := hC.2.2.2.2.2.2.2.2.2.2.2.2.2.2.1
        have c15 : w4.cell? ⟨p, 2, none⟩ = some (.int .i64 t.h) := hC.2.2.2.2.2.2.2.2.2.2.2.2.2.2.2.1
        have c16 : w4.cell? ⟨p, 3, none⟩ = some (.int .i64 t.si) := hC.2.2.2.2.2.2.2.2.2.2.2.2.2.2.2.2.1
        have c17 : w4.cell? ⟨p, 4, none⟩ = some (.int .i64 t.la) := hC.2.2.2.2.2.2.2.2.2.2.2.2.2.2.2.2.2.1
        have c18 : w4.cell? ⟨p, 5, none⟩ = some (.int .i64 t.od) := hC.2.2.2.2.2.2.2.2.2.2.2.2.2.2.2.2.2.2.1
        have c19 : Row2 w4 q1 0 len f a := hC.2.2.2.2.2.2.2.2.2.2.2.2.2.2.2.2.2.2.2.1
        have c20 : Below w6.heap.size w6 w4 := hC.2.2.2.2.2.2.2.2.2.2.2.2.2.2.2.2.2.2.2.2.1
        have c21 : Below w.heap.size w w4 := hC.2.2.2.2.2.2.2.2.2.2.2.2.2.2.2.2.2.2.2.2.2
        match j', ho with
        | 0, ho =>
          cases ho
          clear hw
          simp [mix]
          go_simp
          exact ⟨rfl, Below.refl _ _⟩
        | 1, ho =>
          cases ho
          have y0 : vs 0 = _ := hw 0 (waits_of (by kernel_rfl))
          clear hw
          simp [mix, y0]
          go_simp
          refine (toRules_c _ _ _ _ _ _).mono ?_
          rintro e w5 ⟨rfl, hb5⟩
          exact ⟨_, rfl, rfl, hb5⟩
        | 2, ho =>
          cases ho
          clear hw
          simp [mix]
          go_simp
          exact ⟨rfl, Below.refl _ _⟩
        | 3, ho =>
          cases ho
          clear hw
          simp [mix]
          go_simp
          exact ⟨rfl, Below.refl _ _⟩
        | 4, ho =>
          cases ho
          have y3 : vs 3 = _ := hw 3 (waits_of (by kernel_rfl))
          clear hw
          simp [mix, y3]
          go_simp
          refine (toState_c _ _ _ _ _ _ _).mono ?_
          rintro e w5 ⟨rfl, hb5⟩
          exact ⟨_, rfl, rfl, hb5⟩
        | 5, ho =>
          cases ho
          clear hw
          simp [mix]
          go_simp
          exact ⟨rfl, Below.refl _ _⟩
        | 6, ho =>
          cases ho
          have y5 : vs 5 = _ := hw 5 (waits_of (by kernel_rfl))
          clear hw
          simp [mix, y5]
          go_simp
          refine (toEvent_c _ _ _).mono ?_
          rintro e w5 ⟨rfl, hb5⟩
          exact ⟨_, rfl, rfl, hb5⟩
        | 7, ho =>
          cases ho
          have y1 : vs 1 = _ := hw 1 (waits_of (by kernel_rfl))
          have y2 : vs 2 = _ := hw 2 (waits_of (by kernel_rfl))
          have y4 : vs 4 = _ := hw 4 (waits_of (by kernel_rfl))
          have y6 : vs 6 = _ := hw 6 (waits_of (by kernel_rfl))
          clear hw
          simp [mix, y1, y2, y4, y6]
          go_simp
          refine (hi.out q1 _ HB.out hrq).mono ?_
          rintro e w5 ⟨rfl, hb5⟩
          exact ⟨_, rfl, rfl, hb5⟩
        | 8, ho =>
          cases ho
          clear hw
          simp [mix]
          go_simp
          exact ⟨⟨_, rfl, hBS, newBlkD _ _ rfl⟩, nbAlloc (Below.refl _ _) _⟩
        | 9, ho => exact absurd rfl hne
        | k + 10, ho => simp at ho
      · intro vs w4 hC hy
        have y0 : vs 0 = _ := hy 0 (by simp) (by simp)
        have y1 : vs 1 = _ := hy 1 (by simp) (by simp)
        have y2 : vs 2 = _ := hy 2 (by simp) (by simp)
        have y3 : vs 3 = _ := hy 3 (by simp) (by simp)
        have y4 : vs 4 = _ := hy 4 (by simp) (by simp)
        have y5 : vs 5 = _ := hy 5 (by simp) (by simp)
        have y6 : vs 6 = _ := hy 6 (by simp) (by simp)
        have y7 : vs 7 = _ := hy 7 (by simp) (by simp)
        refine Exists.elim (ldZ_8 (hy 8 (by simp) (by simp))) (fun p2 e4 => ?_)
        have y8 := e4.1
        have hp := e4.2.1
        have hblk := e4.2.2
        clear e4
        clear hy
        have r0 : w4.cell? ⟨p2, 0, none⟩ = some (.bool false) := by simp [World.cell?, hblk]
        have f0 : w4.frozen? ⟨p2, 0, none⟩ = false := by simp [World.frozen?, hblk]
        have r1 : w4.cell? ⟨p2, 1, none⟩ = some (.int .i64 0) := by simp [World.cell?, hblk]
        have f1 : w4.frozen? ⟨p2, 1, none⟩ = false := by simp [World.frozen?, hblk]
        have r2 : w4.cell? ⟨p2, 2, none⟩ = some (.int .i64 0) := by simp [World.cell?, hblk]
        have f2 : w4.frozen? ⟨p2, 2, none⟩ = false := by simp [World.frozen?, hblk]
        have r3 : w4.cell? ⟨p2, 3, none⟩ = some (.int .i64 0) := by simp [World.cell?, hblk]
        have f3 : w4.frozen? ⟨p2, 3, none⟩ = false := by simp [World.frozen?, hblk]
        have r4 : w4.cell? ⟨p2, 4, none⟩ = some (.int .i64 0) := by simp [World.cell?, hblk]
        have f4 : w4.frozen? ⟨p2, 4, none⟩ = false := by simp [World.frozen?, hblk]
        have r5 : w4.cell? ⟨p2, 5, none⟩ = some (.int .i64 0) := by simp [World.cell?, hblk]
        have f5 : w4.frozen? ⟨p2, 5, none⟩ = false := by simp [World.frozen?, hblk]
        have hT := turn6 (w := w4) (q := p2) (v0 := .bool t.kn) (v1 := .int .i64 t.l) (v2 := .int .i64 t.h) (v3 := .int .i64 t.si) (v4 := .int .i64 t.la) (v5 := .int .i64 t.od)
        have S := set6 (v0 := .bool t.kn) (v1 := .int .i64 t.l) (v2 := .int .i64 t.h) (v3 := .int .i64 t.si) (v4 := .int .i64 t.la) (v5 := .int .i64 t.od) r0 r1 r2 r3 r4 r5
        have hG : ldG w s j m g o kn l h si la od op n p t q1 len f a w6 p2 ((((((w4.setCell ⟨p2, 0, none⟩ (.bool t.kn)).setCell ⟨p2, 1, none⟩ (.int .i64 t.l)).setCell ⟨p2, 2, none⟩ (.int .i64 t.h)).setCell ⟨p2, 3, none⟩ (.int .i64 t.si)).setCell ⟨p2, 4, none⟩ (.int .i64 t.la)).setCell ⟨p2, 5, none⟩ (.int .i64 t.od)) := ⟨hT.cell (by omega) hC.1, hT.cell (by omega) hC.2.1, hT.cell (by omega) hC.2.2.1, hT.cell (by omega) hC.2.2.2.1, hT.cell (by omega) hC.2.2.2.2.1, hT.cell (by omega) hC.2.2.2.2.2.1, hT.cell (by omega) hC.2.2.2.2.2.2.1, hT.cell (by omega) hC.2.2.2.2.2.2.2.1, hT.cell (by omega) hC.2.2.2.2.2.2.2.2.1, hT.cell (by omega) hC.2.2.2.2.2.2.2.2.2.1, hT.cell (by omega) hC.2.2.2.2.2.2.2.2.2.2.1, hT.cell (by omega) hC.2.2.2.2.2.2.2.2.2.2.2.1, hT.cell (by omega) hC.2.2.2.2.2.2.2.2.2.2.2.2.1, hT.cell (by omega) hC.2.2.2.2.2.2.2.2.2.2.2.2.2.1, hT.cell (by omega) hC.2.2.2.2.2.2.2.2.2.2.2.2.2.2.1, hT.cell (by omega) hC.2.2.2.2.2.2.2.2.2.2.2.2.2.2.2.1, hT.cell (by omega) hC.2.2.2.2.2.2.2.2.2.2.2.2.2.2.2.2.1, hT.cell (by omega) hC.2.2.2.2.2.2.2.2.2.2.2.2.2.2.2.2.2.1, hT.cell (by omega) hC.2.2.2.2.2.2.2.2.2.2.2.2.2.2.2.2.2.2.1, hC.2.2.2.2.2.2.2.2.2.2.2.2.2.2.2.2.2.2.2.1.turns hT hr1 (by omega), hT.below hC.2.2.2.2.2.2.2.2.2.2.2.2.2.2.2.2.2.2.2.2.1 (by omega), S.1, S.2.1, S.2.2.1, S.2.2.2.1, S.2.2.2.2.1, S.2.2.2.2.2, hT.below hC.2.2.2.2.2.2.2.2.2.2.2.2.2.2.2.2.2.2.2.2.2 (by omega)⟩
        refine ⟨?_⟩
        simp only [mix, y0, y1, y2, y3, y4, y5, y6, y7, y8]
        go_simp
        generalize ((((((w4.setCell ⟨p2, 0, none⟩ (.bool t.kn)).setCell ⟨p2, 1, none⟩ (.int .i64 t.l)).setCell ⟨p2, 2, none⟩ (.int .i64 t.h)).setCell ⟨p2, 3, none⟩ (.int .i64 t.si)).setCell ⟨p2, 4, none⟩ (.int .i64 t.la)).setCell ⟨p2, 5, none⟩ (.int .i64 t.od)) = w7 at *
        clear hT S r0 f0 r1 f1 r2 f2 r3 f3 r4 f4 r5 f5 hblk y0 y1 y2 y3 y4 y5 y6 y7 y8 hC hE
        have c0 : w7.cell? ⟨w.heap.size, 0, none⟩ = some (.int .i64 s) := hG.1
        have c1 : w7.cell? ⟨w.heap.size, 1, none⟩ = some (.int .i64 j) := hG.2.1
        have c2 : w7.cell? ⟨w.heap.size, 2, none⟩ = some (.int .i64 m) := hG.2.2.1
        have c3 : w7.cell? ⟨w.heap.size, 3, none⟩ = some (.int .i64 g) := hG.2.2.2.1
        have c4 : w7.cell? ⟨w.heap.size, 4, none⟩ = some (.int .i64 o) := hG.2.2.2.2.1
        have c5 : w7.cell? ⟨w.heap.size + 1, 0, none⟩ = some (.bool kn) := hG.2.2.2.2.2.1
        have c6 : w7.cell? ⟨w.heap.size + 1, 1, none⟩ = some (.int .i64 l) := hG.2.2.2.2.2.2.1
        have c7 : w7.cell? ⟨w.heap.size + 1, 2, none⟩ = some (.int .i64 h) := hG.2.2.2.2.2.2.2.1
        have c8 : w7.cell? ⟨w.heap.size + 1, 3, none⟩ = some (.int .i64 si) := hG.2.2.2.2.2.2.2.2.1
        have c9 : w7.cell? ⟨w.heap.size + 1, 4, none⟩ = some (.int .i64 la) := hG.2.2.2.2.2.2.2.2.2.1
        have c10 : w7.cell? ⟨w.heap.size + 1, 5, none⟩ = some (.int .i64 od) := hG.2.2.2.2.2.2.2.2.2.2.1
        have c11 : w7.cell? ⟨w.heap.size + 1 + 1, 0, none⟩ = some (.int .i64 op) := hG.2.2.2.2.2.2.2.2.2.2.2.1
        have c12 : w7.cell? ⟨w.heap.size + 1 + 1, 1, none⟩ = some (.int .i64 n) := hG.2.2.2.2.2.2.2.2.2.2.2.2.1
        have c13 : w7.cell? ⟨p, 0, none⟩ = some (.bool t.kn) := hG.2.2.2.2.2.2.2.2.2.2.2.2.2.1
        have c14 : w7.cell? ⟨p, 1, none⟩ = some (.int .i64 t.l) := hG.2.2.2.2.2.2.2.2.2.2.2.2.2.2.1
        have c15 : w7.cell? ⟨p, 2, none⟩ = some (.int .i64 t.h) := hG.2.2.2.2.2.2.2.2.2.2.2.2.2.2.2.1
        have c16 : w7.cell? ⟨p, 3, none⟩ = some (.int .i64 t.si) := hG.2.2.2.2.2.2.2.2.2.2.2.2.2.2.2.2.1
        have c17 : w7.cell? ⟨p, 4, none⟩ = some (.int .i64 t.la) := hG.2.2.2.2.2.2.2.2.2.2.2.2.2.2.2.2.2.1
        have c18 : w7.cell? ⟨p, 5, none⟩ = some (.int .i64 t.od) := hG.2.2.2.2.2.2.2.2.2.2.2.2.2.2.2.2.2.2.1
        have c19 : Row2 w7 q1 0 len f a := hG.2.2.2.2.2.2.2.2.2.2.2.2.2.2.2.2.2.2.2.1
        have c20 : Below w6.heap.size w6 w7 := hG.2.2.2.2.2.2.2.2.2.2.2.2.2.2.2.2.2.2.2.2.1
        have c21 : w7.cell? ⟨p2, 0, none⟩ = some (.bool t.kn) := hG.2.2.2.2.2.2.2.2.2.2.2.2.2.2.2.2.2.2.2.2.2.1
        have c22 : w7.cell? ⟨p2, 1, none⟩ = some (.int .i64 t.l) := hG.2.2.2.2.2.2.2.2.2.2.2.2.2.2.2.2.2.2.2.2.2.2.1
        have c23 : w7.cell? ⟨p2, 2, none⟩ = some (.int .i64 t.h) := hG.2.2.2.2.2.2.2.2.2.2.2.2.2.2.2.2.2.2.2.2.2.2.2.1
        have c24 : w7.cell? ⟨p2, 3, none⟩ = some (.int .i64 t.si) := hG.2.2.2.2.2.2.2.2.2.2.2.2.2.2.2.2.2.2.2.2.2.2.2.2.1
        have c25 : w7.cell? ⟨p2, 4, none⟩ = some (.int .i64 t.la) := hG.2.2.2.2.2.2.2.2.2.2.2.2.2.2.2.2.2.2.2.2.2.2.2.2.2.1
        have c26 : w7.cell? ⟨p2, 5, none⟩ = some (.int .i64 t.od) := hG.2.2.2.2.2.2.2.2.2.2.2.2.2.2.2.2.2.2.2.2.2.2.2.2.2.2.1
        have c27 : Below w.heap.size w w7 := hG.2.2.2.2.2.2.2.2.2.2.2.2.2.2.2.2.2.2.2.2.2.2.2.2.2.2.2
        go_wp2_with fail
        refine (eqState_c _ _ _ _ _ _ _).mono ?_
        rintro e w8 ⟨rfl, hb8⟩
        have hr8 : Row2 w8 q1 0 len f a := (hG.2.2.2.2.2.2.2.2.2.2.2.2.2.2.2.2.2.2.2.1).on hb8
        have hB8 : Below w.heap.size w w8 := nbTrans hG.2.2.2.2.2.2.2.2.2.2.2.2.2.2.2.2.2.2.2.2.2.2.2.2.2.2.2 hb8
        clear c0 c1 c2 c3 c4 c5 c6 c7 c8 c9 c10 c11 c12 c13 c14 c15 c16 c17 c18 c19 c20 c21 c22 c23 c24 c25 c26 c27 hG
        go_wp2_with fail
        refine (toMarkS_any ad len cap f a _ HB.out (hrow.on hB8)).mono ?_
        rintro e w9 ⟨q9, rfl, hq9, hr9, -, hb9⟩
        go_wp2_with fail
        refine (eqMarkS_c q1 q9 len len len f a _ HB.out (hr8.on hb9) hr9).mono ?_
        rintro e w10 ⟨rfl, hb10⟩
        go_wp2_with fail
        go_ret
        exact ⟨rfl, nbTrans (nbTrans hB8 hb9) hb10⟩

end Go.Proofs.Ytmhppadblddjoab
