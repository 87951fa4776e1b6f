/- The program's Do. -/
import Derived.Test.YtmhppadblddjoaaIAll
import Derived.Test.YtmhppadblddjoaaRel
import Derived.Test.YtmhppadblddjoaaSet6
namespace Go.Proofs.Ytmhppadblddjoaa
open Go.RowKit Go.Maps

theorem MapAt.turns {w w' : World} {q p len : Nat} {f a : Nat → Int} (h : MapAt w q len f a) (hT : Turns p w w') (hn : q ≠ p) : MapAt w' q len f a := by
  have hlt := h.lt
  obtain ⟨es, clock, hb0, F, hs, hD⟩ := h
  exact ⟨es, clock, (hT.block q hlt hn).trans hb0, F, hs, hD⟩
theorem MapAt.ne {w : World} {q p len : Nat} {f a : Nat → Int} {zs : Array Value} {T : TypeId} (h : MapAt w q len f a) (hp : w.heap[p]? = some (.cells zs T)) : q ≠ p := by
  obtain ⟨es, clock, hb0, -⟩ := h
  rintro rfl
  rw [hp] at hb0
  cases hb0

def idC (w : World) (s j m g o : Int) (kn : Bool) (l h si la od op n : Int) : World → Prop := fun w' => w'.cell? ⟨w.heap.size, 0, none⟩ = some (.int .i64 s) ∧ w'.cell? ⟨w.heap.size, 1, none⟩ = some (.int .i64 j) ∧ w'.cell? ⟨w.heap.size, 2, none⟩ = some (.int .i64 m) ∧ w'.cell? ⟨w.heap.size, 3, none⟩ = some (.int .i64 g) ∧ w'.cell? ⟨w.heap.size, 4, none⟩ = some (.int .i64 o) ∧ w'.cell? ⟨w.heap.size + 1, 0, none⟩ = some (.bool kn) ∧ w'.cell? ⟨w.heap.size + 1, 1, none⟩ = some (.int .i64 l) ∧ w'.cell? ⟨w.heap.size + 1, 2, none⟩ = some (.int .i64 h) ∧ w'.cell? ⟨w.heap.size + 1, 3, none⟩ = some (.int .i64 si) ∧ w'.cell? ⟨w.heap.size + 1, 4, none⟩ = some (.int .i64 la) ∧ w'.cell? ⟨w.heap.size + 1, 5, none⟩ = some (.int .i64 od) ∧ w'.cell? ⟨w.heap.size + 1 + 1, 0, none⟩ = some (.int .i64 op) ∧ w'.cell? ⟨w.heap.size + 1 + 1, 1, none⟩ = some (.int .i64 n) ∧ w'.cell? ⟨w.heap.size + 1 + 1 + 1, 0, none⟩ = some (.bool false) ∧ w'.cell? ⟨w.heap.size + 1 + 1 + 1, 1, none⟩ = some (.int .i64 0) ∧ w'.cell? ⟨w.heap.size + 1 + 1 + 1, 2, none⟩ = some (.int .i64 0) ∧ w'.cell? ⟨w.heap.size + 1 + 1 + 1, 3, none⟩ = some (.int .i64 0) ∧ w'.cell? ⟨w.heap.size + 1 + 1 + 1, 4, none⟩ = some (.int .i64 0) ∧ w'.cell? ⟨w.heap.size + 1 + 1 + 1, 5, none⟩ = some (.int .i64 0) ∧ w'.frozen? ⟨w.heap.size + 1 + 1 + 1, 0, none⟩ = false ∧ w'.frozen? ⟨w.heap.size + 1 + 1 + 1, 1, none⟩ = false ∧ w'.frozen? ⟨w.heap.size + 1 + 1 + 1, 2, none⟩ = false ∧ w'.frozen? ⟨w.heap.size + 1 + 1 + 1, 3, none⟩ = false ∧ w'.frozen? ⟨w.heap.size + 1 + 1 + 1, 4, none⟩ = false ∧ w'.frozen? ⟨w.heap.size + 1 + 1 + 1, 5, none⟩ = false ∧ Below w.heap.size w w'
theorem idC_on {w : World} {s j m g o : Int} {kn : Bool} {l h si la od op n : Int} {w1 w2 : World} (hh : idC w s j m g o kn l h si la od op n w1) (hb : Below w1.heap.size w1 w2) : idC w s j m g o kn l h si la od op n w2 :=
  ⟨cellOn hb hh.1, cellOn hb hh.2.1, cellOn hb hh.2.2.1, cellOn hb hh.2.2.2.1, cellOn hb hh.2.2.2.2.1, cellOn hb hh.2.2.2.2.2.1, cellOn hb hh.2.2.2.2.2.2.1, cellOn hb hh.2.2.2.2.2.2.2.1, cellOn hb hh.2.2.2.2.2.2.2.2.1, cellOn hb hh.2.2.2.2.2.2.2.2.2.1, cellOn hb hh.2.2.2.2.2.2.2.2.2.2.1, cellOn hb hh.2.2.2.2.2.2.2.2.2.2.2.1, cellOn hb hh.2.2.2.2.2.2.2.2.2.2.2.2.1, cellOn hb hh.2.2.2.2.2.2.2.2.2.2.2.2.2.1, cellOn hb hh.2.2.2.2.2.2.2.2.2.2.2.2.2.2.1, cellOn hb hh.2.2.2.2.2.2.2.2.2.2.2.2.2.2.2.1, cellOn hb hh.2.2.2.2.2.2.2.2.2.2.2.2.2.2.2.2.1, cellOn hb hh.2.2.2.2.2.2.2.2.2.2.2.2.2.2.2.2.2.1, cellOn hb hh.2.2.2.2.2.2.2.2.2.2.2.2.2.2.2.2.2.2.1, frozenOn hb hh.2.2.2.2.2.2.2.2.2.2.2.2.2.1 hh.2.2.2.2.2.2.2.2.2.2.2.2.2.2.2.2.2.2.2.1, frozenOn hb hh.2.2.2.2.2.2.2.2.2.2.2.2.2.2.1 hh.2.2.2.2.2.2.2.2.2.2.2.2.2.2.2.2.2.2.2.2.1, frozenOn hb hh.2.2.2.2.2.2.2.2.2.2.2.2.2.2.2.1 hh.2.2.2.2.2.2.2.2.2.2.2.2.2.2.2.2.2.2.2.2.2.1, frozenOn hb hh.2.2.2.2.2.2.2.2.2.2.2.2.2.2.2.2.1 hh.2.2.2.2.2.2.2.2.2.2.2.2.2.2.2.2.2.2.2.2.2.2.1, frozenOn hb hh.2.2.2.2.2.2.2.2.2.2.2.2.2.2.2.2.2.1 hh.2.2.2.2.2.2.2.2.2.2.2.2.2.2.2.2.2.2.2.2.2.2.2.1, frozenOn hb hh.2.2.2.2.2.2.2.2.2.2.2.2.2.2.2.2.2.2.1 hh.2.2.2.2.2.2.2.2.2.2.2.2.2.2.2.2.2.2.2.2.2.2.2.2.1, nbTrans hh.2.2.2.2.2.2.2.2.2.2.2.2.2.2.2.2.2.2.2.2.2.2.2.2.2 hb⟩

def jdC (w : World) (s j m g o : Int) (kn : Bool) (l h si la od op n : Int) (p q len : Nat) (f a : Nat → Int) : World → Prop := fun w' => w'.cell? ⟨w.heap.size, 0, none⟩ = some (.int .i64 s) ∧ w'.cell? ⟨w.heap.size, 1, none⟩ = some (.int .i64 j) ∧ w'.cell? ⟨w.heap.size, 2, none⟩ = some (.int .i64 m) ∧ w'.cell? ⟨w.heap.size, 3, none⟩ = some (.int .i64 g) ∧ w'.cell? ⟨w.heap.size, 4, none⟩ = some (.int .i64 o) ∧ w'.cell? ⟨w.heap.size + 1, 0, none⟩ = some (.bool kn) ∧ w'.cell? ⟨w.heap.size + 1, 1, none⟩ = some (.int .i64 l) ∧ w'.cell? ⟨w.heap.size + 1, 2, none⟩ = some (.int .i64 h) ∧ w'.cell? ⟨w.heap.size + 1, 3, none⟩ = some (.int .i64 si) ∧ w'.cell? ⟨w.heap.size + 1, 4, none⟩ = some (.int .i64 la) ∧ w'.cell? ⟨w.heap.size + 1, 5, none⟩ = some (.int .i64 od) ∧ w'.cell? ⟨w.heap.size + 1 + 1, 0, none⟩ = some (.int .i64 op) ∧ w'.cell? ⟨w.heap.size + 1 + 1, 1, none⟩ = some (.int .i64 n) ∧ w'.cell? ⟨w.heap.size + 1 + 1 + 1, 0, none⟩ = some (.bool false) ∧ w'.cell? ⟨w.heap.size + 1 + 1 + 1, 1, none⟩ = some (.int .i64 0) ∧ w'.cell? ⟨w.heap.size + 1 + 1 + 1, 2, none⟩ = some (.int .i64 0) ∧ w'.cell? ⟨w.heap.size + 1 + 1 + 1, 3, none⟩ = some (.int .i64 0) ∧ w'.cell? ⟨w.heap.size + 1 + 1 + 1, 4, none⟩ = some (.int .i64 0) ∧ w'.cell? ⟨w.heap.size + 1 + 1 + 1, 5, none⟩ = some (.int .i64 0) ∧ w'.frozen? ⟨w.heap.size + 1 + 1 + 1, 0, none⟩ = false ∧ w'.frozen? ⟨w.heap.size + 1 + 1 + 1, 1, none⟩ = false ∧ w'.frozen? ⟨w.heap.size + 1 + 1 + 1, 2, none⟩ = false ∧ w'.frozen? ⟨w.heap.size + 1 + 1 + 1, 3, none⟩ = false ∧ w'.frozen? ⟨w.heap.size + 1 + 1 + 1, 4, none⟩ = false ∧ w'.frozen? ⟨w.heap.size + 1 + 1 + 1, 5, none⟩ = false ∧ w'.cell? ⟨p, 0, none⟩ = some (.int .i64 s) ∧ w'.cell? ⟨p, 1, none⟩ = some (.int .i64 j) ∧ w'.cell? ⟨p, 2, none⟩ = some (.int .i64 m) ∧ w'.cell? ⟨p, 3, none⟩ = some (.int .i64 g) ∧ w'.cell? ⟨p, 4, none⟩ = some (.int .i64 o) ∧ w'.cell? ⟨p, 5, none⟩ = some (.map (some q)) ∧ MapAt w' q len f a ∧ Below w.heap.size w w'
theorem jdC_on {w : World} {s j m g o : Int} {kn : Bool} {l h si la od op n : Int} {p q len : Nat} {f a : Nat → Int} {w1 w2 : World} (hh : jdC w s j m g o kn l h si la od op n p q len f a w1) (hb : Below w1.heap.size w1 w2) : jdC w s j m g o kn l h si la od op n p q len f a w2 :=
  ⟨cellOn hb hh.1, cellOn hb hh.2.1, cellOn hb hh.2.2.1, cellOn hb hh.2.2.2.1, cellOn hb hh.2.2.2.2.1, cellOn hb hh.2.2.2.2.2.1, cellOn hb hh.2.2.2.2.2.2.1, cellOn hb hh.2.2.2.2.2.2.2.1, cellOn hb hh.2.2.2.2.2.2.2.2.1, cellOn hb hh.2.2.2.2.2.2.2.2.2.1, cellOn hb hh.2.2.2.2.2.2.2.2.2.2.1, cellOn hb hh.2.2.2.2.2.2.2.2.2.2.2.1, cellOn hb hh.2.2.2.2.2.2.2.2.2.2.2.2.1, cellOn hb hh.2.2.2.2.2.2.2.2.2.2.2.2.2.1, cellOn hb hh.2.2.2.2.2.2.2.2.2.2.2.2.2.2.1, cellOn hb hh.2.2.2.2.2.2.2.2.2.2.2.2.2.2.2.1, cellOn hb hh.2.2.2.2.2.2.2.2.2.2.2.2.2.2.2.2.1, cellOn hb hh.2.2.2.2.2.2.2.2.2.2.2.2.2.2.2.2.2.1, cellOn hb hh.2.2.2.2.2.2.2.2.2.2.2.2.2.2.2.2.2.2.1, frozenOn hb hh.2.2.2.2.2.2.2.2.2.2.2.2.2.1 hh.2.2.2.2.2.2.2.2.2.2.2.2.2.2.2.2.2.2.2.1, frozenOn hb hh.2.2.2.2.2.2.2.2.2.2.2.2.2.2.1 hh.2.2.2.2.2.2.2.2.2.2.2.2.2.2.2.2.2.2.2.2.1, frozenOn hb hh.2.2.2.2.2.2.2.2.2.2.2.2.2.2.2.1 hh.2.2.2.2.2.2.2.2.2.2.2.2.2.2.2.2.2.2.2.2.2.1, frozenOn hb hh.2.2.2.2.2.2.2.2.2.2.2.2.2.2.2.2.1 hh.2.2.2.2.2.2.2.2.2.2.2.2.2.2.2.2.2.2.2.2.2.2.1, frozenOn hb hh.2.2.2.2.2.2.2.2.2.2.2.2.2.2.2.2.2.1 hh.2.2.2.2.2.2.2.2.2.2.2.2.2.2.2.2.2.2.2.2.2.2.2.1, frozenOn hb hh.2.2.2.2.2.2.2.2.2.2.2.2.2.2.2.2.2.2.1 hh.2.2.2.2.2.2.2.2.2.2.2.2.2.2.2.2.2.2.2.2.2.2.2.2.1, cellOn hb hh.2.2.2.2.2.2.2.2.2.2.2.2.2.2.2.2.2.2.2.2.2.2.2.2.2.1, cellOn hb hh.2.2.2.2.2.2.2.2.2.2.2.2.2.2.2.2.2.2.2.2.2.2.2.2.2.2.1, cellOn hb hh.2.2.2.2.2.2.2.2.2.2.2.2.2.2.2.2.2.2.2.2.2.2.2.2.2.2.2.1, cellOn hb hh.2.2.2.2.2.2.2.2.2.2.2.2.2.2.2.2.2.2.2.2.2.2.2.2.2.2.2.2.1, cellOn hb hh.2.2.2.2.2.2.2.2.2.2.2.2.2.2.2.2.2.2.2.2.2.2.2.2.2.2.2.2.2.1, cellOn hb hh.2.2.2.2.2.2.2.2.2.2.2.2.2.2.2.2.2.2.2.2.2.2.2.2.2.2.2.2.2.2.1, hh.2.2.2.2.2.2.2.2.2.2.2.2.2.2.2.2.2.2.2.2.2.2.2.2.2.2.2.2.2.2.2.1.on hb, nbTrans hh.2.2.2.2.2.2.2.2.2.2.2.2.2.2.2.2.2.2.2.2.2.2.2.2.2.2.2.2.2.2.2.2 hb⟩

def idY (B : Nat) (s j m g o : Int) (mv : Value) (len : Nat) (f a : Nat → Int) : Nat → Value → World → Prop
  | 0, v, _ => v = .agg #[.int .i64 s, .int .i64 j, .int .i64 m, .int .i64 g, .int .i64 o]
  | 1, v, _ => v = mv
  | 2, v, w => ∃ q, v = .map (some q) ∧ MapAt w q len f a
  | 3, v, w => ∃ q, v = .agg #[.int .i64 s, .int .i64 j, .int .i64 m, .int .i64 g, .int .i64 o, .map (some q)] ∧ MapAt w q len f a
  | 4, v, w => ∃ p, v = .pointer (some ⟨p, 0, none⟩) ∧ B ≤ p ∧ w.heap[p]? = some (.cells #[.int .i64 0, .int .i64 0, .int .i64 0, .int .i64 0, .int .i64 0, .map none] 66)
  | _, _, _ => True
theorem idY_on {B : Nat} {s j m g o : Int} {mv : Value} {len : Nat} {f a : Nat → Int} : ∀ jj v w w', idY B s j m g o mv len f a jj v w → Below w.heap.size w w' → idY B s j m g o mv len f a jj v w'
  | 0, _, _, _, h, _ => h
  | 1, _, _, _, h, _ => h
  | 2, _, _, _, ⟨q, h1, h2⟩, hb => ⟨q, h1, h2.on hb⟩
  | 3, _, _, _, ⟨q, h1, h2⟩, hb => ⟨q, h1, h2.on hb⟩
  | 4, _, _, _, ⟨p, h1, h2, h3⟩, hb => ⟨p, h1, h2, by rw [hb.block p (Array.getElem?_eq_some_iff.1 h3).1]; exact h3⟩
  | _ + 5, _, _, _, _, _ => trivial
theorem idY_2 {B : Nat} {s j m g o : Int} {mv : Value} {len : Nat} {f a : Nat → Int} {v : Value} {w : World} (h : idY B s j m g o mv len f a 2 v w) : ∃ q, v = .map (some q) ∧ MapAt w q len f a := h
theorem idY_3 {B : Nat} {s j m g o : Int} {mv : Value} {len : Nat} {f a : Nat → Int} {v : Value} {w : World} (h : idY B s j m g o mv len f a 3 v w) : ∃ q, v = .agg #[.int .i64 s, .int .i64 j, .int .i64 m, .int .i64 g, .int .i64 o, .map (some q)] ∧ MapAt w q len f a := h
theorem idY_4 {B : Nat} {s j m g o : Int} {mv : Value} {len : Nat} {f a : Nat → Int} {v : Value} {w : World} (h : idY B s j m g o mv len f a 4 v w) : ∃ p, v = .pointer (some ⟨p, 0, none⟩) ∧ B ≤ p ∧ w.heap[p]? = some (.cells #[.int .i64 0, .int .i64 0, .int .i64 0, .int .i64 0, .int .i64 0, .map none] 66) := h

set_option maxHeartbeats 2000000 in
theorem implDo_bad (ad : Option Addr) (len cap : Nat) (f a : Nat → Int) (s j m g o : Int) (kn : Bool) (l h si la od op n : Int) (w : World) (hl : len ≤ 1048576) (HM : Hid (∀ w', Below w.heap.size w w' → Calls Try.prog 57 #[.slice ad len cap] w' fun e w'' => e = .returned (.bool (marksB f a len)) ∧ Below w'.heap.size w' w'')) (hbad : (rOk s j m g o && stB (marksB f a len) len kn l h si la od && evB op n) = false) :
    Calls Try.prog 13 #[.agg #[.int .i64 s, .int .i64 j, .int .i64 m, .int .i64 g, .int .i64 o], .slice ad len cap, .agg #[.bool kn, .int .i64 l, .int .i64 h, .int .i64 si, .int .i64 la, .int .i64 od], .agg #[.int .i64 op, .int .i64 n]] w fun e w' => e = .returned (.agg #[.bool false, .int .i64 0, .int .i64 0, .int .i64 0, .int .i64 0, .int .i64 0]) ∧ Below w.heap.size w w' := by
  cases hr : rOk s j m g o
  · clear hbad
    go_enter Try.func13, Try.ntmps13
    go_wp2_with fail
    refine (implRulesOk_c _ _ _ _ _ _).mono ?_
    rintro e w1 ⟨rfl, hb1⟩
    have hC1 : idC w s j m g o kn l h si la od op n w1 := ⟨cellOn hb1 (by go_simp), cellOn hb1 (by go_simp), cellOn hb1 (by go_simp), cellOn hb1 (by go_simp), cellOn hb1 (by go_simp), cellOn hb1 (by go_simp), cellOn hb1 (by go_simp), cellOn hb1 (by go_simp), cellOn hb1 (by go_simp), cellOn hb1 (by go_simp), cellOn hb1 (by go_simp), cellOn hb1 (by go_simp), cellOn hb1 (by go_simp), cellOn hb1 (by go_simp), cellOn hb1 (by go_simp), cellOn hb1 (by go_simp), cellOn hb1 (by go_simp), cellOn hb1 (by go_simp), cellOn hb1 (by go_simp), frozenOn hb1 (v := .bool false) (by go_simp) (by go_simp), frozenOn hb1 (v := .int .i64 0) (by go_simp) (by go_simp), frozenOn hb1 (v := .int .i64 0) (by go_simp) (by go_simp), frozenOn hb1 (v := .int .i64 0) (by go_simp) (by go_simp), frozenOn hb1 (v := .int .i64 0) (by go_simp) (by go_simp), frozenOn hb1 (v := .int .i64 0) (by go_simp) (by go_simp), nbTrans (nbAlloc (nbAlloc (nbAlloc (nbAlloc (Below.refl _ _) _) _) _) _) hb1⟩
    have c0 : w1.cell? ⟨w.heap.size, 0, none⟩ = some (.int .i64 s) := hC1.1
    have c1 : w1.cell? ⟨w.heap.size, 1, none⟩ = some (.int .i64 j) := hC1.2.1
    have c2 : w1.cell? ⟨w.heap.size, 2, none⟩ = some (.int .i64 m) := hC1.2.2.1
    have c3 : w1.cell? ⟨w.heap.size, 3, none⟩ = some (.int .i64 g) := hC1.2.2.2.1
    have c4 : w1.cell? ⟨w.heap.size, 4, none⟩ = some (.int .i64 o) := hC1.2.2.2.2.1
    have c5 : w1.cell? ⟨w.heap.size + 1, 0, none⟩ = some (.bool kn) := hC1.2.2.2.2.2.1
    have c6 : w1.cell? ⟨w.heap.size + 1, 1, none⟩ = some (.int .i64 l) := hC1.2.2.2.2.2.2.1
    have c7 : w1.cell? ⟨w.heap.size + 1, 2, none⟩ = some (.int .i64 h) := hC1.2.2.2.2.2.2.2.1
    have c8 : w1.cell? ⟨w.heap.size + 1, 3, none⟩ = some (.int .i64 si) := hC1.2.2.2.2.2.2.2.2.1
    have c9 : w1.cell? ⟨w.heap.size + 1, 4, none⟩ = some (.int .i64 la) := hC1.2.2.2.2.2.2.2.2.2.1
    have c10 : w1.cell? ⟨w.heap.size + 1, 5, none⟩ = some (.int .i64 od) := hC1.2.2.2.2.2.2.2.2.2.2.1
    have c11 : w1.cell? ⟨w.heap.size + 1 + 1, 0, none⟩ = some (.int .i64 op) := hC1.2.2.2.2.2.2.2.2.2.2.2.1
    have c12 : w1.cell? ⟨w.heap.size + 1 + 1, 1, none⟩ = some (.int .i64 n) := hC1.2.2.2.2.2.2.2.2.2.2.2.2.1
    have c13 : w1.cell? ⟨w.heap.size + 1 + 1 + 1, 0, none⟩ = some (.bool false) := hC1.2.2.2.2.2.2.2.2.2.2.2.2.2.1
    have c14 : w1.cell? ⟨w.heap.size + 1 + 1 + 1, 1, none⟩ = some (.int .i64 0) := hC1.2.2.2.2.2.2.2.2.2.2.2.2.2.2.1
    have c15 : w1.cell? ⟨w.heap.size + 1 + 1 + 1, 2, none⟩ = some (.int .i64 0) := hC1.2.2.2.2.2.2.2.2.2.2.2.2.2.2.2.1
    have c16 : w1.cell? ⟨w.heap.size + 1 + 1 + 1, 3, none⟩ = some (.int .i64 0) := hC1.2.2.2.2.2.2.2.2.2.2.2.2.2.2.2.2.1
    have c17 : w1.cell? ⟨w.heap.size + 1 + 1 + 1, 4, none⟩ = some (.int .i64 0) := hC1.2.2.2.2.2.2.2.2.2.2.2.2.2.2.2.2.2.1
    have c18 : w1.cell? ⟨w.heap.size + 1 + 1 + 1, 5, none⟩ = some (.int .i64 0) := hC1.2.2.2.2.2.2.2.2.2.2.2.2.2.2.2.2.2.2.1
    have c19 : w1.frozen? ⟨w.heap.size + 1 + 1 + 1, 0, none⟩ = false := hC1.2.2.2.2.2.2.2.2.2.2.2.2.2.2.2.2.2.2.2.1
    have c20 : w1.frozen? ⟨w.heap.size + 1 + 1 + 1, 1, none⟩ = false := hC1.2.2.2.2.2.2.2.2.2.2.2.2.2.2.2.2.2.2.2.2.1
    have c21 : w1.frozen? ⟨w.heap.size + 1 + 1 + 1, 2, none⟩ = false := hC1.2.2.2.2.2.2.2.2.2.2.2.2.2.2.2.2.2.2.2.2.2.1
    have c22 : w1.frozen? ⟨w.heap.size + 1 + 1 + 1, 3, none⟩ = false := hC1.2.2.2.2.2.2.2.2.2.2.2.2.2.2.2.2.2.2.2.2.2.2.1
    have c23 : w1.frozen? ⟨w.heap.size + 1 + 1 + 1, 4, none⟩ = false := hC1.2.2.2.2.2.2.2.2.2.2.2.2.2.2.2.2.2.2.2.2.2.2.2.1
    have c24 : w1.frozen? ⟨w.heap.size + 1 + 1 + 1, 5, none⟩ = false := hC1.2.2.2.2.2.2.2.2.2.2.2.2.2.2.2.2.2.2.2.2.2.2.2.2.1
    have c25 : Below w.heap.size w w1 := hC1.2.2.2.2.2.2.2.2.2.2.2.2.2.2.2.2.2.2.2.2.2.2.2.2.2
    go_wp2_with fail
    have hq3 : w.heap.size ≤ w.heap.size + 1 + 1 + 1 := by omega
    exact bodyPost_ret (v := .agg #[.bool false, .int .i64 0, .int .i64 0, .int .i64 0, .int .i64 0, .int .i64 0]) (by simp [results, Try.results13, go_sem, *]) rfl ⟨rfl, (nbSetX (nbSetX (nbSetX (nbSetX (nbSetX (nbSetX c25 hq3) hq3) hq3) hq3) hq3) hq3)⟩
  cases hst : stB (marksB f a len) len kn l h si la od
  · clear hbad
    go_enter Try.func13, Try.ntmps13
    go_wp2_with fail
    refine (implRulesOk_c _ _ _ _ _ _).mono ?_
    rintro e w1 ⟨rfl, hb1⟩
    have hC1 : idC w s j m g o kn l h si la od op n w1 := ⟨cellOn hb1 (by go_simp), cellOn hb1 (by go_simp), cellOn hb1 (by go_simp), cellOn hb1 (by go_simp), cellOn hb1 (by go_simp), cellOn hb1 (by go_simp), cellOn hb1 (by go_simp), cellOn hb1 (by go_simp), cellOn hb1 (by go_simp), cellOn hb1 (by go_simp), cellOn hb1 (by go_simp), cellOn hb1 (by go_simp), cellOn hb1 (by go_simp), cellOn hb1 (by go_simp), cellOn hb1 (by go_simp), cellOn hb1 (by go_simp), cellOn hb1 (by go_simp), cellOn hb1 (by go_simp), cellOn hb1 (by go_simp), frozenOn hb1 (v := .bool false) (by go_simp) (by go_simp), frozenOn hb1 (v := .int .i64 0) (by go_simp) (by go_simp), frozenOn hb1 (v := .int .i64 0) (by go_simp) (by go_simp), frozenOn hb1 (v := .int .i64 0) (by go_simp) (by go_simp), frozenOn hb1 (v := .int .i64 0) (by go_simp) (by go_simp), frozenOn hb1 (v := .int .i64 0) (by go_simp) (by go_simp), nbTrans (nbAlloc (nbAlloc (nbAlloc (nbAlloc (Below.refl _ _) _) _) _) _) hb1⟩
    have c0 : w1.cell? ⟨w.heap.size, 0, none⟩ = some (.int .i64 s) := hC1.1
    have c1 : w1.cell? ⟨w.heap.size, 1, none⟩ = some (.int .i64 j) := hC1.2.1
    have c2 : w1.cell? ⟨w.heap.size, 2, none⟩ = some (.int .i64 m) := hC1.2.2.1
    have c3 : w1.cell? ⟨w.heap.size, 3, none⟩ = some (.int .i64 g) := hC1.2.2.2.1
    have c4 : w1.cell? ⟨w.heap.size, 4, none⟩ = some (.int .i64 o) := hC1.2.2.2.2.1
    have c5 : w1.cell? ⟨w.heap.size + 1, 0, none⟩ = some (.bool kn) := hC1.2.2.2.2.2.1
    have c6 : w1.cell? ⟨w.heap.size + 1, 1, none⟩ = some (.int .i64 l) := hC1.2.2.2.2.2.2.1
    have c7 : w1.cell? ⟨w.heap.size + 1, 2, none⟩ = some (.int .i64 h) := hC1.2.2.2.2.2.2.2.1
    have c8 : w1.cell? ⟨w.heap.size + 1, 3, none⟩ = some (.int .i64 si) := hC1.2.2.2.2.2.2.2.2.1
    have c9 : w1.cell? ⟨w.heap.size + 1, 4, none⟩ = some (.int .i64 la) := hC1.2.2.2.2.2.2.2.2.2.1
    have c10 : w1.cell? ⟨w.heap.size + 1, 5, none⟩ = some (.int .i64 od) := hC1.2.2.2.2.2.2.2.2.2.2.1
    have c11 : w1.cell? ⟨w.heap.size + 1 + 1, 0, none⟩ = some (.int .i64 op) := hC1.2.2.2.2.2.2.2.2.2.2.2.1
    have c12 : w1.cell? ⟨w.heap.size + 1 + 1, 1, none⟩ = some (.int .i64 n) := hC1.2.2.2.2.2.2.2.2.2.2.2.2.1
    have c13 : w1.cell? ⟨w.heap.size + 1 + 1 + 1, 0, none⟩ = some (.bool false) := hC1.2.2.2.2.2.2.2.2.2.2.2.2.2.1
    have c14 : w1.cell? ⟨w.heap.size + 1 + 1 + 1, 1, none⟩ = some (.int .i64 0) := hC1.2.2.2.2.2.2.2.2.2.2.2.2.2.2.1
    have c15 : w1.cell? ⟨w.heap.size + 1 + 1 + 1, 2, none⟩ = some (.int .i64 0) := hC1.2.2.2.2.2.2.2.2.2.2.2.2.2.2.2.1
    have c16 : w1.cell? ⟨w.heap.size + 1 + 1 + 1, 3, none⟩ = some (.int .i64 0) := hC1.2.2.2.2.2.2.2.2.2.2.2.2.2.2.2.2.1
    have c17 : w1.cell? ⟨w.heap.size + 1 + 1 + 1, 4, none⟩ = some (.int .i64 0) := hC1.2.2.2.2.2.2.2.2.2.2.2.2.2.2.2.2.2.1
    have c18 : w1.cell? ⟨w.heap.size + 1 + 1 + 1, 5, none⟩ = some (.int .i64 0) := hC1.2.2.2.2.2.2.2.2.2.2.2.2.2.2.2.2.2.2.1
    have c19 : w1.frozen? ⟨w.heap.size + 1 + 1 + 1, 0, none⟩ = false := hC1.2.2.2.2.2.2.2.2.2.2.2.2.2.2.2.2.2.2.2.1
    have c20 : w1.frozen? ⟨w.heap.size + 1 + 1 + 1, 1, none⟩ = false := hC1.2.2.2.2.2.2.2.2.2.2.2.2.2.2.2.2.2.2.2.2.1
    have c21 : w1.frozen? ⟨w.heap.size + 1 + 1 + 1, 2, none⟩ = false := hC1.2.2.2.2.2.2.2.2.2.2.2.2.2.2.2.2.2.2.2.2.2.1
    have c22 : w1.frozen? ⟨w.heap.size + 1 + 1 + 1, 3, none⟩ = false := hC1.2.2.2.2.2.2.2.2.2.2.2.2.2.2.2.2.2.2.2.2.2.2.1
    have c23 : w1.frozen? ⟨w.heap.size + 1 + 1 + 1, 4, none⟩ = false := hC1.2.2.2.2.2.2.2.2.2.2.2.2.2.2.2.2.2.2.2.2.2.2.2.1
    have c24 : w1.frozen? ⟨w.heap.size + 1 + 1 + 1, 5, none⟩ = false := hC1.2.2.2.2.2.2.2.2.2.2.2.2.2.2.2.2.2.2.2.2.2.2.2.2.1
    have c25 : Below w.heap.size w w1 := hC1.2.2.2.2.2.2.2.2.2.2.2.2.2.2.2.2.2.2.2.2.2.2.2.2.2
    go_wp2_with fail
    clear c0 c1 c2 c3 c4 c5 c6 c7 c8 c9 c10 c11 c12 c13 c14 c15 c16 c17 c18 c19 c20 c21 c22 c23 c24 c25
    have hB1 : Below w.heap.size w w1 := hC1.2.2.2.2.2.2.2.2.2.2.2.2.2.2.2.2.2.2.2.2.2.2.2.2.2
    refine (implStateOk_c _ _ _ (marksB f a len) _ _ _ _ _ _ _ hl (by intro w' hw'; exact HM.out w' (nbTrans hB1 hw'))).mono ?_
    rintro e w2 ⟨rfl, hb2⟩
    have hC2 := idC_on hC1 hb2
    have c0 : w2.cell? ⟨w.heap.size, 0, none⟩ = some (.int .i64 s) := hC2.1
    have c1 : w2.cell? ⟨w.heap.size, 1, none⟩ = some (.int .i64 j) := hC2.2.1
    have c2 : w2.cell? ⟨w.heap.size, 2, none⟩ = some (.int .i64 m) := hC2.2.2.1
    have c3 : w2.cell? ⟨w.heap.size, 3, none⟩ = some (.int .i64 g) := hC2.2.2.2.1
    have c4 : w2.cell? ⟨w.heap.size, 4, none⟩ = some (.int .i64 o) := hC2.2.2.2.2.1
    have c5 : w2.cell? ⟨w.heap.size + 1, 0, none⟩ = some (.bool kn) := hC2.2.2.2.2.2.1
    have c6 : w2.cell? ⟨w.heap.size + 1, 1, none⟩ = some (.int .i64 l) := hC2.2.2.2.2.2.2.1
    have c7 : w2.cell? ⟨w.heap.size + 1, 2, none⟩ = some (.int .i64 h) := hC2.2.2.2.2.2.2.2.1
    have c8 : w2.cell? ⟨w.heap.size + 1, 3, none⟩ = some (.int .i64 si) := hC2.2.2.2.2.2.2.2.2.1
    have c9 : w2.cell? ⟨w.heap.size + 1, 4, none⟩ = some (.int .i64 la) := hC2.2.2.2.2.2.2.2.2.2.1
    have c10 : w2.cell? ⟨w.heap.size + 1, 5, none⟩ = some (.int .i64 od) := hC2.2.2.2.2.2.2.2.2.2.2.1
    have c11 : w2.cell? ⟨w.heap.size + 1 + 1, 0, none⟩ = some (.int .i64 op) := hC2.2.2.2.2.2.2.2.2.2.2.2.1
    have c12 : w2.cell? ⟨w.heap.size + 1 + 1, 1, none⟩ = some (.int .i64 n) := hC2.2.2.2.2.2.2.2.2.2.2.2.2.1
    have c13 : w2.cell? ⟨w.heap.size + 1 + 1 + 1, 0, none⟩ = some (.bool false) := hC2.2.2.2.2.2.2.2.2.2.2.2.2.2.1
    have c14 : w2.cell? ⟨w.heap.size + 1 + 1 + 1, 1, none⟩ = some (.int .i64 0) := hC2.2.2.2.2.2.2.2.2.2.2.2.2.2.2.1
    have c15 : w2.cell? ⟨w.heap.size + 1 + 1 + 1, 2, none⟩ = some (.int .i64 0) := hC2.2.2.2.2.2.2.2.2.2.2.2.2.2.2.2.1
    have c16 : w2.cell? ⟨w.heap.size + 1 + 1 + 1, 3, none⟩ = some (.int .i64 0) := hC2.2.2.2.2.2.2.2.2.2.2.2.2.2.2.2.2.1
    have c17 : w2.cell? ⟨w.heap.size + 1 + 1 + 1, 4, none⟩ = some (.int .i64 0) := hC2.2.2.2.2.2.2.2.2.2.2.2.2.2.2.2.2.2.1
    have c18 : w2.cell? ⟨w.heap.size + 1 + 1 + 1, 5, none⟩ = some (.int .i64 0) := hC2.2.2.2.2.2.2.2.2.2.2.2.2.2.2.2.2.2.2.1
    have c19 : w2.frozen? ⟨w.heap.size + 1 + 1 + 1, 0, none⟩ = false := hC2.2.2.2.2.2.2.2.2.2.2.2.2.2.2.2.2.2.2.2.1
    have c20 : w2.frozen? ⟨w.heap.size + 1 + 1 + 1, 1, none⟩ = false := hC2.2.2.2.2.2.2.2.2.2.2.2.2.2.2.2.2.2.2.2.2.1
    have c21 : w2.frozen? ⟨w.heap.size + 1 + 1 + 1, 2, none⟩ = false := hC2.2.2.2.2.2.2.2.2.2.2.2.2.2.2.2.2.2.2.2.2.2.1
    have c22 : w2.frozen? ⟨w.heap.size + 1 + 1 + 1, 3, none⟩ = false := hC2.2.2.2.2.2.2.2.2.2.2.2.2.2.2.2.2.2.2.2.2.2.2.1
    have c23 : w2.frozen? ⟨w.heap.size + 1 + 1 + 1, 4, none⟩ = false := hC2.2.2.2.2.2.2.2.2.2.2.2.2.2.2.2.2.2.2.2.2.2.2.2.1
    have c24 : w2.frozen? ⟨w.heap.size + 1 + 1 + 1, 5, none⟩ = false := hC2.2.2.2.2.2.2.2.2.2.2.2.2.2.2.2.2.2.2.2.2.2.2.2.2.1
    have c25 : Below w.heap.size w w2 := hC2.2.2.2.2.2.2.2.2.2.2.2.2.2.2.2.2.2.2.2.2.2.2.2.2.2
    go_wp2_with fail
    have hq3 : w.heap.size ≤ w.heap.size + 1 + 1 + 1 := by omega
    exact bodyPost_ret (v := .agg #[.bool false, .int .i64 0, .int .i64 0, .int .i64 0, .int .i64 0, .int .i64 0]) (by simp [results, Try.results13, go_sem, *]) rfl ⟨rfl, (nbSetX (nbSetX (nbSetX (nbSetX (nbSetX (nbSetX c25 hq3) hq3) hq3) hq3) hq3) hq3)⟩
  have hev : evB op n = false := by simpa [hr, hst] using hbad
  clear hbad
  go_enter Try.func13, Try.ntmps13
  go_wp2_with fail
  refine (implRulesOk_c _ _ _ _ _ _).mono ?_
  rintro e w1 ⟨rfl, hb1⟩
  have hC1 : idC w s j m g o kn l h si la od op n w1 := ⟨cellOn hb1 (by go_simp), cellOn hb1 (by go_simp), cellOn hb1 (by go_simp), cellOn hb1 (by go_simp), cellOn hb1 (by go_simp), cellOn hb1 (by go_simp), cellOn hb1 (by go_simp), cellOn hb1 (by go_simp), cellOn hb1 (by go_simp), cellOn hb1 (by go_simp), cellOn hb1 (by go_simp), cellOn hb1 (by go_simp), cellOn hb1 (by go_simp), cellOn hb1 (by go_simp), cellOn hb1 (by go_simp), cellOn hb1 (by go_simp), cellOn hb1 (by go_simp), cellOn hb1 (by go_simp), cellOn hb1 (by go_simp), frozenOn hb1 (v := .bool false) (by go_simp) (by go_simp), frozenOn hb1 (v := .int .i64 0) (by go_simp) (by go_simp), frozenOn hb1 (v := .int .i64 0) (by go_simp) (by go_simp), frozenOn hb1 (v := .int .i64 0) (by go_simp) (by go_simp), frozenOn hb1 (v := .int .i64 0) (by go_simp) (by go_simp), frozenOn hb1 (v := .int .i64 0) (by go_simp) (by go_simp), nbTrans (nbAlloc (nbAlloc (nbAlloc (nbAlloc (Below.refl _ _) _) _) _) _) hb1⟩
  have c0 : w1.cell? ⟨w.heap.size, 0, none⟩ = some (.int .i64 s) := hC1.1
  have c1 : w1.cell? ⟨w.heap.size, 1, none⟩ = some (.int .i64 j) := hC1.2.1
  have c2 : w1.cell? ⟨w.heap.size, 2, none⟩ = some (.int .i64 m) := hC1.2.2.1
  have c3 : w1.cell? ⟨w.heap.size, 3, none⟩ = some (.int .i64 g) := hC1.2.2.2.1
  have c4 : w1.cell? ⟨w.heap.size, 4, none⟩ = some (.int .i64 o) := hC1.2.2.2.2.1
  have c5 : w1.cell? ⟨w.heap.size + 1, 0, none⟩ = some (.bool kn) := hC1.2.2.2.2.2.1
  have c6 : w1.cell? ⟨w.heap.size + 1, 1, none⟩ = some (.int .i64 l) := hC1.2.2.2.2.2.2.1
  have c7 : w1.cell? ⟨w.heap.size + 1, 2, none⟩ = some (.int .i64 h) := hC1.2.2.2.2.2.2.2.1
  have c8 : w1.cell? ⟨w.heap.size + 1, 3, none⟩ = some (.int .i64 si) := hC1.2.2.2.2.2.2.2.2.1
  have c9 : w1.cell? ⟨w.heap.size + 1, 4, none⟩ = some (.int .i64 la) := hC1.2.2.2.2.2.2.2.2.2.1
  have c10 : w1.cell? ⟨w.heap.size + 1, 5, none⟩ = some (.int .i64 od) := hC1.2.2.2.2.2.2.2.2.2.2.1
  have c11 : w1.cell? ⟨w.heap.size + 1 + 1, 0, none⟩ = some (.int .i64 op) := hC1.2.2.2.2.2.2.2.2.2.2.2.1
  have c12 : w1.cell? ⟨w.heap.size + 1 + 1, 1, none⟩ = some (.int .i64 n) := hC1.2.2.2.2.2.2.2.2.2.2.2.2.1
  have c13 : w1.cell? ⟨w.heap.size + 1 + 1 + 1, 0, none⟩ = some (.bool false) := hC1.2.2.2.2.2.2.2.2.2.2.2.2.2.1
  have c14 : w1.cell? ⟨w.heap.size + 1 + 1 + 1, 1, none⟩ = some (.int .i64 0) := hC1.2.2.2.2.2.2.2.2.2.2.2.2.2.2.1
  have c15 : w1.cell? ⟨w.heap.size + 1 + 1 + 1, 2, none⟩ = some (.int .i64 0) := hC1.2.2.2.2.2.2.2.2.2.2.2.2.2.2.2.1
  have c16 : w1.cell? ⟨w.heap.size + 1 + 1 + 1, 3, none⟩ = some (.int .i64 0) := hC1.2.2.2.2.2.2.2.2.2.2.2.2.2.2.2.2.1
  have c17 : w1.cell? ⟨w.heap.size + 1 + 1 + 1, 4, none⟩ = some (.int .i64 0) := hC1.2.2.2.2.2.2.2.2.2.2.2.2.2.2.2.2.2.1
  have c18 : w1.cell? ⟨w.heap.size + 1 + 1 + 1, 5, none⟩ = some (.int .i64 0) := hC1.2.2.2.2.2.2.2.2.2.2.2.2.2.2.2.2.2.2.1
  have c19 : w1.frozen? ⟨w.heap.size + 1 + 1 + 1, 0, none⟩ = false := hC1.2.2.2.2.2.2.2.2.2.2.2.2.2.2.2.2.2.2.2.1
  have c20 : w1.frozen? ⟨w.heap.size + 1 + 1 + 1, 1, none⟩ = false := hC1.2.2.2.2.2.2.2.2.2.2.2.2.2.2.2.2.2.2.2.2.1
  have c21 : w1.frozen? ⟨w.heap.size + 1 + 1 + 1, 2, none⟩ = false := hC1.2.2.2.2.2.2.2.2.2.2.2.2.2.2.2.2.2.2.2.2.2.1
  have c22 : w1.frozen? ⟨w.heap.size + 1 + 1 + 1, 3, none⟩ = false := hC1.2.2.2.2.2.2.2.2.2.2.2.2.2.2.2.2.2.2.2.2.2.2.1
  have c23 : w1.frozen? ⟨w.heap.size + 1 + 1 + 1, 4, none⟩ = false := hC1.2.2.2.2.2.2.2.2.2.2.2.2.2.2.2.2.2.2.2.2.2.2.2.1
  have c24 : w1.frozen? ⟨w.heap.size + 1 + 1 + 1, 5, none⟩ = false := hC1.2.2.2.2.2.2.2.2.2.2.2.2.2.2.2.2.2.2.2.2.2.2.2.2.1
  have c25 : Below w.heap.size w w1 := hC1.2.2.2.2.2.2.2.2.2.2.2.2.2.2.2.2.2.2.2.2.2.2.2.2.2
  go_wp2_with fail
  clear c0 c1 c2 c3 c4 c5 c6 c7 c8 c9 c10 c11 c12 c13 c14 c15 c16 c17 c18 c19 c20 c21 c22 c23 c24 c25
  have hB1 : Below w.heap.size w w1 := hC1.2.2.2.2.2.2.2.2.2.2.2.2.2.2.2.2.2.2.2.2.2.2.2.2.2
  refine (implStateOk_c _ _ _ (marksB f a len) _ _ _ _ _ _ _ hl (by intro w' hw'; exact HM.out w' (nbTrans hB1 hw'))).mono ?_
  rintro e w2 ⟨rfl, hb2⟩
  have hC2 := idC_on hC1 hb2
  have c0 : w2.cell? ⟨w.heap.size, 0, none⟩ = some (.int .i64 s) := hC2.1
  have c1 : w2.cell? ⟨w.heap.size, 1, none⟩ = some (.int .i64 j) := hC2.2.1
  have c2 : w2.cell? ⟨w.heap.size, 2, none⟩ = some (.int .i64 m) := hC2.2.2.1
  have c3 : w2.cell? ⟨w.heap.size, 3, none⟩ = some (.int .i64 g) := hC2.2.2.2.1
  have c4 : w2.cell? ⟨w.heap.size, 4, none⟩ = some (.int .i64 o) := hC2.2.2.2.2.1
  have c5 : w2.cell? ⟨w.heap.size + 1, 0, none⟩ = some (.bool kn) := hC2.2.2.2.2.2.1
  have c6 : w2.cell? ⟨w.heap.size + 1, 1, none⟩ = some (.int .i64 l) := hC2.2.2.2.2.2.2.1
  have c7 : w2.cell? ⟨w.heap.size + 1, 2, none⟩ = some (.int .i64 h) := hC2.2.2.2.2.2.2.2.1
  have c8 : w2.cell? ⟨w.heap.size + 1, 3, none⟩ = some (.int .i64 si) := hC2.2.2.2.2.2.2.2.2.1
  have c9 : w2.cell? ⟨w.heap.size + 1, 4, none⟩ = some (.int .i64 la) := hC2.2.2.2.2.2.2.2.2.2.1
  have c10 : w2.cell? ⟨w.heap.size + 1, 5, none⟩ = some (.int .i64 od) := hC2.2.2.2.2.2.2.2.2.2.2.1
  have c11 : w2.cell? ⟨w.heap.size + 1 + 1, 0, none⟩ = some (.int .i64 op) := hC2.2.2.2.2.2.2.2.2.2.2.2.1
  have c12 : w2.cell? ⟨w.heap.size + 1 + 1, 1, none⟩ = some (.int .i64 n) := hC2.2.2.2.2.2.2.2.2.2.2.2.2.1
  have c13 : w2.cell? ⟨w.heap.size + 1 + 1 + 1, 0, none⟩ = some (.bool false) := hC2.2.2.2.2.2.2.2.2.2.2.2.2.2.1
  have c14 : w2.cell? ⟨w.heap.size + 1 + 1 + 1, 1, none⟩ = some (.int .i64 0) := hC2.2.2.2.2.2.2.2.2.2.2.2.2.2.2.1
  have c15 : w2.cell? ⟨w.heap.size + 1 + 1 + 1, 2, none⟩ = some (.int .i64 0) := hC2.2.2.2.2.2.2.2.2.2.2.2.2.2.2.2.1
  have c16 : w2.cell? ⟨w.heap.size + 1 + 1 + 1, 3, none⟩ = some (.int .i64 0) := hC2.2.2.2.2.2.2.2.2.2.2.2.2.2.2.2.2.1
  have c17 : w2.cell? ⟨w.heap.size + 1 + 1 + 1, 4, none⟩ = some (.int .i64 0) := hC2.2.2.2.2.2.2.2.2.2.2.2.2.2.2.2.2.2.1
  have c18 : w2.cell? ⟨w.heap.size + 1 + 1 + 1, 5, none⟩ = some (.int .i64 0) := hC2.2.2.2.2.2.2.2.2.2.2.2.2.2.2.2.2.2.2.1
  have c19 : w2.frozen? ⟨w.heap.size + 1 + 1 + 1, 0, none⟩ = false := hC2.2.2.2.2.2.2.2.2.2.2.2.2.2.2.2.2.2.2.2.1
  have c20 : w2.frozen? ⟨w.heap.size + 1 + 1 + 1, 1, none⟩ = false := hC2.2.2.2.2.2.2.2.2.2.2.2.2.2.2.2.2.2.2.2.2.1
  have c21 : w2.frozen? ⟨w.heap.size + 1 + 1 + 1, 2, none⟩ = false := hC2.2.2.2.2.2.2.2.2.2.2.2.2.2.2.2.2.2.2.2.2.2.1
  have c22 : w2.frozen? ⟨w.heap.size + 1 + 1 + 1, 3, none⟩ = false := hC2.2.2.2.2.2.2.2.2.2.2.2.2.2.2.2.2.2.2.2.2.2.2.1
  have c23 : w2.frozen? ⟨w.heap.size + 1 + 1 + 1, 4, none⟩ = false := hC2.2.2.2.2.2.2.2.2.2.2.2.2.2.2.2.2.2.2.2.2.2.2.2.1
  have c24 : w2.frozen? ⟨w.heap.size + 1 + 1 + 1, 5, none⟩ = false := hC2.2.2.2.2.2.2.2.2.2.2.2.2.2.2.2.2.2.2.2.2.2.2.2.2.1
  have c25 : Below w.heap.size w w2 := hC2.2.2.2.2.2.2.2.2.2.2.2.2.2.2.2.2.2.2.2.2.2.2.2.2.2
  go_wp2_with fail
  clear c0 c1 c2 c3 c4 c5 c6 c7 c8 c9 c10 c11 c12 c13 c14 c15 c16 c17 c18 c19 c20 c21 c22 c23 c24 c25
  refine (implEventOk_c _ _ _).mono ?_
  rintro e w3 ⟨rfl, hb3⟩
  have hC3 := idC_on hC2 hb3
  have c0 : w3.cell? ⟨w.heap.size, 0, none⟩ = some (.int .i64 s) := hC3.1
  have c1 : w3.cell? ⟨w.heap.size, 1, none⟩ = some (.int .i64 j) := hC3.2.1
  have c2 : w3.cell? ⟨w.heap.size, 2, none⟩ = some (.int .i64 m) := hC3.2.2.1
  have c3 : w3.cell? ⟨w.heap.size, 3, none⟩ = some (.int .i64 g) := hC3.2.2.2.1
  have c4 : w3.cell? ⟨w.heap.size, 4, none⟩ = some (.int .i64 o) := hC3.2.2.2.2.1
  have c5 : w3.cell? ⟨w.heap.size + 1, 0, none⟩ = some (.bool kn) := hC3.2.2.2.2.2.1
  have c6 : w3.cell? ⟨w.heap.size + 1, 1, none⟩ = some (.int .i64 l) := hC3.2.2.2.2.2.2.1
  have c7 : w3.cell? ⟨w.heap.size + 1, 2, none⟩ = some (.int .i64 h) := hC3.2.2.2.2.2.2.2.1
  have c8 : w3.cell? ⟨w.heap.size + 1, 3, none⟩ = some (.int .i64 si) := hC3.2.2.2.2.2.2.2.2.1
  have c9 : w3.cell? ⟨w.heap.size + 1, 4, none⟩ = some (.int .i64 la) := hC3.2.2.2.2.2.2.2.2.2.1
  have c10 : w3.cell? ⟨w.heap.size + 1, 5, none⟩ = some (.int .i64 od) := hC3.2.2.2.2.2.2.2.2.2.2.1
  have c11 : w3.cell? ⟨w.heap.size + 1 + 1, 0, none⟩ = some (.int .i64 op) := hC3.2.2.2.2.2.2.2.2.2.2.2.1
  have c12 : w3.cell? ⟨w.heap.size + 1 + 1, 1, none⟩ = some (.int .i64 n) := hC3.2.2.2.2.2.2.2.2.2.2.2.2.1
  have c13 : w3.cell? ⟨w.heap.size + 1 + 1 + 1, 0, none⟩ = some (.bool false) := hC3.2.2.2.2.2.2.2.2.2.2.2.2.2.1
  have c14 : w3.cell? ⟨w.heap.size + 1 + 1 + 1, 1, none⟩ = some (.int .i64 0) := hC3.2.2.2.2.2.2.2.2.2.2.2.2.2.2.1
  have c15 : w3.cell? ⟨w.heap.size + 1 + 1 + 1, 2, none⟩ = some (.int .i64 0) := hC3.2.2.2.2.2.2.2.2.2.2.2.2.2.2.2.1
  have c16 : w3.cell? ⟨w.heap.size + 1 + 1 + 1, 3, none⟩ = some (.int .i64 0) := hC3.2.2.2.2.2.2.2.2.2.2.2.2.2.2.2.2.1
  have c17 : w3.cell? ⟨w.heap.size + 1 + 1 + 1, 4, none⟩ = some (.int .i64 0) := hC3.2.2.2.2.2.2.2.2.2.2.2.2.2.2.2.2.2.1
  have c18 : w3.cell? ⟨w.heap.size + 1 + 1 + 1, 5, none⟩ = some (.int .i64 0) := hC3.2.2.2.2.2.2.2.2.2.2.2.2.2.2.2.2.2.2.1
  have c19 : w3.frozen? ⟨w.heap.size + 1 + 1 + 1, 0, none⟩ = false := hC3.2.2.2.2.2.2.2.2.2.2.2.2.2.2.2.2.2.2.2.1
  have c20 : w3.frozen? ⟨w.heap.size + 1 + 1 + 1, 1, none⟩ = false := hC3.2.2.2.2.2.2.2.2.2.2.2.2.2.2.2.2.2.2.2.2.1
  have c21 : w3.frozen? ⟨w.heap.size + 1 + 1 + 1, 2, none⟩ = false := hC3.2.2.2.2.2.2.2.2.2.2.2.2.2.2.2.2.2.2.2.2.2.1
  have c22 : w3.frozen? ⟨w.heap.size + 1 + 1 + 1, 3, none⟩ = false := hC3.2.2.2.2.2.2.2.2.2.2.2.2.2.2.2.2.2.2.2.2.2.2.1
  have c23 : w3.frozen? ⟨w.heap.size + 1 + 1 + 1, 4, none⟩ = false := hC3.2.2.2.2.2.2.2.2.2.2.2.2.2.2.2.2.2.2.2.2.2.2.2.1
  have c24 : w3.frozen? ⟨w.heap.size + 1 + 1 + 1, 5, none⟩ = false := hC3.2.2.2.2.2.2.2.2.2.2.2.2.2.2.2.2.2.2.2.2.2.2.2.2.1
  have c25 : Below w.heap.size w w3 := hC3.2.2.2.2.2.2.2.2.2.2.2.2.2.2.2.2.2.2.2.2.2.2.2.2.2
  go_wp2_with fail
  have hq3 : w.heap.size ≤ w.heap.size + 1 + 1 + 1 := by omega
  exact bodyPost_ret (v := .agg #[.bool false, .int .i64 0, .int .i64 0, .int .i64 0, .int .i64 0, .int .i64 0]) (by simp [results, Try.results13, go_sem, *]) rfl ⟨rfl, (nbSetX (nbSetX (nbSetX (nbSetX (nbSetX (nbSetX c25 hq3) hq3) hq3) hq3) hq3) hq3)⟩

set_option maxRecDepth 100000 in
set_option maxHeartbeats 4000000 in
theorem implDo_ok (ad : Option Addr) (len cap : Nat) (f a : Nat → Int) (s j m g o : Int) (kn : Bool) (l h si la od op n : Int) (w : World) (hl : len ≤ 1048576) (HM : Hid (∀ w', Below w.heap.size w w' → Calls Try.prog 57 #[.slice ad len cap] w' fun e w'' => e = .returned (.bool (marksB f a len)) ∧ Below w'.heap.size w' w'')) (hr : rOk s j m g o = true) (hst : stB (marksB f a len) len kn l h si la od = true) (hev : evB op n = true) (HS : Hid (∀ w', Below w.heap.size w w' → Calls Try.prog 38 #[.slice ad len cap] w' fun e w'' => e = .returned (.map (some w'.heap.size)) ∧ MapAt w'' w'.heap.size len f a ∧ Below w'.heap.size w' w'')) (D : St) (hA : Hid (∀ q w, MapAt w q len f a → Calls Try.prog 39 #[.agg #[.int .i64 s, .int .i64 j, .int .i64 m, .int .i64 g, .int .i64 o, .map (some q)], St.b ⟨kn, l, h, si, la, od⟩, hapV op n] w fun e w' => e = .returned D.b ∧ Below w.heap.size w w')) :
    Calls Try.prog 13 #[.agg #[.int .i64 s, .int .i64 j, .int .i64 m, .int .i64 g, .int .i64 o], .slice ad len cap, .agg #[.bool kn, .int .i64 l, .int .i64 h, .int .i64 si, .int .i64 la, .int .i64 od], .agg #[.int .i64 op, .int .i64 n]] w fun e w' => e = .returned (.agg #[.bool D.kn, .int .i64 D.l, .int .i64 D.h, .int .i64 D.si, .int .i64 D.la, .int .i64 D.od]) ∧ Below w.heap.size w w' := by
  go_enter Try.func13, Try.ntmps13
  go_wp2_with fail
  refine (implRulesOk_c _ _ _ _ _ _).mono ?_
  rintro e w1 ⟨rfl, hb1⟩
  have hC1 : idC w s j m g o kn l h si la od op n w1 := ⟨cellOn hb1 (by go_simp), cellOn hb1 (by go_simp), cellOn hb1 (by go_simp), cellOn hb1 (by go_simp), cellOn hb1 (by go_simp), cellOn hb1 (by go_simp), cellOn hb1 (by go_simp), cellOn hb1 (by go_simp), cellOn hb1 (by go_simp), cellOn hb1 (by go_simp), cellOn hb1 (by go_simp), cellOn hb1 (by go_simp), cellOn hb1 (by go_simp), cellOn hb1 (by go_simp), cellOn hb1 (by go_simp), cellOn hb1 (by go_simp), cellOn hb1 (by go_simp), cellOn hb1 (by go_simp), cellOn hb1 (by go_simp), frozenOn hb1 (v := .bool false) (by go_simp) (by go_simp), frozenOn hb1 (v := .int .i64 0) (by go_simp) (by go_simp), frozenOn hb1 (v := .int .i64 0) (by go_simp) (by go_simp), frozenOn hb1 (v := .int .i64 0) (by go_simp) (by go_simp), frozenOn hb1 (v := .int .i64 0) (by go_simp) (by go_simp), frozenOn hb1 (v := .int .i64 0) (by go_simp) (by go_simp), nbTrans (nbAlloc (nbAlloc (nbAlloc (nbAlloc (Below.refl _ _) _) _) _) _) hb1⟩
  have c0 : w1.cell? ⟨w.heap.size, 0, none⟩ = some (.int .i64 s) := hC1.1
  have c1 : w1.cell? ⟨w.heap.size, 1, none⟩ = some (.int .i64 j) := hC1.2.1
  have c2 : w1.cell? ⟨w.heap.size, 2, none⟩ = some (.int .i64 m) := hC1.2.2.1
  have c3 : w1.cell? ⟨w.heap.size, 3, none⟩ = some (.int .i64 g) := hC1.2.2.2.1
  have c4 : w1.cell? ⟨w.heap.size, 4, none⟩ = some (.int .i64 o) := hC1.2.2.2.2.1
  have c5 : w1.cell? ⟨w.heap.size + 1, 0, none⟩ = some (.bool kn) := hC1.2.2.2.2.2.1
  have c6 : w1.cell? ⟨w.heap.size + 1, 1, none⟩ = some (.int .i64 l) := hC1.2.2.2.2.2.2.1
  have c7 : w1.cell? ⟨w.heap.size + 1, 2, none⟩ = some (.int .i64 h) := hC1.2.2.2.2.2.2.2.1
  have c8 : w1.cell? ⟨w.heap.size + 1, 3, none⟩ = some (.int .i64 si) := hC1.2.2.2.2.2.2.2.2.1
  have c9 : w1.cell? ⟨w.heap.size + 1, 4, none⟩ = some (.int .i64 la) := hC1.2.2.2.2.2.2.2.2.2.1
  have c10 : w1.cell? ⟨w.heap.size + 1, 5, none⟩ = some (.int .i64 od) := hC1.2.2.2.2.2.2.2.2.2.2.1
  have c11 : w1.cell? ⟨w.heap.size + 1 + 1, 0, none⟩ = some (.int .i64 op) := hC1.2.2.2.2.2.2.2.2.2.2.2.1
  have c12 : w1.cell? ⟨w.heap.size + 1 + 1, 1, none⟩ = some (.int .i64 n) := hC1.2.2.2.2.2.2.2.2.2.2.2.2.1
  have c13 : w1.cell? ⟨w.heap.size + 1 + 1 + 1, 0, none⟩ = some (.bool false) := hC1.2.2.2.2.2.2.2.2.2.2.2.2.2.1
  have c14 : w1.cell? ⟨w.heap.size + 1 + 1 + 1, 1, none⟩ = some (.int .i64 0) := hC1.2.2.2.2.2.2.2.2.2.2.2.2.2.2.1
  have c15 : w1.cell? ⟨w.heap.size + 1 + 1 + 1, 2, none⟩ = some (.int .i64 0) := hC1.2.2.2.2.2.2.2.2.2.2.2.2.2.2.2.1
  have c16 : w1.cell? ⟨w.heap.size + 1 + 1 + 1, 3, none⟩ = some (.int .i64 0) := hC1.2.2.2.2.2.2.2.2.2.2.2.2.2.2.2.2.1
  have c17 : w1.cell? ⟨w.heap.size + 1 + 1 + 1, 4, none⟩ = some (.int .i64 0) := hC1.2.2.2.2.2.2.2.2.2.2.2.2.2.2.2.2.2.1
  have c18 : w1.cell? ⟨w.heap.size + 1 + 1 + 1, 5, none⟩ = some (.int .i64 0) := hC1.2.2.2.2.2.2.2.2.2.2.2.2.2.2.2.2.2.2.1
  have c19 : w1.frozen? ⟨w.heap.size + 1 + 1 + 1, 0, none⟩ = false := hC1.2.2.2.2.2.2.2.2.2.2.2.2.2.2.2.2.2.2.2.1
  have c20 : w1.frozen? ⟨w.heap.size + 1 + 1 + 1, 1, none⟩ = false := hC1.2.2.2.2.2.2.2.2.2.2.2.2.2.2.2.2.2.2.2.2.1
  have c21 : w1.frozen? ⟨w.heap.size + 1 + 1 + 1, 2, none⟩ = false := hC1.2.2.2.2.2.2.2.2.2.2.2.2.2.2.2.2.2.2.2.2.2.1
  have c22 : w1.frozen? ⟨w.heap.size + 1 + 1 + 1, 3, none⟩ = false := hC1.2.2.2.2.2.2.2.2.2.2.2.2.2.2.2.2.2.2.2.2.2.2.1
  have c23 : w1.frozen? ⟨w.heap.size + 1 + 1 + 1, 4, none⟩ = false := hC1.2.2.2.2.2.2.2.2.2.2.2.2.2.2.2.2.2.2.2.2.2.2.2.1
  have c24 : w1.frozen? ⟨w.heap.size + 1 + 1 + 1, 5, none⟩ = false := hC1.2.2.2.2.2.2.2.2.2.2.2.2.2.2.2.2.2.2.2.2.2.2.2.2.1
  have c25 : Below w.heap.size w w1 := hC1.2.2.2.2.2.2.2.2.2.2.2.2.2.2.2.2.2.2.2.2.2.2.2.2.2
  go_wp2_with fail
  clear c0 c1 c2 c3 c4 c5 c6 c7 c8 c9 c10 c11 c12 c13 c14 c15 c16 c17 c18 c19 c20 c21 c22 c23 c24 c25
  have hB1 : Below w.heap.size w w1 := hC1.2.2.2.2.2.2.2.2.2.2.2.2.2.2.2.2.2.2.2.2.2.2.2.2.2
  refine (implStateOk_c _ _ _ (marksB f a len) _ _ _ _ _ _ _ hl (by intro w' hw'; exact HM.out w' (nbTrans hB1 hw'))).mono ?_
  rintro e w2 ⟨rfl, hb2⟩
  have hC2 := idC_on hC1 hb2
  have c0 : w2.cell? ⟨w.heap.size, 0, none⟩ = some (.int .i64 s) := hC2.1
  have c1 : w2.cell? ⟨w.heap.size, 1, none⟩ = some (.int .i64 j) := hC2.2.1
  have c2 : w2.cell? ⟨w.heap.size, 2, none⟩ = some (.int .i64 m) := hC2.2.2.1
  have c3 : w2.cell? ⟨w.heap.size, 3, none⟩ = some (.int .i64 g) := hC2.2.2.2.1
  have c4 : w2.cell? ⟨w.heap.size, 4, none⟩ = some (.int .i64 o) := hC2.2.2.2.2.1
  have c5 : w2.cell? ⟨w.heap.size + 1, 0, none⟩ = some (.bool kn) := hC2.2.2.2.2.2.1
  have c6 : w2.cell? ⟨w.heap.size + 1, 1, none⟩ = some (.int .i64 l) := hC2.2.2.2.2.2.2.1
  have c7 : w2.cell? ⟨w.heap.size + 1, 2, none⟩ = some (.int .i64 h) := hC2.2.2.2.2.2.2.2.1
  have c8 : w2.cell? ⟨w.heap.size + 1, 3, none⟩ = some (.int .i64 si) := hC2.2.2.2.2.2.2.2.2.1
  have c9 : w2.cell? ⟨w.heap.size + 1, 4, none⟩ = some (.int .i64 la) := hC2.2.2.2.2.2.2.2.2.2.1
  have c10 : w2.cell? ⟨w.heap.size + 1, 5, none⟩ = some (.int .i64 od) := hC2.2.2.2.2.2.2.2.2.2.2.1
  have c11 : w2.cell? ⟨w.heap.size + 1 + 1, 0, none⟩ = some (.int .i64 op) := hC2.2.2.2.2.2.2.2.2.2.2.2.1
  have c12 : w2.cell? ⟨w.heap.size + 1 + 1, 1, none⟩ = some (.int .i64 n) := hC2.2.2.2.2.2.2.2.2.2.2.2.2.1
  have c13 : w2.cell? ⟨w.heap.size + 1 + 1 + 1, 0, none⟩ = some (.bool false) := hC2.2.2.2.2.2.2.2.2.2.2.2.2.2.1
  have c14 : w2.cell? ⟨w.heap.size + 1 + 1 + 1, 1, none⟩ = some (.int .i64 0) := hC2.2.2.2.2.2.2.2.2.2.2.2.2.2.2.1
  have c15 : w2.cell? ⟨w.heap.size + 1 + 1 + 1, 2, none⟩ = some (.int .i64 0) := hC2.2.2.2.2.2.2.2.2.2.2.2.2.2.2.2.1
  have c16 : w2.cell? ⟨w.heap.size + 1 + 1 + 1, 3, none⟩ = some (.int .i64 0) := hC2.2.2.2.2.2.2.2.2.2.2.2.2.2.2.2.2.1
  have c17 : w2.cell? ⟨w.heap.size + 1 + 1 + 1, 4, none⟩ = some (.int .i64 0) := hC2.2.2.2.2.2.2.2.2.2.2.2.2.2.2.2.2.2.1
  have c18 : w2.cell? ⟨w.heap.size + 1 + 1 + 1, 5, none⟩ = some (.int .i64 0) := hC2.2.2.2.2.2.2.2.2.2.2.2.2.2.2.2.2.2.2.1
  have c19 : w2.frozen? ⟨w.heap.size + 1 + 1 + 1, 0, none⟩ = false := hC2.2.2.2.2.2.2.2.2.2.2.2.2.2.2.2.2.2.2.2.1
  have c20 : w2.frozen? ⟨w.heap.size + 1 + 1 + 1, 1, none⟩ = false := hC2.2.2.2.2.2.2.2.2.2.2.2.2.2.2.2.2.2.2.2.2.1
  have c21 : w2.frozen? ⟨w.heap.size + 1 + 1 + 1, 2, none⟩ = false := hC2.2.2.2.2.2.2.2.2.2.2.2.2.2.2.2.2.2.2.2.2.2.1
  have c22 : w2.frozen? ⟨w.heap.size + 1 + 1 + 1, 3, none⟩ = false := hC2.2.2.2.2.2.2.2.2.2.2.2.2.2.2.2.2.2.2.2.2.2.2.1
  have c23 : w2.frozen? ⟨w.heap.size + 1 + 1 + 1, 4, none⟩ = false := hC2.2.2.2.2.2.2.2.2.2.2.2.2.2.2.2.2.2.2.2.2.2.2.2.1
  have c24 : w2.frozen? ⟨w.heap.size + 1 + 1 + 1, 5, none⟩ = false := hC2.2.2.2.2.2.2.2.2.2.2.2.2.2.2.2.2.2.2.2.2.2.2.2.2.1
  have c25 : Below w.heap.size w w2 := hC2.2.2.2.2.2.2.2.2.2.2.2.2.2.2.2.2.2.2.2.2.2.2.2.2.2
  go_wp2_with fail
  clear c0 c1 c2 c3 c4 c5 c6 c7 c8 c9 c10 c11 c12 c13 c14 c15 c16 c17 c18 c19 c20 c21 c22 c23 c24 c25
  refine (implEventOk_c _ _ _).mono ?_
  rintro e w3 ⟨rfl, hb3⟩
  have hC3 := idC_on hC2 hb3
  have c0 : w3.cell? ⟨w.heap.size, 0, none⟩ = some (.int .i64 s) := hC3.1
  have c1 : w3.cell? ⟨w.heap.size, 1, none⟩ = some (.int .i64 j) := hC3.2.1
  have c2 : w3.cell? ⟨w.heap.size, 2, none⟩ = some (.int .i64 m) := hC3.2.2.1
  have c3 : w3.cell? ⟨w.heap.size, 3, none⟩ = some (.int .i64 g) := hC3.2.2.2.1
  have c4 : w3.cell? ⟨w.heap.size, 4, none⟩ = some (.int .i64 o) := hC3.2.2.2.2.1
  have c5 : w3.cell? ⟨w.heap.size + 1, 0, none⟩ = some (.bool kn) := hC3.2.2.2.2.2.1
  have c6 : w3.cell? ⟨w.heap.size + 1, 1, none⟩ = some (.int .i64 l) := hC3.2.2.2.2.2.2.1
  have c7 : w3.cell? ⟨w.heap.size + 1, 2, none⟩ = some (.int .i64 h) := hC3.2.2.2.2.2.2.2.1
  have c8 : w3.cell? ⟨w.heap.size + 1, 3, none⟩ = some (.int .i64 si) := hC3.2.2.2.2.2.2.2.2.1
  have c9 : w3.cell? ⟨w.heap.size + 1, 4, none⟩ = some (.int .i64 la) := hC3.2.2.2.2.2.2.2.2.2.1
  have c10 : w3.cell? ⟨w.heap.size + 1, 5, none⟩ = some (.int .i64 od) := hC3.2.2.2.2.2.2.2.2.2.2.1
  have c11 : w3.cell? ⟨w.heap.size + 1 + 1, 0, none⟩ = some (.int .i64 op) := hC3.2.2.2.2.2.2.2.2.2.2.2.1
  have c12 : w3.cell? ⟨w.heap.size + 1 + 1, 1, none⟩ = some (.int .i64 n) := hC3.2.2.2.2.2.2.2.2.2.2.2.2.1
  have c13 : w3.cell? ⟨w.heap.size + 1 + 1 + 1, 0, none⟩ = some (.bool false) := hC3.2.2.2.2.2.2.2.2.2.2.2.2.2.1
  have c14 : w3.cell? ⟨w.heap.size + 1 + 1 + 1, 1, none⟩ = some (.int .i64 0) := hC3.2.2.2.2.2.2.2.2.2.2.2.2.2.2.1
  have c15 : w3.cell? ⟨w.heap.size + 1 + 1 + 1, 2, none⟩ = some (.int .i64 0) := hC3.2.2.2.2.2.2.2.2.2.2.2.2.2.2.2.1
  have c16 : w3.cell? ⟨w.heap.size + 1 + 1 + 1, 3, none⟩ = some (.int .i64 0) := hC3.2.2.2.2.2.2.2.2.2.2.2.2.2.2.2.2.1
  have c17 : w3.cell? ⟨w.heap.size + 1 + 1 + 1, 4, none⟩ = some (.int .i64 0) := hC3.2.2.2.2.2.2.2.2.2.2.2.2.2.2.2.2.2.1
  have c18 : w3.cell? ⟨w.heap.size + 1 + 1 + 1, 5, none⟩ = some (.int .i64 0) := hC3.2.2.2.2.2.2.2.2.2.2.2.2.2.2.2.2.2.2.1
  have c19 : w3.frozen? ⟨w.heap.size + 1 + 1 + 1, 0, none⟩ = false := hC3.2.2.2.2.2.2.2.2.2.2.2.2.2.2.2.2.2.2.2.1
  have c20 : w3.frozen? ⟨w.heap.size + 1 + 1 + 1, 1, none⟩ = false := hC3.2.2.2.2.2.2.2.2.2.2.2.2.2.2.2.2.2.2.2.2.1
  have c21 : w3.frozen? ⟨w.heap.size + 1 + 1 + 1, 2, none⟩ = false := hC3.2.2.2.2.2.2.2.2.2.2.2.2.2.2.2.2.2.2.2.2.2.1
  have c22 : w3.frozen? ⟨w.heap.size + 1 + 1 + 1, 3, none⟩ = false := hC3.2.2.2.2.2.2.2.2.2.2.2.2.2.2.2.2.2.2.2.2.2.2.1
  have c23 : w3.frozen? ⟨w.heap.size + 1 + 1 + 1, 4, none⟩ = false := hC3.2.2.2.2.2.2.2.2.2.2.2.2.2.2.2.2.2.2.2.2.2.2.2.1
  have c24 : w3.frozen? ⟨w.heap.size + 1 + 1 + 1, 5, none⟩ = false := hC3.2.2.2.2.2.2.2.2.2.2.2.2.2.2.2.2.2.2.2.2.2.2.2.2.1
  have c25 : Below w.heap.size w w3 := hC3.2.2.2.2.2.2.2.2.2.2.2.2.2.2.2.2.2.2.2.2.2.2.2.2.2
  go_wp2_with fail
  clear c0 c1 c2 c3 c4 c5 c6 c7 c8 c9 c10 c11 c12 c13 c14 c15 c16 c17 c18 c19 c20 c21 c22 c23 c24 c25
  refine region_relL (idC w s j m g o kn l h si la od op n) (idY (w.heap.size + 1 + 1 + 1 + 1) s j m g o (.slice ad len cap) len f a) 5 (fun _ _ => idC_on) idY_on (by kernel_rfl) (by kernel_rfl) (by kernel_rfl) ?_ ?_ ?_
  · exact idC_on hC3 (Below.drew (Below.refl _ _))
  · intro j' o' ho hne vs w4 hC hw
    have hBS : w.heap.size + 1 + 1 + 1 + 1 ≤ w4.heap.size := by have := ltCell hC.2.2.2.2.2.2.2.2.2.2.2.2.2.1; omega
    have hB4 := hC.2.2.2.2.2.2.2.2.2.2.2.2.2.2.2.2.2.2.2.2.2.2.2.2.2
    have c0 : w4.cell? ⟨w.heap.size, 0, none⟩ = some (.int .i64 s) := hC.1
    have c1 : w4.cell? ⟨w.heap.size, 1, none⟩ = some (.int .i64 j) := hC.2.1
    have c2 : w4.cell? ⟨w.heap.size, 2, none⟩ = some (.int .i64 m) := hC.2.2.1
    have c3 : w4.cell? ⟨w.heap.size, 3, none⟩ = some (.int .i64 g) := hC.2.2.2.1
    have c4 : w4.cell? ⟨w.heap.size, 4, none⟩ = some (.int .i64 o) := hC.2.2.2.2.1
    have c5 : w4.cell? ⟨w.heap.size + 1, 0, none⟩ = some (.bool kn) := hC.2.2.2.2.2.1
    have c6 : w4.cell? ⟨w.heap.size + 1, 1, none⟩ = some (.int .i64 l) := hC.2.2.2.2.2.2.1
    have c7 : w4.cell? ⟨w.heap.size + 1, 2, none⟩ = some (.int .i64 h) := hC.2.2.2.2.2.2.2.1
    have c8 : w4.cell? ⟨w.heap.size + 1, 3, none⟩ = some (.int .i64 si) := hC.2.2.2.2.2.2.2.2.1
    have c9 : w4.cell? ⟨w.heap.size + 1, 4, none⟩ = some (.int .i64 la) := hC.2.2.2.2.2.2.2.2.2.1
    have c10 : w4.cell? ⟨w.heap.size + 1, 5, none⟩ = some (.int .i64 od) := hC.2.2.2.2.2.2.2.2.2.2.1
    have c11 : w4.cell? ⟨w.heap.size + 1 + 1, 0, none⟩ = some (.int .i64 op) := hC.2.2.2.2.2.2.2.2.2.2.2.1
    have c12 : w4.cell? ⟨w.heap.size + 1 + 1, 1, none⟩ = some (.int .i64 n) := hC.2.2.2.2.2.2.2.2.2.2.2.2.1
    have c13 : w4.cell? ⟨w.heap.size + 1 + 1 + 1, 0, none⟩ = some (.bool false) := hC.2.2.2.2.2.2.2.2.2.2.2.2.2.1
    have c14 : w4.cell? ⟨w.heap.size + 1 + 1 + 1, 1, none⟩ = some (.int .i64 0) := hC.2.2.2.2.2.2.2.2.2.2.2.2.2.2.1
    have c15 : w4.cell? ⟨w.heap.size + 1 + 1 + 1, 2, none⟩ = some (.int .i64 0) := hC.2.2.2.2.2.2.2.2.2.2.2.2.2.2.2.1
    have c16 : w4.cell? ⟨w.heap.size + 1 + 1 + 1, 3, none⟩ = some (.int .i64 0) := hC.2.2.2.2.2.2.2.2.2.2.2.2.2.2.2.2.1
    have c17 : w4.cell? ⟨w.heap.size + 1 + 1 + 1, 4, none⟩ = some (.int .i64 0) := hC.2.2.2.2.2.2.2.2.2.2.2.2.2.2.2.2.2.1
    have c18 : w4.cell? ⟨w.heap.size + 1 + 1 + 1, 5, none⟩ = some (.int .i64 0) := hC.2.2.2.2.2.2.2.2.2.2.2.2.2.2.2.2.2.2.1
    have c19 : w4.frozen? ⟨w.heap.size + 1 + 1 + 1, 0, none⟩ = false := hC.2.2.2.2.2.2.2.2.2.2.2.2.2.2.2.2.2.2.2.1
    have c20 : w4.frozen? ⟨w.heap.size + 1 + 1 + 1, 1, none⟩ = false := hC.2.2.2.2.2.2.2.2.2.2.2.2.2.2.2.2.2.2.2.2.1
    have c21 : w4.frozen? ⟨w.heap.size + 1 + 1 + 1, 2, none⟩ = false := hC.2.2.2.2.2.2.2.2.2.2.2.2.2.2.2.2.2.2.2.2.2.1
    have c22 : w4.frozen? ⟨w.heap.size + 1 + 1 + 1, 3, none⟩ = false := hC.2.2.2.2.2.2.2.2.2.2.2.2.2.2.2.2.2.2.2.2.2.2.1
    have c23 : w4.frozen? ⟨w.heap.size + 1 + 1 + 1, 4, none⟩ = false := hC.2.2.2.2.2.2.2.2.2.2.2.2.2.2.2.2.2.2.2.2.2.2.2.1
    have c24 : w4.frozen? ⟨w.heap.size + 1 + 1 + 1, 5, none⟩ = false := hC.2.2.2.2.2.2.2.2.2.2.2.2.2.2.2.2.2.2.2.2.2.2.2.2.1
    have c25 : Below w.heap.size w w4 := hC.2.2.2.2.2.2.2.2.2.2.2.2.2.2.2.2.2.2.2.2.2.2.2.2.2
    match j', ho with
    | 0, ho =>
      cases ho
      clear hw
      simp [mix]
      go_simp
      exact ⟨rfl, Below.refl _ _⟩
    | 1, ho =>
      cases ho
      clear hw
      simp [mix]
      go_simp
      exact ⟨rfl, Below.refl _ _⟩
    | 2, ho =>
      cases ho
      have y1 : vs 1 = _ := hw 1 (waits_of (by kernel_rfl))
      clear hw
      simp [mix, y1]
      go_simp
      refine (HS.out _ hB4).mono ?_
      rintro e w5 ⟨rfl, hM5, hb5⟩
      exact ⟨_, rfl, ⟨_, rfl, hM5⟩, hb5⟩
    | 3, ho =>
      cases ho
      have y0 : vs 0 = _ := hw 0 (waits_of (by kernel_rfl))
      refine Exists.elim (idY_2 (hw 2 (waits_of (by kernel_rfl)))) (fun q hq0 => ?_)
      have y2 := hq0.1
      have hq := hq0.2
      clear hq0
      clear hw
      simp [mix, y0, y2]
      go_simp
      exact ⟨⟨q, rfl, hq⟩, Below.refl _ _⟩
    | 4, ho =>
      cases ho
      clear hw
      simp [mix]
      go_simp
      exact ⟨⟨_, rfl, hBS, newBlkD _ _ rfl⟩, nbAlloc (Below.refl _ _) _⟩
    | 5, ho => exact absurd rfl hne
    | k + 6, ho => simp at ho
  · intro vs w4 hC hy
    have y0 : vs 0 = _ := hy 0 (by simp) (by simp)
    have y1 : vs 1 = _ := hy 1 (by simp) (by simp)
    refine Exists.elim (idY_2 (hy 2 (by simp) (by simp))) (fun q2 e2 => ?_)
    have y2 := e2.1
    refine Exists.elim (idY_3 (hy 3 (by simp) (by simp))) (fun q e3 => ?_)
    have y3 := e3.1
    have hM := e3.2
    refine Exists.elim (idY_4 (hy 4 (by simp) (by simp))) (fun p e4 => ?_)
    have y4 := e4.1
    have hp := e4.2.1
    have hblk := e4.2.2
    clear e2 e3 e4
    clear hy
    have r0 : w4.cell? ⟨p, 0, none⟩ = some (.int .i64 0) := by simp [World.cell?, hblk]
    have f0 : w4.frozen? ⟨p, 0, none⟩ = false := by simp [World.frozen?, hblk]
    have r1 : w4.cell? ⟨p, 1, none⟩ = some (.int .i64 0) := by simp [World.cell?, hblk]
    have f1 : w4.frozen? ⟨p, 1, none⟩ = false := by simp [World.frozen?, hblk]
    have r2 : w4.cell? ⟨p, 2, none⟩ = some (.int .i64 0) := by simp [World.cell?, hblk]
    have f2 : w4.frozen? ⟨p, 2, none⟩ = false := by simp [World.frozen?, hblk]
    have r3 : w4.cell? ⟨p, 3, none⟩ = some (.int .i64 0) := by simp [World.cell?, hblk]
    have f3 : w4.frozen? ⟨p, 3, none⟩ = false := by simp [World.frozen?, hblk]
    have r4 : w4.cell? ⟨p, 4, none⟩ = some (.int .i64 0) := by simp [World.cell?, hblk]
    have f4 : w4.frozen? ⟨p, 4, none⟩ = false := by simp [World.frozen?, hblk]
    have r5 : w4.cell? ⟨p, 5, none⟩ = some (.map none) := by simp [World.cell?, hblk]
    have f5 : w4.frozen? ⟨p, 5, none⟩ = false := by simp [World.frozen?, hblk]
    have hqp := hM.ne hblk
    have hT := turn6 (w := w4) (q := p) (v0 := .int .i64 s) (v1 := .int .i64 j) (v2 := .int .i64 m) (v3 := .int .i64 g) (v4 := .int .i64 o) (v5 := .map (some q))
    have S := set6 (v0 := .int .i64 s) (v1 := .int .i64 j) (v2 := .int .i64 m) (v3 := .int .i64 g) (v4 := .int .i64 o) (v5 := .map (some q)) r0 r1 r2 r3 r4 r5
    have hJ : jdC w s j m g o kn l h si la od op n p q len f a ((((((w4.setCell ⟨p, 0, none⟩ (.int .i64 s)).setCell ⟨p, 1, none⟩ (.int .i64 j)).setCell ⟨p, 2, none⟩ (.int .i64 m)).setCell ⟨p, 3, none⟩ (.int .i64 g)).setCell ⟨p, 4, none⟩ (.int .i64 o)).setCell ⟨p, 5, none⟩ (.map (some q))) := ⟨hT.cell (by omega) hC.1, hT.cell (by omega) hC.2.1, hT.cell (by omega) hC.2.2.1, hT.cell (by omega) hC.2.2.2.1, hT.cell (by omega) hC.2.2.2.2.1, hT.cell (by omega) hC.2.2.2.2.2.1, hT.cell (by omega) hC.2.2.2.2.2.2.1, hT.cell (by omega) hC.2.2.2.2.2.2.2.1, hT.cell (by omega) hC.2.2.2.2.2.2.2.2.1, hT.cell (by omega) hC.2.2.2.2.2.2.2.2.2.1, hT.cell (by omega) hC.2.2.2.2.2.2.2.2.2.2.1, hT.cell (by omega) hC.2.2.2.2.2.2.2.2.2.2.2.1, hT.cell (by omega) hC.2.2.2.2.2.2.2.2.2.2.2.2.1, hT.cell (by omega) hC.2.2.2.2.2.2.2.2.2.2.2.2.2.1, hT.cell (by omega) hC.2.2.2.2.2.2.2.2.2.2.2.2.2.2.1, hT.cell (by omega) hC.2.2.2.2.2.2.2.2.2.2.2.2.2.2.2.1, hT.cell (by omega) hC.2.2.2.2.2.2.2.2.2.2.2.2.2.2.2.2.1, hT.cell (by omega) hC.2.2.2.2.2.2.2.2.2.2.2.2.2.2.2.2.2.1, hT.cell (by omega) hC.2.2.2.2.2.2.2.2.2.2.2.2.2.2.2.2.2.2.1, hT.frozen (by omega) hC.2.2.2.2.2.2.2.2.2.2.2.2.2.1 hC.2.2.2.2.2.2.2.2.2.2.2.2.2.2.2.2.2.2.2.1, hT.frozen (by omega) hC.2.2.2.2.2.2.2.2.2.2.2.2.2.2.1 hC.2.2.2.2.2.2.2.2.2.2.2.2.2.2.2.2.2.2.2.2.1, hT.frozen (by omega) hC.2.2.2.2.2.2.2.2.2.2.2.2.2.2.2.1 hC.2.2.2.2.2.2.2.2.2.2.2.2.2.2.2.2.2.2.2.2.2.1, hT.frozen (by omega) hC.2.2.2.2.2.2.2.2.2.2.2.2.2.2.2.2.1 hC.2.2.2.2.2.2.2.2.2.2.2.2.2.2.2.2.2.2.2.2.2.2.1, hT.frozen (by omega) hC.2.2.2.2.2.2.2.2.2.2.2.2.2.2.2.2.2.1 hC.2.2.2.2.2.2.2.2.2.2.2.2.2.2.2.2.2.2.2.2.2.2.2.1, hT.frozen (by omega) hC.2.2.2.2.2.2.2.2.2.2.2.2.2.2.2.2.2.2.1 hC.2.2.2.2.2.2.2.2.2.2.2.2.2.2.2.2.2.2.2.2.2.2.2.2.1, S.1, S.2.1, S.2.2.1, S.2.2.2.1, S.2.2.2.2.1, S.2.2.2.2.2, hM.turns hT hqp, hT.below hC.2.2.2.2.2.2.2.2.2.2.2.2.2.2.2.2.2.2.2.2.2.2.2.2.2 (by omega)⟩
    refine ⟨?_⟩
    simp only [mix, y0, y1, y2, y3, y4]
    go_simp
    generalize ((((((w4.setCell ⟨p, 0, none⟩ (.int .i64 s)).setCell ⟨p, 1, none⟩ (.int .i64 j)).setCell ⟨p, 2, none⟩ (.int .i64 m)).setCell ⟨p, 3, none⟩ (.int .i64 g)).setCell ⟨p, 4, none⟩ (.int .i64 o)).setCell ⟨p, 5, none⟩ (.map (some q))) = w5 at *
    clear hT S r0 f0 r1 f1 r2 f2 r3 f3 r4 f4 r5 f5 hblk y0 y1 y2 y3 y4 hM hC
    go_wp2_with fail
    refine region_last (jdC w s j m g o kn l h si la od op n p q len f a) 7 rfl (by kernel_rfl) (by kernel_rfl) (by kernel_rfl) (jdC_on hJ (Below.drew (Below.refl _ _))) ?_
    apply Exists.intro
    refine ⟨fun hN => ?_, fun w9 h9 => ?_⟩
    · simp only [List.set_cons_succ, List.set_cons_zero, idle]
      have k0 : ∀ d : Kept (jdC w s j m g o kn l h si la od op n p q len f a), d.w.cell? ⟨w.heap.size, 0, none⟩ = some (.int .i64 s) := fun d => d.h.1
      have k1 : ∀ d : Kept (jdC w s j m g o kn l h si la od op n p q len f a), d.w.cell? ⟨w.heap.size, 1, none⟩ = some (.int .i64 j) := fun d => d.h.2.1
      have k2 : ∀ d : Kept (jdC w s j m g o kn l h si la od op n p q len f a), d.w.cell? ⟨w.heap.size, 2, none⟩ = some (.int .i64 m) := fun d => d.h.2.2.1
      have k3 : ∀ d : Kept (jdC w s j m g o kn l h si la od op n p q len f a), d.w.cell? ⟨w.heap.size, 3, none⟩ = some (.int .i64 g) := fun d => d.h.2.2.2.1
      have k4 : ∀ d : Kept (jdC w s j m g o kn l h si la od op n p q len f a), d.w.cell? ⟨w.heap.size, 4, none⟩ = some (.int .i64 o) := fun d => d.h.2.2.2.2.1
      have k5 : ∀ d : Kept (jdC w s j m g o kn l h si la od op n p q len f a), d.w.cell? ⟨w.heap.size + 1, 0, none⟩ = some (.bool kn) := fun d => d.h.2.2.2.2.2.1
      have k6 : ∀ d : Kept (jdC w s j m g o kn l h si la od op n p q len f a), d.w.cell? ⟨w.heap.size + 1, 1, none⟩ = some (.int .i64 l) := fun d => d.h.2.2.2.2.2.2.1
      have k7 : ∀ d : Kept (jdC w s j m g o kn l h si la od op n p q len f a), d.w.cell? ⟨w.heap.size + 1, 2, none⟩ = some (.int .i64 h) := fun d => d.h.2.2.2.2.2.2.2.1
      have k8 : ∀ d : Kept (jdC w s j m g o kn l h si la od op n p q len f a), d.w.cell? ⟨w.heap.size + 1, 3, none⟩ = some (.int .i64 si) := fun d => d.h.2.2.2.2.2.2.2.2.1
      have k9 : ∀ d : Kept (jdC w s j m g o kn l h si la od op n p q len f a), d.w.cell? ⟨w.heap.size + 1, 4, none⟩ = some (.int .i64 la) := fun d => d.h.2.2.2.2.2.2.2.2.2.1
      have k10 : ∀ d : Kept (jdC w s j m g o kn l h si la od op n p q len f a), d.w.cell? ⟨w.heap.size + 1, 5, none⟩ = some (.int .i64 od) := fun d => d.h.2.2.2.2.2.2.2.2.2.2.1
      have k11 : ∀ d : Kept (jdC w s j m g o kn l h si la od op n p q len f a), d.w.cell? ⟨w.heap.size + 1 + 1, 0, none⟩ = some (.int .i64 op) := fun d => d.h.2.2.2.2.2.2.2.2.2.2.2.1
      have k12 : ∀ d : Kept (jdC w s j m g o kn l h si la od op n p q len f a), d.w.cell? ⟨w.heap.size + 1 + 1, 1, none⟩ = some (.int .i64 n) := fun d => d.h.2.2.2.2.2.2.2.2.2.2.2.2.1
      have k13 : ∀ d : Kept (jdC w s j m g o kn l h si la od op n p q len f a), d.w.cell? ⟨w.heap.size + 1 + 1 + 1, 0, none⟩ = some (.bool false) := fun d => d.h.2.2.2.2.2.2.2.2.2.2.2.2.2.1
      have k14 : ∀ d : Kept (jdC w s j m g o kn l h si la od op n p q len f a), d.w.cell? ⟨w.heap.size + 1 + 1 + 1, 1, none⟩ = some (.int .i64 0) := fun d => d.h.2.2.2.2.2.2.2.2.2.2.2.2.2.2.1
      have k15 : ∀ d : Kept (jdC w s j m g o kn l h si la od op n p q len f a), d.w.cell? ⟨w.heap.size + 1 + 1 + 1, 2, none⟩ = some (.int .i64 0) := fun d => d.h.2.2.2.2.2.2.2.2.2.2.2.2.2.2.2.1
      have k16 : ∀ d : Kept (jdC w s j m g o kn l h si la od op n p q len f a), d.w.cell? ⟨w.heap.size + 1 + 1 + 1, 3, none⟩ = some (.int .i64 0) := fun d => d.h.2.2.2.2.2.2.2.2.2.2.2.2.2.2.2.2.1
      have k17 : ∀ d : Kept (jdC w s j m g o kn l h si la od op n p q len f a), d.w.cell? ⟨w.heap.size + 1 + 1 + 1, 4, none⟩ = some (.int .i64 0) := fun d => d.h.2.2.2.2.2.2.2.2.2.2.2.2.2.2.2.2.2.1
      have k18 : ∀ d : Kept (jdC w s j m g o kn l h si la od op n p q len f a), d.w.cell? ⟨w.heap.size + 1 + 1 + 1, 5, none⟩ = some (.int .i64 0) := fun d => d.h.2.2.2.2.2.2.2.2.2.2.2.2.2.2.2.2.2.2.1
      have k25 : ∀ d : Kept (jdC w s j m g o kn l h si la od op n p q len f a), d.w.cell? ⟨p, 0, none⟩ = some (.int .i64 s) := fun d => d.h.2.2.2.2.2.2.2.2.2.2.2.2.2.2.2.2.2.2.2.2.2.2.2.2.2.1
      have k26 : ∀ d : Kept (jdC w s j m g o kn l h si la od op n p q len f a), d.w.cell? ⟨p, 1, none⟩ = some (.int .i64 j) := fun d => d.h.2.2.2.2.2.2.2.2.2.2.2.2.2.2.2.2.2.2.2.2.2.2.2.2.2.2.1
      have k27 : ∀ d : Kept (jdC w s j m g o kn l h si la od op n p q len f a), d.w.cell? ⟨p, 2, none⟩ = some (.int .i64 m) := fun d => d.h.2.2.2.2.2.2.2.2.2.2.2.2.2.2.2.2.2.2.2.2.2.2.2.2.2.2.2.1
      have k28 : ∀ d : Kept (jdC w s j m g o kn l h si la od op n p q len f a), d.w.cell? ⟨p, 3, none⟩ = some (.int .i64 g) := fun d => d.h.2.2.2.2.2.2.2.2.2.2.2.2.2.2.2.2.2.2.2.2.2.2.2.2.2.2.2.2.1
      have k29 : ∀ d : Kept (jdC w s j m g o kn l h si la od op n p q len f a), d.w.cell? ⟨p, 4, none⟩ = some (.int .i64 o) := fun d => d.h.2.2.2.2.2.2.2.2.2.2.2.2.2.2.2.2.2.2.2.2.2.2.2.2.2.2.2.2.2.1
      have k30 : ∀ d : Kept (jdC w s j m g o kn l h si la od op n p q len f a), d.w.cell? ⟨p, 5, none⟩ = some (.map (some q)) := fun d => d.h.2.2.2.2.2.2.2.2.2.2.2.2.2.2.2.2.2.2.2.2.2.2.2.2.2.2.2.2.2.2.1
      have kM : ∀ d : Kept (jdC w s j m g o kn l h si la od op n p q len f a), MapAt d.w q len f a := fun d => d.h.2.2.2.2.2.2.2.2.2.2.2.2.2.2.2.2.2.2.2.2.2.2.2.2.2.2.2.2.2.2.2.1
      repeat (go_big_quiet_step (first | (go_at_call 40; exact call_kept _ jdC_on (beliefOf_c ⟨kn, l, h, si, la, od⟩ _)) | (go_at_call 41; exact call_kept _ jdC_on (happeningOf_c _ _ _)) | (go_at_call 39; exact call_kept _ jdC_on (hA.out q _ (kM _))) | (go_at_call 42; exact call_kept _ jdC_on (stateOf_c D _))))
      exact wpQuiet_nil rfl
    have c0 : w9.cell? ⟨w.heap.size, 0, none⟩ = some (.int .i64 s) := h9.1
    have c1 : w9.cell? ⟨w.heap.size, 1, none⟩ = some (.int .i64 j) := h9.2.1
    have c2 : w9.cell? ⟨w.heap.size, 2, none⟩ = some (.int .i64 m) := h9.2.2.1
    have c3 : w9.cell? ⟨w.heap.size, 3, none⟩ = some (.int .i64 g) := h9.2.2.2.1
    have c4 : w9.cell? ⟨w.heap.size, 4, none⟩ = some (.int .i64 o) := h9.2.2.2.2.1
    have c5 : w9.cell? ⟨w.heap.size + 1, 0, none⟩ = some (.bool kn) := h9.2.2.2.2.2.1
    have c6 : w9.cell? ⟨w.heap.size + 1, 1, none⟩ = some (.int .i64 l) := h9.2.2.2.2.2.2.1
    have c7 : w9.cell? ⟨w.heap.size + 1, 2, none⟩ = some (.int .i64 h) := h9.2.2.2.2.2.2.2.1
    have c8 : w9.cell? ⟨w.heap.size + 1, 3, none⟩ = some (.int .i64 si) := h9.2.2.2.2.2.2.2.2.1
    have c9 : w9.cell? ⟨w.heap.size + 1, 4, none⟩ = some (.int .i64 la) := h9.2.2.2.2.2.2.2.2.2.1
    have c10 : w9.cell? ⟨w.heap.size + 1, 5, none⟩ = some (.int .i64 od) := h9.2.2.2.2.2.2.2.2.2.2.1
    have c11 : w9.cell? ⟨w.heap.size + 1 + 1, 0, none⟩ = some (.int .i64 op) := h9.2.2.2.2.2.2.2.2.2.2.2.1
    have c12 : w9.cell? ⟨w.heap.size + 1 + 1, 1, none⟩ = some (.int .i64 n) := h9.2.2.2.2.2.2.2.2.2.2.2.2.1
    have c13 : w9.cell? ⟨w.heap.size + 1 + 1 + 1, 0, none⟩ = some (.bool false) := h9.2.2.2.2.2.2.2.2.2.2.2.2.2.1
    have c14 : w9.cell? ⟨w.heap.size + 1 + 1 + 1, 1, none⟩ = some (.int .i64 0) := h9.2.2.2.2.2.2.2.2.2.2.2.2.2.2.1
    have c15 : w9.cell? ⟨w.heap.size + 1 + 1 + 1, 2, none⟩ = some (.int .i64 0) := h9.2.2.2.2.2.2.2.2.2.2.2.2.2.2.2.1
    have c16 : w9.cell? ⟨w.heap.size + 1 + 1 + 1, 3, none⟩ = some (.int .i64 0) := h9.2.2.2.2.2.2.2.2.2.2.2.2.2.2.2.2.1
    have c17 : w9.cell? ⟨w.heap.size + 1 + 1 + 1, 4, none⟩ = some (.int .i64 0) := h9.2.2.2.2.2.2.2.2.2.2.2.2.2.2.2.2.2.1
    have c18 : w9.cell? ⟨w.heap.size + 1 + 1 + 1, 5, none⟩ = some (.int .i64 0) := h9.2.2.2.2.2.2.2.2.2.2.2.2.2.2.2.2.2.2.1
    have c19 : w9.frozen? ⟨w.heap.size + 1 + 1 + 1, 0, none⟩ = false := h9.2.2.2.2.2.2.2.2.2.2.2.2.2.2.2.2.2.2.2.1
    have c20 : w9.frozen? ⟨w.heap.size + 1 + 1 + 1, 1, none⟩ = false := h9.2.2.2.2.2.2.2.2.2.2.2.2.2.2.2.2.2.2.2.2.1
    have c21 : w9.frozen? ⟨w.heap.size + 1 + 1 + 1, 2, none⟩ = false := h9.2.2.2.2.2.2.2.2.2.2.2.2.2.2.2.2.2.2.2.2.2.1
    have c22 : w9.frozen? ⟨w.heap.size + 1 + 1 + 1, 3, none⟩ = false := h9.2.2.2.2.2.2.2.2.2.2.2.2.2.2.2.2.2.2.2.2.2.2.1
    have c23 : w9.frozen? ⟨w.heap.size + 1 + 1 + 1, 4, none⟩ = false := h9.2.2.2.2.2.2.2.2.2.2.2.2.2.2.2.2.2.2.2.2.2.2.2.1
    have c24 : w9.frozen? ⟨w.heap.size + 1 + 1 + 1, 5, none⟩ = false := h9.2.2.2.2.2.2.2.2.2.2.2.2.2.2.2.2.2.2.2.2.2.2.2.2.1
    have c25 : w9.cell? ⟨p, 0, none⟩ = some (.int .i64 s) := h9.2.2.2.2.2.2.2.2.2.2.2.2.2.2.2.2.2.2.2.2.2.2.2.2.2.1
    have c26 : w9.cell? ⟨p, 1, none⟩ = some (.int .i64 j) := h9.2.2.2.2.2.2.2.2.2.2.2.2.2.2.2.2.2.2.2.2.2.2.2.2.2.2.1
    have c27 : w9.cell? ⟨p, 2, none⟩ = some (.int .i64 m) := h9.2.2.2.2.2.2.2.2.2.2.2.2.2.2.2.2.2.2.2.2.2.2.2.2.2.2.2.1
    have c28 : w9.cell? ⟨p, 3, none⟩ = some (.int .i64 g) := h9.2.2.2.2.2.2.2.2.2.2.2.2.2.2.2.2.2.2.2.2.2.2.2.2.2.2.2.2.1
    have c29 : w9.cell? ⟨p, 4, none⟩ = some (.int .i64 o) := h9.2.2.2.2.2.2.2.2.2.2.2.2.2.2.2.2.2.2.2.2.2.2.2.2.2.2.2.2.2.1
    have c30 : w9.cell? ⟨p, 5, none⟩ = some (.map (some q)) := h9.2.2.2.2.2.2.2.2.2.2.2.2.2.2.2.2.2.2.2.2.2.2.2.2.2.2.2.2.2.2.1
    have c31 : MapAt w9 q len f a := h9.2.2.2.2.2.2.2.2.2.2.2.2.2.2.2.2.2.2.2.2.2.2.2.2.2.2.2.2.2.2.2.1
    have c32 : Below w.heap.size w w9 := h9.2.2.2.2.2.2.2.2.2.2.2.2.2.2.2.2.2.2.2.2.2.2.2.2.2.2.2.2.2.2.2.2
    simp only [St.v]
    go_simp
    go_wp2_with fail
    have hq3 : w.heap.size ≤ w.heap.size + 1 + 1 + 1 := by omega
    exact bodyPost_ret (v := .agg #[.bool D.kn, .int .i64 D.l, .int .i64 D.h, .int .i64 D.si, .int .i64 D.la, .int .i64 D.od]) (by simp [results, Try.results13, go_sem, *]) rfl ⟨rfl, (nbSetX (nbSetX (nbSetX (nbSetX (nbSetX (nbSetX c32 hq3) hq3) hq3) hq3) hq3) hq3)⟩

end Go.Proofs.Ytmhppadblddjoaa
