import Derived.Test.YtmhppadblddjoaaDoorZTrueMkOk
import Derived.Test.YtmhppadblddjoaaDoorZTrueW4
import Derived.Test.YtmhppadblddjoaaDoorZTrueW7
/- Chapter 3 of the specification: the body. -/
namespace Go.Proofs.YtmhppadblddjoaaDoor
open Go.RowKit

/-- What is believed can be asked of a body. -/
def q3 (s j m g o : Int) (kn : Bool) (l h : Int) : Bool := rOk s j m g o && kn && bOk l h

def s3B (w : World) (s j m g o : Int) (kn : Bool) (l h si la od : Int) : World → Prop := fun w' => w'.cell? ⟨w.heap.size, 0, none⟩ = some (.int .i64 s) ∧ w'.cell? ⟨w.heap.size, 1, none⟩ = some (.int .i64 j) ∧ w'.cell? ⟨w.heap.size, 2, none⟩ = some (.int .i64 m) ∧ w'.cell? ⟨w.heap.size, 3, none⟩ = some (.int .i64 g) ∧ w'.cell? ⟨w.heap.size, 4, none⟩ = some (.int .i64 o) ∧ w'.cell? ⟨w.heap.size + 1, 0, none⟩ = some (.bool kn) ∧ w'.cell? ⟨w.heap.size + 1, 1, none⟩ = some (.int .i64 l) ∧ w'.cell? ⟨w.heap.size + 1, 2, none⟩ = some (.int .i64 h) ∧ w'.cell? ⟨w.heap.size + 1, 3, none⟩ = some (.int .i64 si) ∧ w'.cell? ⟨w.heap.size + 1, 4, none⟩ = some (.int .i64 la) ∧ w'.cell? ⟨w.heap.size + 1, 5, none⟩ = some (.int .i64 od) ∧ w'.cell? ⟨w.heap.size + 1 + 1, 0, none⟩ = some (.int .i64 0) ∧ w'.cell? ⟨w.heap.size + 1 + 1, 1, none⟩ = some (.int .i64 0) ∧ w'.frozen? ⟨w.heap.size + 1 + 1, 0, none⟩ = false ∧ w'.frozen? ⟨w.heap.size + 1 + 1, 1, none⟩ = false ∧ Below w.heap.size w w'
theorem s3B_on {w : World} {s j m g o : Int} {kn : Bool} {l h si la od : Int} {w1 w2 : World} (hh : s3B w s j m g o kn l h si la od w1) (hb : Below w1.heap.size w1 w2) : s3B w s j m g o kn l h si la od w2 :=
  ⟨cellOn hb hh.1, cellOn hb hh.2.1, cellOn hb hh.2.2.1, cellOn hb hh.2.2.2.1, cellOn hb hh.2.2.2.2.1, cellOn hb hh.2.2.2.2.2.1, cellOn hb hh.2.2.2.2.2.2.1, cellOn hb hh.2.2.2.2.2.2.2.1, cellOn hb hh.2.2.2.2.2.2.2.2.1, cellOn hb hh.2.2.2.2.2.2.2.2.2.1, cellOn hb hh.2.2.2.2.2.2.2.2.2.2.1, cellOn hb hh.2.2.2.2.2.2.2.2.2.2.2.1, cellOn hb hh.2.2.2.2.2.2.2.2.2.2.2.2.1, frozenOn hb hh.2.2.2.2.2.2.2.2.2.2.2.1 hh.2.2.2.2.2.2.2.2.2.2.2.2.2.1, frozenOn hb hh.2.2.2.2.2.2.2.2.2.2.2.2.1 hh.2.2.2.2.2.2.2.2.2.2.2.2.2.2.1, nbTrans hh.2.2.2.2.2.2.2.2.2.2.2.2.2.2.2 hb⟩

theorem q3_parts {s j m g o : Int} {kn : Bool} {l h : Int} (hq : q3 s j m g o kn l h = true) : 1 ≤ g ∧ g ≤ 1000000 ∧ 0 ≤ o ∧ o ≤ 10000 ∧ -100000000 ≤ l ∧ l ≤ h ∧ h ≤ 100000000 := by
  simp only [q3, rOk, bOk, inB, Bool.and_eq_true, decide_eq_true_eq] at hq
  omega

def holdsA (s j m g o : Int) (kn : Bool) (l h : Int) : Int × Int := if q3 s j m g o kn l h then (l - g - o, h) else (1, 0)
def pastA (s j m g o : Int) (kn : Bool) (l h c : Int) : Int := if q3 s j m g o kn l h && inB c (-100000000) 100000000 then (if h < c then -1 else if c < l - g - o then 1 else 0) else 0
def surelyA (s j m g o : Int) (kn : Bool) (l h : Int) : Int × Int := if q3 s j m g o kn l h then (let lo := if g < o then h else h - g + o; if l < lo then (1, 0) else (lo, l)) else (1, 0)
end Go.Proofs.YtmhppadblddjoaaDoor

