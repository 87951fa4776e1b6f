/- Chapter 3 of the specification: the body. -/
import Derived.Test.YtmhppadblddjoabEv
import Derived.Test.YtmhppadblddjoabW4
import Derived.Test.YtmhppadblddjoabW7
namespace Go.Proofs.Ytmhppadblddjoab
open Go.RowKit

/-- What is believed can be asked of a body. -/
def q3 (s j m g o : Int) (kn : Bool) (l h : Int) : Bool := rOk s j m g o && kn && bOk l h

def s3I (w : World) (s j m g o : Int) (kn : Bool) (l h si la od : Int) : World → Prop := fun w' => w'.cell? ⟨w.heap.size, 0, none⟩ = some (.int .i64 s) ∧ w'.cell? ⟨w.heap.size, 1, none⟩ = some (.int .i64 j) ∧ w'.cell? ⟨w.heap.size, 2, none⟩ = some (.int .i64 m) ∧ w'.cell? ⟨w.heap.size, 3, none⟩ = some (.int .i64 g) ∧ w'.cell? ⟨w.heap.size, 4, none⟩ = some (.int .i64 o) ∧ w'.cell? ⟨w.heap.size + 1, 0, none⟩ = some (.bool kn) ∧ w'.cell? ⟨w.heap.size + 1, 1, none⟩ = some (.int .i64 l) ∧ w'.cell? ⟨w.heap.size + 1, 2, none⟩ = some (.int .i64 h) ∧ w'.cell? ⟨w.heap.size + 1, 3, none⟩ = some (.int .i64 si) ∧ w'.cell? ⟨w.heap.size + 1, 4, none⟩ = some (.int .i64 la) ∧ w'.cell? ⟨w.heap.size + 1, 5, none⟩ = some (.int .i64 od) ∧ Below w.heap.size w w'
theorem s3I_on {w : World} {s j m g o : Int} {kn : Bool} {l h si la od : Int} {w1 w2 : World} (hh : s3I w s j m g o kn l h si la od w1) (hb : Below w1.heap.size w1 w2) : s3I w s j m g o kn l h si la od w2 :=
  ⟨cellOn hb hh.1, cellOn hb hh.2.1, cellOn hb hh.2.2.1, cellOn hb hh.2.2.2.1, cellOn hb hh.2.2.2.2.1, cellOn hb hh.2.2.2.2.2.1, cellOn hb hh.2.2.2.2.2.2.1, cellOn hb hh.2.2.2.2.2.2.2.1, cellOn hb hh.2.2.2.2.2.2.2.2.1, cellOn hb hh.2.2.2.2.2.2.2.2.2.1, cellOn hb hh.2.2.2.2.2.2.2.2.2.2.1, nbTrans hh.2.2.2.2.2.2.2.2.2.2.2 hb⟩

def s3B (w : World) (s j m g o : Int) (kn : Bool) (l h si la od : Int) : World → Prop := fun w' => w'.cell? ⟨w.heap.size, 0, none⟩ = some (.int .i64 s) ∧ w'.cell? ⟨w.heap.size, 1, none⟩ = some (.int .i64 j) ∧ w'.cell? ⟨w.heap.size, 2, none⟩ = some (.int .i64 m) ∧ w'.cell? ⟨w.heap.size, 3, none⟩ = some (.int .i64 g) ∧ w'.cell? ⟨w.heap.size, 4, none⟩ = some (.int .i64 o) ∧ w'.cell? ⟨w.heap.size + 1, 0, none⟩ = some (.bool kn) ∧ w'.cell? ⟨w.heap.size + 1, 1, none⟩ = some (.int .i64 l) ∧ w'.cell? ⟨w.heap.size + 1, 2, none⟩ = some (.int .i64 h) ∧ w'.cell? ⟨w.heap.size + 1, 3, none⟩ = some (.int .i64 si) ∧ w'.cell? ⟨w.heap.size + 1, 4, none⟩ = some (.int .i64 la) ∧ w'.cell? ⟨w.heap.size + 1, 5, none⟩ = some (.int .i64 od) ∧ w'.cell? ⟨w.heap.size + 1 + 1, 0, none⟩ = some (.int .i64 0) ∧ w'.cell? ⟨w.heap.size + 1 + 1, 1, none⟩ = some (.int .i64 0) ∧ w'.frozen? ⟨w.heap.size + 1 + 1, 0, none⟩ = false ∧ w'.frozen? ⟨w.heap.size + 1 + 1, 1, none⟩ = false ∧ Below w.heap.size w w'
theorem s3B_on {w : World} {s j m g o : Int} {kn : Bool} {l h si la od : Int} {w1 w2 : World} (hh : s3B w s j m g o kn l h si la od w1) (hb : Below w1.heap.size w1 w2) : s3B w s j m g o kn l h si la od w2 :=
  ⟨cellOn hb hh.1, cellOn hb hh.2.1, cellOn hb hh.2.2.1, cellOn hb hh.2.2.2.1, cellOn hb hh.2.2.2.2.1, cellOn hb hh.2.2.2.2.2.1, cellOn hb hh.2.2.2.2.2.2.1, cellOn hb hh.2.2.2.2.2.2.2.1, cellOn hb hh.2.2.2.2.2.2.2.2.1, cellOn hb hh.2.2.2.2.2.2.2.2.2.1, cellOn hb hh.2.2.2.2.2.2.2.2.2.2.1, cellOn hb hh.2.2.2.2.2.2.2.2.2.2.2.1, cellOn hb hh.2.2.2.2.2.2.2.2.2.2.2.2.1, frozenOn hb hh.2.2.2.2.2.2.2.2.2.2.2.1 hh.2.2.2.2.2.2.2.2.2.2.2.2.2.1, frozenOn hb hh.2.2.2.2.2.2.2.2.2.2.2.2.1 hh.2.2.2.2.2.2.2.2.2.2.2.2.2.2.1, nbTrans hh.2.2.2.2.2.2.2.2.2.2.2.2.2.2.2 hb⟩

set_option maxHeartbeats 1000000 in
theorem l3state_c (s j m g o : Int) (kn : Bool) (l h si la od : Int) (w : World) :
    Calls Try.prog 84 #[.agg #[.int .i64 s, .int .i64 j, .int .i64 m, .int .i64 g, .int .i64 o], .agg #[.bool kn, .int .i64 l, .int .i64 h, .int .i64 si, .int .i64 la, .int .i64 od]] w fun e w' => e = .returned (.bool (q3 s j m g o kn l h)) ∧ Below w.heap.size w w' := by
  cases hr : rOk s j m g o
  case false =>
    go_enter Try.func84, Try.ntmps84
    go_wp2_with fail
    refine (specRulesOk_c _ _ _ _ _ _).mono ?_
    rintro e w1 ⟨rfl, hb1⟩
    have hC1 : s3I w s j m g o kn l h si la od w1 := ⟨cellOn hb1 (by go_simp), cellOn hb1 (by go_simp), cellOn hb1 (by go_simp), cellOn hb1 (by go_simp), cellOn hb1 (by go_simp), cellOn hb1 (by go_simp), cellOn hb1 (by go_simp), cellOn hb1 (by go_simp), cellOn hb1 (by go_simp), cellOn hb1 (by go_simp), cellOn hb1 (by go_simp), nbTrans (nbAlloc (nbAlloc (Below.refl _ _) _) _) hb1⟩
    have c0 : w1.cell? ⟨w.heap.size, 0, none⟩ = some (.int .i64 s) := hC1.1
    have c1 : w1.cell? ⟨w.heap.size, 1, none⟩ = some (.int .i64 j) := hC1.2.1
    have c2 : w1.cell? ⟨w.heap.size, 2, none⟩ = some (.int .i64 m) := hC1.2.2.1
    have c3 : w1.cell? ⟨w.heap.size, 3, none⟩ = some (.int .i64 g) := hC1.2.2.2.1
    have c4 : w1.cell? ⟨w.heap.size, 4, none⟩ = some (.int .i64 o) := hC1.2.2.2.2.1
    have c5 : w1.cell? ⟨w.heap.size + 1, 0, none⟩ = some (.bool kn) := hC1.2.2.2.2.2.1
    have c6 : w1.cell? ⟨w.heap.size + 1, 1, none⟩ = some (.int .i64 l) := hC1.2.2.2.2.2.2.1
    have c7 : w1.cell? ⟨w.heap.size + 1, 2, none⟩ = some (.int .i64 h) := hC1.2.2.2.2.2.2.2.1
    have c8 : w1.cell? ⟨w.heap.size + 1, 3, none⟩ = some (.int .i64 si) := hC1.2.2.2.2.2.2.2.2.1
    have c9 : w1.cell? ⟨w.heap.size + 1, 4, none⟩ = some (.int .i64 la) := hC1.2.2.2.2.2.2.2.2.2.1
    have c10 : w1.cell? ⟨w.heap.size + 1, 5, none⟩ = some (.int .i64 od) := hC1.2.2.2.2.2.2.2.2.2.2.1
    have c11 : Below w.heap.size w w1 := hC1.2.2.2.2.2.2.2.2.2.2.2
    go_wp2_with fail
    go_ret
    exact ⟨retB (by simp [q3, hr]), c11⟩
  cases kn
  case false =>
    go_enter Try.func84, Try.ntmps84
    go_wp2_with fail
    refine (specRulesOk_c _ _ _ _ _ _).mono ?_
    rintro e w1 ⟨rfl, hb1⟩
    have hC1 : s3I w s j m g o false l h si la od w1 := ⟨cellOn hb1 (by go_simp), cellOn hb1 (by go_simp), cellOn hb1 (by go_simp), cellOn hb1 (by go_simp), cellOn hb1 (by go_simp), cellOn hb1 (by go_simp), cellOn hb1 (by go_simp), cellOn hb1 (by go_simp), cellOn hb1 (by go_simp), cellOn hb1 (by go_simp), cellOn hb1 (by go_simp), nbTrans (nbAlloc (nbAlloc (Below.refl _ _) _) _) hb1⟩
    have c0 : w1.cell? ⟨w.heap.size, 0, none⟩ = some (.int .i64 s) := hC1.1
    have c1 : w1.cell? ⟨w.heap.size, 1, none⟩ = some (.int .i64 j) := hC1.2.1
    have c2 : w1.cell? ⟨w.heap.size, 2, none⟩ = some (.int .i64 m) := hC1.2.2.1
    have c3 : w1.cell? ⟨w.heap.size, 3, none⟩ = some (.int .i64 g) := hC1.2.2.2.1
    have c4 : w1.cell? ⟨w.heap.size, 4, none⟩ = some (.int .i64 o) := hC1.2.2.2.2.1
    have c5 : w1.cell? ⟨w.heap.size + 1, 0, none⟩ = some (.bool false) := hC1.2.2.2.2.2.1
    have c6 : w1.cell? ⟨w.heap.size + 1, 1, none⟩ = some (.int .i64 l) := hC1.2.2.2.2.2.2.1
    have c7 : w1.cell? ⟨w.heap.size + 1, 2, none⟩ = some (.int .i64 h) := hC1.2.2.2.2.2.2.2.1
    have c8 : w1.cell? ⟨w.heap.size + 1, 3, none⟩ = some (.int .i64 si) := hC1.2.2.2.2.2.2.2.2.1
    have c9 : w1.cell? ⟨w.heap.size + 1, 4, none⟩ = some (.int .i64 la) := hC1.2.2.2.2.2.2.2.2.2.1
    have c10 : w1.cell? ⟨w.heap.size + 1, 5, none⟩ = some (.int .i64 od) := hC1.2.2.2.2.2.2.2.2.2.2.1
    have c11 : Below w.heap.size w w1 := hC1.2.2.2.2.2.2.2.2.2.2.2
    go_wp2_with fail
    go_ret
    exact ⟨retB (by simp [q3]), c11⟩
  go_enter Try.func84, Try.ntmps84
  go_wp2_with fail
  refine (specRulesOk_c _ _ _ _ _ _).mono ?_
  rintro e w1 ⟨rfl, hb1⟩
  have hC1 : s3I w s j m g o true l h si la od w1 := ⟨cellOn hb1 (by go_simp), cellOn hb1 (by go_simp), cellOn hb1 (by go_simp), cellOn hb1 (by go_simp), cellOn hb1 (by go_simp), cellOn hb1 (by go_simp), cellOn hb1 (by go_simp), cellOn hb1 (by go_simp), cellOn hb1 (by go_simp), cellOn hb1 (by go_simp), cellOn hb1 (by go_simp), nbTrans (nbAlloc (nbAlloc (Below.refl _ _) _) _) hb1⟩
  have c0 : w1.cell? ⟨w.heap.size, 0, none⟩ = some (.int .i64 s) := hC1.1
  have c1 : w1.cell? ⟨w.heap.size, 1, none⟩ = some (.int .i64 j) := hC1.2.1
  have c2 : w1.cell? ⟨w.heap.size, 2, none⟩ = some (.int .i64 m) := hC1.2.2.1
  have c3 : w1.cell? ⟨w.heap.size, 3, none⟩ = some (.int .i64 g) := hC1.2.2.2.1
  have c4 : w1.cell? ⟨w.heap.size, 4, none⟩ = some (.int .i64 o) := hC1.2.2.2.2.1
  have c5 : w1.cell? ⟨w.heap.size + 1, 0, none⟩ = some (.bool true) := hC1.2.2.2.2.2.1
  have c6 : w1.cell? ⟨w.heap.size + 1, 1, none⟩ = some (.int .i64 l) := hC1.2.2.2.2.2.2.1
  have c7 : w1.cell? ⟨w.heap.size + 1, 2, none⟩ = some (.int .i64 h) := hC1.2.2.2.2.2.2.2.1
  have c8 : w1.cell? ⟨w.heap.size + 1, 3, none⟩ = some (.int .i64 si) := hC1.2.2.2.2.2.2.2.2.1
  have c9 : w1.cell? ⟨w.heap.size + 1, 4, none⟩ = some (.int .i64 la) := hC1.2.2.2.2.2.2.2.2.2.1
  have c10 : w1.cell? ⟨w.heap.size + 1, 5, none⟩ = some (.int .i64 od) := hC1.2.2.2.2.2.2.2.2.2.2.1
  have c11 : Below w.heap.size w w1 := hC1.2.2.2.2.2.2.2.2.2.2.2
  go_wp2_with fail
  refine (specBoundOk_c _ _ _).mono ?_
  rintro e w2 ⟨rfl, hb2⟩
  go_wp2_with fail
  go_ret
  exact ⟨retB (by simp [q3, hr]), nbTrans c11 hb2⟩

theorem q3_parts {s j m g o : Int} {kn : Bool} {l h : Int} (hq : q3 s j m g o kn l h = true) : 1 ≤ g ∧ g ≤ 1000000 ∧ 0 ≤ o ∧ o ≤ 10000 ∧ -100000000 ≤ l ∧ l ≤ h ∧ h ≤ 100000000 := by
  simp only [q3, rOk, bOk, inB, Bool.and_eq_true, decide_eq_true_eq] at hq
  omega

def holdsA (s j m g o : Int) (kn : Bool) (l h : Int) : Int × Int := if q3 s j m g o kn l h then (l - g - o, h) else (1, 0)
set_option maxHeartbeats 1000000 in
theorem specHolds_c (s j m g o : Int) (kn : Bool) (l h si la od : Int) (w : World) :
    Calls Try.prog 44 #[.agg #[.int .i64 s, .int .i64 j, .int .i64 m, .int .i64 g, .int .i64 o], .agg #[.bool kn, .int .i64 l, .int .i64 h, .int .i64 si, .int .i64 la, .int .i64 od]] w fun e w' => e = .returned (.agg #[.int .i64 (holdsA s j m g o kn l h).1, .int .i64 (holdsA s j m g o kn l h).2]) ∧ Below w.heap.size w w' := by
  cases hq : q3 s j m g o kn l h
  · have e1 : holdsA s j m g o kn l h = (1, 0) := by simp [holdsA, hq]
    rw [e1]
    go_enter Try.func44, Try.ntmps44
    go_wp2_with fail
    refine (l3state_c _ _ _ _ _ _ _ _ _ _ _ _).mono ?_
    rintro e w1 ⟨rfl, hb1⟩
    have hC1 : s3B w s j m g o kn l h si la od w1 := ⟨cellOn hb1 (by go_simp), cellOn hb1 (by go_simp), cellOn hb1 (by go_simp), cellOn hb1 (by go_simp), cellOn hb1 (by go_simp), cellOn hb1 (by go_simp), cellOn hb1 (by go_simp), cellOn hb1 (by go_simp), cellOn hb1 (by go_simp), cellOn hb1 (by go_simp), cellOn hb1 (by go_simp), cellOn hb1 (by go_simp), cellOn hb1 (by go_simp), frozenOn hb1 (v := .int .i64 0) (by go_simp) (by go_simp), frozenOn hb1 (v := .int .i64 0) (by go_simp) (by go_simp), nbTrans (nbAlloc (nbAlloc (nbAlloc (Below.refl _ _) _) _) _) hb1⟩
    have c0 : w1.cell? ⟨w.heap.size, 0, none⟩ = some (.int .i64 s) := hC1.1
    have c1 : w1.cell? ⟨w.heap.size, 1, none⟩ = some (.int .i64 j) := hC1.2.1
    have c2 : w1.cell? ⟨w.heap.size, 2, none⟩ = some (.int .i64 m) := hC1.2.2.1
    have c3 : w1.cell? ⟨w.heap.size, 3, none⟩ = some (.int .i64 g) := hC1.2.2.2.1
    have c4 : w1.cell? ⟨w.heap.size, 4, none⟩ = some (.int .i64 o) := hC1.2.2.2.2.1
    have c5 : w1.cell? ⟨w.heap.size + 1, 0, none⟩ = some (.bool kn) := hC1.2.2.2.2.2.1
    have c6 : w1.cell? ⟨w.heap.size + 1, 1, none⟩ = some (.int .i64 l) := hC1.2.2.2.2.2.2.1
    have c7 : w1.cell? ⟨w.heap.size + 1, 2, none⟩ = some (.int .i64 h) := hC1.2.2.2.2.2.2.2.1
    have c8 : w1.cell? ⟨w.heap.size + 1, 3, none⟩ = some (.int .i64 si) := hC1.2.2.2.2.2.2.2.2.1
    have c9 : w1.cell? ⟨w.heap.size + 1, 4, none⟩ = some (.int .i64 la) := hC1.2.2.2.2.2.2.2.2.2.1
    have c10 : w1.cell? ⟨w.heap.size + 1, 5, none⟩ = some (.int .i64 od) := hC1.2.2.2.2.2.2.2.2.2.2.1
    have c11 : w1.cell? ⟨w.heap.size + 1 + 1, 0, none⟩ = some (.int .i64 0) := hC1.2.2.2.2.2.2.2.2.2.2.2.1
    have c12 : w1.cell? ⟨w.heap.size + 1 + 1, 1, none⟩ = some (.int .i64 0) := hC1.2.2.2.2.2.2.2.2.2.2.2.2.1
    have c13 : w1.frozen? ⟨w.heap.size + 1 + 1, 0, none⟩ = false := hC1.2.2.2.2.2.2.2.2.2.2.2.2.2.1
    have c14 : w1.frozen? ⟨w.heap.size + 1 + 1, 1, none⟩ = false := hC1.2.2.2.2.2.2.2.2.2.2.2.2.2.2.1
    have c15 : Below w.heap.size w w1 := hC1.2.2.2.2.2.2.2.2.2.2.2.2.2.2.2
    go_wp2_with fail
    have hq2 : w.heap.size ≤ w.heap.size + 1 + 1 := by omega
    exact bodyPost_ret (v := .agg #[.int .i64 1, .int .i64 0]) (by simp [results, Try.results44, go_sem, *]) rfl ⟨rfl, (nbSetX (nbSetX c15 hq2) hq2)⟩
  · have e1 : holdsA s j m g o kn l h = (l - g - o, h) := by simp [holdsA, hq]
    rw [e1]
    clear e1
    obtain ⟨g0, g1, o0, o1, l0, lh, h1⟩ := q3_parts hq
    have wr1 : IntKind.i64.wrap (l - g) = l - g := wrapS (by omega) (by omega)
    have wr2 : IntKind.i64.wrap (l - g - o) = l - g - o := wrapS (by omega) (by omega)
    go_enter Try.func44, Try.ntmps44
    go_wp2_with fail
    refine (l3state_c _ _ _ _ _ _ _ _ _ _ _ _).mono ?_
    rintro e w1 ⟨rfl, hb1⟩
    have hC1 : s3B w s j m g o kn l h si la od w1 := ⟨cellOn hb1 (by go_simp), cellOn hb1 (by go_simp), cellOn hb1 (by go_simp), cellOn hb1 (by go_simp), cellOn hb1 (by go_simp), cellOn hb1 (by go_simp), cellOn hb1 (by go_simp), cellOn hb1 (by go_simp), cellOn hb1 (by go_simp), cellOn hb1 (by go_simp), cellOn hb1 (by go_simp), cellOn hb1 (by go_simp), cellOn hb1 (by go_simp), frozenOn hb1 (v := .int .i64 0) (by go_simp) (by go_simp), frozenOn hb1 (v := .int .i64 0) (by go_simp) (by go_simp), nbTrans (nbAlloc (nbAlloc (nbAlloc (Below.refl _ _) _) _) _) hb1⟩
    have c0 : w1.cell? ⟨w.heap.size, 0, none⟩ = some (.int .i64 s) := hC1.1
    have c1 : w1.cell? ⟨w.heap.size, 1, none⟩ = some (.int .i64 j) := hC1.2.1
    have c2 : w1.cell? ⟨w.heap.size, 2, none⟩ = some (.int .i64 m) := hC1.2.2.1
    have c3 : w1.cell? ⟨w.heap.size, 3, none⟩ = some (.int .i64 g) := hC1.2.2.2.1
    have c4 : w1.cell? ⟨w.heap.size, 4, none⟩ = some (.int .i64 o) := hC1.2.2.2.2.1
    have c5 : w1.cell? ⟨w.heap.size + 1, 0, none⟩ = some (.bool kn) := hC1.2.2.2.2.2.1
    have c6 : w1.cell? ⟨w.heap.size + 1, 1, none⟩ = some (.int .i64 l) := hC1.2.2.2.2.2.2.1
    have c7 : w1.cell? ⟨w.heap.size + 1, 2, none⟩ = some (.int .i64 h) := hC1.2.2.2.2.2.2.2.1
    have c8 : w1.cell? ⟨w.heap.size + 1, 3, none⟩ = some (.int .i64 si) := hC1.2.2.2.2.2.2.2.2.1
    have c9 : w1.cell? ⟨w.heap.size + 1, 4, none⟩ = some (.int .i64 la) := hC1.2.2.2.2.2.2.2.2.2.1
    have c10 : w1.cell? ⟨w.heap.size + 1, 5, none⟩ = some (.int .i64 od) := hC1.2.2.2.2.2.2.2.2.2.2.1
    have c11 : w1.cell? ⟨w.heap.size + 1 + 1, 0, none⟩ = some (.int .i64 0) := hC1.2.2.2.2.2.2.2.2.2.2.2.1
    have c12 : w1.cell? ⟨w.heap.size + 1 + 1, 1, none⟩ = some (.int .i64 0) := hC1.2.2.2.2.2.2.2.2.2.2.2.2.1
    have c13 : w1.frozen? ⟨w.heap.size + 1 + 1, 0, none⟩ = false := hC1.2.2.2.2.2.2.2.2.2.2.2.2.2.1
    have c14 : w1.frozen? ⟨w.heap.size + 1 + 1, 1, none⟩ = false := hC1.2.2.2.2.2.2.2.2.2.2.2.2.2.2.1
    have c15 : Below w.heap.size w w1 := hC1.2.2.2.2.2.2.2.2.2.2.2.2.2.2.2
    go_wp2_with fail
    have hq2 : w.heap.size ≤ w.heap.size + 1 + 1 := by omega
    exact bodyPost_ret (v := .agg #[.int .i64 (l - g - o), .int .i64 h]) (by simp [results, Try.results44, go_sem, *]) rfl ⟨rfl, (nbSetX (nbSetX c15 hq2) hq2)⟩

def pastA (s j m g o : Int) (kn : Bool) (l h c : Int) : Int := if q3 s j m g o kn l h && inB c (-100000000) 100000000 then (if h < c then -1 else if c < l - g - o then 1 else 0) else 0
def roomA (s j m g o : Int) (kn : Bool) (l h c : Int) : Int := if q3 s j m g o kn l h && inB c (-100000000) 100000000 && decide (h ≤ c) then c - h else -1

set_option maxHeartbeats 1000000 in
theorem specPast_c (s j m g o : Int) (kn : Bool) (l h si la od : Int) (c : Int) (w : World) :
    Calls Try.prog 48 #[.agg #[.int .i64 s, .int .i64 j, .int .i64 m, .int .i64 g, .int .i64 o], .agg #[.bool kn, .int .i64 l, .int .i64 h, .int .i64 si, .int .i64 la, .int .i64 od], .int .i64 c] w fun e w' => e = .returned (.int .i64 (pastA s j m g o kn l h c)) ∧ Below w.heap.size w w' := by
  cases hq : q3 s j m g o kn l h
  case false =>
    go_enter Try.func48, Try.ntmps48
    go_wp2_with fail
    refine (l3state_c _ _ _ _ _ _ _ _ _ _ _ _).mono ?_
    rintro e w1 ⟨rfl, hb1⟩
    have hC1 : s3I w s j m g o kn l h si la od w1 := ⟨cellOn hb1 (by go_simp), cellOn hb1 (by go_simp), cellOn hb1 (by go_simp), cellOn hb1 (by go_simp), cellOn hb1 (by go_simp), cellOn hb1 (by go_simp), cellOn hb1 (by go_simp), cellOn hb1 (by go_simp), cellOn hb1 (by go_simp), cellOn hb1 (by go_simp), cellOn hb1 (by go_simp), nbTrans (nbAlloc (nbAlloc (Below.refl _ _) _) _) hb1⟩
    have c0 : w1.cell? ⟨w.heap.size, 0, none⟩ = some (.int .i64 s) := hC1.1
    have c1 : w1.cell? ⟨w.heap.size, 1, none⟩ = some (.int .i64 j) := hC1.2.1
    have c2 : w1.cell? ⟨w.heap.size, 2, none⟩ = some (.int .i64 m) := hC1.2.2.1
    have c3 : w1.cell? ⟨w.heap.size, 3, none⟩ = some (.int .i64 g) := hC1.2.2.2.1
    have c4 : w1.cell? ⟨w.heap.size, 4, none⟩ = some (.int .i64 o) := hC1.2.2.2.2.1
    have c5 : w1.cell? ⟨w.heap.size + 1, 0, none⟩ = some (.bool kn) := hC1.2.2.2.2.2.1
    have c6 : w1.cell? ⟨w.heap.size + 1, 1, none⟩ = some (.int .i64 l) := hC1.2.2.2.2.2.2.1
    have c7 : w1.cell? ⟨w.heap.size + 1, 2, none⟩ = some (.int .i64 h) := hC1.2.2.2.2.2.2.2.1
    have c8 : w1.cell? ⟨w.heap.size + 1, 3, none⟩ = some (.int .i64 si) := hC1.2.2.2.2.2.2.2.2.1
    have c9 : w1.cell? ⟨w.heap.size + 1, 4, none⟩ = some (.int .i64 la) := hC1.2.2.2.2.2.2.2.2.2.1
    have c10 : w1.cell? ⟨w.heap.size + 1, 5, none⟩ = some (.int .i64 od) := hC1.2.2.2.2.2.2.2.2.2.2.1
    have c11 : Below w.heap.size w w1 := hC1.2.2.2.2.2.2.2.2.2.2.2
    go_wp2_with fail
    go_ret
    exact ⟨retI (by simp [pastA, hq]), c11⟩
  cases hc : inB c (-100000000) 100000000
  case false =>
    go_enter Try.func48, Try.ntmps48
    go_wp2_with fail
    refine (l3state_c _ _ _ _ _ _ _ _ _ _ _ _).mono ?_
    rintro e w1 ⟨rfl, hb1⟩
    have hC1 : s3I w s j m g o kn l h si la od w1 := ⟨cellOn hb1 (by go_simp), cellOn hb1 (by go_simp), cellOn hb1 (by go_simp), cellOn hb1 (by go_simp), cellOn hb1 (by go_simp), cellOn hb1 (by go_simp), cellOn hb1 (by go_simp), cellOn hb1 (by go_simp), cellOn hb1 (by go_simp), cellOn hb1 (by go_simp), cellOn hb1 (by go_simp), nbTrans (nbAlloc (nbAlloc (Below.refl _ _) _) _) hb1⟩
    have c0 : w1.cell? ⟨w.heap.size, 0, none⟩ = some (.int .i64 s) := hC1.1
    have c1 : w1.cell? ⟨w.heap.size, 1, none⟩ = some (.int .i64 j) := hC1.2.1
    have c2 : w1.cell? ⟨w.heap.size, 2, none⟩ = some (.int .i64 m) := hC1.2.2.1
    have c3 : w1.cell? ⟨w.heap.size, 3, none⟩ = some (.int .i64 g) := hC1.2.2.2.1
    have c4 : w1.cell? ⟨w.heap.size, 4, none⟩ = some (.int .i64 o) := hC1.2.2.2.2.1
    have c5 : w1.cell? ⟨w.heap.size + 1, 0, none⟩ = some (.bool kn) := hC1.2.2.2.2.2.1
    have c6 : w1.cell? ⟨w.heap.size + 1, 1, none⟩ = some (.int .i64 l) := hC1.2.2.2.2.2.2.1
    have c7 : w1.cell? ⟨w.heap.size + 1, 2, none⟩ = some (.int .i64 h) := hC1.2.2.2.2.2.2.2.1
    have c8 : w1.cell? ⟨w.heap.size + 1, 3, none⟩ = some (.int .i64 si) := hC1.2.2.2.2.2.2.2.2.1
    have c9 : w1.cell? ⟨w.heap.size + 1, 4, none⟩ = some (.int .i64 la) := hC1.2.2.2.2.2.2.2.2.2.1
    have c10 : w1.cell? ⟨w.heap.size + 1, 5, none⟩ = some (.int .i64 od) := hC1.2.2.2.2.2.2.2.2.2.2.1
    have c11 : Below w.heap.size w w1 := hC1.2.2.2.2.2.2.2.2.2.2.2
    go_wp2_with fail
    refine (l1in_c _ _ _ _).mono ?_
    rintro e w' ⟨rfl, rfl⟩
    go_wp2_with fail
    go_ret
    exact ⟨retI (by simp [pastA, hc]), c11⟩
  have e1 : holdsA s j m g o kn l h = (l - g - o, h) := by simp [holdsA, hq]
  by_cases h1 : h < c
  · go_enter Try.func48, Try.ntmps48
    go_wp2_with fail
    refine (l3state_c _ _ _ _ _ _ _ _ _ _ _ _).mono ?_
    rintro e w1 ⟨rfl, hb1⟩
    have hC1 : s3I w s j m g o kn l h si la od w1 := ⟨cellOn hb1 (by go_simp), cellOn hb1 (by go_simp), cellOn hb1 (by go_simp), cellOn hb1 (by go_simp), cellOn hb1 (by go_simp), cellOn hb1 (by go_simp), cellOn hb1 (by go_simp), cellOn hb1 (by go_simp), cellOn hb1 (by go_simp), cellOn hb1 (by go_simp), cellOn hb1 (by go_simp), nbTrans (nbAlloc (nbAlloc (Below.refl _ _) _) _) hb1⟩
    have c0 : w1.cell? ⟨w.heap.size, 0, none⟩ = some (.int .i64 s) := hC1.1
    have c1 : w1.cell? ⟨w.heap.size, 1, none⟩ = some (.int .i64 j) := hC1.2.1
    have c2 : w1.cell? ⟨w.heap.size, 2, none⟩ = some (.int .i64 m) := hC1.2.2.1
    have c3 : w1.cell? ⟨w.heap.size, 3, none⟩ = some (.int .i64 g) := hC1.2.2.2.1
    have c4 : w1.cell? ⟨w.heap.size, 4, none⟩ = some (.int .i64 o) := hC1.2.2.2.2.1
    have c5 : w1.cell? ⟨w.heap.size + 1, 0, none⟩ = some (.bool kn) := hC1.2.2.2.2.2.1
    have c6 : w1.cell? ⟨w.heap.size + 1, 1, none⟩ = some (.int .i64 l) := hC1.2.2.2.2.2.2.1
    have c7 : w1.cell? ⟨w.heap.size + 1, 2, none⟩ = some (.int .i64 h) := hC1.2.2.2.2.2.2.2.1
    have c8 : w1.cell? ⟨w.heap.size + 1, 3, none⟩ = some (.int .i64 si) := hC1.2.2.2.2.2.2.2.2.1
    have c9 : w1.cell? ⟨w.heap.size + 1, 4, none⟩ = some (.int .i64 la) := hC1.2.2.2.2.2.2.2.2.2.1
    have c10 : w1.cell? ⟨w.heap.size + 1, 5, none⟩ = some (.int .i64 od) := hC1.2.2.2.2.2.2.2.2.2.2.1
    have c11 : Below w.heap.size w w1 := hC1.2.2.2.2.2.2.2.2.2.2.2
    go_wp2_with fail
    refine (l1in_c _ _ _ _).mono ?_
    rintro e w' ⟨rfl, rfl⟩
    go_wp2_with fail
    refine (specHolds_c _ _ _ _ _ _ _ _ _ _ _ _).mono ?_
    rintro e w3 ⟨rfl, hb3⟩
    rw [e1]
    go_wp2_with fail
    go_ret
    exact ⟨retI (by simp only [pastA, hq, hc, Bool.and_self, if_true]; rw [if_pos h1]), nbTrans (nbTrans c11 hb3) (nbAlloc (Below.refl _ _) _)⟩
  by_cases h2 : c < l - g - o
  · go_enter Try.func48, Try.ntmps48
    go_wp2_with fail
    refine (l3state_c _ _ _ _ _ _ _ _ _ _ _ _).mono ?_
    rintro e w1 ⟨rfl, hb1⟩
    have hC1 : s3I w s j m g o kn l h si la od w1 := ⟨cellOn hb1 (by go_simp), cellOn hb1 (by go_simp), cellOn hb1 (by go_simp), cellOn hb1 (by go_simp), cellOn hb1 (by go_simp), cellOn hb1 (by go_simp), cellOn hb1 (by go_simp), cellOn hb1 (by go_simp), cellOn hb1 (by go_simp), cellOn hb1 (by go_simp), cellOn hb1 (by go_simp), nbTrans (nbAlloc (nbAlloc (Below.refl _ _) _) _) hb1⟩
    have c0 : w1.cell? ⟨w.heap.size, 0, none⟩ = some (.int .i64 s) := hC1.1
    have c1 : w1.cell? ⟨w.heap.size, 1, none⟩ = some (.int .i64 j) := hC1.2.1
    have c2 : w1.cell? ⟨w.heap.size, 2, none⟩ = some (.int .i64 m) := hC1.2.2.1
    have c3 : w1.cell? ⟨w.heap.size, 3, none⟩ = some (.int .i64 g) := hC1.2.2.2.1
    have c4 : w1.cell? ⟨w.heap.size, 4, none⟩ = some (.int .i64 o) := hC1.2.2.2.2.1
    have c5 : w1.cell? ⟨w.heap.size + 1, 0, none⟩ = some (.bool kn) := hC1.2.2.2.2.2.1
    have c6 : w1.cell? ⟨w.heap.size + 1, 1, none⟩ = some (.int .i64 l) := hC1.2.2.2.2.2.2.1
    have c7 : w1.cell? ⟨w.heap.size + 1, 2, none⟩ = some (.int .i64 h) := hC1.2.2.2.2.2.2.2.1
    have c8 : w1.cell? ⟨w.heap.size + 1, 3, none⟩ = some (.int .i64 si) := hC1.2.2.2.2.2.2.2.2.1
    have c9 : w1.cell? ⟨w.heap.size + 1, 4, none⟩ = some (.int .i64 la) := hC1.2.2.2.2.2.2.2.2.2.1
    have c10 : w1.cell? ⟨w.heap.size + 1, 5, none⟩ = some (.int .i64 od) := hC1.2.2.2.2.2.2.2.2.2.2.1
    have c11 : Below w.heap.size w w1 := hC1.2.2.2.2.2.2.2.2.2.2.2
    go_wp2_with fail
    refine (l1in_c _ _ _ _).mono ?_
    rintro e w' ⟨rfl, rfl⟩
    go_wp2_with fail
    refine (specHolds_c _ _ _ _ _ _ _ _ _ _ _ _).mono ?_
    rintro e w3 ⟨rfl, hb3⟩
    rw [e1]
    go_wp2_with fail
    go_ret
    exact ⟨retI (by simp only [pastA, hq, hc, Bool.and_self, if_true]; rw [if_neg (by omega : ¬ h < c), if_pos h2]), nbTrans (nbTrans c11 hb3) (nbAlloc (Below.refl _ _) _)⟩
  · go_enter Try.func48, Try.ntmps48
    go_wp2_with fail
    refine (l3state_c _ _ _ _ _ _ _ _ _ _ _ _).mono ?_
    rintro e w1 ⟨rfl, hb1⟩
    have hC1 : s3I w s j m g o kn l h si la od w1 := ⟨cellOn hb1 (by go_simp), cellOn hb1 (by go_simp), cellOn hb1 (by go_simp), cellOn hb1 (by go_simp), cellOn hb1 (by go_simp), cellOn hb1 (by go_simp), cellOn hb1 (by go_simp), cellOn hb1 (by go_simp), cellOn hb1 (by go_simp), cellOn hb1 (by go_simp), cellOn hb1 (by go_simp), nbTrans (nbAlloc (nbAlloc (Below.refl _ _) _) _) hb1⟩
    have c0 : w1.cell? ⟨w.heap.size, 0, none⟩ = some (.int .i64 s) := hC1.1
    have c1 : w1.cell? ⟨w.heap.size, 1, none⟩ = some (.int .i64 j) := hC1.2.1
    have c2 : w1.cell? ⟨w.heap.size, 2, none⟩ = some (.int .i64 m) := hC1.2.2.1
    have c3 : w1.cell? ⟨w.heap.size, 3, none⟩ = some (.int .i64 g) := hC1.2.2.2.1
    have c4 : w1.cell? ⟨w.heap.size, 4, none⟩ = some (.int .i64 o) := hC1.2.2.2.2.1
    have c5 : w1.cell? ⟨w.heap.size + 1, 0, none⟩ = some (.bool kn) := hC1.2.2.2.2.2.1
    have c6 : w1.cell? ⟨w.heap.size + 1, 1, none⟩ = some (.int .i64 l) := hC1.2.2.2.2.2.2.1
    have c7 : w1.cell? ⟨w.heap.size + 1, 2, none⟩ = some (.int .i64 h) := hC1.2.2.2.2.2.2.2.1
    have c8 : w1.cell? ⟨w.heap.size + 1, 3, none⟩ = some (.int .i64 si) := hC1.2.2.2.2.2.2.2.2.1
    have c9 : w1.cell? ⟨w.heap.size + 1, 4, none⟩ = some (.int .i64 la) := hC1.2.2.2.2.2.2.2.2.2.1
    have c10 : w1.cell? ⟨w.heap.size + 1, 5, none⟩ = some (.int .i64 od) := hC1.2.2.2.2.2.2.2.2.2.2.1
    have c11 : Below w.heap.size w w1 := hC1.2.2.2.2.2.2.2.2.2.2.2
    go_wp2_with fail
    refine (l1in_c _ _ _ _).mono ?_
    rintro e w' ⟨rfl, rfl⟩
    go_wp2_with fail
    refine (specHolds_c _ _ _ _ _ _ _ _ _ _ _ _).mono ?_
    rintro e w3 ⟨rfl, hb3⟩
    rw [e1]
    go_wp2_with fail
    go_ret
    exact ⟨retI (by simp only [pastA, hq, hc, Bool.and_self, if_true]; rw [if_neg (by omega : ¬ h < c), if_neg (by omega : ¬ c < l - g - o)]), nbTrans (nbTrans c11 hb3) (nbAlloc (Below.refl _ _) _)⟩

set_option maxHeartbeats 1000000 in
theorem specRoom_c (s j m g o : Int) (kn : Bool) (l h si la od : Int) (c : Int) (w : World) :
    Calls Try.prog 50 #[.agg #[.int .i64 s, .int .i64 j, .int .i64 m, .int .i64 g, .int .i64 o], .agg #[.bool kn, .int .i64 l, .int .i64 h, .int .i64 si, .int .i64 la, .int .i64 od], .int .i64 c] w fun e w' => e = .returned (.int .i64 (roomA s j m g o kn l h c)) ∧ Below w.heap.size w w' := by
  cases hq : q3 s j m g o kn l h
  case false =>
    go_enter Try.func50, Try.ntmps50
    go_wp2_with fail
    refine (l3state_c _ _ _ _ _ _ _ _ _ _ _ _).mono ?_
    rintro e w1 ⟨rfl, hb1⟩
    have hC1 : s3I w s j m g o kn l h si la od w1 := ⟨cellOn hb1 (by go_simp), cellOn hb1 (by go_simp), cellOn hb1 (by go_simp), cellOn hb1 (by go_simp), cellOn hb1 (by go_simp), cellOn hb1 (by go_simp), cellOn hb1 (by go_simp), cellOn hb1 (by go_simp), cellOn hb1 (by go_simp), cellOn hb1 (by go_simp), cellOn hb1 (by go_simp), nbTrans (nbAlloc (nbAlloc (Below.refl _ _) _) _) hb1⟩
    have c0 : w1.cell? ⟨w.heap.size, 0, none⟩ = some (.int .i64 s) := hC1.1
    have c1 : w1.cell? ⟨w.heap.size, 1, none⟩ = some (.int .i64 j) := hC1.2.1
    have c2 : w1.cell? ⟨w.heap.size, 2, none⟩ = some (.int .i64 m) := hC1.2.2.1
    have c3 : w1.cell? ⟨w.heap.size, 3, none⟩ = some (.int .i64 g) := hC1.2.2.2.1
    have c4 : w1.cell? ⟨w.heap.size, 4, none⟩ = some (.int .i64 o) := hC1.2.2.2.2.1
    have c5 : w1.cell? ⟨w.heap.size + 1, 0, none⟩ = some (.bool kn) := hC1.2.2.2.2.2.1
    have c6 : w1.cell? ⟨w.heap.size + 1, 1, none⟩ = some (.int .i64 l) := hC1.2.2.2.2.2.2.1
    have c7 : w1.cell? ⟨w.heap.size + 1, 2, none⟩ = some (.int .i64 h) := hC1.2.2.2.2.2.2.2.1
    have c8 : w1.cell? ⟨w.heap.size + 1, 3, none⟩ = some (.int .i64 si) := hC1.2.2.2.2.2.2.2.2.1
    have c9 : w1.cell? ⟨w.heap.size + 1, 4, none⟩ = some (.int .i64 la) := hC1.2.2.2.2.2.2.2.2.2.1
    have c10 : w1.cell? ⟨w.heap.size + 1, 5, none⟩ = some (.int .i64 od) := hC1.2.2.2.2.2.2.2.2.2.2.1
    have c11 : Below w.heap.size w w1 := hC1.2.2.2.2.2.2.2.2.2.2.2
    go_wp2_with fail
    go_ret
    exact ⟨retI (by simp [roomA, hq]), c11⟩
  cases hc : inB c (-100000000) 100000000
  case false =>
    go_enter Try.func50, Try.ntmps50
    go_wp2_with fail
    refine (l3state_c _ _ _ _ _ _ _ _ _ _ _ _).mono ?_
    rintro e w1 ⟨rfl, hb1⟩
    have hC1 : s3I w s j m g o kn l h si la od w1 := ⟨cellOn hb1 (by go_simp), cellOn hb1 (by go_simp), cellOn hb1 (by go_simp), cellOn hb1 (by go_simp), cellOn hb1 (by go_simp), cellOn hb1 (by go_simp), cellOn hb1 (by go_simp), cellOn hb1 (by go_simp), cellOn hb1 (by go_simp), cellOn hb1 (by go_simp), cellOn hb1 (by go_simp), nbTrans (nbAlloc (nbAlloc (Below.refl _ _) _) _) hb1⟩
    have c0 : w1.cell? ⟨w.heap.size, 0, none⟩ = some (.int .i64 s) := hC1.1
    have c1 : w1.cell? ⟨w.heap.size, 1, none⟩ = some (.int .i64 j) := hC1.2.1
    have c2 : w1.cell? ⟨w.heap.size, 2, none⟩ = some (.int .i64 m) := hC1.2.2.1
    have c3 : w1.cell? ⟨w.heap.size, 3, none⟩ = some (.int .i64 g) := hC1.2.2.2.1
    have c4 : w1.cell? ⟨w.heap.size, 4, none⟩ = some (.int .i64 o) := hC1.2.2.2.2.1
    have c5 : w1.cell? ⟨w.heap.size + 1, 0, none⟩ = some (.bool kn) := hC1.2.2.2.2.2.1
    have c6 : w1.cell? ⟨w.heap.size + 1, 1, none⟩ = some (.int .i64 l) := hC1.2.2.2.2.2.2.1
    have c7 : w1.cell? ⟨w.heap.size + 1, 2, none⟩ = some (.int .i64 h) := hC1.2.2.2.2.2.2.2.1
    have c8 : w1.cell? ⟨w.heap.size + 1, 3, none⟩ = some (.int .i64 si) := hC1.2.2.2.2.2.2.2.2.1
    have c9 : w1.cell? ⟨w.heap.size + 1, 4, none⟩ = some (.int .i64 la) := hC1.2.2.2.2.2.2.2.2.2.1
    have c10 : w1.cell? ⟨w.heap.size + 1, 5, none⟩ = some (.int .i64 od) := hC1.2.2.2.2.2.2.2.2.2.2.1
    have c11 : Below w.heap.size w w1 := hC1.2.2.2.2.2.2.2.2.2.2.2
    go_wp2_with fail
    refine (l1in_c _ _ _ _).mono ?_
    rintro e w' ⟨rfl, rfl⟩
    go_wp2_with fail
    go_ret
    exact ⟨retI (by simp [roomA, hc]), c11⟩
  obtain ⟨g0, g1, o0, o1, l0, lh, h1⟩ := q3_parts hq
  have hc' := hc
  simp only [inB, Bool.and_eq_true, decide_eq_true_eq] at hc'
  have wr : IntKind.i64.wrap (c - h) = c - h := wrapS (by omega) (by omega)
  by_cases h2 : c < h
  · go_enter Try.func50, Try.ntmps50
    go_wp2_with fail
    refine (l3state_c _ _ _ _ _ _ _ _ _ _ _ _).mono ?_
    rintro e w1 ⟨rfl, hb1⟩
    have hC1 : s3I w s j m g o kn l h si la od w1 := ⟨cellOn hb1 (by go_simp), cellOn hb1 (by go_simp), cellOn hb1 (by go_simp), cellOn hb1 (by go_simp), cellOn hb1 (by go_simp), cellOn hb1 (by go_simp), cellOn hb1 (by go_simp), cellOn hb1 (by go_simp), cellOn hb1 (by go_simp), cellOn hb1 (by go_simp), cellOn hb1 (by go_simp), nbTrans (nbAlloc (nbAlloc (Below.refl _ _) _) _) hb1⟩
    have c0 : w1.cell? ⟨w.heap.size, 0, none⟩ = some (.int .i64 s) := hC1.1
    have c1 : w1.cell? ⟨w.heap.size, 1, none⟩ = some (.int .i64 j) := hC1.2.1
    have c2 : w1.cell? ⟨w.heap.size, 2, none⟩ = some (.int .i64 m) := hC1.2.2.1
    have c3 : w1.cell? ⟨w.heap.size, 3, none⟩ = some (.int .i64 g) := hC1.2.2.2.1
    have c4 : w1.cell? ⟨w.heap.size, 4, none⟩ = some (.int .i64 o) := hC1.2.2.2.2.1
    have c5 : w1.cell? ⟨w.heap.size + 1, 0, none⟩ = some (.bool kn) := hC1.2.2.2.2.2.1
    have c6 : w1.cell? ⟨w.heap.size + 1, 1, none⟩ = some (.int .i64 l) := hC1.2.2.2.2.2.2.1
    have c7 : w1.cell? ⟨w.heap.size + 1, 2, none⟩ = some (.int .i64 h) := hC1.2.2.2.2.2.2.2.1
    have c8 : w1.cell? ⟨w.heap.size + 1, 3, none⟩ = some (.int .i64 si) := hC1.2.2.2.2.2.2.2.2.1
    have c9 : w1.cell? ⟨w.heap.size + 1, 4, none⟩ = some (.int .i64 la) := hC1.2.2.2.2.2.2.2.2.2.1
    have c10 : w1.cell? ⟨w.heap.size + 1, 5, none⟩ = some (.int .i64 od) := hC1.2.2.2.2.2.2.2.2.2.2.1
    have c11 : Below w.heap.size w w1 := hC1.2.2.2.2.2.2.2.2.2.2.2
    go_wp2_with fail
    refine (l1in_c _ _ _ _).mono ?_
    rintro e w' ⟨rfl, rfl⟩
    go_wp2_with fail
    go_ret
    exact ⟨retI (by simp [roomA, hq, hc]; omega), c11⟩
  · go_enter Try.func50, Try.ntmps50
    go_wp2_with fail
    refine (l3state_c _ _ _ _ _ _ _ _ _ _ _ _).mono ?_
    rintro e w1 ⟨rfl, hb1⟩
    have hC1 : s3I w s j m g o kn l h si la od w1 := ⟨cellOn hb1 (by go_simp), cellOn hb1 (by go_simp), cellOn hb1 (by go_simp), cellOn hb1 (by go_simp), cellOn hb1 (by go_simp), cellOn hb1 (by go_simp), cellOn hb1 (by go_simp), cellOn hb1 (by go_simp), cellOn hb1 (by go_simp), cellOn hb1 (by go_simp), cellOn hb1 (by go_simp), nbTrans (nbAlloc (nbAlloc (Below.refl _ _) _) _) hb1⟩
    have c0 : w1.cell? ⟨w.heap.size, 0, none⟩ = some (.int .i64 s) := hC1.1
    have c1 : w1.cell? ⟨w.heap.size, 1, none⟩ = some (.int .i64 j) := hC1.2.1
    have c2 : w1.cell? ⟨w.heap.size, 2, none⟩ = some (.int .i64 m) := hC1.2.2.1
    have c3 : w1.cell? ⟨w.heap.size, 3, none⟩ = some (.int .i64 g) := hC1.2.2.2.1
    have c4 : w1.cell? ⟨w.heap.size, 4, none⟩ = some (.int .i64 o) := hC1.2.2.2.2.1
    have c5 : w1.cell? ⟨w.heap.size + 1, 0, none⟩ = some (.bool kn) := hC1.2.2.2.2.2.1
    have c6 : w1.cell? ⟨w.heap.size + 1, 1, none⟩ = some (.int .i64 l) := hC1.2.2.2.2.2.2.1
    have c7 : w1.cell? ⟨w.heap.size + 1, 2, none⟩ = some (.int .i64 h) := hC1.2.2.2.2.2.2.2.1
    have c8 : w1.cell? ⟨w.heap.size + 1, 3, none⟩ = some (.int .i64 si) := hC1.2.2.2.2.2.2.2.2.1
    have c9 : w1.cell? ⟨w.heap.size + 1, 4, none⟩ = some (.int .i64 la) := hC1.2.2.2.2.2.2.2.2.2.1
    have c10 : w1.cell? ⟨w.heap.size + 1, 5, none⟩ = some (.int .i64 od) := hC1.2.2.2.2.2.2.2.2.2.2.1
    have c11 : Below w.heap.size w w1 := hC1.2.2.2.2.2.2.2.2.2.2.2
    go_wp2_with fail
    refine (l1in_c _ _ _ _).mono ?_
    rintro e w' ⟨rfl, rfl⟩
    go_wp2_with fail
    go_ret
    exact ⟨retI (by simp [roomA, hq, hc]; omega), c11⟩

def s3N (w : World) (kn : Bool) (l h si la od : Int) : World → Prop := fun w' => w'.cell? ⟨w.heap.size, 0, none⟩ = some (.bool kn) ∧ w'.cell? ⟨w.heap.size, 1, none⟩ = some (.int .i64 l) ∧ w'.cell? ⟨w.heap.size, 2, none⟩ = some (.int .i64 h) ∧ w'.cell? ⟨w.heap.size, 3, none⟩ = some (.int .i64 si) ∧ w'.cell? ⟨w.heap.size, 4, none⟩ = some (.int .i64 la) ∧ w'.cell? ⟨w.heap.size, 5, none⟩ = some (.int .i64 od) ∧ Below w.heap.size w w'
theorem s3N_on {w : World} {kn : Bool} {l h si la od : Int} {w1 w2 : World} (hh : s3N w kn l h si la od w1) (hb : Below w1.heap.size w1 w2) : s3N w kn l h si la od w2 :=
  ⟨cellOn hb hh.1, cellOn hb hh.2.1, cellOn hb hh.2.2.1, cellOn hb hh.2.2.2.1, cellOn hb hh.2.2.2.2.1, cellOn hb hh.2.2.2.2.2.1, nbTrans hh.2.2.2.2.2.2 hb⟩

def nxt (a : Nat → Int) (l : Int) : Nat → Nat → Int
  | _, 0 => -1
  | k, n + 1 => if l < a k then (k : Int) else nxt a l (k + 1) n
theorem nxt_step {a : Nat → Int} {l : Int} {k len : Nat} (hk : k < len) : nxt a l k (len - k) = if l < a k then (k : Int) else nxt a l (k + 1) (len - (k + 1)) := by
  rw [show len - k = (len - (k + 1)) + 1 by omega, nxt]
def nextA (f a : Nat → Int) (len : Nat) (kn : Bool) (l h : Int) : Int := if marksB f a len && kn && bOk l h then nxt a l 0 len else -1

set_option maxHeartbeats 2000000 in
theorem specNext_c (b off len cap : Nat) (f a : Nat → Int) (kn : Bool) (l h si la od : Int) (w : World) (hl : len ≤ 1048576) (hrow : Row2 w b off len f a) :
    Calls Try.prog 52 #[.slice (some ⟨b, off, none⟩) len cap, .agg #[.bool kn, .int .i64 l, .int .i64 h, .int .i64 si, .int .i64 la, .int .i64 od]] w fun e w' => e = .returned (.int .i64 (nextA f a len kn l h)) ∧ Below w.heap.size w w' := by
  cases hm : marksB f a len
  case false =>
    go_enter Try.func52, Try.ntmps52
    go_wp2_with fail
    refine (specMarksOk_c b off len cap f a _ hl (hrow.on (nbAlloc (Below.refl _ _) _))).mono ?_
    rintro e w1 ⟨rfl, hb1⟩
    have hC1 : s3N w kn l h si la od w1 := ⟨cellOn hb1 (by go_simp), cellOn hb1 (by go_simp), cellOn hb1 (by go_simp), cellOn hb1 (by go_simp), cellOn hb1 (by go_simp), cellOn hb1 (by go_simp), nbTrans (nbAlloc (Below.refl _ _) _) hb1⟩
    have c0 : w1.cell? ⟨w.heap.size, 0, none⟩ = some (.bool kn) := hC1.1
    have c1 : w1.cell? ⟨w.heap.size, 1, none⟩ = some (.int .i64 l) := hC1.2.1
    have c2 : w1.cell? ⟨w.heap.size, 2, none⟩ = some (.int .i64 h) := hC1.2.2.1
    have c3 : w1.cell? ⟨w.heap.size, 3, none⟩ = some (.int .i64 si) := hC1.2.2.2.1
    have c4 : w1.cell? ⟨w.heap.size, 4, none⟩ = some (.int .i64 la) := hC1.2.2.2.2.1
    have c5 : w1.cell? ⟨w.heap.size, 5, none⟩ = some (.int .i64 od) := hC1.2.2.2.2.2.1
    have c6 : Below w.heap.size w w1 := hC1.2.2.2.2.2.2
    go_wp2_with fail
    go_ret
    exact ⟨retI (by simp [nextA, hm]), c6⟩
  cases kn
  case false =>
    go_enter Try.func52, Try.ntmps52
    go_wp2_with fail
    refine (specMarksOk_c b off len cap f a _ hl (hrow.on (nbAlloc (Below.refl _ _) _))).mono ?_
    rintro e w1 ⟨rfl, hb1⟩
    have hC1 : s3N w false l h si la od w1 := ⟨cellOn hb1 (by go_simp), cellOn hb1 (by go_simp), cellOn hb1 (by go_simp), cellOn hb1 (by go_simp), cellOn hb1 (by go_simp), cellOn hb1 (by go_simp), nbTrans (nbAlloc (Below.refl _ _) _) hb1⟩
    have c0 : w1.cell? ⟨w.heap.size, 0, none⟩ = some (.bool false) := hC1.1
    have c1 : w1.cell? ⟨w.heap.size, 1, none⟩ = some (.int .i64 l) := hC1.2.1
    have c2 : w1.cell? ⟨w.heap.size, 2, none⟩ = some (.int .i64 h) := hC1.2.2.1
    have c3 : w1.cell? ⟨w.heap.size, 3, none⟩ = some (.int .i64 si) := hC1.2.2.2.1
    have c4 : w1.cell? ⟨w.heap.size, 4, none⟩ = some (.int .i64 la) := hC1.2.2.2.2.1
    have c5 : w1.cell? ⟨w.heap.size, 5, none⟩ = some (.int .i64 od) := hC1.2.2.2.2.2.1
    have c6 : Below w.heap.size w w1 := hC1.2.2.2.2.2.2
    go_wp2_with fail
    go_ret
    exact ⟨retI (by simp [nextA]), c6⟩
  cases hb : bOk l h
  case false =>
    go_enter Try.func52, Try.ntmps52
    go_wp2_with fail
    refine (specMarksOk_c b off len cap f a _ hl (hrow.on (nbAlloc (Below.refl _ _) _))).mono ?_
    rintro e w1 ⟨rfl, hb1⟩
    have hC1 : s3N w true l h si la od w1 := ⟨cellOn hb1 (by go_simp), cellOn hb1 (by go_simp), cellOn hb1 (by go_simp), cellOn hb1 (by go_simp), cellOn hb1 (by go_simp), cellOn hb1 (by go_simp), nbTrans (nbAlloc (Below.refl _ _) _) hb1⟩
    have c0 : w1.cell? ⟨w.heap.size, 0, none⟩ = some (.bool true) := hC1.1
    have c1 : w1.cell? ⟨w.heap.size, 1, none⟩ = some (.int .i64 l) := hC1.2.1
    have c2 : w1.cell? ⟨w.heap.size, 2, none⟩ = some (.int .i64 h) := hC1.2.2.1
    have c3 : w1.cell? ⟨w.heap.size, 3, none⟩ = some (.int .i64 si) := hC1.2.2.2.1
    have c4 : w1.cell? ⟨w.heap.size, 4, none⟩ = some (.int .i64 la) := hC1.2.2.2.2.1
    have c5 : w1.cell? ⟨w.heap.size, 5, none⟩ = some (.int .i64 od) := hC1.2.2.2.2.2.1
    have c6 : Below w.heap.size w w1 := hC1.2.2.2.2.2.2
    go_wp2_with fail
    refine (specBoundOk_c _ _ _).mono ?_
    rintro e w2 ⟨rfl, hb2⟩
    have hC2 := s3N_on hC1 hb2
    clear hC1 c0 c1 c2 c3 c4 c5 c6
    have c0 : w2.cell? ⟨w.heap.size, 0, none⟩ = some (.bool true) := hC2.1
    have c1 : w2.cell? ⟨w.heap.size, 1, none⟩ = some (.int .i64 l) := hC2.2.1
    have c2 : w2.cell? ⟨w.heap.size, 2, none⟩ = some (.int .i64 h) := hC2.2.2.1
    have c3 : w2.cell? ⟨w.heap.size, 3, none⟩ = some (.int .i64 si) := hC2.2.2.2.1
    have c4 : w2.cell? ⟨w.heap.size, 4, none⟩ = some (.int .i64 la) := hC2.2.2.2.2.1
    have c5 : w2.cell? ⟨w.heap.size, 5, none⟩ = some (.int .i64 od) := hC2.2.2.2.2.2.1
    have c6 : Below w.heap.size w w2 := hC2.2.2.2.2.2.2
    go_wp2_with fail
    go_ret
    exact ⟨retI (by simp [nextA, hb]), c6⟩
  have HA : Hid (nextA f a len true l h = nxt a l 0 len) := by unfold Hid; simp [nextA, hm, hb]
  rw [HA.out]
  go_enter Try.func52, Try.ntmps52
  go_wp2_with fail
  refine (specMarksOk_c b off len cap f a _ hl (hrow.on (nbAlloc (Below.refl _ _) _))).mono ?_
  rintro e w1 ⟨rfl, hb1⟩
  have hC1 : s3N w true l h si la od w1 := ⟨cellOn hb1 (by go_simp), cellOn hb1 (by go_simp), cellOn hb1 (by go_simp), cellOn hb1 (by go_simp), cellOn hb1 (by go_simp), cellOn hb1 (by go_simp), nbTrans (nbAlloc (Below.refl _ _) _) hb1⟩
  have c0 : w1.cell? ⟨w.heap.size, 0, none⟩ = some (.bool true) := hC1.1
  have c1 : w1.cell? ⟨w.heap.size, 1, none⟩ = some (.int .i64 l) := hC1.2.1
  have c2 : w1.cell? ⟨w.heap.size, 2, none⟩ = some (.int .i64 h) := hC1.2.2.1
  have c3 : w1.cell? ⟨w.heap.size, 3, none⟩ = some (.int .i64 si) := hC1.2.2.2.1
  have c4 : w1.cell? ⟨w.heap.size, 4, none⟩ = some (.int .i64 la) := hC1.2.2.2.2.1
  have c5 : w1.cell? ⟨w.heap.size, 5, none⟩ = some (.int .i64 od) := hC1.2.2.2.2.2.1
  have c6 : Below w.heap.size w w1 := hC1.2.2.2.2.2.2
  go_wp2_with fail
  refine (specBoundOk_c _ _ _).mono ?_
  rintro e w2 ⟨rfl, hb2⟩
  have hC2 := s3N_on hC1 hb2
  clear hC1 c0 c1 c2 c3 c4 c5 c6
  have c0 : w2.cell? ⟨w.heap.size, 0, none⟩ = some (.bool true) := hC2.1
  have c1 : w2.cell? ⟨w.heap.size, 1, none⟩ = some (.int .i64 l) := hC2.2.1
  have c2 : w2.cell? ⟨w.heap.size, 2, none⟩ = some (.int .i64 h) := hC2.2.2.1
  have c3 : w2.cell? ⟨w.heap.size, 3, none⟩ = some (.int .i64 si) := hC2.2.2.2.1
  have c4 : w2.cell? ⟨w.heap.size, 4, none⟩ = some (.int .i64 la) := hC2.2.2.2.2.1
  have c5 : w2.cell? ⟨w.heap.size, 5, none⟩ = some (.int .i64 od) := hC2.2.2.2.2.2.1
  have c6 : Below w.heap.size w w2 := hC2.2.2.2.2.2.2
  go_wp2_with fail
  have HM : Hid (marksB f a len = true) := hm
  clear hm HA hb
  clear c0 c1 c2 c3 c4 c5 c6
  go_loopw [23] (fun iv wr => ∃ k : Nat, iv = .int .i64 k ∧ k ≤ len ∧ Hid (nxt a l 0 len = nxt a l k (len - k)) ∧ s3N w true l h si la od wr) (fun iv _ => len - (intOf iv).toNat)
  case atStart => exact ⟨0, rfl, by omega, rfl, hC2⟩
  case round =>
    clear hC2
    obtain ⟨k, rfl, hk, hx, hC⟩ := hrel
    by_cases hlt : k < len
    · have i0 : (0 : Int) ≤ (k : Int) := by omega
      have i1 : (k : Int) < (len : Int) := by omega
      have d0 := cellOn hC.2.2.2.2.2.2 (hrow k hlt).1
      have d1 := cellOn hC.2.2.2.2.2.2 (hrow k hlt).2
      have hC3 := s3N_on hC (nbAlloc (Below.refl wr.heap.size wr) (.cells #[.int .i64 (f k), .int .i64 (a k)] 81))
      have c0 : (wr.alloc (.cells #[.int .i64 (f k), .int .i64 (a k)] 81)).cell? ⟨w.heap.size, 0, none⟩ = some (.bool true) := hC3.1
      have c1 : (wr.alloc (.cells #[.int .i64 (f k), .int .i64 (a k)] 81)).cell? ⟨w.heap.size, 1, none⟩ = some (.int .i64 l) := hC3.2.1
      have c2 : (wr.alloc (.cells #[.int .i64 (f k), .int .i64 (a k)] 81)).cell? ⟨w.heap.size, 2, none⟩ = some (.int .i64 h) := hC3.2.2.1
      have c3 : (wr.alloc (.cells #[.int .i64 (f k), .int .i64 (a k)] 81)).cell? ⟨w.heap.size, 3, none⟩ = some (.int .i64 si) := hC3.2.2.2.1
      have c4 : (wr.alloc (.cells #[.int .i64 (f k), .int .i64 (a k)] 81)).cell? ⟨w.heap.size, 4, none⟩ = some (.int .i64 la) := hC3.2.2.2.2.1
      have c5 : (wr.alloc (.cells #[.int .i64 (f k), .int .i64 (a k)] 81)).cell? ⟨w.heap.size, 5, none⟩ = some (.int .i64 od) := hC3.2.2.2.2.2.1
      have c6 : Below w.heap.size w (wr.alloc (.cells #[.int .i64 (f k), .int .i64 (a k)] 81)) := hC3.2.2.2.2.2.2
      by_cases hg : l < a k
      · have hx2 : Hid (nxt a l 0 len = (k : Int)) := by
          unfold Hid
          rw [hx.out, nxt_step hlt, if_pos hg]
        clear hx
        go_wp2_with fail
        go_ret
        exact ⟨retI hx2.out.symm, hC3.2.2.2.2.2.2⟩
      · have hx2 : Hid (nxt a l 0 len = nxt a l (k + 1) (len - (k + 1))) := by
          unfold Hid
          rw [hx.out, nxt_step hlt, if_neg hg]
        clear hx
        go_wp2_with fail
        go_roundw
        case rel => exact ⟨k + 1, by go_num, by omega, hx2, hC3⟩
        case measure => simp [intOf]; omega
    · have hkl : k = len := by omega
      subst hkl
      have hx2 : Hid (nxt a l 0 k = -1) := by
        unfold Hid
        rw [hx.out, Nat.sub_self]
        rfl
      clear hx
      go_wp2_with fail
      go_ret
      exact ⟨retI hx2.out.symm, hC.2.2.2.2.2.2⟩

def s3W (w : World) (s j m g o : Int) : World → Prop := fun w' => w'.cell? ⟨w.heap.size, 0, none⟩ = some (.int .i64 s) ∧ w'.cell? ⟨w.heap.size, 1, none⟩ = some (.int .i64 j) ∧ w'.cell? ⟨w.heap.size, 2, none⟩ = some (.int .i64 m) ∧ w'.cell? ⟨w.heap.size, 3, none⟩ = some (.int .i64 g) ∧ w'.cell? ⟨w.heap.size, 4, none⟩ = some (.int .i64 o) ∧ Below w.heap.size w w'
theorem s3W_on {w : World} {s j m g o : Int} {w1 w2 : World} (hh : s3W w s j m g o w1) (hb : Below w1.heap.size w1 w2) : s3W w s j m g o w2 :=
  ⟨cellOn hb hh.1, cellOn hb hh.2.1, cellOn hb hh.2.2.1, cellOn hb hh.2.2.2.1, cellOn hb hh.2.2.2.2.1, nbTrans hh.2.2.2.2.2 hb⟩

def wideA (s j m g o : Int) (f a : Nat → Int) (len : Nat) (c : Int) : Int := if rOk s j m g o && marksB f a len && inB c 0 100000 then 2 * m + mst s j c - lst s j c else -1
set_option maxHeartbeats 2000000 in
theorem specWide_m (ad : Option Addr) (len cap : Nat) (f a : Nat → Int) (s j m g o c : Int) (w : World) (HM : Hid (∀ w', Below w.heap.size w w' → Calls Try.prog 20 #[.slice ad len cap] w' fun e w'' => e = .returned (.bool (marksB f a len)) ∧ Below w'.heap.size w' w'')) :
    Calls Try.prog 54 #[.agg #[.int .i64 s, .int .i64 j, .int .i64 m, .int .i64 g, .int .i64 o], .slice ad len cap, .int .i64 c] w fun e w' => e = .returned (.int .i64 (wideA s j m g o f a len c)) ∧ Below w.heap.size w w' := by
  cases hr : rOk s j m g o
  case false =>
    go_enter Try.func54, Try.ntmps54
    go_wp2_with fail
    refine (specRulesOk_c _ _ _ _ _ _).mono ?_
    rintro e w1 ⟨rfl, hb1⟩
    have hC1 : s3W w s j m g o w1 := ⟨cellOn hb1 (by go_simp), cellOn hb1 (by go_simp), cellOn hb1 (by go_simp), cellOn hb1 (by go_simp), cellOn hb1 (by go_simp), nbTrans (nbAlloc (Below.refl _ _) _) hb1⟩
    have hB1 : Below w.heap.size w w1 := hC1.2.2.2.2.2
    have c0 : w1.cell? ⟨w.heap.size, 0, none⟩ = some (.int .i64 s) := hC1.1
    have c1 : w1.cell? ⟨w.heap.size, 1, none⟩ = some (.int .i64 j) := hC1.2.1
    have c2 : w1.cell? ⟨w.heap.size, 2, none⟩ = some (.int .i64 m) := hC1.2.2.1
    have c3 : w1.cell? ⟨w.heap.size, 3, none⟩ = some (.int .i64 g) := hC1.2.2.2.1
    have c4 : w1.cell? ⟨w.heap.size, 4, none⟩ = some (.int .i64 o) := hC1.2.2.2.2.1
    have c5 : Below w.heap.size w w1 := hC1.2.2.2.2.2
    go_wp2_with fail
    go_ret
    exact ⟨retI (by simp [wideA, hr]), c5⟩
  cases hm : marksB f a len
  case false =>
    go_enter Try.func54, Try.ntmps54
    go_wp2_with fail
    refine (specRulesOk_c _ _ _ _ _ _).mono ?_
    rintro e w1 ⟨rfl, hb1⟩
    have hC1 : s3W w s j m g o w1 := ⟨cellOn hb1 (by go_simp), cellOn hb1 (by go_simp), cellOn hb1 (by go_simp), cellOn hb1 (by go_simp), cellOn hb1 (by go_simp), nbTrans (nbAlloc (Below.refl _ _) _) hb1⟩
    have hB1 : Below w.heap.size w w1 := hC1.2.2.2.2.2
    have c0 : w1.cell? ⟨w.heap.size, 0, none⟩ = some (.int .i64 s) := hC1.1
    have c1 : w1.cell? ⟨w.heap.size, 1, none⟩ = some (.int .i64 j) := hC1.2.1
    have c2 : w1.cell? ⟨w.heap.size, 2, none⟩ = some (.int .i64 m) := hC1.2.2.1
    have c3 : w1.cell? ⟨w.heap.size, 3, none⟩ = some (.int .i64 g) := hC1.2.2.2.1
    have c4 : w1.cell? ⟨w.heap.size, 4, none⟩ = some (.int .i64 o) := hC1.2.2.2.2.1
    have c5 : Below w.heap.size w w1 := hC1.2.2.2.2.2
    go_wp2_with fail
    refine (HM.out _ hB1).mono ?_
    rintro e w2 ⟨rfl, hb2⟩
    have hC2 := s3W_on hC1 hb2
    clear hC1 c0 c1 c2 c3 c4 c5
    have c0 : w2.cell? ⟨w.heap.size, 0, none⟩ = some (.int .i64 s) := hC2.1
    have c1 : w2.cell? ⟨w.heap.size, 1, none⟩ = some (.int .i64 j) := hC2.2.1
    have c2 : w2.cell? ⟨w.heap.size, 2, none⟩ = some (.int .i64 m) := hC2.2.2.1
    have c3 : w2.cell? ⟨w.heap.size, 3, none⟩ = some (.int .i64 g) := hC2.2.2.2.1
    have c4 : w2.cell? ⟨w.heap.size, 4, none⟩ = some (.int .i64 o) := hC2.2.2.2.2.1
    have c5 : Below w.heap.size w w2 := hC2.2.2.2.2.2
    go_wp2_with fail
    go_ret
    exact ⟨retI (by simp [wideA, hm]), c5⟩
  cases hc : inB c 0 100000
  case false =>
    go_enter Try.func54, Try.ntmps54
    go_wp2_with fail
    refine (specRulesOk_c _ _ _ _ _ _).mono ?_
    rintro e w1 ⟨rfl, hb1⟩
    have hC1 : s3W w s j m g o w1 := ⟨cellOn hb1 (by go_simp), cellOn hb1 (by go_simp), cellOn hb1 (by go_simp), cellOn hb1 (by go_simp), cellOn hb1 (by go_simp), nbTrans (nbAlloc (Below.refl _ _) _) hb1⟩
    have hB1 : Below w.heap.size w w1 := hC1.2.2.2.2.2
    have c0 : w1.cell? ⟨w.heap.size, 0, none⟩ = some (.int .i64 s) := hC1.1
    have c1 : w1.cell? ⟨w.heap.size, 1, none⟩ = some (.int .i64 j) := hC1.2.1
    have c2 : w1.cell? ⟨w.heap.size, 2, none⟩ = some (.int .i64 m) := hC1.2.2.1
    have c3 : w1.cell? ⟨w.heap.size, 3, none⟩ = some (.int .i64 g) := hC1.2.2.2.1
    have c4 : w1.cell? ⟨w.heap.size, 4, none⟩ = some (.int .i64 o) := hC1.2.2.2.2.1
    have c5 : Below w.heap.size w w1 := hC1.2.2.2.2.2
    go_wp2_with fail
    refine (HM.out _ hB1).mono ?_
    rintro e w2 ⟨rfl, hb2⟩
    have hC2 := s3W_on hC1 hb2
    clear hC1 c0 c1 c2 c3 c4 c5
    have c0 : w2.cell? ⟨w.heap.size, 0, none⟩ = some (.int .i64 s) := hC2.1
    have c1 : w2.cell? ⟨w.heap.size, 1, none⟩ = some (.int .i64 j) := hC2.2.1
    have c2 : w2.cell? ⟨w.heap.size, 2, none⟩ = some (.int .i64 m) := hC2.2.2.1
    have c3 : w2.cell? ⟨w.heap.size, 3, none⟩ = some (.int .i64 g) := hC2.2.2.2.1
    have c4 : w2.cell? ⟨w.heap.size, 4, none⟩ = some (.int .i64 o) := hC2.2.2.2.2.1
    have c5 : Below w.heap.size w w2 := hC2.2.2.2.2.2
    go_wp2_with fail
    refine (l1in_c _ _ _ _).mono ?_
    rintro e w' ⟨rfl, rfl⟩
    go_wp2_with fail
    go_ret
    exact ⟨retI (by simp [wideA, hc]), c5⟩
  have HA : Hid (wideA s j m g o f a len c = 2 * m + mst s j c - lst s j c) := by unfold Hid; simp [wideA, hr, hm, hc]
  have hr' := hr
  simp only [rOk, inB, Bool.and_eq_true, decide_eq_true_eq] at hr'
  have hc' := hc
  simp only [inB, Bool.and_eq_true, decide_eq_true_eq] at hc'
  have l0 := lst_nonneg (s := s) (j := j) (c := c) (by omega)
  have l1 := lst_le (s := s) (j := j) (c := c) (by omega) (by omega) hc'.1
  have l2 := mst_ge (s := s) (j := j) (c := c) (by omega) (by omega) (by omega) hc'.1
  have l3 := mst_le (s := s) (j := j) (c := c) (by omega) (by omega) (by omega) hc'.2
  have wr1 : IntKind.i64.wrap (2 * m) = 2 * m := wrapS (by omega) (by omega)
  have wr2 : IntKind.i64.wrap (2 * m + mst s j c) = 2 * m + mst s j c := wrapS (by omega) (by omega)
  have wr3 : IntKind.i64.wrap (2 * m + mst s j c - lst s j c) = 2 * m + mst s j c - lst s j c := wrapS (by omega) (by omega)
  rw [HA.out]
  go_enter Try.func54, Try.ntmps54
  go_wp2_with fail
  refine (specRulesOk_c _ _ _ _ _ _).mono ?_
  rintro e w1 ⟨rfl, hb1⟩
  have hC1 : s3W w s j m g o w1 := ⟨cellOn hb1 (by go_simp), cellOn hb1 (by go_simp), cellOn hb1 (by go_simp), cellOn hb1 (by go_simp), cellOn hb1 (by go_simp), nbTrans (nbAlloc (Below.refl _ _) _) hb1⟩
  have hB1 : Below w.heap.size w w1 := hC1.2.2.2.2.2
  have c0 : w1.cell? ⟨w.heap.size, 0, none⟩ = some (.int .i64 s) := hC1.1
  have c1 : w1.cell? ⟨w.heap.size, 1, none⟩ = some (.int .i64 j) := hC1.2.1
  have c2 : w1.cell? ⟨w.heap.size, 2, none⟩ = some (.int .i64 m) := hC1.2.2.1
  have c3 : w1.cell? ⟨w.heap.size, 3, none⟩ = some (.int .i64 g) := hC1.2.2.2.1
  have c4 : w1.cell? ⟨w.heap.size, 4, none⟩ = some (.int .i64 o) := hC1.2.2.2.2.1
  have c5 : Below w.heap.size w w1 := hC1.2.2.2.2.2
  go_wp2_with fail
  refine (HM.out _ hB1).mono ?_
  rintro e w2 ⟨rfl, hb2⟩
  have hC2 := s3W_on hC1 hb2
  clear hC1 c0 c1 c2 c3 c4 c5
  have c0 : w2.cell? ⟨w.heap.size, 0, none⟩ = some (.int .i64 s) := hC2.1
  have c1 : w2.cell? ⟨w.heap.size, 1, none⟩ = some (.int .i64 j) := hC2.2.1
  have c2 : w2.cell? ⟨w.heap.size, 2, none⟩ = some (.int .i64 m) := hC2.2.2.1
  have c3 : w2.cell? ⟨w.heap.size, 3, none⟩ = some (.int .i64 g) := hC2.2.2.2.1
  have c4 : w2.cell? ⟨w.heap.size, 4, none⟩ = some (.int .i64 o) := hC2.2.2.2.2.1
  have c5 : Below w.heap.size w w2 := hC2.2.2.2.2.2
  go_wp2_with fail
  refine (l1in_c _ _ _ _).mono ?_
  rintro e w' ⟨rfl, rfl⟩
  go_wp2_with fail
  clear c0 c1 c2 c3 c4 c5
  refine region_kept (s3W w s j m g o) (by kernel_rfl) (by kernel_rfl) (s3W_on hC2 (Below.drew (Below.refl _ _))) ?_
  intro hN_
  have k0 : ∀ d : Kept (s3W w s j m g o), d.w.cell? ⟨w.heap.size, 0, none⟩ = some (.int .i64 s) := fun d => d.h.1
  have k1 : ∀ d : Kept (s3W w s j m g o), d.w.cell? ⟨w.heap.size, 1, none⟩ = some (.int .i64 j) := fun d => d.h.2.1
  have k2 : ∀ d : Kept (s3W w s j m g o), d.w.cell? ⟨w.heap.size, 2, none⟩ = some (.int .i64 m) := fun d => d.h.2.2.1
  have k3 : ∀ d : Kept (s3W w s j m g o), d.w.cell? ⟨w.heap.size, 3, none⟩ = some (.int .i64 g) := fun d => d.h.2.2.2.1
  have k4 : ∀ d : Kept (s3W w s j m g o), d.w.cell? ⟨w.heap.size, 4, none⟩ = some (.int .i64 o) := fun d => d.h.2.2.2.2.1
  repeat (go_big_quiet_step (first | (go_at_call 90; exact call_kept _ s3W_on (l1most_c _ _ _ _ _ _ _ (by omega) (by omega) (by omega) (by omega) (by omega) (by omega))) | (go_at_call 91; exact call_kept _ s3W_on (l1least_c _ _ _ _ _ _ _ (by omega) (by omega) (by omega) (by omega) (by omega) (by omega))) | exact rfl))
  refine wpQuiet_nil ?_
  rintro w6 ⟨d, hd2⟩
  have hd := d.h
  rw [← hd2] at hd
  clear hd2 k0 k1 k2 k3 k4
  go_wp2_with fail
  go_ret
  exact ⟨rfl, hd.2.2.2.2.2⟩

theorem specWide_c (b off len cap : Nat) (f a : Nat → Int) (s j m g o c : Int) (w : World) (hl : len ≤ 1048576) (hrow : Row2 w b off len f a) :
    Calls Try.prog 54 #[.agg #[.int .i64 s, .int .i64 j, .int .i64 m, .int .i64 g, .int .i64 o], .slice (some ⟨b, off, none⟩) len cap, .int .i64 c] w fun e w' => e = .returned (.int .i64 (wideA s j m g o f a len c)) ∧ Below w.heap.size w w' :=
  specWide_m (some ⟨b, off, none⟩) len cap f a s j m g o c w (fun w' hb => specMarksOk_c b off len cap f a w' hl (hrow.on hb))

set_option maxHeartbeats 400000 in
theorem specMarksOk_0 (ad : Option Addr) (cap : Nat) (f a : Nat → Int) (w : World) :
    Calls Try.prog 20 #[.slice ad 0 cap] w fun e w' => e = .returned (.bool (marksB f a 0)) ∧ Below w.heap.size w w' := by
  go_enter Try.func20, Try.ntmps20
  go_wp2_with fail
  refine wp_loop_rounds 1 ?_
  rw [rounds_succ]
  go_wp2_with fail
  go_ret
  exact ⟨rfl, Below.refl _ _⟩

theorem specWide_s (ad : Option Addr) (len cap : Nat) (f a : Nat → Int) (s j m g o c : Int) (w : World) (hl : len ≤ 1048576) (hrow : SRow w ad len f a) :
    Calls Try.prog 54 #[.agg #[.int .i64 s, .int .i64 j, .int .i64 m, .int .i64 g, .int .i64 o], .slice ad len cap, .int .i64 c] w fun e w' => e = .returned (.int .i64 (wideA s j m g o f a len c)) ∧ Below w.heap.size w w' := by
  rcases hrow with rfl | ⟨b, off, rfl, h⟩
  · exact specWide_m ad 0 cap f a s j m g o c w (fun w' _ => specMarksOk_0 ad cap f a w')
  · exact specWide_c b off len cap f a s j m g o c w hl h

def surelyA (s j m g o : Int) (kn : Bool) (l h : Int) : Int × Int := if q3 s j m g o kn l h then (let lo := if g < o then h else h - g + o; if l < lo then (1, 0) else (lo, l)) else (1, 0)
set_option maxHeartbeats 2000000 in
theorem specSurely_c (s j m g o : Int) (kn : Bool) (l h si la od : Int) (w : World) :
    Calls Try.prog 46 #[.agg #[.int .i64 s, .int .i64 j, .int .i64 m, .int .i64 g, .int .i64 o], .agg #[.bool kn, .int .i64 l, .int .i64 h, .int .i64 si, .int .i64 la, .int .i64 od]] w fun e w' => e = .returned (.agg #[.int .i64 (surelyA s j m g o kn l h).1, .int .i64 (surelyA s j m g o kn l h).2]) ∧ Below w.heap.size w w' := by
  cases hq : q3 s j m g o kn l h
  · have e1 : surelyA s j m g o kn l h = (1, 0) := by simp [surelyA, hq]
    rw [e1]
    go_enter Try.func46, Try.ntmps46
    go_wp2_with fail
    refine (l3state_c _ _ _ _ _ _ _ _ _ _ _ _).mono ?_
    rintro e w1 ⟨rfl, hb1⟩
    have hC1 : s3B w s j m g o kn l h si la od w1 := ⟨cellOn hb1 (by go_simp), cellOn hb1 (by go_simp), cellOn hb1 (by go_simp), cellOn hb1 (by go_simp), cellOn hb1 (by go_simp), cellOn hb1 (by go_simp), cellOn hb1 (by go_simp), cellOn hb1 (by go_simp), cellOn hb1 (by go_simp), cellOn hb1 (by go_simp), cellOn hb1 (by go_simp), cellOn hb1 (by go_simp), cellOn hb1 (by go_simp), frozenOn hb1 (v := .int .i64 0) (by go_simp) (by go_simp), frozenOn hb1 (v := .int .i64 0) (by go_simp) (by go_simp), nbTrans (nbAlloc (nbAlloc (nbAlloc (Below.refl _ _) _) _) _) hb1⟩
    have c0 : w1.cell? ⟨w.heap.size, 0, none⟩ = some (.int .i64 s) := hC1.1
    have c1 : w1.cell? ⟨w.heap.size, 1, none⟩ = some (.int .i64 j) := hC1.2.1
    have c2 : w1.cell? ⟨w.heap.size, 2, none⟩ = some (.int .i64 m) := hC1.2.2.1
    have c3 : w1.cell? ⟨w.heap.size, 3, none⟩ = some (.int .i64 g) := hC1.2.2.2.1
    have c4 : w1.cell? ⟨w.heap.size, 4, none⟩ = some (.int .i64 o) := hC1.2.2.2.2.1
    have c5 : w1.cell? ⟨w.heap.size + 1, 0, none⟩ = some (.bool kn) := hC1.2.2.2.2.2.1
    have c6 : w1.cell? ⟨w.heap.size + 1, 1, none⟩ = some (.int .i64 l) := hC1.2.2.2.2.2.2.1
    have c7 : w1.cell? ⟨w.heap.size + 1, 2, none⟩ = some (.int .i64 h) := hC1.2.2.2.2.2.2.2.1
    have c8 : w1.cell? ⟨w.heap.size + 1, 3, none⟩ = some (.int .i64 si) := hC1.2.2.2.2.2.2.2.2.1
    have c9 : w1.cell? ⟨w.heap.size + 1, 4, none⟩ = some (.int .i64 la) := hC1.2.2.2.2.2.2.2.2.2.1
    have c10 : w1.cell? ⟨w.heap.size + 1, 5, none⟩ = some (.int .i64 od) := hC1.2.2.2.2.2.2.2.2.2.2.1
    have c11 : w1.cell? ⟨w.heap.size + 1 + 1, 0, none⟩ = some (.int .i64 0) := hC1.2.2.2.2.2.2.2.2.2.2.2.1
    have c12 : w1.cell? ⟨w.heap.size + 1 + 1, 1, none⟩ = some (.int .i64 0) := hC1.2.2.2.2.2.2.2.2.2.2.2.2.1
    have c13 : w1.frozen? ⟨w.heap.size + 1 + 1, 0, none⟩ = false := hC1.2.2.2.2.2.2.2.2.2.2.2.2.2.1
    have c14 : w1.frozen? ⟨w.heap.size + 1 + 1, 1, none⟩ = false := hC1.2.2.2.2.2.2.2.2.2.2.2.2.2.2.1
    have c15 : Below w.heap.size w w1 := hC1.2.2.2.2.2.2.2.2.2.2.2.2.2.2.2
    go_wp2_with fail
    have hq2 : w.heap.size ≤ w.heap.size + 1 + 1 := by omega
    exact bodyPost_ret (v := .agg #[.int .i64 1, .int .i64 0]) (by simp [results, Try.results46, go_sem, *]) rfl ⟨rfl, (nbSetX (nbSetX c15 hq2) hq2)⟩
  obtain ⟨g0, g1, o0, o1, l0, lh, h1⟩ := q3_parts hq
  have wr1 : IntKind.i64.wrap (h - g) = h - g := wrapS (by omega) (by omega)
  have wr2 : IntKind.i64.wrap (h - g + o) = h - g + o := wrapS (by omega) (by omega)
  by_cases hgo : g < o
  · by_cases hll : l < h
    · have e1 : surelyA s j m g o kn l h = (1, 0) := by simp [surelyA, hq, hgo, hll]
      rw [e1]
      clear e1
      go_enter Try.func46, Try.ntmps46
      go_wp2_with fail
      refine (l3state_c _ _ _ _ _ _ _ _ _ _ _ _).mono ?_
      rintro e w1 ⟨rfl, hb1⟩
      have hC1 : s3B w s j m g o kn l h si la od w1 := ⟨cellOn hb1 (by go_simp), cellOn hb1 (by go_simp), cellOn hb1 (by go_simp), cellOn hb1 (by go_simp), cellOn hb1 (by go_simp), cellOn hb1 (by go_simp), cellOn hb1 (by go_simp), cellOn hb1 (by go_simp), cellOn hb1 (by go_simp), cellOn hb1 (by go_simp), cellOn hb1 (by go_simp), cellOn hb1 (by go_simp), cellOn hb1 (by go_simp), frozenOn hb1 (v := .int .i64 0) (by go_simp) (by go_simp), frozenOn hb1 (v := .int .i64 0) (by go_simp) (by go_simp), nbTrans (nbAlloc (nbAlloc (nbAlloc (Below.refl _ _) _) _) _) hb1⟩
      have c0 : w1.cell? ⟨w.heap.size, 0, none⟩ = some (.int .i64 s) := hC1.1
      have c1 : w1.cell? ⟨w.heap.size, 1, none⟩ = some (.int .i64 j) := hC1.2.1
      have c2 : w1.cell? ⟨w.heap.size, 2, none⟩ = some (.int .i64 m) := hC1.2.2.1
      have c3 : w1.cell? ⟨w.heap.size, 3, none⟩ = some (.int .i64 g) := hC1.2.2.2.1
      have c4 : w1.cell? ⟨w.heap.size, 4, none⟩ = some (.int .i64 o) := hC1.2.2.2.2.1
      have c5 : w1.cell? ⟨w.heap.size + 1, 0, none⟩ = some (.bool kn) := hC1.2.2.2.2.2.1
      have c6 : w1.cell? ⟨w.heap.size + 1, 1, none⟩ = some (.int .i64 l) := hC1.2.2.2.2.2.2.1
      have c7 : w1.cell? ⟨w.heap.size + 1, 2, none⟩ = some (.int .i64 h) := hC1.2.2.2.2.2.2.2.1
      have c8 : w1.cell? ⟨w.heap.size + 1, 3, none⟩ = some (.int .i64 si) := hC1.2.2.2.2.2.2.2.2.1
      have c9 : w1.cell? ⟨w.heap.size + 1, 4, none⟩ = some (.int .i64 la) := hC1.2.2.2.2.2.2.2.2.2.1
      have c10 : w1.cell? ⟨w.heap.size + 1, 5, none⟩ = some (.int .i64 od) := hC1.2.2.2.2.2.2.2.2.2.2.1
      have c11 : w1.cell? ⟨w.heap.size + 1 + 1, 0, none⟩ = some (.int .i64 0) := hC1.2.2.2.2.2.2.2.2.2.2.2.1
      have c12 : w1.cell? ⟨w.heap.size + 1 + 1, 1, none⟩ = some (.int .i64 0) := hC1.2.2.2.2.2.2.2.2.2.2.2.2.1
      have c13 : w1.frozen? ⟨w.heap.size + 1 + 1, 0, none⟩ = false := hC1.2.2.2.2.2.2.2.2.2.2.2.2.2.1
      have c14 : w1.frozen? ⟨w.heap.size + 1 + 1, 1, none⟩ = false := hC1.2.2.2.2.2.2.2.2.2.2.2.2.2.2.1
      have c15 : Below w.heap.size w w1 := hC1.2.2.2.2.2.2.2.2.2.2.2.2.2.2.2
      have hC2 := s3B_on hC1 (nbAlloc (Below.refl w1.heap.size w1) (.cells #[.int .i64 (h - g + o), .int .i64 l] 24))
      have d0 : (w1.alloc (.cells #[.int .i64 (h - g + o), .int .i64 l] 24)).cell? ⟨w.heap.size, 0, none⟩ = some (.int .i64 s) := hC2.1
      have d1 : (w1.alloc (.cells #[.int .i64 (h - g + o), .int .i64 l] 24)).cell? ⟨w.heap.size, 1, none⟩ = some (.int .i64 j) := hC2.2.1
      have d2 : (w1.alloc (.cells #[.int .i64 (h - g + o), .int .i64 l] 24)).cell? ⟨w.heap.size, 2, none⟩ = some (.int .i64 m) := hC2.2.2.1
      have d3 : (w1.alloc (.cells #[.int .i64 (h - g + o), .int .i64 l] 24)).cell? ⟨w.heap.size, 3, none⟩ = some (.int .i64 g) := hC2.2.2.2.1
      have d4 : (w1.alloc (.cells #[.int .i64 (h - g + o), .int .i64 l] 24)).cell? ⟨w.heap.size, 4, none⟩ = some (.int .i64 o) := hC2.2.2.2.2.1
      have d5 : (w1.alloc (.cells #[.int .i64 (h - g + o), .int .i64 l] 24)).cell? ⟨w.heap.size + 1, 0, none⟩ = some (.bool kn) := hC2.2.2.2.2.2.1
      have d6 : (w1.alloc (.cells #[.int .i64 (h - g + o), .int .i64 l] 24)).cell? ⟨w.heap.size + 1, 1, none⟩ = some (.int .i64 l) := hC2.2.2.2.2.2.2.1
      have d7 : (w1.alloc (.cells #[.int .i64 (h - g + o), .int .i64 l] 24)).cell? ⟨w.heap.size + 1, 2, none⟩ = some (.int .i64 h) := hC2.2.2.2.2.2.2.2.1
      have d8 : (w1.alloc (.cells #[.int .i64 (h - g + o), .int .i64 l] 24)).cell? ⟨w.heap.size + 1, 3, none⟩ = some (.int .i64 si) := hC2.2.2.2.2.2.2.2.2.1
      have d9 : (w1.alloc (.cells #[.int .i64 (h - g + o), .int .i64 l] 24)).cell? ⟨w.heap.size + 1, 4, none⟩ = some (.int .i64 la) := hC2.2.2.2.2.2.2.2.2.2.1
      have d10 : (w1.alloc (.cells #[.int .i64 (h - g + o), .int .i64 l] 24)).cell? ⟨w.heap.size + 1, 5, none⟩ = some (.int .i64 od) := hC2.2.2.2.2.2.2.2.2.2.2.1
      have d11 : (w1.alloc (.cells #[.int .i64 (h - g + o), .int .i64 l] 24)).cell? ⟨w.heap.size + 1 + 1, 0, none⟩ = some (.int .i64 0) := hC2.2.2.2.2.2.2.2.2.2.2.2.1
      have d12 : (w1.alloc (.cells #[.int .i64 (h - g + o), .int .i64 l] 24)).cell? ⟨w.heap.size + 1 + 1, 1, none⟩ = some (.int .i64 0) := hC2.2.2.2.2.2.2.2.2.2.2.2.2.1
      have d13 : (w1.alloc (.cells #[.int .i64 (h - g + o), .int .i64 l] 24)).frozen? ⟨w.heap.size + 1 + 1, 0, none⟩ = false := hC2.2.2.2.2.2.2.2.2.2.2.2.2.2.1
      have d14 : (w1.alloc (.cells #[.int .i64 (h - g + o), .int .i64 l] 24)).frozen? ⟨w.heap.size + 1 + 1, 1, none⟩ = false := hC2.2.2.2.2.2.2.2.2.2.2.2.2.2.2.1
      have d15 : Below w.heap.size w (w1.alloc (.cells #[.int .i64 (h - g + o), .int .i64 l] 24)) := hC2.2.2.2.2.2.2.2.2.2.2.2.2.2.2.2
      have hlt := ltCell c11
      have hne : w.heap.size + 1 + 1 ≠ w1.heap.size := by omega
      go_wp2_with fail
      have hq2 : w.heap.size ≤ w.heap.size + 1 + 1 := by omega
      exact bodyPost_ret (v := .agg #[.int .i64 1, .int .i64 0]) (by simp [results, Try.results46, go_sem, *]) rfl ⟨rfl, nbAlloc (nbSetX (nbSetX c15 hq2) hq2) _⟩
    · have e1 : surelyA s j m g o kn l h = (h, l) := by simp [surelyA, hq, hgo, hll]
      rw [e1]
      clear e1
      go_enter Try.func46, Try.ntmps46
      go_wp2_with fail
      refine (l3state_c _ _ _ _ _ _ _ _ _ _ _ _).mono ?_
      rintro e w1 ⟨rfl, hb1⟩
      have hC1 : s3B w s j m g o kn l h si la od w1 := ⟨cellOn hb1 (by go_simp), cellOn hb1 (by go_simp), cellOn hb1 (by go_simp), cellOn hb1 (by go_simp), cellOn hb1 (by go_simp), cellOn hb1 (by go_simp), cellOn hb1 (by go_simp), cellOn hb1 (by go_simp), cellOn hb1 (by go_simp), cellOn hb1 (by go_simp), cellOn hb1 (by go_simp), cellOn hb1 (by go_simp), cellOn hb1 (by go_simp), frozenOn hb1 (v := .int .i64 0) (by go_simp) (by go_simp), frozenOn hb1 (v := .int .i64 0) (by go_simp) (by go_simp), nbTrans (nbAlloc (nbAlloc (nbAlloc (Below.refl _ _) _) _) _) hb1⟩
      have c0 : w1.cell? ⟨w.heap.size, 0, none⟩ = some (.int .i64 s) := hC1.1
      have c1 : w1.cell? ⟨w.heap.size, 1, none⟩ = some (.int .i64 j) := hC1.2.1
      have c2 : w1.cell? ⟨w.heap.size, 2, none⟩ = some (.int .i64 m) := hC1.2.2.1
      have c3 : w1.cell? ⟨w.heap.size, 3, none⟩ = some (.int .i64 g) := hC1.2.2.2.1
      have c4 : w1.cell? ⟨w.heap.size, 4, none⟩ = some (.int .i64 o) := hC1.2.2.2.2.1
      have c5 : w1.cell? ⟨w.heap.size + 1, 0, none⟩ = some (.bool kn) := hC1.2.2.2.2.2.1
      have c6 : w1.cell? ⟨w.heap.size + 1, 1, none⟩ = some (.int .i64 l) := hC1.2.2.2.2.2.2.1
      have c7 : w1.cell? ⟨w.heap.size + 1, 2, none⟩ = some (.int .i64 h) := hC1.2.2.2.2.2.2.2.1
      have c8 : w1.cell? ⟨w.heap.size + 1, 3, none⟩ = some (.int .i64 si) := hC1.2.2.2.2.2.2.2.2.1
      have c9 : w1.cell? ⟨w.heap.size + 1, 4, none⟩ = some (.int .i64 la) := hC1.2.2.2.2.2.2.2.2.2.1
      have c10 : w1.cell? ⟨w.heap.size + 1, 5, none⟩ = some (.int .i64 od) := hC1.2.2.2.2.2.2.2.2.2.2.1
      have c11 : w1.cell? ⟨w.heap.size + 1 + 1, 0, none⟩ = some (.int .i64 0) := hC1.2.2.2.2.2.2.2.2.2.2.2.1
      have c12 : w1.cell? ⟨w.heap.size + 1 + 1, 1, none⟩ = some (.int .i64 0) := hC1.2.2.2.2.2.2.2.2.2.2.2.2.1
      have c13 : w1.frozen? ⟨w.heap.size + 1 + 1, 0, none⟩ = false := hC1.2.2.2.2.2.2.2.2.2.2.2.2.2.1
      have c14 : w1.frozen? ⟨w.heap.size + 1 + 1, 1, none⟩ = false := hC1.2.2.2.2.2.2.2.2.2.2.2.2.2.2.1
      have c15 : Below w.heap.size w w1 := hC1.2.2.2.2.2.2.2.2.2.2.2.2.2.2.2
      have hC2 := s3B_on hC1 (nbAlloc (Below.refl w1.heap.size w1) (.cells #[.int .i64 (h - g + o), .int .i64 l] 24))
      have d0 : (w1.alloc (.cells #[.int .i64 (h - g + o), .int .i64 l] 24)).cell? ⟨w.heap.size, 0, none⟩ = some (.int .i64 s) := hC2.1
      have d1 : (w1.alloc (.cells #[.int .i64 (h - g + o), .int .i64 l] 24)).cell? ⟨w.heap.size, 1, none⟩ = some (.int .i64 j) := hC2.2.1
      have d2 : (w1.alloc (.cells #[.int .i64 (h - g + o), .int .i64 l] 24)).cell? ⟨w.heap.size, 2, none⟩ = some (.int .i64 m) := hC2.2.2.1
      have d3 : (w1.alloc (.cells #[.int .i64 (h - g + o), .int .i64 l] 24)).cell? ⟨w.heap.size, 3, none⟩ = some (.int .i64 g) := hC2.2.2.2.1
      have d4 : (w1.alloc (.cells #[.int .i64 (h - g + o), .int .i64 l] 24)).cell? ⟨w.heap.size, 4, none⟩ = some (.int .i64 o) := hC2.2.2.2.2.1
      have d5 : (w1.alloc (.cells #[.int .i64 (h - g + o), .int .i64 l] 24)).cell? ⟨w.heap.size + 1, 0, none⟩ = some (.bool kn) := hC2.2.2.2.2.2.1
      have d6 : (w1.alloc (.cells #[.int .i64 (h - g + o), .int .i64 l] 24)).cell? ⟨w.heap.size + 1, 1, none⟩ = some (.int .i64 l) := hC2.2.2.2.2.2.2.1
      have d7 : (w1.alloc (.cells #[.int .i64 (h - g + o), .int .i64 l] 24)).cell? ⟨w.heap.size + 1, 2, none⟩ = some (.int .i64 h) := hC2.2.2.2.2.2.2.2.1
      have d8 : (w1.alloc (.cells #[.int .i64 (h - g + o), .int .i64 l] 24)).cell? ⟨w.heap.size + 1, 3, none⟩ = some (.int .i64 si) := hC2.2.2.2.2.2.2.2.2.1
      have d9 : (w1.alloc (.cells #[.int .i64 (h - g + o), .int .i64 l] 24)).cell? ⟨w.heap.size + 1, 4, none⟩ = some (.int .i64 la) := hC2.2.2.2.2.2.2.2.2.2.1
      have d10 : (w1.alloc (.cells #[.int .i64 (h - g + o), .int .i64 l] 24)).cell? ⟨w.heap.size + 1, 5, none⟩ = some (.int .i64 od) := hC2.2.2.2.2.2.2.2.2.2.2.1
      have d11 : (w1.alloc (.cells #[.int .i64 (h - g + o), .int .i64 l] 24)).cell? ⟨w.heap.size + 1 + 1, 0, none⟩ = some (.int .i64 0) := hC2.2.2.2.2.2.2.2.2.2.2.2.1
      have d12 : (w1.alloc (.cells #[.int .i64 (h - g + o), .int .i64 l] 24)).cell? ⟨w.heap.size + 1 + 1, 1, none⟩ = some (.int .i64 0) := hC2.2.2.2.2.2.2.2.2.2.2.2.2.1
      have d13 : (w1.alloc (.cells #[.int .i64 (h - g + o), .int .i64 l] 24)).frozen? ⟨w.heap.size + 1 + 1, 0, none⟩ = false := hC2.2.2.2.2.2.2.2.2.2.2.2.2.2.1
      have d14 : (w1.alloc (.cells #[.int .i64 (h - g + o), .int .i64 l] 24)).frozen? ⟨w.heap.size + 1 + 1, 1, none⟩ = false := hC2.2.2.2.2.2.2.2.2.2.2.2.2.2.2.1
      have d15 : Below w.heap.size w (w1.alloc (.cells #[.int .i64 (h - g + o), .int .i64 l] 24)) := hC2.2.2.2.2.2.2.2.2.2.2.2.2.2.2.2
      have hlt := ltCell c11
      have hne : w.heap.size + 1 + 1 ≠ w1.heap.size := by omega
      go_wp2_with fail
      have hq2 : w.heap.size ≤ w.heap.size + 1 + 1 := by omega
      exact bodyPost_ret (v := .agg #[.int .i64 h, .int .i64 l]) (by simp [results, Try.results46, go_sem, *]) rfl ⟨rfl, nbAlloc (nbSetX (nbSetX c15 hq2) hq2) _⟩
  · by_cases hll : l < h - g + o
    · have e1 : surelyA s j m g o kn l h = (1, 0) := by simp [surelyA, hq, hgo, hll]
      rw [e1]
      clear e1
      go_enter Try.func46, Try.ntmps46
      go_wp2_with fail
      refine (l3state_c _ _ _ _ _ _ _ _ _ _ _ _).mono ?_
      rintro e w1 ⟨rfl, hb1⟩
      have hC1 : s3B w s j m g o kn l h si la od w1 := ⟨cellOn hb1 (by go_simp), cellOn hb1 (by go_simp), cellOn hb1 (by go_simp), cellOn hb1 (by go_simp), cellOn hb1 (by go_simp), cellOn hb1 (by go_simp), cellOn hb1 (by go_simp), cellOn hb1 (by go_simp), cellOn hb1 (by go_simp), cellOn hb1 (by go_simp), cellOn hb1 (by go_simp), cellOn hb1 (by go_simp), cellOn hb1 (by go_simp), frozenOn hb1 (v := .int .i64 0) (by go_simp) (by go_simp), frozenOn hb1 (v := .int .i64 0) (by go_simp) (by go_simp), nbTrans (nbAlloc (nbAlloc (nbAlloc (Below.refl _ _) _) _) _) hb1⟩
      have c0 : w1.cell? ⟨w.heap.size, 0, none⟩ = some (.int .i64 s) := hC1.1
      have c1 : w1.cell? ⟨w.heap.size, 1, none⟩ = some (.int .i64 j) := hC1.2.1
      have c2 : w1.cell? ⟨w.heap.size, 2, none⟩ = some (.int .i64 m) := hC1.2.2.1
      have c3 : w1.cell? ⟨w.heap.size, 3, none⟩ = some (.int .i64 g) := hC1.2.2.2.1
      have c4 : w1.cell? ⟨w.heap.size, 4, none⟩ = some (.int .i64 o) := hC1.2.2.2.2.1
      have c5 : w1.cell? ⟨w.heap.size + 1, 0, none⟩ = some (.bool kn) := hC1.2.2.2.2.2.1
      have c6 : w1.cell? ⟨w.heap.size + 1, 1, none⟩ = some (.int .i64 l) := hC1.2.2.2.2.2.2.1
      have c7 : w1.cell? ⟨w.heap.size + 1, 2, none⟩ = some (.int .i64 h) := hC1.2.2.2.2.2.2.2.1
      have c8 : w1.cell? ⟨w.heap.size + 1, 3, none⟩ = some (.int .i64 si) := hC1.2.2.2.2.2.2.2.2.1
      have c9 : w1.cell? ⟨w.heap.size + 1, 4, none⟩ = some (.int .i64 la) := hC1.2.2.2.2.2.2.2.2.2.1
      have c10 : w1.cell? ⟨w.heap.size + 1, 5, none⟩ = some (.int .i64 od) := hC1.2.2.2.2.2.2.2.2.2.2.1
      have c11 : w1.cell? ⟨w.heap.size + 1 + 1, 0, none⟩ = some (.int .i64 0) := hC1.2.2.2.2.2.2.2.2.2.2.2.1
      have c12 : w1.cell? ⟨w.heap.size + 1 + 1, 1, none⟩ = some (.int .i64 0) := hC1.2.2.2.2.2.2.2.2.2.2.2.2.1
      have c13 : w1.frozen? ⟨w.heap.size + 1 + 1, 0, none⟩ = false := hC1.2.2.2.2.2.2.2.2.2.2.2.2.2.1
      have c14 : w1.frozen? ⟨w.heap.size + 1 + 1, 1, none⟩ = false := hC1.2.2.2.2.2.2.2.2.2.2.2.2.2.2.1
      have c15 : Below w.heap.size w w1 := hC1.2.2.2.2.2.2.2.2.2.2.2.2.2.2.2
      have hC2 := s3B_on hC1 (nbAlloc (Below.refl w1.heap.size w1) (.cells #[.int .i64 (h - g + o), .int .i64 l] 24))
      have d0 : (w1.alloc (.cells #[.int .i64 (h - g + o), .int .i64 l] 24)).cell? ⟨w.heap.size, 0, none⟩ = some (.int .i64 s) := hC2.1
      have d1 : (w1.alloc (.cells #[.int .i64 (h - g + o), .int .i64 l] 24)).cell? ⟨w.heap.size, 1, none⟩ = some (.int .i64 j) := hC2.2.1
      have d2 : (w1.alloc (.cells #[.int .i64 (h - g + o), .int .i64 l] 24)).cell? ⟨w.heap.size, 2, none⟩ = some (.int .i64 m) := hC2.2.2.1
      have d3 : (w1.alloc (.cells #[.int .i64 (h - g + o), .int .i64 l] 24)).cell? ⟨w.heap.size, 3, none⟩ = some (.int .i64 g) := hC2.2.2.2.1
      have d4 : (w1.alloc (.cells #[.int .i64 (h - g + o), .int .i64 l] 24)).cell? ⟨w.heap.size, 4, none⟩ = some (.int .i64 o) := hC2.2.2.2.2.1
      have d5 : (w1.alloc (.cells #[.int .i64 (h - g + o), .int .i64 l] 24)).cell? ⟨w.heap.size + 1, 0, none⟩ = some (.bool kn) := hC2.2.2.2.2.2.1
      have d6 : (w1.alloc (.cells #[.int .i64 (h - g + o), .int .i64 l] 24)).cell? ⟨w.heap.size + 1, 1, none⟩ = some (.int .i64 l) := hC2.2.2.2.2.2.2.1
      have d7 : (w1.alloc (.cells #[.int .i64 (h - g + o), .int .i64 l] 24)).cell? ⟨w.heap.size + 1, 2, none⟩ = some (.int .i64 h) := hC2.2.2.2.2.2.2.2.1
      have d8 : (w1.alloc (.cells #[.int .i64 (h - g + o), .int .i64 l] 24)).cell? ⟨w.heap.size + 1, 3, none⟩ = some (.int .i64 si) := hC2.2.2.2.2.2.2.2.2.1
      have d9 : (w1.alloc (.cells #[.int .i64 (h - g + o), .int .i64 l] 24)).cell? ⟨w.heap.size + 1, 4, none⟩ = some (.int .i64 la) := hC2.2.2.2.2.2.2.2.2.2.1
      have d10 : (w1.alloc (.cells #[.int .i64 (h - g + o), .int .i64 l] 24)).cell? ⟨w.heap.size + 1, 5, none⟩ = some (.int .i64 od) := hC2.2.2.2.2.2.2.2.2.2.2.1
      have d11 : (w1.alloc (.cells #[.int .i64 (h - g + o), .int .i64 l] 24)).cell? ⟨w.heap.size + 1 + 1, 0, none⟩ = some (.int .i64 0) := hC2.2.2.2.2.2.2.2.2.2.2.2.1
      have d12 : (w1.alloc (.cells #[.int .i64 (h - g + o), .int .i64 l] 24)).cell? ⟨w.heap.size + 1 + 1, 1, none⟩ = some (.int .i64 0) := hC2.2.2.2.2.2.2.2.2.2.2.2.2.1
      have d13 : (w1.alloc (.cells #[.int .i64 (h - g + o), .int .i64 l] 24)).frozen? ⟨w.heap.size + 1 + 1, 0, none⟩ = false := hC2.2.2.2.2.2.2.2.2.2.2.2.2.2.1
      have d14 : (w1.alloc (.cells #[.int .i64 (h - g + o), .int .i64 l] 24)).frozen? ⟨w.heap.size + 1 + 1, 1, none⟩ = false := hC2.2.2.2.2.2.2.2.2.2.2.2.2.2.2.1
      have d15 : Below w.heap.size w (w1.alloc (.cells #[.int .i64 (h - g + o), .int .i64 l] 24)) := hC2.2.2.2.2.2.2.2.2.2.2.2.2.2.2.2
      have hlt := ltCell c11
      have hne : w.heap.size + 1 + 1 ≠ w1.heap.size := by omega
      go_wp2_with fail
      have hq2 : w.heap.size ≤ w.heap.size + 1 + 1 := by omega
      exact bodyPost_ret (v := .agg #[.int .i64 1, .int .i64 0]) (by simp [results, Try.results46, go_sem, *]) rfl ⟨rfl, nbAlloc (nbSetX (nbSetX c15 hq2) hq2) _⟩
    · have e1 : surelyA s j m g o kn l h = (h - g + o, l) := by simp [surelyA, hq, hgo, hll]
      rw [e1]
      clear e1
      go_enter Try.func46, Try.ntmps46
      go_wp2_with fail
      refine (l3state_c _ _ _ _ _ _ _ _ _ _ _ _).mono ?_
      rintro e w1 ⟨rfl, hb1⟩
      have hC1 : s3B w s j m g o kn l h si la od w1 := ⟨cellOn hb1 (by go_simp), cellOn hb1 (by go_simp), cellOn hb1 (by go_simp), cellOn hb1 (by go_simp), cellOn hb1 (by go_simp), cellOn hb1 (by go_simp), cellOn hb1 (by go_simp), cellOn hb1 (by go_simp), cellOn hb1 (by go_simp), cellOn hb1 (by go_simp), cellOn hb1 (by go_simp), cellOn hb1 (by go_simp), cellOn hb1 (by go_simp), frozenOn hb1 (v := .int .i64 0) (by go_simp) (by go_simp), frozenOn hb1 (v := .int .i64 0) (by go_simp) (by go_simp), nbTrans (nbAlloc (nbAlloc (nbAlloc (Below.refl _ _) _) _) _) hb1⟩
      have c0 : w1.cell? ⟨w.heap.size, 0, none⟩ = some (.int .i64 s) := hC1.1
      have c1 : w1.cell? ⟨w.heap.size, 1, none⟩ = some (.int .i64 j) := hC1.2.1
      have c2 : w1.cell? ⟨w.heap.size, 2, none⟩ = some (.int .i64 m) := hC1.2.2.1
      have c3 : w1.cell? ⟨w.heap.size, 3, none⟩ = some (.int .i64 g) := hC1.2.2.2.1
      have c4 : w1.cell? ⟨w.heap.size, 4, none⟩ = some (.int .i64 o) := hC1.2.2.2.2.1
      have c5 : w1.cell? ⟨w.heap.size + 1, 0, none⟩ = some (.bool kn) := hC1.2.2.2.2.2.1
      have c6 : w1.cell? ⟨w.heap.size + 1, 1, none⟩ = some (.int .i64 l) := hC1.2.2.2.2.2.2.1
      have c7 : w1.cell? ⟨w.heap.size + 1, 2, none⟩ = some (.int .i64 h) := hC1.2.2.2.2.2.2.2.1
      have c8 : w1.cell? ⟨w.heap.size + 1, 3, none⟩ = some (.int .i64 si) := hC1.2.2.2.2.2.2.2.2.1
      have c9 : w1.cell? ⟨w.heap.size + 1, 4, none⟩ = some (.int .i64 la) := hC1.2.2.2.2.2.2.2.2.2.1
      have c10 : w1.cell? ⟨w.heap.size + 1, 5, none⟩ = some (.int .i64 od) := hC1.2.2.2.2.2.2.2.2.2.2.1
      have c11 : w1.cell? ⟨w.heap.size + 1 + 1, 0, none⟩ = some (.int .i64 0) := hC1.2.2.2.2.2.2.2.2.2.2.2.1
      have c12 : w1.cell? ⟨w.heap.size + 1 + 1, 1, none⟩ = some (.int .i64 0) := hC1.2.2.2.2.2.2.2.2.2.2.2.2.1
      have c13 : w1.frozen? ⟨w.heap.size + 1 + 1, 0, none⟩ = false := hC1.2.2.2.2.2.2.2.2.2.2.2.2.2.1
      have c14 : w1.frozen? ⟨w.heap.size + 1 + 1, 1, none⟩ = false := hC1.2.2.2.2.2.2.2.2.2.2.2.2.2.2.1
      have c15 : Below w.heap.size w w1 := hC1.2.2.2.2.2.2.2.2.2.2.2.2.2.2.2
      have hC2 := s3B_on hC1 (nbAlloc (Below.refl w1.heap.size w1) (.cells #[.int .i64 (h - g + o), .int .i64 l] 24))
      have d0 : (w1.alloc (.cells #[.int .i64 (h - g + o), .int .i64 l] 24)).cell? ⟨w.heap.size, 0, none⟩ = some (.int .i64 s) := hC2.1
      have d1 : (w1.alloc (.cells #[.int .i64 (h - g + o), .int .i64 l] 24)).cell? ⟨w.heap.size, 1, none⟩ = some (.int .i64 j) := hC2.2.1
      have d2 : (w1.alloc (.cells #[.int .i64 (h - g + o), .int .i64 l] 24)).cell? ⟨w.heap.size, 2, none⟩ = some (.int .i64 m) := hC2.2.2.1
      have d3 : (w1.alloc (.cells #[.int .i64 (h - g + o), .int .i64 l] 24)).cell? ⟨w.heap.size, 3, none⟩ = some (.int .i64 g) := hC2.2.2.2.1
      have d4 : (w1.alloc (.cells #[.int .i64 (h - g + o), .int .i64 l] 24)).cell? ⟨w.heap.size, 4, none⟩ = some (.int .i64 o) := hC2.2.2.2.2.1
      have d5 : (w1.alloc (.cells #[.int .i64 (h - g + o), .int .i64 l] 24)).cell? ⟨w.heap.size + 1, 0, none⟩ = some (.bool kn) := hC2.2.2.2.2.2.1
      have d6 : (w1.alloc (.cells #[.int .i64 (h - g + o), .int .i64 l] 24)).cell? ⟨w.heap.size + 1, 1, none⟩ = some (.int .i64 l) := hC2.2.2.2.2.2.2.1
      have d7 : (w1.alloc (.cells #[.int .i64 (h - g + o), .int .i64 l] 24)).cell? ⟨w.heap.size + 1, 2, none⟩ = some (.int .i64 h) := hC2.2.2.2.2.2.2.2.1
      have d8 : (w1.alloc (.cells #[.int .i64 (h - g + o), .int .i64 l] 24)).cell? ⟨w.heap.size + 1, 3, none⟩ = some (.int .i64 si) := hC2.2.2.2.2.2.2.2.2.1
      have d9 : (w1.alloc (.cells #[.int .i64 (h - g + o), .int .i64 l] 24)).cell? ⟨w.heap.size + 1, 4, none⟩ = some (.int .i64 la) := hC2.2.2.2.2.2.2.2.2.2.1
      have d10 : (w1.alloc (.cells #[.int .i64 (h - g + o), .int .i64 l] 24)).cell? ⟨w.heap.size + 1, 5, none⟩ = some (.int .i64 od) := hC2.2.2.2.2.2.2.2.2.2.2.1
      have d11 : (w1.alloc (.cells #[.int .i64 (h - g + o), .int .i64 l] 24)).cell? ⟨w.heap.size + 1 + 1, 0, none⟩ = some (.int .i64 0) := hC2.2.2.2.2.2.2.2.2.2.2.2.1
      have d12 : (w1.alloc (.cells #[.int .i64 (h - g + o), .int .i64 l] 24)).cell? ⟨w.heap.size + 1 + 1, 1, none⟩ = some (.int .i64 0) := hC2.2.2.2.2.2.2.2.2.2.2.2.2.1
      have d13 : (w1.alloc (.cells #[.int .i64 (h - g + o), .int .i64 l] 24)).frozen? ⟨w.heap.size + 1 + 1, 0, none⟩ = false := hC2.2.2.2.2.2.2.2.2.2.2.2.2.2.1
      have d14 : (w1.alloc (.cells #[.int .i64 (h - g + o), .int .i64 l] 24)).frozen? ⟨w.heap.size + 1 + 1, 1, none⟩ = false := hC2.2.2.2.2.2.2.2.2.2.2.2.2.2.2.1
      have d15 : Below w.heap.size w (w1.alloc (.cells #[.int .i64 (h - g + o), .int .i64 l] 24)) := hC2.2.2.2.2.2.2.2.2.2.2.2.2.2.2.2
      have hlt := ltCell c11
      have hne : w.heap.size + 1 + 1 ≠ w1.heap.size := by omega
      go_wp2_with fail
      have hq2 : w.heap.size ≤ w.heap.size + 1 + 1 := by omega
      exact bodyPost_ret (v := .agg #[.int .i64 (h - g + o), .int .i64 l]) (by simp [results, Try.results46, go_sem, *]) rfl ⟨rfl, nbAlloc (nbSetX (nbSetX c15 hq2) hq2) _⟩

end Go.Proofs.Ytmhppadblddjoab
