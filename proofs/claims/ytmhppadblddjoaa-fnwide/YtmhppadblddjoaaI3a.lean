/- Chapter 3 of the program: the body. -/
import Derived.Test.YtmhppadblddjoaaSp3
namespace Go.Proofs.Ytmhppadblddjoaa
open Go.RowKit

set_option maxHeartbeats 400000 in
theorem nowhere_c (w : World) :
    Calls Try.prog 60 #[] w fun e w' => e = .returned (.agg #[.int .i64 1, .int .i64 0]) ∧ Below w.heap.size w w' := by
  go_enter Try.func60, Try.ntmps60
  go_wp2
  exact bodyPost_ret (v := .agg #[.int .i64 1, .int .i64 0]) (by simp [results, Try.results60, go_sem]) rfl ⟨rfl, nbAlloc (Below.refl _ _) _⟩

set_option maxHeartbeats 400000 in
theorem placed_c (kn : Bool) (l h si la od : Int) (w : World) :
    Calls Try.prog 61 #[.agg #[.bool kn, .int .i64 l, .int .i64 h, .int .i64 si, .int .i64 la, .int .i64 od]] w fun e w' => e = .returned (.bool (kn && bOk l h)) ∧ Below w.heap.size w w' := by
  cases kn
  case false =>
    go_enter Try.func61, Try.ntmps61
    go_wp2_with fail
    go_ret
    exact ⟨rfl, nbAlloc (Below.refl _ _) _⟩
  go_enter Try.func61, Try.ntmps61
  go_wp2_with fail
  refine (implBoundOk_c _ _ _).mono ?_
  rintro e w2 ⟨rfl, hb2⟩
  go_wp2_with fail
  go_ret
  exact ⟨retB (by simp), nbTrans (nbAlloc (Below.refl _ _) _) hb2⟩

set_option maxHeartbeats 1000000 in
theorem implHolds_c (s j m g o : Int) (kn : Bool) (l h si la od : Int) (w : World) :
    Calls Try.prog 59 #[.agg #[.int .i64 s, .int .i64 j, .int .i64 m, .int .i64 g, .int .i64 o], .agg #[.bool kn, .int .i64 l, .int .i64 h, .int .i64 si, .int .i64 la, .int .i64 od]] w fun e w' => e = .returned (.agg #[.int .i64 (holdsA s j m g o kn l h).1, .int .i64 (holdsA s j m g o kn l h).2]) ∧ Below w.heap.size w w' := by
  cases hr : rOk s j m g o
  case false =>
    have e1 : holdsA s j m g o kn l h = (1, 0) := by simp [holdsA, q3, hr]
    rw [e1]
    clear e1
    go_enter Try.func59, Try.ntmps59
    go_wp2_with fail
    refine (implRulesOk_c _ _ _ _ _ _).mono ?_
    rintro e w1 ⟨rfl, hb1⟩
    simp only [hr]
    have hC1 : s3B w s j m g o kn l h si la od w1 := ⟨cellOn hb1 (by go_simp), cellOn hb1 (by go_simp), cellOn hb1 (by go_simp), cellOn hb1 (by go_simp), cellOn hb1 (by go_simp), cellOn hb1 (by go_simp), cellOn hb1 (by go_simp), cellOn hb1 (by go_simp), cellOn hb1 (by go_simp), cellOn hb1 (by go_simp), cellOn hb1 (by go_simp), cellOn hb1 (by go_simp), cellOn hb1 (by go_simp), frozenOn hb1 (v := .int .i64 0) (by go_simp) (by go_simp), frozenOn hb1 (v := .int .i64 0) (by go_simp) (by go_simp), nbTrans (nbAlloc (nbAlloc (nbAlloc (Below.refl _ _) _) _) _) hb1⟩
    have c0 : w1.cell? ⟨w.heap.size, 0, none⟩ = some (.int .i64 s) := hC1.1
    have c1 : w1.cell? ⟨w.heap.size, 1, none⟩ = some (.int .i64 j) := hC1.2.1
    have c2 : w1.cell? ⟨w.heap.size, 2, none⟩ = some (.int .i64 m) := hC1.2.2.1
    have c3 : w1.cell? ⟨w.heap.size, 3, none⟩ = some (.int .i64 g) := hC1.2.2.2.1
    have c4 : w1.cell? ⟨w.heap.size, 4, none⟩ = some (.int .i64 o) := hC1.2.2.2.2.1
    have c5 : w1.cell? ⟨w.heap.size + 1, 0, none⟩ = some (.bool kn) := hC1.2.2.2.2.2.1
    have c6 : w1.cell? ⟨w.heap.size + 1, 1, none⟩ = some (.int .i64 l) := hC1.2.2.2.2.2.2.1
    have c7 : w1.cell? ⟨w.heap.size + 1, 2, none⟩ = some (.int .i64 h) := hC1.2.2.2.2.2.2.2.1
    have c8 : w1.cell? ⟨w.heap.size + 1, 3, none⟩ = some (.int .i64 si) := hC1.2.2.2.2.2.2.2.2.1
    have c9 : w1.cell? ⟨w.heap.size + 1, 4, none⟩ = some (.int .i64 la) := hC1.2.2.2.2.2.2.2.2.2.1
    have c10 : w1.cell? ⟨w.heap.size + 1, 5, none⟩ = some (.int .i64 od) := hC1.2.2.2.2.2.2.2.2.2.2.1
    have c11 : w1.cell? ⟨w.heap.size + 1 + 1, 0, none⟩ = some (.int .i64 0) := hC1.2.2.2.2.2.2.2.2.2.2.2.1
    have c12 : w1.cell? ⟨w.heap.size + 1 + 1, 1, none⟩ = some (.int .i64 0) := hC1.2.2.2.2.2.2.2.2.2.2.2.2.1
    have c13 : w1.frozen? ⟨w.heap.size + 1 + 1, 0, none⟩ = false := hC1.2.2.2.2.2.2.2.2.2.2.2.2.2.1
    have c14 : w1.frozen? ⟨w.heap.size + 1 + 1, 1, none⟩ = false := hC1.2.2.2.2.2.2.2.2.2.2.2.2.2.2.1
    have c15 : Below w.heap.size w w1 := hC1.2.2.2.2.2.2.2.2.2.2.2.2.2.2.2
    go_wp2_with fail
    refine (nowhere_c _).mono ?_
    rintro e w2 ⟨rfl, hb2⟩
    have hC2 := s3B_on hC1 hb2
    clear hC1 c0 c1 c2 c3 c4 c5 c6 c7 c8 c9 c10 c11 c12 c13 c14 c15
    have c0 : w2.cell? ⟨w.heap.size, 0, none⟩ = some (.int .i64 s) := hC2.1
    have c1 : w2.cell? ⟨w.heap.size, 1, none⟩ = some (.int .i64 j) := hC2.2.1
    have c2 : w2.cell? ⟨w.heap.size, 2, none⟩ = some (.int .i64 m) := hC2.2.2.1
    have c3 : w2.cell? ⟨w.heap.size, 3, none⟩ = some (.int .i64 g) := hC2.2.2.2.1
    have c4 : w2.cell? ⟨w.heap.size, 4, none⟩ = some (.int .i64 o) := hC2.2.2.2.2.1
    have c5 : w2.cell? ⟨w.heap.size + 1, 0, none⟩ = some (.bool kn) := hC2.2.2.2.2.2.1
    have c6 : w2.cell? ⟨w.heap.size + 1, 1, none⟩ = some (.int .i64 l) := hC2.2.2.2.2.2.2.1
    have c7 : w2.cell? ⟨w.heap.size + 1, 2, none⟩ = some (.int .i64 h) := hC2.2.2.2.2.2.2.2.1
    have c8 : w2.cell? ⟨w.heap.size + 1, 3, none⟩ = some (.int .i64 si) := hC2.2.2.2.2.2.2.2.2.1
    have c9 : w2.cell? ⟨w.heap.size + 1, 4, none⟩ = some (.int .i64 la) := hC2.2.2.2.2.2.2.2.2.2.1
    have c10 : w2.cell? ⟨w.heap.size + 1, 5, none⟩ = some (.int .i64 od) := hC2.2.2.2.2.2.2.2.2.2.2.1
    have c11 : w2.cell? ⟨w.heap.size + 1 + 1, 0, none⟩ = some (.int .i64 0) := hC2.2.2.2.2.2.2.2.2.2.2.2.1
    have c12 : w2.cell? ⟨w.heap.size + 1 + 1, 1, none⟩ = some (.int .i64 0) := hC2.2.2.2.2.2.2.2.2.2.2.2.2.1
    have c13 : w2.frozen? ⟨w.heap.size + 1 + 1, 0, none⟩ = false := hC2.2.2.2.2.2.2.2.2.2.2.2.2.2.1
    have c14 : w2.frozen? ⟨w.heap.size + 1 + 1, 1, none⟩ = false := hC2.2.2.2.2.2.2.2.2.2.2.2.2.2.2.1
    have c15 : Below w.heap.size w w2 := hC2.2.2.2.2.2.2.2.2.2.2.2.2.2.2.2
    go_wp2_with fail
    have hq2 : w.heap.size ≤ w.heap.size + 1 + 1 := by omega
    exact bodyPost_ret (v := .agg #[.int .i64 1, .int .i64 0]) (by simp [results, Try.results59, go_sem, *]) rfl ⟨rfl, (nbSetX (nbSetX c15 hq2) hq2)⟩

  cases hp : (kn && bOk l h)
  case false =>
    have e1 : holdsA s j m g o kn l h = (1, 0) := by simp [holdsA, q3, hr, hp]
    rw [e1]
    clear e1
    go_enter Try.func59, Try.ntmps59
    go_wp2_with fail
    refine (implRulesOk_c _ _ _ _ _ _).mono ?_
    rintro e w1 ⟨rfl, hb1⟩
    simp only [hr]
    have hC1 : s3B w s j m g o kn l h si la od w1 := ⟨cellOn hb1 (by go_simp), cellOn hb1 (by go_simp), cellOn hb1 (by go_simp), cellOn hb1 (by go_simp), cellOn hb1 (by go_simp), cellOn hb1 (by go_simp), cellOn hb1 (by go_simp), cellOn hb1 (by go_simp), cellOn hb1 (by go_simp), cellOn hb1 (by go_simp), cellOn hb1 (by go_simp), cellOn hb1 (by go_simp), cellOn hb1 (by go_simp), frozenOn hb1 (v := .int .i64 0) (by go_simp) (by go_simp), frozenOn hb1 (v := .int .i64 0) (by go_simp) (by go_simp), nbTrans (nbAlloc (nbAlloc (nbAlloc (Below.refl _ _) _) _) _) hb1⟩
    have c0 : w1.cell? ⟨w.heap.size, 0, none⟩ = some (.int .i64 s) := hC1.1
    have c1 : w1.cell? ⟨w.heap.size, 1, none⟩ = some (.int .i64 j) := hC1.2.1
    have c2 : w1.cell? ⟨w.heap.size, 2, none⟩ = some (.int .i64 m) := hC1.2.2.1
    have c3 : w1.cell? ⟨w.heap.size, 3, none⟩ = some (.int .i64 g) := hC1.2.2.2.1
    have c4 : w1.cell? ⟨w.heap.size, 4, none⟩ = some (.int .i64 o) := hC1.2.2.2.2.1
    have c5 : w1.cell? ⟨w.heap.size + 1, 0, none⟩ = some (.bool kn) := hC1.2.2.2.2.2.1
    have c6 : w1.cell? ⟨w.heap.size + 1, 1, none⟩ = some (.int .i64 l) := hC1.2.2.2.2.2.2.1
    have c7 : w1.cell? ⟨w.heap.size + 1, 2, none⟩ = some (.int .i64 h) := hC1.2.2.2.2.2.2.2.1
    have c8 : w1.cell? ⟨w.heap.size + 1, 3, none⟩ = some (.int .i64 si) := hC1.2.2.2.2.2.2.2.2.1
    have c9 : w1.cell? ⟨w.heap.size + 1, 4, none⟩ = some (.int .i64 la) := hC1.2.2.2.2.2.2.2.2.2.1
    have c10 : w1.cell? ⟨w.heap.size + 1, 5, none⟩ = some (.int .i64 od) := hC1.2.2.2.2.2.2.2.2.2.2.1
    have c11 : w1.cell? ⟨w.heap.size + 1 + 1, 0, none⟩ = some (.int .i64 0) := hC1.2.2.2.2.2.2.2.2.2.2.2.1
    have c12 : w1.cell? ⟨w.heap.size + 1 + 1, 1, none⟩ = some (.int .i64 0) := hC1.2.2.2.2.2.2.2.2.2.2.2.2.1
    have c13 : w1.frozen? ⟨w.heap.size + 1 + 1, 0, none⟩ = false := hC1.2.2.2.2.2.2.2.2.2.2.2.2.2.1
    have c14 : w1.frozen? ⟨w.heap.size + 1 + 1, 1, none⟩ = false := hC1.2.2.2.2.2.2.2.2.2.2.2.2.2.2.1
    have c15 : Below w.heap.size w w1 := hC1.2.2.2.2.2.2.2.2.2.2.2.2.2.2.2
    go_wp2_with fail
    refine (placed_c _ _ _ _ _ _ _).mono ?_
    rintro e w2 ⟨rfl, hb2⟩
    simp only [hp]
    have hC2 := s3B_on hC1 hb2
    clear hC1 c0 c1 c2 c3 c4 c5 c6 c7 c8 c9 c10 c11 c12 c13 c14 c15
    have c0 : w2.cell? ⟨w.heap.size, 0, none⟩ = some (.int .i64 s) := hC2.1
    have c1 : w2.cell? ⟨w.heap.size, 1, none⟩ = some (.int .i64 j) := hC2.2.1
    have c2 : w2.cell? ⟨w.heap.size, 2, none⟩ = some (.int .i64 m) := hC2.2.2.1
    have c3 : w2.cell? ⟨w.heap.size, 3, none⟩ = some (.int .i64 g) := hC2.2.2.2.1
    have c4 : w2.cell? ⟨w.heap.size, 4, none⟩ = some (.int .i64 o) := hC2.2.2.2.2.1
    have c5 : w2.cell? ⟨w.heap.size + 1, 0, none⟩ = some (.bool kn) := hC2.2.2.2.2.2.1
    have c6 : w2.cell? ⟨w.heap.size + 1, 1, none⟩ = some (.int .i64 l) := hC2.2.2.2.2.2.2.1
    have c7 : w2.cell? ⟨w.heap.size + 1, 2, none⟩ = some (.int .i64 h) := hC2.2.2.2.2.2.2.2.1
    have c8 : w2.cell? ⟨w.heap.size + 1, 3, none⟩ = some (.int .i64 si) := hC2.2.2.2.2.2.2.2.2.1
    have c9 : w2.cell? ⟨w.heap.size + 1, 4, none⟩ = some (.int .i64 la) := hC2.2.2.2.2.2.2.2.2.2.1
    have c10 : w2.cell? ⟨w.heap.size + 1, 5, none⟩ = some (.int .i64 od) := hC2.2.2.2.2.2.2.2.2.2.2.1
    have c11 : w2.cell? ⟨w.heap.size + 1 + 1, 0, none⟩ = some (.int .i64 0) := hC2.2.2.2.2.2.2.2.2.2.2.2.1
    have c12 : w2.cell? ⟨w.heap.size + 1 + 1, 1, none⟩ = some (.int .i64 0) := hC2.2.2.2.2.2.2.2.2.2.2.2.2.1
    have c13 : w2.frozen? ⟨w.heap.size + 1 + 1, 0, none⟩ = false := hC2.2.2.2.2.2.2.2.2.2.2.2.2.2.1
    have c14 : w2.frozen? ⟨w.heap.size + 1 + 1, 1, none⟩ = false := hC2.2.2.2.2.2.2.2.2.2.2.2.2.2.2.1
    have c15 : Below w.heap.size w w2 := hC2.2.2.2.2.2.2.2.2.2.2.2.2.2.2.2
    go_wp2_with fail
    refine (nowhere_c _).mono ?_
    rintro e w3 ⟨rfl, hb3⟩
    have hC3 := s3B_on hC2 hb3
    clear hC2 c0 c1 c2 c3 c4 c5 c6 c7 c8 c9 c10 c11 c12 c13 c14 c15
    have c0 : w3.cell? ⟨w.heap.size, 0, none⟩ = some (.int .i64 s) := hC3.1
    have c1 : w3.cell? ⟨w.heap.size, 1, none⟩ = some (.int .i64 j) := hC3.2.1
    have c2 : w3.cell? ⟨w.heap.size, 2, none⟩ = some (.int .i64 m) := hC3.2.2.1
    have c3 : w3.cell? ⟨w.heap.size, 3, none⟩ = some (.int .i64 g) := hC3.2.2.2.1
    have c4 : w3.cell? ⟨w.heap.size, 4, none⟩ = some (.int .i64 o) := hC3.2.2.2.2.1
    have c5 : w3.cell? ⟨w.heap.size + 1, 0, none⟩ = some (.bool kn) := hC3.2.2.2.2.2.1
    have c6 : w3.cell? ⟨w.heap.size + 1, 1, none⟩ = some (.int .i64 l) := hC3.2.2.2.2.2.2.1
    have c7 : w3.cell? ⟨w.heap.size + 1, 2, none⟩ = some (.int .i64 h) := hC3.2.2.2.2.2.2.2.1
    have c8 : w3.cell? ⟨w.heap.size + 1, 3, none⟩ = some (.int .i64 si) := hC3.2.2.2.2.2.2.2.2.1
    have c9 : w3.cell? ⟨w.heap.size + 1, 4, none⟩ = some (.int .i64 la) := hC3.2.2.2.2.2.2.2.2.2.1
    have c10 : w3.cell? ⟨w.heap.size + 1, 5, none⟩ = some (.int .i64 od) := hC3.2.2.2.2.2.2.2.2.2.2.1
    have c11 : w3.cell? ⟨w.heap.size + 1 + 1, 0, none⟩ = some (.int .i64 0) := hC3.2.2.2.2.2.2.2.2.2.2.2.1
    have c12 : w3.cell? ⟨w.heap.size + 1 + 1, 1, none⟩ = some (.int .i64 0) := hC3.2.2.2.2.2.2.2.2.2.2.2.2.1
    have c13 : w3.frozen? ⟨w.heap.size + 1 + 1, 0, none⟩ = false := hC3.2.2.2.2.2.2.2.2.2.2.2.2.2.1
    have c14 : w3.frozen? ⟨w.heap.size + 1 + 1, 1, none⟩ = false := hC3.2.2.2.2.2.2.2.2.2.2.2.2.2.2.1
    have c15 : Below w.heap.size w w3 := hC3.2.2.2.2.2.2.2.2.2.2.2.2.2.2.2
    go_wp2_with fail
    have hq2 : w.heap.size ≤ w.heap.size + 1 + 1 := by omega
    exact bodyPost_ret (v := .agg #[.int .i64 1, .int .i64 0]) (by simp [results, Try.results59, go_sem, *]) rfl ⟨rfl, (nbSetX (nbSetX c15 hq2) hq2)⟩

  have hq : q3 s j m g o kn l h = true := by simp only [q3, hr, Bool.true_and]; exact hp
  have e1 : holdsA s j m g o kn l h = (l - (g + o), h) := by simp only [holdsA, hq, if_true]; rw [show l - g - o = l - (g + o) by omega]
  rw [e1]
  clear e1
  obtain ⟨g0, g1, o0, o1, l0, lh, h1⟩ := q3_parts hq
  clear hq
  have wr1 : IntKind.i64.wrap (g + o) = g + o := wrapS (by omega) (by omega)
  have wr2 : IntKind.i64.wrap (l - (g + o)) = l - (g + o) := wrapS (by omega) (by omega)
  go_enter Try.func59, Try.ntmps59
  go_wp2_with fail
  refine (implRulesOk_c _ _ _ _ _ _).mono ?_
  rintro e w1 ⟨rfl, hb1⟩
  simp only [hr]
  have hC1 : s3B w s j m g o kn l h si la od w1 := ⟨cellOn hb1 (by go_simp), cellOn hb1 (by go_simp), cellOn hb1 (by go_simp), cellOn hb1 (by go_simp), cellOn hb1 (by go_simp), cellOn hb1 (by go_simp), cellOn hb1 (by go_simp), cellOn hb1 (by go_simp), cellOn hb1 (by go_simp), cellOn hb1 (by go_simp), cellOn hb1 (by go_simp), cellOn hb1 (by go_simp), cellOn hb1 (by go_simp), frozenOn hb1 (v := .int .i64 0) (by go_simp) (by go_simp), frozenOn hb1 (v := .int .i64 0) (by go_simp) (by go_simp), nbTrans (nbAlloc (nbAlloc (nbAlloc (Below.refl _ _) _) _) _) hb1⟩
  have c0 : w1.cell? ⟨w.heap.size, 0, none⟩ = some (.int .i64 s) := hC1.1
  have c1 : w1.cell? ⟨w.heap.size, 1, none⟩ = some (.int .i64 j) := hC1.2.1
  have c2 : w1.cell? ⟨w.heap.size, 2, none⟩ = some (.int .i64 m) := hC1.2.2.1
  have c3 : w1.cell? ⟨w.heap.size, 3, none⟩ = some (.int .i64 g) := hC1.2.2.2.1
  have c4 : w1.cell? ⟨w.heap.size, 4, none⟩ = some (.int .i64 o) := hC1.2.2.2.2.1
  have c5 : w1.cell? ⟨w.heap.size + 1, 0, none⟩ = some (.bool kn) := hC1.2.2.2.2.2.1
  have c6 : w1.cell? ⟨w.heap.size + 1, 1, none⟩ = some (.int .i64 l) := hC1.2.2.2.2.2.2.1
  have c7 : w1.cell? ⟨w.heap.size + 1, 2, none⟩ = some (.int .i64 h) := hC1.2.2.2.2.2.2.2.1
  have c8 : w1.cell? ⟨w.heap.size + 1, 3, none⟩ = some (.int .i64 si) := hC1.2.2.2.2.2.2.2.2.1
  have c9 : w1.cell? ⟨w.heap.size + 1, 4, none⟩ = some (.int .i64 la) := hC1.2.2.2.2.2.2.2.2.2.1
  have c10 : w1.cell? ⟨w.heap.size + 1, 5, none⟩ = some (.int .i64 od) := hC1.2.2.2.2.2.2.2.2.2.2.1
  have c11 : w1.cell? ⟨w.heap.size + 1 + 1, 0, none⟩ = some (.int .i64 0) := hC1.2.2.2.2.2.2.2.2.2.2.2.1
  have c12 : w1.cell? ⟨w.heap.size + 1 + 1, 1, none⟩ = some (.int .i64 0) := hC1.2.2.2.2.2.2.2.2.2.2.2.2.1
  have c13 : w1.frozen? ⟨w.heap.size + 1 + 1, 0, none⟩ = false := hC1.2.2.2.2.2.2.2.2.2.2.2.2.2.1
  have c14 : w1.frozen? ⟨w.heap.size + 1 + 1, 1, none⟩ = false := hC1.2.2.2.2.2.2.2.2.2.2.2.2.2.2.1
  have c15 : Below w.heap.size w w1 := hC1.2.2.2.2.2.2.2.2.2.2.2.2.2.2.2
  go_wp2_with fail
  refine (placed_c _ _ _ _ _ _ _).mono ?_
  rintro e w2 ⟨rfl, hb2⟩
  simp only [hp]
  have hC2 := s3B_on hC1 hb2
  clear hC1 c0 c1 c2 c3 c4 c5 c6 c7 c8 c9 c10 c11 c12 c13 c14 c15
  have c0 : w2.cell? ⟨w.heap.size, 0, none⟩ = some (.int .i64 s) := hC2.1
  have c1 : w2.cell? ⟨w.heap.size, 1, none⟩ = some (.int .i64 j) := hC2.2.1
  have c2 : w2.cell? ⟨w.heap.size, 2, none⟩ = some (.int .i64 m) := hC2.2.2.1
  have c3 : w2.cell? ⟨w.heap.size, 3, none⟩ = some (.int .i64 g) := hC2.2.2.2.1
  have c4 : w2.cell? ⟨w.heap.size, 4, none⟩ = some (.int .i64 o) := hC2.2.2.2.2.1
  have c5 : w2.cell? ⟨w.heap.size + 1, 0, none⟩ = some (.bool kn) := hC2.2.2.2.2.2.1
  have c6 : w2.cell? ⟨w.heap.size + 1, 1, none⟩ = some (.int .i64 l) := hC2.2.2.2.2.2.2.1
  have c7 : w2.cell? ⟨w.heap.size + 1, 2, none⟩ = some (.int .i64 h) := hC2.2.2.2.2.2.2.2.1
  have c8 : w2.cell? ⟨w.heap.size + 1, 3, none⟩ = some (.int .i64 si) := hC2.2.2.2.2.2.2.2.2.1
  have c9 : w2.cell? ⟨w.heap.size + 1, 4, none⟩ = some (.int .i64 la) := hC2.2.2.2.2.2.2.2.2.2.1
  have c10 : w2.cell? ⟨w.heap.size + 1, 5, none⟩ = some (.int .i64 od) := hC2.2.2.2.2.2.2.2.2.2.2.1
  have c11 : w2.cell? ⟨w.heap.size + 1 + 1, 0, none⟩ = some (.int .i64 0) := hC2.2.2.2.2.2.2.2.2.2.2.2.1
  have c12 : w2.cell? ⟨w.heap.size + 1 + 1, 1, none⟩ = some (.int .i64 0) := hC2.2.2.2.2.2.2.2.2.2.2.2.2.1
  have c13 : w2.frozen? ⟨w.heap.size + 1 + 1, 0, none⟩ = false := hC2.2.2.2.2.2.2.2.2.2.2.2.2.2.1
  have c14 : w2.frozen? ⟨w.heap.size + 1 + 1, 1, none⟩ = false := hC2.2.2.2.2.2.2.2.2.2.2.2.2.2.2.1
  have c15 : Below w.heap.size w w2 := hC2.2.2.2.2.2.2.2.2.2.2.2.2.2.2.2
  go_wp2_with fail
  have hq2 : w.heap.size ≤ w.heap.size + 1 + 1 := by omega
  exact bodyPost_ret (v := .agg #[.int .i64 (l - (g + o)), .int .i64 h]) (by simp [results, Try.results59, go_sem, *]) rfl ⟨rfl, (nbSetX (nbSetX c15 hq2) hq2)⟩

def b3P (w : World) (p : Nat) (x y : Int) : World → Prop := fun w' => w'.cell? ⟨p, 0, none⟩ = some (.int .i64 x) ∧ w'.cell? ⟨p, 1, none⟩ = some (.int .i64 y) ∧ Below w.heap.size w w'
theorem b3P_on {w : World} {p : Nat} {x y : Int} {w1 w2 : World} (hh : b3P w p x y w1) (hb : Below w1.heap.size w1 w2) : b3P w p x y w2 :=
  ⟨cellOn hb hh.1, cellOn hb hh.2.1, nbTrans hh.2.2 hb⟩

theorem eqBd (a b c d : Int) (w : World) : (binOp .eql 27 (.agg #[.int .i64 a, .int .i64 b]) (.agg #[.int .i64 c, .int .i64 d])).run Try.prog w = .ok (.bool (decide (a = c) && decide (b = d))) w := by
  go_simp
  by_cases h1 : a = c <;> by_cases h2 : b = d <;> simp [h1, h2]

theorem holds_none {s j m g o : Int} {kn : Bool} {l h : Int} (hq : q3 s j m g o kn l h = false) : holdsA s j m g o kn l h = (1, 0) := by simp [holdsA, hq]
theorem holds_some {s j m g o : Int} {kn : Bool} {l h : Int} (hq : q3 s j m g o kn l h = true) : holdsA s j m g o kn l h = (l - g - o, h) := by simp [holdsA, hq]
set_option maxHeartbeats 2000000 in
theorem implRoom_c (s j m g o : Int) (kn : Bool) (l h si la od : Int) (c : Int) (w : World) :
    Calls Try.prog 20 #[.agg #[.int .i64 s, .int .i64 j, .int .i64 m, .int .i64 g, .int .i64 o], .agg #[.bool kn, .int .i64 l, .int .i64 h, .int .i64 si, .int .i64 la, .int .i64 od], .int .i64 c] w fun e w' => e = .returned (.int .i64 (roomA s j m g o kn l h c)) ∧ Below w.heap.size w w' := by
  cases hq : q3 s j m g o kn l h
  case false =>
    have hz := holds_none hq
    cases hc : inB c (-100000000) 100000000
    · go_enter Try.func20, Try.ntmps20
      go_wp2_with fail
      refine (implHolds_c _ _ _ _ _ _ _ _ _ _ _ _).mono ?_
      rintro e w1 ⟨rfl, hb1⟩
      simp only [hz]
      have hB1 : Below w.heap.size w w1 := nbTrans (nbAlloc (nbAlloc (Below.refl _ _) _) _) hb1
      clear hb1
      go_wp2_with fail
      have heq : ∀ w', (binOp .eql 27 (.agg #[.int .i64 1, .int .i64 0]) (.agg #[.int .i64 1, .int .i64 0])).run Try.prog w' = .ok (.bool true) w' := fun w' => (eqBd _ _ _ _ _).trans (by simp <;> omega)
      refine region_kept (b3P w w1.heap.size 1 0) (by kernel_rfl) (by kernel_rfl) ?_ ?_
      · refine ⟨?_, ?_, Below.drew (nbAlloc hB1 _)⟩ <;> go_simp
      intro hN_
      have k0 : ∀ d : Kept (b3P w w1.heap.size 1 0), d.w.cell? ⟨w1.heap.size, 0, none⟩ = some (.int .i64 1) := fun d => d.h.1
      have k1 : ∀ d : Kept (b3P w w1.heap.size 1 0), d.w.cell? ⟨w1.heap.size, 1, none⟩ = some (.int .i64 0) := fun d => d.h.2.1
      repeat (go_big_quiet_step (first | (go_at_call 60; exact call_kept _ b3P_on (nowhere_c _)) | (go_at_call 49; exact call_kept _ b3P_on (wholeWay_c _)) | (go_at_call 48; exact call_kept _ b3P_on (has_f _ _ _ _ (by assumption))) | exact rfl))
      refine wpQuiet_nil ?_
      rintro w6 ⟨d, hd2⟩
      have hd := d.h
      rw [← hd2] at hd
      clear hd2 k0 k1
      have c0 : w6.cell? ⟨w1.heap.size, 0, none⟩ = some (.int .i64 1) := hd.1
      have c1 : w6.cell? ⟨w1.heap.size, 1, none⟩ = some (.int .i64 0) := hd.2.1
      have c2 : Below w.heap.size w w6 := hd.2.2
      go_wp2_with fail
      go_ret
      exact ⟨retI (by simp [roomA, hq]), c2⟩
    · go_enter Try.func20, Try.ntmps20
      go_wp2_with fail
      refine (implHolds_c _ _ _ _ _ _ _ _ _ _ _ _).mono ?_
      rintro e w1 ⟨rfl, hb1⟩
      simp only [hz]
      have hB1 : Below w.heap.size w w1 := nbTrans (nbAlloc (nbAlloc (Below.refl _ _) _) _) hb1
      clear hb1
      go_wp2_with fail
      have heq : ∀ w', (binOp .eql 27 (.agg #[.int .i64 1, .int .i64 0]) (.agg #[.int .i64 1, .int .i64 0])).run Try.prog w' = .ok (.bool true) w' := fun w' => (eqBd _ _ _ _ _).trans (by simp <;> omega)
      refine region_kept (b3P w w1.heap.size 1 0) (by kernel_rfl) (by kernel_rfl) ?_ ?_
      · refine ⟨?_, ?_, Below.drew (nbAlloc hB1 _)⟩ <;> go_simp
      intro hN_
      have k0 : ∀ d : Kept (b3P w w1.heap.size 1 0), d.w.cell? ⟨w1.heap.size, 0, none⟩ = some (.int .i64 1) := fun d => d.h.1
      have k1 : ∀ d : Kept (b3P w w1.heap.size 1 0), d.w.cell? ⟨w1.heap.size, 1, none⟩ = some (.int .i64 0) := fun d => d.h.2.1
      repeat (go_big_quiet_step (first | (go_at_call 60; exact call_kept _ b3P_on (nowhere_c _)) | (go_at_call 49; exact call_kept _ b3P_on (wholeWay_c _)) | (go_at_call 48; exact call_kept _ b3P_on (has_t _ _ _ _ (by assumption))) | exact rfl))
      refine wpQuiet_nil ?_
      rintro w6 ⟨d, hd2⟩
      have hd := d.h
      rw [← hd2] at hd
      clear hd2 k0 k1
      have c0 : w6.cell? ⟨w1.heap.size, 0, none⟩ = some (.int .i64 1) := hd.1
      have c1 : w6.cell? ⟨w1.heap.size, 1, none⟩ = some (.int .i64 0) := hd.2.1
      have c2 : Below w.heap.size w w6 := hd.2.2
      go_wp2_with fail
      go_ret
      exact ⟨retI (by simp [roomA, hq]), c2⟩
  have hz := holds_some hq
  obtain ⟨g0, g1, o0, o1, l0, lh, h1⟩ := q3_parts hq
  cases hc : inB c (-100000000) 100000000
  case false =>
    go_enter Try.func20, Try.ntmps20
    go_wp2_with fail
    refine (implHolds_c _ _ _ _ _ _ _ _ _ _ _ _).mono ?_
    rintro e w1 ⟨rfl, hb1⟩
    simp only [hz]
    have hB1 : Below w.heap.size w w1 := nbTrans (nbAlloc (nbAlloc (Below.refl _ _) _) _) hb1
    clear hb1
    go_wp2_with fail
    have heq : ∀ w', (binOp .eql 27 (.agg #[.int .i64 (l - g - o), .int .i64 h]) (.agg #[.int .i64 1, .int .i64 0])).run Try.prog w' = .ok (.bool false) w' := fun w' => (eqBd _ _ _ _ _).trans (by simp <;> omega)
    refine region_kept (b3P w w1.heap.size (l - g - o) h) (by kernel_rfl) (by kernel_rfl) ?_ ?_
    · refine ⟨?_, ?_, Below.drew (nbAlloc hB1 _)⟩ <;> go_simp
    intro hN_
    have k0 : ∀ d : Kept (b3P w w1.heap.size (l - g - o) h), d.w.cell? ⟨w1.heap.size, 0, none⟩ = some (.int .i64 (l - g - o)) := fun d => d.h.1
    have k1 : ∀ d : Kept (b3P w w1.heap.size (l - g - o) h), d.w.cell? ⟨w1.heap.size, 1, none⟩ = some (.int .i64 h) := fun d => d.h.2.1
    repeat (go_big_quiet_step (first | (go_at_call 60; exact call_kept _ b3P_on (nowhere_c _)) | (go_at_call 49; exact call_kept _ b3P_on (wholeWay_c _)) | (go_at_call 48; exact call_kept _ b3P_on (has_f _ _ _ _ (by assumption))) | exact rfl))
    refine wpQuiet_nil ?_
    rintro w6 ⟨d, hd2⟩
    have hd := d.h
    rw [← hd2] at hd
    clear hd2 k0 k1
    have c0 : w6.cell? ⟨w1.heap.size, 0, none⟩ = some (.int .i64 (l - g - o)) := hd.1
    have c1 : w6.cell? ⟨w1.heap.size, 1, none⟩ = some (.int .i64 h) := hd.2.1
    have c2 : Below w.heap.size w w6 := hd.2.2
    go_wp2_with fail
    go_ret
    exact ⟨retI (by simp [roomA, hc]), c2⟩
  have hc' := hc
  simp only [inB, Bool.and_eq_true, decide_eq_true_eq] at hc'
  have wr : IntKind.i64.wrap (c - h) = c - h := wrapS (by omega) (by omega)
  by_cases h2 : c < h
  · go_enter Try.func20, Try.ntmps20
    go_wp2_with fail
    refine (implHolds_c _ _ _ _ _ _ _ _ _ _ _ _).mono ?_
    rintro e w1 ⟨rfl, hb1⟩
    simp only [hz]
    have hB1 : Below w.heap.size w w1 := nbTrans (nbAlloc (nbAlloc (Below.refl _ _) _) _) hb1
    clear hb1
    go_wp2_with fail
    have heq : ∀ w', (binOp .eql 27 (.agg #[.int .i64 (l - g - o), .int .i64 h]) (.agg #[.int .i64 1, .int .i64 0])).run Try.prog w' = .ok (.bool false) w' := fun w' => (eqBd _ _ _ _ _).trans (by simp <;> omega)
    refine region_kept (b3P w w1.heap.size (l - g - o) h) (by kernel_rfl) (by kernel_rfl) ?_ ?_
    · refine ⟨?_, ?_, Below.drew (nbAlloc hB1 _)⟩ <;> go_simp
    intro hN_
    have k0 : ∀ d : Kept (b3P w w1.heap.size (l - g - o) h), d.w.cell? ⟨w1.heap.size, 0, none⟩ = some (.int .i64 (l - g - o)) := fun d => d.h.1
    have k1 : ∀ d : Kept (b3P w w1.heap.size (l - g - o) h), d.w.cell? ⟨w1.heap.size, 1, none⟩ = some (.int .i64 h) := fun d => d.h.2.1
    repeat (go_big_quiet_step (first | (go_at_call 60; exact call_kept _ b3P_on (nowhere_c _)) | (go_at_call 49; exact call_kept _ b3P_on (wholeWay_c _)) | (go_at_call 48; exact call_kept _ b3P_on (has_t _ _ _ _ (by assumption))) | exact rfl))
    refine wpQuiet_nil ?_
    rintro w6 ⟨d, hd2⟩
    have hd := d.h
    rw [← hd2] at hd
    clear hd2 k0 k1
    have c0 : w6.cell? ⟨w1.heap.size, 0, none⟩ = some (.int .i64 (l - g - o)) := hd.1
    have c1 : w6.cell? ⟨w1.heap.size, 1, none⟩ = some (.int .i64 h) := hd.2.1
    have c2 : Below w.heap.size w w6 := hd.2.2
    go_wp2_with fail
    go_ret
    exact ⟨retI (by simp [roomA, hq, hc]; omega), c2⟩
  · go_enter Try.func20, Try.ntmps20
    go_wp2_with fail
    refine (implHolds_c _ _ _ _ _ _ _ _ _ _ _ _).mono ?_
    rintro e w1 ⟨rfl, hb1⟩
    simp only [hz]
    have hB1 : Below w.heap.size w w1 := nbTrans (nbAlloc (nbAlloc (Below.refl _ _) _) _) hb1
    clear hb1
    go_wp2_with fail
    have heq : ∀ w', (binOp .eql 27 (.agg #[.int .i64 (l - g - o), .int .i64 h]) (.agg #[.int .i64 1, .int .i64 0])).run Try.prog w' = .ok (.bool false) w' := fun w' => (eqBd _ _ _ _ _).trans (by simp <;> omega)
    refine region_kept (b3P w w1.heap.size (l - g - o) h) (by kernel_rfl) (by kernel_rfl) ?_ ?_
    · refine ⟨?_, ?_, Below.drew (nbAlloc hB1 _)⟩ <;> go_simp
    intro hN_
    have k0 : ∀ d : Kept (b3P w w1.heap.size (l - g - o) h), d.w.cell? ⟨w1.heap.size, 0, none⟩ = some (.int .i64 (l - g - o)) := fun d => d.h.1
    have k1 : ∀ d : Kept (b3P w w1.heap.size (l - g - o) h), d.w.cell? ⟨w1.heap.size, 1, none⟩ = some (.int .i64 h) := fun d => d.h.2.1
    repeat (go_big_quiet_step (first | (go_at_call 60; exact call_kept _ b3P_on (nowhere_c _)) | (go_at_call 49; exact call_kept _ b3P_on (wholeWay_c _)) | (go_at_call 48; exact call_kept _ b3P_on (has_t _ _ _ _ (by assumption))) | exact rfl))
    refine wpQuiet_nil ?_
    rintro w6 ⟨d, hd2⟩
    have hd := d.h
    rw [← hd2] at hd
    clear hd2 k0 k1
    have c0 : w6.cell? ⟨w1.heap.size, 0, none⟩ = some (.int .i64 (l - g - o)) := hd.1
    have c1 : w6.cell? ⟨w1.heap.size, 1, none⟩ = some (.int .i64 h) := hd.2.1
    have c2 : Below w.heap.size w w6 := hd.2.2
    go_wp2_with fail
    go_ret
    exact ⟨retI (by simp [roomA, hq, hc]; omega), c2⟩

end Go.Proofs.Ytmhppadblddjoaa
