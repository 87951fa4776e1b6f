import Derived.Test.YtmhppadblddjoaaDoorZTrueSp3
/- Chapter 3 of the program: the body. -/
namespace Go.Proofs.YtmhppadblddjoaaDoor
open Go.RowKit

set_option maxHeartbeats 400000 in
theorem nowhere_c (w : World) :
    Calls Tryd.prog 60 #[] w fun e w' => e = .returned (.agg #[.int .i64 1, .int .i64 0]) ∧ Below w.heap.size w w' := by
  go_enter Tryd.func60, Tryd.ntmps60
  go_wp2
  exact bodyPost_ret (v := .agg #[.int .i64 1, .int .i64 0]) (by simp [results, Tryd.results60, go_sem]) rfl ⟨rfl, nbAlloc (Below.refl _ _) _⟩

set_option maxHeartbeats 400000 in
theorem placed_c (kn : Bool) (l h si la od : Int) (w : World) :
    Calls Tryd.prog 59 #[.agg #[.bool kn, .int .i64 l, .int .i64 h, .int .i64 si, .int .i64 la, .int .i64 od]] w fun e w' => e = .returned (.bool (kn && bOk l h)) ∧ Below w.heap.size w w' := by
  cases kn
  case false =>
    go_enter Tryd.func59, Tryd.ntmps59
    go_wp2_with fail
    go_ret
    exact ⟨rfl, nbAlloc (Below.refl _ _) _⟩
  go_enter Tryd.func59, Tryd.ntmps59
  go_wp2_with fail
  refine (implBoundOk_c _ _ _).mono ?_
  rintro e w2 ⟨rfl, hb2⟩
  go_wp2_with fail
  go_ret
  exact ⟨retB (by simp), nbTrans (nbAlloc (Below.refl _ _) _) hb2⟩

set_option maxHeartbeats 1000000 in
theorem implHolds_c (s j m g o : Int) (kn : Bool) (l h si la od : Int) (w : World) :
    Calls Tryd.prog 19 #[.agg #[.int .i64 s, .int .i64 j, .int .i64 m, .int .i64 g, .int .i64 o], .agg #[.bool kn, .int .i64 l, .int .i64 h, .int .i64 si, .int .i64 la, .int .i64 od]] w fun e w' => e = .returned (.agg #[.int .i64 (holdsA s j m g o kn l h).1, .int .i64 (holdsA s j m g o kn l h).2]) ∧ Below w.heap.size w w' := by
  cases hr : rOk s j m g o
  case false =>
    have e1 : holdsA s j m g o kn l h = (1, 0) := by simp [holdsA, q3, hr]
    rw [e1]
    clear e1
    go_enter Tryd.func19, Tryd.ntmps19
    go_wp2_with fail
    refine (implRulesOk_c _ _ _ _ _ _).mono ?_
    rintro e w1 ⟨rfl, hb1⟩
    simp only [hr]
    have hC1 : s3B w s j m g o kn l h si la od w1 := ⟨cellOn hb1 (by go_simp), cellOn hb1 (by go_simp), cellOn hb1 (by go_simp), cellOn hb1 (by go_simp), cellOn hb1 (by go_simp), cellOn hb1 (by go_simp), cellOn hb1 (by go_simp), cellOn hb1 (by go_simp), cellOn hb1 (by go_simp), cellOn hb1 (by go_simp), cellOn hb1 (by go_simp), cellOn hb1 (by go_simp), cellOn hb1 (by go_simp), frozenOn hb1 (v := .int .i64 0) (by go_simp) (by go_simp), frozenOn hb1 (v := .int .i64 0) (by go_simp) (by go_simp), nbTrans (nbAlloc (nbAlloc (nbAlloc (Below.refl _ _) _) _) _) hb1⟩
    have c0 : w1.cell? ⟨w.heap.size, 0, none⟩ = some (.int .i64 s) := hC1.1
    have c1 : w1.cell? ⟨w.heap.size, 1, none⟩ = some (.int .i64 j) := hC1.2.1
    have c2 : w1.cell? ⟨w.heap.size, 2, none⟩ = some (.int .i64 m) := hC1.2.2.1
    have c3 : w1.cell? ⟨w.heap.size, 3, none⟩ = some (.int .i64 g) := hC1.2.2.2.1
    have c4 : w1.cell? ⟨w.heap.size, 4, none⟩ = some (.int .i64 o) := hC1.2.2.2.2.1
    have c5 : w1.cell? ⟨w.heap.size + 1, 0, none⟩ = some (.bool kn) := hC1.2.2.2.2.2.1
    have c6 : w1.cell? ⟨w.heap.size + 1, 1, none⟩ = some (.int .i64 l) := hC1.2.2.2.2.2.2.1
    have c7 : w1.cell? ⟨w.heap.size + 1, 2, none⟩ = some (.int .i64 h) := hC1.2.2.2.2.2.2.2.1
    have c8 : w1.cell? ⟨w.heap.size + 1, 3, none⟩ = some (.int .i64 si) := hC1.2.2.2.2.2.2.2.2.1
    have c9 : w1.cell? ⟨w.heap.size + 1, 4, none⟩ = some (.int .i64 la) := hC1.2.2.2.2.2.2.2.2.2.1
    have c10 : w1.cell? ⟨w.heap.size + 1, 5, none⟩ = some (.int .i64 od) := hC1.2.2.2.2.2.2.2.2.2.2.1
    have c11 : w1.cell? ⟨w.heap.size + 1 + 1, 0, none⟩ = some (.int .i64 0) := hC1.2.2.2.2.2.2.2.2.2.2.2.1
    have c12 : w1.cell? ⟨w.heap.size + 1 + 1, 1, none⟩ = some (.int .i64 0) := hC1.2.2.2.2.2.2.2.2.2.2.2.2.1
    have c13 : w1.frozen? ⟨w.heap.size + 1 + 1, 0, none⟩ = false := hC1.2.2.2.2.2.2.2.2.2.2.2.2.2.1
    have c14 : w1.frozen? ⟨w.heap.size + 1 + 1, 1, none⟩ = false := hC1.2.2.2.2.2.2.2.2.2.2.2.2.2.2.1
    have c15 : Below w.heap.size w w1 := hC1.2.2.2.2.2.2.2.2.2.2.2.2.2.2.2
    go_wp2_with fail
    refine (nowhere_c _).mono ?_
    rintro e w2 ⟨rfl, hb2⟩
    have hC2 := s3B_on hC1 hb2
    clear hC1 c0 c1 c2 c3 c4 c5 c6 c7 c8 c9 c10 c11 c12 c13 c14 c15
    have c0 : w2.cell? ⟨w.heap.size, 0, none⟩ = some (.int .i64 s) := hC2.1
    have c1 : w2.cell? ⟨w.heap.size, 1, none⟩ = some (.int .i64 j) := hC2.2.1
    have c2 : w2.cell? ⟨w.heap.size, 2, none⟩ = some (.int .i64 m) := hC2.2.2.1
    have c3 : w2.cell? ⟨w.heap.size, 3, none⟩ = some (.int .i64 g) := hC2.2.2.2.1
    have c4 : w2.cell? ⟨w.heap.size, 4, none⟩ = some (.int .i64 o) := hC2.2.2.2.2.1
    have c5 : w2.cell? ⟨w.heap.size + 1, 0, none⟩ = some (.bool kn) := hC2.2.2.2.2.2.1
    have c6 : w2.cell? ⟨w.heap.size + 1, 1, none⟩ = some (.int .i64 l) := hC2.2.2.2.2.2.2.1
    have c7 : w2.cell? ⟨w.heap.size + 1, 2, none⟩ = some (.int .i64 h) := hC2.2.2.2.2.2.2.2.1
    have c8 : w2.cell? ⟨w.heap.size + 1, 3, none⟩ = some (.int .i64 si) := hC2.2.2.2.2.2.2.2.2.1
    have c9 : w2.cell? ⟨w.heap.size + 1, 4, none⟩ = some (.int .i64 la) := hC2.2.2.2.2.2.2.2.2.2.1
    have c10 : w2.cell? ⟨w.heap.size + 1, 5, none⟩ = some (.int .i64 od) := hC2.2.2.2.2.2.2.2.2.2.2.1
    have c11 : w2.cell? ⟨w.heap.size + 1 + 1, 0, none⟩ = some (.int .i64 0) := hC2.2.2.2.2.2.2.2.2.2.2.2.1
    have c12 : w2.cell? ⟨w.heap.size + 1 + 1, 1, none⟩ = some (.int .i64 0) := hC2.2.2.2.2.2.2.2.2.2.2.2.2.1
    have c13 : w2.frozen? ⟨w.heap.size + 1 + 1, 0, none⟩ = false := hC2.2.2.2.2.2.2.2.2.2.2.2.2.2.1
    have c14 : w2.frozen? ⟨w.heap.size + 1 + 1, 1, none⟩ = false := hC2.2.2.2.2.2.2.2.2.2.2.2.2.2.2.1
    have c15 : Below w.heap.size w w2 := hC2.2.2.2.2.2.2.2.2.2.2.2.2.2.2.2
    go_wp2_with fail
    have hq2 : w.heap.size ≤ w.heap.size + 1 + 1 := by omega
    exact bodyPost_ret (v := .agg #[.int .i64 1, .int .i64 0]) (by simp [results, Tryd.results19, go_sem, *]) rfl ⟨rfl, (nbSetX (nbSetX c15 hq2) hq2)⟩

  cases hp : (kn && bOk l h)
  case false =>
    have e1 : holdsA s j m g o kn l h = (1, 0) := by simp [holdsA, q3, hr, hp]
    rw [e1]
    clear e1
    go_enter Tryd.func19, Tryd.ntmps19
    go_wp2_with fail
    refine (implRulesOk_c _ _ _ _ _ _).mono ?_
    rintro e w1 ⟨rfl, hb1⟩
    simp only [hr]
    have hC1 : s3B w s j m g o kn l h si la od w1 := ⟨cellOn hb1 (by go_simp), cellOn hb1 (by go_simp), cellOn hb1 (by go_simp), cellOn hb1 (by go_simp), cellOn hb1 (by go_simp), cellOn hb1 (by go_simp), cellOn hb1 (by go_simp), cellOn hb1 (by go_simp), cellOn hb1 (by go_simp), cellOn hb1 (by go_simp), cellOn hb1 (by go_simp), cellOn hb1 (by go_simp), cellOn hb1 (by go_simp), frozenOn hb1 (v := .int .i64 0) (by go_simp) (by go_simp), frozenOn hb1 (v := .int .i64 0) (by go_simp) (by go_simp), nbTrans (nbAlloc (nbAlloc (nbAlloc (Below.refl _ _) _) _) _) hb1⟩
    have c0 : w1.cell? ⟨w.heap.size, 0, none⟩ = some (.int .i64 s) := hC1.1
    have c1 : w1.cell? ⟨w.heap.size, 1, none⟩ = some (.int .i64 j) := hC1.2.1
    have c2 : w1.cell? ⟨w.heap.size, 2, none⟩ = some (.int .i64 m) := hC1.2.2.1
    have c3 : w1.cell? ⟨w.heap.size, 3, none⟩ = some (.int .i64 g) := hC1.2.2.2.1
    have c4 : w1.cell? ⟨w.heap.size, 4, none⟩ = some (.int .i64 o) := hC1.2.2.2.2.1
    have c5 : w1.cell? ⟨w.heap.size + 1, 0, none⟩ = some (.bool kn) := hC1.2.2.2.2.2.1
    have c6 : w1.cell? ⟨w.heap.size + 1, 1, none⟩ = some (.int .i64 l) := hC1.2.2.2.2.2.2.1
    have c7 : w1.cell? ⟨w.heap.size + 1, 2, none⟩ = some (.int .i64 h) := hC1.2.2.2.2.2.2.2.1
    have c8 : w1.cell? ⟨w.heap.size + 1, 3, none⟩ = some (.int .i64 si) := hC1.2.2.2.2.2.2.2.2.1
    have c9 : w1.cell? ⟨w.heap.size + 1, 4, none⟩ = some (.int .i64 la) := hC1.2.2.2.2.2.2.2.2.2.1
    have c10 : w1.cell? ⟨w.heap.size + 1, 5, none⟩ = some (.int .i64 od) := hC1.2.2.2.2.2.2.2.2.2.2.1
    have c11 : w1.cell? ⟨w.heap.size + 1 + 1, 0, none⟩ = some (.int .i64 0) := hC1.2.2.2.2.2.2.2.2.2.2.2.1
    have c12 : w1.cell? ⟨w.heap.size + 1 + 1, 1, none⟩ = some (.int .i64 0) := hC1.2.2.2.2.2.2.2.2.2.2.2.2.1
    have c13 : w1.frozen? ⟨w.heap.size + 1 + 1, 0, none⟩ = false := hC1.2.2.2.2.2.2.2.2.2.2.2.2.2.1
    have c14 : w1.frozen? ⟨w.heap.size + 1 + 1, 1, none⟩ = false := hC1.2.2.2.2.2.2.2.2.2.2.2.2.2.2.1
    have c15 : Below w.heap.size w w1 := hC1.2.2.2.2.2.2.2.2.2.2.2.2.2.2.2
    go_wp2_with fail
    refine (placed_c _ _ _ _ _ _ _).mono ?_
    rintro e w2 ⟨rfl, hb2⟩
    simp only [hp]
    have hC2 := s3B_on hC1 hb2
    clear hC1 c0 c1 c2 c3 c4 c5 c6 c7 c8 c9 c10 c11 c12 c13 c14 c15
    have c0 : w2.cell? ⟨w.heap.size, 0, none⟩ = some (.int .i64 s) := hC2.1
    have c1 : w2.cell? ⟨w.heap.size, 1, none⟩ = some (.int .i64 j) := hC2.2.1
    have c2 : w2.cell? ⟨w.heap.size, 2, none⟩ = some (.int .i64 m) := hC2.2.2.1
    have c3 : w2.cell? ⟨w.heap.size, 3, none⟩ = some (.int .i64 g) := hC2.2.2.2.1
    have c4 : w2.cell? ⟨w.heap.size, 4, none⟩ = some (.int .i64 o) := hC2.2.2.2.2.1
    have c5 : w2.cell? ⟨w.heap.size + 1, 0, none⟩ = some (.bool kn) := hC2.2.2.2.2.2.1
    have c6 : w2.cell? ⟨w.heap.size + 1, 1, none⟩ = some (.int .i64 l) := hC2.2.2.2.2.2.2.1
    have c7 : w2.cell? ⟨w.heap.size + 1, 2, none⟩ = some (.int .i64 h) := hC2.2.2.2.2.2.2.2.1
    have c8 : w2.cell? ⟨w.heap.size + 1, 3, none⟩ = some (.int .i64 si) := hC2.2.2.2.2.2.2.2.2.1
    have c9 : w2.cell? ⟨w.heap.size + 1, 4, none⟩ = some (.int .i64 la) := hC2.2.2.2.2.2.2.2.2.2.1
    have c10 : w2.cell? ⟨w.heap.size + 1, 5, none⟩ = some (.int .i64 od) := hC2.2.2.2.2.2.2.2.2.2.2.1
    have c11 : w2.cell? ⟨w.heap.size + 1 + 1, 0, none⟩ = some (.int .i64 0) := hC2.2.2.2.2.2.2.2.2.2.2.2.1
    have c12 : w2.cell? ⟨w.heap.size + 1 + 1, 1, none⟩ = some (.int .i64 0) := hC2.2.2.2.2.2.2.2.2.2.2.2.2.1
    have c13 : w2.frozen? ⟨w.heap.size + 1 + 1, 0, none⟩ = false := hC2.2.2.2.2.2.2.2.2.2.2.2.2.2.1
    have c14 : w2.frozen? ⟨w.heap.size + 1 + 1, 1, none⟩ = false := hC2.2.2.2.2.2.2.2.2.2.2.2.2.2.2.1
    have c15 : Below w.heap.size w w2 := hC2.2.2.2.2.2.2.2.2.2.2.2.2.2.2.2
    go_wp2_with fail
    refine (nowhere_c _).mono ?_
    rintro e w3 ⟨rfl, hb3⟩
    have hC3 := s3B_on hC2 hb3
    clear hC2 c0 c1 c2 c3 c4 c5 c6 c7 c8 c9 c10 c11 c12 c13 c14 c15
    have c0 : w3.cell? ⟨w.heap.size, 0, none⟩ = some (.int .i64 s) := hC3.1
    have c1 : w3.cell? ⟨w.heap.size, 1, none⟩ = some (.int .i64 j) := hC3.2.1
    have c2 : w3.cell? ⟨w.heap.size, 2, none⟩ = some (.int .i64 m) := hC3.2.2.1
    have c3 : w3.cell? ⟨w.heap.size, 3, none⟩ = some (.int .i64 g) := hC3.2.2.2.1
    have c4 : w3.cell? ⟨w.heap.size, 4, none⟩ = some (.int .i64 o) := hC3.2.2.2.2.1
    have c5 : w3.cell? ⟨w.heap.size + 1, 0, none⟩ = some (.bool kn) := hC3.2.2.2.2.2.1
    have c6 : w3.cell? ⟨w.heap.size + 1, 1, none⟩ = some (.int .i64 l) := hC3.2.2.2.2.2.2.1
    have c7 : w3.cell? ⟨w.heap.size + 1, 2, none⟩ = some (.int .i64 h) := hC3.2.2.2.2.2.2.2.1
    have c8 : w3.cell? ⟨w.heap.size + 1, 3, none⟩ = some (.int .i64 si) := hC3.2.2.2.2.2.2.2.2.1
    have c9 : w3.cell? ⟨w.heap.size + 1, 4, none⟩ = some (.int .i64 la) := hC3.2.2.2.2.2.2.2.2.2.1
    have c10 : w3.cell? ⟨w.heap.size + 1, 5, none⟩ = some (.int .i64 od) := hC3.2.2.2.2.2.2.2.2.2.2.1
    have c11 : w3.cell? ⟨w.heap.size + 1 + 1, 0, none⟩ = some (.int .i64 0) := hC3.2.2.2.2.2.2.2.2.2.2.2.1
    have c12 : w3.cell? ⟨w.heap.size + 1 + 1, 1, none⟩ = some (.int .i64 0) := hC3.2.2.2.2.2.2.2.2.2.2.2.2.1
    have c13 : w3.frozen? ⟨w.heap.size + 1 + 1, 0, none⟩ = false := hC3.2.2.2.2.2.2.2.2.2.2.2.2.2.1
    have c14 : w3.frozen? ⟨w.heap.size + 1 + 1, 1, none⟩ = false := hC3.2.2.2.2.2.2.2.2.2.2.2.2.2.2.1
    have c15 : Below w.heap.size w w3 := hC3.2.2.2.2.2.2.2.2.2.2.2.2.2.2.2
    go_wp2_with fail
    have hq2 : w.heap.size ≤ w.heap.size + 1 + 1 := by omega
    exact bodyPost_ret (v := .agg #[.int .i64 1, .int .i64 0]) (by simp [results, Tryd.results19, go_sem, *]) rfl ⟨rfl, (nbSetX (nbSetX c15 hq2) hq2)⟩

  have hq : q3 s j m g o kn l h = true := by simp only [q3, hr, Bool.true_and]; exact hp
  have e1 : holdsA s j m g o kn l h = (l - (g + o), h) := by simp only [holdsA, hq, if_true]; rw [show l - g - o = l - (g + o) by omega]
  rw [e1]
  clear e1
  obtain ⟨g0, g1, o0, o1, l0, lh, h1⟩ := q3_parts hq
  clear hq
  have wr1 : IntKind.i64.wrap (g + o) = g + o := wrapS (by omega) (by omega)
  have wr2 : IntKind.i64.wrap (l - (g + o)) = l - (g + o) := wrapS (by omega) (by omega)
  go_enter Tryd.func19, Tryd.ntmps19
  go_wp2_with fail
  refine (implRulesOk_c _ _ _ _ _ _).mono ?_
  rintro e w1 ⟨rfl, hb1⟩
  simp only [hr]
  have hC1 : s3B w s j m g o kn l h si la od w1 := ⟨cellOn hb1 (by go_simp), cellOn hb1 (by go_simp), cellOn hb1 (by go_simp), cellOn hb1 (by go_simp), cellOn hb1 (by go_simp), cellOn hb1 (by go_simp), cellOn hb1 (by go_simp), cellOn hb1 (by go_simp), cellOn hb1 (by go_simp), cellOn hb1 (by go_simp), cellOn hb1 (by go_simp), cellOn hb1 (by go_simp), cellOn hb1 (by go_simp), frozenOn hb1 (v := .int .i64 0) (by go_simp) (by go_simp), frozenOn hb1 (v := .int .i64 0) (by go_simp) (by go_simp), nbTrans (nbAlloc (nbAlloc (nbAlloc (Below.refl _ _) _) _) _) hb1⟩
  have c0 : w1.cell? ⟨w.heap.size, 0, none⟩ = some (.int .i64 s) := hC1.1
  have c1 : w1.cell? ⟨w.heap.size, 1, none⟩ = some (.int .i64 j) := hC1.2.1
  have c2 : w1.cell? ⟨w.heap.size, 2, none⟩ = some (.int .i64 m) := hC1.2.2.1
  have c3 : w1.cell? ⟨w.heap.size, 3, none⟩ = some (.int .i64 g) := hC1.2.2.2.1
  have c4 : w1.cell? ⟨w.heap.size, 4, none⟩ = some (.int .i64 o) := hC1.2.2.2.2.1
  have c5 : w1.cell? ⟨w.heap.size + 1, 0, none⟩ = some (.bool kn) := hC1.2.2.2.2.2.1
  have c6 : w1.cell? ⟨w.heap.size + 1, 1, none⟩ = some (.int .i64 l) := hC1.2.2.2.2.2.2.1
  have c7 : w1.cell? ⟨w.heap.size + 1, 2, none⟩ = some (.int .i64 h) := hC1.2.2.2.2.2.2.2.1
  have c8 : w1.cell? ⟨w.heap.size + 1, 3, none⟩ = some (.int .i64 si) := hC1.2.2.2.2.2.2.2.2.1
  have c9 : w1.cell? ⟨w.heap.size + 1, 4, none⟩ = some (.int .i64 la) := hC1.2.2.2.2.2.2.2.2.2.1
  have c10 : w1.cell? ⟨w.heap.size + 1, 5, none⟩ = some (.int .i64 od) := hC1.2.2.2.2.2.2.2.2.2.2.1
  have c11 : w1.cell? ⟨w.heap.size + 1 + 1, 0, none⟩ = some (.int .i64 0) := hC1.2.2.2.2.2.2.2.2.2.2.2.1
  have c12 : w1.cell? ⟨w.heap.size + 1 + 1, 1, none⟩ = some (.int .i64 0) := hC1.2.2.2.2.2.2.2.2.2.2.2.2.1
  have c13 : w1.frozen? ⟨w.heap.size + 1 + 1, 0, none⟩ = false := hC1.2.2.2.2.2.2.2.2.2.2.2.2.2.1
  have c14 : w1.frozen? ⟨w.heap.size + 1 + 1, 1, none⟩ = false := hC1.2.2.2.2.2.2.2.2.2.2.2.2.2.2.1
  have c15 : Below w.heap.size w w1 := hC1.2.2.2.2.2.2.2.2.2.2.2.2.2.2.2
  go_wp2_with fail
  refine (placed_c _ _ _ _ _ _ _).mono ?_
  rintro e w2 ⟨rfl, hb2⟩
  simp only [hp]
  have hC2 := s3B_on hC1 hb2
  clear hC1 c0 c1 c2 c3 c4 c5 c6 c7 c8 c9 c10 c11 c12 c13 c14 c15
  have c0 : w2.cell? ⟨w.heap.size, 0, none⟩ = some (.int .i64 s) := hC2.1
  have c1 : w2.cell? ⟨w.heap.size, 1, none⟩ = some (.int .i64 j) := hC2.2.1
  have c2 : w2.cell? ⟨w.heap.size, 2, none⟩ = some (.int .i64 m) := hC2.2.2.1
  have c3 : w2.cell? ⟨w.heap.size, 3, none⟩ = some (.int .i64 g) := hC2.2.2.2.1
  have c4 : w2.cell? ⟨w.heap.size, 4, none⟩ = some (.int .i64 o) := hC2.2.2.2.2.1
  have c5 : w2.cell? ⟨w.heap.size + 1, 0, none⟩ = some (.bool kn) := hC2.2.2.2.2.2.1
  have c6 : w2.cell? ⟨w.heap.size + 1, 1, none⟩ = some (.int .i64 l) := hC2.2.2.2.2.2.2.1
  have c7 : w2.cell? ⟨w.heap.size + 1, 2, none⟩ = some (.int .i64 h) := hC2.2.2.2.2.2.2.2.1
  have c8 : w2.cell? ⟨w.heap.size + 1, 3, none⟩ = some (.int .i64 si) := hC2.2.2.2.2.2.2.2.2.1
  have c9 : w2.cell? ⟨w.heap.size + 1, 4, none⟩ = some (.int .i64 la) := hC2.2.2.2.2.2.2.2.2.2.1
  have c10 : w2.cell? ⟨w.heap.size + 1, 5, none⟩ = some (.int .i64 od) := hC2.2.2.2.2.2.2.2.2.2.2.1
  have c11 : w2.cell? ⟨w.heap.size + 1 + 1, 0, none⟩ = some (.int .i64 0) := hC2.2.2.2.2.2.2.2.2.2.2.2.1
  have c12 : w2.cell? ⟨w.heap.size + 1 + 1, 1, none⟩ = some (.int .i64 0) := hC2.2.2.2.2.2.2.2.2.2.2.2.2.1
  have c13 : w2.frozen? ⟨w.heap.size + 1 + 1, 0, none⟩ = false := hC2.2.2.2.2.2.2.2.2.2.2.2.2.2.1
  have c14 : w2.frozen? ⟨w.heap.size + 1 + 1, 1, none⟩ = false := hC2.2.2.2.2.2.2.2.2.2.2.2.2.2.2.1
  have c15 : Below w.heap.size w w2 := hC2.2.2.2.2.2.2.2.2.2.2.2.2.2.2.2
  go_wp2_with fail
  have hq2 : w.heap.size ≤ w.heap.size + 1 + 1 := by omega
  exact bodyPost_ret (v := .agg #[.int .i64 (l - (g + o)), .int .i64 h]) (by simp [results, Tryd.results19, go_sem, *]) rfl ⟨rfl, (nbSetX (nbSetX c15 hq2) hq2)⟩

set_option maxHeartbeats 2000000 in
theorem implSurely_c (s j m g o : Int) (kn : Bool) (l h si la od : Int) (w : World) :
    Calls Tryd.prog 21 #[.agg #[.int .i64 s, .int .i64 j, .int .i64 m, .int .i64 g, .int .i64 o], .agg #[.bool kn, .int .i64 l, .int .i64 h, .int .i64 si, .int .i64 la, .int .i64 od]] w fun e w' => e = .returned (.agg #[.int .i64 (surelyA s j m g o kn l h).1, .int .i64 (surelyA s j m g o kn l h).2]) ∧ Below w.heap.size w w' := by
  cases hr : rOk s j m g o
  case false =>
    have e1 : surelyA s j m g o kn l h = (1, 0) := by simp [surelyA, q3, hr]
    rw [e1]
    clear e1
    go_enter Tryd.func21, Tryd.ntmps21
    go_wp2_with fail
    refine (implRulesOk_c _ _ _ _ _ _).mono ?_
    rintro e w1 ⟨rfl, hb1⟩
    simp only [hr]
    have hC1 : s3B w s j m g o kn l h si la od w1 := ⟨cellOn hb1 (by go_simp), cellOn hb1 (by go_simp), cellOn hb1 (by go_simp), cellOn hb1 (by go_simp), cellOn hb1 (by go_simp), cellOn hb1 (by go_simp), cellOn hb1 (by go_simp), cellOn hb1 (by go_simp), cellOn hb1 (by go_simp), cellOn hb1 (by go_simp), cellOn hb1 (by go_simp), cellOn hb1 (by go_simp), cellOn hb1 (by go_simp), frozenOn hb1 (v := .int .i64 0) (by go_simp) (by go_simp), frozenOn hb1 (v := .int .i64 0) (by go_simp) (by go_simp), nbTrans (nbAlloc (nbAlloc (nbAlloc (Below.refl _ _) _) _) _) hb1⟩
    have c0 : w1.cell? ⟨w.heap.size, 0, none⟩ = some (.int .i64 s) := hC1.1
    have c1 : w1.cell? ⟨w.heap.size, 1, none⟩ = some (.int .i64 j) := hC1.2.1
    have c2 : w1.cell? ⟨w.heap.size, 2, none⟩ = some (.int .i64 m) := hC1.2.2.1
    have c3 : w1.cell? ⟨w.heap.size, 3, none⟩ = some (.int .i64 g) := hC1.2.2.2.1
    have c4 : w1.cell? ⟨w.heap.size, 4, none⟩ = some (.int .i64 o) := hC1.2.2.2.2.1
    have c5 : w1.cell? ⟨w.heap.size + 1, 0, none⟩ = some (.bool kn) := hC1.2.2.2.2.2.1
    have c6 : w1.cell? ⟨w.heap.size + 1, 1, none⟩ = some (.int .i64 l) := hC1.2.2.2.2.2.2.1
    have c7 : w1.cell? ⟨w.heap.size + 1, 2, none⟩ = some (.int .i64 h) := hC1.2.2.2.2.2.2.2.1
    have c8 : w1.cell? ⟨w.heap.size + 1, 3, none⟩ = some (.int .i64 si) := hC1.2.2.2.2.2.2.2.2.1
    have c9 : w1.cell? ⟨w.heap.size + 1, 4, none⟩ = some (.int .i64 la) := hC1.2.2.2.2.2.2.2.2.2.1
    have c10 : w1.cell? ⟨w.heap.size + 1, 5, none⟩ = some (.int .i64 od) := hC1.2.2.2.2.2.2.2.2.2.2.1
    have c11 : w1.cell? ⟨w.heap.size + 1 + 1, 0, none⟩ = some (.int .i64 0) := hC1.2.2.2.2.2.2.2.2.2.2.2.1
    have c12 : w1.cell? ⟨w.heap.size + 1 + 1, 1, none⟩ = some (.int .i64 0) := hC1.2.2.2.2.2.2.2.2.2.2.2.2.1
    have c13 : w1.frozen? ⟨w.heap.size + 1 + 1, 0, none⟩ = false := hC1.2.2.2.2.2.2.2.2.2.2.2.2.2.1
    have c14 : w1.frozen? ⟨w.heap.size + 1 + 1, 1, none⟩ = false := hC1.2.2.2.2.2.2.2.2.2.2.2.2.2.2.1
    have c15 : Below w.heap.size w w1 := hC1.2.2.2.2.2.2.2.2.2.2.2.2.2.2.2
    go_wp2_with fail
    refine (nowhere_c _).mono ?_
    rintro e w2 ⟨rfl, hb2⟩
    have hC2 := s3B_on hC1 hb2
    clear hC1 c0 c1 c2 c3 c4 c5 c6 c7 c8 c9 c10 c11 c12 c13 c14 c15
    have c0 : w2.cell? ⟨w.heap.size, 0, none⟩ = some (.int .i64 s) := hC2.1
    have c1 : w2.cell? ⟨w.heap.size, 1, none⟩ = some (.int .i64 j) := hC2.2.1
    have c2 : w2.cell? ⟨w.heap.size, 2, none⟩ = some (.int .i64 m) := hC2.2.2.1
    have c3 : w2.cell? ⟨w.heap.size, 3, none⟩ = some (.int .i64 g) := hC2.2.2.2.1
    have c4 : w2.cell? ⟨w.heap.size, 4, none⟩ = some (.int .i64 o) := hC2.2.2.2.2.1
    have c5 : w2.cell? ⟨w.heap.size + 1, 0, none⟩ = some (.bool kn) := hC2.2.2.2.2.2.1
    have c6 : w2.cell? ⟨w.heap.size + 1, 1, none⟩ = some (.int .i64 l) := hC2.2.2.2.2.2.2.1
    have c7 : w2.cell? ⟨w.heap.size + 1, 2, none⟩ = some (.int .i64 h) := hC2.2.2.2.2.2.2.2.1
    have c8 : w2.cell? ⟨w.heap.size + 1, 3, none⟩ = some (.int .i64 si) := hC2.2.2.2.2.2.2.2.2.1
    have c9 : w2.cell? ⟨w.heap.size + 1, 4, none⟩ = some (.int .i64 la) := hC2.2.2.2.2.2.2.2.2.2.1
    have c10 : w2.cell? ⟨w.heap.size + 1, 5, none⟩ = some (.int .i64 od) := hC2.2.2.2.2.2.2.2.2.2.2.1
    have c11 : w2.cell? ⟨w.heap.size + 1 + 1, 0, none⟩ = some (.int .i64 0) := hC2.2.2.2.2.2.2.2.2.2.2.2.1
    have c12 : w2.cell? ⟨w.heap.size + 1 + 1, 1, none⟩ = some (.int .i64 0) := hC2.2.2.2.2.2.2.2.2.2.2.2.2.1
    have c13 : w2.frozen? ⟨w.heap.size + 1 + 1, 0, none⟩ = false := hC2.2.2.2.2.2.2.2.2.2.2.2.2.2.1
    have c14 : w2.frozen? ⟨w.heap.size + 1 + 1, 1, none⟩ = false := hC2.2.2.2.2.2.2.2.2.2.2.2.2.2.2.1
    have c15 : Below w.heap.size w w2 := hC2.2.2.2.2.2.2.2.2.2.2.2.2.2.2.2
    go_wp2_with fail
    have hq2 : w.heap.size ≤ w.heap.size + 1 + 1 := by omega
    exact bodyPost_ret (v := .agg #[.int .i64 1, .int .i64 0]) (by simp [results, Tryd.results21, go_sem, *]) rfl ⟨rfl, (nbSetX (nbSetX c15 hq2) hq2)⟩

  cases hp : (kn && bOk l h)
  case false =>
    have e1 : surelyA s j m g o kn l h = (1, 0) := by simp [surelyA, q3, hr, hp]
    rw [e1]
    clear e1
    go_enter Tryd.func21, Tryd.ntmps21
    go_wp2_with fail
    refine (implRulesOk_c _ _ _ _ _ _).mono ?_
    rintro e w1 ⟨rfl, hb1⟩
    simp only [hr]
    have hC1 : s3B w s j m g o kn l h si la od w1 := ⟨cellOn hb1 (by go_simp), cellOn hb1 (by go_simp), cellOn hb1 (by go_simp), cellOn hb1 (by go_simp), cellOn hb1 (by go_simp), cellOn hb1 (by go_simp), cellOn hb1 (by go_simp), cellOn hb1 (by go_simp), cellOn hb1 (by go_simp), cellOn hb1 (by go_simp), cellOn hb1 (by go_simp), cellOn hb1 (by go_simp), cellOn hb1 (by go_simp), frozenOn hb1 (v := .int .i64 0) (by go_simp) (by go_simp), frozenOn hb1 (v := .int .i64 0) (by go_simp) (by go_simp), nbTrans (nbAlloc (nbAlloc (nbAlloc (Below.refl _ _) _) _) _) hb1⟩
    have c0 : w1.cell? ⟨w.heap.size, 0, none⟩ = some (.int .i64 s) := hC1.1
    have c1 : w1.cell? ⟨w.heap.size, 1, none⟩ = some (.int .i64 j) := hC1.2.1
    have c2 : w1.cell? ⟨w.heap.size, 2, none⟩ = some (.int .i64 m) := hC1.2.2.1
    have c3 : w1.cell? ⟨w.heap.size, 3, none⟩ = some (.int .i64 g) := hC1.2.2.2.1
    have c4 : w1.cell? ⟨w.heap.size, 4, none⟩ = some (.int .i64 o) := hC1.2.2.2.2.1
    have c5 : w1.cell? ⟨w.heap.size + 1, 0, none⟩ = some (.bool kn) := hC1.2.2.2.2.2.1
    have c6 : w1.cell? ⟨w.heap.size + 1, 1, none⟩ = some (.int .i64 l) := hC1.2.2.2.2.2.2.1
    have c7 : w1.cell? ⟨w.heap.size + 1, 2, none⟩ = some (.int .i64 h) := hC1.2.2.2.2.2.2.2.1
    have c8 : w1.cell? ⟨w.heap.size + 1, 3, none⟩ = some (.int .i64 si) := hC1.2.2.2.2.2.2.2.2.1
    have c9 : w1.cell? ⟨w.heap.size + 1, 4, none⟩ = some (.int .i64 la) := hC1.2.2.2.2.2.2.2.2.2.1
    have c10 : w1.cell? ⟨w.heap.size + 1, 5, none⟩ = some (.int .i64 od) := hC1.2.2.2.2.2.2.2.2.2.2.1
    have c11 : w1.cell? ⟨w.heap.size + 1 + 1, 0, none⟩ = some (.int .i64 0) := hC1.2.2.2.2.2.2.2.2.2.2.2.1
    have c12 : w1.cell? ⟨w.heap.size + 1 + 1, 1, none⟩ = some (.int .i64 0) := hC1.2.2.2.2.2.2.2.2.2.2.2.2.1
    have c13 : w1.frozen? ⟨w.heap.size + 1 + 1, 0, none⟩ = false := hC1.2.2.2.2.2.2.2.2.2.2.2.2.2.1
    have c14 : w1.frozen? ⟨w.heap.size + 1 + 1, 1, none⟩ = false := hC1.2.2.2.2.2.2.2.2.2.2.2.2.2.2.1
    have c15 : Below w.heap.size w w1 := hC1.2.2.2.2.2.2.2.2.2.2.2.2.2.2.2
    go_wp2_with fail
    refine (placed_c _ _ _ _ _ _ _).mono ?_
    rintro e w2 ⟨rfl, hb2⟩
    simp only [hp]
    have hC2 := s3B_on hC1 hb2
    clear hC1 c0 c1 c2 c3 c4 c5 c6 c7 c8 c9 c10 c11 c12 c13 c14 c15
    have c0 : w2.cell? ⟨w.heap.size, 0, none⟩ = some (.int .i64 s) := hC2.1
    have c1 : w2.cell? ⟨w.heap.size, 1, none⟩ = some (.int .i64 j) := hC2.2.1
    have c2 : w2.cell? ⟨w.heap.size, 2, none⟩ = some (.int .i64 m) := hC2.2.2.1
    have c3 : w2.cell? ⟨w.heap.size, 3, none⟩ = some (.int .i64 g) := hC2.2.2.2.1
    have c4 : w2.cell? ⟨w.heap.size, 4, none⟩ = some (.int .i64 o) := hC2.2.2.2.2.1
    have c5 : w2.cell? ⟨w.heap.size + 1, 0, none⟩ = some (.bool kn) := hC2.2.2.2.2.2.1
    have c6 : w2.cell? ⟨w.heap.size + 1, 1, none⟩ = some (.int .i64 l) := hC2.2.2.2.2.2.2.1
    have c7 : w2.cell? ⟨w.heap.size + 1, 2, none⟩ = some (.int .i64 h) := hC2.2.2.2.2.2.2.2.1
    have c8 : w2.cell? ⟨w.heap.size + 1, 3, none⟩ = some (.int .i64 si) := hC2.2.2.2.2.2.2.2.2.1
    have c9 : w2.cell? ⟨w.heap.size + 1, 4, none⟩ = some (.int .i64 la) := hC2.2.2.2.2.2.2.2.2.2.1
    have c10 : w2.cell? ⟨w.heap.size + 1, 5, none⟩ = some (.int .i64 od) := hC2.2.2.2.2.2.2.2.2.2.2.1
    have c11 : w2.cell? ⟨w.heap.size + 1 + 1, 0, none⟩ = some (.int .i64 0) := hC2.2.2.2.2.2.2.2.2.2.2.2.1
    have c12 : w2.cell? ⟨w.heap.size + 1 + 1, 1, none⟩ = some (.int .i64 0) := hC2.2.2.2.2.2.2.2.2.2.2.2.2.1
    have c13 : w2.frozen? ⟨w.heap.size + 1 + 1, 0, none⟩ = false := hC2.2.2.2.2.2.2.2.2.2.2.2.2.2.1
    have c14 : w2.frozen? ⟨w.heap.size + 1 + 1, 1, none⟩ = false := hC2.2.2.2.2.2.2.2.2.2.2.2.2.2.2.1
    have c15 : Below w.heap.size w w2 := hC2.2.2.2.2.2.2.2.2.2.2.2.2.2.2.2
    go_wp2_with fail
    refine (nowhere_c _).mono ?_
    rintro e w3 ⟨rfl, hb3⟩
    have hC3 := s3B_on hC2 hb3
    clear hC2 c0 c1 c2 c3 c4 c5 c6 c7 c8 c9 c10 c11 c12 c13 c14 c15
    have c0 : w3.cell? ⟨w.heap.size, 0, none⟩ = some (.int .i64 s) := hC3.1
    have c1 : w3.cell? ⟨w.heap.size, 1, none⟩ = some (.int .i64 j) := hC3.2.1
    have c2 : w3.cell? ⟨w.heap.size, 2, none⟩ = some (.int .i64 m) := hC3.2.2.1
    have c3 : w3.cell? ⟨w.heap.size, 3, none⟩ = some (.int .i64 g) := hC3.2.2.2.1
    have c4 : w3.cell? ⟨w.heap.size, 4, none⟩ = some (.int .i64 o) := hC3.2.2.2.2.1
    have c5 : w3.cell? ⟨w.heap.size + 1, 0, none⟩ = some (.bool kn) := hC3.2.2.2.2.2.1
    have c6 : w3.cell? ⟨w.heap.size + 1, 1, none⟩ = some (.int .i64 l) := hC3.2.2.2.2.2.2.1
    have c7 : w3.cell? ⟨w.heap.size + 1, 2, none⟩ = some (.int .i64 h) := hC3.2.2.2.2.2.2.2.1
    have c8 : w3.cell? ⟨w.heap.size + 1, 3, none⟩ = some (.int .i64 si) := hC3.2.2.2.2.2.2.2.2.1
    have c9 : w3.cell? ⟨w.heap.size + 1, 4, none⟩ = some (.int .i64 la) := hC3.2.2.2.2.2.2.2.2.2.1
    have c10 : w3.cell? ⟨w.heap.size + 1, 5, none⟩ = some (.int .i64 od) := hC3.2.2.2.2.2.2.2.2.2.2.1
    have c11 : w3.cell? ⟨w.heap.size + 1 + 1, 0, none⟩ = some (.int .i64 0) := hC3.2.2.2.2.2.2.2.2.2.2.2.1
    have c12 : w3.cell? ⟨w.heap.size + 1 + 1, 1, none⟩ = some (.int .i64 0) := hC3.2.2.2.2.2.2.2.2.2.2.2.2.1
    have c13 : w3.frozen? ⟨w.heap.size + 1 + 1, 0, none⟩ = false := hC3.2.2.2.2.2.2.2.2.2.2.2.2.2.1
    have c14 : w3.frozen? ⟨w.heap.size + 1 + 1, 1, none⟩ = false := hC3.2.2.2.2.2.2.2.2.2.2.2.2.2.2.1
    have c15 : Below w.heap.size w w3 := hC3.2.2.2.2.2.2.2.2.2.2.2.2.2.2.2
    go_wp2_with fail
    have hq2 : w.heap.size ≤ w.heap.size + 1 + 1 := by omega
    exact bodyPost_ret (v := .agg #[.int .i64 1, .int .i64 0]) (by simp [results, Tryd.results21, go_sem, *]) rfl ⟨rfl, (nbSetX (nbSetX c15 hq2) hq2)⟩

  have hq : q3 s j m g o kn l h = true := by simp only [q3, hr, Bool.true_and]; exact hp
  obtain ⟨g0, g1, o0, o1, l0, lh, h1⟩ := q3_parts hq
  have wr1 : IntKind.i64.wrap (g - o) = g - o := wrapS (by omega) (by omega)
  have wr2 : IntKind.i64.wrap (h - (g - o)) = h - (g - o) := wrapS (by omega) (by omega)
  have wr3 : IntKind.i64.wrap h = h := wrapS (by omega) (by omega)
  by_cases hgo : g < o
  · have mx : max (g - o) 0 = 0 := by omega
    by_cases hll : l < h
    · have e1 : surelyA s j m g o kn l h = (1, 0) := by simp [surelyA, hq, hgo, hll]
      rw [e1]
      clear e1 hq
      go_enter Tryd.func21, Tryd.ntmps21
      go_wp2_with fail
      refine (implRulesOk_c _ _ _ _ _ _).mono ?_
      rintro e w1 ⟨rfl, hb1⟩
      simp only [hr]
      have hC1 : s3B w s j m g o kn l h si la od w1 := ⟨cellOn hb1 (by go_simp), cellOn hb1 (by go_simp), cellOn hb1 (by go_simp), cellOn hb1 (by go_simp), cellOn hb1 (by go_simp), cellOn hb1 (by go_simp), cellOn hb1 (by go_simp), cellOn hb1 (by go_simp), cellOn hb1 (by go_simp), cellOn hb1 (by go_simp), cellOn hb1 (by go_simp), cellOn hb1 (by go_simp), cellOn hb1 (by go_simp), frozenOn hb1 (v := .int .i64 0) (by go_simp) (by go_simp), frozenOn hb1 (v := .int .i64 0) (by go_simp) (by go_simp), nbTrans (nbAlloc (nbAlloc (nbAlloc (Below.refl _ _) _) _) _) hb1⟩
      have c0 : w1.cell? ⟨w.heap.size, 0, none⟩ = some (.int .i64 s) := hC1.1
      have c1 : w1.cell? ⟨w.heap.size, 1, none⟩ = some (.int .i64 j) := hC1.2.1
      have c2 : w1.cell? ⟨w.heap.size, 2, none⟩ = some (.int .i64 m) := hC1.2.2.1
      have c3 : w1.cell? ⟨w.heap.size, 3, none⟩ = some (.int .i64 g) := hC1.2.2.2.1
      have c4 : w1.cell? ⟨w.heap.size, 4, none⟩ = some (.int .i64 o) := hC1.2.2.2.2.1
      have c5 : w1.cell? ⟨w.heap.size + 1, 0, none⟩ = some (.bool kn) := hC1.2.2.2.2.2.1
      have c6 : w1.cell? ⟨w.heap.size + 1, 1, none⟩ = some (.int .i64 l) := hC1.2.2.2.2.2.2.1
      have c7 : w1.cell? ⟨w.heap.size + 1, 2, none⟩ = some (.int .i64 h) := hC1.2.2.2.2.2.2.2.1
      have c8 : w1.cell? ⟨w.heap.size + 1, 3, none⟩ = some (.int .i64 si) := hC1.2.2.2.2.2.2.2.2.1
      have c9 : w1.cell? ⟨w.heap.size + 1, 4, none⟩ = some (.int .i64 la) := hC1.2.2.2.2.2.2.2.2.2.1
      have c10 : w1.cell? ⟨w.heap.size + 1, 5, none⟩ = some (.int .i64 od) := hC1.2.2.2.2.2.2.2.2.2.2.1
      have c11 : w1.cell? ⟨w.heap.size + 1 + 1, 0, none⟩ = some (.int .i64 0) := hC1.2.2.2.2.2.2.2.2.2.2.2.1
      have c12 : w1.cell? ⟨w.heap.size + 1 + 1, 1, none⟩ = some (.int .i64 0) := hC1.2.2.2.2.2.2.2.2.2.2.2.2.1
      have c13 : w1.frozen? ⟨w.heap.size + 1 + 1, 0, none⟩ = false := hC1.2.2.2.2.2.2.2.2.2.2.2.2.2.1
      have c14 : w1.frozen? ⟨w.heap.size + 1 + 1, 1, none⟩ = false := hC1.2.2.2.2.2.2.2.2.2.2.2.2.2.2.1
      have c15 : Below w.heap.size w w1 := hC1.2.2.2.2.2.2.2.2.2.2.2.2.2.2.2
      go_wp2_with fail
      refine (placed_c _ _ _ _ _ _ _).mono ?_
      rintro e w2 ⟨rfl, hb2⟩
      simp only [hp]
      have hC2 := s3B_on hC1 hb2
      clear hC1 c0 c1 c2 c3 c4 c5 c6 c7 c8 c9 c10 c11 c12 c13 c14 c15
      have c0 : w2.cell? ⟨w.heap.size, 0, none⟩ = some (.int .i64 s) := hC2.1
      have c1 : w2.cell? ⟨w.heap.size, 1, none⟩ = some (.int .i64 j) := hC2.2.1
      have c2 : w2.cell? ⟨w.heap.size, 2, none⟩ = some (.int .i64 m) := hC2.2.2.1
      have c3 : w2.cell? ⟨w.heap.size, 3, none⟩ = some (.int .i64 g) := hC2.2.2.2.1
      have c4 : w2.cell? ⟨w.heap.size, 4, none⟩ = some (.int .i64 o) := hC2.2.2.2.2.1
      have c5 : w2.cell? ⟨w.heap.size + 1, 0, none⟩ = some (.bool kn) := hC2.2.2.2.2.2.1
      have c6 : w2.cell? ⟨w.heap.size + 1, 1, none⟩ = some (.int .i64 l) := hC2.2.2.2.2.2.2.1
      have c7 : w2.cell? ⟨w.heap.size + 1, 2, none⟩ = some (.int .i64 h) := hC2.2.2.2.2.2.2.2.1
      have c8 : w2.cell? ⟨w.heap.size + 1, 3, none⟩ = some (.int .i64 si) := hC2.2.2.2.2.2.2.2.2.1
      have c9 : w2.cell? ⟨w.heap.size + 1, 4, none⟩ = some (.int .i64 la) := hC2.2.2.2.2.2.2.2.2.2.1
      have c10 : w2.cell? ⟨w.heap.size + 1, 5, none⟩ = some (.int .i64 od) := hC2.2.2.2.2.2.2.2.2.2.2.1
      have c11 : w2.cell? ⟨w.heap.size + 1 + 1, 0, none⟩ = some (.int .i64 0) := hC2.2.2.2.2.2.2.2.2.2.2.2.1
      have c12 : w2.cell? ⟨w.heap.size + 1 + 1, 1, none⟩ = some (.int .i64 0) := hC2.2.2.2.2.2.2.2.2.2.2.2.2.1
      have c13 : w2.frozen? ⟨w.heap.size + 1 + 1, 0, none⟩ = false := hC2.2.2.2.2.2.2.2.2.2.2.2.2.2.1
      have c14 : w2.frozen? ⟨w.heap.size + 1 + 1, 1, none⟩ = false := hC2.2.2.2.2.2.2.2.2.2.2.2.2.2.2.1
      have c15 : Below w.heap.size w w2 := hC2.2.2.2.2.2.2.2.2.2.2.2.2.2.2.2
      have hC3 := s3B_on hC2 (nbAlloc (Below.refl w2.heap.size w2) (.cells #[.int .i64 h, .int .i64 l] 27))
      have d0 : (w2.alloc (.cells #[.int .i64 h, .int .i64 l] 27)).cell? ⟨w.heap.size, 0, none⟩ = some (.int .i64 s) := hC3.1
      have d1 : (w2.alloc (.cells #[.int .i64 h, .int .i64 l] 27)).cell? ⟨w.heap.size, 1, none⟩ = some (.int .i64 j) := hC3.2.1
      have d2 : (w2.alloc (.cells #[.int .i64 h, .int .i64 l] 27)).cell? ⟨w.heap.size, 2, none⟩ = some (.int .i64 m) := hC3.2.2.1
      have d3 : (w2.alloc (.cells #[.int .i64 h, .int .i64 l] 27)).cell? ⟨w.heap.size, 3, none⟩ = some (.int .i64 g) := hC3.2.2.2.1
      have d4 : (w2.alloc (.cells #[.int .i64 h, .int .i64 l] 27)).cell? ⟨w.heap.size, 4, none⟩ = some (.int .i64 o) := hC3.2.2.2.2.1
      have d5 : (w2.alloc (.cells #[.int .i64 h, .int .i64 l] 27)).cell? ⟨w.heap.size + 1, 0, none⟩ = some (.bool kn) := hC3.2.2.2.2.2.1
      have d6 : (w2.alloc (.cells #[.int .i64 h, .int .i64 l] 27)).cell? ⟨w.heap.size + 1, 1, none⟩ = some (.int .i64 l) := hC3.2.2.2.2.2.2.1
      have d7 : (w2.alloc (.cells #[.int .i64 h, .int .i64 l] 27)).cell? ⟨w.heap.size + 1, 2, none⟩ = some (.int .i64 h) := hC3.2.2.2.2.2.2.2.1
      have d8 : (w2.alloc (.cells #[.int .i64 h, .int .i64 l] 27)).cell? ⟨w.heap.size + 1, 3, none⟩ = some (.int .i64 si) := hC3.2.2.2.2.2.2.2.2.1
      have d9 : (w2.alloc (.cells #[.int .i64 h, .int .i64 l] 27)).cell? ⟨w.heap.size + 1, 4, none⟩ = some (.int .i64 la) := hC3.2.2.2.2.2.2.2.2.2.1
      have d10 : (w2.alloc (.cells #[.int .i64 h, .int .i64 l] 27)).cell? ⟨w.heap.size + 1, 5, none⟩ = some (.int .i64 od) := hC3.2.2.2.2.2.2.2.2.2.2.1
      have d11 : (w2.alloc (.cells #[.int .i64 h, .int .i64 l] 27)).cell? ⟨w.heap.size + 1 + 1, 0, none⟩ = some (.int .i64 0) := hC3.2.2.2.2.2.2.2.2.2.2.2.1
      have d12 : (w2.alloc (.cells #[.int .i64 h, .int .i64 l] 27)).cell? ⟨w.heap.size + 1 + 1, 1, none⟩ = some (.int .i64 0) := hC3.2.2.2.2.2.2.2.2.2.2.2.2.1
      have d13 : (w2.alloc (.cells #[.int .i64 h, .int .i64 l] 27)).frozen? ⟨w.heap.size + 1 + 1, 0, none⟩ = false := hC3.2.2.2.2.2.2.2.2.2.2.2.2.2.1
      have d14 : (w2.alloc (.cells #[.int .i64 h, .int .i64 l] 27)).frozen? ⟨w.heap.size + 1 + 1, 1, none⟩ = false := hC3.2.2.2.2.2.2.2.2.2.2.2.2.2.2.1
      have d15 : Below w.heap.size w (w2.alloc (.cells #[.int .i64 h, .int .i64 l] 27)) := hC3.2.2.2.2.2.2.2.2.2.2.2.2.2.2.2
      have hlt := ltCell c11
      have hne : w.heap.size + 1 + 1 ≠ w2.heap.size := by omega
      go_wp2_with fail
      refine (nowhere_c _).mono ?_
      rintro e w4 ⟨rfl, hb4⟩
      have hC4 := s3B_on hC3 hb4
      clear hC2 hC3 c0 c1 c2 c3 c4 c5 c6 c7 c8 c9 c10 c11 c12 c13 c14 c15 d0 d1 d2 d3 d4 d5 d6 d7 d8 d9 d10 d11 d12 d13 d14 d15
      have c0 : w4.cell? ⟨w.heap.size, 0, none⟩ = some (.int .i64 s) := hC4.1
      have c1 : w4.cell? ⟨w.heap.size, 1, none⟩ = some (.int .i64 j) := hC4.2.1
      have c2 : w4.cell? ⟨w.heap.size, 2, none⟩ = some (.int .i64 m) := hC4.2.2.1
      have c3 : w4.cell? ⟨w.heap.size, 3, none⟩ = some (.int .i64 g) := hC4.2.2.2.1
      have c4 : w4.cell? ⟨w.heap.size, 4, none⟩ = some (.int .i64 o) := hC4.2.2.2.2.1
      have c5 : w4.cell? ⟨w.heap.size + 1, 0, none⟩ = some (.bool kn) := hC4.2.2.2.2.2.1
      have c6 : w4.cell? ⟨w.heap.size + 1, 1, none⟩ = some (.int .i64 l) := hC4.2.2.2.2.2.2.1
      have c7 : w4.cell? ⟨w.heap.size + 1, 2, none⟩ = some (.int .i64 h) := hC4.2.2.2.2.2.2.2.1
      have c8 : w4.cell? ⟨w.heap.size + 1, 3, none⟩ = some (.int .i64 si) := hC4.2.2.2.2.2.2.2.2.1
      have c9 : w4.cell? ⟨w.heap.size + 1, 4, none⟩ = some (.int .i64 la) := hC4.2.2.2.2.2.2.2.2.2.1
      have c10 : w4.cell? ⟨w.heap.size + 1, 5, none⟩ = some (.int .i64 od) := hC4.2.2.2.2.2.2.2.2.2.2.1
      have c11 : w4.cell? ⟨w.heap.size + 1 + 1, 0, none⟩ = some (.int .i64 0) := hC4.2.2.2.2.2.2.2.2.2.2.2.1
      have c12 : w4.cell? ⟨w.heap.size + 1 + 1, 1, none⟩ = some (.int .i64 0) := hC4.2.2.2.2.2.2.2.2.2.2.2.2.1
      have c13 : w4.frozen? ⟨w.heap.size + 1 + 1, 0, none⟩ = false := hC4.2.2.2.2.2.2.2.2.2.2.2.2.2.1
      have c14 : w4.frozen? ⟨w.heap.size + 1 + 1, 1, none⟩ = false := hC4.2.2.2.2.2.2.2.2.2.2.2.2.2.2.1
      have c15 : Below w.heap.size w w4 := hC4.2.2.2.2.2.2.2.2.2.2.2.2.2.2.2
      go_wp2_with fail
      have hq2 : w.heap.size ≤ w.heap.size + 1 + 1 := by omega
      exact bodyPost_ret (v := .agg #[.int .i64 1, .int .i64 0]) (by simp [results, Tryd.results21, go_sem, *]) rfl ⟨rfl, (nbSetX (nbSetX c15 hq2) hq2)⟩
    · have e1 : surelyA s j m g o kn l h = (h, l) := by simp [surelyA, hq, hgo, hll]
      rw [e1]
      clear e1 hq
      go_enter Tryd.func21, Tryd.ntmps21
      go_wp2_with fail
      refine (implRulesOk_c _ _ _ _ _ _).mono ?_
      rintro e w1 ⟨rfl, hb1⟩
      simp only [hr]
      have hC1 : s3B w s j m g o kn l h si la od w1 := ⟨cellOn hb1 (by go_simp), cellOn hb1 (by go_simp), cellOn hb1 (by go_simp), cellOn hb1 (by go_simp), cellOn hb1 (by go_simp), cellOn hb1 (by go_simp), cellOn hb1 (by go_simp), cellOn hb1 (by go_simp), cellOn hb1 (by go_simp), cellOn hb1 (by go_simp), cellOn hb1 (by go_simp), cellOn hb1 (by go_simp), cellOn hb1 (by go_simp), frozenOn hb1 (v := .int .i64 0) (by go_simp) (by go_simp), frozenOn hb1 (v := .int .i64 0) (by go_simp) (by go_simp), nbTrans (nbAlloc (nbAlloc (nbAlloc (Below.refl _ _) _) _) _) hb1⟩
      have c0 : w1.cell? ⟨w.heap.size, 0, none⟩ = some (.int .i64 s) := hC1.1
      have c1 : w1.cell? ⟨w.heap.size, 1, none⟩ = some (.int .i64 j) := hC1.2.1
      have c2 : w1.cell? ⟨w.heap.size, 2, none⟩ = some (.int .i64 m) := hC1.2.2.1
      have c3 : w1.cell? ⟨w.heap.size, 3, none⟩ = some (.int .i64 g) := hC1.2.2.2.1
      have c4 : w1.cell? ⟨w.heap.size, 4, none⟩ = some (.int .i64 o) := hC1.2.2.2.2.1
      have c5 : w1.cell? ⟨w.heap.size + 1, 0, none⟩ = some (.bool kn) := hC1.2.2.2.2.2.1
      have c6 : w1.cell? ⟨w.heap.size + 1, 1, none⟩ = some (.int .i64 l) := hC1.2.2.2.2.2.2.1
      have c7 : w1.cell? ⟨w.heap.size + 1, 2, none⟩ = some (.int .i64 h) := hC1.2.2.2.2.2.2.2.1
      have c8 : w1.cell? ⟨w.heap.size + 1, 3, none⟩ = some (.int .i64 si) := hC1.2.2.2.2.2.2.2.2.1
      have c9 : w1.cell? ⟨w.heap.size + 1, 4, none⟩ = some (.int .i64 la) := hC1.2.2.2.2.2.2.2.2.2.1
      have c10 : w1.cell? ⟨w.heap.size + 1, 5, none⟩ = some (.int .i64 od) := hC1.2.2.2.2.2.2.2.2.2.2.1
      have c11 : w1.cell? ⟨w.heap.size + 1 + 1, 0, none⟩ = some (.int .i64 0) := hC1.2.2.2.2.2.2.2.2.2.2.2.1
      have c12 : w1.cell? ⟨w.heap.size + 1 + 1, 1, none⟩ = some (.int .i64 0) := hC1.2.2.2.2.2.2.2.2.2.2.2.2.1
      have c13 : w1.frozen? ⟨w.heap.size + 1 + 1, 0, none⟩ = false := hC1.2.2.2.2.2.2.2.2.2.2.2.2.2.1
      have c14 : w1.frozen? ⟨w.heap.size + 1 + 1, 1, none⟩ = false := hC1.2.2.2.2.2.2.2.2.2.2.2.2.2.2.1
      have c15 : Below w.heap.size w w1 := hC1.2.2.2.2.2.2.2.2.2.2.2.2.2.2.2
      go_wp2_with fail
      refine (placed_c _ _ _ _ _ _ _).mono ?_
      rintro e w2 ⟨rfl, hb2⟩
      simp only [hp]
      have hC2 := s3B_on hC1 hb2
      clear hC1 c0 c1 c2 c3 c4 c5 c6 c7 c8 c9 c10 c11 c12 c13 c14 c15
      have c0 : w2.cell? ⟨w.heap.size, 0, none⟩ = some (.int .i64 s) := hC2.1
      have c1 : w2.cell? ⟨w.heap.size, 1, none⟩ = some (.int .i64 j) := hC2.2.1
      have c2 : w2.cell? ⟨w.heap.size, 2, none⟩ = some (.int .i64 m) := hC2.2.2.1
      have c3 : w2.cell? ⟨w.heap.size, 3, none⟩ = some (.int .i64 g) := hC2.2.2.2.1
      have c4 : w2.cell? ⟨w.heap.size, 4, none⟩ = some (.int .i64 o) := hC2.2.2.2.2.1
      have c5 : w2.cell? ⟨w.heap.size + 1, 0, none⟩ = some (.bool kn) := hC2.2.2.2.2.2.1
      have c6 : w2.cell? ⟨w.heap.size + 1, 1, none⟩ = some (.int .i64 l) := hC2.2.2.2.2.2.2.1
      have c7 : w2.cell? ⟨w.heap.size + 1, 2, none⟩ = some (.int .i64 h) := hC2.2.2.2.2.2.2.2.1
      have c8 : w2.cell? ⟨w.heap.size + 1, 3, none⟩ = some (.int .i64 si) := hC2.2.2.2.2.2.2.2.2.1
      have c9 : w2.cell? ⟨w.heap.size + 1, 4, none⟩ = some (.int .i64 la) := hC2.2.2.2.2.2.2.2.2.2.1
      have c10 : w2.cell? ⟨w.heap.size + 1, 5, none⟩ = some (.int .i64 od) := hC2.2.2.2.2.2.2.2.2.2.2.1
      have c11 : w2.cell? ⟨w.heap.size + 1 + 1, 0, none⟩ = some (.int .i64 0) := hC2.2.2.2.2.2.2.2.2.2.2.2.1
      have c12 : w2.cell? ⟨w.heap.size + 1 + 1, 1, none⟩ = some (.int .i64 0) := hC2.2.2.2.2.2.2.2.2.2.2.2.2.1
      have c13 : w2.frozen? ⟨w.heap.size + 1 + 1, 0, none⟩ = false := hC2.2.2.2.2.2.2.2.2.2.2.2.2.2.1
      have c14 : w2.frozen? ⟨w.heap.size + 1 + 1, 1, none⟩ = false := hC2.2.2.2.2.2.2.2.2.2.2.2.2.2.2.1
      have c15 : Below w.heap.size w w2 := hC2.2.2.2.2.2.2.2.2.2.2.2.2.2.2.2
      have hC3 := s3B_on hC2 (nbAlloc (Below.refl w2.heap.size w2) (.cells #[.int .i64 h, .int .i64 l] 27))
      have d0 : (w2.alloc (.cells #[.int .i64 h, .int .i64 l] 27)).cell? ⟨w.heap.size, 0, none⟩ = some (.int .i64 s) := hC3.1
      have d1 : (w2.alloc (.cells #[.int .i64 h, .int .i64 l] 27)).cell? ⟨w.heap.size, 1, none⟩ = some (.int .i64 j) := hC3.2.1
      have d2 : (w2.alloc (.cells #[.int .i64 h, .int .i64 l] 27)).cell? ⟨w.heap.size, 2, none⟩ = some (.int .i64 m) := hC3.2.2.1
      have d3 : (w2.alloc (.cells #[.int .i64 h, .int .i64 l] 27)).cell? ⟨w.heap.size, 3, none⟩ = some (.int .i64 g) := hC3.2.2.2.1
      have d4 : (w2.alloc (.cells #[.int .i64 h, .int .i64 l] 27)).cell? ⟨w.heap.size, 4, none⟩ = some (.int .i64 o) := hC3.2.2.2.2.1
      have d5 : (w2.alloc (.cells #[.int .i64 h, .int .i64 l] 27)).cell? ⟨w.heap.size + 1, 0, none⟩ = some (.bool kn) := hC3.2.2.2.2.2.1
      have d6 : (w2.alloc (.cells #[.int .i64 h, .int .i64 l] 27)).cell? ⟨w.heap.size + 1, 1, none⟩ = some (.int .i64 l) := hC3.2.2.2.2.2.2.1
      have d7 : (w2.alloc (.cells #[.int .i64 h, .int .i64 l] 27)).cell? ⟨w.heap.size + 1, 2, none⟩ = some (.int .i64 h) := hC3.2.2.2.2.2.2.2.1
      have d8 : (w2.alloc (.cells #[.int .i64 h, .int .i64 l] 27)).cell? ⟨w.heap.size + 1, 3, none⟩ = some (.int .i64 si) := hC3.2.2.2.2.2.2.2.2.1
      have d9 : (w2.alloc (.cells #[.int .i64 h, .int .i64 l] 27)).cell? ⟨w.heap.size + 1, 4, none⟩ = some (.int .i64 la) := hC3.2.2.2.2.2.2.2.2.2.1
      have d10 : (w2.alloc (.cells #[.int .i64 h, .int .i64 l] 27)).cell? ⟨w.heap.size + 1, 5, none⟩ = some (.int .i64 od) := hC3.2.2.2.2.2.2.2.2.2.2.1
      have d11 : (w2.alloc (.cells #[.int .i64 h, .int .i64 l] 27)).cell? ⟨w.heap.size + 1 + 1, 0, none⟩ = some (.int .i64 0) := hC3.2.2.2.2.2.2.2.2.2.2.2.1
      have d12 : (w2.alloc (.cells #[.int .i64 h, .int .i64 l] 27)).cell? ⟨w.heap.size + 1 + 1, 1, none⟩ = some (.int .i64 0) := hC3.2.2.2.2.2.2.2.2.2.2.2.2.1
      have d13 : (w2.alloc (.cells #[.int .i64 h, .int .i64 l] 27)).frozen? ⟨w.heap.size + 1 + 1, 0, none⟩ = false := hC3.2.2.2.2.2.2.2.2.2.2.2.2.2.1
      have d14 : (w2.alloc (.cells #[.int .i64 h, .int .i64 l] 27)).frozen? ⟨w.heap.size + 1 + 1, 1, none⟩ = false := hC3.2.2.2.2.2.2.2.2.2.2.2.2.2.2.1
      have d15 : Below w.heap.size w (w2.alloc (.cells #[.int .i64 h, .int .i64 l] 27)) := hC3.2.2.2.2.2.2.2.2.2.2.2.2.2.2.2
      have hlt := ltCell c11
      have hne : w.heap.size + 1 + 1 ≠ w2.heap.size := by omega
      go_wp2_with fail
      have hq2 : w.heap.size ≤ w.heap.size + 1 + 1 := by omega
      exact bodyPost_ret (v := .agg #[.int .i64 h, .int .i64 l]) (by simp [results, Tryd.results21, go_sem, *]) rfl ⟨rfl, nbAlloc (nbSetX (nbSetX c15 hq2) hq2) _⟩
  · have mx : max (g - o) 0 = g - o := by omega
    by_cases hll : l < h - (g - o)
    · have e1 : surelyA s j m g o kn l h = (1, 0) := by simp only [surelyA, hq, if_true, if_neg hgo]; rw [if_pos (by omega)]
      rw [e1]
      clear e1 hq
      go_enter Tryd.func21, Tryd.ntmps21
      go_wp2_with fail
      refine (implRulesOk_c _ _ _ _ _ _).mono ?_
      rintro e w1 ⟨rfl, hb1⟩
      simp only [hr]
      have hC1 : s3B w s j m g o kn l h si la od w1 := ⟨cellOn hb1 (by go_simp), cellOn hb1 (by go_simp), cellOn hb1 (by go_simp), cellOn hb1 (by go_simp), cellOn hb1 (by go_simp), cellOn hb1 (by go_simp), cellOn hb1 (by go_simp), cellOn hb1 (by go_simp), cellOn hb1 (by go_simp), cellOn hb1 (by go_simp), cellOn hb1 (by go_simp), cellOn hb1 (by go_simp), cellOn hb1 (by go_simp), frozenOn hb1 (v := .int .i64 0) (by go_simp) (by go_simp), frozenOn hb1 (v := .int .i64 0) (by go_simp) (by go_simp), nbTrans (nbAlloc (nbAlloc (nbAlloc (Below.refl _ _) _) _) _) hb1⟩
      have c0 : w1.cell? ⟨w.heap.size, 0, none⟩ = some (.int .i64 s) := hC1.1
      have c1 : w1.cell? ⟨w.heap.size, 1, none⟩ = some (.int .i64 j) := hC1.2.1
      have c2 : w1.cell? ⟨w.heap.size, 2, none⟩ = some (.int .i64 m) := hC1.2.2.1
      have c3 : w1.cell? ⟨w.heap.size, 3, none⟩ = some (.int .i64 g) := hC1.2.2.2.1
      have c4 : w1.cell? ⟨w.heap.size, 4, none⟩ = some (.int .i64 o) := hC1.2.2.2.2.1
      have c5 : w1.cell? ⟨w.heap.size + 1, 0, none⟩ = some (.bool kn) := hC1.2.2.2.2.2.1
      have c6 : w1.cell? ⟨w.heap.size + 1, 1, none⟩ = some (.int .i64 l) := hC1.2.2.2.2.2.2.1
      have c7 : w1.cell? ⟨w.heap.size + 1, 2, none⟩ = some (.int .i64 h) := hC1.2.2.2.2.2.2.2.1
      have c8 : w1.cell? ⟨w.heap.size + 1, 3, none⟩ = some (.int .i64 si) := hC1.2.2.2.2.2.2.2.2.1
      have c9 : w1.cell? ⟨w.heap.size + 1, 4, none⟩ = some (.int .i64 la) := hC1.2.2.2.2.2.2.2.2.2.1
      have c10 : w1.cell? ⟨w.heap.size + 1, 5, none⟩ = some (.int .i64 od) := hC1.2.2.2.2.2.2.2.2.2.2.1
      have c11 : w1.cell? ⟨w.heap.size + 1 + 1, 0, none⟩ = some (.int .i64 0) := hC1.2.2.2.2.2.2.2.2.2.2.2.1
      have c12 : w1.cell? ⟨w.heap.size + 1 + 1, 1, none⟩ = some (.int .i64 0) := hC1.2.2.2.2.2.2.2.2.2.2.2.2.1
      have c13 : w1.frozen? ⟨w.heap.size + 1 + 1, 0, none⟩ = false := hC1.2.2.2.2.2.2.2.2.2.2.2.2.2.1
      have c14 : w1.frozen? ⟨w.heap.size + 1 + 1, 1, none⟩ = false := hC1.2.2.2.2.2.2.2.2.2.2.2.2.2.2.1
      have c15 : Below w.heap.size w w1 := hC1.2.2.2.2.2.2.2.2.2.2.2.2.2.2.2
      go_wp2_with fail
      refine (placed_c _ _ _ _ _ _ _).mono ?_
      rintro e w2 ⟨rfl, hb2⟩
      simp only [hp]
      have hC2 := s3B_on hC1 hb2
      clear hC1 c0 c1 c2 c3 c4 c5 c6 c7 c8 c9 c10 c11 c12 c13 c14 c15
      have c0 : w2.cell? ⟨w.heap.size, 0, none⟩ = some (.int .i64 s) := hC2.1
      have c1 : w2.cell? ⟨w.heap.size, 1, none⟩ = some (.int .i64 j) := hC2.2.1
      have c2 : w2.cell? ⟨w.heap.size, 2, none⟩ = some (.int .i64 m) := hC2.2.2.1
      have c3 : w2.cell? ⟨w.heap.size, 3, none⟩ = some (.int .i64 g) := hC2.2.2.2.1
      have c4 : w2.cell? ⟨w.heap.size, 4, none⟩ = some (.int .i64 o) := hC2.2.2.2.2.1
      have c5 : w2.cell? ⟨w.heap.size + 1, 0, none⟩ = some (.bool kn) := hC2.2.2.2.2.2.1
      have c6 : w2.cell? ⟨w.heap.size + 1, 1, none⟩ = some (.int .i64 l) := hC2.2.2.2.2.2.2.1
      have c7 : w2.cell? ⟨w.heap.size + 1, 2, none⟩ = some (.int .i64 h) := hC2.2.2.2.2.2.2.2.1
      have c8 : w2.cell? ⟨w.heap.size + 1, 3, none⟩ = some (.int .i64 si) := hC2.2.2.2.2.2.2.2.2.1
      have c9 : w2.cell? ⟨w.heap.size + 1, 4, none⟩ = some (.int .i64 la) := hC2.2.2.2.2.2.2.2.2.2.1
      have c10 : w2.cell? ⟨w.heap.size + 1, 5, none⟩ = some (.int .i64 od) := hC2.2.2.2.2.2.2.2.2.2.2.1
      have c11 : w2.cell? ⟨w.heap.size + 1 + 1, 0, none⟩ = some (.int .i64 0) := hC2.2.2.2.2.2.2.2.2.2.2.2.1
      have c12 : w2.cell? ⟨w.heap.size + 1 + 1, 1, none⟩ = some (.int .i64 0) := hC2.2.2.2.2.2.2.2.2.2.2.2.2.1
      have c13 : w2.frozen? ⟨w.heap.size + 1 + 1, 0, none⟩ = false := hC2.2.2.2.2.2.2.2.2.2.2.2.2.2.1
      have c14 : w2.frozen? ⟨w.heap.size + 1 + 1, 1, none⟩ = false := hC2.2.2.2.2.2.2.2.2.2.2.2.2.2.2.1
      have c15 : Below w.heap.size w w2 := hC2.2.2.2.2.2.2.2.2.2.2.2.2.2.2.2
      have hC3 := s3B_on hC2 (nbAlloc (Below.refl w2.heap.size w2) (.cells #[.int .i64 (h - (g - o)), .int .i64 l] 27))
      have d0 : (w2.alloc (.cells #[.int .i64 (h - (g - o)), .int .i64 l] 27)).cell? ⟨w.heap.size, 0, none⟩ = some (.int .i64 s) := hC3.1
      have d1 : (w2.alloc (.cells #[.int .i64 (h - (g - o)), .int .i64 l] 27)).cell? ⟨w.heap.size, 1, none⟩ = some (.int .i64 j) := hC3.2.1
      have d2 : (w2.alloc (.cells #[.int .i64 (h - (g - o)), .int .i64 l] 27)).cell? ⟨w.heap.size, 2, none⟩ = some (.int .i64 m) := hC3.2.2.1
      have d3 : (w2.alloc (.cells #[.int .i64 (h - (g - o)), .int .i64 l] 27)).cell? ⟨w.heap.size, 3, none⟩ = some (.int .i64 g) := hC3.2.2.2.1
      have d4 : (w2.alloc (.cells #[.int .i64 (h - (g - o)), .int .i64 l] 27)).cell? ⟨w.heap.size, 4, none⟩ = some (.int .i64 o) := hC3.2.2.2.2.1
      have d5 : (w2.alloc (.cells #[.int .i64 (h - (g - o)), .int .i64 l] 27)).cell? ⟨w.heap.size + 1, 0, none⟩ = some (.bool kn) := hC3.2.2.2.2.2.1
      have d6 : (w2.alloc (.cells #[.int .i64 (h - (g - o)), .int .i64 l] 27)).cell? ⟨w.heap.size + 1, 1, none⟩ = some (.int .i64 l) := hC3.2.2.2.2.2.2.1
      have d7 : (w2.alloc (.cells #[.int .i64 (h - (g - o)), .int .i64 l] 27)).cell? ⟨w.heap.size + 1, 2, none⟩ = some (.int .i64 h) := hC3.2.2.2.2.2.2.2.1
      have d8 : (w2.alloc (.cells #[.int .i64 (h - (g - o)), .int .i64 l] 27)).cell? ⟨w.heap.size + 1, 3, none⟩ = some (.int .i64 si) := hC3.2.2.2.2.2.2.2.2.1
      have d9 : (w2.alloc (.cells #[.int .i64 (h - (g - o)), .int .i64 l] 27)).cell? ⟨w.heap.size + 1, 4, none⟩ = some (.int .i64 la) := hC3.2.2.2.2.2.2.2.2.2.1
      have d10 : (w2.alloc (.cells #[.int .i64 (h - (g - o)), .int .i64 l] 27)).cell? ⟨w.heap.size + 1, 5, none⟩ = some (.int .i64 od) := hC3.2.2.2.2.2.2.2.2.2.2.1
      have d11 : (w2.alloc (.cells #[.int .i64 (h - (g - o)), .int .i64 l] 27)).cell? ⟨w.heap.size + 1 + 1, 0, none⟩ = some (.int .i64 0) := hC3.2.2.2.2.2.2.2.2.2.2.2.1
      have d12 : (w2.alloc (.cells #[.int .i64 (h - (g - o)), .int .i64 l] 27)).cell? ⟨w.heap.size + 1 + 1, 1, none⟩ = some (.int .i64 0) := hC3.2.2.2.2.2.2.2.2.2.2.2.2.1
      have d13 : (w2.alloc (.cells #[.int .i64 (h - (g - o)), .int .i64 l] 27)).frozen? ⟨w.heap.size + 1 + 1, 0, none⟩ = false := hC3.2.2.2.2.2.2.2.2.2.2.2.2.2.1
      have d14 : (w2.alloc (.cells #[.int .i64 (h - (g - o)), .int .i64 l] 27)).frozen? ⟨w.heap.size + 1 + 1, 1, none⟩ = false := hC3.2.2.2.2.2.2.2.2.2.2.2.2.2.2.1
      have d15 : Below w.heap.size w (w2.alloc (.cells #[.int .i64 (h - (g - o)), .int .i64 l] 27)) := hC3.2.2.2.2.2.2.2.2.2.2.2.2.2.2.2
      have hlt := ltCell c11
      have hne : w.heap.size + 1 + 1 ≠ w2.heap.size := by omega
      go_wp2_with fail
      refine (nowhere_c _).mono ?_
      rintro e w4 ⟨rfl, hb4⟩
      have hC4 := s3B_on hC3 hb4
      clear hC2 hC3 c0 c1 c2 c3 c4 c5 c6 c7 c8 c9 c10 c11 c12 c13 c14 c15 d0 d1 d2 d3 d4 d5 d6 d7 d8 d9 d10 d11 d12 d13 d14 d15
      have c0 : w4.cell? ⟨w.heap.size, 0, none⟩ = some (.int .i64 s) := hC4.1
      have c1 : w4.cell? ⟨w.heap.size, 1, none⟩ = some (.int .i64 j) := hC4.2.1
      have c2 : w4.cell? ⟨w.heap.size, 2, none⟩ = some (.int .i64 m) := hC4.2.2.1
      have c3 : w4.cell? ⟨w.heap.size, 3, none⟩ = some (.int .i64 g) := hC4.2.2.2.1
      have c4 : w4.cell? ⟨w.heap.size, 4, none⟩ = some (.int .i64 o) := hC4.2.2.2.2.1
      have c5 : w4.cell? ⟨w.heap.size + 1, 0, none⟩ = some (.bool kn) := hC4.2.2.2.2.2.1
      have c6 : w4.cell? ⟨w.heap.size + 1, 1, none⟩ = some (.int .i64 l) := hC4.2.2.2.2.2.2.1
      have c7 : w4.cell? ⟨w.heap.size + 1, 2, none⟩ = some (.int .i64 h) := hC4.2.2.2.2.2.2.2.1
      have c8 : w4.cell? ⟨w.heap.size + 1, 3, none⟩ = some (.int .i64 si) := hC4.2.2.2.2.2.2.2.2.1
      have c9 : w4.cell? ⟨w.heap.size + 1, 4, none⟩ = some (.int .i64 la) := hC4.2.2.2.2.2.2.2.2.2.1
      have c10 : w4.cell? ⟨w.heap.size + 1, 5, none⟩ = some (.int .i64 od) := hC4.2.2.2.2.2.2.2.2.2.2.1
      have c11 : w4.cell? ⟨w.heap.size + 1 + 1, 0, none⟩ = some (.int .i64 0) := hC4.2.2.2.2.2.2.2.2.2.2.2.1
      have c12 : w4.cell? ⟨w.heap.size + 1 + 1, 1, none⟩ = some (.int .i64 0) := hC4.2.2.2.2.2.2.2.2.2.2.2.2.1
      have c13 : w4.frozen? ⟨w.heap.size + 1 + 1, 0, none⟩ = false := hC4.2.2.2.2.2.2.2.2.2.2.2.2.2.1
      have c14 : w4.frozen? ⟨w.heap.size + 1 + 1, 1, none⟩ = false := hC4.2.2.2.2.2.2.2.2.2.2.2.2.2.2.1
      have c15 : Below w.heap.size w w4 := hC4.2.2.2.2.2.2.2.2.2.2.2.2.2.2.2
      go_wp2_with fail
      have hq2 : w.heap.size ≤ w.heap.size + 1 + 1 := by omega
      exact bodyPost_ret (v := .agg #[.int .i64 1, .int .i64 0]) (by simp [results, Tryd.results21, go_sem, *]) rfl ⟨rfl, (nbSetX (nbSetX c15 hq2) hq2)⟩
    · have e1 : surelyA s j m g o kn l h = (h - (g - o), l) := by simp only [surelyA, hq, if_true, if_neg hgo]; rw [if_neg (by omega), show h - g + o = h - (g - o) by omega]
      rw [e1]
      clear e1 hq
      go_enter Tryd.func21, Tryd.ntmps21
      go_wp2_with fail
      refine (implRulesOk_c _ _ _ _ _ _).mono ?_
      rintro e w1 ⟨rfl, hb1⟩
      simp only [hr]
      have hC1 : s3B w s j m g o kn l h si la od w1 := ⟨cellOn hb1 (by go_simp), cellOn hb1 (by go_simp), cellOn hb1 (by go_simp), cellOn hb1 (by go_simp), cellOn hb1 (by go_simp), cellOn hb1 (by go_simp), cellOn hb1 (by go_simp), cellOn hb1 (by go_simp), cellOn hb1 (by go_simp), cellOn hb1 (by go_simp), cellOn hb1 (by go_simp), cellOn hb1 (by go_simp), cellOn hb1 (by go_simp), frozenOn hb1 (v := .int .i64 0) (by go_simp) (by go_simp), frozenOn hb1 (v := .int .i64 0) (by go_simp) (by go_simp), nbTrans (nbAlloc (nbAlloc (nbAlloc (Below.refl _ _) _) _) _) hb1⟩
      have c0 : w1.cell? ⟨w.heap.size, 0, none⟩ = some (.int .i64 s) := hC1.1
      have c1 : w1.cell? ⟨w.heap.size, 1, none⟩ = some (.int .i64 j) := hC1.2.1
      have c2 : w1.cell? ⟨w.heap.size, 2, none⟩ = some (.int .i64 m) := hC1.2.2.1
      have c3 : w1.cell? ⟨w.heap.size, 3, none⟩ = some (.int .i64 g) := hC1.2.2.2.1
      have c4 : w1.cell? ⟨w.heap.size, 4, none⟩ = some (.int .i64 o) := hC1.2.2.2.2.1
      have c5 : w1.cell? ⟨w.heap.size + 1, 0, none⟩ = some (.bool kn) := hC1.2.2.2.2.2.1
      have c6 : w1.cell? ⟨w.heap.size + 1, 1, none⟩ = some (.int .i64 l) := hC1.2.2.2.2.2.2.1
      have c7 : w1.cell? ⟨w.heap.size + 1, 2, none⟩ = some (.int .i64 h) := hC1.2.2.2.2.2.2.2.1
      have c8 : w1.cell? ⟨w.heap.size + 1, 3, none⟩ = some (.int .i64 si) := hC1.2.2.2.2.2.2.2.2.1
      have c9 : w1.cell? ⟨w.heap.size + 1, 4, none⟩ = some (.int .i64 la) := hC1.2.2.2.2.2.2.2.2.2.1
      have c10 : w1.cell? ⟨w.heap.size + 1, 5, none⟩ = some (.int .i64 od) := hC1.2.2.2.2.2.2.2.2.2.2.1
      have c11 : w1.cell? ⟨w.heap.size + 1 + 1, 0, none⟩ = some (.int .i64 0) := hC1.2.2.2.2.2.2.2.2.2.2.2.1
      have c12 : w1.cell? ⟨w.heap.size + 1 + 1, 1, none⟩ = some (.int .i64 0) := hC1.2.2.2.2.2.2.2.2.2.2.2.2.1
      have c13 : w1.frozen? ⟨w.heap.size + 1 + 1, 0, none⟩ = false := hC1.2.2.2.2.2.2.2.2.2.2.2.2.2.1
      have c14 : w1.frozen? ⟨w.heap.size + 1 + 1, 1, none⟩ = false := hC1.2.2.2.2.2.2.2.2.2.2.2.2.2.2.1
      have c15 : Below w.heap.size w w1 := hC1.2.2.2.2.2.2.2.2.2.2.2.2.2.2.2
      go_wp2_with fail
      refine (placed_c _ _ _ _ _ _ _).mono ?_
      rintro e w2 ⟨rfl, hb2⟩
      simp only [hp]
      have hC2 := s3B_on hC1 hb2
      clear hC1 c0 c1 c2 c3 c4 c5 c6 c7 c8 c9 c10 c11 c12 c13 c14 c15
      have c0 : w2.cell? ⟨w.heap.size, 0, none⟩ = some (.int .i64 s) := hC2.1
      have c1 : w2.cell? ⟨w.heap.size, 1, none⟩ = some (.int .i64 j) := hC2.2.1
      have c2 : w2.cell? ⟨w.heap.size, 2, none⟩ = some (.int .i64 m) := hC2.2.2.1
      have c3 : w2.cell? ⟨w.heap.size, 3, none⟩ = some (.int .i64 g) := hC2.2.2.2.1
      have c4 : w2.cell? ⟨w.heap.size, 4, none⟩ = some (.int .i64 o) := hC2.2.2.2.2.1
      have c5 : w2.cell? ⟨w.heap.size + 1, 0, none⟩ = some (.bool kn) := hC2.2.2.2.2.2.1
      have c6 : w2.cell? ⟨w.heap.size + 1, 1, none⟩ = some (.int .i64 l) := hC2.2.2.2.2.2.2.1
      have c7 : w2.cell? ⟨w.heap.size + 1, 2, none⟩ = some (.int .i64 h) := hC2.2.2.2.2.2.2.2.1
      have c8 : w2.cell? ⟨w.heap.size + 1, 3, none⟩ = some (.int .i64 si) := hC2.2.2.2.2.2.2.2.2.1
      have c9 : w2.cell? ⟨w.heap.size + 1, 4, none⟩ = some (.int .i64 la) := hC2.2.2.2.2.2.2.2.2.2.1
      have c10 : w2.cell? ⟨w.heap.size + 1, 5, none⟩ = some (.int .i64 od) := hC2.2.2.2.2.2.2.2.2.2.2.1
      have c11 : w2.cell? ⟨w.heap.size + 1 + 1, 0, none⟩ = some (.int .i64 0) := hC2.2.2.2.2.2.2.2.2.2.2.2.1
      have c12 : w2.cell? ⟨w.heap.size + 1 + 1, 1, none⟩ = some (.int .i64 0) := hC2.2.2.2.2.2.2.2.2.2.2.2.2.1
      have c13 : w2.frozen? ⟨w.heap.size + 1 + 1, 0, none⟩ = false := hC2.2.2.2.2.2.2.2.2.2.2.2.2.2.1
      have c14 : w2.frozen? ⟨w.heap.size + 1 + 1, 1, none⟩ = false := hC2.2.2.2.2.2.2.2.2.2.2.2.2.2.2.1
      have c15 : Below w.heap.size w w2 := hC2.2.2.2.2.2.2.2.2.2.2.2.2.2.2.2
      have hC3 := s3B_on hC2 (nbAlloc (Below.refl w2.heap.size w2) (.cells #[.int .i64 (h - (g - o)), .int .i64 l] 27))
      have d0 : (w2.alloc (.cells #[.int .i64 (h - (g - o)), .int .i64 l] 27)).cell? ⟨w.heap.size, 0, none⟩ = some (.int .i64 s) := hC3.1
      have d1 : (w2.alloc (.cells #[.int .i64 (h - (g - o)), .int .i64 l] 27)).cell? ⟨w.heap.size, 1, none⟩ = some (.int .i64 j) := hC3.2.1
      have d2 : (w2.alloc (.cells #[.int .i64 (h - (g - o)), .int .i64 l] 27)).cell? ⟨w.heap.size, 2, none⟩ = some (.int .i64 m) := hC3.2.2.1
      have d3 : (w2.alloc (.cells #[.int .i64 (h - (g - o)), .int .i64 l] 27)).cell? ⟨w.heap.size, 3, none⟩ = some (.int .i64 g) := hC3.2.2.2.1
      have d4 : (w2.alloc (.cells #[.int .i64 (h - (g - o)), .int .i64 l] 27)).cell? ⟨w.heap.size, 4, none⟩ = some (.int .i64 o) := hC3.2.2.2.2.1
      have d5 : (w2.alloc (.cells #[.int .i64 (h - (g - o)), .int .i64 l] 27)).cell? ⟨w.heap.size + 1, 0, none⟩ = some (.bool kn) := hC3.2.2.2.2.2.1
      have d6 : (w2.alloc (.cells #[.int .i64 (h - (g - o)), .int .i64 l] 27)).cell? ⟨w.heap.size + 1, 1, none⟩ = some (.int .i64 l) := hC3.2.2.2.2.2.2.1
      have d7 : (w2.alloc (.cells #[.int .i64 (h - (g - o)), .int .i64 l] 27)).cell? ⟨w.heap.size + 1, 2, none⟩ = some (.int .i64 h) := hC3.2.2.2.2.2.2.2.1
      have d8 : (w2.alloc (.cells #[.int .i64 (h - (g - o)), .int .i64 l] 27)).cell? ⟨w.heap.size + 1, 3, none⟩ = some (.int .i64 si) := hC3.2.2.2.2.2.2.2.2.1
      have d9 : (w2.alloc (.cells #[.int .i64 (h - (g - o)), .int .i64 l] 27)).cell? ⟨w.heap.size + 1, 4, none⟩ = some (.int .i64 la) := hC3.2.2.2.2.2.2.2.2.2.1
      have d10 : (w2.alloc (.cells #[.int .i64 (h - (g - o)), .int .i64 l] 27)).cell? ⟨w.heap.size + 1, 5, none⟩ = some (.int .i64 od) := hC3.2.2.2.2.2.2.2.2.2.2.1
      have d11 : (w2.alloc (.cells #[.int .i64 (h - (g - o)), .int .i64 l] 27)).cell? ⟨w.heap.size + 1 + 1, 0, none⟩ = some (.int .i64 0) := hC3.2.2.2.2.2.2.2.2.2.2.2.1
      have d12 : (w2.alloc (.cells #[.int .i64 (h - (g - o)), .int .i64 l] 27)).cell? ⟨w.heap.size + 1 + 1, 1, none⟩ = some (.int .i64 0) := hC3.2.2.2.2.2.2.2.2.2.2.2.2.1
      have d13 : (w2.alloc (.cells #[.int .i64 (h - (g - o)), .int .i64 l] 27)).frozen? ⟨w.heap.size + 1 + 1, 0, none⟩ = false := hC3.2.2.2.2.2.2.2.2.2.2.2.2.2.1
      have d14 : (w2.alloc (.cells #[.int .i64 (h - (g - o)), .int .i64 l] 27)).frozen? ⟨w.heap.size + 1 + 1, 1, none⟩ = false := hC3.2.2.2.2.2.2.2.2.2.2.2.2.2.2.1
      have d15 : Below w.heap.size w (w2.alloc (.cells #[.int .i64 (h - (g - o)), .int .i64 l] 27)) := hC3.2.2.2.2.2.2.2.2.2.2.2.2.2.2.2
      have hlt := ltCell c11
      have hne : w.heap.size + 1 + 1 ≠ w2.heap.size := by omega
      go_wp2_with fail
      have hq2 : w.heap.size ≤ w.heap.size + 1 + 1 := by omega
      exact bodyPost_ret (v := .agg #[.int .i64 (h - (g - o)), .int .i64 l]) (by simp [results, Tryd.results21, go_sem, *]) rfl ⟨rfl, nbAlloc (nbSetX (nbSetX c15 hq2) hq2) _⟩

def b3P (w : World) (p : Nat) (x y : Int) : World → Prop := fun w' => w'.cell? ⟨p, 0, none⟩ = some (.int .i64 x) ∧ w'.cell? ⟨p, 1, none⟩ = some (.int .i64 y) ∧ Below w.heap.size w w'
theorem b3P_on {w : World} {p : Nat} {x y : Int} {w1 w2 : World} (hh : b3P w p x y w1) (hb : Below w1.heap.size w1 w2) : b3P w p x y w2 :=
  ⟨cellOn hb hh.1, cellOn hb hh.2.1, nbTrans hh.2.2 hb⟩

theorem eqBd (a b c d : Int) (w : World) : (binOp .eql 27 (.agg #[.int .i64 a, .int .i64 b]) (.agg #[.int .i64 c, .int .i64 d])).run Tryd.prog w = .ok (.bool (decide (a = c) && decide (b = d))) w := by
  go_simp
  by_cases h1 : a = c <;> by_cases h2 : b = d <;> simp [h1, h2]

theorem holds_none {s j m g o : Int} {kn : Bool} {l h : Int} (hq : q3 s j m g o kn l h = false) : holdsA s j m g o kn l h = (1, 0) := by simp [holdsA, hq]
theorem holds_some {s j m g o : Int} {kn : Bool} {l h : Int} (hq : q3 s j m g o kn l h = true) : holdsA s j m g o kn l h = (l - g - o, h) := by simp [holdsA, hq]
set_option maxHeartbeats 2000000 in
theorem implPast_c (s j m g o : Int) (kn : Bool) (l h si la od : Int) (c : Int) (w : World) :
    Calls Tryd.prog 20 #[.agg #[.int .i64 s, .int .i64 j, .int .i64 m, .int .i64 g, .int .i64 o], .agg #[.bool kn, .int .i64 l, .int .i64 h, .int .i64 si, .int .i64 la, .int .i64 od], .int .i64 c] w fun e w' => e = .returned (.int .i64 (pastA s j m g o kn l h c)) ∧ Below w.heap.size w w' := by
  cases hq : q3 s j m g o kn l h
  case false =>
    have hz := holds_none hq
    cases hc : inB c (-100000000) 100000000
    · go_enter Tryd.func20, Tryd.ntmps20
      go_wp2_with fail
      refine (implHolds_c _ _ _ _ _ _ _ _ _ _ _ _).mono ?_
      rintro e w1 ⟨rfl, hb1⟩
      simp only [hz]
      have hB1 : Below w.heap.size w w1 := nbTrans (nbAlloc (nbAlloc (Below.refl _ _) _) _) hb1
      clear hb1
      go_wp2_with fail
      have heq : ∀ w', (binOp .eql 27 (.agg #[.int .i64 1, .int .i64 0]) (.agg #[.int .i64 1, .int .i64 0])).run Tryd.prog w' = .ok (.bool true) w' := fun w' => (eqBd _ _ _ _ _).trans (by simp <;> omega)
      refine region_kept (b3P w w1.heap.size 1 0) (by kernel_rfl) (by kernel_rfl) ?_ ?_
      · refine ⟨?_, ?_, Below.drew (nbAlloc hB1 _)⟩ <;> go_simp
      intro hN_
      have k0 : ∀ d : Kept (b3P w w1.heap.size 1 0), d.w.cell? ⟨w1.heap.size, 0, none⟩ = some (.int .i64 1) := fun d => d.h.1
      have k1 : ∀ d : Kept (b3P w w1.heap.size 1 0), d.w.cell? ⟨w1.heap.size, 1, none⟩ = some (.int .i64 0) := fun d => d.h.2.1
      repeat (go_big_quiet_step (first | (go_at_call 60; exact call_kept _ b3P_on (nowhere_c _)) | (go_at_call 61; exact call_kept _ b3P_on (wholeWay_c _)) | (go_at_call 54; exact call_kept _ b3P_on (has_f _ _ _ _ (by assumption))) | exact rfl))
      refine wpQuiet_nil ?_
      rintro w6 ⟨d, hd2⟩
      have hd := d.h
      rw [← hd2] at hd
      clear hd2 k0 k1
      have c0 : w6.cell? ⟨w1.heap.size, 0, none⟩ = some (.int .i64 1) := hd.1
      have c1 : w6.cell? ⟨w1.heap.size, 1, none⟩ = some (.int .i64 0) := hd.2.1
      have c2 : Below w.heap.size w w6 := hd.2.2
      go_wp2_with fail
      go_ret
      exact ⟨retI (by simp [pastA, hq]), c2⟩
    · go_enter Tryd.func20, Tryd.ntmps20
      go_wp2_with fail
      refine (implHolds_c _ _ _ _ _ _ _ _ _ _ _ _).mono ?_
      rintro e w1 ⟨rfl, hb1⟩
      simp only [hz]
      have hB1 : Below w.heap.size w w1 := nbTrans (nbAlloc (nbAlloc (Below.refl _ _) _) _) hb1
      clear hb1
      go_wp2_with fail
      have heq : ∀ w', (binOp .eql 27 (.agg #[.int .i64 1, .int .i64 0]) (.agg #[.int .i64 1, .int .i64 0])).run Tryd.prog w' = .ok (.bool true) w' := fun w' => (eqBd _ _ _ _ _).trans (by simp <;> omega)
      refine region_kept (b3P w w1.heap.size 1 0) (by kernel_rfl) (by kernel_rfl) ?_ ?_
      · refine ⟨?_, ?_, Below.drew (nbAlloc hB1 _)⟩ <;> go_simp
      intro hN_
      have k0 : ∀ d : Kept (b3P w w1.heap.size 1 0), d.w.cell? ⟨w1.heap.size, 0, none⟩ = some (.int .i64 1) := fun d => d.h.1
      have k1 : ∀ d : Kept (b3P w w1.heap.size 1 0), d.w.cell? ⟨w1.heap.size, 1, none⟩ = some (.int .i64 0) := fun d => d.h.2.1
      repeat (go_big_quiet_step (first | (go_at_call 60; exact call_kept _ b3P_on (nowhere_c _)) | (go_at_call 61; exact call_kept _ b3P_on (wholeWay_c _)) | (go_at_call 54; exact call_kept _ b3P_on (has_t _ _ _ _ (by assumption))) | exact rfl))
      refine wpQuiet_nil ?_
      rintro w6 ⟨d, hd2⟩
      have hd := d.h
      rw [← hd2] at hd
      clear hd2 k0 k1
      have c0 : w6.cell? ⟨w1.heap.size, 0, none⟩ = some (.int .i64 1) := hd.1
      have c1 : w6.cell? ⟨w1.heap.size, 1, none⟩ = some (.int .i64 0) := hd.2.1
      have c2 : Below w.heap.size w w6 := hd.2.2
      go_wp2_with fail
      go_ret
      exact ⟨retI (by simp [pastA, hq]), c2⟩
  have hz := holds_some hq
  obtain ⟨g0, g1, o0, o1, l0, lh, h1⟩ := q3_parts hq
  cases hc : inB c (-100000000) 100000000
  case false =>
    go_enter Tryd.func20, Tryd.ntmps20
    go_wp2_with fail
    refine (implHolds_c _ _ _ _ _ _ _ _ _ _ _ _).mono ?_
    rintro e w1 ⟨rfl, hb1⟩
    simp only [hz]
    have hB1 : Below w.heap.size w w1 := nbTrans (nbAlloc (nbAlloc (Below.refl _ _) _) _) hb1
    clear hb1
    go_wp2_with fail
    have heq : ∀ w', (binOp .eql 27 (.agg #[.int .i64 (l - g - o), .int .i64 h]) (.agg #[.int .i64 1, .int .i64 0])).run Tryd.prog w' = .ok (.bool false) w' := fun w' => (eqBd _ _ _ _ _).trans (by simp <;> omega)
    refine region_kept (b3P w w1.heap.size (l - g - o) h) (by kernel_rfl) (by kernel_rfl) ?_ ?_
    · refine ⟨?_, ?_, Below.drew (nbAlloc hB1 _)⟩ <;> go_simp
    intro hN_
    have k0 : ∀ d : Kept (b3P w w1.heap.size (l - g - o) h), d.w.cell? ⟨w1.heap.size, 0, none⟩ = some (.int .i64 (l - g - o)) := fun d => d.h.1
    have k1 : ∀ d : Kept (b3P w w1.heap.size (l - g - o) h), d.w.cell? ⟨w1.heap.size, 1, none⟩ = some (.int .i64 h) := fun d => d.h.2.1
    repeat (go_big_quiet_step (first | (go_at_call 60; exact call_kept _ b3P_on (nowhere_c _)) | (go_at_call 61; exact call_kept _ b3P_on (wholeWay_c _)) | (go_at_call 54; exact call_kept _ b3P_on (has_f _ _ _ _ (by assumption))) | exact rfl))
    refine wpQuiet_nil ?_
    rintro w6 ⟨d, hd2⟩
    have hd := d.h
    rw [← hd2] at hd
    clear hd2 k0 k1
    have c0 : w6.cell? ⟨w1.heap.size, 0, none⟩ = some (.int .i64 (l - g - o)) := hd.1
    have c1 : w6.cell? ⟨w1.heap.size, 1, none⟩ = some (.int .i64 h) := hd.2.1
    have c2 : Below w.heap.size w w6 := hd.2.2
    go_wp2_with fail
    go_ret
    exact ⟨retI (by simp [pastA, hc]), c2⟩
  have hc' := hc
  simp only [inB, Bool.and_eq_true, decide_eq_true_eq] at hc'
  by_cases h2 : c < l - g - o
  · go_enter Tryd.func20, Tryd.ntmps20
    go_wp2_with fail
    refine (implHolds_c _ _ _ _ _ _ _ _ _ _ _ _).mono ?_
    rintro e w1 ⟨rfl, hb1⟩
    simp only [hz]
    have hB1 : Below w.heap.size w w1 := nbTrans (nbAlloc (nbAlloc (Below.refl _ _) _) _) hb1
    clear hb1
    go_wp2_with fail
    have heq : ∀ w', (binOp .eql 27 (.agg #[.int .i64 (l - g - o), .int .i64 h]) (.agg #[.int .i64 1, .int .i64 0])).run Tryd.prog w' = .ok (.bool false) w' := fun w' => (eqBd _ _ _ _ _).trans (by simp <;> omega)
    refine region_kept (b3P w w1.heap.size (l - g - o) h) (by kernel_rfl) (by kernel_rfl) ?_ ?_
    · refine ⟨?_, ?_, Below.drew (nbAlloc hB1 _)⟩ <;> go_simp
    intro hN_
    have k0 : ∀ d : Kept (b3P w w1.heap.size (l - g - o) h), d.w.cell? ⟨w1.heap.size, 0, none⟩ = some (.int .i64 (l - g - o)) := fun d => d.h.1
    have k1 : ∀ d : Kept (b3P w w1.heap.size (l - g - o) h), d.w.cell? ⟨w1.heap.size, 1, none⟩ = some (.int .i64 h) := fun d => d.h.2.1
    repeat (go_big_quiet_step (first | (go_at_call 60; exact call_kept _ b3P_on (nowhere_c _)) | (go_at_call 61; exact call_kept _ b3P_on (wholeWay_c _)) | (go_at_call 54; exact call_kept _ b3P_on (has_t _ _ _ _ (by assumption))) | exact rfl))
    refine wpQuiet_nil ?_
    rintro w6 ⟨d, hd2⟩
    have hd := d.h
    rw [← hd2] at hd
    clear hd2 k0 k1
    have c0 : w6.cell? ⟨w1.heap.size, 0, none⟩ = some (.int .i64 (l - g - o)) := hd.1
    have c1 : w6.cell? ⟨w1.heap.size, 1, none⟩ = some (.int .i64 h) := hd.2.1
    have c2 : Below w.heap.size w w6 := hd.2.2
    go_wp2_with fail
    go_ret
    exact ⟨retI (by simp only [pastA, hq, hc, Bool.and_self, if_true]; rw [if_neg (by omega : ¬ h < c), if_pos h2]), c2⟩
  by_cases h3 : h < c
  · go_enter Tryd.func20, Tryd.ntmps20
    go_wp2_with fail
    refine (implHolds_c _ _ _ _ _ _ _ _ _ _ _ _).mono ?_
    rintro e w1 ⟨rfl, hb1⟩
    simp only [hz]
    have hB1 : Below w.heap.size w w1 := nbTrans (nbAlloc (nbAlloc (Below.refl _ _) _) _) hb1
    clear hb1
    go_wp2_with fail
    have heq : ∀ w', (binOp .eql 27 (.agg #[.int .i64 (l - g - o), .int .i64 h]) (.agg #[.int .i64 1, .int .i64 0])).run Tryd.prog w' = .ok (.bool false) w' := fun w' => (eqBd _ _ _ _ _).trans (by simp <;> omega)
    refine region_kept (b3P w w1.heap.size (l - g - o) h) (by kernel_rfl) (by kernel_rfl) ?_ ?_
    · refine ⟨?_, ?_, Below.drew (nbAlloc hB1 _)⟩ <;> go_simp
    intro hN_
    have k0 : ∀ d : Kept (b3P w w1.heap.size (l - g - o) h), d.w.cell? ⟨w1.heap.size, 0, none⟩ = some (.int .i64 (l - g - o)) := fun d => d.h.1
    have k1 : ∀ d : Kept (b3P w w1.heap.size (l - g - o) h), d.w.cell? ⟨w1.heap.size, 1, none⟩ = some (.int .i64 h) := fun d => d.h.2.1
    repeat (go_big_quiet_step (first | (go_at_call 60; exact call_kept _ b3P_on (nowhere_c _)) | (go_at_call 61; exact call_kept _ b3P_on (wholeWay_c _)) | (go_at_call 54; exact call_kept _ b3P_on (has_t _ _ _ _ (by assumption))) | exact rfl))
    refine wpQuiet_nil ?_
    rintro w6 ⟨d, hd2⟩
    have hd := d.h
    rw [← hd2] at hd
    clear hd2 k0 k1
    have c0 : w6.cell? ⟨w1.heap.size, 0, none⟩ = some (.int .i64 (l - g - o)) := hd.1
    have c1 : w6.cell? ⟨w1.heap.size, 1, none⟩ = some (.int .i64 h) := hd.2.1
    have c2 : Below w.heap.size w w6 := hd.2.2
    go_wp2_with fail
    go_ret
    exact ⟨retI (by simp only [pastA, hq, hc, Bool.and_self, if_true]; rw [if_pos h3]), c2⟩
  · go_enter Tryd.func20, Tryd.ntmps20
    go_wp2_with fail
    refine (implHolds_c _ _ _ _ _ _ _ _ _ _ _ _).mono ?_
    rintro e w1 ⟨rfl, hb1⟩
    simp only [hz]
    have hB1 : Below w.heap.size w w1 := nbTrans (nbAlloc (nbAlloc (Below.refl _ _) _) _) hb1
    clear hb1
    go_wp2_with fail
    have heq : ∀ w', (binOp .eql 27 (.agg #[.int .i64 (l - g - o), .int .i64 h]) (.agg #[.int .i64 1, .int .i64 0])).run Tryd.prog w' = .ok (.bool false) w' := fun w' => (eqBd _ _ _ _ _).trans (by simp <;> omega)
    refine region_kept (b3P w w1.heap.size (l - g - o) h) (by kernel_rfl) (by kernel_rfl) ?_ ?_
    · refine ⟨?_, ?_, Below.drew (nbAlloc hB1 _)⟩ <;> go_simp
    intro hN_
    have k0 : ∀ d : Kept (b3P w w1.heap.size (l - g - o) h), d.w.cell? ⟨w1.heap.size, 0, none⟩ = some (.int .i64 (l - g - o)) := fun d => d.h.1
    have k1 : ∀ d : Kept (b3P w w1.heap.size (l - g - o) h), d.w.cell? ⟨w1.heap.size, 1, none⟩ = some (.int .i64 h) := fun d => d.h.2.1
    repeat (go_big_quiet_step (first | (go_at_call 60; exact call_kept _ b3P_on (nowhere_c _)) | (go_at_call 61; exact call_kept _ b3P_on (wholeWay_c _)) | (go_at_call 54; exact call_kept _ b3P_on (has_t _ _ _ _ (by assumption))) | exact rfl))
    refine wpQuiet_nil ?_
    rintro w6 ⟨d, hd2⟩
    have hd := d.h
    rw [← hd2] at hd
    clear hd2 k0 k1
    have c0 : w6.cell? ⟨w1.heap.size, 0, none⟩ = some (.int .i64 (l - g - o)) := hd.1
    have c1 : w6.cell? ⟨w1.heap.size, 1, none⟩ = some (.int .i64 h) := hd.2.1
    have c2 : Below w.heap.size w w6 := hd.2.2
    go_wp2_with fail
    go_ret
    exact ⟨retI (by simp only [pastA, hq, hc, Bool.and_self, if_true]; rw [if_neg (by omega : ¬ h < c), if_neg (by omega : ¬ c < l - g - o)]), c2⟩

end Go.Proofs.YtmhppadblddjoaaDoor

