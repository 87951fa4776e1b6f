import Derived.Test.YtmhppadblddjoaaDoorZTopFe
/- The specification's Do at whatever slice of marks. -/
namespace Go.Proofs.YtmhppadblddjoaaDoor
open Go.RowKit

set_option maxHeartbeats 2000000 in
theorem specDo_badS (ad : Option Addr) (len cap : Nat) (f a : Nat → Int) (s j m g o : Int) (kn : Bool) (l h si la od op n : Int) (w : World) (hl : len ≤ 1048576) (hrow : SRow w ad len f a) (hbad : (rOk s j m g o && stB (marksB f a len) len kn l h si la od && evB op n) = false) :
    Calls Tryd.prog 31 #[.agg #[.int .i64 s, .int .i64 j, .int .i64 m, .int .i64 g, .int .i64 o], .slice ad len cap, .agg #[.bool kn, .int .i64 l, .int .i64 h, .int .i64 si, .int .i64 la, .int .i64 od], .agg #[.int .i64 op, .int .i64 n]] w fun e w' => e = .returned (.agg #[.bool false, .int .i64 0, .int .i64 0, .int .i64 0, .int .i64 0, .int .i64 0]) ∧ Below w.heap.size w w' := by
  cases hr : rOk s j m g o
  · clear hbad
    go_enter Tryd.func31, Tryd.ntmps31
    go_wp2_with fail
    refine (specRulesOk_c _ _ _ _ _ _).mono ?_
    rintro e w1 ⟨rfl, hb1⟩
    have hC1 : doC w s j m g o kn l h si la od op n w1 := ⟨cellOn hb1 (by go_simp), cellOn hb1 (by go_simp), cellOn hb1 (by go_simp), cellOn hb1 (by go_simp), cellOn hb1 (by go_simp), cellOn hb1 (by go_simp), cellOn hb1 (by go_simp), cellOn hb1 (by go_simp), cellOn hb1 (by go_simp), cellOn hb1 (by go_simp), cellOn hb1 (by go_simp), cellOn hb1 (by go_simp), cellOn hb1 (by go_simp), cellOn hb1 (by go_simp), cellOn hb1 (by go_simp), cellOn hb1 (by go_simp), cellOn hb1 (by go_simp), cellOn hb1 (by go_simp), cellOn hb1 (by go_simp), frozenOn hb1 (v := .bool kn) (by go_simp) (by go_simp), frozenOn hb1 (v := .int .i64 l) (by go_simp) (by go_simp), frozenOn hb1 (v := .int .i64 h) (by go_simp) (by go_simp), frozenOn hb1 (v := .int .i64 si) (by go_simp) (by go_simp), frozenOn hb1 (v := .int .i64 la) (by go_simp) (by go_simp), frozenOn hb1 (v := .int .i64 od) (by go_simp) (by go_simp), frozenOn hb1 (v := .bool false) (by go_simp) (by go_simp), frozenOn hb1 (v := .int .i64 0) (by go_simp) (by go_simp), frozenOn hb1 (v := .int .i64 0) (by go_simp) (by go_simp), frozenOn hb1 (v := .int .i64 0) (by go_simp) (by go_simp), frozenOn hb1 (v := .int .i64 0) (by go_simp) (by go_simp), frozenOn hb1 (v := .int .i64 0) (by go_simp) (by go_simp), nbTrans (nbAlloc (nbAlloc (nbAlloc (nbAlloc (Below.refl _ _) _) _) _) _) hb1⟩
    have c0 : w1.cell? ⟨w.heap.size, 0, none⟩ = some (.int .i64 s) := hC1.1
    have c1 : w1.cell? ⟨w.heap.size, 1, none⟩ = some (.int .i64 j) := hC1.2.1
    have c2 : w1.cell? ⟨w.heap.size, 2, none⟩ = some (.int .i64 m) := hC1.2.2.1
    have c3 : w1.cell? ⟨w.heap.size, 3, none⟩ = some (.int .i64 g) := hC1.2.2.2.1
    have c4 : w1.cell? ⟨w.heap.size, 4, none⟩ = some (.int .i64 o) := hC1.2.2.2.2.1
    have c5 : w1.cell? ⟨w.heap.size + 1, 0, none⟩ = some (.bool kn) := hC1.2.2.2.2.2.1
    have c6 : w1.cell? ⟨w.heap.size + 1, 1, none⟩ = some (.int .i64 l) := hC1.2.2.2.2.2.2.1
    have c7 : w1.cell? ⟨w.heap.size + 1, 2, none⟩ = some (.int .i64 h) := hC1.2.2.2.2.2.2.2.1
    have c8 : w1.cell? ⟨w.heap.size + 1, 3, none⟩ = some (.int .i64 si) := hC1.2.2.2.2.2.2.2.2.1
    have c9 : w1.cell? ⟨w.heap.size + 1, 4, none⟩ = some (.int .i64 la) := hC1.2.2.2.2.2.2.2.2.2.1
    have c10 : w1.cell? ⟨w.heap.size + 1, 5, none⟩ = some (.int .i64 od) := hC1.2.2.2.2.2.2.2.2.2.2.1
    have c11 : w1.cell? ⟨w.heap.size + 1 + 1, 0, none⟩ = some (.int .i64 op) := hC1.2.2.2.2.2.2.2.2.2.2.2.1
    have c12 : w1.cell? ⟨w.heap.size + 1 + 1, 1, none⟩ = some (.int .i64 n) := hC1.2.2.2.2.2.2.2.2.2.2.2.2.1
    have c13 : w1.cell? ⟨w.heap.size + 1 + 1 + 1, 0, none⟩ = some (.bool false) := hC1.2.2.2.2.2.2.2.2.2.2.2.2.2.1
    have c14 : w1.cell? ⟨w.heap.size + 1 + 1 + 1, 1, none⟩ = some (.int .i64 0) := hC1.2.2.2.2.2.2.2.2.2.2.2.2.2.2.1
    have c15 : w1.cell? ⟨w.heap.size + 1 + 1 + 1, 2, none⟩ = some (.int .i64 0) := hC1.2.2.2.2.2.2.2.2.2.2.2.2.2.2.2.1
    have c16 : w1.cell? ⟨w.heap.size + 1 + 1 + 1, 3, none⟩ = some (.int .i64 0) := hC1.2.2.2.2.2.2.2.2.2.2.2.2.2.2.2.2.1
    have c17 : w1.cell? ⟨w.heap.size + 1 + 1 + 1, 4, none⟩ = some (.int .i64 0) := hC1.2.2.2.2.2.2.2.2.2.2.2.2.2.2.2.2.2.1
    have c18 : w1.cell? ⟨w.heap.size + 1 + 1 + 1, 5, none⟩ = some (.int .i64 0) := hC1.2.2.2.2.2.2.2.2.2.2.2.2.2.2.2.2.2.2.1
    have c19 : w1.frozen? ⟨w.heap.size + 1, 0, none⟩ = false := hC1.2.2.2.2.2.2.2.2.2.2.2.2.2.2.2.2.2.2.2.1
    have c20 : w1.frozen? ⟨w.heap.size + 1, 1, none⟩ = false := hC1.2.2.2.2.2.2.2.2.2.2.2.2.2.2.2.2.2.2.2.2.1
    have c21 : w1.frozen? ⟨w.heap.size + 1, 2, none⟩ = false := hC1.2.2.2.2.2.2.2.2.2.2.2.2.2.2.2.2.2.2.2.2.2.1
    have c22 : w1.frozen? ⟨w.heap.size + 1, 3, none⟩ = false := hC1.2.2.2.2.2.2.2.2.2.2.2.2.2.2.2.2.2.2.2.2.2.2.1
    have c23 : w1.frozen? ⟨w.heap.size + 1, 4, none⟩ = false := hC1.2.2.2.2.2.2.2.2.2.2.2.2.2.2.2.2.2.2.2.2.2.2.2.1
    have c24 : w1.frozen? ⟨w.heap.size + 1, 5, none⟩ = false := hC1.2.2.2.2.2.2.2.2.2.2.2.2.2.2.2.2.2.2.2.2.2.2.2.2.1
    have c25 : w1.frozen? ⟨w.heap.size + 1 + 1 + 1, 0, none⟩ = false := hC1.2.2.2.2.2.2.2.2.2.2.2.2.2.2.2.2.2.2.2.2.2.2.2.2.2.1
    have c26 : w1.frozen? ⟨w.heap.size + 1 + 1 + 1, 1, none⟩ = false := hC1.2.2.2.2.2.2.2.2.2.2.2.2.2.2.2.2.2.2.2.2.2.2.2.2.2.2.1
    have c27 : w1.frozen? ⟨w.heap.size + 1 + 1 + 1, 2, none⟩ = false := hC1.2.2.2.2.2.2.2.2.2.2.2.2.2.2.2.2.2.2.2.2.2.2.2.2.2.2.2.1
    have c28 : w1.frozen? ⟨w.heap.size + 1 + 1 + 1, 3, none⟩ = false := hC1.2.2.2.2.2.2.2.2.2.2.2.2.2.2.2.2.2.2.2.2.2.2.2.2.2.2.2.2.1
    have c29 : w1.frozen? ⟨w.heap.size + 1 + 1 + 1, 4, none⟩ = false := hC1.2.2.2.2.2.2.2.2.2.2.2.2.2.2.2.2.2.2.2.2.2.2.2.2.2.2.2.2.2.1
    have c30 : w1.frozen? ⟨w.heap.size + 1 + 1 + 1, 5, none⟩ = false := hC1.2.2.2.2.2.2.2.2.2.2.2.2.2.2.2.2.2.2.2.2.2.2.2.2.2.2.2.2.2.2.1
    have c31 : Below w.heap.size w w1 := hC1.2.2.2.2.2.2.2.2.2.2.2.2.2.2.2.2.2.2.2.2.2.2.2.2.2.2.2.2.2.2.2
    go_wp2_with fail
    have hq1 : w.heap.size ≤ w.heap.size + 1 := by omega
    have hq3 : w.heap.size ≤ w.heap.size + 1 + 1 + 1 := by omega
    exact bodyPost_ret (v := .agg #[.bool false, .int .i64 0, .int .i64 0, .int .i64 0, .int .i64 0, .int .i64 0]) (by simp [results, Tryd.results31, go_sem, *]) rfl ⟨rfl, (nbSetX (nbSetX (nbSetX (nbSetX (nbSetX (nbSetX c31 hq3) hq3) hq3) hq3) hq3) hq3)⟩
  cases hst : stB (marksB f a len) len kn l h si la od
  · clear hbad
    go_enter Tryd.func31, Tryd.ntmps31
    go_wp2_with fail
    refine (specRulesOk_c _ _ _ _ _ _).mono ?_
    rintro e w1 ⟨rfl, hb1⟩
    have hC1 : doC w s j m g o kn l h si la od op n w1 := ⟨cellOn hb1 (by go_simp), cellOn hb1 (by go_simp), cellOn hb1 (by go_simp), cellOn hb1 (by go_simp), cellOn hb1 (by go_simp), cellOn hb1 (by go_simp), cellOn hb1 (by go_simp), cellOn hb1 (by go_simp), cellOn hb1 (by go_simp), cellOn hb1 (by go_simp), cellOn hb1 (by go_simp), cellOn hb1 (by go_simp), cellOn hb1 (by go_simp), cellOn hb1 (by go_simp), cellOn hb1 (by go_simp), cellOn hb1 (by go_simp), cellOn hb1 (by go_simp), cellOn hb1 (by go_simp), cellOn hb1 (by go_simp), frozenOn hb1 (v := .bool kn) (by go_simp) (by go_simp), frozenOn hb1 (v := .int .i64 l) (by go_simp) (by go_simp), frozenOn hb1 (v := .int .i64 h) (by go_simp) (by go_simp), frozenOn hb1 (v := .int .i64 si) (by go_simp) (by go_simp), frozenOn hb1 (v := .int .i64 la) (by go_simp) (by go_simp), frozenOn hb1 (v := .int .i64 od) (by go_simp) (by go_simp), frozenOn hb1 (v := .bool false) (by go_simp) (by go_simp), frozenOn hb1 (v := .int .i64 0) (by go_simp) (by go_simp), frozenOn hb1 (v := .int .i64 0) (by go_simp) (by go_simp), frozenOn hb1 (v := .int .i64 0) (by go_simp) (by go_simp), frozenOn hb1 (v := .int .i64 0) (by go_simp) (by go_simp), frozenOn hb1 (v := .int .i64 0) (by go_simp) (by go_simp), nbTrans (nbAlloc (nbAlloc (nbAlloc (nbAlloc (Below.refl _ _) _) _) _) _) hb1⟩
    have c0 : w1.cell? ⟨w.heap.size, 0, none⟩ = some (.int .i64 s) := hC1.1
    have c1 : w1.cell? ⟨w.heap.size, 1, none⟩ = some (.int .i64 j) := hC1.2.1
    have c2 : w1.cell? ⟨w.heap.size, 2, none⟩ = some (.int .i64 m) := hC1.2.2.1
    have c3 : w1.cell? ⟨w.heap.size, 3, none⟩ = some (.int .i64 g) := hC1.2.2.2.1
    have c4 : w1.cell? ⟨w.heap.size, 4, none⟩ = some (.int .i64 o) := hC1.2.2.2.2.1
    have c5 : w1.cell? ⟨w.heap.size + 1, 0, none⟩ = some (.bool kn) := hC1.2.2.2.2.2.1
    have c6 : w1.cell? ⟨w.heap.size + 1, 1, none⟩ = some (.int .i64 l) := hC1.2.2.2.2.2.2.1
    have c7 : w1.cell? ⟨w.heap.size + 1, 2, none⟩ = some (.int .i64 h) := hC1.2.2.2.2.2.2.2.1
    have c8 : w1.cell? ⟨w.heap.size + 1, 3, none⟩ = some (.int .i64 si) := hC1.2.2.2.2.2.2.2.2.1
    have c9 : w1.cell? ⟨w.heap.size + 1, 4, none⟩ = some (.int .i64 la) := hC1.2.2.2.2.2.2.2.2.2.1
    have c10 : w1.cell? ⟨w.heap.size + 1, 5, none⟩ = some (.int .i64 od) := hC1.2.2.2.2.2.2.2.2.2.2.1
    have c11 : w1.cell? ⟨w.heap.size + 1 + 1, 0, none⟩ = some (.int .i64 op) := hC1.2.2.2.2.2.2.2.2.2.2.2.1
    have c12 : w1.cell? ⟨w.heap.size + 1 + 1, 1, none⟩ = some (.int .i64 n) := hC1.2.2.2.2.2.2.2.2.2.2.2.2.1
    have c13 : w1.cell? ⟨w.heap.size + 1 + 1 + 1, 0, none⟩ = some (.bool false) := hC1.2.2.2.2.2.2.2.2.2.2.2.2.2.1
    have c14 : w1.cell? ⟨w.heap.size + 1 + 1 + 1, 1, none⟩ = some (.int .i64 0) := hC1.2.2.2.2.2.2.2.2.2.2.2.2.2.2.1
    have c15 : w1.cell? ⟨w.heap.size + 1 + 1 + 1, 2, none⟩ = some (.int .i64 0) := hC1.2.2.2.2.2.2.2.2.2.2.2.2.2.2.2.1
    have c16 : w1.cell? ⟨w.heap.size + 1 + 1 + 1, 3, none⟩ = some (.int .i64 0) := hC1.2.2.2.2.2.2.2.2.2.2.2.2.2.2.2.2.1
    have c17 : w1.cell? ⟨w.heap.size + 1 + 1 + 1, 4, none⟩ = some (.int .i64 0) := hC1.2.2.2.2.2.2.2.2.2.2.2.2.2.2.2.2.2.1
    have c18 : w1.cell? ⟨w.heap.size + 1 + 1 + 1, 5, none⟩ = some (.int .i64 0) := hC1.2.2.2.2.2.2.2.2.2.2.2.2.2.2.2.2.2.2.1
    have c19 : w1.frozen? ⟨w.heap.size + 1, 0, none⟩ = false := hC1.2.2.2.2.2.2.2.2.2.2.2.2.2.2.2.2.2.2.2.1
    have c20 : w1.frozen? ⟨w.heap.size + 1, 1, none⟩ = false := hC1.2.2.2.2.2.2.2.2.2.2.2.2.2.2.2.2.2.2.2.2.1
    have c21 : w1.frozen? ⟨w.heap.size + 1, 2, none⟩ = false := hC1.2.2.2.2.2.2.2.2.2.2.2.2.2.2.2.2.2.2.2.2.2.1
    have c22 : w1.frozen? ⟨w.heap.size + 1, 3, none⟩ = false := hC1.2.2.2.2.2.2.2.2.2.2.2.2.2.2.2.2.2.2.2.2.2.2.1
    have c23 : w1.frozen? ⟨w.heap.size + 1, 4, none⟩ = false := hC1.2.2.2.2.2.2.2.2.2.2.2.2.2.2.2.2.2.2.2.2.2.2.2.1
    have c24 : w1.frozen? ⟨w.heap.size + 1, 5, none⟩ = false := hC1.2.2.2.2.2.2.2.2.2.2.2.2.2.2.2.2.2.2.2.2.2.2.2.2.1
    have c25 : w1.frozen? ⟨w.heap.size + 1 + 1 + 1, 0, none⟩ = false := hC1.2.2.2.2.2.2.2.2.2.2.2.2.2.2.2.2.2.2.2.2.2.2.2.2.2.1
    have c26 : w1.frozen? ⟨w.heap.size + 1 + 1 + 1, 1, none⟩ = false := hC1.2.2.2.2.2.2.2.2.2.2.2.2.2.2.2.2.2.2.2.2.2.2.2.2.2.2.1
    have c27 : w1.frozen? ⟨w.heap.size + 1 + 1 + 1, 2, none⟩ = false := hC1.2.2.2.2.2.2.2.2.2.2.2.2.2.2.2.2.2.2.2.2.2.2.2.2.2.2.2.1
    have c28 : w1.frozen? ⟨w.heap.size + 1 + 1 + 1, 3, none⟩ = false := hC1.2.2.2.2.2.2.2.2.2.2.2.2.2.2.2.2.2.2.2.2.2.2.2.2.2.2.2.2.1
    have c29 : w1.frozen? ⟨w.heap.size + 1 + 1 + 1, 4, none⟩ = false := hC1.2.2.2.2.2.2.2.2.2.2.2.2.2.2.2.2.2.2.2.2.2.2.2.2.2.2.2.2.2.1
    have c30 : w1.frozen? ⟨w.heap.size + 1 + 1 + 1, 5, none⟩ = false := hC1.2.2.2.2.2.2.2.2.2.2.2.2.2.2.2.2.2.2.2.2.2.2.2.2.2.2.2.2.2.2.1
    have c31 : Below w.heap.size w w1 := hC1.2.2.2.2.2.2.2.2.2.2.2.2.2.2.2.2.2.2.2.2.2.2.2.2.2.2.2.2.2.2.2
    go_wp2_with fail
    clear c0 c1 c2 c3 c4 c5 c6 c7 c8 c9 c10 c11 c12 c13 c14 c15 c16 c17 c18 c19 c20 c21 c22 c23 c24 c25 c26 c27 c28 c29 c30 c31
    have hB1 : Below w.heap.size w w1 := hC1.2.2.2.2.2.2.2.2.2.2.2.2.2.2.2.2.2.2.2.2.2.2.2.2.2.2.2.2.2.2.2
    refine (specStateOk_c _ _ _ (marksB f a len) _ _ _ _ _ _ _ hl (by intro w' hw'; exact specMarksOk_s ad len cap f a w' hl ((hrow.on hB1).on hw'))).mono ?_
    rintro e w2 ⟨rfl, hb2⟩
    have hC2 := doC_on hC1 hb2
    have c0 : w2.cell? ⟨w.heap.size, 0, none⟩ = some (.int .i64 s) := hC2.1
    have c1 : w2.cell? ⟨w.heap.size, 1, none⟩ = some (.int .i64 j) := hC2.2.1
    have c2 : w2.cell? ⟨w.heap.size, 2, none⟩ = some (.int .i64 m) := hC2.2.2.1
    have c3 : w2.cell? ⟨w.heap.size, 3, none⟩ = some (.int .i64 g) := hC2.2.2.2.1
    have c4 : w2.cell? ⟨w.heap.size, 4, none⟩ = some (.int .i64 o) := hC2.2.2.2.2.1
    have c5 : w2.cell? ⟨w.heap.size + 1, 0, none⟩ = some (.bool kn) := hC2.2.2.2.2.2.1
    have c6 : w2.cell? ⟨w.heap.size + 1, 1, none⟩ = some (.int .i64 l) := hC2.2.2.2.2.2.2.1
    have c7 : w2.cell? ⟨w.heap.size + 1, 2, none⟩ = some (.int .i64 h) := hC2.2.2.2.2.2.2.2.1
    have c8 : w2.cell? ⟨w.heap.size + 1, 3, none⟩ = some (.int .i64 si) := hC2.2.2.2.2.2.2.2.2.1
    have c9 : w2.cell? ⟨w.heap.size + 1, 4, none⟩ = some (.int .i64 la) := hC2.2.2.2.2.2.2.2.2.2.1
    have c10 : w2.cell? ⟨w.heap.size + 1, 5, none⟩ = some (.int .i64 od) := hC2.2.2.2.2.2.2.2.2.2.2.1
    have c11 : w2.cell? ⟨w.heap.size + 1 + 1, 0, none⟩ = some (.int .i64 op) := hC2.2.2.2.2.2.2.2.2.2.2.2.1
    have c12 : w2.cell? ⟨w.heap.size + 1 + 1, 1, none⟩ = some (.int .i64 n) := hC2.2.2.2.2.2.2.2.2.2.2.2.2.1
    have c13 : w2.cell? ⟨w.heap.size + 1 + 1 + 1, 0, none⟩ = some (.bool false) := hC2.2.2.2.2.2.2.2.2.2.2.2.2.2.1
    have c14 : w2.cell? ⟨w.heap.size + 1 + 1 + 1, 1, none⟩ = some (.int .i64 0) := hC2.2.2.2.2.2.2.2.2.2.2.2.2.2.2.1
    have c15 : w2.cell? ⟨w.heap.size + 1 + 1 + 1, 2, none⟩ = some (.int .i64 0) := hC2.2.2.2.2.2.2.2.2.2.2.2.2.2.2.2.1
    have c16 : w2.cell? ⟨w.heap.size + 1 + 1 + 1, 3, none⟩ = some (.int .i64 0) := hC2.2.2.2.2.2.2.2.2.2.2.2.2.2.2.2.2.1
    have c17 : w2.cell? ⟨w.heap.size + 1 + 1 + 1, 4, none⟩ = some (.int .i64 0) := hC2.2.2.2.2.2.2.2.2.2.2.2.2.2.2.2.2.2.1
    have c18 : w2.cell? ⟨w.heap.size + 1 + 1 + 1, 5, none⟩ = some (.int .i64 0) := hC2.2.2.2.2.2.2.2.2.2.2.2.2.2.2.2.2.2.2.1
    have c19 : w2.frozen? ⟨w.heap.size + 1, 0, none⟩ = false := hC2.2.2.2.2.2.2.2.2.2.2.2.2.2.2.2.2.2.2.2.1
    have c20 : w2.frozen? ⟨w.heap.size + 1, 1, none⟩ = false := hC2.2.2.2.2.2.2.2.2.2.2.2.2.2.2.2.2.2.2.2.2.1
    have c21 : w2.frozen? ⟨w.heap.size + 1, 2, none⟩ = false := hC2.2.2.2.2.2.2.2.2.2.2.2.2.2.2.2.2.2.2.2.2.2.1
    have c22 : w2.frozen? ⟨w.heap.size + 1, 3, none⟩ = false := hC2.2.2.2.2.2.2.2.2.2.2.2.2.2.2.2.2.2.2.2.2.2.2.1
    have c23 : w2.frozen? ⟨w.heap.size + 1, 4, none⟩ = false := hC2.2.2.2.2.2.2.2.2.2.2.2.2.2.2.2.2.2.2.2.2.2.2.2.1
    have c24 : w2.frozen? ⟨w.heap.size + 1, 5, none⟩ = false := hC2.2.2.2.2.2.2.2.2.2.2.2.2.2.2.2.2.2.2.2.2.2.2.2.2.1
    have c25 : w2.frozen? ⟨w.heap.size + 1 + 1 + 1, 0, none⟩ = false := hC2.2.2.2.2.2.2.2.2.2.2.2.2.2.2.2.2.2.2.2.2.2.2.2.2.2.1
    have c26 : w2.frozen? ⟨w.heap.size + 1 + 1 + 1, 1, none⟩ = false := hC2.2.2.2.2.2.2.2.2.2.2.2.2.2.2.2.2.2.2.2.2.2.2.2.2.2.2.1
    have c27 : w2.frozen? ⟨w.heap.size + 1 + 1 + 1, 2, none⟩ = false := hC2.2.2.2.2.2.2.2.2.2.2.2.2.2.2.2.2.2.2.2.2.2.2.2.2.2.2.2.1
    have c28 : w2.frozen? ⟨w.heap.size + 1 + 1 + 1, 3, none⟩ = false := hC2.2.2.2.2.2.2.2.2.2.2.2.2.2.2.2.2.2.2.2.2.2.2.2.2.2.2.2.2.1
    have c29 : w2.frozen? ⟨w.heap.size + 1 + 1 + 1, 4, none⟩ = false := hC2.2.2.2.2.2.2.2.2.2.2.2.2.2.2.2.2.2.2.2.2.2.2.2.2.2.2.2.2.2.1
    have c30 : w2.frozen? ⟨w.heap.size + 1 + 1 + 1, 5, none⟩ = false := hC2.2.2.2.2.2.2.2.2.2.2.2.2.2.2.2.2.2.2.2.2.2.2.2.2.2.2.2.2.2.2.1
    have c31 : Below w.heap.size w w2 := hC2.2.2.2.2.2.2.2.2.2.2.2.2.2.2.2.2.2.2.2.2.2.2.2.2.2.2.2.2.2.2.2
    go_wp2_with fail
    have hq1 : w.heap.size ≤ w.heap.size + 1 := by omega
    have hq3 : w.heap.size ≤ w.heap.size + 1 + 1 + 1 := by omega
    exact bodyPost_ret (v := .agg #[.bool false, .int .i64 0, .int .i64 0, .int .i64 0, .int .i64 0, .int .i64 0]) (by simp [results, Tryd.results31, go_sem, *]) rfl ⟨rfl, (nbSetX (nbSetX (nbSetX (nbSetX (nbSetX (nbSetX c31 hq3) hq3) hq3) hq3) hq3) hq3)⟩
  have hev : evB op n = false := by simpa [hr, hst] using hbad
  clear hbad
  go_enter Tryd.func31, Tryd.ntmps31
  go_wp2_with fail
  refine (specRulesOk_c _ _ _ _ _ _).mono ?_
  rintro e w1 ⟨rfl, hb1⟩
  have hC1 : doC w s j m g o kn l h si la od op n w1 := ⟨cellOn hb1 (by go_simp), cellOn hb1 (by go_simp), cellOn hb1 (by go_simp), cellOn hb1 (by go_simp), cellOn hb1 (by go_simp), cellOn hb1 (by go_simp), cellOn hb1 (by go_simp), cellOn hb1 (by go_simp), cellOn hb1 (by go_simp), cellOn hb1 (by go_simp), cellOn hb1 (by go_simp), cellOn hb1 (by go_simp), cellOn hb1 (by go_simp), cellOn hb1 (by go_simp), cellOn hb1 (by go_simp), cellOn hb1 (by go_simp), cellOn hb1 (by go_simp), cellOn hb1 (by go_simp), cellOn hb1 (by go_simp), frozenOn hb1 (v := .bool kn) (by go_simp) (by go_simp), frozenOn hb1 (v := .int .i64 l) (by go_simp) (by go_simp), frozenOn hb1 (v := .int .i64 h) (by go_simp) (by go_simp), frozenOn hb1 (v := .int .i64 si) (by go_simp) (by go_simp), frozenOn hb1 (v := .int .i64 la) (by go_simp) (by go_simp), frozenOn hb1 (v := .int .i64 od) (by go_simp) (by go_simp), frozenOn hb1 (v := .bool false) (by go_simp) (by go_simp), frozenOn hb1 (v := .int .i64 0) (by go_simp) (by go_simp), frozenOn hb1 (v := .int .i64 0) (by go_simp) (by go_simp), frozenOn hb1 (v := .int .i64 0) (by go_simp) (by go_simp), frozenOn hb1 (v := .int .i64 0) (by go_simp) (by go_simp), frozenOn hb1 (v := .int .i64 0) (by go_simp) (by go_simp), nbTrans (nbAlloc (nbAlloc (nbAlloc (nbAlloc (Below.refl _ _) _) _) _) _) hb1⟩
  have c0 : w1.cell? ⟨w.heap.size, 0, none⟩ = some (.int .i64 s) := hC1.1
  have c1 : w1.cell? ⟨w.heap.size, 1, none⟩ = some (.int .i64 j) := hC1.2.1
  have c2 : w1.cell? ⟨w.heap.size, 2, none⟩ = some (.int .i64 m) := hC1.2.2.1
  have c3 : w1.cell? ⟨w.heap.size, 3, none⟩ = some (.int .i64 g) := hC1.2.2.2.1
  have c4 : w1.cell? ⟨w.heap.size, 4, none⟩ = some (.int .i64 o) := hC1.2.2.2.2.1
  have c5 : w1.cell? ⟨w.heap.size + 1, 0, none⟩ = some (.bool kn) := hC1.2.2.2.2.2.1
  have c6 : w1.cell? ⟨w.heap.size + 1, 1, none⟩ = some (.int .i64 l) := hC1.2.2.2.2.2.2.1
  have c7 : w1.cell? ⟨w.heap.size + 1, 2, none⟩ = some (.int .i64 h) := hC1.2.2.2.2.2.2.2.1
  have c8 : w1.cell? ⟨w.heap.size + 1, 3, none⟩ = some (.int .i64 si) := hC1.2.2.2.2.2.2.2.2.1
  have c9 : w1.cell? ⟨w.heap.size + 1, 4, none⟩ = some (.int .i64 la) := hC1.2.2.2.2.2.2.2.2.2.1
  have c10 : w1.cell? ⟨w.heap.size + 1, 5, none⟩ = some (.int .i64 od) := hC1.2.2.2.2.2.2.2.2.2.2.1
  have c11 : w1.cell? ⟨w.heap.size + 1 + 1, 0, none⟩ = some (.int .i64 op) := hC1.2.2.2.2.2.2.2.2.2.2.2.1
  have c12 : w1.cell? ⟨w.heap.size + 1 + 1, 1, none⟩ = some (.int .i64 n) := hC1.2.2.2.2.2.2.2.2.2.2.2.2.1
  have c13 : w1.cell? ⟨w.heap.size + 1 + 1 + 1, 0, none⟩ = some (.bool false) := hC1.2.2.2.2.2.2.2.2.2.2.2.2.2.1
  have c14 : w1.cell? ⟨w.heap.size + 1 + 1 + 1, 1, none⟩ = some (.int .i64 0) := hC1.2.2.2.2.2.2.2.2.2.2.2.2.2.2.1
  have c15 : w1.cell? ⟨w.heap.size + 1 + 1 + 1, 2, none⟩ = some (.int .i64 0) := hC1.2.2.2.2.2.2.2.2.2.2.2.2.2.2.2.1
  have c16 : w1.cell? ⟨w.heap.size + 1 + 1 + 1, 3, none⟩ = some (.int .i64 0) := hC1.2.2.2.2.2.2.2.2.2.2.2.2.2.2.2.2.1
  have c17 : w1.cell? ⟨w.heap.size + 1 + 1 + 1, 4, none⟩ = some (.int .i64 0) := hC1.2.2.2.2.2.2.2.2.2.2.2.2.2.2.2.2.2.1
  have c18 : w1.cell? ⟨w.heap.size + 1 + 1 + 1, 5, none⟩ = some (.int .i64 0) := hC1.2.2.2.2.2.2.2.2.2.2.2.2.2.2.2.2.2.2.1
  have c19 : w1.frozen? ⟨w.heap.size + 1, 0, none⟩ = false := hC1.2.2.2.2.2.2.2.2.2.2.2.2.2.2.2.2.2.2.2.1
  have c20 : w1.frozen? ⟨w.heap.size + 1, 1, none⟩ = false := hC1.2.2.2.2.2.2.2.2.2.2.2.2.2.2.2.2.2.2.2.2.1
  have c21 : w1.frozen? ⟨w.heap.size + 1, 2, none⟩ = false := hC1.2.2.2.2.2.2.2.2.2.2.2.2.2.2.2.2.2.2.2.2.2.1
  have c22 : w1.frozen? ⟨w.heap.size + 1, 3, none⟩ = false := hC1.2.2.2.2.2.2.2.2.2.2.2.2.2.2.2.2.2.2.2.2.2.2.1
  have c23 : w1.frozen? ⟨w.heap.size + 1, 4, none⟩ = false := hC1.2.2.2.2.2.2.2.2.2.2.2.2.2.2.2.2.2.2.2.2.2.2.2.1
  have c24 : w1.frozen? ⟨w.heap.size + 1, 5, none⟩ = false := hC1.2.2.2.2.2.2.2.2.2.2.2.2.2.2.2.2.2.2.2.2.2.2.2.2.1
  have c25 : w1.frozen? ⟨w.heap.size + 1 + 1 + 1, 0, none⟩ = false := hC1.2.2.2.2.2.2.2.2.2.2.2.2.2.2.2.2.2.2.2.2.2.2.2.2.2.1
  have c26 : w1.frozen? ⟨w.heap.size + 1 + 1 + 1, 1, none⟩ = false := hC1.2.2.2.2.2.2.2.2.2.2.2.2.2.2.2.2.2.2.2.2.2.2.2.2.2.2.1
  have c27 : w1.frozen? ⟨w.heap.size + 1 + 1 + 1, 2, none⟩ = false := hC1.2.2.2.2.2.2.2.2.2.2.2.2.2.2.2.2.2.2.2.2.2.2.2.2.2.2.2.1
  have c28 : w1.frozen? ⟨w.heap.size + 1 + 1 + 1, 3, none⟩ = false := hC1.2.2.2.2.2.2.2.2.2.2.2.2.2.2.2.2.2.2.2.2.2.2.2.2.2.2.2.2.1
  have c29 : w1.frozen? ⟨w.heap.size + 1 + 1 + 1, 4, none⟩ = false := hC1.2.2.2.2.2.2.2.2.2.2.2.2.2.2.2.2.2.2.2.2.2.2.2.2.2.2.2.2.2.1
  have c30 : w1.frozen? ⟨w.heap.size + 1 + 1 + 1, 5, none⟩ = false := hC1.2.2.2.2.2.2.2.2.2.2.2.2.2.2.2.2.2.2.2.2.2.2.2.2.2.2.2.2.2.2.1
  have c31 : Below w.heap.size w w1 := hC1.2.2.2.2.2.2.2.2.2.2.2.2.2.2.2.2.2.2.2.2.2.2.2.2.2.2.2.2.2.2.2
  go_wp2_with fail
  clear c0 c1 c2 c3 c4 c5 c6 c7 c8 c9 c10 c11 c12 c13 c14 c15 c16 c17 c18 c19 c20 c21 c22 c23 c24 c25 c26 c27 c28 c29 c30 c31
  have hB1 : Below w.heap.size w w1 := hC1.2.2.2.2.2.2.2.2.2.2.2.2.2.2.2.2.2.2.2.2.2.2.2.2.2.2.2.2.2.2.2
  refine (specStateOk_c _ _ _ (marksB f a len) _ _ _ _ _ _ _ hl (by intro w' hw'; exact specMarksOk_s ad len cap f a w' hl ((hrow.on hB1).on hw'))).mono ?_
  rintro e w2 ⟨rfl, hb2⟩
  have hC2 := doC_on hC1 hb2
  have c0 : w2.cell? ⟨w.heap.size, 0, none⟩ = some (.int .i64 s) := hC2.1
  have c1 : w2.cell? ⟨w.heap.size, 1, none⟩ = some (.int .i64 j) := hC2.2.1
  have c2 : w2.cell? ⟨w.heap.size, 2, none⟩ = some (.int .i64 m) := hC2.2.2.1
  have c3 : w2.cell? ⟨w.heap.size, 3, none⟩ = some (.int .i64 g) := hC2.2.2.2.1
  have c4 : w2.cell? ⟨w.heap.size, 4, none⟩ = some (.int .i64 o) := hC2.2.2.2.2.1
  have c5 : w2.cell? ⟨w.heap.size + 1, 0, none⟩ = some (.bool kn) := hC2.2.2.2.2.2.1
  have c6 : w2.cell? ⟨w.heap.size + 1, 1, none⟩ = some (.int .i64 l) := hC2.2.2.2.2.2.2.1
  have c7 : w2.cell? ⟨w.heap.size + 1, 2, none⟩ = some (.int .i64 h) := hC2.2.2.2.2.2.2.2.1
  have c8 : w2.cell? ⟨w.heap.size + 1, 3, none⟩ = some (.int .i64 si) := hC2.2.2.2.2.2.2.2.2.1
  have c9 : w2.cell? ⟨w.heap.size + 1, 4, none⟩ = some (.int .i64 la) := hC2.2.2.2.2.2.2.2.2.2.1
  have c10 : w2.cell? ⟨w.heap.size + 1, 5, none⟩ = some (.int .i64 od) := hC2.2.2.2.2.2.2.2.2.2.2.1
  have c11 : w2.cell? ⟨w.heap.size + 1 + 1, 0, none⟩ = some (.int .i64 op) := hC2.2.2.2.2.2.2.2.2.2.2.2.1
  have c12 : w2.cell? ⟨w.heap.size + 1 + 1, 1, none⟩ = some (.int .i64 n) := hC2.2.2.2.2.2.2.2.2.2.2.2.2.1
  have c13 : w2.cell? ⟨w.heap.size + 1 + 1 + 1, 0, none⟩ = some (.bool false) := hC2.2.2.2.2.2.2.2.2.2.2.2.2.2.1
  have c14 : w2.cell? ⟨w.heap.size + 1 + 1 + 1, 1, none⟩ = some (.int .i64 0) := hC2.2.2.2.2.2.2.2.2.2.2.2.2.2.2.1
  have c15 : w2.cell? ⟨w.heap.size + 1 + 1 + 1, 2, none⟩ = some (.int .i64 0) := hC2.2.2.2.2.2.2.2.2.2.2.2.2.2.2.2.1
  have c16 : w2.cell? ⟨w.heap.size + 1 + 1 + 1, 3, none⟩ = some (.int .i64 0) := hC2.2.2.2.2.2.2.2.2.2.2.2.2.2.2.2.2.1
  have c17 : w2.cell? ⟨w.heap.size + 1 + 1 + 1, 4, none⟩ = some (.int .i64 0) := hC2.2.2.2.2.2.2.2.2.2.2.2.2.2.2.2.2.2.1
  have c18 : w2.cell? ⟨w.heap.size + 1 + 1 + 1, 5, none⟩ = some (.int .i64 0) := hC2.2.2.2.2.2.2.2.2.2.2.2.2.2.2.2.2.2.2.1
  have c19 : w2.frozen? ⟨w.heap.size + 1, 0, none⟩ = false := hC2.2.2.2.2.2.2.2.2.2.2.2.2.2.2.2.2.2.2.2.1
  have c20 : w2.frozen? ⟨w.heap.size + 1, 1, none⟩ = false := hC2.2.2.2.2.2.2.2.2.2.2.2.2.2.2.2.2.2.2.2.2.1
  have c21 : w2.frozen? ⟨w.heap.size + 1, 2, none⟩ = false := hC2.2.2.2.2.2.2.2.2.2.2.2.2.2.2.2.2.2.2.2.2.2.1
  have c22 : w2.frozen? ⟨w.heap.size + 1, 3, none⟩ = false := hC2.2.2.2.2.2.2.2.2.2.2.2.2.2.2.2.2.2.2.2.2.2.2.1
  have c23 : w2.frozen? ⟨w.heap.size + 1, 4, none⟩ = false := hC2.2.2.2.2.2.2.2.2.2.2.2.2.2.2.2.2.2.2.2.2.2.2.2.1
  have c24 : w2.frozen? ⟨w.heap.size + 1, 5, none⟩ = false := hC2.2.2.2.2.2.2.2.2.2.2.2.2.2.2.2.2.2.2.2.2.2.2.2.2.1
  have c25 : w2.frozen? ⟨w.heap.size + 1 + 1 + 1, 0, none⟩ = false := hC2.2.2.2.2.2.2.2.2.2.2.2.2.2.2.2.2.2.2.2.2.2.2.2.2.2.1
  have c26 : w2.frozen? ⟨w.heap.size + 1 + 1 + 1, 1, none⟩ = false := hC2.2.2.2.2.2.2.2.2.2.2.2.2.2.2.2.2.2.2.2.2.2.2.2.2.2.2.1
  have c27 : w2.frozen? ⟨w.heap.size + 1 + 1 + 1, 2, none⟩ = false := hC2.2.2.2.2.2.2.2.2.2.2.2.2.2.2.2.2.2.2.2.2.2.2.2.2.2.2.2.1
  have c28 : w2.frozen? ⟨w.heap.size + 1 + 1 + 1, 3, none⟩ = false := hC2.2.2.2.2.2.2.2.2.2.2.2.2.2.2.2.2.2.2.2.2.2.2.2.2.2.2.2.2.1
  have c29 : w2.frozen? ⟨w.heap.size + 1 + 1 + 1, 4, none⟩ = false := hC2.2.2.2.2.2.2.2.2.2.2.2.2.2.2.2.2.2.2.2.2.2.2.2.2.2.2.2.2.2.1
  have c30 : w2.frozen? ⟨w.heap.size + 1 + 1 + 1, 5, none⟩ = false := hC2.2.2.2.2.2.2.2.2.2.2.2.2.2.2.2.2.2.2.2.2.2.2.2.2.2.2.2.2.2.2.1
  have c31 : Below w.heap.size w w2 := hC2.2.2.2.2.2.2.2.2.2.2.2.2.2.2.2.2.2.2.2.2.2.2.2.2.2.2.2.2.2.2.2
  go_wp2_with fail
  clear c0 c1 c2 c3 c4 c5 c6 c7 c8 c9 c10 c11 c12 c13 c14 c15 c16 c17 c18 c19 c20 c21 c22 c23 c24 c25 c26 c27 c28 c29 c30 c31
  refine (specEventOk_c _ _ _).mono ?_
  rintro e w3 ⟨rfl, hb3⟩
  have hC3 := doC_on hC2 hb3
  have c0 : w3.cell? ⟨w.heap.size, 0, none⟩ = some (.int .i64 s) := hC3.1
  have c1 : w3.cell? ⟨w.heap.size, 1, none⟩ = some (.int .i64 j) := hC3.2.1
  have c2 : w3.cell? ⟨w.heap.size, 2, none⟩ = some (.int .i64 m) := hC3.2.2.1
  have c3 : w3.cell? ⟨w.heap.size, 3, none⟩ = some (.int .i64 g) := hC3.2.2.2.1
  have c4 : w3.cell? ⟨w.heap.size, 4, none⟩ = some (.int .i64 o) := hC3.2.2.2.2.1
  have c5 : w3.cell? ⟨w.heap.size + 1, 0, none⟩ = some (.bool kn) := hC3.2.2.2.2.2.1
  have c6 : w3.cell? ⟨w.heap.size + 1, 1, none⟩ = some (.int .i64 l) := hC3.2.2.2.2.2.2.1
  have c7 : w3.cell? ⟨w.heap.size + 1, 2, none⟩ = some (.int .i64 h) := hC3.2.2.2.2.2.2.2.1
  have c8 : w3.cell? ⟨w.heap.size + 1, 3, none⟩ = some (.int .i64 si) := hC3.2.2.2.2.2.2.2.2.1
  have c9 : w3.cell? ⟨w.heap.size + 1, 4, none⟩ = some (.int .i64 la) := hC3.2.2.2.2.2.2.2.2.2.1
  have c10 : w3.cell? ⟨w.heap.size + 1, 5, none⟩ = some (.int .i64 od) := hC3.2.2.2.2.2.2.2.2.2.2.1
  have c11 : w3.cell? ⟨w.heap.size + 1 + 1, 0, none⟩ = some (.int .i64 op) := hC3.2.2.2.2.2.2.2.2.2.2.2.1
  have c12 : w3.cell? ⟨w.heap.size + 1 + 1, 1, none⟩ = some (.int .i64 n) := hC3.2.2.2.2.2.2.2.2.2.2.2.2.1
  have c13 : w3.cell? ⟨w.heap.size + 1 + 1 + 1, 0, none⟩ = some (.bool false) := hC3.2.2.2.2.2.2.2.2.2.2.2.2.2.1
  have c14 : w3.cell? ⟨w.heap.size + 1 + 1 + 1, 1, none⟩ = some (.int .i64 0) := hC3.2.2.2.2.2.2.2.2.2.2.2.2.2.2.1
  have c15 : w3.cell? ⟨w.heap.size + 1 + 1 + 1, 2, none⟩ = some (.int .i64 0) := hC3.2.2.2.2.2.2.2.2.2.2.2.2.2.2.2.1
  have c16 : w3.cell? ⟨w.heap.size + 1 + 1 + 1, 3, none⟩ = some (.int .i64 0) := hC3.2.2.2.2.2.2.2.2.2.2.2.2.2.2.2.2.1
  have c17 : w3.cell? ⟨w.heap.size + 1 + 1 + 1, 4, none⟩ = some (.int .i64 0) := hC3.2.2.2.2.2.2.2.2.2.2.2.2.2.2.2.2.2.1
  have c18 : w3.cell? ⟨w.heap.size + 1 + 1 + 1, 5, none⟩ = some (.int .i64 0) := hC3.2.2.2.2.2.2.2.2.2.2.2.2.2.2.2.2.2.2.1
  have c19 : w3.frozen? ⟨w.heap.size + 1, 0, none⟩ = false := hC3.2.2.2.2.2.2.2.2.2.2.2.2.2.2.2.2.2.2.2.1
  have c20 : w3.frozen? ⟨w.heap.size + 1, 1, none⟩ = false := hC3.2.2.2.2.2.2.2.2.2.2.2.2.2.2.2.2.2.2.2.2.1
  have c21 : w3.frozen? ⟨w.heap.size + 1, 2, none⟩ = false := hC3.2.2.2.2.2.2.2.2.2.2.2.2.2.2.2.2.2.2.2.2.2.1
  have c22 : w3.frozen? ⟨w.heap.size + 1, 3, none⟩ = false := hC3.2.2.2.2.2.2.2.2.2.2.2.2.2.2.2.2.2.2.2.2.2.2.1
  have c23 : w3.frozen? ⟨w.heap.size + 1, 4, none⟩ = false := hC3.2.2.2.2.2.2.2.2.2.2.2.2.2.2.2.2.2.2.2.2.2.2.2.1
  have c24 : w3.frozen? ⟨w.heap.size + 1, 5, none⟩ = false := hC3.2.2.2.2.2.2.2.2.2.2.2.2.2.2.2.2.2.2.2.2.2.2.2.2.1
  have c25 : w3.frozen? ⟨w.heap.size + 1 + 1 + 1, 0, none⟩ = false := hC3.2.2.2.2.2.2.2.2.2.2.2.2.2.2.2.2.2.2.2.2.2.2.2.2.2.1
  have c26 : w3.frozen? ⟨w.heap.size + 1 + 1 + 1, 1, none⟩ = false := hC3.2.2.2.2.2.2.2.2.2.2.2.2.2.2.2.2.2.2.2.2.2.2.2.2.2.2.1
  have c27 : w3.frozen? ⟨w.heap.size + 1 + 1 + 1, 2, none⟩ = false := hC3.2.2.2.2.2.2.2.2.2.2.2.2.2.2.2.2.2.2.2.2.2.2.2.2.2.2.2.1
  have c28 : w3.frozen? ⟨w.heap.size + 1 + 1 + 1, 3, none⟩ = false := hC3.2.2.2.2.2.2.2.2.2.2.2.2.2.2.2.2.2.2.2.2.2.2.2.2.2.2.2.2.1
  have c29 : w3.frozen? ⟨w.heap.size + 1 + 1 + 1, 4, none⟩ = false := hC3.2.2.2.2.2.2.2.2.2.2.2.2.2.2.2.2.2.2.2.2.2.2.2.2.2.2.2.2.2.1
  have c30 : w3.frozen? ⟨w.heap.size + 1 + 1 + 1, 5, none⟩ = false := hC3.2.2.2.2.2.2.2.2.2.2.2.2.2.2.2.2.2.2.2.2.2.2.2.2.2.2.2.2.2.2.1
  have c31 : Below w.heap.size w w3 := hC3.2.2.2.2.2.2.2.2.2.2.2.2.2.2.2.2.2.2.2.2.2.2.2.2.2.2.2.2.2.2.2
  go_wp2_with fail
  have hq1 : w.heap.size ≤ w.heap.size + 1 := by omega
  have hq3 : w.heap.size ≤ w.heap.size + 1 + 1 + 1 := by omega
  exact bodyPost_ret (v := .agg #[.bool false, .int .i64 0, .int .i64 0, .int .i64 0, .int .i64 0, .int .i64 0]) (by simp [results, Tryd.results31, go_sem, *]) rfl ⟨rfl, (nbSetX (nbSetX (nbSetX (nbSetX (nbSetX (nbSetX c31 hq3) hq3) hq3) hq3) hq3) hq3)⟩


set_option maxHeartbeats 4000000 in
theorem specDo_wheel0S (ad : Option Addr) (len cap : Nat) (f a : Nat → Int) (s j m g o : Int) (l h si la od op n : Int) (w : World) (hl : len ≤ 1048576) (hrow : SRow w ad len f a) (hr : rOk s j m g o = true) (hst : stB (marksB f a len) len false l h si la od = true) (hev : evB op n = true) (hop : (op == 1) = true) :
    Calls Tryd.prog 31 #[.agg #[.int .i64 s, .int .i64 j, .int .i64 m, .int .i64 g, .int .i64 o], .slice ad len cap, .agg #[.bool false, .int .i64 l, .int .i64 h, .int .i64 si, .int .i64 la, .int .i64 od], .agg #[.int .i64 op, .int .i64 n]] w fun e w' => e = .returned (.agg #[.bool false, .int .i64 l, .int .i64 h, .int .i64 (min (si + n) 1000000000), .int .i64 la, .int .i64 od]) ∧ Below w.heap.size w w' := by
  have hst' := hst
  simp only [stB, inB, Bool.and_eq_true, decide_eq_true_eq] at hst'
  obtain ⟨⟨⟨⟨hmk, hla0, hla1⟩, hsi0, hsi1⟩, hod0, hod1⟩, hbd⟩ := hst'
  have HMK : Hid (marksB f a len = true) := hmk
  have HBD : Hid ((if false then bOk l h else l == 0 && h == 0 && la == -1) = true) := hbd
  clear hmk hbd
  have hn : inB n 0 100000 = true := by simpa [evB, hop] using hev
  have hn' := hn
  simp only [inB, Bool.and_eq_true, decide_eq_true_eq] at hn'
  obtain ⟨hn0, hn1⟩ := hn'
  have wr : IntKind.i64.wrap (si + n) = si + n := by rw [IntKind.wrap_i64]; omega
  go_enter Tryd.func31, Tryd.ntmps31
  go_wp2_with fail
  refine (specRulesOk_c _ _ _ _ _ _).mono ?_
  rintro e w1 ⟨rfl, hb1⟩
  have hC1 : doC w s j m g o false l h si la od op n w1 := ⟨cellOn hb1 (by go_simp), cellOn hb1 (by go_simp), cellOn hb1 (by go_simp), cellOn hb1 (by go_simp), cellOn hb1 (by go_simp), cellOn hb1 (by go_simp), cellOn hb1 (by go_simp), cellOn hb1 (by go_simp), cellOn hb1 (by go_simp), cellOn hb1 (by go_simp), cellOn hb1 (by go_simp), cellOn hb1 (by go_simp), cellOn hb1 (by go_simp), cellOn hb1 (by go_simp), cellOn hb1 (by go_simp), cellOn hb1 (by go_simp), cellOn hb1 (by go_simp), cellOn hb1 (by go_simp), cellOn hb1 (by go_simp), frozenOn hb1 (v := .bool false) (by go_simp) (by go_simp), frozenOn hb1 (v := .int .i64 l) (by go_simp) (by go_simp), frozenOn hb1 (v := .int .i64 h) (by go_simp) (by go_simp), frozenOn hb1 (v := .int .i64 si) (by go_simp) (by go_simp), frozenOn hb1 (v := .int .i64 la) (by go_simp) (by go_simp), frozenOn hb1 (v := .int .i64 od) (by go_simp) (by go_simp), frozenOn hb1 (v := .bool false) (by go_simp) (by go_simp), frozenOn hb1 (v := .int .i64 0) (by go_simp) (by go_simp), frozenOn hb1 (v := .int .i64 0) (by go_simp) (by go_simp), frozenOn hb1 (v := .int .i64 0) (by go_simp) (by go_simp), frozenOn hb1 (v := .int .i64 0) (by go_simp) (by go_simp), frozenOn hb1 (v := .int .i64 0) (by go_simp) (by go_simp), nbTrans (nbAlloc (nbAlloc (nbAlloc (nbAlloc (Below.refl _ _) _) _) _) _) hb1⟩
  have c0 : w1.cell? ⟨w.heap.size, 0, none⟩ = some (.int .i64 s) := hC1.1
  have c1 : w1.cell? ⟨w.heap.size, 1, none⟩ = some (.int .i64 j) := hC1.2.1
  have c2 : w1.cell? ⟨w.heap.size, 2, none⟩ = some (.int .i64 m) := hC1.2.2.1
  have c3 : w1.cell? ⟨w.heap.size, 3, none⟩ = some (.int .i64 g) := hC1.2.2.2.1
  have c4 : w1.cell? ⟨w.heap.size, 4, none⟩ = some (.int .i64 o) := hC1.2.2.2.2.1
  have c5 : w1.cell? ⟨w.heap.size + 1, 0, none⟩ = some (.bool false) := hC1.2.2.2.2.2.1
  have c6 : w1.cell? ⟨w.heap.size + 1, 1, none⟩ = some (.int .i64 l) := hC1.2.2.2.2.2.2.1
  have c7 : w1.cell? ⟨w.heap.size + 1, 2, none⟩ = some (.int .i64 h) := hC1.2.2.2.2.2.2.2.1
  have c8 : w1.cell? ⟨w.heap.size + 1, 3, none⟩ = some (.int .i64 si) := hC1.2.2.2.2.2.2.2.2.1
  have c9 : w1.cell? ⟨w.heap.size + 1, 4, none⟩ = some (.int .i64 la) := hC1.2.2.2.2.2.2.2.2.2.1
  have c10 : w1.cell? ⟨w.heap.size + 1, 5, none⟩ = some (.int .i64 od) := hC1.2.2.2.2.2.2.2.2.2.2.1
  have c11 : w1.cell? ⟨w.heap.size + 1 + 1, 0, none⟩ = some (.int .i64 op) := hC1.2.2.2.2.2.2.2.2.2.2.2.1
  have c12 : w1.cell? ⟨w.heap.size + 1 + 1, 1, none⟩ = some (.int .i64 n) := hC1.2.2.2.2.2.2.2.2.2.2.2.2.1
  have c13 : w1.cell? ⟨w.heap.size + 1 + 1 + 1, 0, none⟩ = some (.bool false) := hC1.2.2.2.2.2.2.2.2.2.2.2.2.2.1
  have c14 : w1.cell? ⟨w.heap.size + 1 + 1 + 1, 1, none⟩ = some (.int .i64 0) := hC1.2.2.2.2.2.2.2.2.2.2.2.2.2.2.1
  have c15 : w1.cell? ⟨w.heap.size + 1 + 1 + 1, 2, none⟩ = some (.int .i64 0) := hC1.2.2.2.2.2.2.2.2.2.2.2.2.2.2.2.1
  have c16 : w1.cell? ⟨w.heap.size + 1 + 1 + 1, 3, none⟩ = some (.int .i64 0) := hC1.2.2.2.2.2.2.2.2.2.2.2.2.2.2.2.2.1
  have c17 : w1.cell? ⟨w.heap.size + 1 + 1 + 1, 4, none⟩ = some (.int .i64 0) := hC1.2.2.2.2.2.2.2.2.2.2.2.2.2.2.2.2.2.1
  have c18 : w1.cell? ⟨w.heap.size + 1 + 1 + 1, 5, none⟩ = some (.int .i64 0) := hC1.2.2.2.2.2.2.2.2.2.2.2.2.2.2.2.2.2.2.1
  have c19 : w1.frozen? ⟨w.heap.size + 1, 0, none⟩ = false := hC1.2.2.2.2.2.2.2.2.2.2.2.2.2.2.2.2.2.2.2.1
  have c20 : w1.frozen? ⟨w.heap.size + 1, 1, none⟩ = false := hC1.2.2.2.2.2.2.2.2.2.2.2.2.2.2.2.2.2.2.2.2.1
  have c21 : w1.frozen? ⟨w.heap.size + 1, 2, none⟩ = false := hC1.2.2.2.2.2.2.2.2.2.2.2.2.2.2.2.2.2.2.2.2.2.1
  have c22 : w1.frozen? ⟨w.heap.size + 1, 3, none⟩ = false := hC1.2.2.2.2.2.2.2.2.2.2.2.2.2.2.2.2.2.2.2.2.2.2.1
  have c23 : w1.frozen? ⟨w.heap.size + 1, 4, none⟩ = false := hC1.2.2.2.2.2.2.2.2.2.2.2.2.2.2.2.2.2.2.2.2.2.2.2.1
  have c24 : w1.frozen? ⟨w.heap.size + 1, 5, none⟩ = false := hC1.2.2.2.2.2.2.2.2.2.2.2.2.2.2.2.2.2.2.2.2.2.2.2.2.1
  have c25 : w1.frozen? ⟨w.heap.size + 1 + 1 + 1, 0, none⟩ = false := hC1.2.2.2.2.2.2.2.2.2.2.2.2.2.2.2.2.2.2.2.2.2.2.2.2.2.1
  have c26 : w1.frozen? ⟨w.heap.size + 1 + 1 + 1, 1, none⟩ = false := hC1.2.2.2.2.2.2.2.2.2.2.2.2.2.2.2.2.2.2.2.2.2.2.2.2.2.2.1
  have c27 : w1.frozen? ⟨w.heap.size + 1 + 1 + 1, 2, none⟩ = false := hC1.2.2.2.2.2.2.2.2.2.2.2.2.2.2.2.2.2.2.2.2.2.2.2.2.2.2.2.1
  have c28 : w1.frozen? ⟨w.heap.size + 1 + 1 + 1, 3, none⟩ = false := hC1.2.2.2.2.2.2.2.2.2.2.2.2.2.2.2.2.2.2.2.2.2.2.2.2.2.2.2.2.1
  have c29 : w1.frozen? ⟨w.heap.size + 1 + 1 + 1, 4, none⟩ = false := hC1.2.2.2.2.2.2.2.2.2.2.2.2.2.2.2.2.2.2.2.2.2.2.2.2.2.2.2.2.2.1
  have c30 : w1.frozen? ⟨w.heap.size + 1 + 1 + 1, 5, none⟩ = false := hC1.2.2.2.2.2.2.2.2.2.2.2.2.2.2.2.2.2.2.2.2.2.2.2.2.2.2.2.2.2.2.1
  have c31 : Below w.heap.size w w1 := hC1.2.2.2.2.2.2.2.2.2.2.2.2.2.2.2.2.2.2.2.2.2.2.2.2.2.2.2.2.2.2.2
  go_wp2_with fail
  clear c0 c1 c2 c3 c4 c5 c6 c7 c8 c9 c10 c11 c12 c13 c14 c15 c16 c17 c18 c19 c20 c21 c22 c23 c24 c25 c26 c27 c28 c29 c30 c31
  have hB1 : Below w.heap.size w w1 := hC1.2.2.2.2.2.2.2.2.2.2.2.2.2.2.2.2.2.2.2.2.2.2.2.2.2.2.2.2.2.2.2
  refine (specStateOk_c _ _ _ (marksB f a len) _ _ _ _ _ _ _ hl (by intro w' hw'; exact specMarksOk_s ad len cap f a w' hl ((hrow.on hB1).on hw'))).mono ?_
  rintro e w2 ⟨rfl, hb2⟩
  have hC2 := doC_on hC1 hb2
  have c0 : w2.cell? ⟨w.heap.size, 0, none⟩ = some (.int .i64 s) := hC2.1
  have c1 : w2.cell? ⟨w.heap.size, 1, none⟩ = some (.int .i64 j) := hC2.2.1
  have c2 : w2.cell? ⟨w.heap.size, 2, none⟩ = some (.int .i64 m) := hC2.2.2.1
  have c3 : w2.cell? ⟨w.heap.size, 3, none⟩ = some (.int .i64 g) := hC2.2.2.2.1
  have c4 : w2.cell? ⟨w.heap.size, 4, none⟩ = some (.int .i64 o) := hC2.2.2.2.2.1
  have c5 : w2.cell? ⟨w.heap.size + 1, 0, none⟩ = some (.bool false) := hC2.2.2.2.2.2.1
  have c6 : w2.cell? ⟨w.heap.size + 1, 1, none⟩ = some (.int .i64 l) := hC2.2.2.2.2.2.2.1
  have c7 : w2.cell? ⟨w.heap.size + 1, 2, none⟩ = some (.int .i64 h) := hC2.2.2.2.2.2.2.2.1
  have c8 : w2.cell? ⟨w.heap.size + 1, 3, none⟩ = some (.int .i64 si) := hC2.2.2.2.2.2.2.2.2.1
  have c9 : w2.cell? ⟨w.heap.size + 1, 4, none⟩ = some (.int .i64 la) := hC2.2.2.2.2.2.2.2.2.2.1
  have c10 : w2.cell? ⟨w.heap.size + 1, 5, none⟩ = some (.int .i64 od) := hC2.2.2.2.2.2.2.2.2.2.2.1
  have c11 : w2.cell? ⟨w.heap.size + 1 + 1, 0, none⟩ = some (.int .i64 op) := hC2.2.2.2.2.2.2.2.2.2.2.2.1
  have c12 : w2.cell? ⟨w.heap.size + 1 + 1, 1, none⟩ = some (.int .i64 n) := hC2.2.2.2.2.2.2.2.2.2.2.2.2.1
  have c13 : w2.cell? ⟨w.heap.size + 1 + 1 + 1, 0, none⟩ = some (.bool false) := hC2.2.2.2.2.2.2.2.2.2.2.2.2.2.1
  have c14 : w2.cell? ⟨w.heap.size + 1 + 1 + 1, 1, none⟩ = some (.int .i64 0) := hC2.2.2.2.2.2.2.2.2.2.2.2.2.2.2.1
  have c15 : w2.cell? ⟨w.heap.size + 1 + 1 + 1, 2, none⟩ = some (.int .i64 0) := hC2.2.2.2.2.2.2.2.2.2.2.2.2.2.2.2.1
  have c16 : w2.cell? ⟨w.heap.size + 1 + 1 + 1, 3, none⟩ = some (.int .i64 0) := hC2.2.2.2.2.2.2.2.2.2.2.2.2.2.2.2.2.1
  have c17 : w2.cell? ⟨w.heap.size + 1 + 1 + 1, 4, none⟩ = some (.int .i64 0) := hC2.2.2.2.2.2.2.2.2.2.2.2.2.2.2.2.2.2.1
  have c18 : w2.cell? ⟨w.heap.size + 1 + 1 + 1, 5, none⟩ = some (.int .i64 0) := hC2.2.2.2.2.2.2.2.2.2.2.2.2.2.2.2.2.2.2.1
  have c19 : w2.frozen? ⟨w.heap.size + 1, 0, none⟩ = false := hC2.2.2.2.2.2.2.2.2.2.2.2.2.2.2.2.2.2.2.2.1
  have c20 : w2.frozen? ⟨w.heap.size + 1, 1, none⟩ = false := hC2.2.2.2.2.2.2.2.2.2.2.2.2.2.2.2.2.2.2.2.2.1
  have c21 : w2.frozen? ⟨w.heap.size + 1, 2, none⟩ = false := hC2.2.2.2.2.2.2.2.2.2.2.2.2.2.2.2.2.2.2.2.2.2.1
  have c22 : w2.frozen? ⟨w.heap.size + 1, 3, none⟩ = false := hC2.2.2.2.2.2.2.2.2.2.2.2.2.2.2.2.2.2.2.2.2.2.2.1
  have c23 : w2.frozen? ⟨w.heap.size + 1, 4, none⟩ = false := hC2.2.2.2.2.2.2.2.2.2.2.2.2.2.2.2.2.2.2.2.2.2.2.2.1
  have c24 : w2.frozen? ⟨w.heap.size + 1, 5, none⟩ = false := hC2.2.2.2.2.2.2.2.2.2.2.2.2.2.2.2.2.2.2.2.2.2.2.2.2.1
  have c25 : w2.frozen? ⟨w.heap.size + 1 + 1 + 1, 0, none⟩ = false := hC2.2.2.2.2.2.2.2.2.2.2.2.2.2.2.2.2.2.2.2.2.2.2.2.2.2.1
  have c26 : w2.frozen? ⟨w.heap.size + 1 + 1 + 1, 1, none⟩ = false := hC2.2.2.2.2.2.2.2.2.2.2.2.2.2.2.2.2.2.2.2.2.2.2.2.2.2.2.1
  have c27 : w2.frozen? ⟨w.heap.size + 1 + 1 + 1, 2, none⟩ = false := hC2.2.2.2.2.2.2.2.2.2.2.2.2.2.2.2.2.2.2.2.2.2.2.2.2.2.2.2.1
  have c28 : w2.frozen? ⟨w.heap.size + 1 + 1 + 1, 3, none⟩ = false := hC2.2.2.2.2.2.2.2.2.2.2.2.2.2.2.2.2.2.2.2.2.2.2.2.2.2.2.2.2.1
  have c29 : w2.frozen? ⟨w.heap.size + 1 + 1 + 1, 4, none⟩ = false := hC2.2.2.2.2.2.2.2.2.2.2.2.2.2.2.2.2.2.2.2.2.2.2.2.2.2.2.2.2.2.1
  have c30 : w2.frozen? ⟨w.heap.size + 1 + 1 + 1, 5, none⟩ = false := hC2.2.2.2.2.2.2.2.2.2.2.2.2.2.2.2.2.2.2.2.2.2.2.2.2.2.2.2.2.2.2.1
  have c31 : Below w.heap.size w w2 := hC2.2.2.2.2.2.2.2.2.2.2.2.2.2.2.2.2.2.2.2.2.2.2.2.2.2.2.2.2.2.2.2
  go_wp2_with fail
  clear c0 c1 c2 c3 c4 c5 c6 c7 c8 c9 c10 c11 c12 c13 c14 c15 c16 c17 c18 c19 c20 c21 c22 c23 c24 c25 c26 c27 c28 c29 c30 c31
  refine (specEventOk_c _ _ _).mono ?_
  rintro e w3 ⟨rfl, hb3⟩
  have hC3 := doC_on hC2 hb3
  have c0 : w3.cell? ⟨w.heap.size, 0, none⟩ = some (.int .i64 s) := hC3.1
  have c1 : w3.cell? ⟨w.heap.size, 1, none⟩ = some (.int .i64 j) := hC3.2.1
  have c2 : w3.cell? ⟨w.heap.size, 2, none⟩ = some (.int .i64 m) := hC3.2.2.1
  have c3 : w3.cell? ⟨w.heap.size, 3, none⟩ = some (.int .i64 g) := hC3.2.2.2.1
  have c4 : w3.cell? ⟨w.heap.size, 4, none⟩ = some (.int .i64 o) := hC3.2.2.2.2.1
  have c5 : w3.cell? ⟨w.heap.size + 1, 0, none⟩ = some (.bool false) := hC3.2.2.2.2.2.1
  have c6 : w3.cell? ⟨w.heap.size + 1, 1, none⟩ = some (.int .i64 l) := hC3.2.2.2.2.2.2.1
  have c7 : w3.cell? ⟨w.heap.size + 1, 2, none⟩ = some (.int .i64 h) := hC3.2.2.2.2.2.2.2.1
  have c8 : w3.cell? ⟨w.heap.size + 1, 3, none⟩ = some (.int .i64 si) := hC3.2.2.2.2.2.2.2.2.1
  have c9 : w3.cell? ⟨w.heap.size + 1, 4, none⟩ = some (.int .i64 la) := hC3.2.2.2.2.2.2.2.2.2.1
  have c10 : w3.cell? ⟨w.heap.size + 1, 5, none⟩ = some (.int .i64 od) := hC3.2.2.2.2.2.2.2.2.2.2.1
  have c11 : w3.cell? ⟨w.heap.size + 1 + 1, 0, none⟩ = some (.int .i64 op) := hC3.2.2.2.2.2.2.2.2.2.2.2.1
  have c12 : w3.cell? ⟨w.heap.size + 1 + 1, 1, none⟩ = some (.int .i64 n) := hC3.2.2.2.2.2.2.2.2.2.2.2.2.1
  have c13 : w3.cell? ⟨w.heap.size + 1 + 1 + 1, 0, none⟩ = some (.bool false) := hC3.2.2.2.2.2.2.2.2.2.2.2.2.2.1
  have c14 : w3.cell? ⟨w.heap.size + 1 + 1 + 1, 1, none⟩ = some (.int .i64 0) := hC3.2.2.2.2.2.2.2.2.2.2.2.2.2.2.1
  have c15 : w3.cell? ⟨w.heap.size + 1 + 1 + 1, 2, none⟩ = some (.int .i64 0) := hC3.2.2.2.2.2.2.2.2.2.2.2.2.2.2.2.1
  have c16 : w3.cell? ⟨w.heap.size + 1 + 1 + 1, 3, none⟩ = some (.int .i64 0) := hC3.2.2.2.2.2.2.2.2.2.2.2.2.2.2.2.2.1
  have c17 : w3.cell? ⟨w.heap.size + 1 + 1 + 1, 4, none⟩ = some (.int .i64 0) := hC3.2.2.2.2.2.2.2.2.2.2.2.2.2.2.2.2.2.1
  have c18 : w3.cell? ⟨w.heap.size + 1 + 1 + 1, 5, none⟩ = some (.int .i64 0) := hC3.2.2.2.2.2.2.2.2.2.2.2.2.2.2.2.2.2.2.1
  have c19 : w3.frozen? ⟨w.heap.size + 1, 0, none⟩ = false := hC3.2.2.2.2.2.2.2.2.2.2.2.2.2.2.2.2.2.2.2.1
  have c20 : w3.frozen? ⟨w.heap.size + 1, 1, none⟩ = false := hC3.2.2.2.2.2.2.2.2.2.2.2.2.2.2.2.2.2.2.2.2.1
  have c21 : w3.frozen? ⟨w.heap.size + 1, 2, none⟩ = false := hC3.2.2.2.2.2.2.2.2.2.2.2.2.2.2.2.2.2.2.2.2.2.1
  have c22 : w3.frozen? ⟨w.heap.size + 1, 3, none⟩ = false := hC3.2.2.2.2.2.2.2.2.2.2.2.2.2.2.2.2.2.2.2.2.2.2.1
  have c23 : w3.frozen? ⟨w.heap.size + 1, 4, none⟩ = false := hC3.2.2.2.2.2.2.2.2.2.2.2.2.2.2.2.2.2.2.2.2.2.2.2.1
  have c24 : w3.frozen? ⟨w.heap.size + 1, 5, none⟩ = false := hC3.2.2.2.2.2.2.2.2.2.2.2.2.2.2.2.2.2.2.2.2.2.2.2.2.1
  have c25 : w3.frozen? ⟨w.heap.size + 1 + 1 + 1, 0, none⟩ = false := hC3.2.2.2.2.2.2.2.2.2.2.2.2.2.2.2.2.2.2.2.2.2.2.2.2.2.1
  have c26 : w3.frozen? ⟨w.heap.size + 1 + 1 + 1, 1, none⟩ = false := hC3.2.2.2.2.2.2.2.2.2.2.2.2.2.2.2.2.2.2.2.2.2.2.2.2.2.2.1
  have c27 : w3.frozen? ⟨w.heap.size + 1 + 1 + 1, 2, none⟩ = false := hC3.2.2.2.2.2.2.2.2.2.2.2.2.2.2.2.2.2.2.2.2.2.2.2.2.2.2.2.1
  have c28 : w3.frozen? ⟨w.heap.size + 1 + 1 + 1, 3, none⟩ = false := hC3.2.2.2.2.2.2.2.2.2.2.2.2.2.2.2.2.2.2.2.2.2.2.2.2.2.2.2.2.1
  have c29 : w3.frozen? ⟨w.heap.size + 1 + 1 + 1, 4, none⟩ = false := hC3.2.2.2.2.2.2.2.2.2.2.2.2.2.2.2.2.2.2.2.2.2.2.2.2.2.2.2.2.2.1
  have c30 : w3.frozen? ⟨w.heap.size + 1 + 1 + 1, 5, none⟩ = false := hC3.2.2.2.2.2.2.2.2.2.2.2.2.2.2.2.2.2.2.2.2.2.2.2.2.2.2.2.2.2.2.1
  have c31 : Below w.heap.size w w3 := hC3.2.2.2.2.2.2.2.2.2.2.2.2.2.2.2.2.2.2.2.2.2.2.2.2.2.2.2.2.2.2.2
  go_wp2_with fail
  refine (l2least_c _ _ _).mono ?_
  rintro e w4 ⟨rfl, rfl⟩
  go_wp2_with fail
  have hq1 : w.heap.size ≤ w.heap.size + 1 := by omega
  have hq3 : w.heap.size ≤ w.heap.size + 1 + 1 + 1 := by omega
  exact bodyPost_ret (v := .agg #[.bool false, .int .i64 l, .int .i64 h, .int .i64 (min (si + n) 1000000000), .int .i64 la, .int .i64 od]) (by simp [results, Tryd.results31, go_sem, *]) rfl ⟨rfl, (nbSetX (nbSetX (nbSetX (nbSetX (nbSetX (nbSetX (nbSetX c31 hq1) hq3) hq3) hq3) hq3) hq3) hq3)⟩


set_option maxHeartbeats 4000000 in
theorem specDo_wheel1S (ad : Option Addr) (len cap : Nat) (f a : Nat → Int) (s j m g o : Int) (l h si la od op n : Int) (w : World) (hl : len ≤ 1048576) (hrow : SRow w ad len f a) (hr : rOk s j m g o = true) (hst : stB (marksB f a len) len true l h si la od = true) (hev : evB op n = true) (hop : (op == 1) = true) :
    Calls Tryd.prog 31 #[.agg #[.int .i64 s, .int .i64 j, .int .i64 m, .int .i64 g, .int .i64 o], .slice ad len cap, .agg #[.bool true, .int .i64 l, .int .i64 h, .int .i64 si, .int .i64 la, .int .i64 od], .agg #[.int .i64 op, .int .i64 n]] w fun e w' => e = .returned (.agg #[.bool true, .int .i64 (min (l + lst s j n) 100000000), .int .i64 (min (h + mst s j n) 100000000), .int .i64 (min (si + n) 1000000000), .int .i64 la, .int .i64 od]) ∧ Below w.heap.size w w' := by
  have hst' := hst
  simp only [stB, inB, Bool.and_eq_true, decide_eq_true_eq] at hst'
  obtain ⟨⟨⟨⟨hmk, hla0, hla1⟩, hsi0, hsi1⟩, hod0, hod1⟩, hbd⟩ := hst'
  have HMK : Hid (marksB f a len = true) := hmk
  have HBD : Hid ((if true then bOk l h else l == 0 && h == 0 && la == -1) = true) := hbd
  clear hmk hbd
  have hn : inB n 0 100000 = true := by simpa [evB, hop] using hev
  have hn' := hn
  simp only [inB, Bool.and_eq_true, decide_eq_true_eq] at hn'
  obtain ⟨hn0, hn1⟩ := hn'
  have wr : IntKind.i64.wrap (si + n) = si + n := by rw [IntKind.wrap_i64]; omega
  have hbk : bOk l h = true := by have := HBD.out; simpa using this
  go_enter Tryd.func31, Tryd.ntmps31
  go_wp2_with fail
  refine (specRulesOk_c _ _ _ _ _ _).mono ?_
  rintro e w1 ⟨rfl, hb1⟩
  have hC1 : doC w s j m g o true l h si la od op n w1 := ⟨cellOn hb1 (by go_simp), cellOn hb1 (by go_simp), cellOn hb1 (by go_simp), cellOn hb1 (by go_simp), cellOn hb1 (by go_simp), cellOn hb1 (by go_simp), cellOn hb1 (by go_simp), cellOn hb1 (by go_simp), cellOn hb1 (by go_simp), cellOn hb1 (by go_simp), cellOn hb1 (by go_simp), cellOn hb1 (by go_simp), cellOn hb1 (by go_simp), cellOn hb1 (by go_simp), cellOn hb1 (by go_simp), cellOn hb1 (by go_simp), cellOn hb1 (by go_simp), cellOn hb1 (by go_simp), cellOn hb1 (by go_simp), frozenOn hb1 (v := .bool true) (by go_simp) (by go_simp), frozenOn hb1 (v := .int .i64 l) (by go_simp) (by go_simp), frozenOn hb1 (v := .int .i64 h) (by go_simp) (by go_simp), frozenOn hb1 (v := .int .i64 si) (by go_simp) (by go_simp), frozenOn hb1 (v := .int .i64 la) (by go_simp) (by go_simp), frozenOn hb1 (v := .int .i64 od) (by go_simp) (by go_simp), frozenOn hb1 (v := .bool false) (by go_simp) (by go_simp), frozenOn hb1 (v := .int .i64 0) (by go_simp) (by go_simp), frozenOn hb1 (v := .int .i64 0) (by go_simp) (by go_simp), frozenOn hb1 (v := .int .i64 0) (by go_simp) (by go_simp), frozenOn hb1 (v := .int .i64 0) (by go_simp) (by go_simp), frozenOn hb1 (v := .int .i64 0) (by go_simp) (by go_simp), nbTrans (nbAlloc (nbAlloc (nbAlloc (nbAlloc (Below.refl _ _) _) _) _) _) hb1⟩
  have c0 : w1.cell? ⟨w.heap.size, 0, none⟩ = some (.int .i64 s) := hC1.1
  have c1 : w1.cell? ⟨w.heap.size, 1, none⟩ = some (.int .i64 j) := hC1.2.1
  have c2 : w1.cell? ⟨w.heap.size, 2, none⟩ = some (.int .i64 m) := hC1.2.2.1
  have c3 : w1.cell? ⟨w.heap.size, 3, none⟩ = some (.int .i64 g) := hC1.2.2.2.1
  have c4 : w1.cell? ⟨w.heap.size, 4, none⟩ = some (.int .i64 o) := hC1.2.2.2.2.1
  have c5 : w1.cell? ⟨w.heap.size + 1, 0, none⟩ = some (.bool true) := hC1.2.2.2.2.2.1
  have c6 : w1.cell? ⟨w.heap.size + 1, 1, none⟩ = some (.int .i64 l) := hC1.2.2.2.2.2.2.1
  have c7 : w1.cell? ⟨w.heap.size + 1, 2, none⟩ = some (.int .i64 h) := hC1.2.2.2.2.2.2.2.1
  have c8 : w1.cell? ⟨w.heap.size + 1, 3, none⟩ = some (.int .i64 si) := hC1.2.2.2.2.2.2.2.2.1
  have c9 : w1.cell? ⟨w.heap.size + 1, 4, none⟩ = some (.int .i64 la) := hC1.2.2.2.2.2.2.2.2.2.1
  have c10 : w1.cell? ⟨w.heap.size + 1, 5, none⟩ = some (.int .i64 od) := hC1.2.2.2.2.2.2.2.2.2.2.1
  have c11 : w1.cell? ⟨w.heap.size + 1 + 1, 0, none⟩ = some (.int .i64 op) := hC1.2.2.2.2.2.2.2.2.2.2.2.1
  have c12 : w1.cell? ⟨w.heap.size + 1 + 1, 1, none⟩ = some (.int .i64 n) := hC1.2.2.2.2.2.2.2.2.2.2.2.2.1
  have c13 : w1.cell? ⟨w.heap.size + 1 + 1 + 1, 0, none⟩ = some (.bool false) := hC1.2.2.2.2.2.2.2.2.2.2.2.2.2.1
  have c14 : w1.cell? ⟨w.heap.size + 1 + 1 + 1, 1, none⟩ = some (.int .i64 0) := hC1.2.2.2.2.2.2.2.2.2.2.2.2.2.2.1
  have c15 : w1.cell? ⟨w.heap.size + 1 + 1 + 1, 2, none⟩ = some (.int .i64 0) := hC1.2.2.2.2.2.2.2.2.2.2.2.2.2.2.2.1
  have c16 : w1.cell? ⟨w.heap.size + 1 + 1 + 1, 3, none⟩ = some (.int .i64 0) := hC1.2.2.2.2.2.2.2.2.2.2.2.2.2.2.2.2.1
  have c17 : w1.cell? ⟨w.heap.size + 1 + 1 + 1, 4, none⟩ = some (.int .i64 0) := hC1.2.2.2.2.2.2.2.2.2.2.2.2.2.2.2.2.2.1
  have c18 : w1.cell? ⟨w.heap.size + 1 + 1 + 1, 5, none⟩ = some (.int .i64 0) := hC1.2.2.2.2.2.2.2.2.2.2.2.2.2.2.2.2.2.2.1
  have c19 : w1.frozen? ⟨w.heap.size + 1, 0, none⟩ = false := hC1.2.2.2.2.2.2.2.2.2.2.2.2.2.2.2.2.2.2.2.1
  have c20 : w1.frozen? ⟨w.heap.size + 1, 1, none⟩ = false := hC1.2.2.2.2.2.2.2.2.2.2.2.2.2.2.2.2.2.2.2.2.1
  have c21 : w1.frozen? ⟨w.heap.size + 1, 2, none⟩ = false := hC1.2.2.2.2.2.2.2.2.2.2.2.2.2.2.2.2.2.2.2.2.2.1
  have c22 : w1.frozen? ⟨w.heap.size + 1, 3, none⟩ = false := hC1.2.2.2.2.2.2.2.2.2.2.2.2.2.2.2.2.2.2.2.2.2.2.1
  have c23 : w1.frozen? ⟨w.heap.size + 1, 4, none⟩ = false := hC1.2.2.2.2.2.2.2.2.2.2.2.2.2.2.2.2.2.2.2.2.2.2.2.1
  have c24 : w1.frozen? ⟨w.heap.size + 1, 5, none⟩ = false := hC1.2.2.2.2.2.2.2.2.2.2.2.2.2.2.2.2.2.2.2.2.2.2.2.2.1
  have c25 : w1.frozen? ⟨w.heap.size + 1 + 1 + 1, 0, none⟩ = false := hC1.2.2.2.2.2.2.2.2.2.2.2.2.2.2.2.2.2.2.2.2.2.2.2.2.2.1
  have c26 : w1.frozen? ⟨w.heap.size + 1 + 1 + 1, 1, none⟩ = false := hC1.2.2.2.2.2.2.2.2.2.2.2.2.2.2.2.2.2.2.2.2.2.2.2.2.2.2.1
  have c27 : w1.frozen? ⟨w.heap.size + 1 + 1 + 1, 2, none⟩ = false := hC1.2.2.2.2.2.2.2.2.2.2.2.2.2.2.2.2.2.2.2.2.2.2.2.2.2.2.2.1
  have c28 : w1.frozen? ⟨w.heap.size + 1 + 1 + 1, 3, none⟩ = false := hC1.2.2.2.2.2.2.2.2.2.2.2.2.2.2.2.2.2.2.2.2.2.2.2.2.2.2.2.2.1
  have c29 : w1.frozen? ⟨w.heap.size + 1 + 1 + 1, 4, none⟩ = false := hC1.2.2.2.2.2.2.2.2.2.2.2.2.2.2.2.2.2.2.2.2.2.2.2.2.2.2.2.2.2.1
  have c30 : w1.frozen? ⟨w.heap.size + 1 + 1 + 1, 5, none⟩ = false := hC1.2.2.2.2.2.2.2.2.2.2.2.2.2.2.2.2.2.2.2.2.2.2.2.2.2.2.2.2.2.2.1
  have c31 : Below w.heap.size w w1 := hC1.2.2.2.2.2.2.2.2.2.2.2.2.2.2.2.2.2.2.2.2.2.2.2.2.2.2.2.2.2.2.2
  go_wp2_with fail
  clear c0 c1 c2 c3 c4 c5 c6 c7 c8 c9 c10 c11 c12 c13 c14 c15 c16 c17 c18 c19 c20 c21 c22 c23 c24 c25 c26 c27 c28 c29 c30 c31
  have hB1 : Below w.heap.size w w1 := hC1.2.2.2.2.2.2.2.2.2.2.2.2.2.2.2.2.2.2.2.2.2.2.2.2.2.2.2.2.2.2.2
  refine (specStateOk_c _ _ _ (marksB f a len) _ _ _ _ _ _ _ hl (by intro w' hw'; exact specMarksOk_s ad len cap f a w' hl ((hrow.on hB1).on hw'))).mono ?_
  rintro e w2 ⟨rfl, hb2⟩
  have hC2 := doC_on hC1 hb2
  have c0 : w2.cell? ⟨w.heap.size, 0, none⟩ = some (.int .i64 s) := hC2.1
  have c1 : w2.cell? ⟨w.heap.size, 1, none⟩ = some (.int .i64 j) := hC2.2.1
  have c2 : w2.cell? ⟨w.heap.size, 2, none⟩ = some (.int .i64 m) := hC2.2.2.1
  have c3 : w2.cell? ⟨w.heap.size, 3, none⟩ = some (.int .i64 g) := hC2.2.2.2.1
  have c4 : w2.cell? ⟨w.heap.size, 4, none⟩ = some (.int .i64 o) := hC2.2.2.2.2.1
  have c5 : w2.cell? ⟨w.heap.size + 1, 0, none⟩ = some (.bool true) := hC2.2.2.2.2.2.1
  have c6 : w2.cell? ⟨w.heap.size + 1, 1, none⟩ = some (.int .i64 l) := hC2.2.2.2.2.2.2.1
  have c7 : w2.cell? ⟨w.heap.size + 1, 2, none⟩ = some (.int .i64 h) := hC2.2.2.2.2.2.2.2.1
  have c8 : w2.cell? ⟨w.heap.size + 1, 3, none⟩ = some (.int .i64 si) := hC2.2.2.2.2.2.2.2.2.1
  have c9 : w2.cell? ⟨w.heap.size + 1, 4, none⟩ = some (.int .i64 la) := hC2.2.2.2.2.2.2.2.2.2.1
  have c10 : w2.cell? ⟨w.heap.size + 1, 5, none⟩ = some (.int .i64 od) := hC2.2.2.2.2.2.2.2.2.2.2.1
  have c11 : w2.cell? ⟨w.heap.size + 1 + 1, 0, none⟩ = some (.int .i64 op) := hC2.2.2.2.2.2.2.2.2.2.2.2.1
  have c12 : w2.cell? ⟨w.heap.size + 1 + 1, 1, none⟩ = some (.int .i64 n) := hC2.2.2.2.2.2.2.2.2.2.2.2.2.1
  have c13 : w2.cell? ⟨w.heap.size + 1 + 1 + 1, 0, none⟩ = some (.bool false) := hC2.2.2.2.2.2.2.2.2.2.2.2.2.2.1
  have c14 : w2.cell? ⟨w.heap.size + 1 + 1 + 1, 1, none⟩ = some (.int .i64 0) := hC2.2.2.2.2.2.2.2.2.2.2.2.2.2.2.1
  have c15 : w2.cell? ⟨w.heap.size + 1 + 1 + 1, 2, none⟩ = some (.int .i64 0) := hC2.2.2.2.2.2.2.2.2.2.2.2.2.2.2.2.1
  have c16 : w2.cell? ⟨w.heap.size + 1 + 1 + 1, 3, none⟩ = some (.int .i64 0) := hC2.2.2.2.2.2.2.2.2.2.2.2.2.2.2.2.2.1
  have c17 : w2.cell? ⟨w.heap.size + 1 + 1 + 1, 4, none⟩ = some (.int .i64 0) := hC2.2.2.2.2.2.2.2.2.2.2.2.2.2.2.2.2.2.1
  have c18 : w2.cell? ⟨w.heap.size + 1 + 1 + 1, 5, none⟩ = some (.int .i64 0) := hC2.2.2.2.2.2.2.2.2.2.2.2.2.2.2.2.2.2.2.1
  have c19 : w2.frozen? ⟨w.heap.size + 1, 0, none⟩ = false := hC2.2.2.2.2.2.2.2.2.2.2.2.2.2.2.2.2.2.2.2.1
  have c20 : w2.frozen? ⟨w.heap.size + 1, 1, none⟩ = false := hC2.2.2.2.2.2.2.2.2.2.2.2.2.2.2.2.2.2.2.2.2.1
  have c21 : w2.frozen? ⟨w.heap.size + 1, 2, none⟩ = false := hC2.2.2.2.2.2.2.2.2.2.2.2.2.2.2.2.2.2.2.2.2.2.1
  have c22 : w2.frozen? ⟨w.heap.size + 1, 3, none⟩ = false := hC2.2.2.2.2.2.2.2.2.2.2.2.2.2.2.2.2.2.2.2.2.2.2.1
  have c23 : w2.frozen? ⟨w.heap.size + 1, 4, none⟩ = false := hC2.2.2.2.2.2.2.2.2.2.2.2.2.2.2.2.2.2.2.2.2.2.2.2.1
  have c24 : w2.frozen? ⟨w.heap.size + 1, 5, none⟩ = false := hC2.2.2.2.2.2.2.2.2.2.2.2.2.2.2.2.2.2.2.2.2.2.2.2.2.1
  have c25 : w2.frozen? ⟨w.heap.size + 1 + 1 + 1, 0, none⟩ = false := hC2.2.2.2.2.2.2.2.2.2.2.2.2.2.2.2.2.2.2.2.2.2.2.2.2.2.1
  have c26 : w2.frozen? ⟨w.heap.size + 1 + 1 + 1, 1, none⟩ = false := hC2.2.2.2.2.2.2.2.2.2.2.2.2.2.2.2.2.2.2.2.2.2.2.2.2.2.2.1
  have c27 : w2.frozen? ⟨w.heap.size + 1 + 1 + 1, 2, none⟩ = false := hC2.2.2.2.2.2.2.2.2.2.2.2.2.2.2.2.2.2.2.2.2.2.2.2.2.2.2.2.1
  have c28 : w2.frozen? ⟨w.heap.size + 1 + 1 + 1, 3, none⟩ = false := hC2.2.2.2.2.2.2.2.2.2.2.2.2.2.2.2.2.2.2.2.2.2.2.2.2.2.2.2.2.1
  have c29 : w2.frozen? ⟨w.heap.size + 1 + 1 + 1, 4, none⟩ = false := hC2.2.2.2.2.2.2.2.2.2.2.2.2.2.2.2.2.2.2.2.2.2.2.2.2.2.2.2.2.2.1
  have c30 : w2.frozen? ⟨w.heap.size + 1 + 1 + 1, 5, none⟩ = false := hC2.2.2.2.2.2.2.2.2.2.2.2.2.2.2.2.2.2.2.2.2.2.2.2.2.2.2.2.2.2.2.1
  have c31 : Below w.heap.size w w2 := hC2.2.2.2.2.2.2.2.2.2.2.2.2.2.2.2.2.2.2.2.2.2.2.2.2.2.2.2.2.2.2.2
  go_wp2_with fail
  clear c0 c1 c2 c3 c4 c5 c6 c7 c8 c9 c10 c11 c12 c13 c14 c15 c16 c17 c18 c19 c20 c21 c22 c23 c24 c25 c26 c27 c28 c29 c30 c31
  refine (specEventOk_c _ _ _).mono ?_
  rintro e w3 ⟨rfl, hb3⟩
  have hC3 := doC_on hC2 hb3
  have c0 : w3.cell? ⟨w.heap.size, 0, none⟩ = some (.int .i64 s) := hC3.1
  have c1 : w3.cell? ⟨w.heap.size, 1, none⟩ = some (.int .i64 j) := hC3.2.1
  have c2 : w3.cell? ⟨w.heap.size, 2, none⟩ = some (.int .i64 m) := hC3.2.2.1
  have c3 : w3.cell? ⟨w.heap.size, 3, none⟩ = some (.int .i64 g) := hC3.2.2.2.1
  have c4 : w3.cell? ⟨w.heap.size, 4, none⟩ = some (.int .i64 o) := hC3.2.2.2.2.1
  have c5 : w3.cell? ⟨w.heap.size + 1, 0, none⟩ = some (.bool true) := hC3.2.2.2.2.2.1
  have c6 : w3.cell? ⟨w.heap.size + 1, 1, none⟩ = some (.int .i64 l) := hC3.2.2.2.2.2.2.1
  have c7 : w3.cell? ⟨w.heap.size + 1, 2, none⟩ = some (.int .i64 h) := hC3.2.2.2.2.2.2.2.1
  have c8 : w3.cell? ⟨w.heap.size + 1, 3, none⟩ = some (.int .i64 si) := hC3.2.2.2.2.2.2.2.2.1
  have c9 : w3.cell? ⟨w.heap.size + 1, 4, none⟩ = some (.int .i64 la) := hC3.2.2.2.2.2.2.2.2.2.1
  have c10 : w3.cell? ⟨w.heap.size + 1, 5, none⟩ = some (.int .i64 od) := hC3.2.2.2.2.2.2.2.2.2.2.1
  have c11 : w3.cell? ⟨w.heap.size + 1 + 1, 0, none⟩ = some (.int .i64 op) := hC3.2.2.2.2.2.2.2.2.2.2.2.1
  have c12 : w3.cell? ⟨w.heap.size + 1 + 1, 1, none⟩ = some (.int .i64 n) := hC3.2.2.2.2.2.2.2.2.2.2.2.2.1
  have c13 : w3.cell? ⟨w.heap.size + 1 + 1 + 1, 0, none⟩ = some (.bool false) := hC3.2.2.2.2.2.2.2.2.2.2.2.2.2.1
  have c14 : w3.cell? ⟨w.heap.size + 1 + 1 + 1, 1, none⟩ = some (.int .i64 0) := hC3.2.2.2.2.2.2.2.2.2.2.2.2.2.2.1
  have c15 : w3.cell? ⟨w.heap.size + 1 + 1 + 1, 2, none⟩ = some (.int .i64 0) := hC3.2.2.2.2.2.2.2.2.2.2.2.2.2.2.2.1
  have c16 : w3.cell? ⟨w.heap.size + 1 + 1 + 1, 3, none⟩ = some (.int .i64 0) := hC3.2.2.2.2.2.2.2.2.2.2.2.2.2.2.2.2.1
  have c17 : w3.cell? ⟨w.heap.size + 1 + 1 + 1, 4, none⟩ = some (.int .i64 0) := hC3.2.2.2.2.2.2.2.2.2.2.2.2.2.2.2.2.2.1
  have c18 : w3.cell? ⟨w.heap.size + 1 + 1 + 1, 5, none⟩ = some (.int .i64 0) := hC3.2.2.2.2.2.2.2.2.2.2.2.2.2.2.2.2.2.2.1
  have c19 : w3.frozen? ⟨w.heap.size + 1, 0, none⟩ = false := hC3.2.2.2.2.2.2.2.2.2.2.2.2.2.2.2.2.2.2.2.1
  have c20 : w3.frozen? ⟨w.heap.size + 1, 1, none⟩ = false := hC3.2.2.2.2.2.2.2.2.2.2.2.2.2.2.2.2.2.2.2.2.1
  have c21 : w3.frozen? ⟨w.heap.size + 1, 2, none⟩ = false := hC3.2.2.2.2.2.2.2.2.2.2.2.2.2.2.2.2.2.2.2.2.2.1
  have c22 : w3.frozen? ⟨w.heap.size + 1, 3, none⟩ = false := hC3.2.2.2.2.2.2.2.2.2.2.2.2.2.2.2.2.2.2.2.2.2.2.1
  have c23 : w3.frozen? ⟨w.heap.size + 1, 4, none⟩ = false := hC3.2.2.2.2.2.2.2.2.2.2.2.2.2.2.2.2.2.2.2.2.2.2.2.1
  have c24 : w3.frozen? ⟨w.heap.size + 1, 5, none⟩ = false := hC3.2.2.2.2.2.2.2.2.2.2.2.2.2.2.2.2.2.2.2.2.2.2.2.2.1
  have c25 : w3.frozen? ⟨w.heap.size + 1 + 1 + 1, 0, none⟩ = false := hC3.2.2.2.2.2.2.2.2.2.2.2.2.2.2.2.2.2.2.2.2.2.2.2.2.2.1
  have c26 : w3.frozen? ⟨w.heap.size + 1 + 1 + 1, 1, none⟩ = false := hC3.2.2.2.2.2.2.2.2.2.2.2.2.2.2.2.2.2.2.2.2.2.2.2.2.2.2.1
  have c27 : w3.frozen? ⟨w.heap.size + 1 + 1 + 1, 2, none⟩ = false := hC3.2.2.2.2.2.2.2.2.2.2.2.2.2.2.2.2.2.2.2.2.2.2.2.2.2.2.2.1
  have c28 : w3.frozen? ⟨w.heap.size + 1 + 1 + 1, 3, none⟩ = false := hC3.2.2.2.2.2.2.2.2.2.2.2.2.2.2.2.2.2.2.2.2.2.2.2.2.2.2.2.2.1
  have c29 : w3.frozen? ⟨w.heap.size + 1 + 1 + 1, 4, none⟩ = false := hC3.2.2.2.2.2.2.2.2.2.2.2.2.2.2.2.2.2.2.2.2.2.2.2.2.2.2.2.2.2.1
  have c30 : w3.frozen? ⟨w.heap.size + 1 + 1 + 1, 5, none⟩ = false := hC3.2.2.2.2.2.2.2.2.2.2.2.2.2.2.2.2.2.2.2.2.2.2.2.2.2.2.2.2.2.2.1
  have c31 : Below w.heap.size w w3 := hC3.2.2.2.2.2.2.2.2.2.2.2.2.2.2.2.2.2.2.2.2.2.2.2.2.2.2.2.2.2.2.2
  go_wp2_with fail
  refine (l2least_c _ _ _).mono ?_
  rintro e w4 ⟨rfl, rfl⟩
  go_wp2_with fail
  clear c0 c1 c2 c3 c4 c5 c6 c7 c8 c9 c10 c11 c12 c13 c14 c15 c16 c17 c18 c19 c20 c21 c22 c23 c24 c25 c26 c27 c28 c29 c30 c31
  have hC4 := doC_si hC3 (min (si + n) 1000000000)
  refine (specWheel_ok _ _ _ _ _ _ _ _ _ hr hbk hn).mono ?_
  rintro e w5 ⟨rfl, hb5⟩
  have hC5 := doC_on hC4 hb5
  have c0 : w5.cell? ⟨w.heap.size, 0, none⟩ = some (.int .i64 s) := hC5.1
  have c1 : w5.cell? ⟨w.heap.size, 1, none⟩ = some (.int .i64 j) := hC5.2.1
  have c2 : w5.cell? ⟨w.heap.size, 2, none⟩ = some (.int .i64 m) := hC5.2.2.1
  have c3 : w5.cell? ⟨w.heap.size, 3, none⟩ = some (.int .i64 g) := hC5.2.2.2.1
  have c4 : w5.cell? ⟨w.heap.size, 4, none⟩ = some (.int .i64 o) := hC5.2.2.2.2.1
  have c5 : w5.cell? ⟨w.heap.size + 1, 0, none⟩ = some (.bool true) := hC5.2.2.2.2.2.1
  have c6 : w5.cell? ⟨w.heap.size + 1, 1, none⟩ = some (.int .i64 l) := hC5.2.2.2.2.2.2.1
  have c7 : w5.cell? ⟨w.heap.size + 1, 2, none⟩ = some (.int .i64 h) := hC5.2.2.2.2.2.2.2.1
  have c8 : w5.cell? ⟨w.heap.size + 1, 3, none⟩ = some (.int .i64 (min (si + n) 1000000000)) := hC5.2.2.2.2.2.2.2.2.1
  have c9 : w5.cell? ⟨w.heap.size + 1, 4, none⟩ = some (.int .i64 la) := hC5.2.2.2.2.2.2.2.2.2.1
  have c10 : w5.cell? ⟨w.heap.size + 1, 5, none⟩ = some (.int .i64 od) := hC5.2.2.2.2.2.2.2.2.2.2.1
  have c11 : w5.cell? ⟨w.heap.size + 1 + 1, 0, none⟩ = some (.int .i64 op) := hC5.2.2.2.2.2.2.2.2.2.2.2.1
  have c12 : w5.cell? ⟨w.heap.size + 1 + 1, 1, none⟩ = some (.int .i64 n) := hC5.2.2.2.2.2.2.2.2.2.2.2.2.1
  have c13 : w5.cell? ⟨w.heap.size + 1 + 1 + 1, 0, none⟩ = some (.bool false) := hC5.2.2.2.2.2.2.2.2.2.2.2.2.2.1
  have c14 : w5.cell? ⟨w.heap.size + 1 + 1 + 1, 1, none⟩ = some (.int .i64 0) := hC5.2.2.2.2.2.2.2.2.2.2.2.2.2.2.1
  have c15 : w5.cell? ⟨w.heap.size + 1 + 1 + 1, 2, none⟩ = some (.int .i64 0) := hC5.2.2.2.2.2.2.2.2.2.2.2.2.2.2.2.1
  have c16 : w5.cell? ⟨w.heap.size + 1 + 1 + 1, 3, none⟩ = some (.int .i64 0) := hC5.2.2.2.2.2.2.2.2.2.2.2.2.2.2.2.2.1
  have c17 : w5.cell? ⟨w.heap.size + 1 + 1 + 1, 4, none⟩ = some (.int .i64 0) := hC5.2.2.2.2.2.2.2.2.2.2.2.2.2.2.2.2.2.1
  have c18 : w5.cell? ⟨w.heap.size + 1 + 1 + 1, 5, none⟩ = some (.int .i64 0) := hC5.2.2.2.2.2.2.2.2.2.2.2.2.2.2.2.2.2.2.1
  have c19 : w5.frozen? ⟨w.heap.size + 1, 0, none⟩ = false := hC5.2.2.2.2.2.2.2.2.2.2.2.2.2.2.2.2.2.2.2.1
  have c20 : w5.frozen? ⟨w.heap.size + 1, 1, none⟩ = false := hC5.2.2.2.2.2.2.2.2.2.2.2.2.2.2.2.2.2.2.2.2.1
  have c21 : w5.frozen? ⟨w.heap.size + 1, 2, none⟩ = false := hC5.2.2.2.2.2.2.2.2.2.2.2.2.2.2.2.2.2.2.2.2.2.1
  have c22 : w5.frozen? ⟨w.heap.size + 1, 3, none⟩ = false := hC5.2.2.2.2.2.2.2.2.2.2.2.2.2.2.2.2.2.2.2.2.2.2.1
  have c23 : w5.frozen? ⟨w.heap.size + 1, 4, none⟩ = false := hC5.2.2.2.2.2.2.2.2.2.2.2.2.2.2.2.2.2.2.2.2.2.2.2.1
  have c24 : w5.frozen? ⟨w.heap.size + 1, 5, none⟩ = false := hC5.2.2.2.2.2.2.2.2.2.2.2.2.2.2.2.2.2.2.2.2.2.2.2.2.1
  have c25 : w5.frozen? ⟨w.heap.size + 1 + 1 + 1, 0, none⟩ = false := hC5.2.2.2.2.2.2.2.2.2.2.2.2.2.2.2.2.2.2.2.2.2.2.2.2.2.1
  have c26 : w5.frozen? ⟨w.heap.size + 1 + 1 + 1, 1, none⟩ = false := hC5.2.2.2.2.2.2.2.2.2.2.2.2.2.2.2.2.2.2.2.2.2.2.2.2.2.2.1
  have c27 : w5.frozen? ⟨w.heap.size + 1 + 1 + 1, 2, none⟩ = false := hC5.2.2.2.2.2.2.2.2.2.2.2.2.2.2.2.2.2.2.2.2.2.2.2.2.2.2.2.1
  have c28 : w5.frozen? ⟨w.heap.size + 1 + 1 + 1, 3, none⟩ = false := hC5.2.2.2.2.2.2.2.2.2.2.2.2.2.2.2.2.2.2.2.2.2.2.2.2.2.2.2.2.1
  have c29 : w5.frozen? ⟨w.heap.size + 1 + 1 + 1, 4, none⟩ = false := hC5.2.2.2.2.2.2.2.2.2.2.2.2.2.2.2.2.2.2.2.2.2.2.2.2.2.2.2.2.2.1
  have c30 : w5.frozen? ⟨w.heap.size + 1 + 1 + 1, 5, none⟩ = false := hC5.2.2.2.2.2.2.2.2.2.2.2.2.2.2.2.2.2.2.2.2.2.2.2.2.2.2.2.2.2.2.1
  have c31 : Below w.heap.size w w5 := hC5.2.2.2.2.2.2.2.2.2.2.2.2.2.2.2.2.2.2.2.2.2.2.2.2.2.2.2.2.2.2.2
  clear hC1 hC2 hC3 hC4 hC5
  go_wp2_with fail
  have hq1 : w.heap.size ≤ w.heap.size + 1 := by omega
  have hq3 : w.heap.size ≤ w.heap.size + 1 + 1 + 1 := by omega
  exact bodyPost_ret (v := .agg #[.bool true, .int .i64 (min (l + lst s j n) 100000000), .int .i64 (min (h + mst s j n) 100000000), .int .i64 (min (si + n) 1000000000), .int .i64 la, .int .i64 od]) (by simp [results, Tryd.results31, go_sem, *]) rfl ⟨rfl, (nbSetX (nbSetX (nbSetX (nbSetX (nbSetX (nbSetX (nbSetX (nbSetX c31 hq1) hq1) hq3) hq3) hq3) hq3) hq3) hq3)⟩


set_option maxHeartbeats 4000000 in
theorem specDo_standS (ad : Option Addr) (len cap : Nat) (f a : Nat → Int) (s j m g o : Int) (kn : Bool) (l h si la od op n : Int) (w : World) (hl : len ≤ 1048576) (hrow : SRow w ad len f a) (hr : rOk s j m g o = true) (hst : stB (marksB f a len) len kn l h si la od = true) (hev : evB op n = true) (hop : (op == 3) = true) :
    Calls Tryd.prog 31 #[.agg #[.int .i64 s, .int .i64 j, .int .i64 m, .int .i64 g, .int .i64 o], .slice ad len cap, .agg #[.bool kn, .int .i64 l, .int .i64 h, .int .i64 si, .int .i64 la, .int .i64 od], .agg #[.int .i64 op, .int .i64 n]] w fun e w' => e = .returned (.agg #[.bool kn, .int .i64 l, .int .i64 h, .int .i64 si, .int .i64 la, .int .i64 od]) ∧ Below w.heap.size w w' := by
  have h1 : (op == 1) = false := by rw [eq_of_beq hop]; rfl
  have h2 : (op == 2) = false := by rw [eq_of_beq hop]; rfl
  have h4 : (op == 4) = false := by rw [eq_of_beq hop]; rfl
  go_enter Tryd.func31, Tryd.ntmps31
  go_wp2_with fail
  refine (specRulesOk_c _ _ _ _ _ _).mono ?_
  rintro e w1 ⟨rfl, hb1⟩
  have hC1 : doC w s j m g o kn l h si la od op n w1 := ⟨cellOn hb1 (by go_simp), cellOn hb1 (by go_simp), cellOn hb1 (by go_simp), cellOn hb1 (by go_simp), cellOn hb1 (by go_simp), cellOn hb1 (by go_simp), cellOn hb1 (by go_simp), cellOn hb1 (by go_simp), cellOn hb1 (by go_simp), cellOn hb1 (by go_simp), cellOn hb1 (by go_simp), cellOn hb1 (by go_simp), cellOn hb1 (by go_simp), cellOn hb1 (by go_simp), cellOn hb1 (by go_simp), cellOn hb1 (by go_simp), cellOn hb1 (by go_simp), cellOn hb1 (by go_simp), cellOn hb1 (by go_simp), frozenOn hb1 (v := .bool kn) (by go_simp) (by go_simp), frozenOn hb1 (v := .int .i64 l) (by go_simp) (by go_simp), frozenOn hb1 (v := .int .i64 h) (by go_simp) (by go_simp), frozenOn hb1 (v := .int .i64 si) (by go_simp) (by go_simp), frozenOn hb1 (v := .int .i64 la) (by go_simp) (by go_simp), frozenOn hb1 (v := .int .i64 od) (by go_simp) (by go_simp), frozenOn hb1 (v := .bool false) (by go_simp) (by go_simp), frozenOn hb1 (v := .int .i64 0) (by go_simp) (by go_simp), frozenOn hb1 (v := .int .i64 0) (by go_simp) (by go_simp), frozenOn hb1 (v := .int .i64 0) (by go_simp) (by go_simp), frozenOn hb1 (v := .int .i64 0) (by go_simp) (by go_simp), frozenOn hb1 (v := .int .i64 0) (by go_simp) (by go_simp), nbTrans (nbAlloc (nbAlloc (nbAlloc (nbAlloc (Below.refl _ _) _) _) _) _) hb1⟩
  have c0 : w1.cell? ⟨w.heap.size, 0, none⟩ = some (.int .i64 s) := hC1.1
  have c1 : w1.cell? ⟨w.heap.size, 1, none⟩ = some (.int .i64 j) := hC1.2.1
  have c2 : w1.cell? ⟨w.heap.size, 2, none⟩ = some (.int .i64 m) := hC1.2.2.1
  have c3 : w1.cell? ⟨w.heap.size, 3, none⟩ = some (.int .i64 g) := hC1.2.2.2.1
  have c4 : w1.cell? ⟨w.heap.size, 4, none⟩ = some (.int .i64 o) := hC1.2.2.2.2.1
  have c5 : w1.cell? ⟨w.heap.size + 1, 0, none⟩ = some (.bool kn) := hC1.2.2.2.2.2.1
  have c6 : w1.cell? ⟨w.heap.size + 1, 1, none⟩ = some (.int .i64 l) := hC1.2.2.2.2.2.2.1
  have c7 : w1.cell? ⟨w.heap.size + 1, 2, none⟩ = some (.int .i64 h) := hC1.2.2.2.2.2.2.2.1
  have c8 : w1.cell? ⟨w.heap.size + 1, 3, none⟩ = some (.int .i64 si) := hC1.2.2.2.2.2.2.2.2.1
  have c9 : w1.cell? ⟨w.heap.size + 1, 4, none⟩ = some (.int .i64 la) := hC1.2.2.2.2.2.2.2.2.2.1
  have c10 : w1.cell? ⟨w.heap.size + 1, 5, none⟩ = some (.int .i64 od) := hC1.2.2.2.2.2.2.2.2.2.2.1
  have c11 : w1.cell? ⟨w.heap.size + 1 + 1, 0, none⟩ = some (.int .i64 op) := hC1.2.2.2.2.2.2.2.2.2.2.2.1
  have c12 : w1.cell? ⟨w.heap.size + 1 + 1, 1, none⟩ = some (.int .i64 n) := hC1.2.2.2.2.2.2.2.2.2.2.2.2.1
  have c13 : w1.cell? ⟨w.heap.size + 1 + 1 + 1, 0, none⟩ = some (.bool false) := hC1.2.2.2.2.2.2.2.2.2.2.2.2.2.1
  have c14 : w1.cell? ⟨w.heap.size + 1 + 1 + 1, 1, none⟩ = some (.int .i64 0) := hC1.2.2.2.2.2.2.2.2.2.2.2.2.2.2.1
  have c15 : w1.cell? ⟨w.heap.size + 1 + 1 + 1, 2, none⟩ = some (.int .i64 0) := hC1.2.2.2.2.2.2.2.2.2.2.2.2.2.2.2.1
  have c16 : w1.cell? ⟨w.heap.size + 1 + 1 + 1, 3, none⟩ = some (.int .i64 0) := hC1.2.2.2.2.2.2.2.2.2.2.2.2.2.2.2.2.1
  have c17 : w1.cell? ⟨w.heap.size + 1 + 1 + 1, 4, none⟩ = some (.int .i64 0) := hC1.2.2.2.2.2.2.2.2.2.2.2.2.2.2.2.2.2.1
  have c18 : w1.cell? ⟨w.heap.size + 1 + 1 + 1, 5, none⟩ = some (.int .i64 0) := hC1.2.2.2.2.2.2.2.2.2.2.2.2.2.2.2.2.2.2.1
  have c19 : w1.frozen? ⟨w.heap.size + 1, 0, none⟩ = false := hC1.2.2.2.2.2.2.2.2.2.2.2.2.2.2.2.2.2.2.2.1
  have c20 : w1.frozen? ⟨w.heap.size + 1, 1, none⟩ = false := hC1.2.2.2.2.2.2.2.2.2.2.2.2.2.2.2.2.2.2.2.2.1
  have c21 : w1.frozen? ⟨w.heap.size + 1, 2, none⟩ = false := hC1.2.2.2.2.2.2.2.2.2.2.2.2.2.2.2.2.2.2.2.2.2.1
  have c22 : w1.frozen? ⟨w.heap.size + 1, 3, none⟩ = false := hC1.2.2.2.2.2.2.2.2.2.2.2.2.2.2.2.2.2.2.2.2.2.2.1
  have c23 : w1.frozen? ⟨w.heap.size + 1, 4, none⟩ = false := hC1.2.2.2.2.2.2.2.2.2.2.2.2.2.2.2.2.2.2.2.2.2.2.2.1
  have c24 : w1.frozen? ⟨w.heap.size + 1, 5, none⟩ = false := hC1.2.2.2.2.2.2.2.2.2.2.2.2.2.2.2.2.2.2.2.2.2.2.2.2.1
  have c25 : w1.frozen? ⟨w.heap.size + 1 + 1 + 1, 0, none⟩ = false := hC1.2.2.2.2.2.2.2.2.2.2.2.2.2.2.2.2.2.2.2.2.2.2.2.2.2.1
  have c26 : w1.frozen? ⟨w.heap.size + 1 + 1 + 1, 1, none⟩ = false := hC1.2.2.2.2.2.2.2.2.2.2.2.2.2.2.2.2.2.2.2.2.2.2.2.2.2.2.1
  have c27 : w1.frozen? ⟨w.heap.size + 1 + 1 + 1, 2, none⟩ = false := hC1.2.2.2.2.2.2.2.2.2.2.2.2.2.2.2.2.2.2.2.2.2.2.2.2.2.2.2.1
  have c28 : w1.frozen? ⟨w.heap.size + 1 + 1 + 1, 3, none⟩ = false := hC1.2.2.2.2.2.2.2.2.2.2.2.2.2.2.2.2.2.2.2.2.2.2.2.2.2.2.2.2.1
  have c29 : w1.frozen? ⟨w.heap.size + 1 + 1 + 1, 4, none⟩ = false := hC1.2.2.2.2.2.2.2.2.2.2.2.2.2.2.2.2.2.2.2.2.2.2.2.2.2.2.2.2.2.1
  have c30 : w1.frozen? ⟨w.heap.size + 1 + 1 + 1, 5, none⟩ = false := hC1.2.2.2.2.2.2.2.2.2.2.2.2.2.2.2.2.2.2.2.2.2.2.2.2.2.2.2.2.2.2.1
  have c31 : Below w.heap.size w w1 := hC1.2.2.2.2.2.2.2.2.2.2.2.2.2.2.2.2.2.2.2.2.2.2.2.2.2.2.2.2.2.2.2
  go_wp2_with fail
  clear c0 c1 c2 c3 c4 c5 c6 c7 c8 c9 c10 c11 c12 c13 c14 c15 c16 c17 c18 c19 c20 c21 c22 c23 c24 c25 c26 c27 c28 c29 c30 c31
  have hB1 : Below w.heap.size w w1 := hC1.2.2.2.2.2.2.2.2.2.2.2.2.2.2.2.2.2.2.2.2.2.2.2.2.2.2.2.2.2.2.2
  refine (specStateOk_c _ _ _ (marksB f a len) _ _ _ _ _ _ _ hl (by intro w' hw'; exact specMarksOk_s ad len cap f a w' hl ((hrow.on hB1).on hw'))).mono ?_
  rintro e w2 ⟨rfl, hb2⟩
  have hC2 := doC_on hC1 hb2
  have c0 : w2.cell? ⟨w.heap.size, 0, none⟩ = some (.int .i64 s) := hC2.1
  have c1 : w2.cell? ⟨w.heap.size, 1, none⟩ = some (.int .i64 j) := hC2.2.1
  have c2 : w2.cell? ⟨w.heap.size, 2, none⟩ = some (.int .i64 m) := hC2.2.2.1
  have c3 : w2.cell? ⟨w.heap.size, 3, none⟩ = some (.int .i64 g) := hC2.2.2.2.1
  have c4 : w2.cell? ⟨w.heap.size, 4, none⟩ = some (.int .i64 o) := hC2.2.2.2.2.1
  have c5 : w2.cell? ⟨w.heap.size + 1, 0, none⟩ = some (.bool kn) := hC2.2.2.2.2.2.1
  have c6 : w2.cell? ⟨w.heap.size + 1, 1, none⟩ = some (.int .i64 l) := hC2.2.2.2.2.2.2.1
  have c7 : w2.cell? ⟨w.heap.size + 1, 2, none⟩ = some (.int .i64 h) := hC2.2.2.2.2.2.2.2.1
  have c8 : w2.cell? ⟨w.heap.size + 1, 3, none⟩ = some (.int .i64 si) := hC2.2.2.2.2.2.2.2.2.1
  have c9 : w2.cell? ⟨w.heap.size + 1, 4, none⟩ = some (.int .i64 la) := hC2.2.2.2.2.2.2.2.2.2.1
  have c10 : w2.cell? ⟨w.heap.size + 1, 5, none⟩ = some (.int .i64 od) := hC2.2.2.2.2.2.2.2.2.2.2.1
  have c11 : w2.cell? ⟨w.heap.size + 1 + 1, 0, none⟩ = some (.int .i64 op) := hC2.2.2.2.2.2.2.2.2.2.2.2.1
  have c12 : w2.cell? ⟨w.heap.size + 1 + 1, 1, none⟩ = some (.int .i64 n) := hC2.2.2.2.2.2.2.2.2.2.2.2.2.1
  have c13 : w2.cell? ⟨w.heap.size + 1 + 1 + 1, 0, none⟩ = some (.bool false) := hC2.2.2.2.2.2.2.2.2.2.2.2.2.2.1
  have c14 : w2.cell? ⟨w.heap.size + 1 + 1 + 1, 1, none⟩ = some (.int .i64 0) := hC2.2.2.2.2.2.2.2.2.2.2.2.2.2.2.1
  have c15 : w2.cell? ⟨w.heap.size + 1 + 1 + 1, 2, none⟩ = some (.int .i64 0) := hC2.2.2.2.2.2.2.2.2.2.2.2.2.2.2.2.1
  have c16 : w2.cell? ⟨w.heap.size + 1 + 1 + 1, 3, none⟩ = some (.int .i64 0) := hC2.2.2.2.2.2.2.2.2.2.2.2.2.2.2.2.2.1
  have c17 : w2.cell? ⟨w.heap.size + 1 + 1 + 1, 4, none⟩ = some (.int .i64 0) := hC2.2.2.2.2.2.2.2.2.2.2.2.2.2.2.2.2.2.1
  have c18 : w2.cell? ⟨w.heap.size + 1 + 1 + 1, 5, none⟩ = some (.int .i64 0) := hC2.2.2.2.2.2.2.2.2.2.2.2.2.2.2.2.2.2.2.1
  have c19 : w2.frozen? ⟨w.heap.size + 1, 0, none⟩ = false := hC2.2.2.2.2.2.2.2.2.2.2.2.2.2.2.2.2.2.2.2.1
  have c20 : w2.frozen? ⟨w.heap.size + 1, 1, none⟩ = false := hC2.2.2.2.2.2.2.2.2.2.2.2.2.2.2.2.2.2.2.2.2.1
  have c21 : w2.frozen? ⟨w.heap.size + 1, 2, none⟩ = false := hC2.2.2.2.2.2.2.2.2.2.2.2.2.2.2.2.2.2.2.2.2.2.1
  have c22 : w2.frozen? ⟨w.heap.size + 1, 3, none⟩ = false := hC2.2.2.2.2.2.2.2.2.2.2.2.2.2.2.2.2.2.2.2.2.2.2.1
  have c23 : w2.frozen? ⟨w.heap.size + 1, 4, none⟩ = false := hC2.2.2.2.2.2.2.2.2.2.2.2.2.2.2.2.2.2.2.2.2.2.2.2.1
  have c24 : w2.frozen? ⟨w.heap.size + 1, 5, none⟩ = false := hC2.2.2.2.2.2.2.2.2.2.2.2.2.2.2.2.2.2.2.2.2.2.2.2.2.1
  have c25 : w2.frozen? ⟨w.heap.size + 1 + 1 + 1, 0, none⟩ = false := hC2.2.2.2.2.2.2.2.2.2.2.2.2.2.2.2.2.2.2.2.2.2.2.2.2.2.1
  have c26 : w2.frozen? ⟨w.heap.size + 1 + 1 + 1, 1, none⟩ = false := hC2.2.2.2.2.2.2.2.2.2.2.2.2.2.2.2.2.2.2.2.2.2.2.2.2.2.2.1
  have c27 : w2.frozen? ⟨w.heap.size + 1 + 1 + 1, 2, none⟩ = false := hC2.2.2.2.2.2.2.2.2.2.2.2.2.2.2.2.2.2.2.2.2.2.2.2.2.2.2.2.1
  have c28 : w2.frozen? ⟨w.heap.size + 1 + 1 + 1, 3, none⟩ = false := hC2.2.2.2.2.2.2.2.2.2.2.2.2.2.2.2.2.2.2.2.2.2.2.2.2.2.2.2.2.1
  have c29 : w2.frozen? ⟨w.heap.size + 1 + 1 + 1, 4, none⟩ = false := hC2.2.2.2.2.2.2.2.2.2.2.2.2.2.2.2.2.2.2.2.2.2.2.2.2.2.2.2.2.2.1
  have c30 : w2.frozen? ⟨w.heap.size + 1 + 1 + 1, 5, none⟩ = false := hC2.2.2.2.2.2.2.2.2.2.2.2.2.2.2.2.2.2.2.2.2.2.2.2.2.2.2.2.2.2.2.1
  have c31 : Below w.heap.size w w2 := hC2.2.2.2.2.2.2.2.2.2.2.2.2.2.2.2.2.2.2.2.2.2.2.2.2.2.2.2.2.2.2.2
  go_wp2_with fail
  clear c0 c1 c2 c3 c4 c5 c6 c7 c8 c9 c10 c11 c12 c13 c14 c15 c16 c17 c18 c19 c20 c21 c22 c23 c24 c25 c26 c27 c28 c29 c30 c31
  refine (specEventOk_c _ _ _).mono ?_
  rintro e w3 ⟨rfl, hb3⟩
  have hC3 := doC_on hC2 hb3
  have c0 : w3.cell? ⟨w.heap.size, 0, none⟩ = some (.int .i64 s) := hC3.1
  have c1 : w3.cell? ⟨w.heap.size, 1, none⟩ = some (.int .i64 j) := hC3.2.1
  have c2 : w3.cell? ⟨w.heap.size, 2, none⟩ = some (.int .i64 m) := hC3.2.2.1
  have c3 : w3.cell? ⟨w.heap.size, 3, none⟩ = some (.int .i64 g) := hC3.2.2.2.1
  have c4 : w3.cell? ⟨w.heap.size, 4, none⟩ = some (.int .i64 o) := hC3.2.2.2.2.1
  have c5 : w3.cell? ⟨w.heap.size + 1, 0, none⟩ = some (.bool kn) := hC3.2.2.2.2.2.1
  have c6 : w3.cell? ⟨w.heap.size + 1, 1, none⟩ = some (.int .i64 l) := hC3.2.2.2.2.2.2.1
  have c7 : w3.cell? ⟨w.heap.size + 1, 2, none⟩ = some (.int .i64 h) := hC3.2.2.2.2.2.2.2.1
  have c8 : w3.cell? ⟨w.heap.size + 1, 3, none⟩ = some (.int .i64 si) := hC3.2.2.2.2.2.2.2.2.1
  have c9 : w3.cell? ⟨w.heap.size + 1, 4, none⟩ = some (.int .i64 la) := hC3.2.2.2.2.2.2.2.2.2.1
  have c10 : w3.cell? ⟨w.heap.size + 1, 5, none⟩ = some (.int .i64 od) := hC3.2.2.2.2.2.2.2.2.2.2.1
  have c11 : w3.cell? ⟨w.heap.size + 1 + 1, 0, none⟩ = some (.int .i64 op) := hC3.2.2.2.2.2.2.2.2.2.2.2.1
  have c12 : w3.cell? ⟨w.heap.size + 1 + 1, 1, none⟩ = some (.int .i64 n) := hC3.2.2.2.2.2.2.2.2.2.2.2.2.1
  have c13 : w3.cell? ⟨w.heap.size + 1 + 1 + 1, 0, none⟩ = some (.bool false) := hC3.2.2.2.2.2.2.2.2.2.2.2.2.2.1
  have c14 : w3.cell? ⟨w.heap.size + 1 + 1 + 1, 1, none⟩ = some (.int .i64 0) := hC3.2.2.2.2.2.2.2.2.2.2.2.2.2.2.1
  have c15 : w3.cell? ⟨w.heap.size + 1 + 1 + 1, 2, none⟩ = some (.int .i64 0) := hC3.2.2.2.2.2.2.2.2.2.2.2.2.2.2.2.1
  have c16 : w3.cell? ⟨w.heap.size + 1 + 1 + 1, 3, none⟩ = some (.int .i64 0) := hC3.2.2.2.2.2.2.2.2.2.2.2.2.2.2.2.2.1
  have c17 : w3.cell? ⟨w.heap.size + 1 + 1 + 1, 4, none⟩ = some (.int .i64 0) := hC3.2.2.2.2.2.2.2.2.2.2.2.2.2.2.2.2.2.1
  have c18 : w3.cell? ⟨w.heap.size + 1 + 1 + 1, 5, none⟩ = some (.int .i64 0) := hC3.2.2.2.2.2.2.2.2.2.2.2.2.2.2.2.2.2.2.1
  have c19 : w3.frozen? ⟨w.heap.size + 1, 0, none⟩ = false := hC3.2.2.2.2.2.2.2.2.2.2.2.2.2.2.2.2.2.2.2.1
  have c20 : w3.frozen? ⟨w.heap.size + 1, 1, none⟩ = false := hC3.2.2.2.2.2.2.2.2.2.2.2.2.2.2.2.2.2.2.2.2.1
  have c21 : w3.frozen? ⟨w.heap.size + 1, 2, none⟩ = false := hC3.2.2.2.2.2.2.2.2.2.2.2.2.2.2.2.2.2.2.2.2.2.1
  have c22 : w3.frozen? ⟨w.heap.size + 1, 3, none⟩ = false := hC3.2.2.2.2.2.2.2.2.2.2.2.2.2.2.2.2.2.2.2.2.2.2.1
  have c23 : w3.frozen? ⟨w.heap.size + 1, 4, none⟩ = false := hC3.2.2.2.2.2.2.2.2.2.2.2.2.2.2.2.2.2.2.2.2.2.2.2.1
  have c24 : w3.frozen? ⟨w.heap.size + 1, 5, none⟩ = false := hC3.2.2.2.2.2.2.2.2.2.2.2.2.2.2.2.2.2.2.2.2.2.2.2.2.1
  have c25 : w3.frozen? ⟨w.heap.size + 1 + 1 + 1, 0, none⟩ = false := hC3.2.2.2.2.2.2.2.2.2.2.2.2.2.2.2.2.2.2.2.2.2.2.2.2.2.1
  have c26 : w3.frozen? ⟨w.heap.size + 1 + 1 + 1, 1, none⟩ = false := hC3.2.2.2.2.2.2.2.2.2.2.2.2.2.2.2.2.2.2.2.2.2.2.2.2.2.2.1
  have c27 : w3.frozen? ⟨w.heap.size + 1 + 1 + 1, 2, none⟩ = false := hC3.2.2.2.2.2.2.2.2.2.2.2.2.2.2.2.2.2.2.2.2.2.2.2.2.2.2.2.1
  have c28 : w3.frozen? ⟨w.heap.size + 1 + 1 + 1, 3, none⟩ = false := hC3.2.2.2.2.2.2.2.2.2.2.2.2.2.2.2.2.2.2.2.2.2.2.2.2.2.2.2.2.1
  have c29 : w3.frozen? ⟨w.heap.size + 1 + 1 + 1, 4, none⟩ = false := hC3.2.2.2.2.2.2.2.2.2.2.2.2.2.2.2.2.2.2.2.2.2.2.2.2.2.2.2.2.2.1
  have c30 : w3.frozen? ⟨w.heap.size + 1 + 1 + 1, 5, none⟩ = false := hC3.2.2.2.2.2.2.2.2.2.2.2.2.2.2.2.2.2.2.2.2.2.2.2.2.2.2.2.2.2.2.1
  have c31 : Below w.heap.size w w3 := hC3.2.2.2.2.2.2.2.2.2.2.2.2.2.2.2.2.2.2.2.2.2.2.2.2.2.2.2.2.2.2.2
  go_wp2_with fail
  have hq1 : w.heap.size ≤ w.heap.size + 1 := by omega
  have hq3 : w.heap.size ≤ w.heap.size + 1 + 1 + 1 := by omega
  exact bodyPost_ret (v := .agg #[.bool kn, .int .i64 l, .int .i64 h, .int .i64 si, .int .i64 la, .int .i64 od]) (by simp [results, Tryd.results31, go_sem, *]) rfl ⟨rfl, (nbSetX (nbSetX (nbSetX (nbSetX (nbSetX (nbSetX c31 hq3) hq3) hq3) hq3) hq3) hq3)⟩


set_option maxHeartbeats 4000000 in
theorem specDo_loseS (ad : Option Addr) (len cap : Nat) (f a : Nat → Int) (s j m g o : Int) (kn : Bool) (l h si la od op n : Int) (w : World) (hl : len ≤ 1048576) (hrow : SRow w ad len f a) (hr : rOk s j m g o = true) (hst : stB (marksB f a len) len kn l h si la od = true) (hev : evB op n = true) (hop : (op == 4) = true) :
    Calls Tryd.prog 31 #[.agg #[.int .i64 s, .int .i64 j, .int .i64 m, .int .i64 g, .int .i64 o], .slice ad len cap, .agg #[.bool kn, .int .i64 l, .int .i64 h, .int .i64 si, .int .i64 la, .int .i64 od], .agg #[.int .i64 op, .int .i64 n]] w fun e w' => e = .returned (.agg #[.bool false, .int .i64 0, .int .i64 0, .int .i64 0, .int .i64 (-1), .int .i64 od]) ∧ Below w.heap.size w w' := by
  have h1 : (op == 1) = false := by rw [eq_of_beq hop]; rfl
  have h2 : (op == 2) = false := by rw [eq_of_beq hop]; rfl
  go_enter Tryd.func31, Tryd.ntmps31
  go_wp2_with fail
  refine (specRulesOk_c _ _ _ _ _ _).mono ?_
  rintro e w1 ⟨rfl, hb1⟩
  have hC1 : doC w s j m g o kn l h si la od op n w1 := ⟨cellOn hb1 (by go_simp), cellOn hb1 (by go_simp), cellOn hb1 (by go_simp), cellOn hb1 (by go_simp), cellOn hb1 (by go_simp), cellOn hb1 (by go_simp), cellOn hb1 (by go_simp), cellOn hb1 (by go_simp), cellOn hb1 (by go_simp), cellOn hb1 (by go_simp), cellOn hb1 (by go_simp), cellOn hb1 (by go_simp), cellOn hb1 (by go_simp), cellOn hb1 (by go_simp), cellOn hb1 (by go_simp), cellOn hb1 (by go_simp), cellOn hb1 (by go_simp), cellOn hb1 (by go_simp), cellOn hb1 (by go_simp), frozenOn hb1 (v := .bool kn) (by go_simp) (by go_simp), frozenOn hb1 (v := .int .i64 l) (by go_simp) (by go_simp), frozenOn hb1 (v := .int .i64 h) (by go_simp) (by go_simp), frozenOn hb1 (v := .int .i64 si) (by go_simp) (by go_simp), frozenOn hb1 (v := .int .i64 la) (by go_simp) (by go_simp), frozenOn hb1 (v := .int .i64 od) (by go_simp) (by go_simp), frozenOn hb1 (v := .bool false) (by go_simp) (by go_simp), frozenOn hb1 (v := .int .i64 0) (by go_simp) (by go_simp), frozenOn hb1 (v := .int .i64 0) (by go_simp) (by go_simp), frozenOn hb1 (v := .int .i64 0) (by go_simp) (by go_simp), frozenOn hb1 (v := .int .i64 0) (by go_simp) (by go_simp), frozenOn hb1 (v := .int .i64 0) (by go_simp) (by go_simp), nbTrans (nbAlloc (nbAlloc (nbAlloc (nbAlloc (Below.refl _ _) _) _) _) _) hb1⟩
  have c0 : w1.cell? ⟨w.heap.size, 0, none⟩ = some (.int .i64 s) := hC1.1
  have c1 : w1.cell? ⟨w.heap.size, 1, none⟩ = some (.int .i64 j) := hC1.2.1
  have c2 : w1.cell? ⟨w.heap.size, 2, none⟩ = some (.int .i64 m) := hC1.2.2.1
  have c3 : w1.cell? ⟨w.heap.size, 3, none⟩ = some (.int .i64 g) := hC1.2.2.2.1
  have c4 : w1.cell? ⟨w.heap.size, 4, none⟩ = some (.int .i64 o) := hC1.2.2.2.2.1
  have c5 : w1.cell? ⟨w.heap.size + 1, 0, none⟩ = some (.bool kn) := hC1.2.2.2.2.2.1
  have c6 : w1.cell? ⟨w.heap.size + 1, 1, none⟩ = some (.int .i64 l) := hC1.2.2.2.2.2.2.1
  have c7 : w1.cell? ⟨w.heap.size + 1, 2, none⟩ = some (.int .i64 h) := hC1.2.2.2.2.2.2.2.1
  have c8 : w1.cell? ⟨w.heap.size + 1, 3, none⟩ = some (.int .i64 si) := hC1.2.2.2.2.2.2.2.2.1
  have c9 : w1.cell? ⟨w.heap.size + 1, 4, none⟩ = some (.int .i64 la) := hC1.2.2.2.2.2.2.2.2.2.1
  have c10 : w1.cell? ⟨w.heap.size + 1, 5, none⟩ = some (.int .i64 od) := hC1.2.2.2.2.2.2.2.2.2.2.1
  have c11 : w1.cell? ⟨w.heap.size + 1 + 1, 0, none⟩ = some (.int .i64 op) := hC1.2.2.2.2.2.2.2.2.2.2.2.1
  have c12 : w1.cell? ⟨w.heap.size + 1 + 1, 1, none⟩ = some (.int .i64 n) := hC1.2.2.2.2.2.2.2.2.2.2.2.2.1
  have c13 : w1.cell? ⟨w.heap.size + 1 + 1 + 1, 0, none⟩ = some (.bool false) := hC1.2.2.2.2.2.2.2.2.2.2.2.2.2.1
  have c14 : w1.cell? ⟨w.heap.size + 1 + 1 + 1, 1, none⟩ = some (.int .i64 0) := hC1.2.2.2.2.2.2.2.2.2.2.2.2.2.2.1
  have c15 : w1.cell? ⟨w.heap.size + 1 + 1 + 1, 2, none⟩ = some (.int .i64 0) := hC1.2.2.2.2.2.2.2.2.2.2.2.2.2.2.2.1
  have c16 : w1.cell? ⟨w.heap.size + 1 + 1 + 1, 3, none⟩ = some (.int .i64 0) := hC1.2.2.2.2.2.2.2.2.2.2.2.2.2.2.2.2.1
  have c17 : w1.cell? ⟨w.heap.size + 1 + 1 + 1, 4, none⟩ = some (.int .i64 0) := hC1.2.2.2.2.2.2.2.2.2.2.2.2.2.2.2.2.2.1
  have c18 : w1.cell? ⟨w.heap.size + 1 + 1 + 1, 5, none⟩ = some (.int .i64 0) := hC1.2.2.2.2.2.2.2.2.2.2.2.2.2.2.2.2.2.2.1
  have c19 : w1.frozen? ⟨w.heap.size + 1, 0, none⟩ = false := hC1.2.2.2.2.2.2.2.2.2.2.2.2.2.2.2.2.2.2.2.1
  have c20 : w1.frozen? ⟨w.heap.size + 1, 1, none⟩ = false := hC1.2.2.2.2.2.2.2.2.2.2.2.2.2.2.2.2.2.2.2.2.1
  have c21 : w1.frozen? ⟨w.heap.size + 1, 2, none⟩ = false := hC1.2.2.2.2.2.2.2.2.2.2.2.2.2.2.2.2.2.2.2.2.2.1
  have c22 : w1.frozen? ⟨w.heap.size + 1, 3, none⟩ = false := hC1.2.2.2.2.2.2.2.2.2.2.2.2.2.2.2.2.2.2.2.2.2.2.1
  have c23 : w1.frozen? ⟨w.heap.size + 1, 4, none⟩ = false := hC1.2.2.2.2.2.2.2.2.2.2.2.2.2.2.2.2.2.2.2.2.2.2.2.1
  have c24 : w1.frozen? ⟨w.heap.size + 1, 5, none⟩ = false := hC1.2.2.2.2.2.2.2.2.2.2.2.2.2.2.2.2.2.2.2.2.2.2.2.2.1
  have c25 : w1.frozen? ⟨w.heap.size + 1 + 1 + 1, 0, none⟩ = false := hC1.2.2.2.2.2.2.2.2.2.2.2.2.2.2.2.2.2.2.2.2.2.2.2.2.2.1
  have c26 : w1.frozen? ⟨w.heap.size + 1 + 1 + 1, 1, none⟩ = false := hC1.2.2.2.2.2.2.2.2.2.2.2.2.2.2.2.2.2.2.2.2.2.2.2.2.2.2.1
  have c27 : w1.frozen? ⟨w.heap.size + 1 + 1 + 1, 2, none⟩ = false := hC1.2.2.2.2.2.2.2.2.2.2.2.2.2.2.2.2.2.2.2.2.2.2.2.2.2.2.2.1
  have c28 : w1.frozen? ⟨w.heap.size + 1 + 1 + 1, 3, none⟩ = false := hC1.2.2.2.2.2.2.2.2.2.2.2.2.2.2.2.2.2.2.2.2.2.2.2.2.2.2.2.2.1
  have c29 : w1.frozen? ⟨w.heap.size + 1 + 1 + 1, 4, none⟩ = false := hC1.2.2.2.2.2.2.2.2.2.2.2.2.2.2.2.2.2.2.2.2.2.2.2.2.2.2.2.2.2.1
  have c30 : w1.frozen? ⟨w.heap.size + 1 + 1 + 1, 5, none⟩ = false := hC1.2.2.2.2.2.2.2.2.2.2.2.2.2.2.2.2.2.2.2.2.2.2.2.2.2.2.2.2.2.2.1
  have c31 : Below w.heap.size w w1 := hC1.2.2.2.2.2.2.2.2.2.2.2.2.2.2.2.2.2.2.2.2.2.2.2.2.2.2.2.2.2.2.2
  go_wp2_with fail
  clear c0 c1 c2 c3 c4 c5 c6 c7 c8 c9 c10 c11 c12 c13 c14 c15 c16 c17 c18 c19 c20 c21 c22 c23 c24 c25 c26 c27 c28 c29 c30 c31
  have hB1 : Below w.heap.size w w1 := hC1.2.2.2.2.2.2.2.2.2.2.2.2.2.2.2.2.2.2.2.2.2.2.2.2.2.2.2.2.2.2.2
  refine (specStateOk_c _ _ _ (marksB f a len) _ _ _ _ _ _ _ hl (by intro w' hw'; exact specMarksOk_s ad len cap f a w' hl ((hrow.on hB1).on hw'))).mono ?_
  rintro e w2 ⟨rfl, hb2⟩
  have hC2 := doC_on hC1 hb2
  have c0 : w2.cell? ⟨w.heap.size, 0, none⟩ = some (.int .i64 s) := hC2.1
  have c1 : w2.cell? ⟨w.heap.size, 1, none⟩ = some (.int .i64 j) := hC2.2.1
  have c2 : w2.cell? ⟨w.heap.size, 2, none⟩ = some (.int .i64 m) := hC2.2.2.1
  have c3 : w2.cell? ⟨w.heap.size, 3, none⟩ = some (.int .i64 g) := hC2.2.2.2.1
  have c4 : w2.cell? ⟨w.heap.size, 4, none⟩ = some (.int .i64 o) := hC2.2.2.2.2.1
  have c5 : w2.cell? ⟨w.heap.size + 1, 0, none⟩ = some (.bool kn) := hC2.2.2.2.2.2.1
  have c6 : w2.cell? ⟨w.heap.size + 1, 1, none⟩ = some (.int .i64 l) := hC2.2.2.2.2.2.2.1
  have c7 : w2.cell? ⟨w.heap.size + 1, 2, none⟩ = some (.int .i64 h) := hC2.2.2.2.2.2.2.2.1
  have c8 : w2.cell? ⟨w.heap.size + 1, 3, none⟩ = some (.int .i64 si) := hC2.2.2.2.2.2.2.2.2.1
  have c9 : w2.cell? ⟨w.heap.size + 1, 4, none⟩ = some (.int .i64 la) := hC2.2.2.2.2.2.2.2.2.2.1
  have c10 : w2.cell? ⟨w.heap.size + 1, 5, none⟩ = some (.int .i64 od) := hC2.2.2.2.2.2.2.2.2.2.2.1
  have c11 : w2.cell? ⟨w.heap.size + 1 + 1, 0, none⟩ = some (.int .i64 op) := hC2.2.2.2.2.2.2.2.2.2.2.2.1
  have c12 : w2.cell? ⟨w.heap.size + 1 + 1, 1, none⟩ = some (.int .i64 n) := hC2.2.2.2.2.2.2.2.2.2.2.2.2.1
  have c13 : w2.cell? ⟨w.heap.size + 1 + 1 + 1, 0, none⟩ = some (.bool false) := hC2.2.2.2.2.2.2.2.2.2.2.2.2.2.1
  have c14 : w2.cell? ⟨w.heap.size + 1 + 1 + 1, 1, none⟩ = some (.int .i64 0) := hC2.2.2.2.2.2.2.2.2.2.2.2.2.2.2.1
  have c15 : w2.cell? ⟨w.heap.size + 1 + 1 + 1, 2, none⟩ = some (.int .i64 0) := hC2.2.2.2.2.2.2.2.2.2.2.2.2.2.2.2.1
  have c16 : w2.cell? ⟨w.heap.size + 1 + 1 + 1, 3, none⟩ = some (.int .i64 0) := hC2.2.2.2.2.2.2.2.2.2.2.2.2.2.2.2.2.1
  have c17 : w2.cell? ⟨w.heap.size + 1 + 1 + 1, 4, none⟩ = some (.int .i64 0) := hC2.2.2.2.2.2.2.2.2.2.2.2.2.2.2.2.2.2.1
  have c18 : w2.cell? ⟨w.heap.size + 1 + 1 + 1, 5, none⟩ = some (.int .i64 0) := hC2.2.2.2.2.2.2.2.2.2.2.2.2.2.2.2.2.2.2.1
  have c19 : w2.frozen? ⟨w.heap.size + 1, 0, none⟩ = false := hC2.2.2.2.2.2.2.2.2.2.2.2.2.2.2.2.2.2.2.2.1
  have c20 : w2.frozen? ⟨w.heap.size + 1, 1, none⟩ = false := hC2.2.2.2.2.2.2.2.2.2.2.2.2.2.2.2.2.2.2.2.2.1
  have c21 : w2.frozen? ⟨w.heap.size + 1, 2, none⟩ = false := hC2.2.2.2.2.2.2.2.2.2.2.2.2.2.2.2.2.2.2.2.2.2.1
  have c22 : w2.frozen? ⟨w.heap.size + 1, 3, none⟩ = false := hC2.2.2.2.2.2.2.2.2.2.2.2.2.2.2.2.2.2.2.2.2.2.2.1
  have c23 : w2.frozen? ⟨w.heap.size + 1, 4, none⟩ = false := hC2.2.2.2.2.2.2.2.2.2.2.2.2.2.2.2.2.2.2.2.2.2.2.2.1
  have c24 : w2.frozen? ⟨w.heap.size + 1, 5, none⟩ = false := hC2.2.2.2.2.2.2.2.2.2.2.2.2.2.2.2.2.2.2.2.2.2.2.2.2.1
  have c25 : w2.frozen? ⟨w.heap.size + 1 + 1 + 1, 0, none⟩ = false := hC2.2.2.2.2.2.2.2.2.2.2.2.2.2.2.2.2.2.2.2.2.2.2.2.2.2.1
  have c26 : w2.frozen? ⟨w.heap.size + 1 + 1 + 1, 1, none⟩ = false := hC2.2.2.2.2.2.2.2.2.2.2.2.2.2.2.2.2.2.2.2.2.2.2.2.2.2.2.1
  have c27 : w2.frozen? ⟨w.heap.size + 1 + 1 + 1, 2, none⟩ = false := hC2.2.2.2.2.2.2.2.2.2.2.2.2.2.2.2.2.2.2.2.2.2.2.2.2.2.2.2.1
  have c28 : w2.frozen? ⟨w.heap.size + 1 + 1 + 1, 3, none⟩ = false := hC2.2.2.2.2.2.2.2.2.2.2.2.2.2.2.2.2.2.2.2.2.2.2.2.2.2.2.2.2.1
  have c29 : w2.frozen? ⟨w.heap.size + 1 + 1 + 1, 4, none⟩ = false := hC2.2.2.2.2.2.2.2.2.2.2.2.2.2.2.2.2.2.2.2.2.2.2.2.2.2.2.2.2.2.1
  have c30 : w2.frozen? ⟨w.heap.size + 1 + 1 + 1, 5, none⟩ = false := hC2.2.2.2.2.2.2.2.2.2.2.2.2.2.2.2.2.2.2.2.2.2.2.2.2.2.2.2.2.2.2.1
  have c31 : Below w.heap.size w w2 := hC2.2.2.2.2.2.2.2.2.2.2.2.2.2.2.2.2.2.2.2.2.2.2.2.2.2.2.2.2.2.2.2
  go_wp2_with fail
  clear c0 c1 c2 c3 c4 c5 c6 c7 c8 c9 c10 c11 c12 c13 c14 c15 c16 c17 c18 c19 c20 c21 c22 c23 c24 c25 c26 c27 c28 c29 c30 c31
  refine (specEventOk_c _ _ _).mono ?_
  rintro e w3 ⟨rfl, hb3⟩
  have hC3 := doC_on hC2 hb3
  have c0 : w3.cell? ⟨w.heap.size, 0, none⟩ = some (.int .i64 s) := hC3.1
  have c1 : w3.cell? ⟨w.heap.size, 1, none⟩ = some (.int .i64 j) := hC3.2.1
  have c2 : w3.cell? ⟨w.heap.size, 2, none⟩ = some (.int .i64 m) := hC3.2.2.1
  have c3 : w3.cell? ⟨w.heap.size, 3, none⟩ = some (.int .i64 g) := hC3.2.2.2.1
  have c4 : w3.cell? ⟨w.heap.size, 4, none⟩ = some (.int .i64 o) := hC3.2.2.2.2.1
  have c5 : w3.cell? ⟨w.heap.size + 1, 0, none⟩ = some (.bool kn) := hC3.2.2.2.2.2.1
  have c6 : w3.cell? ⟨w.heap.size + 1, 1, none⟩ = some (.int .i64 l) := hC3.2.2.2.2.2.2.1
  have c7 : w3.cell? ⟨w.heap.size + 1, 2, none⟩ = some (.int .i64 h) := hC3.2.2.2.2.2.2.2.1
  have c8 : w3.cell? ⟨w.heap.size + 1, 3, none⟩ = some (.int .i64 si) := hC3.2.2.2.2.2.2.2.2.1
  have c9 : w3.cell? ⟨w.heap.size + 1, 4, none⟩ = some (.int .i64 la) := hC3.2.2.2.2.2.2.2.2.2.1
  have c10 : w3.cell? ⟨w.heap.size + 1, 5, none⟩ = some (.int .i64 od) := hC3.2.2.2.2.2.2.2.2.2.2.1
  have c11 : w3.cell? ⟨w.heap.size + 1 + 1, 0, none⟩ = some (.int .i64 op) := hC3.2.2.2.2.2.2.2.2.2.2.2.1
  have c12 : w3.cell? ⟨w.heap.size + 1 + 1, 1, none⟩ = some (.int .i64 n) := hC3.2.2.2.2.2.2.2.2.2.2.2.2.1
  have c13 : w3.cell? ⟨w.heap.size + 1 + 1 + 1, 0, none⟩ = some (.bool false) := hC3.2.2.2.2.2.2.2.2.2.2.2.2.2.1
  have c14 : w3.cell? ⟨w.heap.size + 1 + 1 + 1, 1, none⟩ = some (.int .i64 0) := hC3.2.2.2.2.2.2.2.2.2.2.2.2.2.2.1
  have c15 : w3.cell? ⟨w.heap.size + 1 + 1 + 1, 2, none⟩ = some (.int .i64 0) := hC3.2.2.2.2.2.2.2.2.2.2.2.2.2.2.2.1
  have c16 : w3.cell? ⟨w.heap.size + 1 + 1 + 1, 3, none⟩ = some (.int .i64 0) := hC3.2.2.2.2.2.2.2.2.2.2.2.2.2.2.2.2.1
  have c17 : w3.cell? ⟨w.heap.size + 1 + 1 + 1, 4, none⟩ = some (.int .i64 0) := hC3.2.2.2.2.2.2.2.2.2.2.2.2.2.2.2.2.2.1
  have c18 : w3.cell? ⟨w.heap.size + 1 + 1 + 1, 5, none⟩ = some (.int .i64 0) := hC3.2.2.2.2.2.2.2.2.2.2.2.2.2.2.2.2.2.2.1
  have c19 : w3.frozen? ⟨w.heap.size + 1, 0, none⟩ = false := hC3.2.2.2.2.2.2.2.2.2.2.2.2.2.2.2.2.2.2.2.1
  have c20 : w3.frozen? ⟨w.heap.size + 1, 1, none⟩ = false := hC3.2.2.2.2.2.2.2.2.2.2.2.2.2.2.2.2.2.2.2.2.1
  have c21 : w3.frozen? ⟨w.heap.size + 1, 2, none⟩ = false := hC3.2.2.2.2.2.2.2.2.2.2.2.2.2.2.2.2.2.2.2.2.2.1
  have c22 : w3.frozen? ⟨w.heap.size + 1, 3, none⟩ = false := hC3.2.2.2.2.2.2.2.2.2.2.2.2.2.2.2.2.2.2.2.2.2.2.1
  have c23 : w3.frozen? ⟨w.heap.size + 1, 4, none⟩ = false := hC3.2.2.2.2.2.2.2.2.2.2.2.2.2.2.2.2.2.2.2.2.2.2.2.1
  have c24 : w3.frozen? ⟨w.heap.size + 1, 5, none⟩ = false := hC3.2.2.2.2.2.2.2.2.2.2.2.2.2.2.2.2.2.2.2.2.2.2.2.2.1
  have c25 : w3.frozen? ⟨w.heap.size + 1 + 1 + 1, 0, none⟩ = false := hC3.2.2.2.2.2.2.2.2.2.2.2.2.2.2.2.2.2.2.2.2.2.2.2.2.2.1
  have c26 : w3.frozen? ⟨w.heap.size + 1 + 1 + 1, 1, none⟩ = false := hC3.2.2.2.2.2.2.2.2.2.2.2.2.2.2.2.2.2.2.2.2.2.2.2.2.2.2.1
  have c27 : w3.frozen? ⟨w.heap.size + 1 + 1 + 1, 2, none⟩ = false := hC3.2.2.2.2.2.2.2.2.2.2.2.2.2.2.2.2.2.2.2.2.2.2.2.2.2.2.2.1
  have c28 : w3.frozen? ⟨w.heap.size + 1 + 1 + 1, 3, none⟩ = false := hC3.2.2.2.2.2.2.2.2.2.2.2.2.2.2.2.2.2.2.2.2.2.2.2.2.2.2.2.2.1
  have c29 : w3.frozen? ⟨w.heap.size + 1 + 1 + 1, 4, none⟩ = false := hC3.2.2.2.2.2.2.2.2.2.2.2.2.2.2.2.2.2.2.2.2.2.2.2.2.2.2.2.2.2.1
  have c30 : w3.frozen? ⟨w.heap.size + 1 + 1 + 1, 5, none⟩ = false := hC3.2.2.2.2.2.2.2.2.2.2.2.2.2.2.2.2.2.2.2.2.2.2.2.2.2.2.2.2.2.2.1
  have c31 : Below w.heap.size w w3 := hC3.2.2.2.2.2.2.2.2.2.2.2.2.2.2.2.2.2.2.2.2.2.2.2.2.2.2.2.2.2.2.2
  go_wp2_with fail
  have hq1 : w.heap.size ≤ w.heap.size + 1 := by omega
  have hq3 : w.heap.size ≤ w.heap.size + 1 + 1 + 1 := by omega
  exact bodyPost_ret (v := .agg #[.bool false, .int .i64 0, .int .i64 0, .int .i64 0, .int .i64 (-1), .int .i64 od]) (by simp [results, Tryd.results31, go_sem, *]) rfl ⟨rfl, (nbSetX (nbSetX (nbSetX (nbSetX (nbSetX (nbSetX c31 hq3) hq3) hq3) hq3) hq3) hq3)⟩


set_option maxHeartbeats 4000000 in
theorem specDo_noneS (ad : Option Addr) (len cap : Nat) (f a : Nat → Int) (s j m g o : Int) (kn : Bool) (l h si la od op n : Int) (w : World) (hl : len ≤ 1048576) (hrow : SRow w ad len f a) (hr : rOk s j m g o = true) (hst : stB (marksB f a len) len kn l h si la od = true) (hev : evB op n = true) (hop : (op == 2) = true) (hK : Hid (lastIx f n len = -1)) :
    Calls Tryd.prog 31 #[.agg #[.int .i64 s, .int .i64 j, .int .i64 m, .int .i64 g, .int .i64 o], .slice ad len cap, .agg #[.bool kn, .int .i64 l, .int .i64 h, .int .i64 si, .int .i64 la, .int .i64 od], .agg #[.int .i64 op, .int .i64 n]] w fun e w' => e = .returned (.agg #[.bool kn, .int .i64 l, .int .i64 h, .int .i64 si, .int .i64 la, .int .i64 (min (od + 1) 1000000000)]) ∧ Below w.heap.size w w' := by
  obtain ⟨b, off, hA⟩ := hrow.at
  have hst' := hst
  simp only [stB, inB, Bool.and_eq_true, decide_eq_true_eq] at hst'
  obtain ⟨⟨⟨⟨hmk, hla0, hla1⟩, hsi0, hsi1⟩, hod0, hod1⟩, hbd⟩ := hst'
  have HMK : Hid (marksB f a len = true) := hmk
  have HBD : Hid ((if kn then bOk l h else l == 0 && h == 0 && la == -1) = true) := hbd
  clear hmk hbd
  have h1 : (op == 1) = false := by rw [eq_of_beq hop]; rfl
  have wr : IntKind.i64.wrap (od + 1) = od + 1 := by rw [IntKind.wrap_i64]; omega
  go_enter Tryd.func31, Tryd.ntmps31
  go_wp2_with fail
  refine (specRulesOk_c _ _ _ _ _ _).mono ?_
  rintro e w1 ⟨rfl, hb1⟩
  have hC1 : doC w s j m g o kn l h si la od op n w1 := ⟨cellOn hb1 (by go_simp), cellOn hb1 (by go_simp), cellOn hb1 (by go_simp), cellOn hb1 (by go_simp), cellOn hb1 (by go_simp), cellOn hb1 (by go_simp), cellOn hb1 (by go_simp), cellOn hb1 (by go_simp), cellOn hb1 (by go_simp), cellOn hb1 (by go_simp), cellOn hb1 (by go_simp), cellOn hb1 (by go_simp), cellOn hb1 (by go_simp), cellOn hb1 (by go_simp), cellOn hb1 (by go_simp), cellOn hb1 (by go_simp), cellOn hb1 (by go_simp), cellOn hb1 (by go_simp), cellOn hb1 (by go_simp), frozenOn hb1 (v := .bool kn) (by go_simp) (by go_simp), frozenOn hb1 (v := .int .i64 l) (by go_simp) (by go_simp), frozenOn hb1 (v := .int .i64 h) (by go_simp) (by go_simp), frozenOn hb1 (v := .int .i64 si) (by go_simp) (by go_simp), frozenOn hb1 (v := .int .i64 la) (by go_simp) (by go_simp), frozenOn hb1 (v := .int .i64 od) (by go_simp) (by go_simp), frozenOn hb1 (v := .bool false) (by go_simp) (by go_simp), frozenOn hb1 (v := .int .i64 0) (by go_simp) (by go_simp), frozenOn hb1 (v := .int .i64 0) (by go_simp) (by go_simp), frozenOn hb1 (v := .int .i64 0) (by go_simp) (by go_simp), frozenOn hb1 (v := .int .i64 0) (by go_simp) (by go_simp), frozenOn hb1 (v := .int .i64 0) (by go_simp) (by go_simp), nbTrans (nbAlloc (nbAlloc (nbAlloc (nbAlloc (Below.refl _ _) _) _) _) _) hb1⟩
  have c0 : w1.cell? ⟨w.heap.size, 0, none⟩ = some (.int .i64 s) := hC1.1
  have c1 : w1.cell? ⟨w.heap.size, 1, none⟩ = some (.int .i64 j) := hC1.2.1
  have c2 : w1.cell? ⟨w.heap.size, 2, none⟩ = some (.int .i64 m) := hC1.2.2.1
  have c3 : w1.cell? ⟨w.heap.size, 3, none⟩ = some (.int .i64 g) := hC1.2.2.2.1
  have c4 : w1.cell? ⟨w.heap.size, 4, none⟩ = some (.int .i64 o) := hC1.2.2.2.2.1
  have c5 : w1.cell? ⟨w.heap.size + 1, 0, none⟩ = some (.bool kn) := hC1.2.2.2.2.2.1
  have c6 : w1.cell? ⟨w.heap.size + 1, 1, none⟩ = some (.int .i64 l) := hC1.2.2.2.2.2.2.1
  have c7 : w1.cell? ⟨w.heap.size + 1, 2, none⟩ = some (.int .i64 h) := hC1.2.2.2.2.2.2.2.1
  have c8 : w1.cell? ⟨w.heap.size + 1, 3, none⟩ = some (.int .i64 si) := hC1.2.2.2.2.2.2.2.2.1
  have c9 : w1.cell? ⟨w.heap.size + 1, 4, none⟩ = some (.int .i64 la) := hC1.2.2.2.2.2.2.2.2.2.1
  have c10 : w1.cell? ⟨w.heap.size + 1, 5, none⟩ = some (.int .i64 od) := hC1.2.2.2.2.2.2.2.2.2.2.1
  have c11 : w1.cell? ⟨w.heap.size + 1 + 1, 0, none⟩ = some (.int .i64 op) := hC1.2.2.2.2.2.2.2.2.2.2.2.1
  have c12 : w1.cell? ⟨w.heap.size + 1 + 1, 1, none⟩ = some (.int .i64 n) := hC1.2.2.2.2.2.2.2.2.2.2.2.2.1
  have c13 : w1.cell? ⟨w.heap.size + 1 + 1 + 1, 0, none⟩ = some (.bool false) := hC1.2.2.2.2.2.2.2.2.2.2.2.2.2.1
  have c14 : w1.cell? ⟨w.heap.size + 1 + 1 + 1, 1, none⟩ = some (.int .i64 0) := hC1.2.2.2.2.2.2.2.2.2.2.2.2.2.2.1
  have c15 : w1.cell? ⟨w.heap.size + 1 + 1 + 1, 2, none⟩ = some (.int .i64 0) := hC1.2.2.2.2.2.2.2.2.2.2.2.2.2.2.2.1
  have c16 : w1.cell? ⟨w.heap.size + 1 + 1 + 1, 3, none⟩ = some (.int .i64 0) := hC1.2.2.2.2.2.2.2.2.2.2.2.2.2.2.2.2.1
  have c17 : w1.cell? ⟨w.heap.size + 1 + 1 + 1, 4, none⟩ = some (.int .i64 0) := hC1.2.2.2.2.2.2.2.2.2.2.2.2.2.2.2.2.2.1
  have c18 : w1.cell? ⟨w.heap.size + 1 + 1 + 1, 5, none⟩ = some (.int .i64 0) := hC1.2.2.2.2.2.2.2.2.2.2.2.2.2.2.2.2.2.2.1
  have c19 : w1.frozen? ⟨w.heap.size + 1, 0, none⟩ = false := hC1.2.2.2.2.2.2.2.2.2.2.2.2.2.2.2.2.2.2.2.1
  have c20 : w1.frozen? ⟨w.heap.size + 1, 1, none⟩ = false := hC1.2.2.2.2.2.2.2.2.2.2.2.2.2.2.2.2.2.2.2.2.1
  have c21 : w1.frozen? ⟨w.heap.size + 1, 2, none⟩ = false := hC1.2.2.2.2.2.2.2.2.2.2.2.2.2.2.2.2.2.2.2.2.2.1
  have c22 : w1.frozen? ⟨w.heap.size + 1, 3, none⟩ = false := hC1.2.2.2.2.2.2.2.2.2.2.2.2.2.2.2.2.2.2.2.2.2.2.1
  have c23 : w1.frozen? ⟨w.heap.size + 1, 4, none⟩ = false := hC1.2.2.2.2.2.2.2.2.2.2.2.2.2.2.2.2.2.2.2.2.2.2.2.1
  have c24 : w1.frozen? ⟨w.heap.size + 1, 5, none⟩ = false := hC1.2.2.2.2.2.2.2.2.2.2.2.2.2.2.2.2.2.2.2.2.2.2.2.2.1
  have c25 : w1.frozen? ⟨w.heap.size + 1 + 1 + 1, 0, none⟩ = false := hC1.2.2.2.2.2.2.2.2.2.2.2.2.2.2.2.2.2.2.2.2.2.2.2.2.2.1
  have c26 : w1.frozen? ⟨w.heap.size + 1 + 1 + 1, 1, none⟩ = false := hC1.2.2.2.2.2.2.2.2.2.2.2.2.2.2.2.2.2.2.2.2.2.2.2.2.2.2.1
  have c27 : w1.frozen? ⟨w.heap.size + 1 + 1 + 1, 2, none⟩ = false := hC1.2.2.2.2.2.2.2.2.2.2.2.2.2.2.2.2.2.2.2.2.2.2.2.2.2.2.2.1
  have c28 : w1.frozen? ⟨w.heap.size + 1 + 1 + 1, 3, none⟩ = false := hC1.2.2.2.2.2.2.2.2.2.2.2.2.2.2.2.2.2.2.2.2.2.2.2.2.2.2.2.2.1
  have c29 : w1.frozen? ⟨w.heap.size + 1 + 1 + 1, 4, none⟩ = false := hC1.2.2.2.2.2.2.2.2.2.2.2.2.2.2.2.2.2.2.2.2.2.2.2.2.2.2.2.2.2.1
  have c30 : w1.frozen? ⟨w.heap.size + 1 + 1 + 1, 5, none⟩ = false := hC1.2.2.2.2.2.2.2.2.2.2.2.2.2.2.2.2.2.2.2.2.2.2.2.2.2.2.2.2.2.2.1
  have c31 : Below w.heap.size w w1 := hC1.2.2.2.2.2.2.2.2.2.2.2.2.2.2.2.2.2.2.2.2.2.2.2.2.2.2.2.2.2.2.2
  go_wp2_with fail
  clear c0 c1 c2 c3 c4 c5 c6 c7 c8 c9 c10 c11 c12 c13 c14 c15 c16 c17 c18 c19 c20 c21 c22 c23 c24 c25 c26 c27 c28 c29 c30 c31
  have hB1 : Below w.heap.size w w1 := hC1.2.2.2.2.2.2.2.2.2.2.2.2.2.2.2.2.2.2.2.2.2.2.2.2.2.2.2.2.2.2.2
  refine (specStateOk_c _ _ _ (marksB f a len) _ _ _ _ _ _ _ hl (by intro w' hw'; exact specMarksOk_s ad len cap f a w' hl ((hrow.on hB1).on hw'))).mono ?_
  rintro e w2 ⟨rfl, hb2⟩
  have hC2 := doC_on hC1 hb2
  have c0 : w2.cell? ⟨w.heap.size, 0, none⟩ = some (.int .i64 s) := hC2.1
  have c1 : w2.cell? ⟨w.heap.size, 1, none⟩ = some (.int .i64 j) := hC2.2.1
  have c2 : w2.cell? ⟨w.heap.size, 2, none⟩ = some (.int .i64 m) := hC2.2.2.1
  have c3 : w2.cell? ⟨w.heap.size, 3, none⟩ = some (.int .i64 g) := hC2.2.2.2.1
  have c4 : w2.cell? ⟨w.heap.size, 4, none⟩ = some (.int .i64 o) := hC2.2.2.2.2.1
  have c5 : w2.cell? ⟨w.heap.size + 1, 0, none⟩ = some (.bool kn) := hC2.2.2.2.2.2.1
  have c6 : w2.cell? ⟨w.heap.size + 1, 1, none⟩ = some (.int .i64 l) := hC2.2.2.2.2.2.2.1
  have c7 : w2.cell? ⟨w.heap.size + 1, 2, none⟩ = some (.int .i64 h) := hC2.2.2.2.2.2.2.2.1
  have c8 : w2.cell? ⟨w.heap.size + 1, 3, none⟩ = some (.int .i64 si) := hC2.2.2.2.2.2.2.2.2.1
  have c9 : w2.cell? ⟨w.heap.size + 1, 4, none⟩ = some (.int .i64 la) := hC2.2.2.2.2.2.2.2.2.2.1
  have c10 : w2.cell? ⟨w.heap.size + 1, 5, none⟩ = some (.int .i64 od) := hC2.2.2.2.2.2.2.2.2.2.2.1
  have c11 : w2.cell? ⟨w.heap.size + 1 + 1, 0, none⟩ = some (.int .i64 op) := hC2.2.2.2.2.2.2.2.2.2.2.2.1
  have c12 : w2.cell? ⟨w.heap.size + 1 + 1, 1, none⟩ = some (.int .i64 n) := hC2.2.2.2.2.2.2.2.2.2.2.2.2.1
  have c13 : w2.cell? ⟨w.heap.size + 1 + 1 + 1, 0, none⟩ = some (.bool false) := hC2.2.2.2.2.2.2.2.2.2.2.2.2.2.1
  have c14 : w2.cell? ⟨w.heap.size + 1 + 1 + 1, 1, none⟩ = some (.int .i64 0) := hC2.2.2.2.2.2.2.2.2.2.2.2.2.2.2.1
  have c15 : w2.cell? ⟨w.heap.size + 1 + 1 + 1, 2, none⟩ = some (.int .i64 0) := hC2.2.2.2.2.2.2.2.2.2.2.2.2.2.2.2.1
  have c16 : w2.cell? ⟨w.heap.size + 1 + 1 + 1, 3, none⟩ = some (.int .i64 0) := hC2.2.2.2.2.2.2.2.2.2.2.2.2.2.2.2.2.1
  have c17 : w2.cell? ⟨w.heap.size + 1 + 1 + 1, 4, none⟩ = some (.int .i64 0) := hC2.2.2.2.2.2.2.2.2.2.2.2.2.2.2.2.2.2.1
  have c18 : w2.cell? ⟨w.heap.size + 1 + 1 + 1, 5, none⟩ = some (.int .i64 0) := hC2.2.2.2.2.2.2.2.2.2.2.2.2.2.2.2.2.2.2.1
  have c19 : w2.frozen? ⟨w.heap.size + 1, 0, none⟩ = false := hC2.2.2.2.2.2.2.2.2.2.2.2.2.2.2.2.2.2.2.2.1
  have c20 : w2.frozen? ⟨w.heap.size + 1, 1, none⟩ = false := hC2.2.2.2.2.2.2.2.2.2.2.2.2.2.2.2.2.2.2.2.2.1
  have c21 : w2.frozen? ⟨w.heap.size + 1, 2, none⟩ = false := hC2.2.2.2.2.2.2.2.2.2.2.2.2.2.2.2.2.2.2.2.2.2.1
  have c22 : w2.frozen? ⟨w.heap.size + 1, 3, none⟩ = false := hC2.2.2.2.2.2.2.2.2.2.2.2.2.2.2.2.2.2.2.2.2.2.2.1
  have c23 : w2.frozen? ⟨w.heap.size + 1, 4, none⟩ = false := hC2.2.2.2.2.2.2.2.2.2.2.2.2.2.2.2.2.2.2.2.2.2.2.2.1
  have c24 : w2.frozen? ⟨w.heap.size + 1, 5, none⟩ = false := hC2.2.2.2.2.2.2.2.2.2.2.2.2.2.2.2.2.2.2.2.2.2.2.2.2.1
  have c25 : w2.frozen? ⟨w.heap.size + 1 + 1 + 1, 0, none⟩ = false := hC2.2.2.2.2.2.2.2.2.2.2.2.2.2.2.2.2.2.2.2.2.2.2.2.2.2.1
  have c26 : w2.frozen? ⟨w.heap.size + 1 + 1 + 1, 1, none⟩ = false := hC2.2.2.2.2.2.2.2.2.2.2.2.2.2.2.2.2.2.2.2.2.2.2.2.2.2.2.1
  have c27 : w2.frozen? ⟨w.heap.size + 1 + 1 + 1, 2, none⟩ = false := hC2.2.2.2.2.2.2.2.2.2.2.2.2.2.2.2.2.2.2.2.2.2.2.2.2.2.2.2.1
  have c28 : w2.frozen? ⟨w.heap.size + 1 + 1 + 1, 3, none⟩ = false := hC2.2.2.2.2.2.2.2.2.2.2.2.2.2.2.2.2.2.2.2.2.2.2.2.2.2.2.2.2.1
  have c29 : w2.frozen? ⟨w.heap.size + 1 + 1 + 1, 4, none⟩ = false := hC2.2.2.2.2.2.2.2.2.2.2.2.2.2.2.2.2.2.2.2.2.2.2.2.2.2.2.2.2.2.1
  have c30 : w2.frozen? ⟨w.heap.size + 1 + 1 + 1, 5, none⟩ = false := hC2.2.2.2.2.2.2.2.2.2.2.2.2.2.2.2.2.2.2.2.2.2.2.2.2.2.2.2.2.2.2.1
  have c31 : Below w.heap.size w w2 := hC2.2.2.2.2.2.2.2.2.2.2.2.2.2.2.2.2.2.2.2.2.2.2.2.2.2.2.2.2.2.2.2
  go_wp2_with fail
  clear c0 c1 c2 c3 c4 c5 c6 c7 c8 c9 c10 c11 c12 c13 c14 c15 c16 c17 c18 c19 c20 c21 c22 c23 c24 c25 c26 c27 c28 c29 c30 c31
  refine (specEventOk_c _ _ _).mono ?_
  rintro e w3 ⟨rfl, hb3⟩
  have hC3 := doC_on hC2 hb3
  have c0 : w3.cell? ⟨w.heap.size, 0, none⟩ = some (.int .i64 s) := hC3.1
  have c1 : w3.cell? ⟨w.heap.size, 1, none⟩ = some (.int .i64 j) := hC3.2.1
  have c2 : w3.cell? ⟨w.heap.size, 2, none⟩ = some (.int .i64 m) := hC3.2.2.1
  have c3 : w3.cell? ⟨w.heap.size, 3, none⟩ = some (.int .i64 g) := hC3.2.2.2.1
  have c4 : w3.cell? ⟨w.heap.size, 4, none⟩ = some (.int .i64 o) := hC3.2.2.2.2.1
  have c5 : w3.cell? ⟨w.heap.size + 1, 0, none⟩ = some (.bool kn) := hC3.2.2.2.2.2.1
  have c6 : w3.cell? ⟨w.heap.size + 1, 1, none⟩ = some (.int .i64 l) := hC3.2.2.2.2.2.2.1
  have c7 : w3.cell? ⟨w.heap.size + 1, 2, none⟩ = some (.int .i64 h) := hC3.2.2.2.2.2.2.2.1
  have c8 : w3.cell? ⟨w.heap.size + 1, 3, none⟩ = some (.int .i64 si) := hC3.2.2.2.2.2.2.2.2.1
  have c9 : w3.cell? ⟨w.heap.size + 1, 4, none⟩ = some (.int .i64 la) := hC3.2.2.2.2.2.2.2.2.2.1
  have c10 : w3.cell? ⟨w.heap.size + 1, 5, none⟩ = some (.int .i64 od) := hC3.2.2.2.2.2.2.2.2.2.2.1
  have c11 : w3.cell? ⟨w.heap.size + 1 + 1, 0, none⟩ = some (.int .i64 op) := hC3.2.2.2.2.2.2.2.2.2.2.2.1
  have c12 : w3.cell? ⟨w.heap.size + 1 + 1, 1, none⟩ = some (.int .i64 n) := hC3.2.2.2.2.2.2.2.2.2.2.2.2.1
  have c13 : w3.cell? ⟨w.heap.size + 1 + 1 + 1, 0, none⟩ = some (.bool false) := hC3.2.2.2.2.2.2.2.2.2.2.2.2.2.1
  have c14 : w3.cell? ⟨w.heap.size + 1 + 1 + 1, 1, none⟩ = some (.int .i64 0) := hC3.2.2.2.2.2.2.2.2.2.2.2.2.2.2.1
  have c15 : w3.cell? ⟨w.heap.size + 1 + 1 + 1, 2, none⟩ = some (.int .i64 0) := hC3.2.2.2.2.2.2.2.2.2.2.2.2.2.2.2.1
  have c16 : w3.cell? ⟨w.heap.size + 1 + 1 + 1, 3, none⟩ = some (.int .i64 0) := hC3.2.2.2.2.2.2.2.2.2.2.2.2.2.2.2.2.1
  have c17 : w3.cell? ⟨w.heap.size + 1 + 1 + 1, 4, none⟩ = some (.int .i64 0) := hC3.2.2.2.2.2.2.2.2.2.2.2.2.2.2.2.2.2.1
  have c18 : w3.cell? ⟨w.heap.size + 1 + 1 + 1, 5, none⟩ = some (.int .i64 0) := hC3.2.2.2.2.2.2.2.2.2.2.2.2.2.2.2.2.2.2.1
  have c19 : w3.frozen? ⟨w.heap.size + 1, 0, none⟩ = false := hC3.2.2.2.2.2.2.2.2.2.2.2.2.2.2.2.2.2.2.2.1
  have c20 : w3.frozen? ⟨w.heap.size + 1, 1, none⟩ = false := hC3.2.2.2.2.2.2.2.2.2.2.2.2.2.2.2.2.2.2.2.2.1
  have c21 : w3.frozen? ⟨w.heap.size + 1, 2, none⟩ = false := hC3.2.2.2.2.2.2.2.2.2.2.2.2.2.2.2.2.2.2.2.2.2.1
  have c22 : w3.frozen? ⟨w.heap.size + 1, 3, none⟩ = false := hC3.2.2.2.2.2.2.2.2.2.2.2.2.2.2.2.2.2.2.2.2.2.2.1
  have c23 : w3.frozen? ⟨w.heap.size + 1, 4, none⟩ = false := hC3.2.2.2.2.2.2.2.2.2.2.2.2.2.2.2.2.2.2.2.2.2.2.2.1
  have c24 : w3.frozen? ⟨w.heap.size + 1, 5, none⟩ = false := hC3.2.2.2.2.2.2.2.2.2.2.2.2.2.2.2.2.2.2.2.2.2.2.2.2.1
  have c25 : w3.frozen? ⟨w.heap.size + 1 + 1 + 1, 0, none⟩ = false := hC3.2.2.2.2.2.2.2.2.2.2.2.2.2.2.2.2.2.2.2.2.2.2.2.2.2.1
  have c26 : w3.frozen? ⟨w.heap.size + 1 + 1 + 1, 1, none⟩ = false := hC3.2.2.2.2.2.2.2.2.2.2.2.2.2.2.2.2.2.2.2.2.2.2.2.2.2.2.1
  have c27 : w3.frozen? ⟨w.heap.size + 1 + 1 + 1, 2, none⟩ = false := hC3.2.2.2.2.2.2.2.2.2.2.2.2.2.2.2.2.2.2.2.2.2.2.2.2.2.2.2.1
  have c28 : w3.frozen? ⟨w.heap.size + 1 + 1 + 1, 3, none⟩ = false := hC3.2.2.2.2.2.2.2.2.2.2.2.2.2.2.2.2.2.2.2.2.2.2.2.2.2.2.2.2.1
  have c29 : w3.frozen? ⟨w.heap.size + 1 + 1 + 1, 4, none⟩ = false := hC3.2.2.2.2.2.2.2.2.2.2.2.2.2.2.2.2.2.2.2.2.2.2.2.2.2.2.2.2.2.1
  have c30 : w3.frozen? ⟨w.heap.size + 1 + 1 + 1, 5, none⟩ = false := hC3.2.2.2.2.2.2.2.2.2.2.2.2.2.2.2.2.2.2.2.2.2.2.2.2.2.2.2.2.2.2.1
  have c31 : Below w.heap.size w w3 := hC3.2.2.2.2.2.2.2.2.2.2.2.2.2.2.2.2.2.2.2.2.2.2.2.2.2.2.2.2.2.2.2
  go_wp2_with fail
  clear c0 c1 c2 c3 c4 c5 c6 c7 c8 c9 c10 c11 c12 c13 c14 c15 c16 c17 c18 c19 c20 c21 c22 c23 c24 c25 c26 c27 c28 c29 c30 c31
  go_loopw [9, 52] (fun kv iv wr => ∃ k : Nat, iv = .int .i64 k ∧ kv = .int .i64 (lastIx f n k) ∧ k ≤ len ∧ doC w s j m g o kn l h si la od op n wr) (fun _ iv _ => len - (intOf iv).toNat)
  case atStart => exact ⟨0, rfl, rfl, by omega, hC3⟩
  case round =>
    obtain ⟨k, rfl, rfl, hk, hC⟩ := hrel
    have c0 : wr.cell? ⟨w.heap.size, 0, none⟩ = some (.int .i64 s) := hC.1
    have c1 : wr.cell? ⟨w.heap.size, 1, none⟩ = some (.int .i64 j) := hC.2.1
    have c2 : wr.cell? ⟨w.heap.size, 2, none⟩ = some (.int .i64 m) := hC.2.2.1
    have c3 : wr.cell? ⟨w.heap.size, 3, none⟩ = some (.int .i64 g) := hC.2.2.2.1
    have c4 : wr.cell? ⟨w.heap.size, 4, none⟩ = some (.int .i64 o) := hC.2.2.2.2.1
    have c5 : wr.cell? ⟨w.heap.size + 1, 0, none⟩ = some (.bool kn) := hC.2.2.2.2.2.1
    have c6 : wr.cell? ⟨w.heap.size + 1, 1, none⟩ = some (.int .i64 l) := hC.2.2.2.2.2.2.1
    have c7 : wr.cell? ⟨w.heap.size + 1, 2, none⟩ = some (.int .i64 h) := hC.2.2.2.2.2.2.2.1
    have c8 : wr.cell? ⟨w.heap.size + 1, 3, none⟩ = some (.int .i64 si) := hC.2.2.2.2.2.2.2.2.1
    have c9 : wr.cell? ⟨w.heap.size + 1, 4, none⟩ = some (.int .i64 la) := hC.2.2.2.2.2.2.2.2.2.1
    have c10 : wr.cell? ⟨w.heap.size + 1, 5, none⟩ = some (.int .i64 od) := hC.2.2.2.2.2.2.2.2.2.2.1
    have c11 : wr.cell? ⟨w.heap.size + 1 + 1, 0, none⟩ = some (.int .i64 op) := hC.2.2.2.2.2.2.2.2.2.2.2.1
    have c12 : wr.cell? ⟨w.heap.size + 1 + 1, 1, none⟩ = some (.int .i64 n) := hC.2.2.2.2.2.2.2.2.2.2.2.2.1
    have c13 : wr.cell? ⟨w.heap.size + 1 + 1 + 1, 0, none⟩ = some (.bool false) := hC.2.2.2.2.2.2.2.2.2.2.2.2.2.1
    have c14 : wr.cell? ⟨w.heap.size + 1 + 1 + 1, 1, none⟩ = some (.int .i64 0) := hC.2.2.2.2.2.2.2.2.2.2.2.2.2.2.1
    have c15 : wr.cell? ⟨w.heap.size + 1 + 1 + 1, 2, none⟩ = some (.int .i64 0) := hC.2.2.2.2.2.2.2.2.2.2.2.2.2.2.2.1
    have c16 : wr.cell? ⟨w.heap.size + 1 + 1 + 1, 3, none⟩ = some (.int .i64 0) := hC.2.2.2.2.2.2.2.2.2.2.2.2.2.2.2.2.1
    have c17 : wr.cell? ⟨w.heap.size + 1 + 1 + 1, 4, none⟩ = some (.int .i64 0) := hC.2.2.2.2.2.2.2.2.2.2.2.2.2.2.2.2.2.1
    have c18 : wr.cell? ⟨w.heap.size + 1 + 1 + 1, 5, none⟩ = some (.int .i64 0) := hC.2.2.2.2.2.2.2.2.2.2.2.2.2.2.2.2.2.2.1
    have c19 : wr.frozen? ⟨w.heap.size + 1, 0, none⟩ = false := hC.2.2.2.2.2.2.2.2.2.2.2.2.2.2.2.2.2.2.2.1
    have c20 : wr.frozen? ⟨w.heap.size + 1, 1, none⟩ = false := hC.2.2.2.2.2.2.2.2.2.2.2.2.2.2.2.2.2.2.2.2.1
    have c21 : wr.frozen? ⟨w.heap.size + 1, 2, none⟩ = false := hC.2.2.2.2.2.2.2.2.2.2.2.2.2.2.2.2.2.2.2.2.2.1
    have c22 : wr.frozen? ⟨w.heap.size + 1, 3, none⟩ = false := hC.2.2.2.2.2.2.2.2.2.2.2.2.2.2.2.2.2.2.2.2.2.2.1
    have c23 : wr.frozen? ⟨w.heap.size + 1, 4, none⟩ = false := hC.2.2.2.2.2.2.2.2.2.2.2.2.2.2.2.2.2.2.2.2.2.2.2.1
    have c24 : wr.frozen? ⟨w.heap.size + 1, 5, none⟩ = false := hC.2.2.2.2.2.2.2.2.2.2.2.2.2.2.2.2.2.2.2.2.2.2.2.2.1
    have c25 : wr.frozen? ⟨w.heap.size + 1 + 1 + 1, 0, none⟩ = false := hC.2.2.2.2.2.2.2.2.2.2.2.2.2.2.2.2.2.2.2.2.2.2.2.2.2.1
    have c26 : wr.frozen? ⟨w.heap.size + 1 + 1 + 1, 1, none⟩ = false := hC.2.2.2.2.2.2.2.2.2.2.2.2.2.2.2.2.2.2.2.2.2.2.2.2.2.2.1
    have c27 : wr.frozen? ⟨w.heap.size + 1 + 1 + 1, 2, none⟩ = false := hC.2.2.2.2.2.2.2.2.2.2.2.2.2.2.2.2.2.2.2.2.2.2.2.2.2.2.2.1
    have c28 : wr.frozen? ⟨w.heap.size + 1 + 1 + 1, 3, none⟩ = false := hC.2.2.2.2.2.2.2.2.2.2.2.2.2.2.2.2.2.2.2.2.2.2.2.2.2.2.2.2.1
    have c29 : wr.frozen? ⟨w.heap.size + 1 + 1 + 1, 4, none⟩ = false := hC.2.2.2.2.2.2.2.2.2.2.2.2.2.2.2.2.2.2.2.2.2.2.2.2.2.2.2.2.2.1
    have c30 : wr.frozen? ⟨w.heap.size + 1 + 1 + 1, 5, none⟩ = false := hC.2.2.2.2.2.2.2.2.2.2.2.2.2.2.2.2.2.2.2.2.2.2.2.2.2.2.2.2.2.2.1
    have c31 : Below w.heap.size w wr := hC.2.2.2.2.2.2.2.2.2.2.2.2.2.2.2.2.2.2.2.2.2.2.2.2.2.2.2.2.2.2.2
    by_cases hlt : k < len
    · have i0 : (0 : Int) ≤ (k : Int) := by omega
      have i1 : (k : Int) < (len : Int) := by omega
      have ea := hA.1 (by omega)
      subst ea
      have d0 := cellOn c31 (hA.2 k hlt).1
      have d1 := cellOn c31 (hA.2 k hlt).2
      have e0 := cellNew c12
      cases hfk : (f k == n)
      · go_wp2_with fail
        go_roundw
        case rel => exact ⟨k + 1, by go_num, by rw [lastIx_no hfk], by omega, doC_on hC (nbAlloc (Below.refl _ _) _)⟩
        case measure => simp [intOf]; omega
      · go_wp2_with fail
        go_roundw
        case rel => exact ⟨k + 1, by go_num, by rw [lastIx_yes hfk], by omega, doC_on hC (nbAlloc (Below.refl _ _) _)⟩
        case measure => simp [intOf]; omega
    · have hkl : len = k := by omega
      subst hkl
      rw [hK.out]
      go_wp2_with fail
      refine (l2least_c _ _ _).mono ?_
      rintro e w4 ⟨rfl, rfl⟩
      go_wp2_with fail
      have hq1 : w.heap.size ≤ w.heap.size + 1 := by omega
      have hq3 : w.heap.size ≤ w.heap.size + 1 + 1 + 1 := by omega
      exact bodyPost_ret (v := .agg #[.bool kn, .int .i64 l, .int .i64 h, .int .i64 si, .int .i64 la, .int .i64 (min (od + 1) 1000000000)]) (by simp [results, Tryd.results31, go_sem, *]) rfl ⟨rfl, (nbSetX (nbSetX (nbSetX (nbSetX (nbSetX (nbSetX (nbSetX c31 hq1) hq3) hq3) hq3) hq3) hq3) hq3)⟩


theorem specDo_0 (ad : Option Addr) (cap : Nat) (f a : Nat → Int) (s j m g o : Int) (t : St) (op n : Int) (w : World)  :
    Calls Tryd.prog 31 #[.agg #[.int .i64 s, .int .i64 j, .int .i64 m, .int .i64 g, .int .i64 o], .slice ad 0 cap, t.v, .agg #[.int .i64 op, .int .i64 n]] w fun e w' => e = .returned (doA s j m g o 0 f a t op n).v ∧ Below w.heap.size w w' := by
  obtain ⟨kn, l, h, si, la, od⟩ := t
  cases hall : (rOk s j m g o && stB (marksB f a 0) 0 kn l h si la od && evB op n)
  · refine calls_to ?_ (specDo_badS ad 0 cap f a s j m g o kn l h si la od op n w (by omega) (.inl rfl) hall)
    simp [doA, hall, St.v]
  · have hA : doA s j m g o 0 f a ⟨kn, l, h, si, la, od⟩ op n = doM s j m 0 f a ⟨kn, l, h, si, la, od⟩ op n := by simp [doA, hall]
    rw [hA]
    simp only [Bool.and_eq_true] at hall
    obtain ⟨⟨hr, hst⟩, hev⟩ := hall
    rcases evB_op hev with hop | hop | hop | hop
    · cases kn
      · refine calls_to ?_ (specDo_wheel0S ad 0 cap f a s j m g o l h si la od op n w (by omega) (.inl rfl) hr hst hev hop)
        simp [doM, hop, St.v]
      · refine calls_to ?_ (specDo_wheel1S ad 0 cap f a s j m g o l h si la od op n w (by omega) (.inl rfl) hr hst hev hop)
        simp [doM, hop, St.v]
    · have h1 : (op == 1) = false := by rw [eq_of_beq hop]; rfl
      rcases lastIx_cases f n 0 with ⟨hK, -⟩ | ⟨kk, hK, hkk, -⟩
      · refine calls_to ?_ (specDo_noneS ad 0 cap f a s j m g o kn l h si la od op n w (by omega) (.inl rfl) hr hst hev hop hK)
        simp [doM, hop, h1, hK, St.v]
      · exact absurd hkk (by omega)
    · have h1 : (op == 1) = false := by rw [eq_of_beq hop]; rfl
      have h2 : (op == 2) = false := by rw [eq_of_beq hop]; rfl
      have h4 : (op == 4) = false := by rw [eq_of_beq hop]; rfl
      refine calls_to ?_ (specDo_standS ad 0 cap f a s j m g o kn l h si la od op n w (by omega) (.inl rfl) hr hst hev hop)
      simp [doM, h1, h2, h4, St.v]
    · have h1 : (op == 1) = false := by rw [eq_of_beq hop]; rfl
      have h2 : (op == 2) = false := by rw [eq_of_beq hop]; rfl
      refine calls_to ?_ (specDo_loseS ad 0 cap f a s j m g o kn l h si la od op n w (by omega) (.inl rfl) hr hst hev hop)
      simp [doM, h1, h2, hop, St.v]


theorem specDo_s (ad : Option Addr) (len cap : Nat) (f a : Nat → Int) (s j m g o : Int) (t : St) (op n : Int) (w : World) (hl : len ≤ 1048576) (hrow : SRow w ad len f a) :
    Calls Tryd.prog 31 #[.agg #[.int .i64 s, .int .i64 j, .int .i64 m, .int .i64 g, .int .i64 o], .slice ad len cap, t.v, .agg #[.int .i64 op, .int .i64 n]] w fun e w' => e = .returned (doA s j m g o len f a t op n).v ∧ Below w.heap.size w w' := by
  rcases hrow with rfl | ⟨b, off, rfl, h⟩
  · exact specDo_0 ad cap f a s j m g o t op n w
  · exact specDo_c b off len cap f a s j m g o t op n w hl h

end Go.Proofs.YtmhppadblddjoaaDoor

/- The specification's Run at whatever slices. -/
namespace Go.Proofs.YtmhppadblddjoaaDoor
open Go.RowKit

set_option maxHeartbeats 2000000 in
theorem specRun_badS (ad : Option Addr) (len cap : Nat) (f a : Nat → Int) (ae : Option Addr) (el ec : Nat) (fe ge : Nat → Int) (s j m g o l h : Int) (w : World) (hl : len ≤ 1048576) (hrow : SRow w ad len f a) (hel : el ≤ 1048576) (hev : SRow w ae el fe ge) (hbad : runOk s j m g o len f a l h fe ge el = false) :
    Calls Tryd.prog 7 #[.agg #[.int .i64 s, .int .i64 j, .int .i64 m, .int .i64 g, .int .i64 o], .slice ad len cap, .agg #[.int .i64 l, .int .i64 h], .slice ae el ec] w fun e w' => e = .returned (.slice none 0 0) ∧ Below w.heap.size w w' := by
  obtain ⟨eb, eo, hevA⟩ := hev.at
  unfold runOk at hbad
  cases hg : (rOk s j m g o && bOk l h)
  · clear hbad
    go_enter Tryd.func7, Tryd.ntmps7
    go_wp2_with fail
    refine (l1good_c _ _ _ _ _ _ _ _).mono ?_
    rintro e w1 ⟨rfl, hb1⟩
    have hC1 : r1C w s j m g o l h w1 := ⟨cellOn hb1 (by go_simp), cellOn hb1 (by go_simp), cellOn hb1 (by go_simp), cellOn hb1 (by go_simp), cellOn hb1 (by go_simp), cellOn hb1 (by go_simp), cellOn hb1 (by go_simp), nbTrans (nbAlloc (nbAlloc (Below.refl _ _) _) _) hb1⟩
    have c0 : w1.cell? ⟨w.heap.size, 0, none⟩ = some (.int .i64 s) := hC1.1
    have c1 : w1.cell? ⟨w.heap.size, 1, none⟩ = some (.int .i64 j) := hC1.2.1
    have c2 : w1.cell? ⟨w.heap.size, 2, none⟩ = some (.int .i64 m) := hC1.2.2.1
    have c3 : w1.cell? ⟨w.heap.size, 3, none⟩ = some (.int .i64 g) := hC1.2.2.2.1
    have c4 : w1.cell? ⟨w.heap.size, 4, none⟩ = some (.int .i64 o) := hC1.2.2.2.2.1
    have c5 : w1.cell? ⟨w.heap.size + 1, 0, none⟩ = some (.int .i64 l) := hC1.2.2.2.2.2.1
    have c6 : w1.cell? ⟨w.heap.size + 1, 1, none⟩ = some (.int .i64 h) := hC1.2.2.2.2.2.2.1
    have c7 : Below w.heap.size w w1 := hC1.2.2.2.2.2.2.2
    go_wp2_with fail
    go_ret
    exact ⟨rfl, c7⟩
  cases hmk : marksB f a len
  · clear hbad
    go_enter Tryd.func7, Tryd.ntmps7
    go_wp2_with fail
    refine (l1good_c _ _ _ _ _ _ _ _).mono ?_
    rintro e w1 ⟨rfl, hb1⟩
    have hC1 : r1C w s j m g o l h w1 := ⟨cellOn hb1 (by go_simp), cellOn hb1 (by go_simp), cellOn hb1 (by go_simp), cellOn hb1 (by go_simp), cellOn hb1 (by go_simp), cellOn hb1 (by go_simp), cellOn hb1 (by go_simp), nbTrans (nbAlloc (nbAlloc (Below.refl _ _) _) _) hb1⟩
    have c0 : w1.cell? ⟨w.heap.size, 0, none⟩ = some (.int .i64 s) := hC1.1
    have c1 : w1.cell? ⟨w.heap.size, 1, none⟩ = some (.int .i64 j) := hC1.2.1
    have c2 : w1.cell? ⟨w.heap.size, 2, none⟩ = some (.int .i64 m) := hC1.2.2.1
    have c3 : w1.cell? ⟨w.heap.size, 3, none⟩ = some (.int .i64 g) := hC1.2.2.2.1
    have c4 : w1.cell? ⟨w.heap.size, 4, none⟩ = some (.int .i64 o) := hC1.2.2.2.2.1
    have c5 : w1.cell? ⟨w.heap.size + 1, 0, none⟩ = some (.int .i64 l) := hC1.2.2.2.2.2.1
    have c6 : w1.cell? ⟨w.heap.size + 1, 1, none⟩ = some (.int .i64 h) := hC1.2.2.2.2.2.2.1
    have c7 : Below w.heap.size w w1 := hC1.2.2.2.2.2.2.2
    go_wp2_with fail
    clear c0 c1 c2 c3 c4 c5 c6 c7
    have hB1 : Below w.heap.size w w1 := hC1.2.2.2.2.2.2.2
    refine (specMarksOk_s ad len cap f a w1 hl (hrow.on hB1)).mono ?_
    rintro e w2 ⟨rfl, hb2⟩
    have hC2 := r1C_on hC1 hb2
    have c0 : w2.cell? ⟨w.heap.size, 0, none⟩ = some (.int .i64 s) := hC2.1
    have c1 : w2.cell? ⟨w.heap.size, 1, none⟩ = some (.int .i64 j) := hC2.2.1
    have c2 : w2.cell? ⟨w.heap.size, 2, none⟩ = some (.int .i64 m) := hC2.2.2.1
    have c3 : w2.cell? ⟨w.heap.size, 3, none⟩ = some (.int .i64 g) := hC2.2.2.2.1
    have c4 : w2.cell? ⟨w.heap.size, 4, none⟩ = some (.int .i64 o) := hC2.2.2.2.2.1
    have c5 : w2.cell? ⟨w.heap.size + 1, 0, none⟩ = some (.int .i64 l) := hC2.2.2.2.2.2.1
    have c6 : w2.cell? ⟨w.heap.size + 1, 1, none⟩ = some (.int .i64 h) := hC2.2.2.2.2.2.2.1
    have c7 : Below w.heap.size w w2 := hC2.2.2.2.2.2.2.2
    go_wp2_with fail
    go_ret
    exact ⟨rfl, c7⟩
  by_cases h2k : 2000 < el
  · clear hbad
    have i2 : (2000 : Int) < (el : Int) := by omega
    go_enter Tryd.func7, Tryd.ntmps7
    go_wp2_with fail
    refine (l1good_c _ _ _ _ _ _ _ _).mono ?_
    rintro e w1 ⟨rfl, hb1⟩
    have hC1 : r1C w s j m g o l h w1 := ⟨cellOn hb1 (by go_simp), cellOn hb1 (by go_simp), cellOn hb1 (by go_simp), cellOn hb1 (by go_simp), cellOn hb1 (by go_simp), cellOn hb1 (by go_simp), cellOn hb1 (by go_simp), nbTrans (nbAlloc (nbAlloc (Below.refl _ _) _) _) hb1⟩
    have c0 : w1.cell? ⟨w.heap.size, 0, none⟩ = some (.int .i64 s) := hC1.1
    have c1 : w1.cell? ⟨w.heap.size, 1, none⟩ = some (.int .i64 j) := hC1.2.1
    have c2 : w1.cell? ⟨w.heap.size, 2, none⟩ = some (.int .i64 m) := hC1.2.2.1
    have c3 : w1.cell? ⟨w.heap.size, 3, none⟩ = some (.int .i64 g) := hC1.2.2.2.1
    have c4 : w1.cell? ⟨w.heap.size, 4, none⟩ = some (.int .i64 o) := hC1.2.2.2.2.1
    have c5 : w1.cell? ⟨w.heap.size + 1, 0, none⟩ = some (.int .i64 l) := hC1.2.2.2.2.2.1
    have c6 : w1.cell? ⟨w.heap.size + 1, 1, none⟩ = some (.int .i64 h) := hC1.2.2.2.2.2.2.1
    have c7 : Below w.heap.size w w1 := hC1.2.2.2.2.2.2.2
    go_wp2_with fail
    clear c0 c1 c2 c3 c4 c5 c6 c7
    have hB1 : Below w.heap.size w w1 := hC1.2.2.2.2.2.2.2
    refine (specMarksOk_s ad len cap f a w1 hl (hrow.on hB1)).mono ?_
    rintro e w2 ⟨rfl, hb2⟩
    have hC2 := r1C_on hC1 hb2
    have c0 : w2.cell? ⟨w.heap.size, 0, none⟩ = some (.int .i64 s) := hC2.1
    have c1 : w2.cell? ⟨w.heap.size, 1, none⟩ = some (.int .i64 j) := hC2.2.1
    have c2 : w2.cell? ⟨w.heap.size, 2, none⟩ = some (.int .i64 m) := hC2.2.2.1
    have c3 : w2.cell? ⟨w.heap.size, 3, none⟩ = some (.int .i64 g) := hC2.2.2.2.1
    have c4 : w2.cell? ⟨w.heap.size, 4, none⟩ = some (.int .i64 o) := hC2.2.2.2.2.1
    have c5 : w2.cell? ⟨w.heap.size + 1, 0, none⟩ = some (.int .i64 l) := hC2.2.2.2.2.2.1
    have c6 : w2.cell? ⟨w.heap.size + 1, 1, none⟩ = some (.int .i64 h) := hC2.2.2.2.2.2.2.1
    have c7 : Below w.heap.size w w2 := hC2.2.2.2.2.2.2.2
    go_wp2_with fail
    go_ret
    exact ⟨rfl, c7⟩
  have i2 : ¬ (2000 : Int) < (el : Int) := by omega
  have hto : Hid (evTo fe ge el = false) := by show evTo fe ge el = false; simpa [hg, hmk, show el ≤ 2000 by omega] using hbad
  clear hbad
  go_enter Tryd.func7, Tryd.ntmps7
  go_wp2_with fail
  refine (l1good_c _ _ _ _ _ _ _ _).mono ?_
  rintro e w1 ⟨rfl, hb1⟩
  have hC1 : r1C w s j m g o l h w1 := ⟨cellOn hb1 (by go_simp), cellOn hb1 (by go_simp), cellOn hb1 (by go_simp), cellOn hb1 (by go_simp), cellOn hb1 (by go_simp), cellOn hb1 (by go_simp), cellOn hb1 (by go_simp), nbTrans (nbAlloc (nbAlloc (Below.refl _ _) _) _) hb1⟩
  have c0 : w1.cell? ⟨w.heap.size, 0, none⟩ = some (.int .i64 s) := hC1.1
  have c1 : w1.cell? ⟨w.heap.size, 1, none⟩ = some (.int .i64 j) := hC1.2.1
  have c2 : w1.cell? ⟨w.heap.size, 2, none⟩ = some (.int .i64 m) := hC1.2.2.1
  have c3 : w1.cell? ⟨w.heap.size, 3, none⟩ = some (.int .i64 g) := hC1.2.2.2.1
  have c4 : w1.cell? ⟨w.heap.size, 4, none⟩ = some (.int .i64 o) := hC1.2.2.2.2.1
  have c5 : w1.cell? ⟨w.heap.size + 1, 0, none⟩ = some (.int .i64 l) := hC1.2.2.2.2.2.1
  have c6 : w1.cell? ⟨w.heap.size + 1, 1, none⟩ = some (.int .i64 h) := hC1.2.2.2.2.2.2.1
  have c7 : Below w.heap.size w w1 := hC1.2.2.2.2.2.2.2
  go_wp2_with fail
  clear c0 c1 c2 c3 c4 c5 c6 c7
  have hB1 : Below w.heap.size w w1 := hC1.2.2.2.2.2.2.2
  refine (specMarksOk_s ad len cap f a w1 hl (hrow.on hB1)).mono ?_
  rintro e w2 ⟨rfl, hb2⟩
  have hC2 := r1C_on hC1 hb2
  have c0 : w2.cell? ⟨w.heap.size, 0, none⟩ = some (.int .i64 s) := hC2.1
  have c1 : w2.cell? ⟨w.heap.size, 1, none⟩ = some (.int .i64 j) := hC2.2.1
  have c2 : w2.cell? ⟨w.heap.size, 2, none⟩ = some (.int .i64 m) := hC2.2.2.1
  have c3 : w2.cell? ⟨w.heap.size, 3, none⟩ = some (.int .i64 g) := hC2.2.2.2.1
  have c4 : w2.cell? ⟨w.heap.size, 4, none⟩ = some (.int .i64 o) := hC2.2.2.2.2.1
  have c5 : w2.cell? ⟨w.heap.size + 1, 0, none⟩ = some (.int .i64 l) := hC2.2.2.2.2.2.1
  have c6 : w2.cell? ⟨w.heap.size + 1, 1, none⟩ = some (.int .i64 h) := hC2.2.2.2.2.2.2.1
  have c7 : Below w.heap.size w w2 := hC2.2.2.2.2.2.2.2
  go_wp2_with fail
  clear c0 c1 c2 c3 c4 c5 c6 c7
  go_loopw [31] (fun iv wr => ∃ k : Nat, iv = .int .i64 k ∧ k ≤ el ∧ evTo fe ge k = true ∧ r1C w s j m g o l h wr) (fun iv _ => el - (intOf iv).toNat)
  case atStart => exact ⟨0, rfl, by omega, rfl, hC2⟩
  case round =>
    obtain ⟨k, rfl, hk, hto, hC⟩ := hrel
    have HTO : Hid (evTo fe ge k = true) := hto
    clear hto
    have c0 : wr.cell? ⟨w.heap.size, 0, none⟩ = some (.int .i64 s) := hC.1
    have c1 : wr.cell? ⟨w.heap.size, 1, none⟩ = some (.int .i64 j) := hC.2.1
    have c2 : wr.cell? ⟨w.heap.size, 2, none⟩ = some (.int .i64 m) := hC.2.2.1
    have c3 : wr.cell? ⟨w.heap.size, 3, none⟩ = some (.int .i64 g) := hC.2.2.2.1
    have c4 : wr.cell? ⟨w.heap.size, 4, none⟩ = some (.int .i64 o) := hC.2.2.2.2.1
    have c5 : wr.cell? ⟨w.heap.size + 1, 0, none⟩ = some (.int .i64 l) := hC.2.2.2.2.2.1
    have c6 : wr.cell? ⟨w.heap.size + 1, 1, none⟩ = some (.int .i64 h) := hC.2.2.2.2.2.2.1
    have c7 : Below w.heap.size w wr := hC.2.2.2.2.2.2.2
    by_cases hlt : k < el
    · have i0 : (0 : Int) ≤ (k : Int) := by omega
      have i1 : (k : Int) < (el : Int) := by omega
      have ee := hevA.1 (by omega)
      subst ee
      have d0 := cellOn c7 (hevA.2 k hlt).1
      have d1 := cellOn c7 (hevA.2 k hlt).2
      go_wp2_with fail
      refine (specEventOk_c _ _ _).mono ?_
      rintro e w3 ⟨rfl, hb3⟩
      have hC3 := r1C_on (r1C_on hC (nbAlloc (Below.refl _ _) _)) hb3
      cases hE : evB (fe k) (ge k)
      · go_wp2_with fail
        go_ret
        exact ⟨rfl, hC3.2.2.2.2.2.2.2⟩
      · go_wp2_with fail
        go_roundw
        case rel => exact ⟨k + 1, by go_num, by omega, evTo_snoc HTO.out hE, hC3⟩
        case measure => simp [intOf]; omega
    · have hkl : el = k := by omega
      subst hkl
      exact absurd (HTO.out.symm.trans hto.out) (by simp)


set_option maxHeartbeats 4000000 in
theorem specRun_okS (ad : Option Addr) (len cap : Nat) (f a : Nat → Int) (ae : Option Addr) (el ec : Nat) (fe ge : Nat → Int) (s j m g o l h : Int) (w : World) (hl : len ≤ 1048576) (hrow : SRow w ad len f a) (hel : el ≤ 1048576) (hev : SRow w ae el fe ge) (hok : runOk s j m g o len f a l h fe ge el = true) :
    Calls Tryd.prog 7 #[.agg #[.int .i64 s, .int .i64 j, .int .i64 m, .int .i64 g, .int .i64 o], .slice ad len cap, .agg #[.int .i64 l, .int .i64 h], .slice ae el ec] w fun e w' => ∃ v, e = .returned v ∧ w'.ownsRow w.heap.size 37 6 v el (runCs s j m g o len f a l h fe ge el) ∧ Below w.heap.size w w' := by
  obtain ⟨eb, eo, hevA⟩ := hev.at
  unfold runOk at hok
  simp only [Bool.and_eq_true, decide_eq_true_eq] at hok
  obtain ⟨⟨⟨⟨hr, hbk⟩, hmk⟩, h2k⟩, hto⟩ := hok
  have HTA : Hid (evTo fe ge el = true) := hto
  clear hto
  have i2 : ¬ (2000 : Int) < (el : Int) := by omega
  have HG : (rOk s j m g o && bOk l h) = true := by rw [hr, hbk]; rfl
  clear h2k hr hbk
  go_enter Tryd.func7, Tryd.ntmps7
  go_wp2_with fail
  refine (l1good_c _ _ _ _ _ _ _ _).mono ?_
  rintro e w1 ⟨rfl, hb1⟩
  have hC1 : r1C w s j m g o l h w1 := ⟨cellOn hb1 (by go_simp), cellOn hb1 (by go_simp), cellOn hb1 (by go_simp), cellOn hb1 (by go_simp), cellOn hb1 (by go_simp), cellOn hb1 (by go_simp), cellOn hb1 (by go_simp), nbTrans (nbAlloc (nbAlloc (Below.refl _ _) _) _) hb1⟩
  have c0 : w1.cell? ⟨w.heap.size, 0, none⟩ = some (.int .i64 s) := hC1.1
  have c1 : w1.cell? ⟨w.heap.size, 1, none⟩ = some (.int .i64 j) := hC1.2.1
  have c2 : w1.cell? ⟨w.heap.size, 2, none⟩ = some (.int .i64 m) := hC1.2.2.1
  have c3 : w1.cell? ⟨w.heap.size, 3, none⟩ = some (.int .i64 g) := hC1.2.2.2.1
  have c4 : w1.cell? ⟨w.heap.size, 4, none⟩ = some (.int .i64 o) := hC1.2.2.2.2.1
  have c5 : w1.cell? ⟨w.heap.size + 1, 0, none⟩ = some (.int .i64 l) := hC1.2.2.2.2.2.1
  have c6 : w1.cell? ⟨w.heap.size + 1, 1, none⟩ = some (.int .i64 h) := hC1.2.2.2.2.2.2.1
  have c7 : Below w.heap.size w w1 := hC1.2.2.2.2.2.2.2
  go_wp2_with fail
  clear c0 c1 c2 c3 c4 c5 c6 c7
  have hB1 : Below w.heap.size w w1 := hC1.2.2.2.2.2.2.2
  refine (specMarksOk_s ad len cap f a w1 hl (hrow.on hB1)).mono ?_
  rintro e w2 ⟨rfl, hb2⟩
  have hC2 := r1C_on hC1 hb2
  have c0 : w2.cell? ⟨w.heap.size, 0, none⟩ = some (.int .i64 s) := hC2.1
  have c1 : w2.cell? ⟨w.heap.size, 1, none⟩ = some (.int .i64 j) := hC2.2.1
  have c2 : w2.cell? ⟨w.heap.size, 2, none⟩ = some (.int .i64 m) := hC2.2.2.1
  have c3 : w2.cell? ⟨w.heap.size, 3, none⟩ = some (.int .i64 g) := hC2.2.2.2.1
  have c4 : w2.cell? ⟨w.heap.size, 4, none⟩ = some (.int .i64 o) := hC2.2.2.2.2.1
  have c5 : w2.cell? ⟨w.heap.size + 1, 0, none⟩ = some (.int .i64 l) := hC2.2.2.2.2.2.1
  have c6 : w2.cell? ⟨w.heap.size + 1, 1, none⟩ = some (.int .i64 h) := hC2.2.2.2.2.2.2.1
  have c7 : Below w.heap.size w w2 := hC2.2.2.2.2.2.2.2
  go_wp2_with fail
  clear c0 c1 c2 c3 c4 c5 c6 c7
  go_loopw [31] (fun iv wr => ∃ k : Nat, iv = .int .i64 k ∧ k ≤ el ∧ evTo fe ge k = true ∧ r1C w s j m g o l h wr) (fun iv _ => el - (intOf iv).toNat)
  case atStart => exact ⟨0, rfl, by omega, rfl, hC2⟩
  case round =>
    obtain ⟨k, rfl, hk, hto, hC⟩ := hrel
    have HTO : Hid (evTo fe ge k = true) := hto
    clear hto
    have c0 : wr.cell? ⟨w.heap.size, 0, none⟩ = some (.int .i64 s) := hC.1
    have c1 : wr.cell? ⟨w.heap.size, 1, none⟩ = some (.int .i64 j) := hC.2.1
    have c2 : wr.cell? ⟨w.heap.size, 2, none⟩ = some (.int .i64 m) := hC.2.2.1
    have c3 : wr.cell? ⟨w.heap.size, 3, none⟩ = some (.int .i64 g) := hC.2.2.2.1
    have c4 : wr.cell? ⟨w.heap.size, 4, none⟩ = some (.int .i64 o) := hC.2.2.2.2.1
    have c5 : wr.cell? ⟨w.heap.size + 1, 0, none⟩ = some (.int .i64 l) := hC.2.2.2.2.2.1
    have c6 : wr.cell? ⟨w.heap.size + 1, 1, none⟩ = some (.int .i64 h) := hC.2.2.2.2.2.2.1
    have c7 : Below w.heap.size w wr := hC.2.2.2.2.2.2.2
    by_cases hlt : k < el
    · have i0 : (0 : Int) ≤ (k : Int) := by omega
      have i1 : (k : Int) < (el : Int) := by omega
      have ee := hevA.1 (by omega)
      subst ee
      have d0 := cellOn c7 (hevA.2 k hlt).1
      have d1 := cellOn c7 (hevA.2 k hlt).2
      go_wp2_with fail
      refine (specEventOk_c _ _ _).mono ?_
      rintro e w3 ⟨rfl, hb3⟩
      have hC3 := r1C_on (r1C_on hC (nbAlloc (Below.refl _ _) _)) hb3
      have hE : evB (fe k) (ge k) = true := evTo_at HTA.out hlt
      go_wp2_with fail
      go_roundw
      case rel => exact ⟨k + 1, by go_num, by omega, evTo_snoc HTO.out hE, hC3⟩
      case measure => simp [intOf]; omega
    · have hkl : el = k := by omega
      subst hkl
      go_wp2_with fail
      have hps : w.heap.size + 1 < wr.heap.size := ltCell c5
      generalize hpq : wr.heap.size = ps at *
      have hC4 : r2C w ps s j m g o (runSt s j m g o len f a l h fe ge 0) (wr.alloc (.cells #[.bool true, .int .i64 l, .int .i64 h, .int .i64 0, .int .i64 (-1), .int .i64 0] 37)) := ⟨cellNew c0 _, cellNew c1 _, cellNew c2 _, cellNew c3 _, cellNew c4 _, by rw [Joins.cell_of_block (newBlkD _ _ hpq.symm)]; rfl, by rw [Joins.cell_of_block (newBlkD _ _ hpq.symm)]; rfl, by rw [Joins.cell_of_block (newBlkD _ _ hpq.symm)]; rfl, by rw [Joins.cell_of_block (newBlkD _ _ hpq.symm)]; rfl, by rw [Joins.cell_of_block (newBlkD _ _ hpq.symm)]; rfl, by rw [Joins.cell_of_block (newBlkD _ _ hpq.symm)]; rfl, Joins.unfrozen_of_block (newBlkD _ _ hpq.symm) 0, Joins.unfrozen_of_block (newBlkD _ _ hpq.symm) 1, Joins.unfrozen_of_block (newBlkD _ _ hpq.symm) 2, Joins.unfrozen_of_block (newBlkD _ _ hpq.symm) 3, Joins.unfrozen_of_block (newBlkD _ _ hpq.symm) 4, Joins.unfrozen_of_block (newBlkD _ _ hpq.symm) 5, nbAlloc c7 _⟩
      have hsz0 : ps + 1 ≤ (wr.alloc (.cells #[.bool true, .int .i64 l, .int .i64 h, .int .i64 0, .int .i64 (-1), .int .i64 0] 37)).heap.size := by show ps + 1 ≤ (wr.heap.push _).size; rw [Array.size_push]; omega
      generalize wr.alloc (.cells #[.bool true, .int .i64 l, .int .i64 h, .int .i64 0, .int .i64 (-1), .int .i64 0] 37) = w4 at *
      clear c0 c1 c2 c3 c4 c5 c6 c7
      clear hpq hC hC2 hC1
      go_loopw [12, 43] (fun v iv wr => ∃ k : Nat, iv = .int .i64 k ∧ k ≤ el ∧ wr.ownsRow (ps + 1) 37 6 v k (runCs s j m g o len f a l h fe ge k) ∧ r2C w ps s j m g o (runSt s j m g o len f a l h fe ge k) wr ∧ ps + 1 ≤ wr.heap.size) (fun _ iv _ => el - (intOf iv).toNat)
      case atStart => exact ⟨0, rfl, by omega, World.ownsRow_nil _ _ _ _, hC4, hsz0⟩
      case round =>
        clear hC4 hsz0
        obtain ⟨k, rfl, hk, hown, hC, hsz⟩ := hrel
        by_cases hlt : k < el
        · have i0 : (0 : Int) ≤ (k : Int) := by omega
          have i1 : (k : Int) < (el : Int) := by omega
          have HT : Hid (doA s j m g o len f a (runSt s j m g o len f a l h fe ge k) (fe k) (ge k) = runSt s j m g o len f a l h fe ge (k + 1)) := rfl
          have HS : Hid (runCs s j m g o len f a l h fe ge k ++ (runSt s j m g o len f a l h fe ge (k + 1)).cs = runCs s j m g o len f a l h fe ge (k + 1)) := rfl
          generalize runSt s j m g o len f a l h fe ge k = t at *
          generalize hT2 : runSt s j m g o len f a l h fe ge (k + 1) = t2 at *
          have HT2 : Hid (runSt s j m g o len f a l h fe ge (k + 1) = t2) := hT2
          clear hT2
          have c0 : wr.cell? ⟨w.heap.size, 0, none⟩ = some (.int .i64 s) := hC.1
          have c1 : wr.cell? ⟨w.heap.size, 1, none⟩ = some (.int .i64 j) := hC.2.1
          have c2 : wr.cell? ⟨w.heap.size, 2, none⟩ = some (.int .i64 m) := hC.2.2.1
          have c3 : wr.cell? ⟨w.heap.size, 3, none⟩ = some (.int .i64 g) := hC.2.2.2.1
          have c4 : wr.cell? ⟨w.heap.size, 4, none⟩ = some (.int .i64 o) := hC.2.2.2.2.1
          have c5 : wr.cell? ⟨ps, 0, none⟩ = some (.bool t.kn) := hC.2.2.2.2.2.1
          have c6 : wr.cell? ⟨ps, 1, none⟩ = some (.int .i64 t.l) := hC.2.2.2.2.2.2.1
          have c7 : wr.cell? ⟨ps, 2, none⟩ = some (.int .i64 t.h) := hC.2.2.2.2.2.2.2.1
          have c8 : wr.cell? ⟨ps, 3, none⟩ = some (.int .i64 t.si) := hC.2.2.2.2.2.2.2.2.1
          have c9 : wr.cell? ⟨ps, 4, none⟩ = some (.int .i64 t.la) := hC.2.2.2.2.2.2.2.2.2.1
          have c10 : wr.cell? ⟨ps, 5, none⟩ = some (.int .i64 t.od) := hC.2.2.2.2.2.2.2.2.2.2.1
          have c11 : wr.frozen? ⟨ps, 0, none⟩ = false := hC.2.2.2.2.2.2.2.2.2.2.2.1
          have c12 : wr.frozen? ⟨ps, 1, none⟩ = false := hC.2.2.2.2.2.2.2.2.2.2.2.2.1
          have c13 : wr.frozen? ⟨ps, 2, none⟩ = false := hC.2.2.2.2.2.2.2.2.2.2.2.2.2.1
          have c14 : wr.frozen? ⟨ps, 3, none⟩ = false := hC.2.2.2.2.2.2.2.2.2.2.2.2.2.2.1
          have c15 : wr.frozen? ⟨ps, 4, none⟩ = false := hC.2.2.2.2.2.2.2.2.2.2.2.2.2.2.2.1
          have c16 : wr.frozen? ⟨ps, 5, none⟩ = false := hC.2.2.2.2.2.2.2.2.2.2.2.2.2.2.2.2.1
          have c17 : Below w.heap.size w wr := hC.2.2.2.2.2.2.2.2.2.2.2.2.2.2.2.2.2
          have ee := hevA.1 (by omega)
          subst ee
          have d0 := cellOn c17 (hevA.2 k hlt).1
          have d1 := cellOn c17 (hevA.2 k hlt).2
          have e0 := cellNew c0
          have e1 := cellNew c1
          have e2 := cellNew c2
          have e3 := cellNew c3
          have e4 := cellNew c4
          have e5 := cellNew c5
          have e6 := cellNew c6
          have e7 := cellNew c7
          have e8 := cellNew c8
          have e9 := cellNew c9
          have e10 := cellNew c10
          go_wp2_with fail
          have hC5 := r2C_on hC (nbAlloc (Below.refl wr.heap.size wr) (.cells #[.int .i64 (fe k), .int .i64 (ge k)] 48))
          have hown5 := hown.alloc (.cells #[.int .i64 (fe k), .int .i64 (ge k)] 48)
          have hB5 : Below w.heap.size w (wr.alloc (.cells #[.int .i64 (fe k), .int .i64 (ge k)] 48)) := hC5.2.2.2.2.2.2.2.2.2.2.2.2.2.2.2.2.2
          refine (specDo_s ad len cap f a s j m g o t _ _ _ hl (hrow.on hB5)).mono ?_
          rintro e w6 ⟨rfl, hb6⟩
          rw [HT.out]
          have hC6 := r2C_on hC5 hb6
          have hown6 := owns_on hown5 hb6
          have hsz6 : ps + 1 ≤ w6.heap.size := by have h6 : (wr.heap.push _).size ≤ _ := hb6.size; rw [Array.size_push] at h6; omega
          clear c0 c1 c2 c3 c4 c5 c6 c7 c8 c9 c10 c11 c12 c13 c14 c15 c16 c17 e0 e1 e2 e3 e4 e5 e6 e7 e8 e9 e10
          clear d0 d1 hC5 hown5 hB5 hb6 hC hown hsz
          have c0 : w6.cell? ⟨w.heap.size, 0, none⟩ = some (.int .i64 s) := hC6.1
          have c1 : w6.cell? ⟨w.heap.size, 1, none⟩ = some (.int .i64 j) := hC6.2.1
          have c2 : w6.cell? ⟨w.heap.size, 2, none⟩ = some (.int .i64 m) := hC6.2.2.1
          have c3 : w6.cell? ⟨w.heap.size, 3, none⟩ = some (.int .i64 g) := hC6.2.2.2.1
          have c4 : w6.cell? ⟨w.heap.size, 4, none⟩ = some (.int .i64 o) := hC6.2.2.2.2.1
          have c5 : w6.cell? ⟨ps, 0, none⟩ = some (.bool t.kn) := hC6.2.2.2.2.2.1
          have c6 : w6.cell? ⟨ps, 1, none⟩ = some (.int .i64 t.l) := hC6.2.2.2.2.2.2.1
          have c7 : w6.cell? ⟨ps, 2, none⟩ = some (.int .i64 t.h) := hC6.2.2.2.2.2.2.2.1
          have c8 : w6.cell? ⟨ps, 3, none⟩ = some (.int .i64 t.si) := hC6.2.2.2.2.2.2.2.2.1
          have c9 : w6.cell? ⟨ps, 4, none⟩ = some (.int .i64 t.la) := hC6.2.2.2.2.2.2.2.2.2.1
          have c10 : w6.cell? ⟨ps, 5, none⟩ = some (.int .i64 t.od) := hC6.2.2.2.2.2.2.2.2.2.2.1
          have c11 : w6.frozen? ⟨ps, 0, none⟩ = false := hC6.2.2.2.2.2.2.2.2.2.2.2.1
          have c12 : w6.frozen? ⟨ps, 1, none⟩ = false := hC6.2.2.2.2.2.2.2.2.2.2.2.2.1
          have c13 : w6.frozen? ⟨ps, 2, none⟩ = false := hC6.2.2.2.2.2.2.2.2.2.2.2.2.2.1
          have c14 : w6.frozen? ⟨ps, 3, none⟩ = false := hC6.2.2.2.2.2.2.2.2.2.2.2.2.2.2.1
          have c15 : w6.frozen? ⟨ps, 4, none⟩ = false := hC6.2.2.2.2.2.2.2.2.2.2.2.2.2.2.2.1
          have c16 : w6.frozen? ⟨ps, 5, none⟩ = false := hC6.2.2.2.2.2.2.2.2.2.2.2.2.2.2.2.2.1
          have c17 : Below w.heap.size w w6 := hC6.2.2.2.2.2.2.2.2.2.2.2.2.2.2.2.2.2
          simp only [St.v]
          have hown7 : ((((((w6.setCell ⟨ps, 0, none⟩ (.bool t2.kn)).setCell ⟨ps, 1, none⟩ (.int .i64 t2.l)).setCell ⟨ps, 2, none⟩ (.int .i64 t2.h)).setCell ⟨ps, 3, none⟩ (.int .i64 t2.si)).setCell ⟨ps, 4, none⟩ (.int .i64 t2.la)).setCell ⟨ps, 5, none⟩ (.int .i64 t2.od)).ownsRow (ps + 1) 37 6 _ k (runCs s j m g o len f a l h fe ge k) := (owns_set (owns_set (owns_set (owns_set (owns_set (owns_set hown6 (by omega)) (by omega)) (by omega)) (by omega)) (by omega)) (by omega))
          obtain ⟨i0', hi, hz0, hz1, hz2⟩ := info_parts infoSt
          go_wp2_with (at_builtin; refine wpList_append_own _ rfl _ _ 31 rfl (ps + 1) 37 i0' _ 6 48 Tryd.underlying31 hi hz0 hz1 hz2 rfl (by decide) _ _ _ rfl (hown7.alloc _) ⟨w6.heap.size, 0, none⟩ 1 1 [.bool t2.kn, .int .i64 t2.l, .int .i64 t2.h, .int .i64 t2.si, .int .i64 t2.la, .int .i64 t2.od] rfl rfl ?c1 ?c2 ?c3 ?c4 ?c5 ?_)
          case c1 =>
            intro j u hj
            match j, hj with
            | 0, hj => simp at hj; subst hj; simp [Addr.add]; exact (Joins.cell_of_block (newBlkD _ _ (by simp)) _).trans rfl
            | 1, hj => simp at hj; subst hj; simp [Addr.add]; exact (Joins.cell_of_block (newBlkD _ _ (by simp)) _).trans rfl
            | 2, hj => simp at hj; subst hj; simp [Addr.add]; exact (Joins.cell_of_block (newBlkD _ _ (by simp)) _).trans rfl
            | 3, hj => simp at hj; subst hj; simp [Addr.add]; exact (Joins.cell_of_block (newBlkD _ _ (by simp)) _).trans rfl
            | 4, hj => simp at hj; subst hj; simp [Addr.add]; exact (Joins.cell_of_block (newBlkD _ _ (by simp)) _).trans rfl
            | 5, hj => simp at hj; subst hj; simp [Addr.add]; exact (Joins.cell_of_block (newBlkD _ _ (by simp)) _).trans rfl
          case c2 => intro u hu; simp at hu; rcases hu with rfl | rfl | rfl | rfl | rfl | rfl <;> rfl
          case c3 => unfold maxLen; omega
          case c4 => omega
          case c5 => show ps + 1 ≤ (Array.push _ _).size; rw [Array.size_push]; simp; omega
          intro v' w8 hown8 hgrow _
          have S6 := set6 (v0 := .bool t2.kn) (v1 := .int .i64 t2.l) (v2 := .int .i64 t2.h) (v3 := .int .i64 t2.si) (v4 := .int .i64 t2.la) (v5 := .int .i64 t2.od) c5 c6 c7 c8 c9 c10
          have hC7 : r2C w ps s j m g o t2 ((((((w6.setCell ⟨ps, 0, none⟩ (.bool t2.kn)).setCell ⟨ps, 1, none⟩ (.int .i64 t2.l)).setCell ⟨ps, 2, none⟩ (.int .i64 t2.h)).setCell ⟨ps, 3, none⟩ (.int .i64 t2.si)).setCell ⟨ps, 4, none⟩ (.int .i64 t2.la)).setCell ⟨ps, 5, none⟩ (.int .i64 t2.od)) := ⟨cellFar (by omega) (cellFar (by omega) (cellFar (by omega) (cellFar (by omega) (cellFar (by omega) (cellFar (by omega) (c0)))))), cellFar (by omega) (cellFar (by omega) (cellFar (by omega) (cellFar (by omega) (cellFar (by omega) (cellFar (by omega) (c1)))))), cellFar (by omega) (cellFar (by omega) (cellFar (by omega) (cellFar (by omega) (cellFar (by omega) (cellFar (by omega) (c2)))))), cellFar (by omega) (cellFar (by omega) (cellFar (by omega) (cellFar (by omega) (cellFar (by omega) (cellFar (by omega) (c3)))))), cellFar (by omega) (cellFar (by omega) (cellFar (by omega) (cellFar (by omega) (cellFar (by omega) (cellFar (by omega) (c4)))))), S6.1, S6.2.1, S6.2.2.1, S6.2.2.2.1, S6.2.2.2.2.1, S6.2.2.2.2.2, (World.frozen?_setCell _ _ _ _).trans ((World.frozen?_setCell _ _ _ _).trans ((World.frozen?_setCell _ _ _ _).trans ((World.frozen?_setCell _ _ _ _).trans ((World.frozen?_setCell _ _ _ _).trans ((World.frozen?_setCell _ _ _ _).trans (c11)))))), (World.frozen?_setCell _ _ _ _).trans ((World.frozen?_setCell _ _ _ _).trans ((World.frozen?_setCell _ _ _ _).trans ((World.frozen?_setCell _ _ _ _).trans ((World.frozen?_setCell _ _ _ _).trans ((World.frozen?_setCell _ _ _ _).trans (c12)))))), (World.frozen?_setCell _ _ _ _).trans ((World.frozen?_setCell _ _ _ _).trans ((World.frozen?_setCell _ _ _ _).trans ((World.frozen?_setCell _ _ _ _).trans ((World.frozen?_setCell _ _ _ _).trans ((World.frozen?_setCell _ _ _ _).trans (c13)))))), (World.frozen?_setCell _ _ _ _).trans ((World.frozen?_setCell _ _ _ _).trans ((World.frozen?_setCell _ _ _ _).trans ((World.frozen?_setCell _ _ _ _).trans ((World.frozen?_setCell _ _ _ _).trans ((World.frozen?_setCell _ _ _ _).trans (c14)))))), (World.frozen?_setCell _ _ _ _).trans ((World.frozen?_setCell _ _ _ _).trans ((World.frozen?_setCell _ _ _ _).trans ((World.frozen?_setCell _ _ _ _).trans ((World.frozen?_setCell _ _ _ _).trans ((World.frozen?_setCell _ _ _ _).trans (c15)))))), (World.frozen?_setCell _ _ _ _).trans ((World.frozen?_setCell _ _ _ _).trans ((World.frozen?_setCell _ _ _ _).trans ((World.frozen?_setCell _ _ _ _).trans ((World.frozen?_setCell _ _ _ _).trans ((World.frozen?_setCell _ _ _ _).trans (c16)))))), nbSetX (nbSetX (nbSetX (nbSetX (nbSetX (nbSetX (c17) (by omega)) (by omega)) (by omega)) (by omega)) (by omega)) (by omega)⟩
          have hsz7 : ps + 1 ≤ ((((((w6.setCell ⟨ps, 0, none⟩ (.bool t2.kn)).setCell ⟨ps, 1, none⟩ (.int .i64 t2.l)).setCell ⟨ps, 2, none⟩ (.int .i64 t2.h)).setCell ⟨ps, 3, none⟩ (.int .i64 t2.si)).setCell ⟨ps, 4, none⟩ (.int .i64 t2.la)).setCell ⟨ps, 5, none⟩ (.int .i64 t2.od)).heap.size := by simp; omega
          have hlow := grown_low (hown7.alloc _) (by show ps + 1 ≤ (Array.push _ _).size; rw [Array.size_push]; omega) hgrow
          have hC8 := r2C_low (r2C_on hC7 (nbAlloc (Below.refl _ _) _)) (by omega) hlow
          have hsz8 := hlow.size
          have hsz9 : ps + 1 ≤ w8.heap.size := by
            have h9 : (Array.push _ _).size ≤ _ := hsz8
            rw [Array.size_push] at h9; omega
          clear hgrow hown7 hlow S6 hsz8 hsz7 hC7 hi hz0 hz1 hz2
          clear c0 c1 c2 c3 c4 c5 c6 c7 c8 c9 c10 c11 c12 c13 c14 c15 c16 c17
          go_wp2_with fail
          go_roundw
          case rel => exact ⟨k + 1, by go_num, by omega, (by rw [← HS.out]; exact hown8), (by rw [HT2.out]; exact hC8), hsz9⟩
          case measure => simp [intOf]; omega
        · have hkl : el = k := by omega
          subst hkl
          go_wp2_with fail
          go_ret
          exact ⟨_, rfl, owns_base hown (by omega), hC.2.2.2.2.2.2.2.2.2.2.2.2.2.2.2.2.2⟩


end Go.Proofs.YtmhppadblddjoaaDoor

