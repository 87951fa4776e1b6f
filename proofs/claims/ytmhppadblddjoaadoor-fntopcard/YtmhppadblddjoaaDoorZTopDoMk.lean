import Derived.Test.YtmhppadblddjoaaDoorZTopDo
namespace Go.Proofs.YtmhppadblddjoaaDoor
open Go.RowKit

theorem specMeets_t (al ah bl bh : Int) (w : World) (h : mB al ah bl bh = true) :
    Calls Tryd.prog 77 #[.agg #[.int .i64 al, .int .i64 ah], .agg #[.int .i64 bl, .int .i64 bh]] w fun e w' => e = .returned (.bool true) ∧ Below w.heap.size w w' := by
  have := specMeets_c al ah bl bh w
  rwa [h] at this
theorem specMeets_f (al ah bl bh : Int) (w : World) (h : mB al ah bl bh = false) :
    Calls Tryd.prog 77 #[.agg #[.int .i64 al, .int .i64 ah], .agg #[.int .i64 bl, .int .i64 bh]] w fun e w' => e = .returned (.bool false) ∧ Below w.heap.size w w' := by
  have := specMeets_c al ah bl bh w
  rwa [h] at this

set_option maxHeartbeats 4000000 in
theorem specDo_none (b off len cap : Nat) (f a : Nat → Int) (s j m g o : Int) (kn : Bool) (l h si la od op n : Int) (w : World) (hl : len ≤ 1048576) (hrow : Row2 w b off len f a) (hr : rOk s j m g o = true) (hst : stB (marksB f a len) len kn l h si la od = true) (hev : evB op n = true) (hop : (op == 2) = true) (hK : Hid (lastIx f n len = -1)) :
    Calls Tryd.prog 31 #[.agg #[.int .i64 s, .int .i64 j, .int .i64 m, .int .i64 g, .int .i64 o], .slice (some ⟨b, off, none⟩) len cap, .agg #[.bool kn, .int .i64 l, .int .i64 h, .int .i64 si, .int .i64 la, .int .i64 od], .agg #[.int .i64 op, .int .i64 n]] w fun e w' => e = .returned (.agg #[.bool kn, .int .i64 l, .int .i64 h, .int .i64 si, .int .i64 la, .int .i64 (min (od + 1) 1000000000)]) ∧ Below w.heap.size w w' := by
  have hst' := hst
  simp only [stB, inB, Bool.and_eq_true, decide_eq_true_eq] at hst'
  obtain ⟨⟨⟨⟨hmk, hla0, hla1⟩, hsi0, hsi1⟩, hod0, hod1⟩, hbd⟩ := hst'
  have HMK : Hid (marksB f a len = true) := hmk
  have HBD : Hid ((if kn then bOk l h else l == 0 && h == 0 && la == -1) = true) := hbd
  clear hmk hbd
  have h1 : (op == 1) = false := by rw [eq_of_beq hop]; rfl
  have wr : IntKind.i64.wrap (od + 1) = od + 1 := by rw [IntKind.wrap_i64]; omega
  go_enter Tryd.func31, Tryd.ntmps31
  go_wp2_with fail
  refine (specRulesOk_c _ _ _ _ _ _).mono ?_
  rintro e w1 ⟨rfl, hb1⟩
  have hC1 : doC w s j m g o kn l h si la od op n w1 := ⟨cellOn hb1 (by go_simp), cellOn hb1 (by go_simp), cellOn hb1 (by go_simp), cellOn hb1 (by go_simp), cellOn hb1 (by go_simp), cellOn hb1 (by go_simp), cellOn hb1 (by go_simp), cellOn hb1 (by go_simp), cellOn hb1 (by go_simp), cellOn hb1 (by go_simp), cellOn hb1 (by go_simp), cellOn hb1 (by go_simp), cellOn hb1 (by go_simp), cellOn hb1 (by go_simp), cellOn hb1 (by go_simp), cellOn hb1 (by go_simp), cellOn hb1 (by go_simp), cellOn hb1 (by go_simp), cellOn hb1 (by go_simp), frozenOn hb1 (v := .bool kn) (by go_simp) (by go_simp), frozenOn hb1 (v := .int .i64 l) (by go_simp) (by go_simp), frozenOn hb1 (v := .int .i64 h) (by go_simp) (by go_simp), frozenOn hb1 (v := .int .i64 si) (by go_simp) (by go_simp), frozenOn hb1 (v := .int .i64 la) (by go_simp) (by go_simp), frozenOn hb1 (v := .int .i64 od) (by go_simp) (by go_simp), frozenOn hb1 (v := .bool false) (by go_simp) (by go_simp), frozenOn hb1 (v := .int .i64 0) (by go_simp) (by go_simp), frozenOn hb1 (v := .int .i64 0) (by go_simp) (by go_simp), frozenOn hb1 (v := .int .i64 0) (by go_simp) (by go_simp), frozenOn hb1 (v := .int .i64 0) (by go_simp) (by go_simp), frozenOn hb1 (v := .int .i64 0) (by go_simp) (by go_simp), nbTrans (nbAlloc (nbAlloc (nbAlloc (nbAlloc (Below.refl _ _) _) _) _) _) hb1⟩
  have c0 : w1.cell? ⟨w.heap.size, 0, none⟩ = some (.int .i64 s) := hC1.1
  have c1 : w1.cell? ⟨w.heap.size, 1, none⟩ = some (.int .i64 j) := hC1.2.1
  have c2 : w1.cell? ⟨w.heap.size, 2, none⟩ = some (.int .i64 m) := hC1.2.2.1
  have c3 : w1.cell? ⟨w.heap.size, 3, none⟩ = some (.int .i64 g) := hC1.2.2.2.1
  have c4 : w1.cell? ⟨w.heap.size, 4, none⟩ = some (.int .i64 o) := hC1.2.2.2.2.1
  have c5 : w1.cell? ⟨w.heap.size + 1, 0, none⟩ = some (.bool kn) := hC1.2.2.2.2.2.1
  have c6 : w1.cell? ⟨w.heap.size + 1, 1, none⟩ = some (.int .i64 l) := hC1.2.2.2.2.2.2.1
  have c7 : w1.cell? ⟨w.heap.size + 1, 2, none⟩ = some (.int .i64 h) := hC1.2.2.2.2.2.2.2.1
  have c8 : w1.cell? ⟨w.heap.size + 1, 3, none⟩ = some (.int .i64 si) := hC1.2.2.2.2.2.2.2.2.1
  have c9 : w1.cell? ⟨w.heap.size + 1, 4, none⟩ = some (.int .i64 la) := hC1.2.2.2.2.2.2.2.2.2.1
  have c10 : w1.cell? ⟨w.heap.size + 1, 5, none⟩ = some (.int .i64 od) := hC1.2.2.2.2.2.2.2.2.2.2.1
  have c11 : w1.cell? ⟨w.heap.size + 1 + 1, 0, none⟩ = some (.int .i64 op) := hC1.2.2.2.2.2.2.2.2.2.2.2.1
  have c12 : w1.cell? ⟨w.heap.size + 1 + 1, 1, none⟩ = some (.int .i64 n) := hC1.2.2.2.2.2.2.2.2.2.2.2.2.1
  have c13 : w1.cell? ⟨w.heap.size + 1 + 1 + 1, 0, none⟩ = some (.bool false) := hC1.2.2.2.2.2.2.2.2.2.2.2.2.2.1
  have c14 : w1.cell? ⟨w.heap.size + 1 + 1 + 1, 1, none⟩ = some (.int .i64 0) := hC1.2.2.2.2.2.2.2.2.2.2.2.2.2.2.1
  have c15 : w1.cell? ⟨w.heap.size + 1 + 1 + 1, 2, none⟩ = some (.int .i64 0) := hC1.2.2.2.2.2.2.2.2.2.2.2.2.2.2.2.1
  have c16 : w1.cell? ⟨w.heap.size + 1 + 1 + 1, 3, none⟩ = some (.int .i64 0) := hC1.2.2.2.2.2.2.2.2.2.2.2.2.2.2.2.2.1
  have c17 : w1.cell? ⟨w.heap.size + 1 + 1 + 1, 4, none⟩ = some (.int .i64 0) := hC1.2.2.2.2.2.2.2.2.2.2.2.2.2.2.2.2.2.1
  have c18 : w1.cell? ⟨w.heap.size + 1 + 1 + 1, 5, none⟩ = some (.int .i64 0) := hC1.2.2.2.2.2.2.2.2.2.2.2.2.2.2.2.2.2.2.1
  have c19 : w1.frozen? ⟨w.heap.size + 1, 0, none⟩ = false := hC1.2.2.2.2.2.2.2.2.2.2.2.2.2.2.2.2.2.2.2.1
  have c20 : w1.frozen? ⟨w.heap.size + 1, 1, none⟩ = false := hC1.2.2.2.2.2.2.2.2.2.2.2.2.2.2.2.2.2.2.2.2.1
  have c21 : w1.frozen? ⟨w.heap.size + 1, 2, none⟩ = false := hC1.2.2.2.2.2.2.2.2.2.2.2.2.2.2.2.2.2.2.2.2.2.1
  have c22 : w1.frozen? ⟨w.heap.size + 1, 3, none⟩ = false := hC1.2.2.2.2.2.2.2.2.2.2.2.2.2.2.2.2.2.2.2.2.2.2.1
  have c23 : w1.frozen? ⟨w.heap.size + 1, 4, none⟩ = false := hC1.2.2.2.2.2.2.2.2.2.2.2.2.2.2.2.2.2.2.2.2.2.2.2.1
  have c24 : w1.frozen? ⟨w.heap.size + 1, 5, none⟩ = false := hC1.2.2.2.2.2.2.2.2.2.2.2.2.2.2.2.2.2.2.2.2.2.2.2.2.1
  have c25 : w1.frozen? ⟨w.heap.size + 1 + 1 + 1, 0, none⟩ = false := hC1.2.2.2.2.2.2.2.2.2.2.2.2.2.2.2.2.2.2.2.2.2.2.2.2.2.1
  have c26 : w1.frozen? ⟨w.heap.size + 1 + 1 + 1, 1, none⟩ = false := hC1.2.2.2.2.2.2.2.2.2.2.2.2.2.2.2.2.2.2.2.2.2.2.2.2.2.2.1
  have c27 : w1.frozen? ⟨w.heap.size + 1 + 1 + 1, 2, none⟩ = false := hC1.2.2.2.2.2.2.2.2.2.2.2.2.2.2.2.2.2.2.2.2.2.2.2.2.2.2.2.1
  have c28 : w1.frozen? ⟨w.heap.size + 1 + 1 + 1, 3, none⟩ = false := hC1.2.2.2.2.2.2.2.2.2.2.2.2.2.2.2.2.2.2.2.2.2.2.2.2.2.2.2.2.1
  have c29 : w1.frozen? ⟨w.heap.size + 1 + 1 + 1, 4, none⟩ = false := hC1.2.2.2.2.2.2.2.2.2.2.2.2.2.2.2.2.2.2.2.2.2.2.2.2.2.2.2.2.2.1
  have c30 : w1.frozen? ⟨w.heap.size + 1 + 1 + 1, 5, none⟩ = false := hC1.2.2.2.2.2.2.2.2.2.2.2.2.2.2.2.2.2.2.2.2.2.2.2.2.2.2.2.2.2.2.1
  have c31 : Below w.heap.size w w1 := hC1.2.2.2.2.2.2.2.2.2.2.2.2.2.2.2.2.2.2.2.2.2.2.2.2.2.2.2.2.2.2.2
  go_wp2_with fail
  clear c0 c1 c2 c3 c4 c5 c6 c7 c8 c9 c10 c11 c12 c13 c14 c15 c16 c17 c18 c19 c20 c21 c22 c23 c24 c25 c26 c27 c28 c29 c30 c31
  have hB1 : Below w.heap.size w w1 := hC1.2.2.2.2.2.2.2.2.2.2.2.2.2.2.2.2.2.2.2.2.2.2.2.2.2.2.2.2.2.2.2
  refine (specStateOk_c _ _ _ (marksB f a len) _ _ _ _ _ _ _ hl (by intro w' hw'; exact specMarksOk_c b off len cap f a w' hl ((hrow.on hB1).on hw'))).mono ?_
  rintro e w2 ⟨rfl, hb2⟩
  have hC2 := doC_on hC1 hb2
  have c0 : w2.cell? ⟨w.heap.size, 0, none⟩ = some (.int .i64 s) := hC2.1
  have c1 : w2.cell? ⟨w.heap.size, 1, none⟩ = some (.int .i64 j) := hC2.2.1
  have c2 : w2.cell? ⟨w.heap.size, 2, none⟩ = some (.int .i64 m) := hC2.2.2.1
  have c3 : w2.cell? ⟨w.heap.size, 3, none⟩ = some (.int .i64 g) := hC2.2.2.2.1
  have c4 : w2.cell? ⟨w.heap.size, 4, none⟩ = some (.int .i64 o) := hC2.2.2.2.2.1
  have c5 : w2.cell? ⟨w.heap.size + 1, 0, none⟩ = some (.bool kn) := hC2.2.2.2.2.2.1
  have c6 : w2.cell? ⟨w.heap.size + 1, 1, none⟩ = some (.int .i64 l) := hC2.2.2.2.2.2.2.1
  have c7 : w2.cell? ⟨w.heap.size + 1, 2, none⟩ = some (.int .i64 h) := hC2.2.2.2.2.2.2.2.1
  have c8 : w2.cell? ⟨w.heap.size + 1, 3, none⟩ = some (.int .i64 si) := hC2.2.2.2.2.2.2.2.2.1
  have c9 : w2.cell? ⟨w.heap.size + 1, 4, none⟩ = some (.int .i64 la) := hC2.2.2.2.2.2.2.2.2.2.1
  have c10 : w2.cell? ⟨w.heap.size + 1, 5, none⟩ = some (.int .i64 od) := hC2.2.2.2.2.2.2.2.2.2.2.1
  have c11 : w2.cell? ⟨w.heap.size + 1 + 1, 0, none⟩ = some (.int .i64 op) := hC2.2.2.2.2.2.2.2.2.2.2.2.1
  have c12 : w2.cell? ⟨w.heap.size + 1 + 1, 1, none⟩ = some (.int .i64 n) := hC2.2.2.2.2.2.2.2.2.2.2.2.2.1
  have c13 : w2.cell? ⟨w.heap.size + 1 + 1 + 1, 0, none⟩ = some (.bool false) := hC2.2.2.2.2.2.2.2.2.2.2.2.2.2.1
  have c14 : w2.cell? ⟨w.heap.size + 1 + 1 + 1, 1, none⟩ = some (.int .i64 0) := hC2.2.2.2.2.2.2.2.2.2.2.2.2.2.2.1
  have c15 : w2.cell? ⟨w.heap.size + 1 + 1 + 1, 2, none⟩ = some (.int .i64 0) := hC2.2.2.2.2.2.2.2.2.2.2.2.2.2.2.2.1
  have c16 : w2.cell? ⟨w.heap.size + 1 + 1 + 1, 3, none⟩ = some (.int .i64 0) := hC2.2.2.2.2.2.2.2.2.2.2.2.2.2.2.2.2.1
  have c17 : w2.cell? ⟨w.heap.size + 1 + 1 + 1, 4, none⟩ = some (.int .i64 0) := hC2.2.2.2.2.2.2.2.2.2.2.2.2.2.2.2.2.2.1
  have c18 : w2.cell? ⟨w.heap.size + 1 + 1 + 1, 5, none⟩ = some (.int .i64 0) := hC2.2.2.2.2.2.2.2.2.2.2.2.2.2.2.2.2.2.2.1
  have c19 : w2.frozen? ⟨w.heap.size + 1, 0, none⟩ = false := hC2.2.2.2.2.2.2.2.2.2.2.2.2.2.2.2.2.2.2.2.1
  have c20 : w2.frozen? ⟨w.heap.size + 1, 1, none⟩ = false := hC2.2.2.2.2.2.2.2.2.2.2.2.2.2.2.2.2.2.2.2.2.1
  have c21 : w2.frozen? ⟨w.heap.size + 1, 2, none⟩ = false := hC2.2.2.2.2.2.2.2.2.2.2.2.2.2.2.2.2.2.2.2.2.2.1
  have c22 : w2.frozen? ⟨w.heap.size + 1, 3, none⟩ = false := hC2.2.2.2.2.2.2.2.2.2.2.2.2.2.2.2.2.2.2.2.2.2.2.1
  have c23 : w2.frozen? ⟨w.heap.size + 1, 4, none⟩ = false := hC2.2.2.2.2.2.2.2.2.2.2.2.2.2.2.2.2.2.2.2.2.2.2.2.1
  have c24 : w2.frozen? ⟨w.heap.size + 1, 5, none⟩ = false := hC2.2.2.2.2.2.2.2.2.2.2.2.2.2.2.2.2.2.2.2.2.2.2.2.2.1
  have c25 : w2.frozen? ⟨w.heap.size + 1 + 1 + 1, 0, none⟩ = false := hC2.2.2.2.2.2.2.2.2.2.2.2.2.2.2.2.2.2.2.2.2.2.2.2.2.2.1
  have c26 : w2.frozen? ⟨w.heap.size + 1 + 1 + 1, 1, none⟩ = false := hC2.2.2.2.2.2.2.2.2.2.2.2.2.2.2.2.2.2.2.2.2.2.2.2.2.2.2.1
  have c27 : w2.frozen? ⟨w.heap.size + 1 + 1 + 1, 2, none⟩ = false := hC2.2.2.2.2.2.2.2.2.2.2.2.2.2.2.2.2.2.2.2.2.2.2.2.2.2.2.2.1
  have c28 : w2.frozen? ⟨w.heap.size + 1 + 1 + 1, 3, none⟩ = false := hC2.2.2.2.2.2.2.2.2.2.2.2.2.2.2.2.2.2.2.2.2.2.2.2.2.2.2.2.2.1
  have c29 : w2.frozen? ⟨w.heap.size + 1 + 1 + 1, 4, none⟩ = false := hC2.2.2.2.2.2.2.2.2.2.2.2.2.2.2.2.2.2.2.2.2.2.2.2.2.2.2.2.2.2.1
  have c30 : w2.frozen? ⟨w.heap.size + 1 + 1 + 1, 5, none⟩ = false := hC2.2.2.2.2.2.2.2.2.2.2.2.2.2.2.2.2.2.2.2.2.2.2.2.2.2.2.2.2.2.2.1
  have c31 : Below w.heap.size w w2 := hC2.2.2.2.2.2.2.2.2.2.2.2.2.2.2.2.2.2.2.2.2.2.2.2.2.2.2.2.2.2.2.2
  go_wp2_with fail
  clear c0 c1 c2 c3 c4 c5 c6 c7 c8 c9 c10 c11 c12 c13 c14 c15 c16 c17 c18 c19 c20 c21 c22 c23 c24 c25 c26 c27 c28 c29 c30 c31
  refine (specEventOk_c _ _ _).mono ?_
  rintro e w3 ⟨rfl, hb3⟩
  have hC3 := doC_on hC2 hb3
  have c0 : w3.cell? ⟨w.heap.size, 0, none⟩ = some (.int .i64 s) := hC3.1
  have c1 : w3.cell? ⟨w.heap.size, 1, none⟩ = some (.int .i64 j) := hC3.2.1
  have c2 : w3.cell? ⟨w.heap.size, 2, none⟩ = some (.int .i64 m) := hC3.2.2.1
  have c3 : w3.cell? ⟨w.heap.size, 3, none⟩ = some (.int .i64 g) := hC3.2.2.2.1
  have c4 : w3.cell? ⟨w.heap.size, 4, none⟩ = some (.int .i64 o) := hC3.2.2.2.2.1
  have c5 : w3.cell? ⟨w.heap.size + 1, 0, none⟩ = some (.bool kn) := hC3.2.2.2.2.2.1
  have c6 : w3.cell? ⟨w.heap.size + 1, 1, none⟩ = some (.int .i64 l) := hC3.2.2.2.2.2.2.1
  have c7 : w3.cell? ⟨w.heap.size + 1, 2, none⟩ = some (.int .i64 h) := hC3.2.2.2.2.2.2.2.1
  have c8 : w3.cell? ⟨w.heap.size + 1, 3, none⟩ = some (.int .i64 si) := hC3.2.2.2.2.2.2.2.2.1
  have c9 : w3.cell? ⟨w.heap.size + 1, 4, none⟩ = some (.int .i64 la) := hC3.2.2.2.2.2.2.2.2.2.1
  have c10 : w3.cell? ⟨w.heap.size + 1, 5, none⟩ = some (.int .i64 od) := hC3.2.2.2.2.2.2.2.2.2.2.1
  have c11 : w3.cell? ⟨w.heap.size + 1 + 1, 0, none⟩ = some (.int .i64 op) := hC3.2.2.2.2.2.2.2.2.2.2.2.1
  have c12 : w3.cell? ⟨w.heap.size + 1 + 1, 1, none⟩ = some (.int .i64 n) := hC3.2.2.2.2.2.2.2.2.2.2.2.2.1
  have c13 : w3.cell? ⟨w.heap.size + 1 + 1 + 1, 0, none⟩ = some (.bool false) := hC3.2.2.2.2.2.2.2.2.2.2.2.2.2.1
  have c14 : w3.cell? ⟨w.heap.size + 1 + 1 + 1, 1, none⟩ = some (.int .i64 0) := hC3.2.2.2.2.2.2.2.2.2.2.2.2.2.2.1
  have c15 : w3.cell? ⟨w.heap.size + 1 + 1 + 1, 2, none⟩ = some (.int .i64 0) := hC3.2.2.2.2.2.2.2.2.2.2.2.2.2.2.2.1
  have c16 : w3.cell? ⟨w.heap.size + 1 + 1 + 1, 3, none⟩ = some (.int .i64 0) := hC3.2.2.2.2.2.2.2.2.2.2.2.2.2.2.2.2.1
  have c17 : w3.cell? ⟨w.heap.size + 1 + 1 + 1, 4, none⟩ = some (.int .i64 0) := hC3.2.2.2.2.2.2.2.2.2.2.2.2.2.2.2.2.2.1
  have c18 : w3.cell? ⟨w.heap.size + 1 + 1 + 1, 5, none⟩ = some (.int .i64 0) := hC3.2.2.2.2.2.2.2.2.2.2.2.2.2.2.2.2.2.2.1
  have c19 : w3.frozen? ⟨w.heap.size + 1, 0, none⟩ = false := hC3.2.2.2.2.2.2.2.2.2.2.2.2.2.2.2.2.2.2.2.1
  have c20 : w3.frozen? ⟨w.heap.size + 1, 1, none⟩ = false := hC3.2.2.2.2.2.2.2.2.2.2.2.2.2.2.2.2.2.2.2.2.1
  have c21 : w3.frozen? ⟨w.heap.size + 1, 2, none⟩ = false := hC3.2.2.2.2.2.2.2.2.2.2.2.2.2.2.2.2.2.2.2.2.2.1
  have c22 : w3.frozen? ⟨w.heap.size + 1, 3, none⟩ = false := hC3.2.2.2.2.2.2.2.2.2.2.2.2.2.2.2.2.2.2.2.2.2.2.1
  have c23 : w3.frozen? ⟨w.heap.size + 1, 4, none⟩ = false := hC3.2.2.2.2.2.2.2.2.2.2.2.2.2.2.2.2.2.2.2.2.2.2.2.1
  have c24 : w3.frozen? ⟨w.heap.size + 1, 5, none⟩ = false := hC3.2.2.2.2.2.2.2.2.2.2.2.2.2.2.2.2.2.2.2.2.2.2.2.2.1
  have c25 : w3.frozen? ⟨w.heap.size + 1 + 1 + 1, 0, none⟩ = false := hC3.2.2.2.2.2.2.2.2.2.2.2.2.2.2.2.2.2.2.2.2.2.2.2.2.2.1
  have c26 : w3.frozen? ⟨w.heap.size + 1 + 1 + 1, 1, none⟩ = false := hC3.2.2.2.2.2.2.2.2.2.2.2.2.2.2.2.2.2.2.2.2.2.2.2.2.2.2.1
  have c27 : w3.frozen? ⟨w.heap.size + 1 + 1 + 1, 2, none⟩ = false := hC3.2.2.2.2.2.2.2.2.2.2.2.2.2.2.2.2.2.2.2.2.2.2.2.2.2.2.2.1
  have c28 : w3.frozen? ⟨w.heap.size + 1 + 1 + 1, 3, none⟩ = false := hC3.2.2.2.2.2.2.2.2.2.2.2.2.2.2.2.2.2.2.2.2.2.2.2.2.2.2.2.2.1
  have c29 : w3.frozen? ⟨w.heap.size + 1 + 1 + 1, 4, none⟩ = false := hC3.2.2.2.2.2.2.2.2.2.2.2.2.2.2.2.2.2.2.2.2.2.2.2.2.2.2.2.2.2.1
  have c30 : w3.frozen? ⟨w.heap.size + 1 + 1 + 1, 5, none⟩ = false := hC3.2.2.2.2.2.2.2.2.2.2.2.2.2.2.2.2.2.2.2.2.2.2.2.2.2.2.2.2.2.2.1
  have c31 : Below w.heap.size w w3 := hC3.2.2.2.2.2.2.2.2.2.2.2.2.2.2.2.2.2.2.2.2.2.2.2.2.2.2.2.2.2.2.2
  go_wp2_with fail
  clear c0 c1 c2 c3 c4 c5 c6 c7 c8 c9 c10 c11 c12 c13 c14 c15 c16 c17 c18 c19 c20 c21 c22 c23 c24 c25 c26 c27 c28 c29 c30 c31
  go_loopw [9, 52] (fun kv iv wr => ∃ k : Nat, iv = .int .i64 k ∧ kv = .int .i64 (lastIx f n k) ∧ k ≤ len ∧ doC w s j m g o kn l h si la od op n wr) (fun _ iv _ => len - (intOf iv).toNat)
  case atStart => exact ⟨0, rfl, rfl, by omega, hC3⟩
  case round =>
    obtain ⟨k, rfl, rfl, hk, hC⟩ := hrel
    have c0 : wr.cell? ⟨w.heap.size, 0, none⟩ = some (.int .i64 s) := hC.1
    have c1 : wr.cell? ⟨w.heap.size, 1, none⟩ = some (.int .i64 j) := hC.2.1
    have c2 : wr.cell? ⟨w.heap.size, 2, none⟩ = some (.int .i64 m) := hC.2.2.1
    have c3 : wr.cell? ⟨w.heap.size, 3, none⟩ = some (.int .i64 g) := hC.2.2.2.1
    have c4 : wr.cell? ⟨w.heap.size, 4, none⟩ = some (.int .i64 o) := hC.2.2.2.2.1
    have c5 : wr.cell? ⟨w.heap.size + 1, 0, none⟩ = some (.bool kn) := hC.2.2.2.2.2.1
    have c6 : wr.cell? ⟨w.heap.size + 1, 1, none⟩ = some (.int .i64 l) := hC.2.2.2.2.2.2.1
    have c7 : wr.cell? ⟨w.heap.size + 1, 2, none⟩ = some (.int .i64 h) := hC.2.2.2.2.2.2.2.1
    have c8 : wr.cell? ⟨w.heap.size + 1, 3, none⟩ = some (.int .i64 si) := hC.2.2.2.2.2.2.2.2.1
    have c9 : wr.cell? ⟨w.heap.size + 1, 4, none⟩ = some (.int .i64 la) := hC.2.2.2.2.2.2.2.2.2.1
    have c10 : wr.cell? ⟨w.heap.size + 1, 5, none⟩ = some (.int .i64 od) := hC.2.2.2.2.2.2.2.2.2.2.1
    have c11 : wr.cell? ⟨w.heap.size + 1 + 1, 0, none⟩ = some (.int .i64 op) := hC.2.2.2.2.2.2.2.2.2.2.2.1
    have c12 : wr.cell? ⟨w.heap.size + 1 + 1, 1, none⟩ = some (.int .i64 n) := hC.2.2.2.2.2.2.2.2.2.2.2.2.1
    have c13 : wr.cell? ⟨w.heap.size + 1 + 1 + 1, 0, none⟩ = some (.bool false) := hC.2.2.2.2.2.2.2.2.2.2.2.2.2.1
    have c14 : wr.cell? ⟨w.heap.size + 1 + 1 + 1, 1, none⟩ = some (.int .i64 0) := hC.2.2.2.2.2.2.2.2.2.2.2.2.2.2.1
    have c15 : wr.cell? ⟨w.heap.size + 1 + 1 + 1, 2, none⟩ = some (.int .i64 0) := hC.2.2.2.2.2.2.2.2.2.2.2.2.2.2.2.1
    have c16 : wr.cell? ⟨w.heap.size + 1 + 1 + 1, 3, none⟩ = some (.int .i64 0) := hC.2.2.2.2.2.2.2.2.2.2.2.2.2.2.2.2.1
    have c17 : wr.cell? ⟨w.heap.size + 1 + 1 + 1, 4, none⟩ = some (.int .i64 0) := hC.2.2.2.2.2.2.2.2.2.2.2.2.2.2.2.2.2.1
    have c18 : wr.cell? ⟨w.heap.size + 1 + 1 + 1, 5, none⟩ = some (.int .i64 0) := hC.2.2.2.2.2.2.2.2.2.2.2.2.2.2.2.2.2.2.1
    have c19 : wr.frozen? ⟨w.heap.size + 1, 0, none⟩ = false := hC.2.2.2.2.2.2.2.2.2.2.2.2.2.2.2.2.2.2.2.1
    have c20 : wr.frozen? ⟨w.heap.size + 1, 1, none⟩ = false := hC.2.2.2.2.2.2.2.2.2.2.2.2.2.2.2.2.2.2.2.2.1
    have c21 : wr.frozen? ⟨w.heap.size + 1, 2, none⟩ = false := hC.2.2.2.2.2.2.2.2.2.2.2.2.2.2.2.2.2.2.2.2.2.1
    have c22 : wr.frozen? ⟨w.heap.size + 1, 3, none⟩ = false := hC.2.2.2.2.2.2.2.2.2.2.2.2.2.2.2.2.2.2.2.2.2.2.1
    have c23 : wr.frozen? ⟨w.heap.size + 1, 4, none⟩ = false := hC.2.2.2.2.2.2.2.2.2.2.2.2.2.2.2.2.2.2.2.2.2.2.2.1
    have c24 : wr.frozen? ⟨w.heap.size + 1, 5, none⟩ = false := hC.2.2.2.2.2.2.2.2.2.2.2.2.2.2.2.2.2.2.2.2.2.2.2.2.1
    have c25 : wr.frozen? ⟨w.heap.size + 1 + 1 + 1, 0, none⟩ = false := hC.2.2.2.2.2.2.2.2.2.2.2.2.2.2.2.2.2.2.2.2.2.2.2.2.2.1
    have c26 : wr.frozen? ⟨w.heap.size + 1 + 1 + 1, 1, none⟩ = false := hC.2.2.2.2.2.2.2.2.2.2.2.2.2.2.2.2.2.2.2.2.2.2.2.2.2.2.1
    have c27 : wr.frozen? ⟨w.heap.size + 1 + 1 + 1, 2, none⟩ = false := hC.2.2.2.2.2.2.2.2.2.2.2.2.2.2.2.2.2.2.2.2.2.2.2.2.2.2.2.1
    have c28 : wr.frozen? ⟨w.heap.size + 1 + 1 + 1, 3, none⟩ = false := hC.2.2.2.2.2.2.2.2.2.2.2.2.2.2.2.2.2.2.2.2.2.2.2.2.2.2.2.2.1
    have c29 : wr.frozen? ⟨w.heap.size + 1 + 1 + 1, 4, none⟩ = false := hC.2.2.2.2.2.2.2.2.2.2.2.2.2.2.2.2.2.2.2.2.2.2.2.2.2.2.2.2.2.1
    have c30 : wr.frozen? ⟨w.heap.size + 1 + 1 + 1, 5, none⟩ = false := hC.2.2.2.2.2.2.2.2.2.2.2.2.2.2.2.2.2.2.2.2.2.2.2.2.2.2.2.2.2.2.1
    have c31 : Below w.heap.size w wr := hC.2.2.2.2.2.2.2.2.2.2.2.2.2.2.2.2.2.2.2.2.2.2.2.2.2.2.2.2.2.2.2
    by_cases hlt : k < len
    · have i0 : (0 : Int) ≤ (k : Int) := by omega
      have i1 : (k : Int) < (len : Int) := by omega
      have d0 := cellOn c31 (hrow k hlt).1
      have d1 := cellOn c31 (hrow k hlt).2
      have e0 := cellNew c12
      cases hfk : (f k == n)
      · go_wp2_with fail
        go_roundw
        case rel => exact ⟨k + 1, by go_num, by rw [lastIx_no hfk], by omega, doC_on hC (nbAlloc (Below.refl _ _) _)⟩
        case measure => simp [intOf]; omega
      · go_wp2_with fail
        go_roundw
        case rel => exact ⟨k + 1, by go_num, by rw [lastIx_yes hfk], by omega, doC_on hC (nbAlloc (Below.refl _ _) _)⟩
        case measure => simp [intOf]; omega
    · have hkl : len = k := by omega
      subst hkl
      rw [hK.out]
      go_wp2_with fail
      refine (l2least_c _ _ _).mono ?_
      rintro e w4 ⟨rfl, rfl⟩
      go_wp2_with fail
      have hq1 : w.heap.size ≤ w.heap.size + 1 := by omega
      have hq3 : w.heap.size ≤ w.heap.size + 1 + 1 + 1 := by omega
      exact bodyPost_ret (v := .agg #[.bool kn, .int .i64 l, .int .i64 h, .int .i64 si, .int .i64 la, .int .i64 (min (od + 1) 1000000000)]) (by simp [results, Tryd.results31, go_sem, *]) rfl ⟨rfl, (nbSetX (nbSetX (nbSetX (nbSetX (nbSetX (nbSetX (nbSetX c31 hq1) hq3) hq3) hq3) hq3) hq3) hq3)⟩

set_option maxHeartbeats 4000000 in
theorem specDo_mark0 (b off len cap : Nat) (f a : Nat → Int) (s j m g o : Int) (l h si la od op n : Int) (w : World) (hl : len ≤ 1048576) (hrow : Row2 w b off len f a) (hr : rOk s j m g o = true) (hst : stB (marksB f a len) len false l h si la od = true) (hev : evB op n = true) (hop : (op == 2) = true) (kk : Nat) (hK : Hid (lastIx f n len = (kk : Int))) (hkk : kk < len) (z : Int) (hz : Hid (a kk = z)) (hz1 : inB z 0 100000000 = true) :
    Calls Tryd.prog 31 #[.agg #[.int .i64 s, .int .i64 j, .int .i64 m, .int .i64 g, .int .i64 o], .slice (some ⟨b, off, none⟩) len cap, .agg #[.bool false, .int .i64 l, .int .i64 h, .int .i64 si, .int .i64 la, .int .i64 od], .agg #[.int .i64 op, .int .i64 n]] w fun e w' => e = .returned (.agg #[.bool true, .int .i64 (min (z - m) 100000000), .int .i64 (min (z + m) 100000000), .int .i64 0, .int .i64 ((kk : Int)), .int .i64 od]) ∧ Below w.heap.size w w' := by
  have hst' := hst
  simp only [stB, inB, Bool.and_eq_true, decide_eq_true_eq] at hst'
  obtain ⟨⟨⟨⟨hmk, hla0, hla1⟩, hsi0, hsi1⟩, hod0, hod1⟩, hbd⟩ := hst'
  have HMK : Hid (marksB f a len = true) := hmk
  have HBD : Hid ((if false then bOk l h else l == 0 && h == 0 && la == -1) = true) := hbd
  clear hmk hbd
  have h1 : (op == 1) = false := by rw [eq_of_beq hop]; rfl
  have hr' := hr
  have hz' := hz1
  simp only [rOk, inB, Bool.and_eq_true, decide_eq_true_eq] at hr' hz'
  obtain ⟨⟨⟨⟨⟨hs0, hs⟩, hj0, hj⟩, hm0, hm1⟩, -⟩, -⟩ := hr'
  obtain ⟨hz0, hz2⟩ := hz'
  have wr1 : IntKind.i64.wrap (z - m) = z - m := wrapS (by omega) (by omega)
  have wr2 : IntKind.i64.wrap (z + m) = z + m := wrapS (by omega) (by omega)
  go_enter Tryd.func31, Tryd.ntmps31
  go_wp2_with fail
  refine (specRulesOk_c _ _ _ _ _ _).mono ?_
  rintro e w1 ⟨rfl, hb1⟩
  have hC1 : doC w s j m g o false l h si la od op n w1 := ⟨cellOn hb1 (by go_simp), cellOn hb1 (by go_simp), cellOn hb1 (by go_simp), cellOn hb1 (by go_simp), cellOn hb1 (by go_simp), cellOn hb1 (by go_simp), cellOn hb1 (by go_simp), cellOn hb1 (by go_simp), cellOn hb1 (by go_simp), cellOn hb1 (by go_simp), cellOn hb1 (by go_simp), cellOn hb1 (by go_simp), cellOn hb1 (by go_simp), cellOn hb1 (by go_simp), cellOn hb1 (by go_simp), cellOn hb1 (by go_simp), cellOn hb1 (by go_simp), cellOn hb1 (by go_simp), cellOn hb1 (by go_simp), frozenOn hb1 (v := .bool false) (by go_simp) (by go_simp), frozenOn hb1 (v := .int .i64 l) (by go_simp) (by go_simp), frozenOn hb1 (v := .int .i64 h) (by go_simp) (by go_simp), frozenOn hb1 (v := .int .i64 si) (by go_simp) (by go_simp), frozenOn hb1 (v := .int .i64 la) (by go_simp) (by go_simp), frozenOn hb1 (v := .int .i64 od) (by go_simp) (by go_simp), frozenOn hb1 (v := .bool false) (by go_simp) (by go_simp), frozenOn hb1 (v := .int .i64 0) (by go_simp) (by go_simp), frozenOn hb1 (v := .int .i64 0) (by go_simp) (by go_simp), frozenOn hb1 (v := .int .i64 0) (by go_simp) (by go_simp), frozenOn hb1 (v := .int .i64 0) (by go_simp) (by go_simp), frozenOn hb1 (v := .int .i64 0) (by go_simp) (by go_simp), nbTrans (nbAlloc (nbAlloc (nbAlloc (nbAlloc (Below.refl _ _) _) _) _) _) hb1⟩
  have c0 : w1.cell? ⟨w.heap.size, 0, none⟩ = some (.int .i64 s) := hC1.1
  have c1 : w1.cell? ⟨w.heap.size, 1, none⟩ = some (.int .i64 j) := hC1.2.1
  have c2 : w1.cell? ⟨w.heap.size, 2, none⟩ = some (.int .i64 m) := hC1.2.2.1
  have c3 : w1.cell? ⟨w.heap.size, 3, none⟩ = some (.int .i64 g) := hC1.2.2.2.1
  have c4 : w1.cell? ⟨w.heap.size, 4, none⟩ = some (.int .i64 o) := hC1.2.2.2.2.1
  have c5 : w1.cell? ⟨w.heap.size + 1, 0, none⟩ = some (.bool false) := hC1.2.2.2.2.2.1
  have c6 : w1.cell? ⟨w.heap.size + 1, 1, none⟩ = some (.int .i64 l) := hC1.2.2.2.2.2.2.1
  have c7 : w1.cell? ⟨w.heap.size + 1, 2, none⟩ = some (.int .i64 h) := hC1.2.2.2.2.2.2.2.1
  have c8 : w1.cell? ⟨w.heap.size + 1, 3, none⟩ = some (.int .i64 si) := hC1.2.2.2.2.2.2.2.2.1
  have c9 : w1.cell? ⟨w.heap.size + 1, 4, none⟩ = some (.int .i64 la) := hC1.2.2.2.2.2.2.2.2.2.1
  have c10 : w1.cell? ⟨w.heap.size + 1, 5, none⟩ = some (.int .i64 od) := hC1.2.2.2.2.2.2.2.2.2.2.1
  have c11 : w1.cell? ⟨w.heap.size + 1 + 1, 0, none⟩ = some (.int .i64 op) := hC1.2.2.2.2.2.2.2.2.2.2.2.1
  have c12 : w1.cell? ⟨w.heap.size + 1 + 1, 1, none⟩ = some (.int .i64 n) := hC1.2.2.2.2.2.2.2.2.2.2.2.2.1
  have c13 : w1.cell? ⟨w.heap.size + 1 + 1 + 1, 0, none⟩ = some (.bool false) := hC1.2.2.2.2.2.2.2.2.2.2.2.2.2.1
  have c14 : w1.cell? ⟨w.heap.size + 1 + 1 + 1, 1, none⟩ = some (.int .i64 0) := hC1.2.2.2.2.2.2.2.2.2.2.2.2.2.2.1
  have c15 : w1.cell? ⟨w.heap.size + 1 + 1 + 1, 2, none⟩ = some (.int .i64 0) := hC1.2.2.2.2.2.2.2.2.2.2.2.2.2.2.2.1
  have c16 : w1.cell? ⟨w.heap.size + 1 + 1 + 1, 3, none⟩ = some (.int .i64 0) := hC1.2.2.2.2.2.2.2.2.2.2.2.2.2.2.2.2.1
  have c17 : w1.cell? ⟨w.heap.size + 1 + 1 + 1, 4, none⟩ = some (.int .i64 0) := hC1.2.2.2.2.2.2.2.2.2.2.2.2.2.2.2.2.2.1
  have c18 : w1.cell? ⟨w.heap.size + 1 + 1 + 1, 5, none⟩ = some (.int .i64 0) := hC1.2.2.2.2.2.2.2.2.2.2.2.2.2.2.2.2.2.2.1
  have c19 : w1.frozen? ⟨w.heap.size + 1, 0, none⟩ = false := hC1.2.2.2.2.2.2.2.2.2.2.2.2.2.2.2.2.2.2.2.1
  have c20 : w1.frozen? ⟨w.heap.size + 1, 1, none⟩ = false := hC1.2.2.2.2.2.2.2.2.2.2.2.2.2.2.2.2.2.2.2.2.1
  have c21 : w1.frozen? ⟨w.heap.size + 1, 2, none⟩ = false := hC1.2.2.2.2.2.2.2.2.2.2.2.2.2.2.2.2.2.2.2.2.2.1
  have c22 : w1.frozen? ⟨w.heap.size + 1, 3, none⟩ = false := hC1.2.2.2.2.2.2.2.2.2.2.2.2.2.2.2.2.2.2.2.2.2.2.1
  have c23 : w1.frozen? ⟨w.heap.size + 1, 4, none⟩ = false := hC1.2.2.2.2.2.2.2.2.2.2.2.2.2.2.2.2.2.2.2.2.2.2.2.1
  have c24 : w1.frozen? ⟨w.heap.size + 1, 5, none⟩ = false := hC1.2.2.2.2.2.2.2.2.2.2.2.2.2.2.2.2.2.2.2.2.2.2.2.2.1
  have c25 : w1.frozen? ⟨w.heap.size + 1 + 1 + 1, 0, none⟩ = false := hC1.2.2.2.2.2.2.2.2.2.2.2.2.2.2.2.2.2.2.2.2.2.2.2.2.2.1
  have c26 : w1.frozen? ⟨w.heap.size + 1 + 1 + 1, 1, none⟩ = false := hC1.2.2.2.2.2.2.2.2.2.2.2.2.2.2.2.2.2.2.2.2.2.2.2.2.2.2.1
  have c27 : w1.frozen? ⟨w.heap.size + 1 + 1 + 1, 2, none⟩ = false := hC1.2.2.2.2.2.2.2.2.2.2.2.2.2.2.2.2.2.2.2.2.2.2.2.2.2.2.2.1
  have c28 : w1.frozen? ⟨w.heap.size + 1 + 1 + 1, 3, none⟩ = false := hC1.2.2.2.2.2.2.2.2.2.2.2.2.2.2.2.2.2.2.2.2.2.2.2.2.2.2.2.2.1
  have c29 : w1.frozen? ⟨w.heap.size + 1 + 1 + 1, 4, none⟩ = false := hC1.2.2.2.2.2.2.2.2.2.2.2.2.2.2.2.2.2.2.2.2.2.2.2.2.2.2.2.2.2.1
  have c30 : w1.frozen? ⟨w.heap.size + 1 + 1 + 1, 5, none⟩ = false := hC1.2.2.2.2.2.2.2.2.2.2.2.2.2.2.2.2.2.2.2.2.2.2.2.2.2.2.2.2.2.2.1
  have c31 : Below w.heap.size w w1 := hC1.2.2.2.2.2.2.2.2.2.2.2.2.2.2.2.2.2.2.2.2.2.2.2.2.2.2.2.2.2.2.2
  go_wp2_with fail
  clear c0 c1 c2 c3 c4 c5 c6 c7 c8 c9 c10 c11 c12 c13 c14 c15 c16 c17 c18 c19 c20 c21 c22 c23 c24 c25 c26 c27 c28 c29 c30 c31
  have hB1 : Below w.heap.size w w1 := hC1.2.2.2.2.2.2.2.2.2.2.2.2.2.2.2.2.2.2.2.2.2.2.2.2.2.2.2.2.2.2.2
  refine (specStateOk_c _ _ _ (marksB f a len) _ _ _ _ _ _ _ hl (by intro w' hw'; exact specMarksOk_c b off len cap f a w' hl ((hrow.on hB1).on hw'))).mono ?_
  rintro e w2 ⟨rfl, hb2⟩
  have hC2 := doC_on hC1 hb2
  have c0 : w2.cell? ⟨w.heap.size, 0, none⟩ = some (.int .i64 s) := hC2.1
  have c1 : w2.cell? ⟨w.heap.size, 1, none⟩ = some (.int .i64 j) := hC2.2.1
  have c2 : w2.cell? ⟨w.heap.size, 2, none⟩ = some (.int .i64 m) := hC2.2.2.1
  have c3 : w2.cell? ⟨w.heap.size, 3, none⟩ = some (.int .i64 g) := hC2.2.2.2.1
  have c4 : w2.cell? ⟨w.heap.size, 4, none⟩ = some (.int .i64 o) := hC2.2.2.2.2.1
  have c5 : w2.cell? ⟨w.heap.size + 1, 0, none⟩ = some (.bool false) := hC2.2.2.2.2.2.1
  have c6 : w2.cell? ⟨w.heap.size + 1, 1, none⟩ = some (.int .i64 l) := hC2.2.2.2.2.2.2.1
  have c7 : w2.cell? ⟨w.heap.size + 1, 2, none⟩ = some (.int .i64 h) := hC2.2.2.2.2.2.2.2.1
  have c8 : w2.cell? ⟨w.heap.size + 1, 3, none⟩ = some (.int .i64 si) := hC2.2.2.2.2.2.2.2.2.1
  have c9 : w2.cell? ⟨w.heap.size + 1, 4, none⟩ = some (.int .i64 la) := hC2.2.2.2.2.2.2.2.2.2.1
  have c10 : w2.cell? ⟨w.heap.size + 1, 5, none⟩ = some (.int .i64 od) := hC2.2.2.2.2.2.2.2.2.2.2.1
  have c11 : w2.cell? ⟨w.heap.size + 1 + 1, 0, none⟩ = some (.int .i64 op) := hC2.2.2.2.2.2.2.2.2.2.2.2.1
  have c12 : w2.cell? ⟨w.heap.size + 1 + 1, 1, none⟩ = some (.int .i64 n) := hC2.2.2.2.2.2.2.2.2.2.2.2.2.1
  have c13 : w2.cell? ⟨w.heap.size + 1 + 1 + 1, 0, none⟩ = some (.bool false) := hC2.2.2.2.2.2.2.2.2.2.2.2.2.2.1
  have c14 : w2.cell? ⟨w.heap.size + 1 + 1 + 1, 1, none⟩ = some (.int .i64 0) := hC2.2.2.2.2.2.2.2.2.2.2.2.2.2.2.1
  have c15 : w2.cell? ⟨w.heap.size + 1 + 1 + 1, 2, none⟩ = some (.int .i64 0) := hC2.2.2.2.2.2.2.2.2.2.2.2.2.2.2.2.1
  have c16 : w2.cell? ⟨w.heap.size + 1 + 1 + 1, 3, none⟩ = some (.int .i64 0) := hC2.2.2.2.2.2.2.2.2.2.2.2.2.2.2.2.2.1
  have c17 : w2.cell? ⟨w.heap.size + 1 + 1 + 1, 4, none⟩ = some (.int .i64 0) := hC2.2.2.2.2.2.2.2.2.2.2.2.2.2.2.2.2.2.1
  have c18 : w2.cell? ⟨w.heap.size + 1 + 1 + 1, 5, none⟩ = some (.int .i64 0) := hC2.2.2.2.2.2.2.2.2.2.2.2.2.2.2.2.2.2.2.1
  have c19 : w2.frozen? ⟨w.heap.size + 1, 0, none⟩ = false := hC2.2.2.2.2.2.2.2.2.2.2.2.2.2.2.2.2.2.2.2.1
  have c20 : w2.frozen? ⟨w.heap.size + 1, 1, none⟩ = false := hC2.2.2.2.2.2.2.2.2.2.2.2.2.2.2.2.2.2.2.2.2.1
  have c21 : w2.frozen? ⟨w.heap.size + 1, 2, none⟩ = false := hC2.2.2.2.2.2.2.2.2.2.2.2.2.2.2.2.2.2.2.2.2.2.1
  have c22 : w2.frozen? ⟨w.heap.size + 1, 3, none⟩ = false := hC2.2.2.2.2.2.2.2.2.2.2.2.2.2.2.2.2.2.2.2.2.2.2.1
  have c23 : w2.frozen? ⟨w.heap.size + 1, 4, none⟩ = false := hC2.2.2.2.2.2.2.2.2.2.2.2.2.2.2.2.2.2.2.2.2.2.2.2.1
  have c24 : w2.frozen? ⟨w.heap.size + 1, 5, none⟩ = false := hC2.2.2.2.2.2.2.2.2.2.2.2.2.2.2.2.2.2.2.2.2.2.2.2.2.1
  have c25 : w2.frozen? ⟨w.heap.size + 1 + 1 + 1, 0, none⟩ = false := hC2.2.2.2.2.2.2.2.2.2.2.2.2.2.2.2.2.2.2.2.2.2.2.2.2.2.1
  have c26 : w2.frozen? ⟨w.heap.size + 1 + 1 + 1, 1, none⟩ = false := hC2.2.2.2.2.2.2.2.2.2.2.2.2.2.2.2.2.2.2.2.2.2.2.2.2.2.2.1
  have c27 : w2.frozen? ⟨w.heap.size + 1 + 1 + 1, 2, none⟩ = false := hC2.2.2.2.2.2.2.2.2.2.2.2.2.2.2.2.2.2.2.2.2.2.2.2.2.2.2.2.1
  have c28 : w2.frozen? ⟨w.heap.size + 1 + 1 + 1, 3, none⟩ = false := hC2.2.2.2.2.2.2.2.2.2.2.2.2.2.2.2.2.2.2.2.2.2.2.2.2.2.2.2.2.1
  have c29 : w2.frozen? ⟨w.heap.size + 1 + 1 + 1, 4, none⟩ = false := hC2.2.2.2.2.2.2.2.2.2.2.2.2.2.2.2.2.2.2.2.2.2.2.2.2.2.2.2.2.2.1
  have c30 : w2.frozen? ⟨w.heap.size + 1 + 1 + 1, 5, none⟩ = false := hC2.2.2.2.2.2.2.2.2.2.2.2.2.2.2.2.2.2.2.2.2.2.2.2.2.2.2.2.2.2.2.1
  have c31 : Below w.heap.size w w2 := hC2.2.2.2.2.2.2.2.2.2.2.2.2.2.2.2.2.2.2.2.2.2.2.2.2.2.2.2.2.2.2.2
  go_wp2_with fail
  clear c0 c1 c2 c3 c4 c5 c6 c7 c8 c9 c10 c11 c12 c13 c14 c15 c16 c17 c18 c19 c20 c21 c22 c23 c24 c25 c26 c27 c28 c29 c30 c31
  refine (specEventOk_c _ _ _).mono ?_
  rintro e w3 ⟨rfl, hb3⟩
  have hC3 := doC_on hC2 hb3
  have c0 : w3.cell? ⟨w.heap.size, 0, none⟩ = some (.int .i64 s) := hC3.1
  have c1 : w3.cell? ⟨w.heap.size, 1, none⟩ = some (.int .i64 j) := hC3.2.1
  have c2 : w3.cell? ⟨w.heap.size, 2, none⟩ = some (.int .i64 m) := hC3.2.2.1
  have c3 : w3.cell? ⟨w.heap.size, 3, none⟩ = some (.int .i64 g) := hC3.2.2.2.1
  have c4 : w3.cell? ⟨w.heap.size, 4, none⟩ = some (.int .i64 o) := hC3.2.2.2.2.1
  have c5 : w3.cell? ⟨w.heap.size + 1, 0, none⟩ = some (.bool false) := hC3.2.2.2.2.2.1
  have c6 : w3.cell? ⟨w.heap.size + 1, 1, none⟩ = some (.int .i64 l) := hC3.2.2.2.2.2.2.1
  have c7 : w3.cell? ⟨w.heap.size + 1, 2, none⟩ = some (.int .i64 h) := hC3.2.2.2.2.2.2.2.1
  have c8 : w3.cell? ⟨w.heap.size + 1, 3, none⟩ = some (.int .i64 si) := hC3.2.2.2.2.2.2.2.2.1
  have c9 : w3.cell? ⟨w.heap.size + 1, 4, none⟩ = some (.int .i64 la) := hC3.2.2.2.2.2.2.2.2.2.1
  have c10 : w3.cell? ⟨w.heap.size + 1, 5, none⟩ = some (.int .i64 od) := hC3.2.2.2.2.2.2.2.2.2.2.1
  have c11 : w3.cell? ⟨w.heap.size + 1 + 1, 0, none⟩ = some (.int .i64 op) := hC3.2.2.2.2.2.2.2.2.2.2.2.1
  have c12 : w3.cell? ⟨w.heap.size + 1 + 1, 1, none⟩ = some (.int .i64 n) := hC3.2.2.2.2.2.2.2.2.2.2.2.2.1
  have c13 : w3.cell? ⟨w.heap.size + 1 + 1 + 1, 0, none⟩ = some (.bool false) := hC3.2.2.2.2.2.2.2.2.2.2.2.2.2.1
  have c14 : w3.cell? ⟨w.heap.size + 1 + 1 + 1, 1, none⟩ = some (.int .i64 0) := hC3.2.2.2.2.2.2.2.2.2.2.2.2.2.2.1
  have c15 : w3.cell? ⟨w.heap.size + 1 + 1 + 1, 2, none⟩ = some (.int .i64 0) := hC3.2.2.2.2.2.2.2.2.2.2.2.2.2.2.2.1
  have c16 : w3.cell? ⟨w.heap.size + 1 + 1 + 1, 3, none⟩ = some (.int .i64 0) := hC3.2.2.2.2.2.2.2.2.2.2.2.2.2.2.2.2.1
  have c17 : w3.cell? ⟨w.heap.size + 1 + 1 + 1, 4, none⟩ = some (.int .i64 0) := hC3.2.2.2.2.2.2.2.2.2.2.2.2.2.2.2.2.2.1
  have c18 : w3.cell? ⟨w.heap.size + 1 + 1 + 1, 5, none⟩ = some (.int .i64 0) := hC3.2.2.2.2.2.2.2.2.2.2.2.2.2.2.2.2.2.2.1
  have c19 : w3.frozen? ⟨w.heap.size + 1, 0, none⟩ = false := hC3.2.2.2.2.2.2.2.2.2.2.2.2.2.2.2.2.2.2.2.1
  have c20 : w3.frozen? ⟨w.heap.size + 1, 1, none⟩ = false := hC3.2.2.2.2.2.2.2.2.2.2.2.2.2.2.2.2.2.2.2.2.1
  have c21 : w3.frozen? ⟨w.heap.size + 1, 2, none⟩ = false := hC3.2.2.2.2.2.2.2.2.2.2.2.2.2.2.2.2.2.2.2.2.2.1
  have c22 : w3.frozen? ⟨w.heap.size + 1, 3, none⟩ = false := hC3.2.2.2.2.2.2.2.2.2.2.2.2.2.2.2.2.2.2.2.2.2.2.1
  have c23 : w3.frozen? ⟨w.heap.size + 1, 4, none⟩ = false := hC3.2.2.2.2.2.2.2.2.2.2.2.2.2.2.2.2.2.2.2.2.2.2.2.1
  have c24 : w3.frozen? ⟨w.heap.size + 1, 5, none⟩ = false := hC3.2.2.2.2.2.2.2.2.2.2.2.2.2.2.2.2.2.2.2.2.2.2.2.2.1
  have c25 : w3.frozen? ⟨w.heap.size + 1 + 1 + 1, 0, none⟩ = false := hC3.2.2.2.2.2.2.2.2.2.2.2.2.2.2.2.2.2.2.2.2.2.2.2.2.2.1
  have c26 : w3.frozen? ⟨w.heap.size + 1 + 1 + 1, 1, none⟩ = false := hC3.2.2.2.2.2.2.2.2.2.2.2.2.2.2.2.2.2.2.2.2.2.2.2.2.2.2.1
  have c27 : w3.frozen? ⟨w.heap.size + 1 + 1 + 1, 2, none⟩ = false := hC3.2.2.2.2.2.2.2.2.2.2.2.2.2.2.2.2.2.2.2.2.2.2.2.2.2.2.2.1
  have c28 : w3.frozen? ⟨w.heap.size + 1 + 1 + 1, 3, none⟩ = false := hC3.2.2.2.2.2.2.2.2.2.2.2.2.2.2.2.2.2.2.2.2.2.2.2.2.2.2.2.2.1
  have c29 : w3.frozen? ⟨w.heap.size + 1 + 1 + 1, 4, none⟩ = false := hC3.2.2.2.2.2.2.2.2.2.2.2.2.2.2.2.2.2.2.2.2.2.2.2.2.2.2.2.2.2.1
  have c30 : w3.frozen? ⟨w.heap.size + 1 + 1 + 1, 5, none⟩ = false := hC3.2.2.2.2.2.2.2.2.2.2.2.2.2.2.2.2.2.2.2.2.2.2.2.2.2.2.2.2.2.2.1
  have c31 : Below w.heap.size w w3 := hC3.2.2.2.2.2.2.2.2.2.2.2.2.2.2.2.2.2.2.2.2.2.2.2.2.2.2.2.2.2.2.2
  go_wp2_with fail
  clear c0 c1 c2 c3 c4 c5 c6 c7 c8 c9 c10 c11 c12 c13 c14 c15 c16 c17 c18 c19 c20 c21 c22 c23 c24 c25 c26 c27 c28 c29 c30 c31
  go_loopw [9, 52] (fun kv iv wr => ∃ k : Nat, iv = .int .i64 k ∧ kv = .int .i64 (lastIx f n k) ∧ k ≤ len ∧ doC w s j m g o false l h si la od op n wr) (fun _ iv _ => len - (intOf iv).toNat)
  case atStart => exact ⟨0, rfl, rfl, by omega, hC3⟩
  case round =>
    obtain ⟨k, rfl, rfl, hk, hC⟩ := hrel
    have c0 : wr.cell? ⟨w.heap.size, 0, none⟩ = some (.int .i64 s) := hC.1
    have c1 : wr.cell? ⟨w.heap.size, 1, none⟩ = some (.int .i64 j) := hC.2.1
    have c2 : wr.cell? ⟨w.heap.size, 2, none⟩ = some (.int .i64 m) := hC.2.2.1
    have c3 : wr.cell? ⟨w.heap.size, 3, none⟩ = some (.int .i64 g) := hC.2.2.2.1
    have c4 : wr.cell? ⟨w.heap.size, 4, none⟩ = some (.int .i64 o) := hC.2.2.2.2.1
    have c5 : wr.cell? ⟨w.heap.size + 1, 0, none⟩ = some (.bool false) := hC.2.2.2.2.2.1
    have c6 : wr.cell? ⟨w.heap.size + 1, 1, none⟩ = some (.int .i64 l) := hC.2.2.2.2.2.2.1
    have c7 : wr.cell? ⟨w.heap.size + 1, 2, none⟩ = some (.int .i64 h) := hC.2.2.2.2.2.2.2.1
    have c8 : wr.cell? ⟨w.heap.size + 1, 3, none⟩ = some (.int .i64 si) := hC.2.2.2.2.2.2.2.2.1
    have c9 : wr.cell? ⟨w.heap.size + 1, 4, none⟩ = some (.int .i64 la) := hC.2.2.2.2.2.2.2.2.2.1
    have c10 : wr.cell? ⟨w.heap.size + 1, 5, none⟩ = some (.int .i64 od) := hC.2.2.2.2.2.2.2.2.2.2.1
    have c11 : wr.cell? ⟨w.heap.size + 1 + 1, 0, none⟩ = some (.int .i64 op) := hC.2.2.2.2.2.2.2.2.2.2.2.1
    have c12 : wr.cell? ⟨w.heap.size + 1 + 1, 1, none⟩ = some (.int .i64 n) := hC.2.2.2.2.2.2.2.2.2.2.2.2.1
    have c13 : wr.cell? ⟨w.heap.size + 1 + 1 + 1, 0, none⟩ = some (.bool false) := hC.2.2.2.2.2.2.2.2.2.2.2.2.2.1
    have c14 : wr.cell? ⟨w.heap.size + 1 + 1 + 1, 1, none⟩ = some (.int .i64 0) := hC.2.2.2.2.2.2.2.2.2.2.2.2.2.2.1
    have c15 : wr.cell? ⟨w.heap.size + 1 + 1 + 1, 2, none⟩ = some (.int .i64 0) := hC.2.2.2.2.2.2.2.2.2.2.2.2.2.2.2.1
    have c16 : wr.cell? ⟨w.heap.size + 1 + 1 + 1, 3, none⟩ = some (.int .i64 0) := hC.2.2.2.2.2.2.2.2.2.2.2.2.2.2.2.2.1
    have c17 : wr.cell? ⟨w.heap.size + 1 + 1 + 1, 4, none⟩ = some (.int .i64 0) := hC.2.2.2.2.2.2.2.2.2.2.2.2.2.2.2.2.2.1
    have c18 : wr.cell? ⟨w.heap.size + 1 + 1 + 1, 5, none⟩ = some (.int .i64 0) := hC.2.2.2.2.2.2.2.2.2.2.2.2.2.2.2.2.2.2.1
    have c19 : wr.frozen? ⟨w.heap.size + 1, 0, none⟩ = false := hC.2.2.2.2.2.2.2.2.2.2.2.2.2.2.2.2.2.2.2.1
    have c20 : wr.frozen? ⟨w.heap.size + 1, 1, none⟩ = false := hC.2.2.2.2.2.2.2.2.2.2.2.2.2.2.2.2.2.2.2.2.1
    have c21 : wr.frozen? ⟨w.heap.size + 1, 2, none⟩ = false := hC.2.2.2.2.2.2.2.2.2.2.2.2.2.2.2.2.2.2.2.2.2.1
    have c22 : wr.frozen? ⟨w.heap.size + 1, 3, none⟩ = false := hC.2.2.2.2.2.2.2.2.2.2.2.2.2.2.2.2.2.2.2.2.2.2.1
    have c23 : wr.frozen? ⟨w.heap.size + 1, 4, none⟩ = false := hC.2.2.2.2.2.2.2.2.2.2.2.2.2.2.2.2.2.2.2.2.2.2.2.1
    have c24 : wr.frozen? ⟨w.heap.size + 1, 5, none⟩ = false := hC.2.2.2.2.2.2.2.2.2.2.2.2.2.2.2.2.2.2.2.2.2.2.2.2.1
    have c25 : wr.frozen? ⟨w.heap.size + 1 + 1 + 1, 0, none⟩ = false := hC.2.2.2.2.2.2.2.2.2.2.2.2.2.2.2.2.2.2.2.2.2.2.2.2.2.1
    have c26 : wr.frozen? ⟨w.heap.size + 1 + 1 + 1, 1, none⟩ = false := hC.2.2.2.2.2.2.2.2.2.2.2.2.2.2.2.2.2.2.2.2.2.2.2.2.2.2.1
    have c27 : wr.frozen? ⟨w.heap.size + 1 + 1 + 1, 2, none⟩ = false := hC.2.2.2.2.2.2.2.2.2.2.2.2.2.2.2.2.2.2.2.2.2.2.2.2.2.2.2.1
    have c28 : wr.frozen? ⟨w.heap.size + 1 + 1 + 1, 3, none⟩ = false := hC.2.2.2.2.2.2.2.2.2.2.2.2.2.2.2.2.2.2.2.2.2.2.2.2.2.2.2.2.1
    have c29 : wr.frozen? ⟨w.heap.size + 1 + 1 + 1, 4, none⟩ = false := hC.2.2.2.2.2.2.2.2.2.2.2.2.2.2.2.2.2.2.2.2.2.2.2.2.2.2.2.2.2.1
    have c30 : wr.frozen? ⟨w.heap.size + 1 + 1 + 1, 5, none⟩ = false := hC.2.2.2.2.2.2.2.2.2.2.2.2.2.2.2.2.2.2.2.2.2.2.2.2.2.2.2.2.2.2.1
    have c31 : Below w.heap.size w wr := hC.2.2.2.2.2.2.2.2.2.2.2.2.2.2.2.2.2.2.2.2.2.2.2.2.2.2.2.2.2.2.2
    by_cases hlt : k < len
    · have i0 : (0 : Int) ≤ (k : Int) := by omega
      have i1 : (k : Int) < (len : Int) := by omega
      have d0 := cellOn c31 (hrow k hlt).1
      have d1 := cellOn c31 (hrow k hlt).2
      have e0 := cellNew c12
      cases hfk : (f k == n)
      · go_wp2_with fail
        go_roundw
        case rel => exact ⟨k + 1, by go_num, by rw [lastIx_no hfk], by omega, doC_on hC (nbAlloc (Below.refl _ _) _)⟩
        case measure => simp [intOf]; omega
      · go_wp2_with fail
        go_roundw
        case rel => exact ⟨k + 1, by go_num, by rw [lastIx_yes hfk], by omega, doC_on hC (nbAlloc (Below.refl _ _) _)⟩
        case measure => simp [intOf]; omega
    · have hkl : len = k := by omega
      subst hkl
      rw [hK.out]
      have i0 : (0 : Int) ≤ (kk : Int) := by omega
      have i1 : (kk : Int) < (len : Int) := by omega
      have d1 := cellOn c31 (hrow kk hkk).2
      rw [hz.out] at d1
      have hC4 : doK w s j m g o false l h si la od op n b (off + kk * 2 + 1) z wr := ⟨c0, c1, c2, c3, c4, c5, c6, c7, c8, c9, c10, c11, c12, c13, c14, c15, c16, c17, c18, c19, c20, c21, c22, c23, c24, c25, c26, c27, c28, c29, c30, d1, c31⟩
      clear c0 c1 c2 c3 c4 c5 c6 c7 c8 c9 c10 c11 c12 c13 c14 c15 c16 c17 c18 c19 c20 c21 c22 c23 c24 c25 c26 c27 c28 c29 c30 c31
      go_wp2_with fail
      refine region_new (doK w s j m g o false l h si la od op n b (off + kk * 2 + 1) z) (fun _ _ => doK_on) 17 18 12 rfl rfl (by kernel_rfl) (by kernel_rfl) (by kernel_rfl) ?_ #[.int .i64 0, .int .i64 0] 27 (fun a w => by go_simp) ?_
      · obtain ⟨q0, q1, q2, q3, q4, q5, q6, q7, q8, q9, q10, q11, q12, q13, q14, q15, q16, q17, q18, q19, q20, q21, q22, q23, q24, q25, q26, q27, q28, q29, q30, q31, q32⟩ := hC4
        exact ⟨q0, q1, q2, q3, q4, q5, q6, q7, q8, q9, q10, q11, q12, q13, q14, q15, q16, q17, q18, q19, q20, q21, q22, q23, q24, q25, q26, q27, q28, q29, q30, q31, q32.drew⟩
      apply Exists.intro
      refine ⟨fun W hW hN => ?_, fun w5 p hw5 hp hblk => ?_⟩
      · simp only [List.set_cons_succ, List.set_cons_zero, idle]
        have k0 : ∀ d : Kept (fun w' => (doK w s j m g o false l h si la od op n b (off + kk * 2 + 1) z) w' ∧ Below W.heap.size W w'), d.w.cell? ⟨w.heap.size, 0, none⟩ = some (.int .i64 s) := fun d => d.h.1.1
        have k1 : ∀ d : Kept (fun w' => (doK w s j m g o false l h si la od op n b (off + kk * 2 + 1) z) w' ∧ Below W.heap.size W w'), d.w.cell? ⟨w.heap.size, 1, none⟩ = some (.int .i64 j) := fun d => d.h.1.2.1
        have k2 : ∀ d : Kept (fun w' => (doK w s j m g o false l h si la od op n b (off + kk * 2 + 1) z) w' ∧ Below W.heap.size W w'), d.w.cell? ⟨w.heap.size, 2, none⟩ = some (.int .i64 m) := fun d => d.h.1.2.2.1
        have k3 : ∀ d : Kept (fun w' => (doK w s j m g o false l h si la od op n b (off + kk * 2 + 1) z) w' ∧ Below W.heap.size W w'), d.w.cell? ⟨w.heap.size, 3, none⟩ = some (.int .i64 g) := fun d => d.h.1.2.2.2.1
        have k4 : ∀ d : Kept (fun w' => (doK w s j m g o false l h si la od op n b (off + kk * 2 + 1) z) w' ∧ Below W.heap.size W w'), d.w.cell? ⟨w.heap.size, 4, none⟩ = some (.int .i64 o) := fun d => d.h.1.2.2.2.2.1
        have k5 : ∀ d : Kept (fun w' => (doK w s j m g o false l h si la od op n b (off + kk * 2 + 1) z) w' ∧ Below W.heap.size W w'), d.w.cell? ⟨w.heap.size + 1, 0, none⟩ = some (.bool false) := fun d => d.h.1.2.2.2.2.2.1
        have k6 : ∀ d : Kept (fun w' => (doK w s j m g o false l h si la od op n b (off + kk * 2 + 1) z) w' ∧ Below W.heap.size W w'), d.w.cell? ⟨w.heap.size + 1, 1, none⟩ = some (.int .i64 l) := fun d => d.h.1.2.2.2.2.2.2.1
        have k7 : ∀ d : Kept (fun w' => (doK w s j m g o false l h si la od op n b (off + kk * 2 + 1) z) w' ∧ Below W.heap.size W w'), d.w.cell? ⟨w.heap.size + 1, 2, none⟩ = some (.int .i64 h) := fun d => d.h.1.2.2.2.2.2.2.2.1
        have k8 : ∀ d : Kept (fun w' => (doK w s j m g o false l h si la od op n b (off + kk * 2 + 1) z) w' ∧ Below W.heap.size W w'), d.w.cell? ⟨w.heap.size + 1, 3, none⟩ = some (.int .i64 si) := fun d => d.h.1.2.2.2.2.2.2.2.2.1
        have k9 : ∀ d : Kept (fun w' => (doK w s j m g o false l h si la od op n b (off + kk * 2 + 1) z) w' ∧ Below W.heap.size W w'), d.w.cell? ⟨w.heap.size + 1, 4, none⟩ = some (.int .i64 la) := fun d => d.h.1.2.2.2.2.2.2.2.2.2.1
        have k10 : ∀ d : Kept (fun w' => (doK w s j m g o false l h si la od op n b (off + kk * 2 + 1) z) w' ∧ Below W.heap.size W w'), d.w.cell? ⟨w.heap.size + 1, 5, none⟩ = some (.int .i64 od) := fun d => d.h.1.2.2.2.2.2.2.2.2.2.2.1
        have k11 : ∀ d : Kept (fun w' => (doK w s j m g o false l h si la od op n b (off + kk * 2 + 1) z) w' ∧ Below W.heap.size W w'), d.w.cell? ⟨w.heap.size + 1 + 1, 0, none⟩ = some (.int .i64 op) := fun d => d.h.1.2.2.2.2.2.2.2.2.2.2.2.1
        have k12 : ∀ d : Kept (fun w' => (doK w s j m g o false l h si la od op n b (off + kk * 2 + 1) z) w' ∧ Below W.heap.size W w'), d.w.cell? ⟨w.heap.size + 1 + 1, 1, none⟩ = some (.int .i64 n) := fun d => d.h.1.2.2.2.2.2.2.2.2.2.2.2.2.1
        have k13 : ∀ d : Kept (fun w' => (doK w s j m g o false l h si la od op n b (off + kk * 2 + 1) z) w' ∧ Below W.heap.size W w'), d.w.cell? ⟨w.heap.size + 1 + 1 + 1, 0, none⟩ = some (.bool false) := fun d => d.h.1.2.2.2.2.2.2.2.2.2.2.2.2.2.1
        have k14 : ∀ d : Kept (fun w' => (doK w s j m g o false l h si la od op n b (off + kk * 2 + 1) z) w' ∧ Below W.heap.size W w'), d.w.cell? ⟨w.heap.size + 1 + 1 + 1, 1, none⟩ = some (.int .i64 0) := fun d => d.h.1.2.2.2.2.2.2.2.2.2.2.2.2.2.2.1
        have k15 : ∀ d : Kept (fun w' => (doK w s j m g o false l h si la od op n b (off + kk * 2 + 1) z) w' ∧ Below W.heap.size W w'), d.w.cell? ⟨w.heap.size + 1 + 1 + 1, 2, none⟩ = some (.int .i64 0) := fun d => d.h.1.2.2.2.2.2.2.2.2.2.2.2.2.2.2.2.1
        have k16 : ∀ d : Kept (fun w' => (doK w s j m g o false l h si la od op n b (off + kk * 2 + 1) z) w' ∧ Below W.heap.size W w'), d.w.cell? ⟨w.heap.size + 1 + 1 + 1, 3, none⟩ = some (.int .i64 0) := fun d => d.h.1.2.2.2.2.2.2.2.2.2.2.2.2.2.2.2.2.1
        have k17 : ∀ d : Kept (fun w' => (doK w s j m g o false l h si la od op n b (off + kk * 2 + 1) z) w' ∧ Below W.heap.size W w'), d.w.cell? ⟨w.heap.size + 1 + 1 + 1, 4, none⟩ = some (.int .i64 0) := fun d => d.h.1.2.2.2.2.2.2.2.2.2.2.2.2.2.2.2.2.2.1
        have k18 : ∀ d : Kept (fun w' => (doK w s j m g o false l h si la od op n b (off + kk * 2 + 1) z) w' ∧ Below W.heap.size W w'), d.w.cell? ⟨w.heap.size + 1 + 1 + 1, 5, none⟩ = some (.int .i64 0) := fun d => d.h.1.2.2.2.2.2.2.2.2.2.2.2.2.2.2.2.2.2.2.1
        have k31 : ∀ d : Kept (fun w' => (doK w s j m g o false l h si la od op n b (off + kk * 2 + 1) z) w' ∧ Below W.heap.size W w'), d.w.cell? ⟨b, (off + kk * 2 + 1), none⟩ = some (.int .i64 z) := fun d => d.h.1.2.2.2.2.2.2.2.2.2.2.2.2.2.2.2.2.2.2.2.2.2.2.2.2.2.2.2.2.2.2.2.1
        repeat (go_big_quiet_step (fail))
        exact wpQuiet_nil rfl
      have q0 : w5.cell? ⟨p, 0, none⟩ = some (.int .i64 0) := by simp [World.cell?, hblk]
      have q1 : w5.cell? ⟨p, 1, none⟩ = some (.int .i64 0) := by simp [World.cell?, hblk]
      have q2 : w5.frozen? ⟨p, 0, none⟩ = false := by simp [World.frozen?, hblk]
      have q3 : w5.frozen? ⟨p, 1, none⟩ = false := by simp [World.frozen?, hblk]
      have l3 := ltCell hC4.2.2.2.2.2.2.2.2.2.2.2.2.2.1
      have lb := ltCell hC4.2.2.2.2.2.2.2.2.2.2.2.2.2.2.2.2.2.2.2.2.2.2.2.2.2.2.2.2.2.2.2.1
      have lw := ltCell (hrow kk hkk).2
      have E := cellSet2 (v0 := .int .i64 (z - m)) (v1 := .int .i64 (z + m)) q0 q1
      have hC6 : doN w s j m g o false l h si la od op n b (off + kk * 2 + 1) z p (z - m) (z + m) ((w5.setCell ⟨p, 0, none⟩ (.int .i64 (z - m))).setCell ⟨p, 1, none⟩ (.int .i64 (z + m))) := ⟨cellFar2 (by omega) hw5.1, cellFar2 (by omega) hw5.2.1, cellFar2 (by omega) hw5.2.2.1, cellFar2 (by omega) hw5.2.2.2.1, cellFar2 (by omega) hw5.2.2.2.2.1, cellFar2 (by omega) hw5.2.2.2.2.2.1, cellFar2 (by omega) hw5.2.2.2.2.2.2.1, cellFar2 (by omega) hw5.2.2.2.2.2.2.2.1, cellFar2 (by omega) hw5.2.2.2.2.2.2.2.2.1, cellFar2 (by omega) hw5.2.2.2.2.2.2.2.2.2.1, cellFar2 (by omega) hw5.2.2.2.2.2.2.2.2.2.2.1, cellFar2 (by omega) hw5.2.2.2.2.2.2.2.2.2.2.2.1, cellFar2 (by omega) hw5.2.2.2.2.2.2.2.2.2.2.2.2.1, cellFar2 (by omega) hw5.2.2.2.2.2.2.2.2.2.2.2.2.2.1, cellFar2 (by omega) hw5.2.2.2.2.2.2.2.2.2.2.2.2.2.2.1, cellFar2 (by omega) hw5.2.2.2.2.2.2.2.2.2.2.2.2.2.2.2.1, cellFar2 (by omega) hw5.2.2.2.2.2.2.2.2.2.2.2.2.2.2.2.2.1, cellFar2 (by omega) hw5.2.2.2.2.2.2.2.2.2.2.2.2.2.2.2.2.2.1, cellFar2 (by omega) hw5.2.2.2.2.2.2.2.2.2.2.2.2.2.2.2.2.2.2.1, (World.frozen?_setCell _ _ _ _).trans ((World.frozen?_setCell _ _ _ _).trans hw5.2.2.2.2.2.2.2.2.2.2.2.2.2.2.2.2.2.2.2.1), (World.frozen?_setCell _ _ _ _).trans ((World.frozen?_setCell _ _ _ _).trans hw5.2.2.2.2.2.2.2.2.2.2.2.2.2.2.2.2.2.2.2.2.1), (World.frozen?_setCell _ _ _ _).trans ((World.frozen?_setCell _ _ _ _).trans hw5.2.2.2.2.2.2.2.2.2.2.2.2.2.2.2.2.2.2.2.2.2.1), (World.frozen?_setCell _ _ _ _).trans ((World.frozen?_setCell _ _ _ _).trans hw5.2.2.2.2.2.2.2.2.2.2.2.2.2.2.2.2.2.2.2.2.2.2.1), (World.frozen?_setCell _ _ _ _).trans ((World.frozen?_setCell _ _ _ _).trans hw5.2.2.2.2.2.2.2.2.2.2.2.2.2.2.2.2.2.2.2.2.2.2.2.1), (World.frozen?_setCell _ _ _ _).trans ((World.frozen?_setCell _ _ _ _).trans hw5.2.2.2.2.2.2.2.2.2.2.2.2.2.2.2.2.2.2.2.2.2.2.2.2.1), (World.frozen?_setCell _ _ _ _).trans ((World.frozen?_setCell _ _ _ _).trans hw5.2.2.2.2.2.2.2.2.2.2.2.2.2.2.2.2.2.2.2.2.2.2.2.2.2.1), (World.frozen?_setCell _ _ _ _).trans ((World.frozen?_setCell _ _ _ _).trans hw5.2.2.2.2.2.2.2.2.2.2.2.2.2.2.2.2.2.2.2.2.2.2.2.2.2.2.1), (World.frozen?_setCell _ _ _ _).trans ((World.frozen?_setCell _ _ _ _).trans hw5.2.2.2.2.2.2.2.2.2.2.2.2.2.2.2.2.2.2.2.2.2.2.2.2.2.2.2.1), (World.frozen?_setCell _ _ _ _).trans ((World.frozen?_setCell _ _ _ _).trans hw5.2.2.2.2.2.2.2.2.2.2.2.2.2.2.2.2.2.2.2.2.2.2.2.2.2.2.2.2.1), (World.frozen?_setCell _ _ _ _).trans ((World.frozen?_setCell _ _ _ _).trans hw5.2.2.2.2.2.2.2.2.2.2.2.2.2.2.2.2.2.2.2.2.2.2.2.2.2.2.2.2.2.1), (World.frozen?_setCell _ _ _ _).trans ((World.frozen?_setCell _ _ _ _).trans hw5.2.2.2.2.2.2.2.2.2.2.2.2.2.2.2.2.2.2.2.2.2.2.2.2.2.2.2.2.2.2.1), cellFar2 (by omega) hw5.2.2.2.2.2.2.2.2.2.2.2.2.2.2.2.2.2.2.2.2.2.2.2.2.2.2.2.2.2.2.2.1, E.1, E.2, nbSet2 hw5.2.2.2.2.2.2.2.2.2.2.2.2.2.2.2.2.2.2.2.2.2.2.2.2.2.2.2.2.2.2.2.2 (by omega)⟩
      have hbn : b ≠ w.heap.size + 1 := by omega
      have hpn : p ≠ w.heap.size + 1 := by omega
      clear hblk hp E l3 lb lw
      go_simp
      generalize (w5.setCell ⟨p, 0, none⟩ (.int .i64 (z - m))).setCell ⟨p, 1, none⟩ (.int .i64 (z + m)) = w6 at *
      clear q0 q1 q2 q3 hw5 hC4 d1 hC hC3 hC2 hC1
      have c0 : w6.cell? ⟨w.heap.size, 0, none⟩ = some (.int .i64 s) := hC6.1
      have c1 : w6.cell? ⟨w.heap.size, 1, none⟩ = some (.int .i64 j) := hC6.2.1
      have c2 : w6.cell? ⟨w.heap.size, 2, none⟩ = some (.int .i64 m) := hC6.2.2.1
      have c3 : w6.cell? ⟨w.heap.size, 3, none⟩ = some (.int .i64 g) := hC6.2.2.2.1
      have c4 : w6.cell? ⟨w.heap.size, 4, none⟩ = some (.int .i64 o) := hC6.2.2.2.2.1
      have c5 : w6.cell? ⟨w.heap.size + 1, 0, none⟩ = some (.bool false) := hC6.2.2.2.2.2.1
      have c6 : w6.cell? ⟨w.heap.size + 1, 1, none⟩ = some (.int .i64 l) := hC6.2.2.2.2.2.2.1
      have c7 : w6.cell? ⟨w.heap.size + 1, 2, none⟩ = some (.int .i64 h) := hC6.2.2.2.2.2.2.2.1
      have c8 : w6.cell? ⟨w.heap.size + 1, 3, none⟩ = some (.int .i64 si) := hC6.2.2.2.2.2.2.2.2.1
      have c9 : w6.cell? ⟨w.heap.size + 1, 4, none⟩ = some (.int .i64 la) := hC6.2.2.2.2.2.2.2.2.2.1
      have c10 : w6.cell? ⟨w.heap.size + 1, 5, none⟩ = some (.int .i64 od) := hC6.2.2.2.2.2.2.2.2.2.2.1
      have c11 : w6.cell? ⟨w.heap.size + 1 + 1, 0, none⟩ = some (.int .i64 op) := hC6.2.2.2.2.2.2.2.2.2.2.2.1
      have c12 : w6.cell? ⟨w.heap.size + 1 + 1, 1, none⟩ = some (.int .i64 n) := hC6.2.2.2.2.2.2.2.2.2.2.2.2.1
      have c13 : w6.cell? ⟨w.heap.size + 1 + 1 + 1, 0, none⟩ = some (.bool false) := hC6.2.2.2.2.2.2.2.2.2.2.2.2.2.1
      have c14 : w6.cell? ⟨w.heap.size + 1 + 1 + 1, 1, none⟩ = some (.int .i64 0) := hC6.2.2.2.2.2.2.2.2.2.2.2.2.2.2.1
      have c15 : w6.cell? ⟨w.heap.size + 1 + 1 + 1, 2, none⟩ = some (.int .i64 0) := hC6.2.2.2.2.2.2.2.2.2.2.2.2.2.2.2.1
      have c16 : w6.cell? ⟨w.heap.size + 1 + 1 + 1, 3, none⟩ = some (.int .i64 0) := hC6.2.2.2.2.2.2.2.2.2.2.2.2.2.2.2.2.1
      have c17 : w6.cell? ⟨w.heap.size + 1 + 1 + 1, 4, none⟩ = some (.int .i64 0) := hC6.2.2.2.2.2.2.2.2.2.2.2.2.2.2.2.2.2.1
      have c18 : w6.cell? ⟨w.heap.size + 1 + 1 + 1, 5, none⟩ = some (.int .i64 0) := hC6.2.2.2.2.2.2.2.2.2.2.2.2.2.2.2.2.2.2.1
      have c19 : w6.frozen? ⟨w.heap.size + 1, 0, none⟩ = false := hC6.2.2.2.2.2.2.2.2.2.2.2.2.2.2.2.2.2.2.2.1
      have c20 : w6.frozen? ⟨w.heap.size + 1, 1, none⟩ = false := hC6.2.2.2.2.2.2.2.2.2.2.2.2.2.2.2.2.2.2.2.2.1
      have c21 : w6.frozen? ⟨w.heap.size + 1, 2, none⟩ = false := hC6.2.2.2.2.2.2.2.2.2.2.2.2.2.2.2.2.2.2.2.2.2.1
      have c22 : w6.frozen? ⟨w.heap.size + 1, 3, none⟩ = false := hC6.2.2.2.2.2.2.2.2.2.2.2.2.2.2.2.2.2.2.2.2.2.2.1
      have c23 : w6.frozen? ⟨w.heap.size + 1, 4, none⟩ = false := hC6.2.2.2.2.2.2.2.2.2.2.2.2.2.2.2.2.2.2.2.2.2.2.2.1
      have c24 : w6.frozen? ⟨w.heap.size + 1, 5, none⟩ = false := hC6.2.2.2.2.2.2.2.2.2.2.2.2.2.2.2.2.2.2.2.2.2.2.2.2.1
      have c25 : w6.frozen? ⟨w.heap.size + 1 + 1 + 1, 0, none⟩ = false := hC6.2.2.2.2.2.2.2.2.2.2.2.2.2.2.2.2.2.2.2.2.2.2.2.2.2.1
      have c26 : w6.frozen? ⟨w.heap.size + 1 + 1 + 1, 1, none⟩ = false := hC6.2.2.2.2.2.2.2.2.2.2.2.2.2.2.2.2.2.2.2.2.2.2.2.2.2.2.1
      have c27 : w6.frozen? ⟨w.heap.size + 1 + 1 + 1, 2, none⟩ = false := hC6.2.2.2.2.2.2.2.2.2.2.2.2.2.2.2.2.2.2.2.2.2.2.2.2.2.2.2.1
      have c28 : w6.frozen? ⟨w.heap.size + 1 + 1 + 1, 3, none⟩ = false := hC6.2.2.2.2.2.2.2.2.2.2.2.2.2.2.2.2.2.2.2.2.2.2.2.2.2.2.2.2.1
      have c29 : w6.frozen? ⟨w.heap.size + 1 + 1 + 1, 4, none⟩ = false := hC6.2.2.2.2.2.2.2.2.2.2.2.2.2.2.2.2.2.2.2.2.2.2.2.2.2.2.2.2.2.1
      have c30 : w6.frozen? ⟨w.heap.size + 1 + 1 + 1, 5, none⟩ = false := hC6.2.2.2.2.2.2.2.2.2.2.2.2.2.2.2.2.2.2.2.2.2.2.2.2.2.2.2.2.2.2.1
      have c31 : w6.cell? ⟨b, (off + kk * 2 + 1), none⟩ = some (.int .i64 z) := hC6.2.2.2.2.2.2.2.2.2.2.2.2.2.2.2.2.2.2.2.2.2.2.2.2.2.2.2.2.2.2.2.1
      have c32 : w6.cell? ⟨p, 0, none⟩ = some (.int .i64 (z - m)) := hC6.2.2.2.2.2.2.2.2.2.2.2.2.2.2.2.2.2.2.2.2.2.2.2.2.2.2.2.2.2.2.2.2.1
      have c33 : w6.cell? ⟨p, 1, none⟩ = some (.int .i64 (z + m)) := hC6.2.2.2.2.2.2.2.2.2.2.2.2.2.2.2.2.2.2.2.2.2.2.2.2.2.2.2.2.2.2.2.2.2.1
      have c34 : Below w.heap.size w w6 := hC6.2.2.2.2.2.2.2.2.2.2.2.2.2.2.2.2.2.2.2.2.2.2.2.2.2.2.2.2.2.2.2.2.2.2
      go_wp2_with fail
      clear c0 c1 c2 c3 c4 c5 c6 c7 c8 c9 c10 c11 c12 c13 c14 c15 c16 c17 c18 c19 c20 c21 c22 c23 c24 c25 c26 c27 c28 c29 c30 c31 c32 c33 c34
      refine (l1clip_c _ _ _ (by omega) (by omega)).mono ?_
      rintro e w7 ⟨rfl, hb7⟩
      have hC7 := doN_on hC6 hb7
      have c0 : w7.cell? ⟨w.heap.size, 0, none⟩ = some (.int .i64 s) := hC7.1
      have c1 : w7.cell? ⟨w.heap.size, 1, none⟩ = some (.int .i64 j) := hC7.2.1
      have c2 : w7.cell? ⟨w.heap.size, 2, none⟩ = some (.int .i64 m) := hC7.2.2.1
      have c3 : w7.cell? ⟨w.heap.size, 3, none⟩ = some (.int .i64 g) := hC7.2.2.2.1
      have c4 : w7.cell? ⟨w.heap.size, 4, none⟩ = some (.int .i64 o) := hC7.2.2.2.2.1
      have c5 : w7.cell? ⟨w.heap.size + 1, 0, none⟩ = some (.bool false) := hC7.2.2.2.2.2.1
      have c6 : w7.cell? ⟨w.heap.size + 1, 1, none⟩ = some (.int .i64 l) := hC7.2.2.2.2.2.2.1
      have c7 : w7.cell? ⟨w.heap.size + 1, 2, none⟩ = some (.int .i64 h) := hC7.2.2.2.2.2.2.2.1
      have c8 : w7.cell? ⟨w.heap.size + 1, 3, none⟩ = some (.int .i64 si) := hC7.2.2.2.2.2.2.2.2.1
      have c9 : w7.cell? ⟨w.heap.size + 1, 4, none⟩ = some (.int .i64 la) := hC7.2.2.2.2.2.2.2.2.2.1
      have c10 : w7.cell? ⟨w.heap.size + 1, 5, none⟩ = some (.int .i64 od) := hC7.2.2.2.2.2.2.2.2.2.2.1
      have c11 : w7.cell? ⟨w.heap.size + 1 + 1, 0, none⟩ = some (.int .i64 op) := hC7.2.2.2.2.2.2.2.2.2.2.2.1
      have c12 : w7.cell? ⟨w.heap.size + 1 + 1, 1, none⟩ = some (.int .i64 n) := hC7.2.2.2.2.2.2.2.2.2.2.2.2.1
      have c13 : w7.cell? ⟨w.heap.size + 1 + 1 + 1, 0, none⟩ = some (.bool false) := hC7.2.2.2.2.2.2.2.2.2.2.2.2.2.1
      have c14 : w7.cell? ⟨w.heap.size + 1 + 1 + 1, 1, none⟩ = some (.int .i64 0) := hC7.2.2.2.2.2.2.2.2.2.2.2.2.2.2.1
      have c15 : w7.cell? ⟨w.heap.size + 1 + 1 + 1, 2, none⟩ = some (.int .i64 0) := hC7.2.2.2.2.2.2.2.2.2.2.2.2.2.2.2.1
      have c16 : w7.cell? ⟨w.heap.size + 1 + 1 + 1, 3, none⟩ = some (.int .i64 0) := hC7.2.2.2.2.2.2.2.2.2.2.2.2.2.2.2.2.1
      have c17 : w7.cell? ⟨w.heap.size + 1 + 1 + 1, 4, none⟩ = some (.int .i64 0) := hC7.2.2.2.2.2.2.2.2.2.2.2.2.2.2.2.2.2.1
      have c18 : w7.cell? ⟨w.heap.size + 1 + 1 + 1, 5, none⟩ = some (.int .i64 0) := hC7.2.2.2.2.2.2.2.2.2.2.2.2.2.2.2.2.2.2.1
      have c19 : w7.frozen? ⟨w.heap.size + 1, 0, none⟩ = false := hC7.2.2.2.2.2.2.2.2.2.2.2.2.2.2.2.2.2.2.2.1
      have c20 : w7.frozen? ⟨w.heap.size + 1, 1, none⟩ = false := hC7.2.2.2.2.2.2.2.2.2.2.2.2.2.2.2.2.2.2.2.2.1
      have c21 : w7.frozen? ⟨w.heap.size + 1, 2, none⟩ = false := hC7.2.2.2.2.2.2.2.2.2.2.2.2.2.2.2.2.2.2.2.2.2.1
      have c22 : w7.frozen? ⟨w.heap.size + 1, 3, none⟩ = false := hC7.2.2.2.2.2.2.2.2.2.2.2.2.2.2.2.2.2.2.2.2.2.2.1
      have c23 : w7.frozen? ⟨w.heap.size + 1, 4, none⟩ = false := hC7.2.2.2.2.2.2.2.2.2.2.2.2.2.2.2.2.2.2.2.2.2.2.2.1
      have c24 : w7.frozen? ⟨w.heap.size + 1, 5, none⟩ = false := hC7.2.2.2.2.2.2.2.2.2.2.2.2.2.2.2.2.2.2.2.2.2.2.2.2.1
      have c25 : w7.frozen? ⟨w.heap.size + 1 + 1 + 1, 0, none⟩ = false := hC7.2.2.2.2.2.2.2.2.2.2.2.2.2.2.2.2.2.2.2.2.2.2.2.2.2.1
      have c26 : w7.frozen? ⟨w.heap.size + 1 + 1 + 1, 1, none⟩ = false := hC7.2.2.2.2.2.2.2.2.2.2.2.2.2.2.2.2.2.2.2.2.2.2.2.2.2.2.1
      have c27 : w7.frozen? ⟨w.heap.size + 1 + 1 + 1, 2, none⟩ = false := hC7.2.2.2.2.2.2.2.2.2.2.2.2.2.2.2.2.2.2.2.2.2.2.2.2.2.2.2.1
      have c28 : w7.frozen? ⟨w.heap.size + 1 + 1 + 1, 3, none⟩ = false := hC7.2.2.2.2.2.2.2.2.2.2.2.2.2.2.2.2.2.2.2.2.2.2.2.2.2.2.2.2.1
      have c29 : w7.frozen? ⟨w.heap.size + 1 + 1 + 1, 4, none⟩ = false := hC7.2.2.2.2.2.2.2.2.2.2.2.2.2.2.2.2.2.2.2.2.2.2.2.2.2.2.2.2.2.1
      have c30 : w7.frozen? ⟨w.heap.size + 1 + 1 + 1, 5, none⟩ = false := hC7.2.2.2.2.2.2.2.2.2.2.2.2.2.2.2.2.2.2.2.2.2.2.2.2.2.2.2.2.2.2.1
      have c31 : w7.cell? ⟨b, (off + kk * 2 + 1), none⟩ = some (.int .i64 z) := hC7.2.2.2.2.2.2.2.2.2.2.2.2.2.2.2.2.2.2.2.2.2.2.2.2.2.2.2.2.2.2.2.1
      have c32 : w7.cell? ⟨p, 0, none⟩ = some (.int .i64 (z - m)) := hC7.2.2.2.2.2.2.2.2.2.2.2.2.2.2.2.2.2.2.2.2.2.2.2.2.2.2.2.2.2.2.2.2.1
      have c33 : w7.cell? ⟨p, 1, none⟩ = some (.int .i64 (z + m)) := hC7.2.2.2.2.2.2.2.2.2.2.2.2.2.2.2.2.2.2.2.2.2.2.2.2.2.2.2.2.2.2.2.2.2.1
      have c34 : Below w.heap.size w w7 := hC7.2.2.2.2.2.2.2.2.2.2.2.2.2.2.2.2.2.2.2.2.2.2.2.2.2.2.2.2.2.2.2.2.2.2
      go_wp2_with fail
      have hq1 : w.heap.size ≤ w.heap.size + 1 := by omega
      have hq3 : w.heap.size ≤ w.heap.size + 1 + 1 + 1 := by omega
      exact bodyPost_ret (v := .agg #[.bool true, .int .i64 (min (z - m) 100000000), .int .i64 (min (z + m) 100000000), .int .i64 0, .int .i64 ((kk : Int)), .int .i64 od]) (by simp [results, Tryd.results31, go_sem, *]) rfl ⟨rfl, (nbSetX (nbSetX (nbSetX (nbSetX (nbSetX (nbSetX (nbSetX (nbSetX (nbSetX (nbSetX (nbSetX c34 hq1) hq1) hq1) hq1) hq1) hq3) hq3) hq3) hq3) hq3) hq3)⟩

set_option maxHeartbeats 4000000 in
theorem specDo_mark1 (b off len cap : Nat) (f a : Nat → Int) (s j m g o : Int) (l h si la od op n : Int) (w : World) (hl : len ≤ 1048576) (hrow : Row2 w b off len f a) (hr : rOk s j m g o = true) (hst : stB (marksB f a len) len true l h si la od = true) (hev : evB op n = true) (hop : (op == 2) = true) (kk : Nat) (hK : Hid (lastIx f n len = (kk : Int))) (hkk : kk < len) (z : Int) (hz : Hid (a kk = z)) (hz1 : inB z 0 100000000 = true) (hmt : mB l h (min (z - m) 100000000) (min (z + m) 100000000) = true) :
    Calls Tryd.prog 31 #[.agg #[.int .i64 s, .int .i64 j, .int .i64 m, .int .i64 g, .int .i64 o], .slice (some ⟨b, off, none⟩) len cap, .agg #[.bool true, .int .i64 l, .int .i64 h, .int .i64 si, .int .i64 la, .int .i64 od], .agg #[.int .i64 op, .int .i64 n]] w fun e w' => e = .returned (.agg #[.bool true, .int .i64 (max l (min (z - m) 100000000)), .int .i64 (min h (min (z + m) 100000000)), .int .i64 0, .int .i64 ((kk : Int)), .int .i64 od]) ∧ Below w.heap.size w w' := by
  have hst' := hst
  simp only [stB, inB, Bool.and_eq_true, decide_eq_true_eq] at hst'
  obtain ⟨⟨⟨⟨hmk, hla0, hla1⟩, hsi0, hsi1⟩, hod0, hod1⟩, hbd⟩ := hst'
  have HMK : Hid (marksB f a len = true) := hmk
  have HBD : Hid ((if true then bOk l h else l == 0 && h == 0 && la == -1) = true) := hbd
  clear hmk hbd
  have h1 : (op == 1) = false := by rw [eq_of_beq hop]; rfl
  have hbk : bOk l h = true := by have := HBD.out; simpa using this
  have wr : IntKind.i64.wrap (od + 1) = od + 1 := by rw [IntKind.wrap_i64]; omega
  have hr' := hr
  have hz' := hz1
  simp only [rOk, inB, Bool.and_eq_true, decide_eq_true_eq] at hr' hz'
  obtain ⟨⟨⟨⟨⟨hs0, hs⟩, hj0, hj⟩, hm0, hm1⟩, -⟩, -⟩ := hr'
  obtain ⟨hz0, hz2⟩ := hz'
  have wr1 : IntKind.i64.wrap (z - m) = z - m := wrapS (by omega) (by omega)
  have wr2 : IntKind.i64.wrap (z + m) = z + m := wrapS (by omega) (by omega)
  go_enter Tryd.func31, Tryd.ntmps31
  go_wp2_with fail
  refine (specRulesOk_c _ _ _ _ _ _).mono ?_
  rintro e w1 ⟨rfl, hb1⟩
  have hC1 : doC w s j m g o true l h si la od op n w1 := ⟨cellOn hb1 (by go_simp), cellOn hb1 (by go_simp), cellOn hb1 (by go_simp), cellOn hb1 (by go_simp), cellOn hb1 (by go_simp), cellOn hb1 (by go_simp), cellOn hb1 (by go_simp), cellOn hb1 (by go_simp), cellOn hb1 (by go_simp), cellOn hb1 (by go_simp), cellOn hb1 (by go_simp), cellOn hb1 (by go_simp), cellOn hb1 (by go_simp), cellOn hb1 (by go_simp), cellOn hb1 (by go_simp), cellOn hb1 (by go_simp), cellOn hb1 (by go_simp), cellOn hb1 (by go_simp), cellOn hb1 (by go_simp), frozenOn hb1 (v := .bool true) (by go_simp) (by go_simp), frozenOn hb1 (v := .int .i64 l) (by go_simp) (by go_simp), frozenOn hb1 (v := .int .i64 h) (by go_simp) (by go_simp), frozenOn hb1 (v := .int .i64 si) (by go_simp) (by go_simp), frozenOn hb1 (v := .int .i64 la) (by go_simp) (by go_simp), frozenOn hb1 (v := .int .i64 od) (by go_simp) (by go_simp), frozenOn hb1 (v := .bool false) (by go_simp) (by go_simp), frozenOn hb1 (v := .int .i64 0) (by go_simp) (by go_simp), frozenOn hb1 (v := .int .i64 0) (by go_simp) (by go_simp), frozenOn hb1 (v := .int .i64 0) (by go_simp) (by go_simp), frozenOn hb1 (v := .int .i64 0) (by go_simp) (by go_simp), frozenOn hb1 (v := .int .i64 0) (by go_simp) (by go_simp), nbTrans (nbAlloc (nbAlloc (nbAlloc (nbAlloc (Below.refl _ _) _) _) _) _) hb1⟩
  have c0 : w1.cell? ⟨w.heap.size, 0, none⟩ = some (.int .i64 s) := hC1.1
  have c1 : w1.cell? ⟨w.heap.size, 1, none⟩ = some (.int .i64 j) := hC1.2.1
  have c2 : w1.cell? ⟨w.heap.size, 2, none⟩ = some (.int .i64 m) := hC1.2.2.1
  have c3 : w1.cell? ⟨w.heap.size, 3, none⟩ = some (.int .i64 g) := hC1.2.2.2.1
  have c4 : w1.cell? ⟨w.heap.size, 4, none⟩ = some (.int .i64 o) := hC1.2.2.2.2.1
  have c5 : w1.cell? ⟨w.heap.size + 1, 0, none⟩ = some (.bool true) := hC1.2.2.2.2.2.1
  have c6 : w1.cell? ⟨w.heap.size + 1, 1, none⟩ = some (.int .i64 l) := hC1.2.2.2.2.2.2.1
  have c7 : w1.cell? ⟨w.heap.size + 1, 2, none⟩ = some (.int .i64 h) := hC1.2.2.2.2.2.2.2.1
  have c8 : w1.cell? ⟨w.heap.size + 1, 3, none⟩ = some (.int .i64 si) := hC1.2.2.2.2.2.2.2.2.1
  have c9 : w1.cell? ⟨w.heap.size + 1, 4, none⟩ = some (.int .i64 la) := hC1.2.2.2.2.2.2.2.2.2.1
  have c10 : w1.cell? ⟨w.heap.size + 1, 5, none⟩ = some (.int .i64 od) := hC1.2.2.2.2.2.2.2.2.2.2.1
  have c11 : w1.cell? ⟨w.heap.size + 1 + 1, 0, none⟩ = some (.int .i64 op) := hC1.2.2.2.2.2.2.2.2.2.2.2.1
  have c12 : w1.cell? ⟨w.heap.size + 1 + 1, 1, none⟩ = some (.int .i64 n) := hC1.2.2.2.2.2.2.2.2.2.2.2.2.1
  have c13 : w1.cell? ⟨w.heap.size + 1 + 1 + 1, 0, none⟩ = some (.bool false) := hC1.2.2.2.2.2.2.2.2.2.2.2.2.2.1
  have c14 : w1.cell? ⟨w.heap.size + 1 + 1 + 1, 1, none⟩ = some (.int .i64 0) := hC1.2.2.2.2.2.2.2.2.2.2.2.2.2.2.1
  have c15 : w1.cell? ⟨w.heap.size + 1 + 1 + 1, 2, none⟩ = some (.int .i64 0) := hC1.2.2.2.2.2.2.2.2.2.2.2.2.2.2.2.1
  have c16 : w1.cell? ⟨w.heap.size + 1 + 1 + 1, 3, none⟩ = some (.int .i64 0) := hC1.2.2.2.2.2.2.2.2.2.2.2.2.2.2.2.2.1
  have c17 : w1.cell? ⟨w.heap.size + 1 + 1 + 1, 4, none⟩ = some (.int .i64 0) := hC1.2.2.2.2.2.2.2.2.2.2.2.2.2.2.2.2.2.1
  have c18 : w1.cell? ⟨w.heap.size + 1 + 1 + 1, 5, none⟩ = some (.int .i64 0) := hC1.2.2.2.2.2.2.2.2.2.2.2.2.2.2.2.2.2.2.1
  have c19 : w1.frozen? ⟨w.heap.size + 1, 0, none⟩ = false := hC1.2.2.2.2.2.2.2.2.2.2.2.2.2.2.2.2.2.2.2.1
  have c20 : w1.frozen? ⟨w.heap.size + 1, 1, none⟩ = false := hC1.2.2.2.2.2.2.2.2.2.2.2.2.2.2.2.2.2.2.2.2.1
  have c21 : w1.frozen? ⟨w.heap.size + 1, 2, none⟩ = false := hC1.2.2.2.2.2.2.2.2.2.2.2.2.2.2.2.2.2.2.2.2.2.1
  have c22 : w1.frozen? ⟨w.heap.size + 1, 3, none⟩ = false := hC1.2.2.2.2.2.2.2.2.2.2.2.2.2.2.2.2.2.2.2.2.2.2.1
  have c23 : w1.frozen? ⟨w.heap.size + 1, 4, none⟩ = false := hC1.2.2.2.2.2.2.2.2.2.2.2.2.2.2.2.2.2.2.2.2.2.2.2.1
  have c24 : w1.frozen? ⟨w.heap.size + 1, 5, none⟩ = false := hC1.2.2.2.2.2.2.2.2.2.2.2.2.2.2.2.2.2.2.2.2.2.2.2.2.1
  have c25 : w1.frozen? ⟨w.heap.size + 1 + 1 + 1, 0, none⟩ = false := hC1.2.2.2.2.2.2.2.2.2.2.2.2.2.2.2.2.2.2.2.2.2.2.2.2.2.1
  have c26 : w1.frozen? ⟨w.heap.size + 1 + 1 + 1, 1, none⟩ = false := hC1.2.2.2.2.2.2.2.2.2.2.2.2.2.2.2.2.2.2.2.2.2.2.2.2.2.2.1
  have c27 : w1.frozen? ⟨w.heap.size + 1 + 1 + 1, 2, none⟩ = false := hC1.2.2.2.2.2.2.2.2.2.2.2.2.2.2.2.2.2.2.2.2.2.2.2.2.2.2.2.1
  have c28 : w1.frozen? ⟨w.heap.size + 1 + 1 + 1, 3, none⟩ = false := hC1.2.2.2.2.2.2.2.2.2.2.2.2.2.2.2.2.2.2.2.2.2.2.2.2.2.2.2.2.1
  have c29 : w1.frozen? ⟨w.heap.size + 1 + 1 + 1, 4, none⟩ = false := hC1.2.2.2.2.2.2.2.2.2.2.2.2.2.2.2.2.2.2.2.2.2.2.2.2.2.2.2.2.2.1
  have c30 : w1.frozen? ⟨w.heap.size + 1 + 1 + 1, 5, none⟩ = false := hC1.2.2.2.2.2.2.2.2.2.2.2.2.2.2.2.2.2.2.2.2.2.2.2.2.2.2.2.2.2.2.1
  have c31 : Below w.heap.size w w1 := hC1.2.2.2.2.2.2.2.2.2.2.2.2.2.2.2.2.2.2.2.2.2.2.2.2.2.2.2.2.2.2.2
  go_wp2_with fail
  clear c0 c1 c2 c3 c4 c5 c6 c7 c8 c9 c10 c11 c12 c13 c14 c15 c16 c17 c18 c19 c20 c21 c22 c23 c24 c25 c26 c27 c28 c29 c30 c31
  have hB1 : Below w.heap.size w w1 := hC1.2.2.2.2.2.2.2.2.2.2.2.2.2.2.2.2.2.2.2.2.2.2.2.2.2.2.2.2.2.2.2
  refine (specStateOk_c _ _ _ (marksB f a len) _ _ _ _ _ _ _ hl (by intro w' hw'; exact specMarksOk_c b off len cap f a w' hl ((hrow.on hB1).on hw'))).mono ?_
  rintro e w2 ⟨rfl, hb2⟩
  have hC2 := doC_on hC1 hb2
  have c0 : w2.cell? ⟨w.heap.size, 0, none⟩ = some (.int .i64 s) := hC2.1
  have c1 : w2.cell? ⟨w.heap.size, 1, none⟩ = some (.int .i64 j) := hC2.2.1
  have c2 : w2.cell? ⟨w.heap.size, 2, none⟩ = some (.int .i64 m) := hC2.2.2.1
  have c3 : w2.cell? ⟨w.heap.size, 3, none⟩ = some (.int .i64 g) := hC2.2.2.2.1
  have c4 : w2.cell? ⟨w.heap.size, 4, none⟩ = some (.int .i64 o) := hC2.2.2.2.2.1
  have c5 : w2.cell? ⟨w.heap.size + 1, 0, none⟩ = some (.bool true) := hC2.2.2.2.2.2.1
  have c6 : w2.cell? ⟨w.heap.size + 1, 1, none⟩ = some (.int .i64 l) := hC2.2.2.2.2.2.2.1
  have c7 : w2.cell? ⟨w.heap.size + 1, 2, none⟩ = some (.int .i64 h) := hC2.2.2.2.2.2.2.2.1
  have c8 : w2.cell? ⟨w.heap.size + 1, 3, none⟩ = some (.int .i64 si) := hC2.2.2.2.2.2.2.2.2.1
  have c9 : w2.cell? ⟨w.heap.size + 1, 4, none⟩ = some (.int .i64 la) := hC2.2.2.2.2.2.2.2.2.2.1
  have c10 : w2.cell? ⟨w.heap.size + 1, 5, none⟩ = some (.int .i64 od) := hC2.2.2.2.2.2.2.2.2.2.2.1
  have c11 : w2.cell? ⟨w.heap.size + 1 + 1, 0, none⟩ = some (.int .i64 op) := hC2.2.2.2.2.2.2.2.2.2.2.2.1
  have c12 : w2.cell? ⟨w.heap.size + 1 + 1, 1, none⟩ = some (.int .i64 n) := hC2.2.2.2.2.2.2.2.2.2.2.2.2.1
  have c13 : w2.cell? ⟨w.heap.size + 1 + 1 + 1, 0, none⟩ = some (.bool false) := hC2.2.2.2.2.2.2.2.2.2.2.2.2.2.1
  have c14 : w2.cell? ⟨w.heap.size + 1 + 1 + 1, 1, none⟩ = some (.int .i64 0) := hC2.2.2.2.2.2.2.2.2.2.2.2.2.2.2.1
  have c15 : w2.cell? ⟨w.heap.size + 1 + 1 + 1, 2, none⟩ = some (.int .i64 0) := hC2.2.2.2.2.2.2.2.2.2.2.2.2.2.2.2.1
  have c16 : w2.cell? ⟨w.heap.size + 1 + 1 + 1, 3, none⟩ = some (.int .i64 0) := hC2.2.2.2.2.2.2.2.2.2.2.2.2.2.2.2.2.1
  have c17 : w2.cell? ⟨w.heap.size + 1 + 1 + 1, 4, none⟩ = some (.int .i64 0) := hC2.2.2.2.2.2.2.2.2.2.2.2.2.2.2.2.2.2.1
  have c18 : w2.cell? ⟨w.heap.size + 1 + 1 + 1, 5, none⟩ = some (.int .i64 0) := hC2.2.2.2.2.2.2.2.2.2.2.2.2.2.2.2.2.2.2.1
  have c19 : w2.frozen? ⟨w.heap.size + 1, 0, none⟩ = false := hC2.2.2.2.2.2.2.2.2.2.2.2.2.2.2.2.2.2.2.2.1
  have c20 : w2.frozen? ⟨w.heap.size + 1, 1, none⟩ = false := hC2.2.2.2.2.2.2.2.2.2.2.2.2.2.2.2.2.2.2.2.2.1
  have c21 : w2.frozen? ⟨w.heap.size + 1, 2, none⟩ = false := hC2.2.2.2.2.2.2.2.2.2.2.2.2.2.2.2.2.2.2.2.2.2.1
  have c22 : w2.frozen? ⟨w.heap.size + 1, 3, none⟩ = false := hC2.2.2.2.2.2.2.2.2.2.2.2.2.2.2.2.2.2.2.2.2.2.2.1
  have c23 : w2.frozen? ⟨w.heap.size + 1, 4, none⟩ = false := hC2.2.2.2.2.2.2.2.2.2.2.2.2.2.2.2.2.2.2.2.2.2.2.2.1
  have c24 : w2.frozen? ⟨w.heap.size + 1, 5, none⟩ = false := hC2.2.2.2.2.2.2.2.2.2.2.2.2.2.2.2.2.2.2.2.2.2.2.2.2.1
  have c25 : w2.frozen? ⟨w.heap.size + 1 + 1 + 1, 0, none⟩ = false := hC2.2.2.2.2.2.2.2.2.2.2.2.2.2.2.2.2.2.2.2.2.2.2.2.2.2.1
  have c26 : w2.frozen? ⟨w.heap.size + 1 + 1 + 1, 1, none⟩ = false := hC2.2.2.2.2.2.2.2.2.2.2.2.2.2.2.2.2.2.2.2.2.2.2.2.2.2.2.1
  have c27 : w2.frozen? ⟨w.heap.size + 1 + 1 + 1, 2, none⟩ = false := hC2.2.2.2.2.2.2.2.2.2.2.2.2.2.2.2.2.2.2.2.2.2.2.2.2.2.2.2.1
  have c28 : w2.frozen? ⟨w.heap.size + 1 + 1 + 1, 3, none⟩ = false := hC2.2.2.2.2.2.2.2.2.2.2.2.2.2.2.2.2.2.2.2.2.2.2.2.2.2.2.2.2.1
  have c29 : w2.frozen? ⟨w.heap.size + 1 + 1 + 1, 4, none⟩ = false := hC2.2.2.2.2.2.2.2.2.2.2.2.2.2.2.2.2.2.2.2.2.2.2.2.2.2.2.2.2.2.1
  have c30 : w2.frozen? ⟨w.heap.size + 1 + 1 + 1, 5, none⟩ = false := hC2.2.2.2.2.2.2.2.2.2.2.2.2.2.2.2.2.2.2.2.2.2.2.2.2.2.2.2.2.2.2.1
  have c31 : Below w.heap.size w w2 := hC2.2.2.2.2.2.2.2.2.2.2.2.2.2.2.2.2.2.2.2.2.2.2.2.2.2.2.2.2.2.2.2
  go_wp2_with fail
  clear c0 c1 c2 c3 c4 c5 c6 c7 c8 c9 c10 c11 c12 c13 c14 c15 c16 c17 c18 c19 c20 c21 c22 c23 c24 c25 c26 c27 c28 c29 c30 c31
  refine (specEventOk_c _ _ _).mono ?_
  rintro e w3 ⟨rfl, hb3⟩
  have hC3 := doC_on hC2 hb3
  have c0 : w3.cell? ⟨w.heap.size, 0, none⟩ = some (.int .i64 s) := hC3.1
  have c1 : w3.cell? ⟨w.heap.size, 1, none⟩ = some (.int .i64 j) := hC3.2.1
  have c2 : w3.cell? ⟨w.heap.size, 2, none⟩ = some (.int .i64 m) := hC3.2.2.1
  have c3 : w3.cell? ⟨w.heap.size, 3, none⟩ = some (.int .i64 g) := hC3.2.2.2.1
  have c4 : w3.cell? ⟨w.heap.size, 4, none⟩ = some (.int .i64 o) := hC3.2.2.2.2.1
  have c5 : w3.cell? ⟨w.heap.size + 1, 0, none⟩ = some (.bool true) := hC3.2.2.2.2.2.1
  have c6 : w3.cell? ⟨w.heap.size + 1, 1, none⟩ = some (.int .i64 l) := hC3.2.2.2.2.2.2.1
  have c7 : w3.cell? ⟨w.heap.size + 1, 2, none⟩ = some (.int .i64 h) := hC3.2.2.2.2.2.2.2.1
  have c8 : w3.cell? ⟨w.heap.size + 1, 3, none⟩ = some (.int .i64 si) := hC3.2.2.2.2.2.2.2.2.1
  have c9 : w3.cell? ⟨w.heap.size + 1, 4, none⟩ = some (.int .i64 la) := hC3.2.2.2.2.2.2.2.2.2.1
  have c10 : w3.cell? ⟨w.heap.size + 1, 5, none⟩ = some (.int .i64 od) := hC3.2.2.2.2.2.2.2.2.2.2.1
  have c11 : w3.cell? ⟨w.heap.size + 1 + 1, 0, none⟩ = some (.int .i64 op) := hC3.2.2.2.2.2.2.2.2.2.2.2.1
  have c12 : w3.cell? ⟨w.heap.size + 1 + 1, 1, none⟩ = some (.int .i64 n) := hC3.2.2.2.2.2.2.2.2.2.2.2.2.1
  have c13 : w3.cell? ⟨w.heap.size + 1 + 1 + 1, 0, none⟩ = some (.bool false) := hC3.2.2.2.2.2.2.2.2.2.2.2.2.2.1
  have c14 : w3.cell? ⟨w.heap.size + 1 + 1 + 1, 1, none⟩ = some (.int .i64 0) := hC3.2.2.2.2.2.2.2.2.2.2.2.2.2.2.1
  have c15 : w3.cell? ⟨w.heap.size + 1 + 1 + 1, 2, none⟩ = some (.int .i64 0) := hC3.2.2.2.2.2.2.2.2.2.2.2.2.2.2.2.1
  have c16 : w3.cell? ⟨w.heap.size + 1 + 1 + 1, 3, none⟩ = some (.int .i64 0) := hC3.2.2.2.2.2.2.2.2.2.2.2.2.2.2.2.2.1
  have c17 : w3.cell? ⟨w.heap.size + 1 + 1 + 1, 4, none⟩ = some (.int .i64 0) := hC3.2.2.2.2.2.2.2.2.2.2.2.2.2.2.2.2.2.1
  have c18 : w3.cell? ⟨w.heap.size + 1 + 1 + 1, 5, none⟩ = some (.int .i64 0) := hC3.2.2.2.2.2.2.2.2.2.2.2.2.2.2.2.2.2.2.1
  have c19 : w3.frozen? ⟨w.heap.size + 1, 0, none⟩ = false := hC3.2.2.2.2.2.2.2.2.2.2.2.2.2.2.2.2.2.2.2.1
  have c20 : w3.frozen? ⟨w.heap.size + 1, 1, none⟩ = false := hC3.2.2.2.2.2.2.2.2.2.2.2.2.2.2.2.2.2.2.2.2.1
  have c21 : w3.frozen? ⟨w.heap.size + 1, 2, none⟩ = false := hC3.2.2.2.2.2.2.2.2.2.2.2.2.2.2.2.2.2.2.2.2.2.1
  have c22 : w3.frozen? ⟨w.heap.size + 1, 3, none⟩ = false := hC3.2.2.2.2.2.2.2.2.2.2.2.2.2.2.2.2.2.2.2.2.2.2.1
  have c23 : w3.frozen? ⟨w.heap.size + 1, 4, none⟩ = false := hC3.2.2.2.2.2.2.2.2.2.2.2.2.2.2.2.2.2.2.2.2.2.2.2.1
  have c24 : w3.frozen? ⟨w.heap.size + 1, 5, none⟩ = false := hC3.2.2.2.2.2.2.2.2.2.2.2.2.2.2.2.2.2.2.2.2.2.2.2.2.1
  have c25 : w3.frozen? ⟨w.heap.size + 1 + 1 + 1, 0, none⟩ = false := hC3.2.2.2.2.2.2.2.2.2.2.2.2.2.2.2.2.2.2.2.2.2.2.2.2.2.1
  have c26 : w3.frozen? ⟨w.heap.size + 1 + 1 + 1, 1, none⟩ = false := hC3.2.2.2.2.2.2.2.2.2.2.2.2.2.2.2.2.2.2.2.2.2.2.2.2.2.2.1
  have c27 : w3.frozen? ⟨w.heap.size + 1 + 1 + 1, 2, none⟩ = false := hC3.2.2.2.2.2.2.2.2.2.2.2.2.2.2.2.2.2.2.2.2.2.2.2.2.2.2.2.1
  have c28 : w3.frozen? ⟨w.heap.size + 1 + 1 + 1, 3, none⟩ = false := hC3.2.2.2.2.2.2.2.2.2.2.2.2.2.2.2.2.2.2.2.2.2.2.2.2.2.2.2.2.1
  have c29 : w3.frozen? ⟨w.heap.size + 1 + 1 + 1, 4, none⟩ = false := hC3.2.2.2.2.2.2.2.2.2.2.2.2.2.2.2.2.2.2.2.2.2.2.2.2.2.2.2.2.2.1
  have c30 : w3.frozen? ⟨w.heap.size + 1 + 1 + 1, 5, none⟩ = false := hC3.2.2.2.2.2.2.2.2.2.2.2.2.2.2.2.2.2.2.2.2.2.2.2.2.2.2.2.2.2.2.1
  have c31 : Below w.heap.size w w3 := hC3.2.2.2.2.2.2.2.2.2.2.2.2.2.2.2.2.2.2.2.2.2.2.2.2.2.2.2.2.2.2.2
  go_wp2_with fail
  clear c0 c1 c2 c3 c4 c5 c6 c7 c8 c9 c10 c11 c12 c13 c14 c15 c16 c17 c18 c19 c20 c21 c22 c23 c24 c25 c26 c27 c28 c29 c30 c31
  go_loopw [9, 52] (fun kv iv wr => ∃ k : Nat, iv = .int .i64 k ∧ kv = .int .i64 (lastIx f n k) ∧ k ≤ len ∧ doC w s j m g o true l h si la od op n wr) (fun _ iv _ => len - (intOf iv).toNat)
  case atStart => exact ⟨0, rfl, rfl, by omega, hC3⟩
  case round =>
    obtain ⟨k, rfl, rfl, hk, hC⟩ := hrel
    have c0 : wr.cell? ⟨w.heap.size, 0, none⟩ = some (.int .i64 s) := hC.1
    have c1 : wr.cell? ⟨w.heap.size, 1, none⟩ = some (.int .i64 j) := hC.2.1
    have c2 : wr.cell? ⟨w.heap.size, 2, none⟩ = some (.int .i64 m) := hC.2.2.1
    have c3 : wr.cell? ⟨w.heap.size, 3, none⟩ = some (.int .i64 g) := hC.2.2.2.1
    have c4 : wr.cell? ⟨w.heap.size, 4, none⟩ = some (.int .i64 o) := hC.2.2.2.2.1
    have c5 : wr.cell? ⟨w.heap.size + 1, 0, none⟩ = some (.bool true) := hC.2.2.2.2.2.1
    have c6 : wr.cell? ⟨w.heap.size + 1, 1, none⟩ = some (.int .i64 l) := hC.2.2.2.2.2.2.1
    have c7 : wr.cell? ⟨w.heap.size + 1, 2, none⟩ = some (.int .i64 h) := hC.2.2.2.2.2.2.2.1
    have c8 : wr.cell? ⟨w.heap.size + 1, 3, none⟩ = some (.int .i64 si) := hC.2.2.2.2.2.2.2.2.1
    have c9 : wr.cell? ⟨w.heap.size + 1, 4, none⟩ = some (.int .i64 la) := hC.2.2.2.2.2.2.2.2.2.1
    have c10 : wr.cell? ⟨w.heap.size + 1, 5, none⟩ = some (.int .i64 od) := hC.2.2.2.2.2.2.2.2.2.2.1
    have c11 : wr.cell? ⟨w.heap.size + 1 + 1, 0, none⟩ = some (.int .i64 op) := hC.2.2.2.2.2.2.2.2.2.2.2.1
    have c12 : wr.cell? ⟨w.heap.size + 1 + 1, 1, none⟩ = some (.int .i64 n) := hC.2.2.2.2.2.2.2.2.2.2.2.2.1
    have c13 : wr.cell? ⟨w.heap.size + 1 + 1 + 1, 0, none⟩ = some (.bool false) := hC.2.2.2.2.2.2.2.2.2.2.2.2.2.1
    have c14 : wr.cell? ⟨w.heap.size + 1 + 1 + 1, 1, none⟩ = some (.int .i64 0) := hC.2.2.2.2.2.2.2.2.2.2.2.2.2.2.1
    have c15 : wr.cell? ⟨w.heap.size + 1 + 1 + 1, 2, none⟩ = some (.int .i64 0) := hC.2.2.2.2.2.2.2.2.2.2.2.2.2.2.2.1
    have c16 : wr.cell? ⟨w.heap.size + 1 + 1 + 1, 3, none⟩ = some (.int .i64 0) := hC.2.2.2.2.2.2.2.2.2.2.2.2.2.2.2.2.1
    have c17 : wr.cell? ⟨w.heap.size + 1 + 1 + 1, 4, none⟩ = some (.int .i64 0) := hC.2.2.2.2.2.2.2.2.2.2.2.2.2.2.2.2.2.1
    have c18 : wr.cell? ⟨w.heap.size + 1 + 1 + 1, 5, none⟩ = some (.int .i64 0) := hC.2.2.2.2.2.2.2.2.2.2.2.2.2.2.2.2.2.2.1
    have c19 : wr.frozen? ⟨w.heap.size + 1, 0, none⟩ = false := hC.2.2.2.2.2.2.2.2.2.2.2.2.2.2.2.2.2.2.2.1
    have c20 : wr.frozen? ⟨w.heap.size + 1, 1, none⟩ = false := hC.2.2.2.2.2.2.2.2.2.2.2.2.2.2.2.2.2.2.2.2.1
    have c21 : wr.frozen? ⟨w.heap.size + 1, 2, none⟩ = false := hC.2.2.2.2.2.2.2.2.2.2.2.2.2.2.2.2.2.2.2.2.2.1
    have c22 : wr.frozen? ⟨w.heap.size + 1, 3, none⟩ = false := hC.2.2.2.2.2.2.2.2.2.2.2.2.2.2.2.2.2.2.2.2.2.2.1
    have c23 : wr.frozen? ⟨w.heap.size + 1, 4, none⟩ = false := hC.2.2.2.2.2.2.2.2.2.2.2.2.2.2.2.2.2.2.2.2.2.2.2.1
    have c24 : wr.frozen? ⟨w.heap.size + 1, 5, none⟩ = false := hC.2.2.2.2.2.2.2.2.2.2.2.2.2.2.2.2.2.2.2.2.2.2.2.2.1
    have c25 : wr.frozen? ⟨w.heap.size + 1 + 1 + 1, 0, none⟩ = false := hC.2.2.2.2.2.2.2.2.2.2.2.2.2.2.2.2.2.2.2.2.2.2.2.2.2.1
    have c26 : wr.frozen? ⟨w.heap.size + 1 + 1 + 1, 1, none⟩ = false := hC.2.2.2.2.2.2.2.2.2.2.2.2.2.2.2.2.2.2.2.2.2.2.2.2.2.2.1
    have c27 : wr.frozen? ⟨w.heap.size + 1 + 1 + 1, 2, none⟩ = false := hC.2.2.2.2.2.2.2.2.2.2.2.2.2.2.2.2.2.2.2.2.2.2.2.2.2.2.2.1
    have c28 : wr.frozen? ⟨w.heap.size + 1 + 1 + 1, 3, none⟩ = false := hC.2.2.2.2.2.2.2.2.2.2.2.2.2.2.2.2.2.2.2.2.2.2.2.2.2.2.2.2.1
    have c29 : wr.frozen? ⟨w.heap.size + 1 + 1 + 1, 4, none⟩ = false := hC.2.2.2.2.2.2.2.2.2.2.2.2.2.2.2.2.2.2.2.2.2.2.2.2.2.2.2.2.2.1
    have c30 : wr.frozen? ⟨w.heap.size + 1 + 1 + 1, 5, none⟩ = false := hC.2.2.2.2.2.2.2.2.2.2.2.2.2.2.2.2.2.2.2.2.2.2.2.2.2.2.2.2.2.2.1
    have c31 : Below w.heap.size w wr := hC.2.2.2.2.2.2.2.2.2.2.2.2.2.2.2.2.2.2.2.2.2.2.2.2.2.2.2.2.2.2.2
    by_cases hlt : k < len
    · have i0 : (0 : Int) ≤ (k : Int) := by omega
      have i1 : (k : Int) < (len : Int) := by omega
      have d0 := cellOn c31 (hrow k hlt).1
      have d1 := cellOn c31 (hrow k hlt).2
      have e0 := cellNew c12
      cases hfk : (f k == n)
      · go_wp2_with fail
        go_roundw
        case rel => exact ⟨k + 1, by go_num, by rw [lastIx_no hfk], by omega, doC_on hC (nbAlloc (Below.refl _ _) _)⟩
        case measure => simp [intOf]; omega
      · go_wp2_with fail
        go_roundw
        case rel => exact ⟨k + 1, by go_num, by rw [lastIx_yes hfk], by omega, doC_on hC (nbAlloc (Below.refl _ _) _)⟩
        case measure => simp [intOf]; omega
    · have hkl : len = k := by omega
      subst hkl
      rw [hK.out]
      have i0 : (0 : Int) ≤ (kk : Int) := by omega
      have i1 : (kk : Int) < (len : Int) := by omega
      have d1 := cellOn c31 (hrow kk hkk).2
      rw [hz.out] at d1
      have hC4 : doK w s j m g o true l h si la od op n b (off + kk * 2 + 1) z wr := ⟨c0, c1, c2, c3, c4, c5, c6, c7, c8, c9, c10, c11, c12, c13, c14, c15, c16, c17, c18, c19, c20, c21, c22, c23, c24, c25, c26, c27, c28, c29, c30, d1, c31⟩
      clear c0 c1 c2 c3 c4 c5 c6 c7 c8 c9 c10 c11 c12 c13 c14 c15 c16 c17 c18 c19 c20 c21 c22 c23 c24 c25 c26 c27 c28 c29 c30 c31
      go_wp2_with fail
      refine region_new (doK w s j m g o true l h si la od op n b (off + kk * 2 + 1) z) (fun _ _ => doK_on) 17 18 12 rfl rfl (by kernel_rfl) (by kernel_rfl) (by kernel_rfl) ?_ #[.int .i64 0, .int .i64 0] 27 (fun a w => by go_simp) ?_
      · obtain ⟨q0, q1, q2, q3, q4, q5, q6, q7, q8, q9, q10, q11, q12, q13, q14, q15, q16, q17, q18, q19, q20, q21, q22, q23, q24, q25, q26, q27, q28, q29, q30, q31, q32⟩ := hC4
        exact ⟨q0, q1, q2, q3, q4, q5, q6, q7, q8, q9, q10, q11, q12, q13, q14, q15, q16, q17, q18, q19, q20, q21, q22, q23, q24, q25, q26, q27, q28, q29, q30, q31, q32.drew⟩
      apply Exists.intro
      refine ⟨fun W hW hN => ?_, fun w5 p hw5 hp hblk => ?_⟩
      · simp only [List.set_cons_succ, List.set_cons_zero, idle]
        have k0 : ∀ d : Kept (fun w' => (doK w s j m g o true l h si la od op n b (off + kk * 2 + 1) z) w' ∧ Below W.heap.size W w'), d.w.cell? ⟨w.heap.size, 0, none⟩ = some (.int .i64 s) := fun d => d.h.1.1
        have k1 : ∀ d : Kept (fun w' => (doK w s j m g o true l h si la od op n b (off + kk * 2 + 1) z) w' ∧ Below W.heap.size W w'), d.w.cell? ⟨w.heap.size, 1, none⟩ = some (.int .i64 j) := fun d => d.h.1.2.1
        have k2 : ∀ d : Kept (fun w' => (doK w s j m g o true l h si la od op n b (off + kk * 2 + 1) z) w' ∧ Below W.heap.size W w'), d.w.cell? ⟨w.heap.size, 2, none⟩ = some (.int .i64 m) := fun d => d.h.1.2.2.1
        have k3 : ∀ d : Kept (fun w' => (doK w s j m g o true l h si la od op n b (off + kk * 2 + 1) z) w' ∧ Below W.heap.size W w'), d.w.cell? ⟨w.heap.size, 3, none⟩ = some (.int .i64 g) := fun d => d.h.1.2.2.2.1
        have k4 : ∀ d : Kept (fun w' => (doK w s j m g o true l h si la od op n b (off + kk * 2 + 1) z) w' ∧ Below W.heap.size W w'), d.w.cell? ⟨w.heap.size, 4, none⟩ = some (.int .i64 o) := fun d => d.h.1.2.2.2.2.1
        have k5 : ∀ d : Kept (fun w' => (doK w s j m g o true l h si la od op n b (off + kk * 2 + 1) z) w' ∧ Below W.heap.size W w'), d.w.cell? ⟨w.heap.size + 1, 0, none⟩ = some (.bool true) := fun d => d.h.1.2.2.2.2.2.1
        have k6 : ∀ d : Kept (fun w' => (doK w s j m g o true l h si la od op n b (off + kk * 2 + 1) z) w' ∧ Below W.heap.size W w'), d.w.cell? ⟨w.heap.size + 1, 1, none⟩ = some (.int .i64 l) := fun d => d.h.1.2.2.2.2.2.2.1
        have k7 : ∀ d : Kept (fun w' => (doK w s j m g o true l h si la od op n b (off + kk * 2 + 1) z) w' ∧ Below W.heap.size W w'), d.w.cell? ⟨w.heap.size + 1, 2, none⟩ = some (.int .i64 h) := fun d => d.h.1.2.2.2.2.2.2.2.1
        have k8 : ∀ d : Kept (fun w' => (doK w s j m g o true l h si la od op n b (off + kk * 2 + 1) z) w' ∧ Below W.heap.size W w'), d.w.cell? ⟨w.heap.size + 1, 3, none⟩ = some (.int .i64 si) := fun d => d.h.1.2.2.2.2.2.2.2.2.1
        have k9 : ∀ d : Kept (fun w' => (doK w s j m g o true l h si la od op n b (off + kk * 2 + 1) z) w' ∧ Below W.heap.size W w'), d.w.cell? ⟨w.heap.size + 1, 4, none⟩ = some (.int .i64 la) := fun d => d.h.1.2.2.2.2.2.2.2.2.2.1
        have k10 : ∀ d : Kept (fun w' => (doK w s j m g o true l h si la od op n b (off + kk * 2 + 1) z) w' ∧ Below W.heap.size W w'), d.w.cell? ⟨w.heap.size + 1, 5, none⟩ = some (.int .i64 od) := fun d => d.h.1.2.2.2.2.2.2.2.2.2.2.1
        have k11 : ∀ d : Kept (fun w' => (doK w s j m g o true l h si la od op n b (off + kk * 2 + 1) z) w' ∧ Below W.heap.size W w'), d.w.cell? ⟨w.heap.size + 1 + 1, 0, none⟩ = some (.int .i64 op) := fun d => d.h.1.2.2.2.2.2.2.2.2.2.2.2.1
        have k12 : ∀ d : Kept (fun w' => (doK w s j m g o true l h si la od op n b (off + kk * 2 + 1) z) w' ∧ Below W.heap.size W w'), d.w.cell? ⟨w.heap.size + 1 + 1, 1, none⟩ = some (.int .i64 n) := fun d => d.h.1.2.2.2.2.2.2.2.2.2.2.2.2.1
        have k13 : ∀ d : Kept (fun w' => (doK w s j m g o true l h si la od op n b (off + kk * 2 + 1) z) w' ∧ Below W.heap.size W w'), d.w.cell? ⟨w.heap.size + 1 + 1 + 1, 0, none⟩ = some (.bool false) := fun d => d.h.1.2.2.2.2.2.2.2.2.2.2.2.2.2.1
        have k14 : ∀ d : Kept (fun w' => (doK w s j m g o true l h si la od op n b (off + kk * 2 + 1) z) w' ∧ Below W.heap.size W w'), d.w.cell? ⟨w.heap.size + 1 + 1 + 1, 1, none⟩ = some (.int .i64 0) := fun d => d.h.1.2.2.2.2.2.2.2.2.2.2.2.2.2.2.1
        have k15 : ∀ d : Kept (fun w' => (doK w s j m g o true l h si la od op n b (off + kk * 2 + 1) z) w' ∧ Below W.heap.size W w'), d.w.cell? ⟨w.heap.size + 1 + 1 + 1, 2, none⟩ = some (.int .i64 0) := fun d => d.h.1.2.2.2.2.2.2.2.2.2.2.2.2.2.2.2.1
        have k16 : ∀ d : Kept (fun w' => (doK w s j m g o true l h si la od op n b (off + kk * 2 + 1) z) w' ∧ Below W.heap.size W w'), d.w.cell? ⟨w.heap.size + 1 + 1 + 1, 3, none⟩ = some (.int .i64 0) := fun d => d.h.1.2.2.2.2.2.2.2.2.2.2.2.2.2.2.2.2.1
        have k17 : ∀ d : Kept (fun w' => (doK w s j m g o true l h si la od op n b (off + kk * 2 + 1) z) w' ∧ Below W.heap.size W w'), d.w.cell? ⟨w.heap.size + 1 + 1 + 1, 4, none⟩ = some (.int .i64 0) := fun d => d.h.1.2.2.2.2.2.2.2.2.2.2.2.2.2.2.2.2.2.1
        have k18 : ∀ d : Kept (fun w' => (doK w s j m g o true l h si la od op n b (off + kk * 2 + 1) z) w' ∧ Below W.heap.size W w'), d.w.cell? ⟨w.heap.size + 1 + 1 + 1, 5, none⟩ = some (.int .i64 0) := fun d => d.h.1.2.2.2.2.2.2.2.2.2.2.2.2.2.2.2.2.2.2.1
        have k31 : ∀ d : Kept (fun w' => (doK w s j m g o true l h si la od op n b (off + kk * 2 + 1) z) w' ∧ Below W.heap.size W w'), d.w.cell? ⟨b, (off + kk * 2 + 1), none⟩ = some (.int .i64 z) := fun d => d.h.1.2.2.2.2.2.2.2.2.2.2.2.2.2.2.2.2.2.2.2.2.2.2.2.2.2.2.2.2.2.2.2.1
        repeat (go_big_quiet_step (fail))
        exact wpQuiet_nil rfl
      have q0 : w5.cell? ⟨p, 0, none⟩ = some (.int .i64 0) := by simp [World.cell?, hblk]
      have q1 : w5.cell? ⟨p, 1, none⟩ = some (.int .i64 0) := by simp [World.cell?, hblk]
      have q2 : w5.frozen? ⟨p, 0, none⟩ = false := by simp [World.frozen?, hblk]
      have q3 : w5.frozen? ⟨p, 1, none⟩ = false := by simp [World.frozen?, hblk]
      have l3 := ltCell hC4.2.2.2.2.2.2.2.2.2.2.2.2.2.1
      have lb := ltCell hC4.2.2.2.2.2.2.2.2.2.2.2.2.2.2.2.2.2.2.2.2.2.2.2.2.2.2.2.2.2.2.2.1
      have lw := ltCell (hrow kk hkk).2
      have E := cellSet2 (v0 := .int .i64 (z - m)) (v1 := .int .i64 (z + m)) q0 q1
      have hC6 : doN w s j m g o true l h si la od op n b (off + kk * 2 + 1) z p (z - m) (z + m) ((w5.setCell ⟨p, 0, none⟩ (.int .i64 (z - m))).setCell ⟨p, 1, none⟩ (.int .i64 (z + m))) := ⟨cellFar2 (by omega) hw5.1, cellFar2 (by omega) hw5.2.1, cellFar2 (by omega) hw5.2.2.1, cellFar2 (by omega) hw5.2.2.2.1, cellFar2 (by omega) hw5.2.2.2.2.1, cellFar2 (by omega) hw5.2.2.2.2.2.1, cellFar2 (by omega) hw5.2.2.2.2.2.2.1, cellFar2 (by omega) hw5.2.2.2.2.2.2.2.1, cellFar2 (by omega) hw5.2.2.2.2.2.2.2.2.1, cellFar2 (by omega) hw5.2.2.2.2.2.2.2.2.2.1, cellFar2 (by omega) hw5.2.2.2.2.2.2.2.2.2.2.1, cellFar2 (by omega) hw5.2.2.2.2.2.2.2.2.2.2.2.1, cellFar2 (by omega) hw5.2.2.2.2.2.2.2.2.2.2.2.2.1, cellFar2 (by omega) hw5.2.2.2.2.2.2.2.2.2.2.2.2.2.1, cellFar2 (by omega) hw5.2.2.2.2.2.2.2.2.2.2.2.2.2.2.1, cellFar2 (by omega) hw5.2.2.2.2.2.2.2.2.2.2.2.2.2.2.2.1, cellFar2 (by omega) hw5.2.2.2.2.2.2.2.2.2.2.2.2.2.2.2.2.1, cellFar2 (by omega) hw5.2.2.2.2.2.2.2.2.2.2.2.2.2.2.2.2.2.1, cellFar2 (by omega) hw5.2.2.2.2.2.2.2.2.2.2.2.2.2.2.2.2.2.2.1, (World.frozen?_setCell _ _ _ _).trans ((World.frozen?_setCell _ _ _ _).trans hw5.2.2.2.2.2.2.2.2.2.2.2.2.2.2.2.2.2.2.2.1), (World.frozen?_setCell _ _ _ _).trans ((World.frozen?_setCell _ _ _ _).trans hw5.2.2.2.2.2.2.2.2.2.2.2.2.2.2.2.2.2.2.2.2.1), (World.frozen?_setCell _ _ _ _).trans ((World.frozen?_setCell _ _ _ _).trans hw5.2.2.2.2.2.2.2.2.2.2.2.2.2.2.2.2.2.2.2.2.2.1), (World.frozen?_setCell _ _ _ _).trans ((World.frozen?_setCell _ _ _ _).trans hw5.2.2.2.2.2.2.2.2.2.2.2.2.2.2.2.2.2.2.2.2.2.2.1), (World.frozen?_setCell _ _ _ _).trans ((World.frozen?_setCell _ _ _ _).trans hw5.2.2.2.2.2.2.2.2.2.2.2.2.2.2.2.2.2.2.2.2.2.2.2.1), (World.frozen?_setCell _ _ _ _).trans ((World.frozen?_setCell _ _ _ _).trans hw5.2.2.2.2.2.2.2.2.2.2.2.2.2.2.2.2.2.2.2.2.2.2.2.2.1), (World.frozen?_setCell _ _ _ _).trans ((World.frozen?_setCell _ _ _ _).trans hw5.2.2.2.2.2.2.2.2.2.2.2.2.2.2.2.2.2.2.2.2.2.2.2.2.2.1), (World.frozen?_setCell _ _ _ _).trans ((World.frozen?_setCell _ _ _ _).trans hw5.2.2.2.2.2.2.2.2.2.2.2.2.2.2.2.2.2.2.2.2.2.2.2.2.2.2.1), (World.frozen?_setCell _ _ _ _).trans ((World.frozen?_setCell _ _ _ _).trans hw5.2.2.2.2.2.2.2.2.2.2.2.2.2.2.2.2.2.2.2.2.2.2.2.2.2.2.2.1), (World.frozen?_setCell _ _ _ _).trans ((World.frozen?_setCell _ _ _ _).trans hw5.2.2.2.2.2.2.2.2.2.2.2.2.2.2.2.2.2.2.2.2.2.2.2.2.2.2.2.2.1), (World.frozen?_setCell _ _ _ _).trans ((World.frozen?_setCell _ _ _ _).trans hw5.2.2.2.2.2.2.2.2.2.2.2.2.2.2.2.2.2.2.2.2.2.2.2.2.2.2.2.2.2.1), (World.frozen?_setCell _ _ _ _).trans ((World.frozen?_setCell _ _ _ _).trans hw5.2.2.2.2.2.2.2.2.2.2.2.2.2.2.2.2.2.2.2.2.2.2.2.2.2.2.2.2.2.2.1), cellFar2 (by omega) hw5.2.2.2.2.2.2.2.2.2.2.2.2.2.2.2.2.2.2.2.2.2.2.2.2.2.2.2.2.2.2.2.1, E.1, E.2, nbSet2 hw5.2.2.2.2.2.2.2.2.2.2.2.2.2.2.2.2.2.2.2.2.2.2.2.2.2.2.2.2.2.2.2.2 (by omega)⟩
      have hbn : b ≠ w.heap.size + 1 := by omega
      have hpn : p ≠ w.heap.size + 1 := by omega
      clear hblk hp E l3 lb lw
      go_simp
      generalize (w5.setCell ⟨p, 0, none⟩ (.int .i64 (z - m))).setCell ⟨p, 1, none⟩ (.int .i64 (z + m)) = w6 at *
      clear q0 q1 q2 q3 hw5 hC4 d1 hC hC3 hC2 hC1
      have c0 : w6.cell? ⟨w.heap.size, 0, none⟩ = some (.int .i64 s) := hC6.1
      have c1 : w6.cell? ⟨w.heap.size, 1, none⟩ = some (.int .i64 j) := hC6.2.1
      have c2 : w6.cell? ⟨w.heap.size, 2, none⟩ = some (.int .i64 m) := hC6.2.2.1
      have c3 : w6.cell? ⟨w.heap.size, 3, none⟩ = some (.int .i64 g) := hC6.2.2.2.1
      have c4 : w6.cell? ⟨w.heap.size, 4, none⟩ = some (.int .i64 o) := hC6.2.2.2.2.1
      have c5 : w6.cell? ⟨w.heap.size + 1, 0, none⟩ = some (.bool true) := hC6.2.2.2.2.2.1
      have c6 : w6.cell? ⟨w.heap.size + 1, 1, none⟩ = some (.int .i64 l) := hC6.2.2.2.2.2.2.1
      have c7 : w6.cell? ⟨w.heap.size + 1, 2, none⟩ = some (.int .i64 h) := hC6.2.2.2.2.2.2.2.1
      have c8 : w6.cell? ⟨w.heap.size + 1, 3, none⟩ = some (.int .i64 si) := hC6.2.2.2.2.2.2.2.2.1
      have c9 : w6.cell? ⟨w.heap.size + 1, 4, none⟩ = some (.int .i64 la) := hC6.2.2.2.2.2.2.2.2.2.1
      have c10 : w6.cell? ⟨w.heap.size + 1, 5, none⟩ = some (.int .i64 od) := hC6.2.2.2.2.2.2.2.2.2.2.1
      have c11 : w6.cell? ⟨w.heap.size + 1 + 1, 0, none⟩ = some (.int .i64 op) := hC6.2.2.2.2.2.2.2.2.2.2.2.1
      have c12 : w6.cell? ⟨w.heap.size + 1 + 1, 1, none⟩ = some (.int .i64 n) := hC6.2.2.2.2.2.2.2.2.2.2.2.2.1
      have c13 : w6.cell? ⟨w.heap.size + 1 + 1 + 1, 0, none⟩ = some (.bool false) := hC6.2.2.2.2.2.2.2.2.2.2.2.2.2.1
      have c14 : w6.cell? ⟨w.heap.size + 1 + 1 + 1, 1, none⟩ = some (.int .i64 0) := hC6.2.2.2.2.2.2.2.2.2.2.2.2.2.2.1
      have c15 : w6.cell? ⟨w.heap.size + 1 + 1 + 1, 2, none⟩ = some (.int .i64 0) := hC6.2.2.2.2.2.2.2.2.2.2.2.2.2.2.2.1
      have c16 : w6.cell? ⟨w.heap.size + 1 + 1 + 1, 3, none⟩ = some (.int .i64 0) := hC6.2.2.2.2.2.2.2.2.2.2.2.2.2.2.2.2.1
      have c17 : w6.cell? ⟨w.heap.size + 1 + 1 + 1, 4, none⟩ = some (.int .i64 0) := hC6.2.2.2.2.2.2.2.2.2.2.2.2.2.2.2.2.2.1
      have c18 : w6.cell? ⟨w.heap.size + 1 + 1 + 1, 5, none⟩ = some (.int .i64 0) := hC6.2.2.2.2.2.2.2.2.2.2.2.2.2.2.2.2.2.2.1
      have c19 : w6.frozen? ⟨w.heap.size + 1, 0, none⟩ = false := hC6.2.2.2.2.2.2.2.2.2.2.2.2.2.2.2.2.2.2.2.1
      have c20 : w6.frozen? ⟨w.heap.size + 1, 1, none⟩ = false := hC6.2.2.2.2.2.2.2.2.2.2.2.2.2.2.2.2.2.2.2.2.1
      have c21 : w6.frozen? ⟨w.heap.size + 1, 2, none⟩ = false := hC6.2.2.2.2.2.2.2.2.2.2.2.2.2.2.2.2.2.2.2.2.2.1
      have c22 : w6.frozen? ⟨w.heap.size + 1, 3, none⟩ = false := hC6.2.2.2.2.2.2.2.2.2.2.2.2.2.2.2.2.2.2.2.2.2.2.1
      have c23 : w6.frozen? ⟨w.heap.size + 1, 4, none⟩ = false := hC6.2.2.2.2.2.2.2.2.2.2.2.2.2.2.2.2.2.2.2.2.2.2.2.1
      have c24 : w6.frozen? ⟨w.heap.size + 1, 5, none⟩ = false := hC6.2.2.2.2.2.2.2.2.2.2.2.2.2.2.2.2.2.2.2.2.2.2.2.2.1
      have c25 : w6.frozen? ⟨w.heap.size + 1 + 1 + 1, 0, none⟩ = false := hC6.2.2.2.2.2.2.2.2.2.2.2.2.2.2.2.2.2.2.2.2.2.2.2.2.2.1
      have c26 : w6.frozen? ⟨w.heap.size + 1 + 1 + 1, 1, none⟩ = false := hC6.2.2.2.2.2.2.2.2.2.2.2.2.2.2.2.2.2.2.2.2.2.2.2.2.2.2.1
      have c27 : w6.frozen? ⟨w.heap.size + 1 + 1 + 1, 2, none⟩ = false := hC6.2.2.2.2.2.2.2.2.2.2.2.2.2.2.2.2.2.2.2.2.2.2.2.2.2.2.2.1
      have c28 : w6.frozen? ⟨w.heap.size + 1 + 1 + 1, 3, none⟩ = false := hC6.2.2.2.2.2.2.2.2.2.2.2.2.2.2.2.2.2.2.2.2.2.2.2.2.2.2.2.2.1
      have c29 : w6.frozen? ⟨w.heap.size + 1 + 1 + 1, 4, none⟩ = false := hC6.2.2.2.2.2.2.2.2.2.2.2.2.2.2.2.2.2.2.2.2.2.2.2.2.2.2.2.2.2.1
      have c30 : w6.frozen? ⟨w.heap.size + 1 + 1 + 1, 5, none⟩ = false := hC6.2.2.2.2.2.2.2.2.2.2.2.2.2.2.2.2.2.2.2.2.2.2.2.2.2.2.2.2.2.2.1
      have c31 : w6.cell? ⟨b, (off + kk * 2 + 1), none⟩ = some (.int .i64 z) := hC6.2.2.2.2.2.2.2.2.2.2.2.2.2.2.2.2.2.2.2.2.2.2.2.2.2.2.2.2.2.2.2.1
      have c32 : w6.cell? ⟨p, 0, none⟩ = some (.int .i64 (z - m)) := hC6.2.2.2.2.2.2.2.2.2.2.2.2.2.2.2.2.2.2.2.2.2.2.2.2.2.2.2.2.2.2.2.2.1
      have c33 : w6.cell? ⟨p, 1, none⟩ = some (.int .i64 (z + m)) := hC6.2.2.2.2.2.2.2.2.2.2.2.2.2.2.2.2.2.2.2.2.2.2.2.2.2.2.2.2.2.2.2.2.2.1
      have c34 : Below w.heap.size w w6 := hC6.2.2.2.2.2.2.2.2.2.2.2.2.2.2.2.2.2.2.2.2.2.2.2.2.2.2.2.2.2.2.2.2.2.2
      go_wp2_with fail
      clear c0 c1 c2 c3 c4 c5 c6 c7 c8 c9 c10 c11 c12 c13 c14 c15 c16 c17 c18 c19 c20 c21 c22 c23 c24 c25 c26 c27 c28 c29 c30 c31 c32 c33 c34
      refine region_kept (doN w s j m g o true l h si la od op n b (off + kk * 2 + 1) z p (z - m) (z + m)) (by kernel_rfl) (by kernel_rfl) ?_ ?_
      · obtain ⟨q0, q1, q2, q3, q4, q5, q6, q7, q8, q9, q10, q11, q12, q13, q14, q15, q16, q17, q18, q19, q20, q21, q22, q23, q24, q25, q26, q27, q28, q29, q30, q31, q32, q33, q34⟩ := hC6
        exact ⟨q0, q1, q2, q3, q4, q5, q6, q7, q8, q9, q10, q11, q12, q13, q14, q15, q16, q17, q18, q19, q20, q21, q22, q23, q24, q25, q26, q27, q28, q29, q30, q31, q32, q33, q34.drew⟩
      intro hN
      have k0 : ∀ d : Kept (doN w s j m g o true l h si la od op n b (off + kk * 2 + 1) z p (z - m) (z + m)), d.w.cell? ⟨w.heap.size, 0, none⟩ = some (.int .i64 s) := fun d => d.h.1
      have k1 : ∀ d : Kept (doN w s j m g o true l h si la od op n b (off + kk * 2 + 1) z p (z - m) (z + m)), d.w.cell? ⟨w.heap.size, 1, none⟩ = some (.int .i64 j) := fun d => d.h.2.1
      have k2 : ∀ d : Kept (doN w s j m g o true l h si la od op n b (off + kk * 2 + 1) z p (z - m) (z + m)), d.w.cell? ⟨w.heap.size, 2, none⟩ = some (.int .i64 m) := fun d => d.h.2.2.1
      have k3 : ∀ d : Kept (doN w s j m g o true l h si la od op n b (off + kk * 2 + 1) z p (z - m) (z + m)), d.w.cell? ⟨w.heap.size, 3, none⟩ = some (.int .i64 g) := fun d => d.h.2.2.2.1
      have k4 : ∀ d : Kept (doN w s j m g o true l h si la od op n b (off + kk * 2 + 1) z p (z - m) (z + m)), d.w.cell? ⟨w.heap.size, 4, none⟩ = some (.int .i64 o) := fun d => d.h.2.2.2.2.1
      have k5 : ∀ d : Kept (doN w s j m g o true l h si la od op n b (off + kk * 2 + 1) z p (z - m) (z + m)), d.w.cell? ⟨w.heap.size + 1, 0, none⟩ = some (.bool true) := fun d => d.h.2.2.2.2.2.1
      have k6 : ∀ d : Kept (doN w s j m g o true l h si la od op n b (off + kk * 2 + 1) z p (z - m) (z + m)), d.w.cell? ⟨w.heap.size + 1, 1, none⟩ = some (.int .i64 l) := fun d => d.h.2.2.2.2.2.2.1
      have k7 : ∀ d : Kept (doN w s j m g o true l h si la od op n b (off + kk * 2 + 1) z p (z - m) (z + m)), d.w.cell? ⟨w.heap.size + 1, 2, none⟩ = some (.int .i64 h) := fun d => d.h.2.2.2.2.2.2.2.1
      have k8 : ∀ d : Kept (doN w s j m g o true l h si la od op n b (off + kk * 2 + 1) z p (z - m) (z + m)), d.w.cell? ⟨w.heap.size + 1, 3, none⟩ = some (.int .i64 si) := fun d => d.h.2.2.2.2.2.2.2.2.1
      have k9 : ∀ d : Kept (doN w s j m g o true l h si la od op n b (off + kk * 2 + 1) z p (z - m) (z + m)), d.w.cell? ⟨w.heap.size + 1, 4, none⟩ = some (.int .i64 la) := fun d => d.h.2.2.2.2.2.2.2.2.2.1
      have k10 : ∀ d : Kept (doN w s j m g o true l h si la od op n b (off + kk * 2 + 1) z p (z - m) (z + m)), d.w.cell? ⟨w.heap.size + 1, 5, none⟩ = some (.int .i64 od) := fun d => d.h.2.2.2.2.2.2.2.2.2.2.1
      have k11 : ∀ d : Kept (doN w s j m g o true l h si la od op n b (off + kk * 2 + 1) z p (z - m) (z + m)), d.w.cell? ⟨w.heap.size + 1 + 1, 0, none⟩ = some (.int .i64 op) := fun d => d.h.2.2.2.2.2.2.2.2.2.2.2.1
      have k12 : ∀ d : Kept (doN w s j m g o true l h si la od op n b (off + kk * 2 + 1) z p (z - m) (z + m)), d.w.cell? ⟨w.heap.size + 1 + 1, 1, none⟩ = some (.int .i64 n) := fun d => d.h.2.2.2.2.2.2.2.2.2.2.2.2.1
      have k13 : ∀ d : Kept (doN w s j m g o true l h si la od op n b (off + kk * 2 + 1) z p (z - m) (z + m)), d.w.cell? ⟨w.heap.size + 1 + 1 + 1, 0, none⟩ = some (.bool false) := fun d => d.h.2.2.2.2.2.2.2.2.2.2.2.2.2.1
      have k14 : ∀ d : Kept (doN w s j m g o true l h si la od op n b (off + kk * 2 + 1) z p (z - m) (z + m)), d.w.cell? ⟨w.heap.size + 1 + 1 + 1, 1, none⟩ = some (.int .i64 0) := fun d => d.h.2.2.2.2.2.2.2.2.2.2.2.2.2.2.1
      have k15 : ∀ d : Kept (doN w s j m g o true l h si la od op n b (off + kk * 2 + 1) z p (z - m) (z + m)), d.w.cell? ⟨w.heap.size + 1 + 1 + 1, 2, none⟩ = some (.int .i64 0) := fun d => d.h.2.2.2.2.2.2.2.2.2.2.2.2.2.2.2.1
      have k16 : ∀ d : Kept (doN w s j m g o true l h si la od op n b (off + kk * 2 + 1) z p (z - m) (z + m)), d.w.cell? ⟨w.heap.size + 1 + 1 + 1, 3, none⟩ = some (.int .i64 0) := fun d => d.h.2.2.2.2.2.2.2.2.2.2.2.2.2.2.2.2.1
      have k17 : ∀ d : Kept (doN w s j m g o true l h si la od op n b (off + kk * 2 + 1) z p (z - m) (z + m)), d.w.cell? ⟨w.heap.size + 1 + 1 + 1, 4, none⟩ = some (.int .i64 0) := fun d => d.h.2.2.2.2.2.2.2.2.2.2.2.2.2.2.2.2.2.1
      have k18 : ∀ d : Kept (doN w s j m g o true l h si la od op n b (off + kk * 2 + 1) z p (z - m) (z + m)), d.w.cell? ⟨w.heap.size + 1 + 1 + 1, 5, none⟩ = some (.int .i64 0) := fun d => d.h.2.2.2.2.2.2.2.2.2.2.2.2.2.2.2.2.2.2.1
      have k31 : ∀ d : Kept (doN w s j m g o true l h si la od op n b (off + kk * 2 + 1) z p (z - m) (z + m)), d.w.cell? ⟨b, (off + kk * 2 + 1), none⟩ = some (.int .i64 z) := fun d => d.h.2.2.2.2.2.2.2.2.2.2.2.2.2.2.2.2.2.2.2.2.2.2.2.2.2.2.2.2.2.2.2.1
      have k32 : ∀ d : Kept (doN w s j m g o true l h si la od op n b (off + kk * 2 + 1) z p (z - m) (z + m)), d.w.cell? ⟨p, 0, none⟩ = some (.int .i64 (z - m)) := fun d => d.h.2.2.2.2.2.2.2.2.2.2.2.2.2.2.2.2.2.2.2.2.2.2.2.2.2.2.2.2.2.2.2.2.1
      have k33 : ∀ d : Kept (doN w s j m g o true l h si la od op n b (off + kk * 2 + 1) z p (z - m) (z + m)), d.w.cell? ⟨p, 1, none⟩ = some (.int .i64 (z + m)) := fun d => d.h.2.2.2.2.2.2.2.2.2.2.2.2.2.2.2.2.2.2.2.2.2.2.2.2.2.2.2.2.2.2.2.2.2.1
      repeat (go_big_quiet_step (first | (go_at_call 65; exact call_kept _ doN_on (l1clip_c _ _ _ (by omega) (by omega))) | (go_at_call 77; exact call_kept _ doN_on (specMeets_t _ _ _ _ _ hmt))))
      refine wpQuiet_nil ?_
      rintro w7 ⟨d, hd2⟩
      have hC7 := d.h
      rw [← hd2] at hC7
      clear k0 k1 k2 k3 k4 k5 k6 k7 k8 k9 k10 k11 k12 k13 k14 k15 k16 k17 k18 k31 k32 k33 hN hd2 hC6
      have c0 : w7.cell? ⟨w.heap.size, 0, none⟩ = some (.int .i64 s) := hC7.1
      have c1 : w7.cell? ⟨w.heap.size, 1, none⟩ = some (.int .i64 j) := hC7.2.1
      have c2 : w7.cell? ⟨w.heap.size, 2, none⟩ = some (.int .i64 m) := hC7.2.2.1
      have c3 : w7.cell? ⟨w.heap.size, 3, none⟩ = some (.int .i64 g) := hC7.2.2.2.1
      have c4 : w7.cell? ⟨w.heap.size, 4, none⟩ = some (.int .i64 o) := hC7.2.2.2.2.1
      have c5 : w7.cell? ⟨w.heap.size + 1, 0, none⟩ = some (.bool true) := hC7.2.2.2.2.2.1
      have c6 : w7.cell? ⟨w.heap.size + 1, 1, none⟩ = some (.int .i64 l) := hC7.2.2.2.2.2.2.1
      have c7 : w7.cell? ⟨w.heap.size + 1, 2, none⟩ = some (.int .i64 h) := hC7.2.2.2.2.2.2.2.1
      have c8 : w7.cell? ⟨w.heap.size + 1, 3, none⟩ = some (.int .i64 si) := hC7.2.2.2.2.2.2.2.2.1
      have c9 : w7.cell? ⟨w.heap.size + 1, 4, none⟩ = some (.int .i64 la) := hC7.2.2.2.2.2.2.2.2.2.1
      have c10 : w7.cell? ⟨w.heap.size + 1, 5, none⟩ = some (.int .i64 od) := hC7.2.2.2.2.2.2.2.2.2.2.1
      have c11 : w7.cell? ⟨w.heap.size + 1 + 1, 0, none⟩ = some (.int .i64 op) := hC7.2.2.2.2.2.2.2.2.2.2.2.1
      have c12 : w7.cell? ⟨w.heap.size + 1 + 1, 1, none⟩ = some (.int .i64 n) := hC7.2.2.2.2.2.2.2.2.2.2.2.2.1
      have c13 : w7.cell? ⟨w.heap.size + 1 + 1 + 1, 0, none⟩ = some (.bool false) := hC7.2.2.2.2.2.2.2.2.2.2.2.2.2.1
      have c14 : w7.cell? ⟨w.heap.size + 1 + 1 + 1, 1, none⟩ = some (.int .i64 0) := hC7.2.2.2.2.2.2.2.2.2.2.2.2.2.2.1
      have c15 : w7.cell? ⟨w.heap.size + 1 + 1 + 1, 2, none⟩ = some (.int .i64 0) := hC7.2.2.2.2.2.2.2.2.2.2.2.2.2.2.2.1
      have c16 : w7.cell? ⟨w.heap.size + 1 + 1 + 1, 3, none⟩ = some (.int .i64 0) := hC7.2.2.2.2.2.2.2.2.2.2.2.2.2.2.2.2.1
      have c17 : w7.cell? ⟨w.heap.size + 1 + 1 + 1, 4, none⟩ = some (.int .i64 0) := hC7.2.2.2.2.2.2.2.2.2.2.2.2.2.2.2.2.2.1
      have c18 : w7.cell? ⟨w.heap.size + 1 + 1 + 1, 5, none⟩ = some (.int .i64 0) := hC7.2.2.2.2.2.2.2.2.2.2.2.2.2.2.2.2.2.2.1
      have c19 : w7.frozen? ⟨w.heap.size + 1, 0, none⟩ = false := hC7.2.2.2.2.2.2.2.2.2.2.2.2.2.2.2.2.2.2.2.1
      have c20 : w7.frozen? ⟨w.heap.size + 1, 1, none⟩ = false := hC7.2.2.2.2.2.2.2.2.2.2.2.2.2.2.2.2.2.2.2.2.1
      have c21 : w7.frozen? ⟨w.heap.size + 1, 2, none⟩ = false := hC7.2.2.2.2.2.2.2.2.2.2.2.2.2.2.2.2.2.2.2.2.2.1
      have c22 : w7.frozen? ⟨w.heap.size + 1, 3, none⟩ = false := hC7.2.2.2.2.2.2.2.2.2.2.2.2.2.2.2.2.2.2.2.2.2.2.1
      have c23 : w7.frozen? ⟨w.heap.size + 1, 4, none⟩ = false := hC7.2.2.2.2.2.2.2.2.2.2.2.2.2.2.2.2.2.2.2.2.2.2.2.1
      have c24 : w7.frozen? ⟨w.heap.size + 1, 5, none⟩ = false := hC7.2.2.2.2.2.2.2.2.2.2.2.2.2.2.2.2.2.2.2.2.2.2.2.2.1
      have c25 : w7.frozen? ⟨w.heap.size + 1 + 1 + 1, 0, none⟩ = false := hC7.2.2.2.2.2.2.2.2.2.2.2.2.2.2.2.2.2.2.2.2.2.2.2.2.2.1
      have c26 : w7.frozen? ⟨w.heap.size + 1 + 1 + 1, 1, none⟩ = false := hC7.2.2.2.2.2.2.2.2.2.2.2.2.2.2.2.2.2.2.2.2.2.2.2.2.2.2.1
      have c27 : w7.frozen? ⟨w.heap.size + 1 + 1 + 1, 2, none⟩ = false := hC7.2.2.2.2.2.2.2.2.2.2.2.2.2.2.2.2.2.2.2.2.2.2.2.2.2.2.2.1
      have c28 : w7.frozen? ⟨w.heap.size + 1 + 1 + 1, 3, none⟩ = false := hC7.2.2.2.2.2.2.2.2.2.2.2.2.2.2.2.2.2.2.2.2.2.2.2.2.2.2.2.2.1
      have c29 : w7.frozen? ⟨w.heap.size + 1 + 1 + 1, 4, none⟩ = false := hC7.2.2.2.2.2.2.2.2.2.2.2.2.2.2.2.2.2.2.2.2.2.2.2.2.2.2.2.2.2.1
      have c30 : w7.frozen? ⟨w.heap.size + 1 + 1 + 1, 5, none⟩ = false := hC7.2.2.2.2.2.2.2.2.2.2.2.2.2.2.2.2.2.2.2.2.2.2.2.2.2.2.2.2.2.2.1
      have c31 : w7.cell? ⟨b, (off + kk * 2 + 1), none⟩ = some (.int .i64 z) := hC7.2.2.2.2.2.2.2.2.2.2.2.2.2.2.2.2.2.2.2.2.2.2.2.2.2.2.2.2.2.2.2.1
      have c32 : w7.cell? ⟨p, 0, none⟩ = some (.int .i64 (z - m)) := hC7.2.2.2.2.2.2.2.2.2.2.2.2.2.2.2.2.2.2.2.2.2.2.2.2.2.2.2.2.2.2.2.2.1
      have c33 : w7.cell? ⟨p, 1, none⟩ = some (.int .i64 (z + m)) := hC7.2.2.2.2.2.2.2.2.2.2.2.2.2.2.2.2.2.2.2.2.2.2.2.2.2.2.2.2.2.2.2.2.2.1
      have c34 : Below w.heap.size w w7 := hC7.2.2.2.2.2.2.2.2.2.2.2.2.2.2.2.2.2.2.2.2.2.2.2.2.2.2.2.2.2.2.2.2.2.2
      go_wp2_with fail
      clear c0 c1 c2 c3 c4 c5 c6 c7 c8 c9 c10 c11 c12 c13 c14 c15 c16 c17 c18 c19 c20 c21 c22 c23 c24 c25 c26 c27 c28 c29 c30 c31 c32 c33 c34
      have hC8 := hC7
      refine region_last (doN w s j m g o true l h si la od op n b (off + kk * 2 + 1) z p (z - m) (z + m)) 10 rfl (by kernel_rfl) (by kernel_rfl) (by kernel_rfl) ?_ ?_
      · obtain ⟨q0, q1, q2, q3, q4, q5, q6, q7, q8, q9, q10, q11, q12, q13, q14, q15, q16, q17, q18, q19, q20, q21, q22, q23, q24, q25, q26, q27, q28, q29, q30, q31, q32, q33, q34⟩ := hC8
        exact ⟨q0, q1, q2, q3, q4, q5, q6, q7, q8, q9, q10, q11, q12, q13, q14, q15, q16, q17, q18, q19, q20, q21, q22, q23, q24, q25, q26, q27, q28, q29, q30, q31, q32, q33, q34.drew⟩
      apply Exists.intro
      refine ⟨fun hN => ?_, fun w9 h9 => ?_⟩
      · simp only [List.set_cons_succ, List.set_cons_zero, idle]
        have k0 : ∀ d : Kept (doN w s j m g o true l h si la od op n b (off + kk * 2 + 1) z p (z - m) (z + m)), d.w.cell? ⟨w.heap.size, 0, none⟩ = some (.int .i64 s) := fun d => d.h.1
        have k1 : ∀ d : Kept (doN w s j m g o true l h si la od op n b (off + kk * 2 + 1) z p (z - m) (z + m)), d.w.cell? ⟨w.heap.size, 1, none⟩ = some (.int .i64 j) := fun d => d.h.2.1
        have k2 : ∀ d : Kept (doN w s j m g o true l h si la od op n b (off + kk * 2 + 1) z p (z - m) (z + m)), d.w.cell? ⟨w.heap.size, 2, none⟩ = some (.int .i64 m) := fun d => d.h.2.2.1
        have k3 : ∀ d : Kept (doN w s j m g o true l h si la od op n b (off + kk * 2 + 1) z p (z - m) (z + m)), d.w.cell? ⟨w.heap.size, 3, none⟩ = some (.int .i64 g) := fun d => d.h.2.2.2.1
        have k4 : ∀ d : Kept (doN w s j m g o true l h si la od op n b (off + kk * 2 + 1) z p (z - m) (z + m)), d.w.cell? ⟨w.heap.size, 4, none⟩ = some (.int .i64 o) := fun d => d.h.2.2.2.2.1
        have k5 : ∀ d : Kept (doN w s j m g o true l h si la od op n b (off + kk * 2 + 1) z p (z - m) (z + m)), d.w.cell? ⟨w.heap.size + 1, 0, none⟩ = some (.bool true) := fun d => d.h.2.2.2.2.2.1
        have k6 : ∀ d : Kept (doN w s j m g o true l h si la od op n b (off + kk * 2 + 1) z p (z - m) (z + m)), d.w.cell? ⟨w.heap.size + 1, 1, none⟩ = some (.int .i64 l) := fun d => d.h.2.2.2.2.2.2.1
        have k7 : ∀ d : Kept (doN w s j m g o true l h si la od op n b (off + kk * 2 + 1) z p (z - m) (z + m)), d.w.cell? ⟨w.heap.size + 1, 2, none⟩ = some (.int .i64 h) := fun d => d.h.2.2.2.2.2.2.2.1
        have k8 : ∀ d : Kept (doN w s j m g o true l h si la od op n b (off + kk * 2 + 1) z p (z - m) (z + m)), d.w.cell? ⟨w.heap.size + 1, 3, none⟩ = some (.int .i64 si) := fun d => d.h.2.2.2.2.2.2.2.2.1
        have k9 : ∀ d : Kept (doN w s j m g o true l h si la od op n b (off + kk * 2 + 1) z p (z - m) (z + m)), d.w.cell? ⟨w.heap.size + 1, 4, none⟩ = some (.int .i64 la) := fun d => d.h.2.2.2.2.2.2.2.2.2.1
        have k10 : ∀ d : Kept (doN w s j m g o true l h si la od op n b (off + kk * 2 + 1) z p (z - m) (z + m)), d.w.cell? ⟨w.heap.size + 1, 5, none⟩ = some (.int .i64 od) := fun d => d.h.2.2.2.2.2.2.2.2.2.2.1
        have k11 : ∀ d : Kept (doN w s j m g o true l h si la od op n b (off + kk * 2 + 1) z p (z - m) (z + m)), d.w.cell? ⟨w.heap.size + 1 + 1, 0, none⟩ = some (.int .i64 op) := fun d => d.h.2.2.2.2.2.2.2.2.2.2.2.1
        have k12 : ∀ d : Kept (doN w s j m g o true l h si la od op n b (off + kk * 2 + 1) z p (z - m) (z + m)), d.w.cell? ⟨w.heap.size + 1 + 1, 1, none⟩ = some (.int .i64 n) := fun d => d.h.2.2.2.2.2.2.2.2.2.2.2.2.1
        have k13 : ∀ d : Kept (doN w s j m g o true l h si la od op n b (off + kk * 2 + 1) z p (z - m) (z + m)), d.w.cell? ⟨w.heap.size + 1 + 1 + 1, 0, none⟩ = some (.bool false) := fun d => d.h.2.2.2.2.2.2.2.2.2.2.2.2.2.1
        have k14 : ∀ d : Kept (doN w s j m g o true l h si la od op n b (off + kk * 2 + 1) z p (z - m) (z + m)), d.w.cell? ⟨w.heap.size + 1 + 1 + 1, 1, none⟩ = some (.int .i64 0) := fun d => d.h.2.2.2.2.2.2.2.2.2.2.2.2.2.2.1
        have k15 : ∀ d : Kept (doN w s j m g o true l h si la od op n b (off + kk * 2 + 1) z p (z - m) (z + m)), d.w.cell? ⟨w.heap.size + 1 + 1 + 1, 2, none⟩ = some (.int .i64 0) := fun d => d.h.2.2.2.2.2.2.2.2.2.2.2.2.2.2.2.1
        have k16 : ∀ d : Kept (doN w s j m g o true l h si la od op n b (off + kk * 2 + 1) z p (z - m) (z + m)), d.w.cell? ⟨w.heap.size + 1 + 1 + 1, 3, none⟩ = some (.int .i64 0) := fun d => d.h.2.2.2.2.2.2.2.2.2.2.2.2.2.2.2.2.1
        have k17 : ∀ d : Kept (doN w s j m g o true l h si la od op n b (off + kk * 2 + 1) z p (z - m) (z + m)), d.w.cell? ⟨w.heap.size + 1 + 1 + 1, 4, none⟩ = some (.int .i64 0) := fun d => d.h.2.2.2.2.2.2.2.2.2.2.2.2.2.2.2.2.2.1
        have k18 : ∀ d : Kept (doN w s j m g o true l h si la od op n b (off + kk * 2 + 1) z p (z - m) (z + m)), d.w.cell? ⟨w.heap.size + 1 + 1 + 1, 5, none⟩ = some (.int .i64 0) := fun d => d.h.2.2.2.2.2.2.2.2.2.2.2.2.2.2.2.2.2.2.1
        have k31 : ∀ d : Kept (doN w s j m g o true l h si la od op n b (off + kk * 2 + 1) z p (z - m) (z + m)), d.w.cell? ⟨b, (off + kk * 2 + 1), none⟩ = some (.int .i64 z) := fun d => d.h.2.2.2.2.2.2.2.2.2.2.2.2.2.2.2.2.2.2.2.2.2.2.2.2.2.2.2.2.2.2.2.1
        have k32 : ∀ d : Kept (doN w s j m g o true l h si la od op n b (off + kk * 2 + 1) z p (z - m) (z + m)), d.w.cell? ⟨p, 0, none⟩ = some (.int .i64 (z - m)) := fun d => d.h.2.2.2.2.2.2.2.2.2.2.2.2.2.2.2.2.2.2.2.2.2.2.2.2.2.2.2.2.2.2.2.2.1
        have k33 : ∀ d : Kept (doN w s j m g o true l h si la od op n b (off + kk * 2 + 1) z p (z - m) (z + m)), d.w.cell? ⟨p, 1, none⟩ = some (.int .i64 (z + m)) := fun d => d.h.2.2.2.2.2.2.2.2.2.2.2.2.2.2.2.2.2.2.2.2.2.2.2.2.2.2.2.2.2.2.2.2.2.1
        repeat (go_big_quiet_step (first | (go_at_call 78; exact call_kept _ doN_on (specRead_yes _ _ _ _ _ _ _ _ _ _ _ hr hbk hz1 (show Hid ((min (z - m) 100000000) = (min (z - m) 100000000)) from rfl) (show Hid ((min (z + m) 100000000) = (min (z + m) 100000000)) from rfl) hmt))))
        exact wpQuiet_nil rfl
      have c0 : w9.cell? ⟨w.heap.size, 0, none⟩ = some (.int .i64 s) := h9.1
      have c1 : w9.cell? ⟨w.heap.size, 1, none⟩ = some (.int .i64 j) := h9.2.1
      have c2 : w9.cell? ⟨w.heap.size, 2, none⟩ = some (.int .i64 m) := h9.2.2.1
      have c3 : w9.cell? ⟨w.heap.size, 3, none⟩ = some (.int .i64 g) := h9.2.2.2.1
      have c4 : w9.cell? ⟨w.heap.size, 4, none⟩ = some (.int .i64 o) := h9.2.2.2.2.1
      have c5 : w9.cell? ⟨w.heap.size + 1, 0, none⟩ = some (.bool true) := h9.2.2.2.2.2.1
      have c6 : w9.cell? ⟨w.heap.size + 1, 1, none⟩ = some (.int .i64 l) := h9.2.2.2.2.2.2.1
      have c7 : w9.cell? ⟨w.heap.size + 1, 2, none⟩ = some (.int .i64 h) := h9.2.2.2.2.2.2.2.1
      have c8 : w9.cell? ⟨w.heap.size + 1, 3, none⟩ = some (.int .i64 si) := h9.2.2.2.2.2.2.2.2.1
      have c9 : w9.cell? ⟨w.heap.size + 1, 4, none⟩ = some (.int .i64 la) := h9.2.2.2.2.2.2.2.2.2.1
      have c10 : w9.cell? ⟨w.heap.size + 1, 5, none⟩ = some (.int .i64 od) := h9.2.2.2.2.2.2.2.2.2.2.1
      have c11 : w9.cell? ⟨w.heap.size + 1 + 1, 0, none⟩ = some (.int .i64 op) := h9.2.2.2.2.2.2.2.2.2.2.2.1
      have c12 : w9.cell? ⟨w.heap.size + 1 + 1, 1, none⟩ = some (.int .i64 n) := h9.2.2.2.2.2.2.2.2.2.2.2.2.1
      have c13 : w9.cell? ⟨w.heap.size + 1 + 1 + 1, 0, none⟩ = some (.bool false) := h9.2.2.2.2.2.2.2.2.2.2.2.2.2.1
      have c14 : w9.cell? ⟨w.heap.size + 1 + 1 + 1, 1, none⟩ = some (.int .i64 0) := h9.2.2.2.2.2.2.2.2.2.2.2.2.2.2.1
      have c15 : w9.cell? ⟨w.heap.size + 1 + 1 + 1, 2, none⟩ = some (.int .i64 0) := h9.2.2.2.2.2.2.2.2.2.2.2.2.2.2.2.1
      have c16 : w9.cell? ⟨w.heap.size + 1 + 1 + 1, 3, none⟩ = some (.int .i64 0) := h9.2.2.2.2.2.2.2.2.2.2.2.2.2.2.2.2.1
      have c17 : w9.cell? ⟨w.heap.size + 1 + 1 + 1, 4, none⟩ = some (.int .i64 0) := h9.2.2.2.2.2.2.2.2.2.2.2.2.2.2.2.2.2.1
      have c18 : w9.cell? ⟨w.heap.size + 1 + 1 + 1, 5, none⟩ = some (.int .i64 0) := h9.2.2.2.2.2.2.2.2.2.2.2.2.2.2.2.2.2.2.1
      have c19 : w9.frozen? ⟨w.heap.size + 1, 0, none⟩ = false := h9.2.2.2.2.2.2.2.2.2.2.2.2.2.2.2.2.2.2.2.1
      have c20 : w9.frozen? ⟨w.heap.size + 1, 1, none⟩ = false := h9.2.2.2.2.2.2.2.2.2.2.2.2.2.2.2.2.2.2.2.2.1
      have c21 : w9.frozen? ⟨w.heap.size + 1, 2, none⟩ = false := h9.2.2.2.2.2.2.2.2.2.2.2.2.2.2.2.2.2.2.2.2.2.1
      have c22 : w9.frozen? ⟨w.heap.size + 1, 3, none⟩ = false := h9.2.2.2.2.2.2.2.2.2.2.2.2.2.2.2.2.2.2.2.2.2.2.1
      have c23 : w9.frozen? ⟨w.heap.size + 1, 4, none⟩ = false := h9.2.2.2.2.2.2.2.2.2.2.2.2.2.2.2.2.2.2.2.2.2.2.2.1
      have c24 : w9.frozen? ⟨w.heap.size + 1, 5, none⟩ = false := h9.2.2.2.2.2.2.2.2.2.2.2.2.2.2.2.2.2.2.2.2.2.2.2.2.1
      have c25 : w9.frozen? ⟨w.heap.size + 1 + 1 + 1, 0, none⟩ = false := h9.2.2.2.2.2.2.2.2.2.2.2.2.2.2.2.2.2.2.2.2.2.2.2.2.2.1
      have c26 : w9.frozen? ⟨w.heap.size + 1 + 1 + 1, 1, none⟩ = false := h9.2.2.2.2.2.2.2.2.2.2.2.2.2.2.2.2.2.2.2.2.2.2.2.2.2.2.1
      have c27 : w9.frozen? ⟨w.heap.size + 1 + 1 + 1, 2, none⟩ = false := h9.2.2.2.2.2.2.2.2.2.2.2.2.2.2.2.2.2.2.2.2.2.2.2.2.2.2.2.1
      have c28 : w9.frozen? ⟨w.heap.size + 1 + 1 + 1, 3, none⟩ = false := h9.2.2.2.2.2.2.2.2.2.2.2.2.2.2.2.2.2.2.2.2.2.2.2.2.2.2.2.2.1
      have c29 : w9.frozen? ⟨w.heap.size + 1 + 1 + 1, 4, none⟩ = false := h9.2.2.2.2.2.2.2.2.2.2.2.2.2.2.2.2.2.2.2.2.2.2.2.2.2.2.2.2.2.1
      have c30 : w9.frozen? ⟨w.heap.size + 1 + 1 + 1, 5, none⟩ = false := h9.2.2.2.2.2.2.2.2.2.2.2.2.2.2.2.2.2.2.2.2.2.2.2.2.2.2.2.2.2.2.1
      have c31 : w9.cell? ⟨b, (off + kk * 2 + 1), none⟩ = some (.int .i64 z) := h9.2.2.2.2.2.2.2.2.2.2.2.2.2.2.2.2.2.2.2.2.2.2.2.2.2.2.2.2.2.2.2.1
      have c32 : w9.cell? ⟨p, 0, none⟩ = some (.int .i64 (z - m)) := h9.2.2.2.2.2.2.2.2.2.2.2.2.2.2.2.2.2.2.2.2.2.2.2.2.2.2.2.2.2.2.2.2.1
      have c33 : w9.cell? ⟨p, 1, none⟩ = some (.int .i64 (z + m)) := h9.2.2.2.2.2.2.2.2.2.2.2.2.2.2.2.2.2.2.2.2.2.2.2.2.2.2.2.2.2.2.2.2.2.1
      have c34 : Below w.heap.size w w9 := h9.2.2.2.2.2.2.2.2.2.2.2.2.2.2.2.2.2.2.2.2.2.2.2.2.2.2.2.2.2.2.2.2.2.2
      clear hC7 hC8 h9
      go_simp
      go_wp2
      have hq1 : w.heap.size ≤ w.heap.size + 1 := by omega
      have hq3 : w.heap.size ≤ w.heap.size + 1 + 1 + 1 := by omega
      exact bodyPost_ret (v := .agg #[.bool true, .int .i64 (max l (min (z - m) 100000000)), .int .i64 (min h (min (z + m) 100000000)), .int .i64 0, .int .i64 ((kk : Int)), .int .i64 od]) (by simp [results, Tryd.results31, go_sem, *]) rfl ⟨rfl, (nbSetX (nbSetX (nbSetX (nbSetX (nbSetX (nbSetX (nbSetX (nbSetX (nbSetX (nbSetX (nbSetX c34 hq1) hq1) hq1) hq1) hq1) hq3) hq3) hq3) hq3) hq3) hq3)⟩

set_option maxHeartbeats 4000000 in
theorem specDo_mark2 (b off len cap : Nat) (f a : Nat → Int) (s j m g o : Int) (l h si la od op n : Int) (w : World) (hl : len ≤ 1048576) (hrow : Row2 w b off len f a) (hr : rOk s j m g o = true) (hst : stB (marksB f a len) len true l h si la od = true) (hev : evB op n = true) (hop : (op == 2) = true) (kk : Nat) (hK : Hid (lastIx f n len = (kk : Int))) (hkk : kk < len) (z : Int) (hz : Hid (a kk = z)) (hz1 : inB z 0 100000000 = true) (hmt : mB l h (min (z - m) 100000000) (min (z + m) 100000000) = false) :
    Calls Tryd.prog 31 #[.agg #[.int .i64 s, .int .i64 j, .int .i64 m, .int .i64 g, .int .i64 o], .slice (some ⟨b, off, none⟩) len cap, .agg #[.bool true, .int .i64 l, .int .i64 h, .int .i64 si, .int .i64 la, .int .i64 od], .agg #[.int .i64 op, .int .i64 n]] w fun e w' => e = .returned (.agg #[.bool true, .int .i64 (min l (min (z - m) 100000000)), .int .i64 (max h (min (z + m) 100000000)), .int .i64 0, .int .i64 ((kk : Int)), .int .i64 (min (od + 1) 1000000000)]) ∧ Below w.heap.size w w' := by
  have hst' := hst
  simp only [stB, inB, Bool.and_eq_true, decide_eq_true_eq] at hst'
  obtain ⟨⟨⟨⟨hmk, hla0, hla1⟩, hsi0, hsi1⟩, hod0, hod1⟩, hbd⟩ := hst'
  have HMK : Hid (marksB f a len = true) := hmk
  have HBD : Hid ((if true then bOk l h else l == 0 && h == 0 && la == -1) = true) := hbd
  clear hmk hbd
  have h1 : (op == 1) = false := by rw [eq_of_beq hop]; rfl
  have hbk : bOk l h = true := by have := HBD.out; simpa using this
  have wr : IntKind.i64.wrap (od + 1) = od + 1 := by rw [IntKind.wrap_i64]; omega
  have hr' := hr
  have hz' := hz1
  simp only [rOk, inB, Bool.and_eq_true, decide_eq_true_eq] at hr' hz'
  obtain ⟨⟨⟨⟨⟨hs0, hs⟩, hj0, hj⟩, hm0, hm1⟩, -⟩, -⟩ := hr'
  obtain ⟨hz0, hz2⟩ := hz'
  have wr1 : IntKind.i64.wrap (z - m) = z - m := wrapS (by omega) (by omega)
  have wr2 : IntKind.i64.wrap (z + m) = z + m := wrapS (by omega) (by omega)
  go_enter Tryd.func31, Tryd.ntmps31
  go_wp2_with fail
  refine (specRulesOk_c _ _ _ _ _ _).mono ?_
  rintro e w1 ⟨rfl, hb1⟩
  have hC1 : doC w s j m g o true l h si la od op n w1 := ⟨cellOn hb1 (by go_simp), cellOn hb1 (by go_simp), cellOn hb1 (by go_simp), cellOn hb1 (by go_simp), cellOn hb1 (by go_simp), cellOn hb1 (by go_simp), cellOn hb1 (by go_simp), cellOn hb1 (by go_simp), cellOn hb1 (by go_simp), cellOn hb1 (by go_simp), cellOn hb1 (by go_simp), cellOn hb1 (by go_simp), cellOn hb1 (by go_simp), cellOn hb1 (by go_simp), cellOn hb1 (by go_simp), cellOn hb1 (by go_simp), cellOn hb1 (by go_simp), cellOn hb1 (by go_simp), cellOn hb1 (by go_simp), frozenOn hb1 (v := .bool true) (by go_simp) (by go_simp), frozenOn hb1 (v := .int .i64 l) (by go_simp) (by go_simp), frozenOn hb1 (v := .int .i64 h) (by go_simp) (by go_simp), frozenOn hb1 (v := .int .i64 si) (by go_simp) (by go_simp), frozenOn hb1 (v := .int .i64 la) (by go_simp) (by go_simp), frozenOn hb1 (v := .int .i64 od) (by go_simp) (by go_simp), frozenOn hb1 (v := .bool false) (by go_simp) (by go_simp), frozenOn hb1 (v := .int .i64 0) (by go_simp) (by go_simp), frozenOn hb1 (v := .int .i64 0) (by go_simp) (by go_simp), frozenOn hb1 (v := .int .i64 0) (by go_simp) (by go_simp), frozenOn hb1 (v := .int .i64 0) (by go_simp) (by go_simp), frozenOn hb1 (v := .int .i64 0) (by go_simp) (by go_simp), nbTrans (nbAlloc (nbAlloc (nbAlloc (nbAlloc (Below.refl _ _) _) _) _) _) hb1⟩
  have c0 : w1.cell? ⟨w.heap.size, 0, none⟩ = some (.int .i64 s) := hC1.1
  have c1 : w1.cell? ⟨w.heap.size, 1, none⟩ = some (.int .i64 j) := hC1.2.1
  have c2 : w1.cell? ⟨w.heap.size, 2, none⟩ = some (.int .i64 m) := hC1.2.2.1
  have c3 : w1.cell? ⟨w.heap.size, 3, none⟩ = some (.int .i64 g) := hC1.2.2.2.1
  have c4 : w1.cell? ⟨w.heap.size, 4, none⟩ = some (.int .i64 o) := hC1.2.2.2.2.1
  have c5 : w1.cell? ⟨w.heap.size + 1, 0, none⟩ = some (.bool true) := hC1.2.2.2.2.2.1
  have c6 : w1.cell? ⟨w.heap.size + 1, 1, none⟩ = some (.int .i64 l) := hC1.2.2.2.2.2.2.1
  have c7 : w1.cell? ⟨w.heap.size + 1, 2, none⟩ = some (.int .i64 h) := hC1.2.2.2.2.2.2.2.1
  have c8 : w1.cell? ⟨w.heap.size + 1, 3, none⟩ = some (.int .i64 si) := hC1.2.2.2.2.2.2.2.2.1
  have c9 : w1.cell? ⟨w.heap.size + 1, 4, none⟩ = some (.int .i64 la) := hC1.2.2.2.2.2.2.2.2.2.1
  have c10 : w1.cell? ⟨w.heap.size + 1, 5, none⟩ = some (.int .i64 od) := hC1.2.2.2.2.2.2.2.2.2.2.1
  have c11 : w1.cell? ⟨w.heap.size + 1 + 1, 0, none⟩ = some (.int .i64 op) := hC1.2.2.2.2.2.2.2.2.2.2.2.1
  have c12 : w1.cell? ⟨w.heap.size + 1 + 1, 1, none⟩ = some (.int .i64 n) := hC1.2.2.2.2.2.2.2.2.2.2.2.2.1
  have c13 : w1.cell? ⟨w.heap.size + 1 + 1 + 1, 0, none⟩ = some (.bool false) := hC1.2.2.2.2.2.2.2.2.2.2.2.2.2.1
  have c14 : w1.cell? ⟨w.heap.size + 1 + 1 + 1, 1, none⟩ = some (.int .i64 0) := hC1.2.2.2.2.2.2.2.2.2.2.2.2.2.2.1
  have c15 : w1.cell? ⟨w.heap.size + 1 + 1 + 1, 2, none⟩ = some (.int .i64 0) := hC1.2.2.2.2.2.2.2.2.2.2.2.2.2.2.2.1
  have c16 : w1.cell? ⟨w.heap.size + 1 + 1 + 1, 3, none⟩ = some (.int .i64 0) := hC1.2.2.2.2.2.2.2.2.2.2.2.2.2.2.2.2.1
  have c17 : w1.cell? ⟨w.heap.size + 1 + 1 + 1, 4, none⟩ = some (.int .i64 0) := hC1.2.2.2.2.2.2.2.2.2.2.2.2.2.2.2.2.2.1
  have c18 : w1.cell? ⟨w.heap.size + 1 + 1 + 1, 5, none⟩ = some (.int .i64 0) := hC1.2.2.2.2.2.2.2.2.2.2.2.2.2.2.2.2.2.2.1
  have c19 : w1.frozen? ⟨w.heap.size + 1, 0, none⟩ = false := hC1.2.2.2.2.2.2.2.2.2.2.2.2.2.2.2.2.2.2.2.1
  have c20 : w1.frozen? ⟨w.heap.size + 1, 1, none⟩ = false := hC1.2.2.2.2.2.2.2.2.2.2.2.2.2.2.2.2.2.2.2.2.1
  have c21 : w1.frozen? ⟨w.heap.size + 1, 2, none⟩ = false := hC1.2.2.2.2.2.2.2.2.2.2.2.2.2.2.2.2.2.2.2.2.2.1
  have c22 : w1.frozen? ⟨w.heap.size + 1, 3, none⟩ = false := hC1.2.2.2.2.2.2.2.2.2.2.2.2.2.2.2.2.2.2.2.2.2.2.1
  have c23 : w1.frozen? ⟨w.heap.size + 1, 4, none⟩ = false := hC1.2.2.2.2.2.2.2.2.2.2.2.2.2.2.2.2.2.2.2.2.2.2.2.1
  have c24 : w1.frozen? ⟨w.heap.size + 1, 5, none⟩ = false := hC1.2.2.2.2.2.2.2.2.2.2.2.2.2.2.2.2.2.2.2.2.2.2.2.2.1
  have c25 : w1.frozen? ⟨w.heap.size + 1 + 1 + 1, 0, none⟩ = false := hC1.2.2.2.2.2.2.2.2.2.2.2.2.2.2.2.2.2.2.2.2.2.2.2.2.2.1
  have c26 : w1.frozen? ⟨w.heap.size + 1 + 1 + 1, 1, none⟩ = false := hC1.2.2.2.2.2.2.2.2.2.2.2.2.2.2.2.2.2.2.2.2.2.2.2.2.2.2.1
  have c27 : w1.frozen? ⟨w.heap.size + 1 + 1 + 1, 2, none⟩ = false := hC1.2.2.2.2.2.2.2.2.2.2.2.2.2.2.2.2.2.2.2.2.2.2.2.2.2.2.2.1
  have c28 : w1.frozen? ⟨w.heap.size + 1 + 1 + 1, 3, none⟩ = false := hC1.2.2.2.2.2.2.2.2.2.2.2.2.2.2.2.2.2.2.2.2.2.2.2.2.2.2.2.2.1
  have c29 : w1.frozen? ⟨w.heap.size + 1 + 1 + 1, 4, none⟩ = false := hC1.2.2.2.2.2.2.2.2.2.2.2.2.2.2.2.2.2.2.2.2.2.2.2.2.2.2.2.2.2.1
  have c30 : w1.frozen? ⟨w.heap.size + 1 + 1 + 1, 5, none⟩ = false := hC1.2.2.2.2.2.2.2.2.2.2.2.2.2.2.2.2.2.2.2.2.2.2.2.2.2.2.2.2.2.2.1
  have c31 : Below w.heap.size w w1 := hC1.2.2.2.2.2.2.2.2.2.2.2.2.2.2.2.2.2.2.2.2.2.2.2.2.2.2.2.2.2.2.2
  go_wp2_with fail
  clear c0 c1 c2 c3 c4 c5 c6 c7 c8 c9 c10 c11 c12 c13 c14 c15 c16 c17 c18 c19 c20 c21 c22 c23 c24 c25 c26 c27 c28 c29 c30 c31
  have hB1 : Below w.heap.size w w1 := hC1.2.2.2.2.2.2.2.2.2.2.2.2.2.2.2.2.2.2.2.2.2.2.2.2.2.2.2.2.2.2.2
  refine (specStateOk_c _ _ _ (marksB f a len) _ _ _ _ _ _ _ hl (by intro w' hw'; exact specMarksOk_c b off len cap f a w' hl ((hrow.on hB1).on hw'))).mono ?_
  rintro e w2 ⟨rfl, hb2⟩
  have hC2 := doC_on hC1 hb2
  have c0 : w2.cell? ⟨w.heap.size, 0, none⟩ = some (.int .i64 s) := hC2.1
  have c1 : w2.cell? ⟨w.heap.size, 1, none⟩ = some (.int .i64 j) := hC2.2.1
  have c2 : w2.cell? ⟨w.heap.size, 2, none⟩ = some (.int .i64 m) := hC2.2.2.1
  have c3 : w2.cell? ⟨w.heap.size, 3, none⟩ = some (.int .i64 g) := hC2.2.2.2.1
  have c4 : w2.cell? ⟨w.heap.size, 4, none⟩ = some (.int .i64 o) := hC2.2.2.2.2.1
  have c5 : w2.cell? ⟨w.heap.size + 1, 0, none⟩ = some (.bool true) := hC2.2.2.2.2.2.1
  have c6 : w2.cell? ⟨w.heap.size + 1, 1, none⟩ = some (.int .i64 l) := hC2.2.2.2.2.2.2.1
  have c7 : w2.cell? ⟨w.heap.size + 1, 2, none⟩ = some (.int .i64 h) := hC2.2.2.2.2.2.2.2.1
  have c8 : w2.cell? ⟨w.heap.size + 1, 3, none⟩ = some (.int .i64 si) := hC2.2.2.2.2.2.2.2.2.1
  have c9 : w2.cell? ⟨w.heap.size + 1, 4, none⟩ = some (.int .i64 la) := hC2.2.2.2.2.2.2.2.2.2.1
  have c10 : w2.cell? ⟨w.heap.size + 1, 5, none⟩ = some (.int .i64 od) := hC2.2.2.2.2.2.2.2.2.2.2.1
  have c11 : w2.cell? ⟨w.heap.size + 1 + 1, 0, none⟩ = some (.int .i64 op) := hC2.2.2.2.2.2.2.2.2.2.2.2.1
  have c12 : w2.cell? ⟨w.heap.size + 1 + 1, 1, none⟩ = some (.int .i64 n) := hC2.2.2.2.2.2.2.2.2.2.2.2.2.1
  have c13 : w2.cell? ⟨w.heap.size + 1 + 1 + 1, 0, none⟩ = some (.bool false) := hC2.2.2.2.2.2.2.2.2.2.2.2.2.2.1
  have c14 : w2.cell? ⟨w.heap.size + 1 + 1 + 1, 1, none⟩ = some (.int .i64 0) := hC2.2.2.2.2.2.2.2.2.2.2.2.2.2.2.1
  have c15 : w2.cell? ⟨w.heap.size + 1 + 1 + 1, 2, none⟩ = some (.int .i64 0) := hC2.2.2.2.2.2.2.2.2.2.2.2.2.2.2.2.1
  have c16 : w2.cell? ⟨w.heap.size + 1 + 1 + 1, 3, none⟩ = some (.int .i64 0) := hC2.2.2.2.2.2.2.2.2.2.2.2.2.2.2.2.2.1
  have c17 : w2.cell? ⟨w.heap.size + 1 + 1 + 1, 4, none⟩ = some (.int .i64 0) := hC2.2.2.2.2.2.2.2.2.2.2.2.2.2.2.2.2.2.1
  have c18 : w2.cell? ⟨w.heap.size + 1 + 1 + 1, 5, none⟩ = some (.int .i64 0) := hC2.2.2.2.2.2.2.2.2.2.2.2.2.2.2.2.2.2.2.1
  have c19 : w2.frozen? ⟨w.heap.size + 1, 0, none⟩ = false := hC2.2.2.2.2.2.2.2.2.2.2.2.2.2.2.2.2.2.2.2.1
  have c20 : w2.frozen? ⟨w.heap.size + 1, 1, none⟩ = false := hC2.2.2.2.2.2.2.2.2.2.2.2.2.2.2.2.2.2.2.2.2.1
  have c21 : w2.frozen? ⟨w.heap.size + 1, 2, none⟩ = false := hC2.2.2.2.2.2.2.2.2.2.2.2.2.2.2.2.2.2.2.2.2.2.1
  have c22 : w2.frozen? ⟨w.heap.size + 1, 3, none⟩ = false := hC2.2.2.2.2.2.2.2.2.2.2.2.2.2.2.2.2.2.2.2.2.2.2.1
  have c23 : w2.frozen? ⟨w.heap.size + 1, 4, none⟩ = false := hC2.2.2.2.2.2.2.2.2.2.2.2.2.2.2.2.2.2.2.2.2.2.2.2.1
  have c24 : w2.frozen? ⟨w.heap.size + 1, 5, none⟩ = false := hC2.2.2.2.2.2.2.2.2.2.2.2.2.2.2.2.2.2.2.2.2.2.2.2.2.1
  have c25 : w2.frozen? ⟨w.heap.size + 1 + 1 + 1, 0, none⟩ = false := hC2.2.2.2.2.2.2.2.2.2.2.2.2.2.2.2.2.2.2.2.2.2.2.2.2.2.1
  have c26 : w2.frozen? ⟨w.heap.size + 1 + 1 + 1, 1, none⟩ = false := hC2.2.2.2.2.2.2.2.2.2.2.2.2.2.2.2.2.2.2.2.2.2.2.2.2.2.2.1
  have c27 : w2.frozen? ⟨w.heap.size + 1 + 1 + 1, 2, none⟩ = false := hC2.2.2.2.2.2.2.2.2.2.2.2.2.2.2.2.2.2.2.2.2.2.2.2.2.2.2.2.1
  have c28 : w2.frozen? ⟨w.heap.size + 1 + 1 + 1, 3, none⟩ = false := hC2.2.2.2.2.2.2.2.2.2.2.2.2.2.2.2.2.2.2.2.2.2.2.2.2.2.2.2.2.1
  have c29 : w2.frozen? ⟨w.heap.size + 1 + 1 + 1, 4, none⟩ = false := hC2.2.2.2.2.2.2.2.2.2.2.2.2.2.2.2.2.2.2.2.2.2.2.2.2.2.2.2.2.2.1
  have c30 : w2.frozen? ⟨w.heap.size + 1 + 1 + 1, 5, none⟩ = false := hC2.2.2.2.2.2.2.2.2.2.2.2.2.2.2.2.2.2.2.2.2.2.2.2.2.2.2.2.2.2.2.1
  have c31 : Below w.heap.size w w2 := hC2.2.2.2.2.2.2.2.2.2.2.2.2.2.2.2.2.2.2.2.2.2.2.2.2.2.2.2.2.2.2.2
  go_wp2_with fail
  clear c0 c1 c2 c3 c4 c5 c6 c7 c8 c9 c10 c11 c12 c13 c14 c15 c16 c17 c18 c19 c20 c21 c22 c23 c24 c25 c26 c27 c28 c29 c30 c31
  refine (specEventOk_c _ _ _).mono ?_
  rintro e w3 ⟨rfl, hb3⟩
  have hC3 := doC_on hC2 hb3
  have c0 : w3.cell? ⟨w.heap.size, 0, none⟩ = some (.int .i64 s) := hC3.1
  have c1 : w3.cell? ⟨w.heap.size, 1, none⟩ = some (.int .i64 j) := hC3.2.1
  have c2 : w3.cell? ⟨w.heap.size, 2, none⟩ = some (.int .i64 m) := hC3.2.2.1
  have c3 : w3.cell? ⟨w.heap.size, 3, none⟩ = some (.int .i64 g) := hC3.2.2.2.1
  have c4 : w3.cell? ⟨w.heap.size, 4, none⟩ = some (.int .i64 o) := hC3.2.2.2.2.1
  have c5 : w3.cell? ⟨w.heap.size + 1, 0, none⟩ = some (.bool true) := hC3.2.2.2.2.2.1
  have c6 : w3.cell? ⟨w.heap.size + 1, 1, none⟩ = some (.int .i64 l) := hC3.2.2.2.2.2.2.1
  have c7 : w3.cell? ⟨w.heap.size + 1, 2, none⟩ = some (.int .i64 h) := hC3.2.2.2.2.2.2.2.1
  have c8 : w3.cell? ⟨w.heap.size + 1, 3, none⟩ = some (.int .i64 si) := hC3.2.2.2.2.2.2.2.2.1
  have c9 : w3.cell? ⟨w.heap.size + 1, 4, none⟩ = some (.int .i64 la) := hC3.2.2.2.2.2.2.2.2.2.1
  have c10 : w3.cell? ⟨w.heap.size + 1, 5, none⟩ = some (.int .i64 od) := hC3.2.2.2.2.2.2.2.2.2.2.1
  have c11 : w3.cell? ⟨w.heap.size + 1 + 1, 0, none⟩ = some (.int .i64 op) := hC3.2.2.2.2.2.2.2.2.2.2.2.1
  have c12 : w3.cell? ⟨w.heap.size + 1 + 1, 1, none⟩ = some (.int .i64 n) := hC3.2.2.2.2.2.2.2.2.2.2.2.2.1
  have c13 : w3.cell? ⟨w.heap.size + 1 + 1 + 1, 0, none⟩ = some (.bool false) := hC3.2.2.2.2.2.2.2.2.2.2.2.2.2.1
  have c14 : w3.cell? ⟨w.heap.size + 1 + 1 + 1, 1, none⟩ = some (.int .i64 0) := hC3.2.2.2.2.2.2.2.2.2.2.2.2.2.2.1
  have c15 : w3.cell? ⟨w.heap.size + 1 + 1 + 1, 2, none⟩ = some (.int .i64 0) := hC3.2.2.2.2.2.2.2.2.2.2.2.2.2.2.2.1
  have c16 : w3.cell? ⟨w.heap.size + 1 + 1 + 1, 3, none⟩ = some (.int .i64 0) := hC3.2.2.2.2.2.2.2.2.2.2.2.2.2.2.2.2.1
  have c17 : w3.cell? ⟨w.heap.size + 1 + 1 + 1, 4, none⟩ = some (.int .i64 0) := hC3.2.2.2.2.2.2.2.2.2.2.2.2.2.2.2.2.2.1
  have c18 : w3.cell? ⟨w.heap.size + 1 + 1 + 1, 5, none⟩ = some (.int .i64 0) := hC3.2.2.2.2.2.2.2.2.2.2.2.2.2.2.2.2.2.2.1
  have c19 : w3.frozen? ⟨w.heap.size + 1, 0, none⟩ = false := hC3.2.2.2.2.2.2.2.2.2.2.2.2.2.2.2.2.2.2.2.1
  have c20 : w3.frozen? ⟨w.heap.size + 1, 1, none⟩ = false := hC3.2.2.2.2.2.2.2.2.2.2.2.2.2.2.2.2.2.2.2.2.1
  have c21 : w3.frozen? ⟨w.heap.size + 1, 2, none⟩ = false := hC3.2.2.2.2.2.2.2.2.2.2.2.2.2.2.2.2.2.2.2.2.2.1
  have c22 : w3.frozen? ⟨w.heap.size + 1, 3, none⟩ = false := hC3.2.2.2.2.2.2.2.2.2.2.2.2.2.2.2.2.2.2.2.2.2.2.1
  have c23 : w3.frozen? ⟨w.heap.size + 1, 4, none⟩ = false := hC3.2.2.2.2.2.2.2.2.2.2.2.2.2.2.2.2.2.2.2.2.2.2.2.1
  have c24 : w3.frozen? ⟨w.heap.size + 1, 5, none⟩ = false := hC3.2.2.2.2.2.2.2.2.2.2.2.2.2.2.2.2.2.2.2.2.2.2.2.2.1
  have c25 : w3.frozen? ⟨w.heap.size + 1 + 1 + 1, 0, none⟩ = false := hC3.2.2.2.2.2.2.2.2.2.2.2.2.2.2.2.2.2.2.2.2.2.2.2.2.2.1
  have c26 : w3.frozen? ⟨w.heap.size + 1 + 1 + 1, 1, none⟩ = false := hC3.2.2.2.2.2.2.2.2.2.2.2.2.2.2.2.2.2.2.2.2.2.2.2.2.2.2.1
  have c27 : w3.frozen? ⟨w.heap.size + 1 + 1 + 1, 2, none⟩ = false := hC3.2.2.2.2.2.2.2.2.2.2.2.2.2.2.2.2.2.2.2.2.2.2.2.2.2.2.2.1
  have c28 : w3.frozen? ⟨w.heap.size + 1 + 1 + 1, 3, none⟩ = false := hC3.2.2.2.2.2.2.2.2.2.2.2.2.2.2.2.2.2.2.2.2.2.2.2.2.2.2.2.2.1
  have c29 : w3.frozen? ⟨w.heap.size + 1 + 1 + 1, 4, none⟩ = false := hC3.2.2.2.2.2.2.2.2.2.2.2.2.2.2.2.2.2.2.2.2.2.2.2.2.2.2.2.2.2.1
  have c30 : w3.frozen? ⟨w.heap.size + 1 + 1 + 1, 5, none⟩ = false := hC3.2.2.2.2.2.2.2.2.2.2.2.2.2.2.2.2.2.2.2.2.2.2.2.2.2.2.2.2.2.2.1
  have c31 : Below w.heap.size w w3 := hC3.2.2.2.2.2.2.2.2.2.2.2.2.2.2.2.2.2.2.2.2.2.2.2.2.2.2.2.2.2.2.2
  go_wp2_with fail
  clear c0 c1 c2 c3 c4 c5 c6 c7 c8 c9 c10 c11 c12 c13 c14 c15 c16 c17 c18 c19 c20 c21 c22 c23 c24 c25 c26 c27 c28 c29 c30 c31
  go_loopw [9, 52] (fun kv iv wr => ∃ k : Nat, iv = .int .i64 k ∧ kv = .int .i64 (lastIx f n k) ∧ k ≤ len ∧ doC w s j m g o true l h si la od op n wr) (fun _ iv _ => len - (intOf iv).toNat)
  case atStart => exact ⟨0, rfl, rfl, by omega, hC3⟩
  case round =>
    obtain ⟨k, rfl, rfl, hk, hC⟩ := hrel
    have c0 : wr.cell? ⟨w.heap.size, 0, none⟩ = some (.int .i64 s) := hC.1
    have c1 : wr.cell? ⟨w.heap.size, 1, none⟩ = some (.int .i64 j) := hC.2.1
    have c2 : wr.cell? ⟨w.heap.size, 2, none⟩ = some (.int .i64 m) := hC.2.2.1
    have c3 : wr.cell? ⟨w.heap.size, 3, none⟩ = some (.int .i64 g) := hC.2.2.2.1
    have c4 : wr.cell? ⟨w.heap.size, 4, none⟩ = some (.int .i64 o) := hC.2.2.2.2.1
    have c5 : wr.cell? ⟨w.heap.size + 1, 0, none⟩ = some (.bool true) := hC.2.2.2.2.2.1
    have c6 : wr.cell? ⟨w.heap.size + 1, 1, none⟩ = some (.int .i64 l) := hC.2.2.2.2.2.2.1
    have c7 : wr.cell? ⟨w.heap.size + 1, 2, none⟩ = some (.int .i64 h) := hC.2.2.2.2.2.2.2.1
    have c8 : wr.cell? ⟨w.heap.size + 1, 3, none⟩ = some (.int .i64 si) := hC.2.2.2.2.2.2.2.2.1
    have c9 : wr.cell? ⟨w.heap.size + 1, 4, none⟩ = some (.int .i64 la) := hC.2.2.2.2.2.2.2.2.2.1
    have c10 : wr.cell? ⟨w.heap.size + 1, 5, none⟩ = some (.int .i64 od) := hC.2.2.2.2.2.2.2.2.2.2.1
    have c11 : wr.cell? ⟨w.heap.size + 1 + 1, 0, none⟩ = some (.int .i64 op) := hC.2.2.2.2.2.2.2.2.2.2.2.1
    have c12 : wr.cell? ⟨w.heap.size + 1 + 1, 1, none⟩ = some (.int .i64 n) := hC.2.2.2.2.2.2.2.2.2.2.2.2.1
    have c13 : wr.cell? ⟨w.heap.size + 1 + 1 + 1, 0, none⟩ = some (.bool false) := hC.2.2.2.2.2.2.2.2.2.2.2.2.2.1
    have c14 : wr.cell? ⟨w.heap.size + 1 + 1 + 1, 1, none⟩ = some (.int .i64 0) := hC.2.2.2.2.2.2.2.2.2.2.2.2.2.2.1
    have c15 : wr.cell? ⟨w.heap.size + 1 + 1 + 1, 2, none⟩ = some (.int .i64 0) := hC.2.2.2.2.2.2.2.2.2.2.2.2.2.2.2.1
    have c16 : wr.cell? ⟨w.heap.size + 1 + 1 + 1, 3, none⟩ = some (.int .i64 0) := hC.2.2.2.2.2.2.2.2.2.2.2.2.2.2.2.2.1
    have c17 : wr.cell? ⟨w.heap.size + 1 + 1 + 1, 4, none⟩ = some (.int .i64 0) := hC.2.2.2.2.2.2.2.2.2.2.2.2.2.2.2.2.2.1
    have c18 : wr.cell? ⟨w.heap.size + 1 + 1 + 1, 5, none⟩ = some (.int .i64 0) := hC.2.2.2.2.2.2.2.2.2.2.2.2.2.2.2.2.2.2.1
    have c19 : wr.frozen? ⟨w.heap.size + 1, 0, none⟩ = false := hC.2.2.2.2.2.2.2.2.2.2.2.2.2.2.2.2.2.2.2.1
    have c20 : wr.frozen? ⟨w.heap.size + 1, 1, none⟩ = false := hC.2.2.2.2.2.2.2.2.2.2.2.2.2.2.2.2.2.2.2.2.1
    have c21 : wr.frozen? ⟨w.heap.size + 1, 2, none⟩ = false := hC.2.2.2.2.2.2.2.2.2.2.2.2.2.2.2.2.2.2.2.2.2.1
    have c22 : wr.frozen? ⟨w.heap.size + 1, 3, none⟩ = false := hC.2.2.2.2.2.2.2.2.2.2.2.2.2.2.2.2.2.2.2.2.2.2.1
    have c23 : wr.frozen? ⟨w.heap.size + 1, 4, none⟩ = false := hC.2.2.2.2.2.2.2.2.2.2.2.2.2.2.2.2.2.2.2.2.2.2.2.1
    have c24 : wr.frozen? ⟨w.heap.size + 1, 5, none⟩ = false := hC.2.2.2.2.2.2.2.2.2.2.2.2.2.2.2.2.2.2.2.2.2.2.2.2.1
    have c25 : wr.frozen? ⟨w.heap.size + 1 + 1 + 1, 0, none⟩ = false := hC.2.2.2.2.2.2.2.2.2.2.2.2.2.2.2.2.2.2.2.2.2.2.2.2.2.1
    have c26 : wr.frozen? ⟨w.heap.size + 1 + 1 + 1, 1, none⟩ = false := hC.2.2.2.2.2.2.2.2.2.2.2.2.2.2.2.2.2.2.2.2.2.2.2.2.2.2.1
    have c27 : wr.frozen? ⟨w.heap.size + 1 + 1 + 1, 2, none⟩ = false := hC.2.2.2.2.2.2.2.2.2.2.2.2.2.2.2.2.2.2.2.2.2.2.2.2.2.2.2.1
    have c28 : wr.frozen? ⟨w.heap.size + 1 + 1 + 1, 3, none⟩ = false := hC.2.2.2.2.2.2.2.2.2.2.2.2.2.2.2.2.2.2.2.2.2.2.2.2.2.2.2.2.1
    have c29 : wr.frozen? ⟨w.heap.size + 1 + 1 + 1, 4, none⟩ = false := hC.2.2.2.2.2.2.2.2.2.2.2.2.2.2.2.2.2.2.2.2.2.2.2.2.2.2.2.2.2.1
    have c30 : wr.frozen? ⟨w.heap.size + 1 + 1 + 1, 5, none⟩ = false := hC.2.2.2.2.2.2.2.2.2.2.2.2.2.2.2.2.2.2.2.2.2.2.2.2.2.2.2.2.2.2.1
    have c31 : Below w.heap.size w wr := hC.2.2.2.2.2.2.2.2.2.2.2.2.2.2.2.2.2.2.2.2.2.2.2.2.2.2.2.2.2.2.2
    by_cases hlt : k < len
    · have i0 : (0 : Int) ≤ (k : Int) := by omega
      have i1 : (k : Int) < (len : Int) := by omega
      have d0 := cellOn c31 (hrow k hlt).1
      have d1 := cellOn c31 (hrow k hlt).2
      have e0 := cellNew c12
      cases hfk : (f k == n)
      · go_wp2_with fail
        go_roundw
        case rel => exact ⟨k + 1, by go_num, by rw [lastIx_no hfk], by omega, doC_on hC (nbAlloc (Below.refl _ _) _)⟩
        case measure => simp [intOf]; omega
      · go_wp2_with fail
        go_roundw
        case rel => exact ⟨k + 1, by go_num, by rw [lastIx_yes hfk], by omega, doC_on hC (nbAlloc (Below.refl _ _) _)⟩
        case measure => simp [intOf]; omega
    · have hkl : len = k := by omega
      subst hkl
      rw [hK.out]
      have i0 : (0 : Int) ≤ (kk : Int) := by omega
      have i1 : (kk : Int) < (len : Int) := by omega
      have d1 := cellOn c31 (hrow kk hkk).2
      rw [hz.out] at d1
      have hC4 : doK w s j m g o true l h si la od op n b (off + kk * 2 + 1) z wr := ⟨c0, c1, c2, c3, c4, c5, c6, c7, c8, c9, c10, c11, c12, c13, c14, c15, c16, c17, c18, c19, c20, c21, c22, c23, c24, c25, c26, c27, c28, c29, c30, d1, c31⟩
      clear c0 c1 c2 c3 c4 c5 c6 c7 c8 c9 c10 c11 c12 c13 c14 c15 c16 c17 c18 c19 c20 c21 c22 c23 c24 c25 c26 c27 c28 c29 c30 c31
      go_wp2_with fail
      refine region_new (doK w s j m g o true l h si la od op n b (off + kk * 2 + 1) z) (fun _ _ => doK_on) 17 18 12 rfl rfl (by kernel_rfl) (by kernel_rfl) (by kernel_rfl) ?_ #[.int .i64 0, .int .i64 0] 27 (fun a w => by go_simp) ?_
      · obtain ⟨q0, q1, q2, q3, q4, q5, q6, q7, q8, q9, q10, q11, q12, q13, q14, q15, q16, q17, q18, q19, q20, q21, q22, q23, q24, q25, q26, q27, q28, q29, q30, q31, q32⟩ := hC4
        exact ⟨q0, q1, q2, q3, q4, q5, q6, q7, q8, q9, q10, q11, q12, q13, q14, q15, q16, q17, q18, q19, q20, q21, q22, q23, q24, q25, q26, q27, q28, q29, q30, q31, q32.drew⟩
      apply Exists.intro
      refine ⟨fun W hW hN => ?_, fun w5 p hw5 hp hblk => ?_⟩
      · simp only [List.set_cons_succ, List.set_cons_zero, idle]
        have k0 : ∀ d : Kept (fun w' => (doK w s j m g o true l h si la od op n b (off + kk * 2 + 1) z) w' ∧ Below W.heap.size W w'), d.w.cell? ⟨w.heap.size, 0, none⟩ = some (.int .i64 s) := fun d => d.h.1.1
        have k1 : ∀ d : Kept (fun w' => (doK w s j m g o true l h si la od op n b (off + kk * 2 + 1) z) w' ∧ Below W.heap.size W w'), d.w.cell? ⟨w.heap.size, 1, none⟩ = some (.int .i64 j) := fun d => d.h.1.2.1
        have k2 : ∀ d : Kept (fun w' => (doK w s j m g o true l h si la od op n b (off + kk * 2 + 1) z) w' ∧ Below W.heap.size W w'), d.w.cell? ⟨w.heap.size, 2, none⟩ = some (.int .i64 m) := fun d => d.h.1.2.2.1
        have k3 : ∀ d : Kept (fun w' => (doK w s j m g o true l h si la od op n b (off + kk * 2 + 1) z) w' ∧ Below W.heap.size W w'), d.w.cell? ⟨w.heap.size, 3, none⟩ = some (.int .i64 g) := fun d => d.h.1.2.2.2.1
        have k4 : ∀ d : Kept (fun w' => (doK w s j m g o true l h si la od op n b (off + kk * 2 + 1) z) w' ∧ Below W.heap.size W w'), d.w.cell? ⟨w.heap.size, 4, none⟩ = some (.int .i64 o) := fun d => d.h.1.2.2.2.2.1
        have k5 : ∀ d : Kept (fun w' => (doK w s j m g o true l h si la od op n b (off + kk * 2 + 1) z) w' ∧ Below W.heap.size W w'), d.w.cell? ⟨w.heap.size + 1, 0, none⟩ = some (.bool true) := fun d => d.h.1.2.2.2.2.2.1
        have k6 : ∀ d : Kept (fun w' => (doK w s j m g o true l h si la od op n b (off + kk * 2 + 1) z) w' ∧ Below W.heap.size W w'), d.w.cell? ⟨w.heap.size + 1, 1, none⟩ = some (.int .i64 l) := fun d => d.h.1.2.2.2.2.2.2.1
        have k7 : ∀ d : Kept (fun w' => (doK w s j m g o true l h si la od op n b (off + kk * 2 + 1) z) w' ∧ Below W.heap.size W w'), d.w.cell? ⟨w.heap.size + 1, 2, none⟩ = some (.int .i64 h) := fun d => d.h.1.2.2.2.2.2.2.2.1
        have k8 : ∀ d : Kept (fun w' => (doK w s j m g o true l h si la od op n b (off + kk * 2 + 1) z) w' ∧ Below W.heap.size W w'), d.w.cell? ⟨w.heap.size + 1, 3, none⟩ = some (.int .i64 si) := fun d => d.h.1.2.2.2.2.2.2.2.2.1
        have k9 : ∀ d : Kept (fun w' => (doK w s j m g o true l h si la od op n b (off + kk * 2 + 1) z) w' ∧ Below W.heap.size W w'), d.w.cell? ⟨w.heap.size + 1, 4, none⟩ = some (.int .i64 la) := fun d => d.h.1.2.2.2.2.2.2.2.2.2.1
        have k10 : ∀ d : Kept (fun w' => (doK w s j m g o true l h si la od op n b (off + kk * 2 + 1) z) w' ∧ Below W.heap.size W w'), d.w.cell? ⟨w.heap.size + 1, 5, none⟩ = some (.int .i64 od) := fun d => d.h.1.2.2.2.2.2.2.2.2.2.2.1
        have k11 : ∀ d : Kept (fun w' => (doK w s j m g o true l h si la od op n b (off + kk * 2 + 1) z) w' ∧ Below W.heap.size W w'), d.w.cell? ⟨w.heap.size + 1 + 1, 0, none⟩ = some (.int .i64 op) := fun d => d.h.1.2.2.2.2.2.2.2.2.2.2.2.1
        have k12 : ∀ d : Kept (fun w' => (doK w s j m g o true l h si la od op n b (off + kk * 2 + 1) z) w' ∧ Below W.heap.size W w'), d.w.cell? ⟨w.heap.size + 1 + 1, 1, none⟩ = some (.int .i64 n) := fun d => d.h.1.2.2.2.2.2.2.2.2.2.2.2.2.1
        have k13 : ∀ d : Kept (fun w' => (doK w s j m g o true l h si la od op n b (off + kk * 2 + 1) z) w' ∧ Below W.heap.size W w'), d.w.cell? ⟨w.heap.size + 1 + 1 + 1, 0, none⟩ = some (.bool false) := fun d => d.h.1.2.2.2.2.2.2.2.2.2.2.2.2.2.1
        have k14 : ∀ d : Kept (fun w' => (doK w s j m g o true l h si la od op n b (off + kk * 2 + 1) z) w' ∧ Below W.heap.size W w'), d.w.cell? ⟨w.heap.size + 1 + 1 + 1, 1, none⟩ = some (.int .i64 0) := fun d => d.h.1.2.2.2.2.2.2.2.2.2.2.2.2.2.2.1
        have k15 : ∀ d : Kept (fun w' => (doK w s j m g o true l h si la od op n b (off + kk * 2 + 1) z) w' ∧ Below W.heap.size W w'), d.w.cell? ⟨w.heap.size + 1 + 1 + 1, 2, none⟩ = some (.int .i64 0) := fun d => d.h.1.2.2.2.2.2.2.2.2.2.2.2.2.2.2.2.1
        have k16 : ∀ d : Kept (fun w' => (doK w s j m g o true l h si la od op n b (off + kk * 2 + 1) z) w' ∧ Below W.heap.size W w'), d.w.cell? ⟨w.heap.size + 1 + 1 + 1, 3, none⟩ = some (.int .i64 0) := fun d => d.h.1.2.2.2.2.2.2.2.2.2.2.2.2.2.2.2.2.1
        have k17 : ∀ d : Kept (fun w' => (doK w s j m g o true l h si la od op n b (off + kk * 2 + 1) z) w' ∧ Below W.heap.size W w'), d.w.cell? ⟨w.heap.size + 1 + 1 + 1, 4, none⟩ = some (.int .i64 0) := fun d => d.h.1.2.2.2.2.2.2.2.2.2.2.2.2.2.2.2.2.2.1
        have k18 : ∀ d : Kept (fun w' => (doK w s j m g o true l h si la od op n b (off + kk * 2 + 1) z) w' ∧ Below W.heap.size W w'), d.w.cell? ⟨w.heap.size + 1 + 1 + 1, 5, none⟩ = some (.int .i64 0) := fun d => d.h.1.2.2.2.2.2.2.2.2.2.2.2.2.2.2.2.2.2.2.1
        have k31 : ∀ d : Kept (fun w' => (doK w s j m g o true l h si la od op n b (off + kk * 2 + 1) z) w' ∧ Below W.heap.size W w'), d.w.cell? ⟨b, (off + kk * 2 + 1), none⟩ = some (.int .i64 z) := fun d => d.h.1.2.2.2.2.2.2.2.2.2.2.2.2.2.2.2.2.2.2.2.2.2.2.2.2.2.2.2.2.2.2.2.1
        repeat (go_big_quiet_step (fail))
        exact wpQuiet_nil rfl
      have q0 : w5.cell? ⟨p, 0, none⟩ = some (.int .i64 0) := by simp [World.cell?, hblk]
      have q1 : w5.cell? ⟨p, 1, none⟩ = some (.int .i64 0) := by simp [World.cell?, hblk]
      have q2 : w5.frozen? ⟨p, 0, none⟩ = false := by simp [World.frozen?, hblk]
      have q3 : w5.frozen? ⟨p, 1, none⟩ = false := by simp [World.frozen?, hblk]
      have l3 := ltCell hC4.2.2.2.2.2.2.2.2.2.2.2.2.2.1
      have lb := ltCell hC4.2.2.2.2.2.2.2.2.2.2.2.2.2.2.2.2.2.2.2.2.2.2.2.2.2.2.2.2.2.2.2.1
      have lw := ltCell (hrow kk hkk).2
      have E := cellSet2 (v0 := .int .i64 (z - m)) (v1 := .int .i64 (z + m)) q0 q1
      have hC6 : doN w s j m g o true l h si la od op n b (off + kk * 2 + 1) z p (z - m) (z + m) ((w5.setCell ⟨p, 0, none⟩ (.int .i64 (z - m))).setCell ⟨p, 1, none⟩ (.int .i64 (z + m))) := ⟨cellFar2 (by omega) hw5.1, cellFar2 (by omega) hw5.2.1, cellFar2 (by omega) hw5.2.2.1, cellFar2 (by omega) hw5.2.2.2.1, cellFar2 (by omega) hw5.2.2.2.2.1, cellFar2 (by omega) hw5.2.2.2.2.2.1, cellFar2 (by omega) hw5.2.2.2.2.2.2.1, cellFar2 (by omega) hw5.2.2.2.2.2.2.2.1, cellFar2 (by omega) hw5.2.2.2.2.2.2.2.2.1, cellFar2 (by omega) hw5.2.2.2.2.2.2.2.2.2.1, cellFar2 (by omega) hw5.2.2.2.2.2.2.2.2.2.2.1, cellFar2 (by omega) hw5.2.2.2.2.2.2.2.2.2.2.2.1, cellFar2 (by omega) hw5.2.2.2.2.2.2.2.2.2.2.2.2.1, cellFar2 (by omega) hw5.2.2.2.2.2.2.2.2.2.2.2.2.2.1, cellFar2 (by omega) hw5.2.2.2.2.2.2.2.2.2.2.2.2.2.2.1, cellFar2 (by omega) hw5.2.2.2.2.2.2.2.2.2.2.2.2.2.2.2.1, cellFar2 (by omega) hw5.2.2.2.2.2.2.2.2.2.2.2.2.2.2.2.2.1, cellFar2 (by omega) hw5.2.2.2.2.2.2.2.2.2.2.2.2.2.2.2.2.2.1, cellFar2 (by omega) hw5.2.2.2.2.2.2.2.2.2.2.2.2.2.2.2.2.2.2.1, (World.frozen?_setCell _ _ _ _).trans ((World.frozen?_setCell _ _ _ _).trans hw5.2.2.2.2.2.2.2.2.2.2.2.2.2.2.2.2.2.2.2.1), (World.frozen?_setCell _ _ _ _).trans ((World.frozen?_setCell _ _ _ _).trans hw5.2.2.2.2.2.2.2.2.2.2.2.2.2.2.2.2.2.2.2.2.1), (World.frozen?_setCell _ _ _ _).trans ((World.frozen?_setCell _ _ _ _).trans hw5.2.2.2.2.2.2.2.2.2.2.2.2.2.2.2.2.2.2.2.2.2.1), (World.frozen?_setCell _ _ _ _).trans ((World.frozen?_setCell _ _ _ _).trans hw5.2.2.2.2.2.2.2.2.2.2.2.2.2.2.2.2.2.2.2.2.2.2.1), (World.frozen?_setCell _ _ _ _).trans ((World.frozen?_setCell _ _ _ _).trans hw5.2.2.2.2.2.2.2.2.2.2.2.2.2.2.2.2.2.2.2.2.2.2.2.1), (World.frozen?_setCell _ _ _ _).trans ((World.frozen?_setCell _ _ _ _).trans hw5.2.2.2.2.2.2.2.2.2.2.2.2.2.2.2.2.2.2.2.2.2.2.2.2.1), (World.frozen?_setCell _ _ _ _).trans ((World.frozen?_setCell _ _ _ _).trans hw5.2.2.2.2.2.2.2.2.2.2.2.2.2.2.2.2.2.2.2.2.2.2.2.2.2.1), (World.frozen?_setCell _ _ _ _).trans ((World.frozen?_setCell _ _ _ _).trans hw5.2.2.2.2.2.2.2.2.2.2.2.2.2.2.2.2.2.2.2.2.2.2.2.2.2.2.1), (World.frozen?_setCell _ _ _ _).trans ((World.frozen?_setCell _ _ _ _).trans hw5.2.2.2.2.2.2.2.2.2.2.2.2.2.2.2.2.2.2.2.2.2.2.2.2.2.2.2.1), (World.frozen?_setCell _ _ _ _).trans ((World.frozen?_setCell _ _ _ _).trans hw5.2.2.2.2.2.2.2.2.2.2.2.2.2.2.2.2.2.2.2.2.2.2.2.2.2.2.2.2.1), (World.frozen?_setCell _ _ _ _).trans ((World.frozen?_setCell _ _ _ _).trans hw5.2.2.2.2.2.2.2.2.2.2.2.2.2.2.2.2.2.2.2.2.2.2.2.2.2.2.2.2.2.1), (World.frozen?_setCell _ _ _ _).trans ((World.frozen?_setCell _ _ _ _).trans hw5.2.2.2.2.2.2.2.2.2.2.2.2.2.2.2.2.2.2.2.2.2.2.2.2.2.2.2.2.2.2.1), cellFar2 (by omega) hw5.2.2.2.2.2.2.2.2.2.2.2.2.2.2.2.2.2.2.2.2.2.2.2.2.2.2.2.2.2.2.2.1, E.1, E.2, nbSet2 hw5.2.2.2.2.2.2.2.2.2.2.2.2.2.2.2.2.2.2.2.2.2.2.2.2.2.2.2.2.2.2.2.2 (by omega)⟩
      have hbn : b ≠ w.heap.size + 1 := by omega
      have hpn : p ≠ w.heap.size + 1 := by omega
      clear hblk hp E l3 lb lw
      go_simp
      generalize (w5.setCell ⟨p, 0, none⟩ (.int .i64 (z - m))).setCell ⟨p, 1, none⟩ (.int .i64 (z + m)) = w6 at *
      clear q0 q1 q2 q3 hw5 hC4 d1 hC hC3 hC2 hC1
      have c0 : w6.cell? ⟨w.heap.size, 0, none⟩ = some (.int .i64 s) := hC6.1
      have c1 : w6.cell? ⟨w.heap.size, 1, none⟩ = some (.int .i64 j) := hC6.2.1
      have c2 : w6.cell? ⟨w.heap.size, 2, none⟩ = some (.int .i64 m) := hC6.2.2.1
      have c3 : w6.cell? ⟨w.heap.size, 3, none⟩ = some (.int .i64 g) := hC6.2.2.2.1
      have c4 : w6.cell? ⟨w.heap.size, 4, none⟩ = some (.int .i64 o) := hC6.2.2.2.2.1
      have c5 : w6.cell? ⟨w.heap.size + 1, 0, none⟩ = some (.bool true) := hC6.2.2.2.2.2.1
      have c6 : w6.cell? ⟨w.heap.size + 1, 1, none⟩ = some (.int .i64 l) := hC6.2.2.2.2.2.2.1
      have c7 : w6.cell? ⟨w.heap.size + 1, 2, none⟩ = some (.int .i64 h) := hC6.2.2.2.2.2.2.2.1
      have c8 : w6.cell? ⟨w.heap.size + 1, 3, none⟩ = some (.int .i64 si) := hC6.2.2.2.2.2.2.2.2.1
      have c9 : w6.cell? ⟨w.heap.size + 1, 4, none⟩ = some (.int .i64 la) := hC6.2.2.2.2.2.2.2.2.2.1
      have c10 : w6.cell? ⟨w.heap.size + 1, 5, none⟩ = some (.int .i64 od) := hC6.2.2.2.2.2.2.2.2.2.2.1
      have c11 : w6.cell? ⟨w.heap.size + 1 + 1, 0, none⟩ = some (.int .i64 op) := hC6.2.2.2.2.2.2.2.2.2.2.2.1
      have c12 : w6.cell? ⟨w.heap.size + 1 + 1, 1, none⟩ = some (.int .i64 n) := hC6.2.2.2.2.2.2.2.2.2.2.2.2.1
      have c13 : w6.cell? ⟨w.heap.size + 1 + 1 + 1, 0, none⟩ = some (.bool false) := hC6.2.2.2.2.2.2.2.2.2.2.2.2.2.1
      have c14 : w6.cell? ⟨w.heap.size + 1 + 1 + 1, 1, none⟩ = some (.int .i64 0) := hC6.2.2.2.2.2.2.2.2.2.2.2.2.2.2.1
      have c15 : w6.cell? ⟨w.heap.size + 1 + 1 + 1, 2, none⟩ = some (.int .i64 0) := hC6.2.2.2.2.2.2.2.2.2.2.2.2.2.2.2.1
      have c16 : w6.cell? ⟨w.heap.size + 1 + 1 + 1, 3, none⟩ = some (.int .i64 0) := hC6.2.2.2.2.2.2.2.2.2.2.2.2.2.2.2.2.1
      have c17 : w6.cell? ⟨w.heap.size + 1 + 1 + 1, 4, none⟩ = some (.int .i64 0) := hC6.2.2.2.2.2.2.2.2.2.2.2.2.2.2.2.2.2.1
      have c18 : w6.cell? ⟨w.heap.size + 1 + 1 + 1, 5, none⟩ = some (.int .i64 0) := hC6.2.2.2.2.2.2.2.2.2.2.2.2.2.2.2.2.2.2.1
      have c19 : w6.frozen? ⟨w.heap.size + 1, 0, none⟩ = false := hC6.2.2.2.2.2.2.2.2.2.2.2.2.2.2.2.2.2.2.2.1
      have c20 : w6.frozen? ⟨w.heap.size + 1, 1, none⟩ = false := hC6.2.2.2.2.2.2.2.2.2.2.2.2.2.2.2.2.2.2.2.2.1
      have c21 : w6.frozen? ⟨w.heap.size + 1, 2, none⟩ = false := hC6.2.2.2.2.2.2.2.2.2.2.2.2.2.2.2.2.2.2.2.2.2.1
      have c22 : w6.frozen? ⟨w.heap.size + 1, 3, none⟩ = false := hC6.2.2.2.2.2.2.2.2.2.2.2.2.2.2.2.2.2.2.2.2.2.2.1
      have c23 : w6.frozen? ⟨w.heap.size + 1, 4, none⟩ = false := hC6.2.2.2.2.2.2.2.2.2.2.2.2.2.2.2.2.2.2.2.2.2.2.2.1
      have c24 : w6.frozen? ⟨w.heap.size + 1, 5, none⟩ = false := hC6.2.2.2.2.2.2.2.2.2.2.2.2.2.2.2.2.2.2.2.2.2.2.2.2.1
      have c25 : w6.frozen? ⟨w.heap.size + 1 + 1 + 1, 0, none⟩ = false := hC6.2.2.2.2.2.2.2.2.2.2.2.2.2.2.2.2.2.2.2.2.2.2.2.2.2.1
      have c26 : w6.frozen? ⟨w.heap.size + 1 + 1 + 1, 1, none⟩ = false := hC6.2.2.2.2.2.2.2.2.2.2.2.2.2.2.2.2.2.2.2.2.2.2.2.2.2.2.1
      have c27 : w6.frozen? ⟨w.heap.size + 1 + 1 + 1, 2, none⟩ = false := hC6.2.2.2.2.2.2.2.2.2.2.2.2.2.2.2.2.2.2.2.2.2.2.2.2.2.2.2.1
      have c28 : w6.frozen? ⟨w.heap.size + 1 + 1 + 1, 3, none⟩ = false := hC6.2.2.2.2.2.2.2.2.2.2.2.2.2.2.2.2.2.2.2.2.2.2.2.2.2.2.2.2.1
      have c29 : w6.frozen? ⟨w.heap.size + 1 + 1 + 1, 4, none⟩ = false := hC6.2.2.2.2.2.2.2.2.2.2.2.2.2.2.2.2.2.2.2.2.2.2.2.2.2.2.2.2.2.1
      have c30 : w6.frozen? ⟨w.heap.size + 1 + 1 + 1, 5, none⟩ = false := hC6.2.2.2.2.2.2.2.2.2.2.2.2.2.2.2.2.2.2.2.2.2.2.2.2.2.2.2.2.2.2.1
      have c31 : w6.cell? ⟨b, (off + kk * 2 + 1), none⟩ = some (.int .i64 z) := hC6.2.2.2.2.2.2.2.2.2.2.2.2.2.2.2.2.2.2.2.2.2.2.2.2.2.2.2.2.2.2.2.1
      have c32 : w6.cell? ⟨p, 0, none⟩ = some (.int .i64 (z - m)) := hC6.2.2.2.2.2.2.2.2.2.2.2.2.2.2.2.2.2.2.2.2.2.2.2.2.2.2.2.2.2.2.2.2.1
      have c33 : w6.cell? ⟨p, 1, none⟩ = some (.int .i64 (z + m)) := hC6.2.2.2.2.2.2.2.2.2.2.2.2.2.2.2.2.2.2.2.2.2.2.2.2.2.2.2.2.2.2.2.2.2.1
      have c34 : Below w.heap.size w w6 := hC6.2.2.2.2.2.2.2.2.2.2.2.2.2.2.2.2.2.2.2.2.2.2.2.2.2.2.2.2.2.2.2.2.2.2
      go_wp2_with fail
      clear c0 c1 c2 c3 c4 c5 c6 c7 c8 c9 c10 c11 c12 c13 c14 c15 c16 c17 c18 c19 c20 c21 c22 c23 c24 c25 c26 c27 c28 c29 c30 c31 c32 c33 c34
      refine region_kept (doN w s j m g o true l h si la od op n b (off + kk * 2 + 1) z p (z - m) (z + m)) (by kernel_rfl) (by kernel_rfl) ?_ ?_
      · obtain ⟨q0, q1, q2, q3, q4, q5, q6, q7, q8, q9, q10, q11, q12, q13, q14, q15, q16, q17, q18, q19, q20, q21, q22, q23, q24, q25, q26, q27, q28, q29, q30, q31, q32, q33, q34⟩ := hC6
        exact ⟨q0, q1, q2, q3, q4, q5, q6, q7, q8, q9, q10, q11, q12, q13, q14, q15, q16, q17, q18, q19, q20, q21, q22, q23, q24, q25, q26, q27, q28, q29, q30, q31, q32, q33, q34.drew⟩
      intro hN
      have k0 : ∀ d : Kept (doN w s j m g o true l h si la od op n b (off + kk * 2 + 1) z p (z - m) (z + m)), d.w.cell? ⟨w.heap.size, 0, none⟩ = some (.int .i64 s) := fun d => d.h.1
      have k1 : ∀ d : Kept (doN w s j m g o true l h si la od op n b (off + kk * 2 + 1) z p (z - m) (z + m)), d.w.cell? ⟨w.heap.size, 1, none⟩ = some (.int .i64 j) := fun d => d.h.2.1
      have k2 : ∀ d : Kept (doN w s j m g o true l h si la od op n b (off + kk * 2 + 1) z p (z - m) (z + m)), d.w.cell? ⟨w.heap.size, 2, none⟩ = some (.int .i64 m) := fun d => d.h.2.2.1
      have k3 : ∀ d : Kept (doN w s j m g o true l h si la od op n b (off + kk * 2 + 1) z p (z - m) (z + m)), d.w.cell? ⟨w.heap.size, 3, none⟩ = some (.int .i64 g) := fun d => d.h.2.2.2.1
      have k4 : ∀ d : Kept (doN w s j m g o true l h si la od op n b (off + kk * 2 + 1) z p (z - m) (z + m)), d.w.cell? ⟨w.heap.size, 4, none⟩ = some (.int .i64 o) := fun d => d.h.2.2.2.2.1
      have k5 : ∀ d : Kept (doN w s j m g o true l h si la od op n b (off + kk * 2 + 1) z p (z - m) (z + m)), d.w.cell? ⟨w.heap.size + 1, 0, none⟩ = some (.bool true) := fun d => d.h.2.2.2.2.2.1
      have k6 : ∀ d : Kept (doN w s j m g o true l h si la od op n b (off + kk * 2 + 1) z p (z - m) (z + m)), d.w.cell? ⟨w.heap.size + 1, 1, none⟩ = some (.int .i64 l) := fun d => d.h.2.2.2.2.2.2.1
      have k7 : ∀ d : Kept (doN w s j m g o true l h si la od op n b (off + kk * 2 + 1) z p (z - m) (z + m)), d.w.cell? ⟨w.heap.size + 1, 2, none⟩ = some (.int .i64 h) := fun d => d.h.2.2.2.2.2.2.2.1
      have k8 : ∀ d : Kept (doN w s j m g o true l h si la od op n b (off + kk * 2 + 1) z p (z - m) (z + m)), d.w.cell? ⟨w.heap.size + 1, 3, none⟩ = some (.int .i64 si) := fun d => d.h.2.2.2.2.2.2.2.2.1
      have k9 : ∀ d : Kept (doN w s j m g o true l h si la od op n b (off + kk * 2 + 1) z p (z - m) (z + m)), d.w.cell? ⟨w.heap.size + 1, 4, none⟩ = some (.int .i64 la) := fun d => d.h.2.2.2.2.2.2.2.2.2.1
      have k10 : ∀ d : Kept (doN w s j m g o true l h si la od op n b (off + kk * 2 + 1) z p (z - m) (z + m)), d.w.cell? ⟨w.heap.size + 1, 5, none⟩ = some (.int .i64 od) := fun d => d.h.2.2.2.2.2.2.2.2.2.2.1
      have k11 : ∀ d : Kept (doN w s j m g o true l h si la od op n b (off + kk * 2 + 1) z p (z - m) (z + m)), d.w.cell? ⟨w.heap.size + 1 + 1, 0, none⟩ = some (.int .i64 op) := fun d => d.h.2.2.2.2.2.2.2.2.2.2.2.1
      have k12 : ∀ d : Kept (doN w s j m g o true l h si la od op n b (off + kk * 2 + 1) z p (z - m) (z + m)), d.w.cell? ⟨w.heap.size + 1 + 1, 1, none⟩ = some (.int .i64 n) := fun d => d.h.2.2.2.2.2.2.2.2.2.2.2.2.1
      have k13 : ∀ d : Kept (doN w s j m g o true l h si la od op n b (off + kk * 2 + 1) z p (z - m) (z + m)), d.w.cell? ⟨w.heap.size + 1 + 1 + 1, 0, none⟩ = some (.bool false) := fun d => d.h.2.2.2.2.2.2.2.2.2.2.2.2.2.1
      have k14 : ∀ d : Kept (doN w s j m g o true l h si la od op n b (off + kk * 2 + 1) z p (z - m) (z + m)), d.w.cell? ⟨w.heap.size + 1 + 1 + 1, 1, none⟩ = some (.int .i64 0) := fun d => d.h.2.2.2.2.2.2.2.2.2.2.2.2.2.2.1
      have k15 : ∀ d : Kept (doN w s j m g o true l h si la od op n b (off + kk * 2 + 1) z p (z - m) (z + m)), d.w.cell? ⟨w.heap.size + 1 + 1 + 1, 2, none⟩ = some (.int .i64 0) := fun d => d.h.2.2.2.2.2.2.2.2.2.2.2.2.2.2.2.1
      have k16 : ∀ d : Kept (doN w s j m g o true l h si la od op n b (off + kk * 2 + 1) z p (z - m) (z + m)), d.w.cell? ⟨w.heap.size + 1 + 1 + 1, 3, none⟩ = some (.int .i64 0) := fun d => d.h.2.2.2.2.2.2.2.2.2.2.2.2.2.2.2.2.1
      have k17 : ∀ d : Kept (doN w s j m g o true l h si la od op n b (off + kk * 2 + 1) z p (z - m) (z + m)), d.w.cell? ⟨w.heap.size + 1 + 1 + 1, 4, none⟩ = some (.int .i64 0) := fun d => d.h.2.2.2.2.2.2.2.2.2.2.2.2.2.2.2.2.2.1
      have k18 : ∀ d : Kept (doN w s j m g o true l h si la od op n b (off + kk * 2 + 1) z p (z - m) (z + m)), d.w.cell? ⟨w.heap.size + 1 + 1 + 1, 5, none⟩ = some (.int .i64 0) := fun d => d.h.2.2.2.2.2.2.2.2.2.2.2.2.2.2.2.2.2.2.1
      have k31 : ∀ d : Kept (doN w s j m g o true l h si la od op n b (off + kk * 2 + 1) z p (z - m) (z + m)), d.w.cell? ⟨b, (off + kk * 2 + 1), none⟩ = some (.int .i64 z) := fun d => d.h.2.2.2.2.2.2.2.2.2.2.2.2.2.2.2.2.2.2.2.2.2.2.2.2.2.2.2.2.2.2.2.1
      have k32 : ∀ d : Kept (doN w s j m g o true l h si la od op n b (off + kk * 2 + 1) z p (z - m) (z + m)), d.w.cell? ⟨p, 0, none⟩ = some (.int .i64 (z - m)) := fun d => d.h.2.2.2.2.2.2.2.2.2.2.2.2.2.2.2.2.2.2.2.2.2.2.2.2.2.2.2.2.2.2.2.2.1
      have k33 : ∀ d : Kept (doN w s j m g o true l h si la od op n b (off + kk * 2 + 1) z p (z - m) (z + m)), d.w.cell? ⟨p, 1, none⟩ = some (.int .i64 (z + m)) := fun d => d.h.2.2.2.2.2.2.2.2.2.2.2.2.2.2.2.2.2.2.2.2.2.2.2.2.2.2.2.2.2.2.2.2.2.1
      repeat (go_big_quiet_step (first | (go_at_call 65; exact call_kept _ doN_on (l1clip_c _ _ _ (by omega) (by omega))) | (go_at_call 77; exact call_kept _ doN_on (specMeets_f _ _ _ _ _ hmt))))
      refine wpQuiet_nil ?_
      rintro w7 ⟨d, hd2⟩
      have hC7 := d.h
      rw [← hd2] at hC7
      clear k0 k1 k2 k3 k4 k5 k6 k7 k8 k9 k10 k11 k12 k13 k14 k15 k16 k17 k18 k31 k32 k33 hN hd2 hC6
      have c0 : w7.cell? ⟨w.heap.size, 0, none⟩ = some (.int .i64 s) := hC7.1
      have c1 : w7.cell? ⟨w.heap.size, 1, none⟩ = some (.int .i64 j) := hC7.2.1
      have c2 : w7.cell? ⟨w.heap.size, 2, none⟩ = some (.int .i64 m) := hC7.2.2.1
      have c3 : w7.cell? ⟨w.heap.size, 3, none⟩ = some (.int .i64 g) := hC7.2.2.2.1
      have c4 : w7.cell? ⟨w.heap.size, 4, none⟩ = some (.int .i64 o) := hC7.2.2.2.2.1
      have c5 : w7.cell? ⟨w.heap.size + 1, 0, none⟩ = some (.bool true) := hC7.2.2.2.2.2.1
      have c6 : w7.cell? ⟨w.heap.size + 1, 1, none⟩ = some (.int .i64 l) := hC7.2.2.2.2.2.2.1
      have c7 : w7.cell? ⟨w.heap.size + 1, 2, none⟩ = some (.int .i64 h) := hC7.2.2.2.2.2.2.2.1
      have c8 : w7.cell? ⟨w.heap.size + 1, 3, none⟩ = some (.int .i64 si) := hC7.2.2.2.2.2.2.2.2.1
      have c9 : w7.cell? ⟨w.heap.size + 1, 4, none⟩ = some (.int .i64 la) := hC7.2.2.2.2.2.2.2.2.2.1
      have c10 : w7.cell? ⟨w.heap.size + 1, 5, none⟩ = some (.int .i64 od) := hC7.2.2.2.2.2.2.2.2.2.2.1
      have c11 : w7.cell? ⟨w.heap.size + 1 + 1, 0, none⟩ = some (.int .i64 op) := hC7.2.2.2.2.2.2.2.2.2.2.2.1
      have c12 : w7.cell? ⟨w.heap.size + 1 + 1, 1, none⟩ = some (.int .i64 n) := hC7.2.2.2.2.2.2.2.2.2.2.2.2.1
      have c13 : w7.cell? ⟨w.heap.size + 1 + 1 + 1, 0, none⟩ = some (.bool false) := hC7.2.2.2.2.2.2.2.2.2.2.2.2.2.1
      have c14 : w7.cell? ⟨w.heap.size + 1 + 1 + 1, 1, none⟩ = some (.int .i64 0) := hC7.2.2.2.2.2.2.2.2.2.2.2.2.2.2.1
      have c15 : w7.cell? ⟨w.heap.size + 1 + 1 + 1, 2, none⟩ = some (.int .i64 0) := hC7.2.2.2.2.2.2.2.2.2.2.2.2.2.2.2.1
      have c16 : w7.cell? ⟨w.heap.size + 1 + 1 + 1, 3, none⟩ = some (.int .i64 0) := hC7.2.2.2.2.2.2.2.2.2.2.2.2.2.2.2.2.1
      have c17 : w7.cell? ⟨w.heap.size + 1 + 1 + 1, 4, none⟩ = some (.int .i64 0) := hC7.2.2.2.2.2.2.2.2.2.2.2.2.2.2.2.2.2.1
      have c18 : w7.cell? ⟨w.heap.size + 1 + 1 + 1, 5, none⟩ = some (.int .i64 0) := hC7.2.2.2.2.2.2.2.2.2.2.2.2.2.2.2.2.2.2.1
      have c19 : w7.frozen? ⟨w.heap.size + 1, 0, none⟩ = false := hC7.2.2.2.2.2.2.2.2.2.2.2.2.2.2.2.2.2.2.2.1
      have c20 : w7.frozen? ⟨w.heap.size + 1, 1, none⟩ = false := hC7.2.2.2.2.2.2.2.2.2.2.2.2.2.2.2.2.2.2.2.2.1
      have c21 : w7.frozen? ⟨w.heap.size + 1, 2, none⟩ = false := hC7.2.2.2.2.2.2.2.2.2.2.2.2.2.2.2.2.2.2.2.2.2.1
      have c22 : w7.frozen? ⟨w.heap.size + 1, 3, none⟩ = false := hC7.2.2.2.2.2.2.2.2.2.2.2.2.2.2.2.2.2.2.2.2.2.2.1
      have c23 : w7.frozen? ⟨w.heap.size + 1, 4, none⟩ = false := hC7.2.2.2.2.2.2.2.2.2.2.2.2.2.2.2.2.2.2.2.2.2.2.2.1
      have c24 : w7.frozen? ⟨w.heap.size + 1, 5, none⟩ = false := hC7.2.2.2.2.2.2.2.2.2.2.2.2.2.2.2.2.2.2.2.2.2.2.2.2.1
      have c25 : w7.frozen? ⟨w.heap.size + 1 + 1 + 1, 0, none⟩ = false := hC7.2.2.2.2.2.2.2.2.2.2.2.2.2.2.2.2.2.2.2.2.2.2.2.2.2.1
      have c26 : w7.frozen? ⟨w.heap.size + 1 + 1 + 1, 1, none⟩ = false := hC7.2.2.2.2.2.2.2.2.2.2.2.2.2.2.2.2.2.2.2.2.2.2.2.2.2.2.1
      have c27 : w7.frozen? ⟨w.heap.size + 1 + 1 + 1, 2, none⟩ = false := hC7.2.2.2.2.2.2.2.2.2.2.2.2.2.2.2.2.2.2.2.2.2.2.2.2.2.2.2.1
      have c28 : w7.frozen? ⟨w.heap.size + 1 + 1 + 1, 3, none⟩ = false := hC7.2.2.2.2.2.2.2.2.2.2.2.2.2.2.2.2.2.2.2.2.2.2.2.2.2.2.2.2.1
      have c29 : w7.frozen? ⟨w.heap.size + 1 + 1 + 1, 4, none⟩ = false := hC7.2.2.2.2.2.2.2.2.2.2.2.2.2.2.2.2.2.2.2.2.2.2.2.2.2.2.2.2.2.1
      have c30 : w7.frozen? ⟨w.heap.size + 1 + 1 + 1, 5, none⟩ = false := hC7.2.2.2.2.2.2.2.2.2.2.2.2.2.2.2.2.2.2.2.2.2.2.2.2.2.2.2.2.2.2.1
      have c31 : w7.cell? ⟨b, (off + kk * 2 + 1), none⟩ = some (.int .i64 z) := hC7.2.2.2.2.2.2.2.2.2.2.2.2.2.2.2.2.2.2.2.2.2.2.2.2.2.2.2.2.2.2.2.1
      have c32 : w7.cell? ⟨p, 0, none⟩ = some (.int .i64 (z - m)) := hC7.2.2.2.2.2.2.2.2.2.2.2.2.2.2.2.2.2.2.2.2.2.2.2.2.2.2.2.2.2.2.2.2.1
      have c33 : w7.cell? ⟨p, 1, none⟩ = some (.int .i64 (z + m)) := hC7.2.2.2.2.2.2.2.2.2.2.2.2.2.2.2.2.2.2.2.2.2.2.2.2.2.2.2.2.2.2.2.2.2.1
      have c34 : Below w.heap.size w w7 := hC7.2.2.2.2.2.2.2.2.2.2.2.2.2.2.2.2.2.2.2.2.2.2.2.2.2.2.2.2.2.2.2.2.2.2
      go_wp2_with fail
      refine (l2least_c _ _ _).mono ?_
      rintro e w8 ⟨rfl, rfl⟩
      go_wp2_with fail
      clear c0 c1 c2 c3 c4 c5 c6 c7 c8 c9 c10 c11 c12 c13 c14 c15 c16 c17 c18 c19 c20 c21 c22 c23 c24 c25 c26 c27 c28 c29 c30 c31 c32 c33 c34
      have hC8 := doN_od hC7 (min (od + 1) 1000000000) hbn hpn
      generalize w7.setCell ⟨w.heap.size + 1, 5, none⟩ (.int .i64 (min (od + 1) 1000000000)) = w8 at *
      refine region_last (doN w s j m g o true l h si la (min (od + 1) 1000000000) op n b (off + kk * 2 + 1) z p (z - m) (z + m)) 10 rfl (by kernel_rfl) (by kernel_rfl) (by kernel_rfl) ?_ ?_
      · obtain ⟨q0, q1, q2, q3, q4, q5, q6, q7, q8, q9, q10, q11, q12, q13, q14, q15, q16, q17, q18, q19, q20, q21, q22, q23, q24, q25, q26, q27, q28, q29, q30, q31, q32, q33, q34⟩ := hC8
        exact ⟨q0, q1, q2, q3, q4, q5, q6, q7, q8, q9, q10, q11, q12, q13, q14, q15, q16, q17, q18, q19, q20, q21, q22, q23, q24, q25, q26, q27, q28, q29, q30, q31, q32, q33, q34.drew⟩
      apply Exists.intro
      refine ⟨fun hN => ?_, fun w9 h9 => ?_⟩
      · simp only [List.set_cons_succ, List.set_cons_zero, idle]
        have k0 : ∀ d : Kept (doN w s j m g o true l h si la (min (od + 1) 1000000000) op n b (off + kk * 2 + 1) z p (z - m) (z + m)), d.w.cell? ⟨w.heap.size, 0, none⟩ = some (.int .i64 s) := fun d => d.h.1
        have k1 : ∀ d : Kept (doN w s j m g o true l h si la (min (od + 1) 1000000000) op n b (off + kk * 2 + 1) z p (z - m) (z + m)), d.w.cell? ⟨w.heap.size, 1, none⟩ = some (.int .i64 j) := fun d => d.h.2.1
        have k2 : ∀ d : Kept (doN w s j m g o true l h si la (min (od + 1) 1000000000) op n b (off + kk * 2 + 1) z p (z - m) (z + m)), d.w.cell? ⟨w.heap.size, 2, none⟩ = some (.int .i64 m) := fun d => d.h.2.2.1
        have k3 : ∀ d : Kept (doN w s j m g o true l h si la (min (od + 1) 1000000000) op n b (off + kk * 2 + 1) z p (z - m) (z + m)), d.w.cell? ⟨w.heap.size, 3, none⟩ = some (.int .i64 g) := fun d => d.h.2.2.2.1
        have k4 : ∀ d : Kept (doN w s j m g o true l h si la (min (od + 1) 1000000000) op n b (off + kk * 2 + 1) z p (z - m) (z + m)), d.w.cell? ⟨w.heap.size, 4, none⟩ = some (.int .i64 o) := fun d => d.h.2.2.2.2.1
        have k5 : ∀ d : Kept (doN w s j m g o true l h si la (min (od + 1) 1000000000) op n b (off + kk * 2 + 1) z p (z - m) (z + m)), d.w.cell? ⟨w.heap.size + 1, 0, none⟩ = some (.bool true) := fun d => d.h.2.2.2.2.2.1
        have k6 : ∀ d : Kept (doN w s j m g o true l h si la (min (od + 1) 1000000000) op n b (off + kk * 2 + 1) z p (z - m) (z + m)), d.w.cell? ⟨w.heap.size + 1, 1, none⟩ = some (.int .i64 l) := fun d => d.h.2.2.2.2.2.2.1
        have k7 : ∀ d : Kept (doN w s j m g o true l h si la (min (od + 1) 1000000000) op n b (off + kk * 2 + 1) z p (z - m) (z + m)), d.w.cell? ⟨w.heap.size + 1, 2, none⟩ = some (.int .i64 h) := fun d => d.h.2.2.2.2.2.2.2.1
        have k8 : ∀ d : Kept (doN w s j m g o true l h si la (min (od + 1) 1000000000) op n b (off + kk * 2 + 1) z p (z - m) (z + m)), d.w.cell? ⟨w.heap.size + 1, 3, none⟩ = some (.int .i64 si) := fun d => d.h.2.2.2.2.2.2.2.2.1
        have k9 : ∀ d : Kept (doN w s j m g o true l h si la (min (od + 1) 1000000000) op n b (off + kk * 2 + 1) z p (z - m) (z + m)), d.w.cell? ⟨w.heap.size + 1, 4, none⟩ = some (.int .i64 la) := fun d => d.h.2.2.2.2.2.2.2.2.2.1
        have k10 : ∀ d : Kept (doN w s j m g o true l h si la (min (od + 1) 1000000000) op n b (off + kk * 2 + 1) z p (z - m) (z + m)), d.w.cell? ⟨w.heap.size + 1, 5, none⟩ = some (.int .i64 (min (od + 1) 1000000000)) := fun d => d.h.2.2.2.2.2.2.2.2.2.2.1
        have k11 : ∀ d : Kept (doN w s j m g o true l h si la (min (od + 1) 1000000000) op n b (off + kk * 2 + 1) z p (z - m) (z + m)), d.w.cell? ⟨w.heap.size + 1 + 1, 0, none⟩ = some (.int .i64 op) := fun d => d.h.2.2.2.2.2.2.2.2.2.2.2.1
        have k12 : ∀ d : Kept (doN w s j m g o true l h si la (min (od + 1) 1000000000) op n b (off + kk * 2 + 1) z p (z - m) (z + m)), d.w.cell? ⟨w.heap.size + 1 + 1, 1, none⟩ = some (.int .i64 n) := fun d => d.h.2.2.2.2.2.2.2.2.2.2.2.2.1
        have k13 : ∀ d : Kept (doN w s j m g o true l h si la (min (od + 1) 1000000000) op n b (off + kk * 2 + 1) z p (z - m) (z + m)), d.w.cell? ⟨w.heap.size + 1 + 1 + 1, 0, none⟩ = some (.bool false) := fun d => d.h.2.2.2.2.2.2.2.2.2.2.2.2.2.1
        have k14 : ∀ d : Kept (doN w s j m g o true l h si la (min (od + 1) 1000000000) op n b (off + kk * 2 + 1) z p (z - m) (z + m)), d.w.cell? ⟨w.heap.size + 1 + 1 + 1, 1, none⟩ = some (.int .i64 0) := fun d => d.h.2.2.2.2.2.2.2.2.2.2.2.2.2.2.1
        have k15 : ∀ d : Kept (doN w s j m g o true l h si la (min (od + 1) 1000000000) op n b (off + kk * 2 + 1) z p (z - m) (z + m)), d.w.cell? ⟨w.heap.size + 1 + 1 + 1, 2, none⟩ = some (.int .i64 0) := fun d => d.h.2.2.2.2.2.2.2.2.2.2.2.2.2.2.2.1
        have k16 : ∀ d : Kept (doN w s j m g o true l h si la (min (od + 1) 1000000000) op n b (off + kk * 2 + 1) z p (z - m) (z + m)), d.w.cell? ⟨w.heap.size + 1 + 1 + 1, 3, none⟩ = some (.int .i64 0) := fun d => d.h.2.2.2.2.2.2.2.2.2.2.2.2.2.2.2.2.1
        have k17 : ∀ d : Kept (doN w s j m g o true l h si la (min (od + 1) 1000000000) op n b (off + kk * 2 + 1) z p (z - m) (z + m)), d.w.cell? ⟨w.heap.size + 1 + 1 + 1, 4, none⟩ = some (.int .i64 0) := fun d => d.h.2.2.2.2.2.2.2.2.2.2.2.2.2.2.2.2.2.1
        have k18 : ∀ d : Kept (doN w s j m g o true l h si la (min (od + 1) 1000000000) op n b (off + kk * 2 + 1) z p (z - m) (z + m)), d.w.cell? ⟨w.heap.size + 1 + 1 + 1, 5, none⟩ = some (.int .i64 0) := fun d => d.h.2.2.2.2.2.2.2.2.2.2.2.2.2.2.2.2.2.2.1
        have k31 : ∀ d : Kept (doN w s j m g o true l h si la (min (od + 1) 1000000000) op n b (off + kk * 2 + 1) z p (z - m) (z + m)), d.w.cell? ⟨b, (off + kk * 2 + 1), none⟩ = some (.int .i64 z) := fun d => d.h.2.2.2.2.2.2.2.2.2.2.2.2.2.2.2.2.2.2.2.2.2.2.2.2.2.2.2.2.2.2.2.1
        have k32 : ∀ d : Kept (doN w s j m g o true l h si la (min (od + 1) 1000000000) op n b (off + kk * 2 + 1) z p (z - m) (z + m)), d.w.cell? ⟨p, 0, none⟩ = some (.int .i64 (z - m)) := fun d => d.h.2.2.2.2.2.2.2.2.2.2.2.2.2.2.2.2.2.2.2.2.2.2.2.2.2.2.2.2.2.2.2.2.1
        have k33 : ∀ d : Kept (doN w s j m g o true l h si la (min (od + 1) 1000000000) op n b (off + kk * 2 + 1) z p (z - m) (z + m)), d.w.cell? ⟨p, 1, none⟩ = some (.int .i64 (z + m)) := fun d => d.h.2.2.2.2.2.2.2.2.2.2.2.2.2.2.2.2.2.2.2.2.2.2.2.2.2.2.2.2.2.2.2.2.2.1
        repeat (go_big_quiet_step (first | (go_at_call 78; exact call_kept _ doN_on (specRead_no _ _ _ _ _ _ _ _ _ _ _ hr hbk hz1 (show Hid ((min (z - m) 100000000) = (min (z - m) 100000000)) from rfl) (show Hid ((min (z + m) 100000000) = (min (z + m) 100000000)) from rfl) hmt))))
        exact wpQuiet_nil rfl
      have c0 : w9.cell? ⟨w.heap.size, 0, none⟩ = some (.int .i64 s) := h9.1
      have c1 : w9.cell? ⟨w.heap.size, 1, none⟩ = some (.int .i64 j) := h9.2.1
      have c2 : w9.cell? ⟨w.heap.size, 2, none⟩ = some (.int .i64 m) := h9.2.2.1
      have c3 : w9.cell? ⟨w.heap.size, 3, none⟩ = some (.int .i64 g) := h9.2.2.2.1
      have c4 : w9.cell? ⟨w.heap.size, 4, none⟩ = some (.int .i64 o) := h9.2.2.2.2.1
      have c5 : w9.cell? ⟨w.heap.size + 1, 0, none⟩ = some (.bool true) := h9.2.2.2.2.2.1
      have c6 : w9.cell? ⟨w.heap.size + 1, 1, none⟩ = some (.int .i64 l) := h9.2.2.2.2.2.2.1
      have c7 : w9.cell? ⟨w.heap.size + 1, 2, none⟩ = some (.int .i64 h) := h9.2.2.2.2.2.2.2.1
      have c8 : w9.cell? ⟨w.heap.size + 1, 3, none⟩ = some (.int .i64 si) := h9.2.2.2.2.2.2.2.2.1
      have c9 : w9.cell? ⟨w.heap.size + 1, 4, none⟩ = some (.int .i64 la) := h9.2.2.2.2.2.2.2.2.2.1
      have c10 : w9.cell? ⟨w.heap.size + 1, 5, none⟩ = some (.int .i64 (min (od + 1) 1000000000)) := h9.2.2.2.2.2.2.2.2.2.2.1
      have c11 : w9.cell? ⟨w.heap.size + 1 + 1, 0, none⟩ = some (.int .i64 op) := h9.2.2.2.2.2.2.2.2.2.2.2.1
      have c12 : w9.cell? ⟨w.heap.size + 1 + 1, 1, none⟩ = some (.int .i64 n) := h9.2.2.2.2.2.2.2.2.2.2.2.2.1
      have c13 : w9.cell? ⟨w.heap.size + 1 + 1 + 1, 0, none⟩ = some (.bool false) := h9.2.2.2.2.2.2.2.2.2.2.2.2.2.1
      have c14 : w9.cell? ⟨w.heap.size + 1 + 1 + 1, 1, none⟩ = some (.int .i64 0) := h9.2.2.2.2.2.2.2.2.2.2.2.2.2.2.1
      have c15 : w9.cell? ⟨w.heap.size + 1 + 1 + 1, 2, none⟩ = some (.int .i64 0) := h9.2.2.2.2.2.2.2.2.2.2.2.2.2.2.2.1
      have c16 : w9.cell? ⟨w.heap.size + 1 + 1 + 1, 3, none⟩ = some (.int .i64 0) := h9.2.2.2.2.2.2.2.2.2.2.2.2.2.2.2.2.1
      have c17 : w9.cell? ⟨w.heap.size + 1 + 1 + 1, 4, none⟩ = some (.int .i64 0) := h9.2.2.2.2.2.2.2.2.2.2.2.2.2.2.2.2.2.1
      have c18 : w9.cell? ⟨w.heap.size + 1 + 1 + 1, 5, none⟩ = some (.int .i64 0) := h9.2.2.2.2.2.2.2.2.2.2.2.2.2.2.2.2.2.2.1
      have c19 : w9.frozen? ⟨w.heap.size + 1, 0, none⟩ = false := h9.2.2.2.2.2.2.2.2.2.2.2.2.2.2.2.2.2.2.2.1
      have c20 : w9.frozen? ⟨w.heap.size + 1, 1, none⟩ = false := h9.2.2.2.2.2.2.2.2.2.2.2.2.2.2.2.2.2.2.2.2.1
      have c21 : w9.frozen? ⟨w.heap.size + 1, 2, none⟩ = false := h9.2.2.2.2.2.2.2.2.2.2.2.2.2.2.2.2.2.2.2.2.2.1
      have c22 : w9.frozen? ⟨w.heap.size + 1, 3, none⟩ = false := h9.2.2.2.2.2.2.2.2.2.2.2.2.2.2.2.2.2.2.2.2.2.2.1
      have c23 : w9.frozen? ⟨w.heap.size + 1, 4, none⟩ = false := h9.2.2.2.2.2.2.2.2.2.2.2.2.2.2.2.2.2.2.2.2.2.2.2.1
      have c24 : w9.frozen? ⟨w.heap.size + 1, 5, none⟩ = false := h9.2.2.2.2.2.2.2.2.2.2.2.2.2.2.2.2.2.2.2.2.2.2.2.2.1
      have c25 : w9.frozen? ⟨w.heap.size + 1 + 1 + 1, 0, none⟩ = false := h9.2.2.2.2.2.2.2.2.2.2.2.2.2.2.2.2.2.2.2.2.2.2.2.2.2.1
      have c26 : w9.frozen? ⟨w.heap.size + 1 + 1 + 1, 1, none⟩ = false := h9.2.2.2.2.2.2.2.2.2.2.2.2.2.2.2.2.2.2.2.2.2.2.2.2.2.2.1
      have c27 : w9.frozen? ⟨w.heap.size + 1 + 1 + 1, 2, none⟩ = false := h9.2.2.2.2.2.2.2.2.2.2.2.2.2.2.2.2.2.2.2.2.2.2.2.2.2.2.2.1
      have c28 : w9.frozen? ⟨w.heap.size + 1 + 1 + 1, 3, none⟩ = false := h9.2.2.2.2.2.2.2.2.2.2.2.2.2.2.2.2.2.2.2.2.2.2.2.2.2.2.2.2.1
      have c29 : w9.frozen? ⟨w.heap.size + 1 + 1 + 1, 4, none⟩ = false := h9.2.2.2.2.2.2.2.2.2.2.2.2.2.2.2.2.2.2.2.2.2.2.2.2.2.2.2.2.2.1
      have c30 : w9.frozen? ⟨w.heap.size + 1 + 1 + 1, 5, none⟩ = false := h9.2.2.2.2.2.2.2.2.2.2.2.2.2.2.2.2.2.2.2.2.2.2.2.2.2.2.2.2.2.2.1
      have c31 : w9.cell? ⟨b, (off + kk * 2 + 1), none⟩ = some (.int .i64 z) := h9.2.2.2.2.2.2.2.2.2.2.2.2.2.2.2.2.2.2.2.2.2.2.2.2.2.2.2.2.2.2.2.1
      have c32 : w9.cell? ⟨p, 0, none⟩ = some (.int .i64 (z - m)) := h9.2.2.2.2.2.2.2.2.2.2.2.2.2.2.2.2.2.2.2.2.2.2.2.2.2.2.2.2.2.2.2.2.1
      have c33 : w9.cell? ⟨p, 1, none⟩ = some (.int .i64 (z + m)) := h9.2.2.2.2.2.2.2.2.2.2.2.2.2.2.2.2.2.2.2.2.2.2.2.2.2.2.2.2.2.2.2.2.2.1
      have c34 : Below w.heap.size w w9 := h9.2.2.2.2.2.2.2.2.2.2.2.2.2.2.2.2.2.2.2.2.2.2.2.2.2.2.2.2.2.2.2.2.2.2
      clear hC7 hC8 h9
      go_simp
      go_wp2
      have hq1 : w.heap.size ≤ w.heap.size + 1 := by omega
      have hq3 : w.heap.size ≤ w.heap.size + 1 + 1 + 1 := by omega
      exact bodyPost_ret (v := .agg #[.bool true, .int .i64 (min l (min (z - m) 100000000)), .int .i64 (max h (min (z + m) 100000000)), .int .i64 0, .int .i64 ((kk : Int)), .int .i64 (min (od + 1) 1000000000)]) (by simp [results, Tryd.results31, go_sem, *]) rfl ⟨rfl, (nbSetX (nbSetX (nbSetX (nbSetX (nbSetX (nbSetX (nbSetX (nbSetX (nbSetX (nbSetX (nbSetX c34 hq1) hq1) hq1) hq1) hq1) hq3) hq3) hq3) hq3) hq3) hq3)⟩

end Go.Proofs.YtmhppadblddjoaaDoor

