import Derived.Test.YtmhppadblddjoaaDoorZTrueW1
import Derived.Test.YtmhppadblddjoaaDoorZTrueW2
namespace Go.Proofs.YtmhppadblddjoaaDoor
open Go.RowKit

def wC (w : World) (s j m g o l h : Int) : World → Prop := fun w' => w'.cell? ⟨w.heap.size, 0, none⟩ = some (.int .i64 s) ∧ w'.cell? ⟨w.heap.size, 1, none⟩ = some (.int .i64 j) ∧ w'.cell? ⟨w.heap.size, 2, none⟩ = some (.int .i64 m) ∧ w'.cell? ⟨w.heap.size, 3, none⟩ = some (.int .i64 g) ∧ w'.cell? ⟨w.heap.size, 4, none⟩ = some (.int .i64 o) ∧ w'.cell? ⟨w.heap.size + 1, 0, none⟩ = some (.int .i64 l) ∧ w'.cell? ⟨w.heap.size + 1, 1, none⟩ = some (.int .i64 h) ∧ w'.cell? ⟨w.heap.size + 1 + 1, 0, none⟩ = some (.int .i64 0) ∧ w'.cell? ⟨w.heap.size + 1 + 1, 1, none⟩ = some (.int .i64 0) ∧ w'.frozen? ⟨w.heap.size + 1 + 1, 0, none⟩ = false ∧ w'.frozen? ⟨w.heap.size + 1 + 1, 1, none⟩ = false ∧ Below w.heap.size w w'
theorem wC_on {w : World} {s j m g o l h : Int} {w1 w2 : World} (hh : wC w s j m g o l h w1) (hb : Below w1.heap.size w1 w2) : wC w s j m g o l h w2 :=
  ⟨cellOn hb hh.1, cellOn hb hh.2.1, cellOn hb hh.2.2.1, cellOn hb hh.2.2.2.1, cellOn hb hh.2.2.2.2.1, cellOn hb hh.2.2.2.2.2.1, cellOn hb hh.2.2.2.2.2.2.1, cellOn hb hh.2.2.2.2.2.2.2.1, cellOn hb hh.2.2.2.2.2.2.2.2.1, frozenOn hb hh.2.2.2.2.2.2.2.1 hh.2.2.2.2.2.2.2.2.2.1, frozenOn hb hh.2.2.2.2.2.2.2.2.1 hh.2.2.2.2.2.2.2.2.2.2.1, nbTrans hh.2.2.2.2.2.2.2.2.2.2.2 hb⟩

theorem nearestM (x : Int) (w : World) (hx : -100000000 ≤ x) :
    Calls Tryd.prog 62 #[.agg #[.int .i64 (-100000000), .int .i64 100000000], .int .i64 x] w fun e w' => e = .returned (.int .i64 (min x 100000000)) ∧ Below w.heap.size w w' := by
  have := nearest_c (-100000000) 100000000 x w (by omega)
  rwa [Int.max_eq_left hx] at this

set_option maxHeartbeats 1000000 in
theorem implWheel_ok (s j m g o l h c : Int) (w : World) (hr : rOk s j m g o = true) (hbk : bOk l h = true) (hc : inB c 0 100000 = true) :
    Calls Tryd.prog 23 #[.agg #[.int .i64 s, .int .i64 j, .int .i64 m, .int .i64 g, .int .i64 o], .agg #[.int .i64 l, .int .i64 h], .int .i64 c] w fun e w' => e = .returned (.agg #[.int .i64 (min (l + lst s j c) 100000000), .int .i64 (min (h + mst s j c) 100000000)]) ∧ Below w.heap.size w w' := by
  have hmf : ∀ (fn : Fn) (first cap : Array Value) (w : World), (Instr.makeFunc fn first cap).run Tryd.prog w = .ok (.func fn first cap) w := fun _ _ _ _ => rfl
  have hb' := hbk
  have hc' := hc
  have hr' := hr
  simp only [rOk, inB, bOk, Bool.and_eq_true, decide_eq_true_eq] at hb' hc' hr'
  obtain ⟨⟨hl0, hlh⟩, hh0⟩ := hb'
  obtain ⟨hc0, hc1⟩ := hc'
  obtain ⟨⟨⟨⟨⟨hs0, hs⟩, hj0, hj⟩, -⟩, -⟩, -⟩ := hr'
  have b1 := lst_nonneg (j := j) (c := c) hs0
  have b2 := lst_le hs0 hj0 hc0
  have b3 := mst_ge hs0 hs hj0 hc0
  have b4 := mst_le hs0 hs hj hc1
  have wr1 : IntKind.i64.wrap (l + lst s j c) = l + lst s j c := wrapS (by omega) (by omega)
  have wr2 : IntKind.i64.wrap (h + mst s j c) = h + mst s j c := wrapS (by omega) (by omega)
  go_enter Tryd.func23, Tryd.ntmps23
  go_wp2_with fail
  refine (implRulesOk_c _ _ _ _ _ _).mono ?_
  rintro e w1 ⟨rfl, hb1⟩
  have hC1 : wC w s j m g o l h w1 := ⟨cellOn hb1 (by go_simp), cellOn hb1 (by go_simp), cellOn hb1 (by go_simp), cellOn hb1 (by go_simp), cellOn hb1 (by go_simp), cellOn hb1 (by go_simp), cellOn hb1 (by go_simp), cellOn hb1 (by go_simp), cellOn hb1 (by go_simp), frozenOn hb1 (v := .int .i64 0) (by go_simp) (by go_simp), frozenOn hb1 (v := .int .i64 0) (by go_simp) (by go_simp), nbTrans (nbAlloc (nbAlloc (nbAlloc (Below.refl _ _) _) _) _) hb1⟩
  have c0 : w1.cell? ⟨w.heap.size, 0, none⟩ = some (.int .i64 s) := hC1.1
  have c1 : w1.cell? ⟨w.heap.size, 1, none⟩ = some (.int .i64 j) := hC1.2.1
  have c2 : w1.cell? ⟨w.heap.size, 2, none⟩ = some (.int .i64 m) := hC1.2.2.1
  have c3 : w1.cell? ⟨w.heap.size, 3, none⟩ = some (.int .i64 g) := hC1.2.2.2.1
  have c4 : w1.cell? ⟨w.heap.size, 4, none⟩ = some (.int .i64 o) := hC1.2.2.2.2.1
  have c5 : w1.cell? ⟨w.heap.size + 1, 0, none⟩ = some (.int .i64 l) := hC1.2.2.2.2.2.1
  have c6 : w1.cell? ⟨w.heap.size + 1, 1, none⟩ = some (.int .i64 h) := hC1.2.2.2.2.2.2.1
  have c7 : w1.cell? ⟨w.heap.size + 1 + 1, 0, none⟩ = some (.int .i64 0) := hC1.2.2.2.2.2.2.2.1
  have c8 : w1.cell? ⟨w.heap.size + 1 + 1, 1, none⟩ = some (.int .i64 0) := hC1.2.2.2.2.2.2.2.2.1
  have c9 : w1.frozen? ⟨w.heap.size + 1 + 1, 0, none⟩ = false := hC1.2.2.2.2.2.2.2.2.2.1
  have c10 : w1.frozen? ⟨w.heap.size + 1 + 1, 1, none⟩ = false := hC1.2.2.2.2.2.2.2.2.2.2.1
  have c11 : Below w.heap.size w w1 := hC1.2.2.2.2.2.2.2.2.2.2.2
  go_wp2_with fail
  clear c0 c1 c2 c3 c4 c5 c6 c7 c8 c9 c10 c11
  refine (implBoundOk_c _ _ _).mono ?_
  rintro e w2 ⟨rfl, hb2⟩
  have hC2 := wC_on hC1 hb2
  have c0 : w2.cell? ⟨w.heap.size, 0, none⟩ = some (.int .i64 s) := hC2.1
  have c1 : w2.cell? ⟨w.heap.size, 1, none⟩ = some (.int .i64 j) := hC2.2.1
  have c2 : w2.cell? ⟨w.heap.size, 2, none⟩ = some (.int .i64 m) := hC2.2.2.1
  have c3 : w2.cell? ⟨w.heap.size, 3, none⟩ = some (.int .i64 g) := hC2.2.2.2.1
  have c4 : w2.cell? ⟨w.heap.size, 4, none⟩ = some (.int .i64 o) := hC2.2.2.2.2.1
  have c5 : w2.cell? ⟨w.heap.size + 1, 0, none⟩ = some (.int .i64 l) := hC2.2.2.2.2.2.1
  have c6 : w2.cell? ⟨w.heap.size + 1, 1, none⟩ = some (.int .i64 h) := hC2.2.2.2.2.2.2.1
  have c7 : w2.cell? ⟨w.heap.size + 1 + 1, 0, none⟩ = some (.int .i64 0) := hC2.2.2.2.2.2.2.2.1
  have c8 : w2.cell? ⟨w.heap.size + 1 + 1, 1, none⟩ = some (.int .i64 0) := hC2.2.2.2.2.2.2.2.2.1
  have c9 : w2.frozen? ⟨w.heap.size + 1 + 1, 0, none⟩ = false := hC2.2.2.2.2.2.2.2.2.2.1
  have c10 : w2.frozen? ⟨w.heap.size + 1 + 1, 1, none⟩ = false := hC2.2.2.2.2.2.2.2.2.2.2.1
  have c11 : Below w.heap.size w w2 := hC2.2.2.2.2.2.2.2.2.2.2.2
  go_wp2_with fail
  clear c0 c1 c2 c3 c4 c5 c6 c7 c8 c9 c10 c11
  refine (upTo_c _ _).mono ?_
  rintro e w3 ⟨rfl, hb3⟩
  have hC3 := wC_on hC2 hb3
  have c0 : w3.cell? ⟨w.heap.size, 0, none⟩ = some (.int .i64 s) := hC3.1
  have c1 : w3.cell? ⟨w.heap.size, 1, none⟩ = some (.int .i64 j) := hC3.2.1
  have c2 : w3.cell? ⟨w.heap.size, 2, none⟩ = some (.int .i64 m) := hC3.2.2.1
  have c3 : w3.cell? ⟨w.heap.size, 3, none⟩ = some (.int .i64 g) := hC3.2.2.2.1
  have c4 : w3.cell? ⟨w.heap.size, 4, none⟩ = some (.int .i64 o) := hC3.2.2.2.2.1
  have c5 : w3.cell? ⟨w.heap.size + 1, 0, none⟩ = some (.int .i64 l) := hC3.2.2.2.2.2.1
  have c6 : w3.cell? ⟨w.heap.size + 1, 1, none⟩ = some (.int .i64 h) := hC3.2.2.2.2.2.2.1
  have c7 : w3.cell? ⟨w.heap.size + 1 + 1, 0, none⟩ = some (.int .i64 0) := hC3.2.2.2.2.2.2.2.1
  have c8 : w3.cell? ⟨w.heap.size + 1 + 1, 1, none⟩ = some (.int .i64 0) := hC3.2.2.2.2.2.2.2.2.1
  have c9 : w3.frozen? ⟨w.heap.size + 1 + 1, 0, none⟩ = false := hC3.2.2.2.2.2.2.2.2.2.1
  have c10 : w3.frozen? ⟨w.heap.size + 1 + 1, 1, none⟩ = false := hC3.2.2.2.2.2.2.2.2.2.2.1
  have c11 : Below w.heap.size w w3 := hC3.2.2.2.2.2.2.2.2.2.2.2
  go_wp2_with fail
  clear c0 c1 c2 c3 c4 c5 c6 c7 c8 c9 c10 c11
  refine (has_c _ _ _ _).mono ?_
  rintro e w4 ⟨rfl, hb4⟩
  have hC4 := wC_on hC3 hb4
  have c0 : w4.cell? ⟨w.heap.size, 0, none⟩ = some (.int .i64 s) := hC4.1
  have c1 : w4.cell? ⟨w.heap.size, 1, none⟩ = some (.int .i64 j) := hC4.2.1
  have c2 : w4.cell? ⟨w.heap.size, 2, none⟩ = some (.int .i64 m) := hC4.2.2.1
  have c3 : w4.cell? ⟨w.heap.size, 3, none⟩ = some (.int .i64 g) := hC4.2.2.2.1
  have c4 : w4.cell? ⟨w.heap.size, 4, none⟩ = some (.int .i64 o) := hC4.2.2.2.2.1
  have c5 : w4.cell? ⟨w.heap.size + 1, 0, none⟩ = some (.int .i64 l) := hC4.2.2.2.2.2.1
  have c6 : w4.cell? ⟨w.heap.size + 1, 1, none⟩ = some (.int .i64 h) := hC4.2.2.2.2.2.2.1
  have c7 : w4.cell? ⟨w.heap.size + 1 + 1, 0, none⟩ = some (.int .i64 0) := hC4.2.2.2.2.2.2.2.1
  have c8 : w4.cell? ⟨w.heap.size + 1 + 1, 1, none⟩ = some (.int .i64 0) := hC4.2.2.2.2.2.2.2.2.1
  have c9 : w4.frozen? ⟨w.heap.size + 1 + 1, 0, none⟩ = false := hC4.2.2.2.2.2.2.2.2.2.1
  have c10 : w4.frozen? ⟨w.heap.size + 1 + 1, 1, none⟩ = false := hC4.2.2.2.2.2.2.2.2.2.2.1
  have c11 : Below w.heap.size w w4 := hC4.2.2.2.2.2.2.2.2.2.2.2
  go_wp2_with fail
  clear c0 c1 c2 c3 c4 c5 c6 c7 c8 c9 c10 c11
  refine (wholeWay_c _).mono ?_
  rintro e w5 ⟨rfl, hb5⟩
  have hC5 := wC_on hC4 hb5
  have c0 : w5.cell? ⟨w.heap.size, 0, none⟩ = some (.int .i64 s) := hC5.1
  have c1 : w5.cell? ⟨w.heap.size, 1, none⟩ = some (.int .i64 j) := hC5.2.1
  have c2 : w5.cell? ⟨w.heap.size, 2, none⟩ = some (.int .i64 m) := hC5.2.2.1
  have c3 : w5.cell? ⟨w.heap.size, 3, none⟩ = some (.int .i64 g) := hC5.2.2.2.1
  have c4 : w5.cell? ⟨w.heap.size, 4, none⟩ = some (.int .i64 o) := hC5.2.2.2.2.1
  have c5 : w5.cell? ⟨w.heap.size + 1, 0, none⟩ = some (.int .i64 l) := hC5.2.2.2.2.2.1
  have c6 : w5.cell? ⟨w.heap.size + 1, 1, none⟩ = some (.int .i64 h) := hC5.2.2.2.2.2.2.1
  have c7 : w5.cell? ⟨w.heap.size + 1 + 1, 0, none⟩ = some (.int .i64 0) := hC5.2.2.2.2.2.2.2.1
  have c8 : w5.cell? ⟨w.heap.size + 1 + 1, 1, none⟩ = some (.int .i64 0) := hC5.2.2.2.2.2.2.2.2.1
  have c9 : w5.frozen? ⟨w.heap.size + 1 + 1, 0, none⟩ = false := hC5.2.2.2.2.2.2.2.2.2.1
  have c10 : w5.frozen? ⟨w.heap.size + 1 + 1, 1, none⟩ = false := hC5.2.2.2.2.2.2.2.2.2.2.1
  have c11 : Below w.heap.size w w5 := hC5.2.2.2.2.2.2.2.2.2.2.2
  go_wp2_with fail
  clear c0 c1 c2 c3 c4 c5 c6 c7 c8 c9 c10 c11
  have hC := hC5
  refine region_last (wC w s j m g o l h) 17 rfl (by kernel_rfl) (by kernel_rfl) (by kernel_rfl) ?_ ?_
  · obtain ⟨q0, q1, q2, q3, q4, q5, q6, q7, q8, q9, q10, q11⟩ := hC
    exact ⟨q0, q1, q2, q3, q4, q5, q6, q7, q8, q9, q10, q11.drew⟩
  apply Exists.intro
  refine ⟨fun hN => ?_, fun w9 h9 => ?_⟩
  · simp only [List.set_cons_succ, List.set_cons_zero, idle]
    have k0 : ∀ d : Kept (wC w s j m g o l h), d.w.cell? ⟨w.heap.size, 0, none⟩ = some (.int .i64 s) := fun d => d.h.1
    have k1 : ∀ d : Kept (wC w s j m g o l h), d.w.cell? ⟨w.heap.size, 1, none⟩ = some (.int .i64 j) := fun d => d.h.2.1
    have k2 : ∀ d : Kept (wC w s j m g o l h), d.w.cell? ⟨w.heap.size, 2, none⟩ = some (.int .i64 m) := fun d => d.h.2.2.1
    have k3 : ∀ d : Kept (wC w s j m g o l h), d.w.cell? ⟨w.heap.size, 3, none⟩ = some (.int .i64 g) := fun d => d.h.2.2.2.1
    have k4 : ∀ d : Kept (wC w s j m g o l h), d.w.cell? ⟨w.heap.size, 4, none⟩ = some (.int .i64 o) := fun d => d.h.2.2.2.2.1
    have k5 : ∀ d : Kept (wC w s j m g o l h), d.w.cell? ⟨w.heap.size + 1, 0, none⟩ = some (.int .i64 l) := fun d => d.h.2.2.2.2.2.1
    have k6 : ∀ d : Kept (wC w s j m g o l h), d.w.cell? ⟨w.heap.size + 1, 1, none⟩ = some (.int .i64 h) := fun d => d.h.2.2.2.2.2.2.1
    have k7 : ∀ d : Kept (wC w s j m g o l h), d.w.cell? ⟨w.heap.size + 1 + 1, 0, none⟩ = some (.int .i64 0) := fun d => d.h.2.2.2.2.2.2.2.1
    have k8 : ∀ d : Kept (wC w s j m g o l h), d.w.cell? ⟨w.heap.size + 1 + 1, 1, none⟩ = some (.int .i64 0) := fun d => d.h.2.2.2.2.2.2.2.2.1
    repeat (go_big_quiet_step (first | (go_at_call 63; exact call_kept _ wC_on (leastCome_c _ _ _ _ _ _ _ hs0 hs hj0 hj hc0 hc1)) | (go_at_call 64; exact call_kept _ wC_on (mostCome_c _ _ _ _ _ _ _ hs0 hs hj0 hj hc0 hc1)) | (go_at_call 62; exact call_kept _ wC_on (nearestM _ _ (by omega)))))
    exact wpQuiet_nil rfl
  have c0 : w9.cell? ⟨w.heap.size, 0, none⟩ = some (.int .i64 s) := h9.1
  have c1 : w9.cell? ⟨w.heap.size, 1, none⟩ = some (.int .i64 j) := h9.2.1
  have c2 : w9.cell? ⟨w.heap.size, 2, none⟩ = some (.int .i64 m) := h9.2.2.1
  have c3 : w9.cell? ⟨w.heap.size, 3, none⟩ = some (.int .i64 g) := h9.2.2.2.1
  have c4 : w9.cell? ⟨w.heap.size, 4, none⟩ = some (.int .i64 o) := h9.2.2.2.2.1
  have c5 : w9.cell? ⟨w.heap.size + 1, 0, none⟩ = some (.int .i64 l) := h9.2.2.2.2.2.1
  have c6 : w9.cell? ⟨w.heap.size + 1, 1, none⟩ = some (.int .i64 h) := h9.2.2.2.2.2.2.1
  have c7 : w9.cell? ⟨w.heap.size + 1 + 1, 0, none⟩ = some (.int .i64 0) := h9.2.2.2.2.2.2.2.1
  have c8 : w9.cell? ⟨w.heap.size + 1 + 1, 1, none⟩ = some (.int .i64 0) := h9.2.2.2.2.2.2.2.2.1
  have c9 : w9.frozen? ⟨w.heap.size + 1 + 1, 0, none⟩ = false := h9.2.2.2.2.2.2.2.2.2.1
  have c10 : w9.frozen? ⟨w.heap.size + 1 + 1, 1, none⟩ = false := h9.2.2.2.2.2.2.2.2.2.2.1
  have c11 : Below w.heap.size w w9 := h9.2.2.2.2.2.2.2.2.2.2.2
  go_simp
  go_wp2
  exact bodyPost_ret (v := .agg #[.int .i64 (min (l + lst s j c) 100000000), .int .i64 (min (h + mst s j c) 100000000)]) (by simp [results, Tryd.results23, go_sem, c7, c8]) rfl ⟨rfl, nbSet2 c11 (by omega)⟩

end Go.Proofs.YtmhppadblddjoaaDoor

namespace Go.Proofs.YtmhppadblddjoaaDoor
open Go.RowKit

set_option maxHeartbeats 400000 in
theorem boundOf_c (l h : Int) (w : World) :
    Calls Tryd.prog 108 #[.agg #[.int .i64 l, .int .i64 h]] w fun e w' => e = .returned (.agg #[.int .i64 l, .int .i64 h]) ∧ Below w.heap.size w w' := by
  go_enter Tryd.func108, Tryd.ntmps108
  go_wp2
  exact bodyPost_ret (v := .agg #[.int .i64 l, .int .i64 h]) (by simp [results, Tryd.results108, go_sem]) rfl ⟨rfl, nbAlloc (nbAlloc (Below.refl _ _) _) _⟩

set_option maxHeartbeats 400000 in
theorem shared_c (al ah bl bh : Int) (w : World) :
    Calls Tryd.prog 114 #[.agg #[.int .i64 al, .int .i64 ah], .agg #[.int .i64 bl, .int .i64 bh]] w fun e w' => e = .returned (.agg #[.int .i64 (max al bl), .int .i64 (min ah bh)]) ∧ Below w.heap.size w w' := by
  by_cases h1 : al < bl <;> by_cases h2 : bh < ah
  · rw [show max al bl = bl by omega, show min ah bh = bh by omega]
    go_enter Tryd.func114, Tryd.ntmps114
    go_wp2
    exact bodyPost_ret (v := .agg #[.int .i64 bl, .int .i64 bh]) (by simp [results, Tryd.results114, go_sem]) rfl ⟨rfl, nbAlloc (nbAlloc (nbAlloc (Below.refl _ _) _) _) _⟩
  · rw [show max al bl = bl by omega, show min ah bh = ah by omega]
    go_enter Tryd.func114, Tryd.ntmps114
    go_wp2
    exact bodyPost_ret (v := .agg #[.int .i64 bl, .int .i64 ah]) (by simp [results, Tryd.results114, go_sem]) rfl ⟨rfl, nbAlloc (nbAlloc (nbAlloc (Below.refl _ _) _) _) _⟩
  · rw [show max al bl = al by omega, show min ah bh = bh by omega]
    go_enter Tryd.func114, Tryd.ntmps114
    go_wp2
    exact bodyPost_ret (v := .agg #[.int .i64 al, .int .i64 bh]) (by simp [results, Tryd.results114, go_sem]) rfl ⟨rfl, nbAlloc (nbAlloc (nbAlloc (Below.refl _ _) _) _) _⟩
  · rw [show max al bl = al by omega, show min ah bh = ah by omega]
    go_enter Tryd.func114, Tryd.ntmps114
    go_wp2
    exact bodyPost_ret (v := .agg #[.int .i64 al, .int .i64 ah]) (by simp [results, Tryd.results114, go_sem]) rfl ⟨rfl, nbAlloc (nbAlloc (nbAlloc (Below.refl _ _) _) _) _⟩

def bC (w : World) (al ah bl bh : Int) : World → Prop := fun w' => w'.cell? ⟨w.heap.size, 0, none⟩ = some (.int .i64 al) ∧ w'.cell? ⟨w.heap.size, 1, none⟩ = some (.int .i64 ah) ∧ w'.cell? ⟨w.heap.size + 1, 0, none⟩ = some (.int .i64 bl) ∧ w'.cell? ⟨w.heap.size + 1, 1, none⟩ = some (.int .i64 bh) ∧ w'.cell? ⟨w.heap.size + 1 + 1, 0, none⟩ = some (.int .i64 0) ∧ w'.cell? ⟨w.heap.size + 1 + 1, 1, none⟩ = some (.int .i64 0) ∧ w'.frozen? ⟨w.heap.size + 1 + 1, 0, none⟩ = false ∧ w'.frozen? ⟨w.heap.size + 1 + 1, 1, none⟩ = false ∧ w'.frozen? ⟨w.heap.size, 0, none⟩ = false ∧ w'.frozen? ⟨w.heap.size, 1, none⟩ = false ∧ Below w.heap.size w w'
theorem bC_on {w : World} {al ah bl bh : Int} {w1 w2 : World} (hh : bC w al ah bl bh w1) (hb : Below w1.heap.size w1 w2) : bC w al ah bl bh w2 :=
  ⟨cellOn hb hh.1, cellOn hb hh.2.1, cellOn hb hh.2.2.1, cellOn hb hh.2.2.2.1, cellOn hb hh.2.2.2.2.1, cellOn hb hh.2.2.2.2.2.1, frozenOn hb hh.2.2.2.2.1 hh.2.2.2.2.2.2.1, frozenOn hb hh.2.2.2.2.2.1 hh.2.2.2.2.2.2.2.1, frozenOn hb hh.1 hh.2.2.2.2.2.2.2.2.1, frozenOn hb hh.2.1 hh.2.2.2.2.2.2.2.2.2.1, nbTrans hh.2.2.2.2.2.2.2.2.2.2 hb⟩

set_option maxHeartbeats 1000000 in
theorem implBoth_yes (al ah bl bh : Int) (w : World) (hm : mB al ah bl bh = true) :
    Calls Tryd.prog 107 #[.agg #[.int .i64 al, .int .i64 ah], .agg #[.int .i64 bl, .int .i64 bh]] w fun e w' => e = .returned (.agg #[.int .i64 (max al bl), .int .i64 (min ah bh)]) ∧ Below w.heap.size w w' := by
  go_enter Tryd.func107, Tryd.ntmps107
  go_wp2_with fail
  refine (implMeets_c _ _ _ _ _).mono ?_
  rintro e w1 ⟨rfl, hb1⟩
  have hC : bC w al ah bl bh w1 := ⟨cellOn hb1 (by go_simp), cellOn hb1 (by go_simp), cellOn hb1 (by go_simp), cellOn hb1 (by go_simp), cellOn hb1 (by go_simp), cellOn hb1 (by go_simp), frozenOn hb1 (v := .int .i64 0) (by go_simp) (by go_simp), frozenOn hb1 (v := .int .i64 0) (by go_simp) (by go_simp), frozenOn hb1 (v := .int .i64 al) (by go_simp) (by go_simp), frozenOn hb1 (v := .int .i64 ah) (by go_simp) (by go_simp), nbTrans (nbAlloc (nbAlloc (nbAlloc (Below.refl _ _) _) _) _) hb1⟩
  go_wp2_with fail
  refine region_last (bC w al ah bl bh) 6 rfl (by kernel_rfl) (by kernel_rfl) (by kernel_rfl) ?_ ?_
  · obtain ⟨q0, q1, q2, q3, q4, q5, q6, q7, q8, q9, q10⟩ := hC
    exact ⟨q0, q1, q2, q3, q4, q5, q6, q7, q8, q9, q10.drew⟩
  apply Exists.intro
  refine ⟨fun hN => ?_, fun w9 h9 => ?_⟩
  · simp only [List.set_cons_succ, List.set_cons_zero, idle]
    have k0 : ∀ d : Kept (bC w al ah bl bh), d.w.cell? ⟨w.heap.size, 0, none⟩ = some (.int .i64 al) := fun d => d.h.1
    have k1 : ∀ d : Kept (bC w al ah bl bh), d.w.cell? ⟨w.heap.size, 1, none⟩ = some (.int .i64 ah) := fun d => d.h.2.1
    have k2 : ∀ d : Kept (bC w al ah bl bh), d.w.cell? ⟨w.heap.size + 1, 0, none⟩ = some (.int .i64 bl) := fun d => d.h.2.2.1
    have k3 : ∀ d : Kept (bC w al ah bl bh), d.w.cell? ⟨w.heap.size + 1, 1, none⟩ = some (.int .i64 bh) := fun d => d.h.2.2.2.1
    have k4 : ∀ d : Kept (bC w al ah bl bh), d.w.cell? ⟨w.heap.size + 1 + 1, 0, none⟩ = some (.int .i64 0) := fun d => d.h.2.2.2.2.1
    have k5 : ∀ d : Kept (bC w al ah bl bh), d.w.cell? ⟨w.heap.size + 1 + 1, 1, none⟩ = some (.int .i64 0) := fun d => d.h.2.2.2.2.2.1
    repeat (go_big_quiet_step (first | (go_at_call 90; exact call_kept _ bC_on (intervalOf_c _ _ _)) | (go_at_call 114; exact call_kept _ bC_on (shared_c _ _ _ _ _)) | (go_at_call 108; exact call_kept _ bC_on (boundOf_c _ _ _))))
    exact wpQuiet_nil rfl
  have c0 : w9.cell? ⟨w.heap.size, 0, none⟩ = some (.int .i64 al) := h9.1
  have c1 : w9.cell? ⟨w.heap.size, 1, none⟩ = some (.int .i64 ah) := h9.2.1
  have c2 : w9.cell? ⟨w.heap.size + 1, 0, none⟩ = some (.int .i64 bl) := h9.2.2.1
  have c3 : w9.cell? ⟨w.heap.size + 1, 1, none⟩ = some (.int .i64 bh) := h9.2.2.2.1
  have c4 : w9.cell? ⟨w.heap.size + 1 + 1, 0, none⟩ = some (.int .i64 0) := h9.2.2.2.2.1
  have c5 : w9.cell? ⟨w.heap.size + 1 + 1, 1, none⟩ = some (.int .i64 0) := h9.2.2.2.2.2.1
  have c6 : w9.frozen? ⟨w.heap.size + 1 + 1, 0, none⟩ = false := h9.2.2.2.2.2.2.1
  have c7 : w9.frozen? ⟨w.heap.size + 1 + 1, 1, none⟩ = false := h9.2.2.2.2.2.2.2.1
  have c8 : w9.frozen? ⟨w.heap.size, 0, none⟩ = false := h9.2.2.2.2.2.2.2.2.1
  have c9 : w9.frozen? ⟨w.heap.size, 1, none⟩ = false := h9.2.2.2.2.2.2.2.2.2.1
  have c10 : Below w.heap.size w w9 := h9.2.2.2.2.2.2.2.2.2.2
  go_simp
  go_wp2
  exact bodyPost_ret (v := .agg #[.int .i64 (max al bl), .int .i64 (min ah bh)]) (by simp [results, Tryd.results107, go_sem, c4, c5]) rfl ⟨rfl, nbSet2 c10 (by omega)⟩

end Go.Proofs.YtmhppadblddjoaaDoor

