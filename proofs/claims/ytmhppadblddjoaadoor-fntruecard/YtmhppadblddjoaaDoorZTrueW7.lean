import Derived.Test.YtmhppadblddjoaaDoorZTrueW4
namespace Go.Proofs.YtmhppadblddjoaaDoor
open Go.RowKit

theorem cellNew {w : World} {b o : Nat} {v : Value} (h : w.cell? ⟨b, o, none⟩ = some v) (ob : Obj) : (w.alloc ob).cell? ⟨b, o, none⟩ = some v := by
  rw [World.cell?_of_block (w := w) (Below.heap_alloc w ob b (ltCell h))]; exact h
theorem frozenNew {w : World} {b o : Nat} {v : Value} (h : w.cell? ⟨b, o, none⟩ = some v) (hf : w.frozen? ⟨b, o, none⟩ = false) (ob : Obj) : (w.alloc ob).frozen? ⟨b, o, none⟩ = false := by
  rw [World.frozen?_of_block (w := w) (Below.heap_alloc w ob b (ltCell h))]; exact hf

set_option maxHeartbeats 400000 in
theorem hull_c (al ah bl bh : Int) (w : World) :
    Calls Tryd.prog 109 #[.agg #[.int .i64 al, .int .i64 ah], .agg #[.int .i64 bl, .int .i64 bh]] w fun e w' => e = .returned (.agg #[.int .i64 (min al bl), .int .i64 (max ah bh)]) ∧ Below w.heap.size w w' := by
  by_cases h1 : bl < al <;> by_cases h2 : ah < bh
  · rw [show min al bl = bl by omega, show max ah bh = bh by omega]
    go_enter Tryd.func109, Tryd.ntmps109
    go_wp2
    exact bodyPost_ret (v := .agg #[.int .i64 bl, .int .i64 bh]) (by simp [results, Tryd.results109, go_sem]) rfl ⟨rfl, nbAlloc (nbAlloc (nbAlloc (Below.refl _ _) _) _) _⟩
  · rw [show min al bl = bl by omega, show max ah bh = ah by omega]
    go_enter Tryd.func109, Tryd.ntmps109
    go_wp2
    exact bodyPost_ret (v := .agg #[.int .i64 bl, .int .i64 ah]) (by simp [results, Tryd.results109, go_sem]) rfl ⟨rfl, nbAlloc (nbAlloc (nbAlloc (Below.refl _ _) _) _) _⟩
  · rw [show min al bl = al by omega, show max ah bh = bh by omega]
    go_enter Tryd.func109, Tryd.ntmps109
    go_wp2
    exact bodyPost_ret (v := .agg #[.int .i64 al, .int .i64 bh]) (by simp [results, Tryd.results109, go_sem]) rfl ⟨rfl, nbAlloc (nbAlloc (nbAlloc (Below.refl _ _) _) _) _⟩
  · rw [show min al bl = al by omega, show max ah bh = ah by omega]
    go_enter Tryd.func109, Tryd.ntmps109
    go_wp2
    exact bodyPost_ret (v := .agg #[.int .i64 al, .int .i64 ah]) (by simp [results, Tryd.results109, go_sem]) rfl ⟨rfl, nbAlloc (nbAlloc (nbAlloc (Below.refl _ _) _) _) _⟩

def rdC (w : World) (s j m g o l h : Int) : World → Prop := fun w' => w'.cell? ⟨w.heap.size, 0, none⟩ = some (.int .i64 s) ∧ w'.cell? ⟨w.heap.size, 1, none⟩ = some (.int .i64 j) ∧ w'.cell? ⟨w.heap.size, 2, none⟩ = some (.int .i64 m) ∧ w'.cell? ⟨w.heap.size, 3, none⟩ = some (.int .i64 g) ∧ w'.cell? ⟨w.heap.size, 4, none⟩ = some (.int .i64 o) ∧ w'.cell? ⟨w.heap.size + 1, 0, none⟩ = some (.int .i64 l) ∧ w'.cell? ⟨w.heap.size + 1, 1, none⟩ = some (.int .i64 h) ∧ w'.cell? ⟨w.heap.size + 1 + 1, 0, none⟩ = some (.int .i64 0) ∧ w'.cell? ⟨w.heap.size + 1 + 1, 1, none⟩ = some (.int .i64 0) ∧ w'.frozen? ⟨w.heap.size + 1 + 1, 0, none⟩ = false ∧ w'.frozen? ⟨w.heap.size + 1 + 1, 1, none⟩ = false ∧ w'.frozen? ⟨w.heap.size + 1, 0, none⟩ = false ∧ w'.frozen? ⟨w.heap.size + 1, 1, none⟩ = false ∧ Below w.heap.size w w'
theorem rdC_on {w : World} {s j m g o l h : Int} {w1 w2 : World} (hh : rdC w s j m g o l h w1) (hb : Below w1.heap.size w1 w2) : rdC w s j m g o l h w2 :=
  ⟨cellOn hb hh.1, cellOn hb hh.2.1, cellOn hb hh.2.2.1, cellOn hb hh.2.2.2.1, cellOn hb hh.2.2.2.2.1, cellOn hb hh.2.2.2.2.2.1, cellOn hb hh.2.2.2.2.2.2.1, cellOn hb hh.2.2.2.2.2.2.2.1, cellOn hb hh.2.2.2.2.2.2.2.2.1, frozenOn hb hh.2.2.2.2.2.2.2.1 hh.2.2.2.2.2.2.2.2.2.1, frozenOn hb hh.2.2.2.2.2.2.2.2.1 hh.2.2.2.2.2.2.2.2.2.2.1, frozenOn hb hh.2.2.2.2.2.1 hh.2.2.2.2.2.2.2.2.2.2.2.1, frozenOn hb hh.2.2.2.2.2.2.1 hh.2.2.2.2.2.2.2.2.2.2.2.2.1, nbTrans hh.2.2.2.2.2.2.2.2.2.2.2.2.2 hb⟩

def rdC2 (w : World) (s j m g o l h x y : Int) (p : Nat) : World → Prop := fun w' => w'.cell? ⟨w.heap.size, 0, none⟩ = some (.int .i64 s) ∧ w'.cell? ⟨w.heap.size, 1, none⟩ = some (.int .i64 j) ∧ w'.cell? ⟨w.heap.size, 2, none⟩ = some (.int .i64 m) ∧ w'.cell? ⟨w.heap.size, 3, none⟩ = some (.int .i64 g) ∧ w'.cell? ⟨w.heap.size, 4, none⟩ = some (.int .i64 o) ∧ w'.cell? ⟨w.heap.size + 1, 0, none⟩ = some (.int .i64 l) ∧ w'.cell? ⟨w.heap.size + 1, 1, none⟩ = some (.int .i64 h) ∧ w'.cell? ⟨w.heap.size + 1 + 1, 0, none⟩ = some (.int .i64 0) ∧ w'.cell? ⟨w.heap.size + 1 + 1, 1, none⟩ = some (.int .i64 0) ∧ w'.frozen? ⟨w.heap.size + 1 + 1, 0, none⟩ = false ∧ w'.frozen? ⟨w.heap.size + 1 + 1, 1, none⟩ = false ∧ w'.frozen? ⟨w.heap.size + 1, 0, none⟩ = false ∧ w'.frozen? ⟨w.heap.size + 1, 1, none⟩ = false ∧ w'.cell? ⟨p, 0, none⟩ = some (.int .i64 x) ∧ w'.cell? ⟨p, 1, none⟩ = some (.int .i64 y) ∧ Below w.heap.size w w'
theorem rdC2_on {w : World} {s j m g o l h x y : Int} {p : Nat} {w1 w2 : World} (hh : rdC2 w s j m g o l h x y p w1) (hb : Below w1.heap.size w1 w2) : rdC2 w s j m g o l h x y p w2 :=
  ⟨cellOn hb hh.1, cellOn hb hh.2.1, cellOn hb hh.2.2.1, cellOn hb hh.2.2.2.1, cellOn hb hh.2.2.2.2.1, cellOn hb hh.2.2.2.2.2.1, cellOn hb hh.2.2.2.2.2.2.1, cellOn hb hh.2.2.2.2.2.2.2.1, cellOn hb hh.2.2.2.2.2.2.2.2.1, frozenOn hb hh.2.2.2.2.2.2.2.1 hh.2.2.2.2.2.2.2.2.2.1, frozenOn hb hh.2.2.2.2.2.2.2.2.1 hh.2.2.2.2.2.2.2.2.2.2.1, frozenOn hb hh.2.2.2.2.2.1 hh.2.2.2.2.2.2.2.2.2.2.2.1, frozenOn hb hh.2.2.2.2.2.2.1 hh.2.2.2.2.2.2.2.2.2.2.2.2.1, cellOn hb hh.2.2.2.2.2.2.2.2.2.2.2.2.2.1, cellOn hb hh.2.2.2.2.2.2.2.2.2.2.2.2.2.2.1, nbTrans hh.2.2.2.2.2.2.2.2.2.2.2.2.2.2.2 hb⟩

def bmC (w : World) (s j m g o : Int) : World → Prop := fun w' => w'.cell? ⟨w.heap.size, 0, none⟩ = some (.int .i64 s) ∧ w'.cell? ⟨w.heap.size, 1, none⟩ = some (.int .i64 j) ∧ w'.cell? ⟨w.heap.size, 2, none⟩ = some (.int .i64 m) ∧ w'.cell? ⟨w.heap.size, 3, none⟩ = some (.int .i64 g) ∧ w'.cell? ⟨w.heap.size, 4, none⟩ = some (.int .i64 o) ∧ w'.cell? ⟨w.heap.size + 1, 0, none⟩ = some (.int .i64 0) ∧ w'.cell? ⟨w.heap.size + 1, 1, none⟩ = some (.int .i64 0) ∧ w'.frozen? ⟨w.heap.size + 1, 0, none⟩ = false ∧ w'.frozen? ⟨w.heap.size + 1, 1, none⟩ = false ∧ Below w.heap.size w w'
theorem bmC_on {w : World} {s j m g o : Int} {w1 w2 : World} (hh : bmC w s j m g o w1) (hb : Below w1.heap.size w1 w2) : bmC w s j m g o w2 :=
  ⟨cellOn hb hh.1, cellOn hb hh.2.1, cellOn hb hh.2.2.1, cellOn hb hh.2.2.2.1, cellOn hb hh.2.2.2.2.1, cellOn hb hh.2.2.2.2.2.1, cellOn hb hh.2.2.2.2.2.2.1, frozenOn hb hh.2.2.2.2.2.1 hh.2.2.2.2.2.2.2.1, frozenOn hb hh.2.2.2.2.2.2.1 hh.2.2.2.2.2.2.2.2.1, nbTrans hh.2.2.2.2.2.2.2.2.2 hb⟩

set_option maxHeartbeats 1000000 in
theorem boundOfMark_c (s j m g o c : Int) (w : World) (hm0 : 0 ≤ m) (hm1 : m ≤ 10000) (hc0 : 0 ≤ c) (hc1 : c ≤ 100000000) :
    Calls Tryd.prog 91 #[.agg #[.int .i64 s, .int .i64 j, .int .i64 m, .int .i64 g, .int .i64 o], .int .i64 c] w fun e w' => e = .returned (.agg #[.int .i64 (min (c - m) 100000000), .int .i64 (min (c + m) 100000000)]) ∧ Below w.heap.size w w' := by
  have hmf : ∀ (fn : Fn) (first cap : Array Value) (w : World), (Instr.makeFunc fn first cap).run Tryd.prog w = .ok (.func fn first cap) w := fun _ _ _ _ => rfl
  have wr1 : IntKind.i64.wrap (c - m) = c - m := wrapS (by omega) (by omega)
  have wr2 : IntKind.i64.wrap (c + m) = c + m := wrapS (by omega) (by omega)
  go_enter Tryd.func91, Tryd.ntmps91
  go_wp2_with fail
  refine (wholeWay_c _).mono ?_
  rintro e w1 ⟨rfl, hb1⟩
  have hC : bmC w s j m g o w1 := ⟨cellOn hb1 (by go_simp), cellOn hb1 (by go_simp), cellOn hb1 (by go_simp), cellOn hb1 (by go_simp), cellOn hb1 (by go_simp), cellOn hb1 (by go_simp), cellOn hb1 (by go_simp), frozenOn hb1 (v := .int .i64 0) (by go_simp) (by go_simp), frozenOn hb1 (v := .int .i64 0) (by go_simp) (by go_simp), nbTrans (nbAlloc (nbAlloc (Below.refl _ _) _) _) hb1⟩
  have c0 : w1.cell? ⟨w.heap.size, 0, none⟩ = some (.int .i64 s) := hC.1
  have c1 : w1.cell? ⟨w.heap.size, 1, none⟩ = some (.int .i64 j) := hC.2.1
  have c2 : w1.cell? ⟨w.heap.size, 2, none⟩ = some (.int .i64 m) := hC.2.2.1
  have c3 : w1.cell? ⟨w.heap.size, 3, none⟩ = some (.int .i64 g) := hC.2.2.2.1
  have c4 : w1.cell? ⟨w.heap.size, 4, none⟩ = some (.int .i64 o) := hC.2.2.2.2.1
  have c5 : w1.cell? ⟨w.heap.size + 1, 0, none⟩ = some (.int .i64 0) := hC.2.2.2.2.2.1
  have c6 : w1.cell? ⟨w.heap.size + 1, 1, none⟩ = some (.int .i64 0) := hC.2.2.2.2.2.2.1
  have c7 : w1.frozen? ⟨w.heap.size + 1, 0, none⟩ = false := hC.2.2.2.2.2.2.2.1
  have c8 : w1.frozen? ⟨w.heap.size + 1, 1, none⟩ = false := hC.2.2.2.2.2.2.2.2.1
  have c9 : Below w.heap.size w w1 := hC.2.2.2.2.2.2.2.2.2
  go_wp2_with fail
  clear c0 c1 c2 c3 c4 c5 c6 c7 c8 c9
  refine region_last (bmC w s j m g o) 13 rfl (by kernel_rfl) (by kernel_rfl) (by kernel_rfl) ?_ ?_
  · obtain ⟨q0, q1, q2, q3, q4, q5, q6, q7, q8, q9⟩ := hC
    exact ⟨q0, q1, q2, q3, q4, q5, q6, q7, q8, q9.drew⟩
  apply Exists.intro
  refine ⟨fun hN => ?_, fun w9 h9 => ?_⟩
  · simp only [List.set_cons_succ, List.set_cons_zero, idle]
    have k0 : ∀ d : Kept (bmC w s j m g o), d.w.cell? ⟨w.heap.size, 0, none⟩ = some (.int .i64 s) := fun d => d.h.1
    have k1 : ∀ d : Kept (bmC w s j m g o), d.w.cell? ⟨w.heap.size, 1, none⟩ = some (.int .i64 j) := fun d => d.h.2.1
    have k2 : ∀ d : Kept (bmC w s j m g o), d.w.cell? ⟨w.heap.size, 2, none⟩ = some (.int .i64 m) := fun d => d.h.2.2.1
    have k3 : ∀ d : Kept (bmC w s j m g o), d.w.cell? ⟨w.heap.size, 3, none⟩ = some (.int .i64 g) := fun d => d.h.2.2.2.1
    have k4 : ∀ d : Kept (bmC w s j m g o), d.w.cell? ⟨w.heap.size, 4, none⟩ = some (.int .i64 o) := fun d => d.h.2.2.2.2.1
    have k5 : ∀ d : Kept (bmC w s j m g o), d.w.cell? ⟨w.heap.size + 1, 0, none⟩ = some (.int .i64 0) := fun d => d.h.2.2.2.2.2.1
    have k6 : ∀ d : Kept (bmC w s j m g o), d.w.cell? ⟨w.heap.size + 1, 1, none⟩ = some (.int .i64 0) := fun d => d.h.2.2.2.2.2.2.1
    repeat (go_big_quiet_step (first | (go_at_call 62; exact call_kept _ bmC_on (nearestM _ _ (by omega)))))
    exact wpQuiet_nil rfl
  have c0 : w9.cell? ⟨w.heap.size, 0, none⟩ = some (.int .i64 s) := h9.1
  have c1 : w9.cell? ⟨w.heap.size, 1, none⟩ = some (.int .i64 j) := h9.2.1
  have c2 : w9.cell? ⟨w.heap.size, 2, none⟩ = some (.int .i64 m) := h9.2.2.1
  have c3 : w9.cell? ⟨w.heap.size, 3, none⟩ = some (.int .i64 g) := h9.2.2.2.1
  have c4 : w9.cell? ⟨w.heap.size, 4, none⟩ = some (.int .i64 o) := h9.2.2.2.2.1
  have c5 : w9.cell? ⟨w.heap.size + 1, 0, none⟩ = some (.int .i64 0) := h9.2.2.2.2.2.1
  have c6 : w9.cell? ⟨w.heap.size + 1, 1, none⟩ = some (.int .i64 0) := h9.2.2.2.2.2.2.1
  have c7 : w9.frozen? ⟨w.heap.size + 1, 0, none⟩ = false := h9.2.2.2.2.2.2.2.1
  have c8 : w9.frozen? ⟨w.heap.size + 1, 1, none⟩ = false := h9.2.2.2.2.2.2.2.2.1
  have c9 : Below w.heap.size w w9 := h9.2.2.2.2.2.2.2.2.2
  go_simp
  go_wp2
  exact bodyPost_ret (v := .agg #[.int .i64 (min (c - m) 100000000), .int .i64 (min (c + m) 100000000)]) (by simp [results, Tryd.results91, go_sem, c5, c6]) rfl ⟨rfl, nbSet2 c9 (by omega)⟩

set_option maxHeartbeats 1000000 in
theorem implRead_yes (s j m g o l h c x y : Int) (w : World) (hr : rOk s j m g o = true) (hbk : bOk l h = true) (hc : inB c 0 100000000 = true) (hx : Hid (x = (min (c - m) 100000000))) (hy : Hid (y = (min (c + m) 100000000))) (hmt : mB l h x y = true) :
    Calls Tryd.prog 98 #[.agg #[.int .i64 s, .int .i64 j, .int .i64 m, .int .i64 g, .int .i64 o], .agg #[.int .i64 l, .int .i64 h], .int .i64 c] w fun e w' => e = .returned (.agg #[.int .i64 (max l x), .int .i64 (min h y)]) ∧ Below w.heap.size w w' := by
  have hb' := hbk
  have hc' := hc
  have hr' := hr
  simp only [rOk, inB, bOk, Bool.and_eq_true, decide_eq_true_eq] at hb' hc' hr'
  obtain ⟨⟨hl0, hlh⟩, hh0⟩ := hb'
  obtain ⟨hc0, hc1⟩ := hc'
  obtain ⟨⟨⟨⟨⟨hs0, hs⟩, hj0, hj⟩, hm0, hm1⟩, -⟩, -⟩ := hr'
  go_enter Tryd.func98, Tryd.ntmps98
  go_wp2_with fail
  refine (implRulesOk_c _ _ _ _ _ _).mono ?_
  rintro e w1 ⟨rfl, hb1⟩
  have hC1 : rdC w s j m g o l h w1 := ⟨cellOn hb1 (by go_simp), cellOn hb1 (by go_simp), cellOn hb1 (by go_simp), cellOn hb1 (by go_simp), cellOn hb1 (by go_simp), cellOn hb1 (by go_simp), cellOn hb1 (by go_simp), cellOn hb1 (by go_simp), cellOn hb1 (by go_simp), frozenOn hb1 (v := .int .i64 0) (by go_simp) (by go_simp), frozenOn hb1 (v := .int .i64 0) (by go_simp) (by go_simp), frozenOn hb1 (v := .int .i64 l) (by go_simp) (by go_simp), frozenOn hb1 (v := .int .i64 h) (by go_simp) (by go_simp), nbTrans (nbAlloc (nbAlloc (nbAlloc (Below.refl _ _) _) _) _) hb1⟩
  have c0 : w1.cell? ⟨w.heap.size, 0, none⟩ = some (.int .i64 s) := hC1.1
  have c1 : w1.cell? ⟨w.heap.size, 1, none⟩ = some (.int .i64 j) := hC1.2.1
  have c2 : w1.cell? ⟨w.heap.size, 2, none⟩ = some (.int .i64 m) := hC1.2.2.1
  have c3 : w1.cell? ⟨w.heap.size, 3, none⟩ = some (.int .i64 g) := hC1.2.2.2.1
  have c4 : w1.cell? ⟨w.heap.size, 4, none⟩ = some (.int .i64 o) := hC1.2.2.2.2.1
  have c5 : w1.cell? ⟨w.heap.size + 1, 0, none⟩ = some (.int .i64 l) := hC1.2.2.2.2.2.1
  have c6 : w1.cell? ⟨w.heap.size + 1, 1, none⟩ = some (.int .i64 h) := hC1.2.2.2.2.2.2.1
  have c7 : w1.cell? ⟨w.heap.size + 1 + 1, 0, none⟩ = some (.int .i64 0) := hC1.2.2.2.2.2.2.2.1
  have c8 : w1.cell? ⟨w.heap.size + 1 + 1, 1, none⟩ = some (.int .i64 0) := hC1.2.2.2.2.2.2.2.2.1
  have c9 : w1.frozen? ⟨w.heap.size + 1 + 1, 0, none⟩ = false := hC1.2.2.2.2.2.2.2.2.2.1
  have c10 : w1.frozen? ⟨w.heap.size + 1 + 1, 1, none⟩ = false := hC1.2.2.2.2.2.2.2.2.2.2.1
  have c11 : w1.frozen? ⟨w.heap.size + 1, 0, none⟩ = false := hC1.2.2.2.2.2.2.2.2.2.2.2.1
  have c12 : w1.frozen? ⟨w.heap.size + 1, 1, none⟩ = false := hC1.2.2.2.2.2.2.2.2.2.2.2.2.1
  have c13 : Below w.heap.size w w1 := hC1.2.2.2.2.2.2.2.2.2.2.2.2.2
  go_wp2_with fail
  clear c0 c1 c2 c3 c4 c5 c6 c7 c8 c9 c10 c11 c12 c13
  refine (implBoundOk_c _ _ _).mono ?_
  rintro e w2 ⟨rfl, hb2⟩
  have hC2 := rdC_on hC1 hb2
  have c0 : w2.cell? ⟨w.heap.size, 0, none⟩ = some (.int .i64 s) := hC2.1
  have c1 : w2.cell? ⟨w.heap.size, 1, none⟩ = some (.int .i64 j) := hC2.2.1
  have c2 : w2.cell? ⟨w.heap.size, 2, none⟩ = some (.int .i64 m) := hC2.2.2.1
  have c3 : w2.cell? ⟨w.heap.size, 3, none⟩ = some (.int .i64 g) := hC2.2.2.2.1
  have c4 : w2.cell? ⟨w.heap.size, 4, none⟩ = some (.int .i64 o) := hC2.2.2.2.2.1
  have c5 : w2.cell? ⟨w.heap.size + 1, 0, none⟩ = some (.int .i64 l) := hC2.2.2.2.2.2.1
  have c6 : w2.cell? ⟨w.heap.size + 1, 1, none⟩ = some (.int .i64 h) := hC2.2.2.2.2.2.2.1
  have c7 : w2.cell? ⟨w.heap.size + 1 + 1, 0, none⟩ = some (.int .i64 0) := hC2.2.2.2.2.2.2.2.1
  have c8 : w2.cell? ⟨w.heap.size + 1 + 1, 1, none⟩ = some (.int .i64 0) := hC2.2.2.2.2.2.2.2.2.1
  have c9 : w2.frozen? ⟨w.heap.size + 1 + 1, 0, none⟩ = false := hC2.2.2.2.2.2.2.2.2.2.1
  have c10 : w2.frozen? ⟨w.heap.size + 1 + 1, 1, none⟩ = false := hC2.2.2.2.2.2.2.2.2.2.2.1
  have c11 : w2.frozen? ⟨w.heap.size + 1, 0, none⟩ = false := hC2.2.2.2.2.2.2.2.2.2.2.2.1
  have c12 : w2.frozen? ⟨w.heap.size + 1, 1, none⟩ = false := hC2.2.2.2.2.2.2.2.2.2.2.2.2.1
  have c13 : Below w.heap.size w w2 := hC2.2.2.2.2.2.2.2.2.2.2.2.2.2
  go_wp2_with fail
  clear c0 c1 c2 c3 c4 c5 c6 c7 c8 c9 c10 c11 c12 c13
  refine (upTo_c _ _).mono ?_
  rintro e w3 ⟨rfl, hb3⟩
  have hC3 := rdC_on hC2 hb3
  have c0 : w3.cell? ⟨w.heap.size, 0, none⟩ = some (.int .i64 s) := hC3.1
  have c1 : w3.cell? ⟨w.heap.size, 1, none⟩ = some (.int .i64 j) := hC3.2.1
  have c2 : w3.cell? ⟨w.heap.size, 2, none⟩ = some (.int .i64 m) := hC3.2.2.1
  have c3 : w3.cell? ⟨w.heap.size, 3, none⟩ = some (.int .i64 g) := hC3.2.2.2.1
  have c4 : w3.cell? ⟨w.heap.size, 4, none⟩ = some (.int .i64 o) := hC3.2.2.2.2.1
  have c5 : w3.cell? ⟨w.heap.size + 1, 0, none⟩ = some (.int .i64 l) := hC3.2.2.2.2.2.1
  have c6 : w3.cell? ⟨w.heap.size + 1, 1, none⟩ = some (.int .i64 h) := hC3.2.2.2.2.2.2.1
  have c7 : w3.cell? ⟨w.heap.size + 1 + 1, 0, none⟩ = some (.int .i64 0) := hC3.2.2.2.2.2.2.2.1
  have c8 : w3.cell? ⟨w.heap.size + 1 + 1, 1, none⟩ = some (.int .i64 0) := hC3.2.2.2.2.2.2.2.2.1
  have c9 : w3.frozen? ⟨w.heap.size + 1 + 1, 0, none⟩ = false := hC3.2.2.2.2.2.2.2.2.2.1
  have c10 : w3.frozen? ⟨w.heap.size + 1 + 1, 1, none⟩ = false := hC3.2.2.2.2.2.2.2.2.2.2.1
  have c11 : w3.frozen? ⟨w.heap.size + 1, 0, none⟩ = false := hC3.2.2.2.2.2.2.2.2.2.2.2.1
  have c12 : w3.frozen? ⟨w.heap.size + 1, 1, none⟩ = false := hC3.2.2.2.2.2.2.2.2.2.2.2.2.1
  have c13 : Below w.heap.size w w3 := hC3.2.2.2.2.2.2.2.2.2.2.2.2.2
  go_wp2_with fail
  clear c0 c1 c2 c3 c4 c5 c6 c7 c8 c9 c10 c11 c12 c13
  refine (has_c _ _ _ _).mono ?_
  rintro e w4 ⟨rfl, hb4⟩
  have hC4 := rdC_on hC3 hb4
  have c0 : w4.cell? ⟨w.heap.size, 0, none⟩ = some (.int .i64 s) := hC4.1
  have c1 : w4.cell? ⟨w.heap.size, 1, none⟩ = some (.int .i64 j) := hC4.2.1
  have c2 : w4.cell? ⟨w.heap.size, 2, none⟩ = some (.int .i64 m) := hC4.2.2.1
  have c3 : w4.cell? ⟨w.heap.size, 3, none⟩ = some (.int .i64 g) := hC4.2.2.2.1
  have c4 : w4.cell? ⟨w.heap.size, 4, none⟩ = some (.int .i64 o) := hC4.2.2.2.2.1
  have c5 : w4.cell? ⟨w.heap.size + 1, 0, none⟩ = some (.int .i64 l) := hC4.2.2.2.2.2.1
  have c6 : w4.cell? ⟨w.heap.size + 1, 1, none⟩ = some (.int .i64 h) := hC4.2.2.2.2.2.2.1
  have c7 : w4.cell? ⟨w.heap.size + 1 + 1, 0, none⟩ = some (.int .i64 0) := hC4.2.2.2.2.2.2.2.1
  have c8 : w4.cell? ⟨w.heap.size + 1 + 1, 1, none⟩ = some (.int .i64 0) := hC4.2.2.2.2.2.2.2.2.1
  have c9 : w4.frozen? ⟨w.heap.size + 1 + 1, 0, none⟩ = false := hC4.2.2.2.2.2.2.2.2.2.1
  have c10 : w4.frozen? ⟨w.heap.size + 1 + 1, 1, none⟩ = false := hC4.2.2.2.2.2.2.2.2.2.2.1
  have c11 : w4.frozen? ⟨w.heap.size + 1, 0, none⟩ = false := hC4.2.2.2.2.2.2.2.2.2.2.2.1
  have c12 : w4.frozen? ⟨w.heap.size + 1, 1, none⟩ = false := hC4.2.2.2.2.2.2.2.2.2.2.2.2.1
  have c13 : Below w.heap.size w w4 := hC4.2.2.2.2.2.2.2.2.2.2.2.2.2
  go_wp2_with fail
  clear c0 c1 c2 c3 c4 c5 c6 c7 c8 c9 c10 c11 c12 c13
  refine (boundOfMark_c _ _ _ _ _ _ _ hm0 hm1 hc0 hc1).mono ?_
  rintro e w5 ⟨rfl, hb5⟩
  have hC5 := rdC_on hC4 hb5
  rw [← hx.out, ← hy.out]
  have c0 : w5.cell? ⟨w.heap.size, 0, none⟩ = some (.int .i64 s) := hC5.1
  have c1 : w5.cell? ⟨w.heap.size, 1, none⟩ = some (.int .i64 j) := hC5.2.1
  have c2 : w5.cell? ⟨w.heap.size, 2, none⟩ = some (.int .i64 m) := hC5.2.2.1
  have c3 : w5.cell? ⟨w.heap.size, 3, none⟩ = some (.int .i64 g) := hC5.2.2.2.1
  have c4 : w5.cell? ⟨w.heap.size, 4, none⟩ = some (.int .i64 o) := hC5.2.2.2.2.1
  have c5 : w5.cell? ⟨w.heap.size + 1, 0, none⟩ = some (.int .i64 l) := hC5.2.2.2.2.2.1
  have c6 : w5.cell? ⟨w.heap.size + 1, 1, none⟩ = some (.int .i64 h) := hC5.2.2.2.2.2.2.1
  have c7 : w5.cell? ⟨w.heap.size + 1 + 1, 0, none⟩ = some (.int .i64 0) := hC5.2.2.2.2.2.2.2.1
  have c8 : w5.cell? ⟨w.heap.size + 1 + 1, 1, none⟩ = some (.int .i64 0) := hC5.2.2.2.2.2.2.2.2.1
  have c9 : w5.frozen? ⟨w.heap.size + 1 + 1, 0, none⟩ = false := hC5.2.2.2.2.2.2.2.2.2.1
  have c10 : w5.frozen? ⟨w.heap.size + 1 + 1, 1, none⟩ = false := hC5.2.2.2.2.2.2.2.2.2.2.1
  have c11 : w5.frozen? ⟨w.heap.size + 1, 0, none⟩ = false := hC5.2.2.2.2.2.2.2.2.2.2.2.1
  have c12 : w5.frozen? ⟨w.heap.size + 1, 1, none⟩ = false := hC5.2.2.2.2.2.2.2.2.2.2.2.2.1
  have c13 : Below w.heap.size w w5 := hC5.2.2.2.2.2.2.2.2.2.2.2.2.2
  have d5 := cellNew c5
  have d6 := cellNew c6
  go_wp2_with fail
  have hC6 : rdC2 w s j m g o l h x y w5.heap.size (w5.alloc (.cells #[.int .i64 x, .int .i64 y] 27)) := ⟨cellNew hC5.1 _, cellNew hC5.2.1 _, cellNew hC5.2.2.1 _, cellNew hC5.2.2.2.1 _, cellNew hC5.2.2.2.2.1 _, cellNew hC5.2.2.2.2.2.1 _, cellNew hC5.2.2.2.2.2.2.1 _, cellNew hC5.2.2.2.2.2.2.2.1 _, cellNew hC5.2.2.2.2.2.2.2.2.1 _, frozenNew hC5.2.2.2.2.2.2.2.1 hC5.2.2.2.2.2.2.2.2.2.1 _, frozenNew hC5.2.2.2.2.2.2.2.2.1 hC5.2.2.2.2.2.2.2.2.2.2.1 _, frozenNew hC5.2.2.2.2.2.1 hC5.2.2.2.2.2.2.2.2.2.2.2.1 _, frozenNew hC5.2.2.2.2.2.2.1 hC5.2.2.2.2.2.2.2.2.2.2.2.2.1 _, by go_simp, by go_simp, nbAlloc hC5.2.2.2.2.2.2.2.2.2.2.2.2.2 _⟩
  clear d5 d6 c0 c1 c2 c3 c4 c5 c6 c7 c8 c9 c10 c11 c12 c13
  refine (implMeets_c _ _ _ _ _).mono ?_
  rintro e w7 ⟨rfl, hb7⟩
  have hC7 := rdC2_on hC6 hb7
  have hpw := ltCell hC5.2.2.2.2.2.2.2.1
  generalize w5.heap.size = p at *
  have c0 : w7.cell? ⟨w.heap.size, 0, none⟩ = some (.int .i64 s) := hC7.1
  have c1 : w7.cell? ⟨w.heap.size, 1, none⟩ = some (.int .i64 j) := hC7.2.1
  have c2 : w7.cell? ⟨w.heap.size, 2, none⟩ = some (.int .i64 m) := hC7.2.2.1
  have c3 : w7.cell? ⟨w.heap.size, 3, none⟩ = some (.int .i64 g) := hC7.2.2.2.1
  have c4 : w7.cell? ⟨w.heap.size, 4, none⟩ = some (.int .i64 o) := hC7.2.2.2.2.1
  have c5 : w7.cell? ⟨w.heap.size + 1, 0, none⟩ = some (.int .i64 l) := hC7.2.2.2.2.2.1
  have c6 : w7.cell? ⟨w.heap.size + 1, 1, none⟩ = some (.int .i64 h) := hC7.2.2.2.2.2.2.1
  have c7 : w7.cell? ⟨w.heap.size + 1 + 1, 0, none⟩ = some (.int .i64 0) := hC7.2.2.2.2.2.2.2.1
  have c8 : w7.cell? ⟨w.heap.size + 1 + 1, 1, none⟩ = some (.int .i64 0) := hC7.2.2.2.2.2.2.2.2.1
  have c9 : w7.frozen? ⟨w.heap.size + 1 + 1, 0, none⟩ = false := hC7.2.2.2.2.2.2.2.2.2.1
  have c10 : w7.frozen? ⟨w.heap.size + 1 + 1, 1, none⟩ = false := hC7.2.2.2.2.2.2.2.2.2.2.1
  have c11 : w7.frozen? ⟨w.heap.size + 1, 0, none⟩ = false := hC7.2.2.2.2.2.2.2.2.2.2.2.1
  have c12 : w7.frozen? ⟨w.heap.size + 1, 1, none⟩ = false := hC7.2.2.2.2.2.2.2.2.2.2.2.2.1
  have c13 : w7.cell? ⟨p, 0, none⟩ = some (.int .i64 x) := hC7.2.2.2.2.2.2.2.2.2.2.2.2.2.1
  have c14 : w7.cell? ⟨p, 1, none⟩ = some (.int .i64 y) := hC7.2.2.2.2.2.2.2.2.2.2.2.2.2.2.1
  have c15 : Below w.heap.size w w7 := hC7.2.2.2.2.2.2.2.2.2.2.2.2.2.2.2
  go_wp2_with fail
  clear c0 c1 c2 c3 c4 c5 c6 c7 c8 c9 c10 c11 c12 c13 c14 c15
  refine (implBoth_yes _ _ _ _ _ hmt).mono ?_
  rintro e w8 ⟨rfl, hb8⟩
  have hC8 := rdC2_on hC7 hb8
  have c0 : w8.cell? ⟨w.heap.size, 0, none⟩ = some (.int .i64 s) := hC8.1
  have c1 : w8.cell? ⟨w.heap.size, 1, none⟩ = some (.int .i64 j) := hC8.2.1
  have c2 : w8.cell? ⟨w.heap.size, 2, none⟩ = some (.int .i64 m) := hC8.2.2.1
  have c3 : w8.cell? ⟨w.heap.size, 3, none⟩ = some (.int .i64 g) := hC8.2.2.2.1
  have c4 : w8.cell? ⟨w.heap.size, 4, none⟩ = some (.int .i64 o) := hC8.2.2.2.2.1
  have c5 : w8.cell? ⟨w.heap.size + 1, 0, none⟩ = some (.int .i64 l) := hC8.2.2.2.2.2.1
  have c6 : w8.cell? ⟨w.heap.size + 1, 1, none⟩ = some (.int .i64 h) := hC8.2.2.2.2.2.2.1
  have c7 : w8.cell? ⟨w.heap.size + 1 + 1, 0, none⟩ = some (.int .i64 0) := hC8.2.2.2.2.2.2.2.1
  have c8 : w8.cell? ⟨w.heap.size + 1 + 1, 1, none⟩ = some (.int .i64 0) := hC8.2.2.2.2.2.2.2.2.1
  have c9 : w8.frozen? ⟨w.heap.size + 1 + 1, 0, none⟩ = false := hC8.2.2.2.2.2.2.2.2.2.1
  have c10 : w8.frozen? ⟨w.heap.size + 1 + 1, 1, none⟩ = false := hC8.2.2.2.2.2.2.2.2.2.2.1
  have c11 : w8.frozen? ⟨w.heap.size + 1, 0, none⟩ = false := hC8.2.2.2.2.2.2.2.2.2.2.2.1
  have c12 : w8.frozen? ⟨w.heap.size + 1, 1, none⟩ = false := hC8.2.2.2.2.2.2.2.2.2.2.2.2.1
  have c13 : w8.cell? ⟨p, 0, none⟩ = some (.int .i64 x) := hC8.2.2.2.2.2.2.2.2.2.2.2.2.2.1
  have c14 : w8.cell? ⟨p, 1, none⟩ = some (.int .i64 y) := hC8.2.2.2.2.2.2.2.2.2.2.2.2.2.2.1
  have c15 : Below w.heap.size w w8 := hC8.2.2.2.2.2.2.2.2.2.2.2.2.2.2.2
  go_wp2_with fail
  exact bodyPost_ret (v := .agg #[.int .i64 (max l x), .int .i64 (min h y)]) (by simp [results, Tryd.results98, go_sem, c7, c8]) rfl ⟨rfl, nbSet2 c15 (by omega)⟩

set_option maxHeartbeats 1000000 in
theorem implRead_no (s j m g o l h c x y : Int) (w : World) (hr : rOk s j m g o = true) (hbk : bOk l h = true) (hc : inB c 0 100000000 = true) (hx : Hid (x = (min (c - m) 100000000))) (hy : Hid (y = (min (c + m) 100000000))) (hmt : mB l h x y = false) :
    Calls Tryd.prog 98 #[.agg #[.int .i64 s, .int .i64 j, .int .i64 m, .int .i64 g, .int .i64 o], .agg #[.int .i64 l, .int .i64 h], .int .i64 c] w fun e w' => e = .returned (.agg #[.int .i64 (min l x), .int .i64 (max h y)]) ∧ Below w.heap.size w w' := by
  have hb' := hbk
  have hc' := hc
  have hr' := hr
  simp only [rOk, inB, bOk, Bool.and_eq_true, decide_eq_true_eq] at hb' hc' hr'
  obtain ⟨⟨hl0, hlh⟩, hh0⟩ := hb'
  obtain ⟨hc0, hc1⟩ := hc'
  obtain ⟨⟨⟨⟨⟨hs0, hs⟩, hj0, hj⟩, hm0, hm1⟩, -⟩, -⟩ := hr'
  go_enter Tryd.func98, Tryd.ntmps98
  go_wp2_with fail
  refine (implRulesOk_c _ _ _ _ _ _).mono ?_
  rintro e w1 ⟨rfl, hb1⟩
  have hC1 : rdC w s j m g o l h w1 := ⟨cellOn hb1 (by go_simp), cellOn hb1 (by go_simp), cellOn hb1 (by go_simp), cellOn hb1 (by go_simp), cellOn hb1 (by go_simp), cellOn hb1 (by go_simp), cellOn hb1 (by go_simp), cellOn hb1 (by go_simp), cellOn hb1 (by go_simp), frozenOn hb1 (v := .int .i64 0) (by go_simp) (by go_simp), frozenOn hb1 (v := .int .i64 0) (by go_simp) (by go_simp), frozenOn hb1 (v := .int .i64 l) (by go_simp) (by go_simp), frozenOn hb1 (v := .int .i64 h) (by go_simp) (by go_simp), nbTrans (nbAlloc (nbAlloc (nbAlloc (Below.refl _ _) _) _) _) hb1⟩
  have c0 : w1.cell? ⟨w.heap.size, 0, none⟩ = some (.int .i64 s) := hC1.1
  have c1 : w1.cell? ⟨w.heap.size, 1, none⟩ = some (.int .i64 j) := hC1.2.1
  have c2 : w1.cell? ⟨w.heap.size, 2, none⟩ = some (.int .i64 m) := hC1.2.2.1
  have c3 : w1.cell? ⟨w.heap.size, 3, none⟩ = some (.int .i64 g) := hC1.2.2.2.1
  have c4 : w1.cell? ⟨w.heap.size, 4, none⟩ = some (.int .i64 o) := hC1.2.2.2.2.1
  have c5 : w1.cell? ⟨w.heap.size + 1, 0, none⟩ = some (.int .i64 l) := hC1.2.2.2.2.2.1
  have c6 : w1.cell? ⟨w.heap.size + 1, 1, none⟩ = some (.int .i64 h) := hC1.2.2.2.2.2.2.1
  have c7 : w1.cell? ⟨w.heap.size + 1 + 1, 0, none⟩ = some (.int .i64 0) := hC1.2.2.2.2.2.2.2.1
  have c8 : w1.cell? ⟨w.heap.size + 1 + 1, 1, none⟩ = some (.int .i64 0) := hC1.2.2.2.2.2.2.2.2.1
  have c9 : w1.frozen? ⟨w.heap.size + 1 + 1, 0, none⟩ = false := hC1.2.2.2.2.2.2.2.2.2.1
  have c10 : w1.frozen? ⟨w.heap.size + 1 + 1, 1, none⟩ = false := hC1.2.2.2.2.2.2.2.2.2.2.1
  have c11 : w1.frozen? ⟨w.heap.size + 1, 0, none⟩ = false := hC1.2.2.2.2.2.2.2.2.2.2.2.1
  have c12 : w1.frozen? ⟨w.heap.size + 1, 1, none⟩ = false := hC1.2.2.2.2.2.2.2.2.2.2.2.2.1
  have c13 : Below w.heap.size w w1 := hC1.2.2.2.2.2.2.2.2.2.2.2.2.2
  go_wp2_with fail
  clear c0 c1 c2 c3 c4 c5 c6 c7 c8 c9 c10 c11 c12 c13
  refine (implBoundOk_c _ _ _).mono ?_
  rintro e w2 ⟨rfl, hb2⟩
  have hC2 := rdC_on hC1 hb2
  have c0 : w2.cell? ⟨w.heap.size, 0, none⟩ = some (.int .i64 s) := hC2.1
  have c1 : w2.cell? ⟨w.heap.size, 1, none⟩ = some (.int .i64 j) := hC2.2.1
  have c2 : w2.cell? ⟨w.heap.size, 2, none⟩ = some (.int .i64 m) := hC2.2.2.1
  have c3 : w2.cell? ⟨w.heap.size, 3, none⟩ = some (.int .i64 g) := hC2.2.2.2.1
  have c4 : w2.cell? ⟨w.heap.size, 4, none⟩ = some (.int .i64 o) := hC2.2.2.2.2.1
  have c5 : w2.cell? ⟨w.heap.size + 1, 0, none⟩ = some (.int .i64 l) := hC2.2.2.2.2.2.1
  have c6 : w2.cell? ⟨w.heap.size + 1, 1, none⟩ = some (.int .i64 h) := hC2.2.2.2.2.2.2.1
  have c7 : w2.cell? ⟨w.heap.size + 1 + 1, 0, none⟩ = some (.int .i64 0) := hC2.2.2.2.2.2.2.2.1
  have c8 : w2.cell? ⟨w.heap.size + 1 + 1, 1, none⟩ = some (.int .i64 0) := hC2.2.2.2.2.2.2.2.2.1
  have c9 : w2.frozen? ⟨w.heap.size + 1 + 1, 0, none⟩ = false := hC2.2.2.2.2.2.2.2.2.2.1
  have c10 : w2.frozen? ⟨w.heap.size + 1 + 1, 1, none⟩ = false := hC2.2.2.2.2.2.2.2.2.2.2.1
  have c11 : w2.frozen? ⟨w.heap.size + 1, 0, none⟩ = false := hC2.2.2.2.2.2.2.2.2.2.2.2.1
  have c12 : w2.frozen? ⟨w.heap.size + 1, 1, none⟩ = false := hC2.2.2.2.2.2.2.2.2.2.2.2.2.1
  have c13 : Below w.heap.size w w2 := hC2.2.2.2.2.2.2.2.2.2.2.2.2.2
  go_wp2_with fail
  clear c0 c1 c2 c3 c4 c5 c6 c7 c8 c9 c10 c11 c12 c13
  refine (upTo_c _ _).mono ?_
  rintro e w3 ⟨rfl, hb3⟩
  have hC3 := rdC_on hC2 hb3
  have c0 : w3.cell? ⟨w.heap.size, 0, none⟩ = some (.int .i64 s) := hC3.1
  have c1 : w3.cell? ⟨w.heap.size, 1, none⟩ = some (.int .i64 j) := hC3.2.1
  have c2 : w3.cell? ⟨w.heap.size, 2, none⟩ = some (.int .i64 m) := hC3.2.2.1
  have c3 : w3.cell? ⟨w.heap.size, 3, none⟩ = some (.int .i64 g) := hC3.2.2.2.1
  have c4 : w3.cell? ⟨w.heap.size, 4, none⟩ = some (.int .i64 o) := hC3.2.2.2.2.1
  have c5 : w3.cell? ⟨w.heap.size + 1, 0, none⟩ = some (.int .i64 l) := hC3.2.2.2.2.2.1
  have c6 : w3.cell? ⟨w.heap.size + 1, 1, none⟩ = some (.int .i64 h) := hC3.2.2.2.2.2.2.1
  have c7 : w3.cell? ⟨w.heap.size + 1 + 1, 0, none⟩ = some (.int .i64 0) := hC3.2.2.2.2.2.2.2.1
  have c8 : w3.cell? ⟨w.heap.size + 1 + 1, 1, none⟩ = some (.int .i64 0) := hC3.2.2.2.2.2.2.2.2.1
  have c9 : w3.frozen? ⟨w.heap.size + 1 + 1, 0, none⟩ = false := hC3.2.2.2.2.2.2.2.2.2.1
  have c10 : w3.frozen? ⟨w.heap.size + 1 + 1, 1, none⟩ = false := hC3.2.2.2.2.2.2.2.2.2.2.1
  have c11 : w3.frozen? ⟨w.heap.size + 1, 0, none⟩ = false := hC3.2.2.2.2.2.2.2.2.2.2.2.1
  have c12 : w3.frozen? ⟨w.heap.size + 1, 1, none⟩ = false := hC3.2.2.2.2.2.2.2.2.2.2.2.2.1
  have c13 : Below w.heap.size w w3 := hC3.2.2.2.2.2.2.2.2.2.2.2.2.2
  go_wp2_with fail
  clear c0 c1 c2 c3 c4 c5 c6 c7 c8 c9 c10 c11 c12 c13
  refine (has_c _ _ _ _).mono ?_
  rintro e w4 ⟨rfl, hb4⟩
  have hC4 := rdC_on hC3 hb4
  have c0 : w4.cell? ⟨w.heap.size, 0, none⟩ = some (.int .i64 s) := hC4.1
  have c1 : w4.cell? ⟨w.heap.size, 1, none⟩ = some (.int .i64 j) := hC4.2.1
  have c2 : w4.cell? ⟨w.heap.size, 2, none⟩ = some (.int .i64 m) := hC4.2.2.1
  have c3 : w4.cell? ⟨w.heap.size, 3, none⟩ = some (.int .i64 g) := hC4.2.2.2.1
  have c4 : w4.cell? ⟨w.heap.size, 4, none⟩ = some (.int .i64 o) := hC4.2.2.2.2.1
  have c5 : w4.cell? ⟨w.heap.size + 1, 0, none⟩ = some (.int .i64 l) := hC4.2.2.2.2.2.1
  have c6 : w4.cell? ⟨w.heap.size + 1, 1, none⟩ = some (.int .i64 h) := hC4.2.2.2.2.2.2.1
  have c7 : w4.cell? ⟨w.heap.size + 1 + 1, 0, none⟩ = some (.int .i64 0) := hC4.2.2.2.2.2.2.2.1
  have c8 : w4.cell? ⟨w.heap.size + 1 + 1, 1, none⟩ = some (.int .i64 0) := hC4.2.2.2.2.2.2.2.2.1
  have c9 : w4.frozen? ⟨w.heap.size + 1 + 1, 0, none⟩ = false := hC4.2.2.2.2.2.2.2.2.2.1
  have c10 : w4.frozen? ⟨w.heap.size + 1 + 1, 1, none⟩ = false := hC4.2.2.2.2.2.2.2.2.2.2.1
  have c11 : w4.frozen? ⟨w.heap.size + 1, 0, none⟩ = false := hC4.2.2.2.2.2.2.2.2.2.2.2.1
  have c12 : w4.frozen? ⟨w.heap.size + 1, 1, none⟩ = false := hC4.2.2.2.2.2.2.2.2.2.2.2.2.1
  have c13 : Below w.heap.size w w4 := hC4.2.2.2.2.2.2.2.2.2.2.2.2.2
  go_wp2_with fail
  clear c0 c1 c2 c3 c4 c5 c6 c7 c8 c9 c10 c11 c12 c13
  refine (boundOfMark_c _ _ _ _ _ _ _ hm0 hm1 hc0 hc1).mono ?_
  rintro e w5 ⟨rfl, hb5⟩
  have hC5 := rdC_on hC4 hb5
  rw [← hx.out, ← hy.out]
  have c0 : w5.cell? ⟨w.heap.size, 0, none⟩ = some (.int .i64 s) := hC5.1
  have c1 : w5.cell? ⟨w.heap.size, 1, none⟩ = some (.int .i64 j) := hC5.2.1
  have c2 : w5.cell? ⟨w.heap.size, 2, none⟩ = some (.int .i64 m) := hC5.2.2.1
  have c3 : w5.cell? ⟨w.heap.size, 3, none⟩ = some (.int .i64 g) := hC5.2.2.2.1
  have c4 : w5.cell? ⟨w.heap.size, 4, none⟩ = some (.int .i64 o) := hC5.2.2.2.2.1
  have c5 : w5.cell? ⟨w.heap.size + 1, 0, none⟩ = some (.int .i64 l) := hC5.2.2.2.2.2.1
  have c6 : w5.cell? ⟨w.heap.size + 1, 1, none⟩ = some (.int .i64 h) := hC5.2.2.2.2.2.2.1
  have c7 : w5.cell? ⟨w.heap.size + 1 + 1, 0, none⟩ = some (.int .i64 0) := hC5.2.2.2.2.2.2.2.1
  have c8 : w5.cell? ⟨w.heap.size + 1 + 1, 1, none⟩ = some (.int .i64 0) := hC5.2.2.2.2.2.2.2.2.1
  have c9 : w5.frozen? ⟨w.heap.size + 1 + 1, 0, none⟩ = false := hC5.2.2.2.2.2.2.2.2.2.1
  have c10 : w5.frozen? ⟨w.heap.size + 1 + 1, 1, none⟩ = false := hC5.2.2.2.2.2.2.2.2.2.2.1
  have c11 : w5.frozen? ⟨w.heap.size + 1, 0, none⟩ = false := hC5.2.2.2.2.2.2.2.2.2.2.2.1
  have c12 : w5.frozen? ⟨w.heap.size + 1, 1, none⟩ = false := hC5.2.2.2.2.2.2.2.2.2.2.2.2.1
  have c13 : Below w.heap.size w w5 := hC5.2.2.2.2.2.2.2.2.2.2.2.2.2
  have d5 := cellNew c5
  have d6 := cellNew c6
  go_wp2_with fail
  have hC6 : rdC2 w s j m g o l h x y w5.heap.size (w5.alloc (.cells #[.int .i64 x, .int .i64 y] 27)) := ⟨cellNew hC5.1 _, cellNew hC5.2.1 _, cellNew hC5.2.2.1 _, cellNew hC5.2.2.2.1 _, cellNew hC5.2.2.2.2.1 _, cellNew hC5.2.2.2.2.2.1 _, cellNew hC5.2.2.2.2.2.2.1 _, cellNew hC5.2.2.2.2.2.2.2.1 _, cellNew hC5.2.2.2.2.2.2.2.2.1 _, frozenNew hC5.2.2.2.2.2.2.2.1 hC5.2.2.2.2.2.2.2.2.2.1 _, frozenNew hC5.2.2.2.2.2.2.2.2.1 hC5.2.2.2.2.2.2.2.2.2.2.1 _, frozenNew hC5.2.2.2.2.2.1 hC5.2.2.2.2.2.2.2.2.2.2.2.1 _, frozenNew hC5.2.2.2.2.2.2.1 hC5.2.2.2.2.2.2.2.2.2.2.2.2.1 _, by go_simp, by go_simp, nbAlloc hC5.2.2.2.2.2.2.2.2.2.2.2.2.2 _⟩
  clear d5 d6 c0 c1 c2 c3 c4 c5 c6 c7 c8 c9 c10 c11 c12 c13
  refine (implMeets_c _ _ _ _ _).mono ?_
  rintro e w7 ⟨rfl, hb7⟩
  have hC7 := rdC2_on hC6 hb7
  have hpw := ltCell hC5.2.2.2.2.2.2.2.1
  generalize w5.heap.size = p at *
  have c0 : w7.cell? ⟨w.heap.size, 0, none⟩ = some (.int .i64 s) := hC7.1
  have c1 : w7.cell? ⟨w.heap.size, 1, none⟩ = some (.int .i64 j) := hC7.2.1
  have c2 : w7.cell? ⟨w.heap.size, 2, none⟩ = some (.int .i64 m) := hC7.2.2.1
  have c3 : w7.cell? ⟨w.heap.size, 3, none⟩ = some (.int .i64 g) := hC7.2.2.2.1
  have c4 : w7.cell? ⟨w.heap.size, 4, none⟩ = some (.int .i64 o) := hC7.2.2.2.2.1
  have c5 : w7.cell? ⟨w.heap.size + 1, 0, none⟩ = some (.int .i64 l) := hC7.2.2.2.2.2.1
  have c6 : w7.cell? ⟨w.heap.size + 1, 1, none⟩ = some (.int .i64 h) := hC7.2.2.2.2.2.2.1
  have c7 : w7.cell? ⟨w.heap.size + 1 + 1, 0, none⟩ = some (.int .i64 0) := hC7.2.2.2.2.2.2.2.1
  have c8 : w7.cell? ⟨w.heap.size + 1 + 1, 1, none⟩ = some (.int .i64 0) := hC7.2.2.2.2.2.2.2.2.1
  have c9 : w7.frozen? ⟨w.heap.size + 1 + 1, 0, none⟩ = false := hC7.2.2.2.2.2.2.2.2.2.1
  have c10 : w7.frozen? ⟨w.heap.size + 1 + 1, 1, none⟩ = false := hC7.2.2.2.2.2.2.2.2.2.2.1
  have c11 : w7.frozen? ⟨w.heap.size + 1, 0, none⟩ = false := hC7.2.2.2.2.2.2.2.2.2.2.2.1
  have c12 : w7.frozen? ⟨w.heap.size + 1, 1, none⟩ = false := hC7.2.2.2.2.2.2.2.2.2.2.2.2.1
  have c13 : w7.cell? ⟨p, 0, none⟩ = some (.int .i64 x) := hC7.2.2.2.2.2.2.2.2.2.2.2.2.2.1
  have c14 : w7.cell? ⟨p, 1, none⟩ = some (.int .i64 y) := hC7.2.2.2.2.2.2.2.2.2.2.2.2.2.2.1
  have c15 : Below w.heap.size w w7 := hC7.2.2.2.2.2.2.2.2.2.2.2.2.2.2.2
  go_wp2_with fail
  clear c0 c1 c2 c3 c4 c5 c6 c7 c8 c9 c10 c11 c12 c13 c14 c15
  refine region_last (rdC2 w s j m g o l h x y p) 6 rfl (by kernel_rfl) (by kernel_rfl) (by kernel_rfl) ?_ ?_
  · obtain ⟨q0, q1, q2, q3, q4, q5, q6, q7, q8, q9, q10, q11, q12, q13, q14, q15⟩ := hC7
    exact ⟨q0, q1, q2, q3, q4, q5, q6, q7, q8, q9, q10, q11, q12, q13, q14, q15.drew⟩
  apply Exists.intro
  refine ⟨fun hN => ?_, fun w9 h9 => ?_⟩
  · simp only [List.set_cons_succ, List.set_cons_zero, idle]
    have k0 : ∀ d : Kept (rdC2 w s j m g o l h x y p), d.w.cell? ⟨w.heap.size, 0, none⟩ = some (.int .i64 s) := fun d => d.h.1
    have k1 : ∀ d : Kept (rdC2 w s j m g o l h x y p), d.w.cell? ⟨w.heap.size, 1, none⟩ = some (.int .i64 j) := fun d => d.h.2.1
    have k2 : ∀ d : Kept (rdC2 w s j m g o l h x y p), d.w.cell? ⟨w.heap.size, 2, none⟩ = some (.int .i64 m) := fun d => d.h.2.2.1
    have k3 : ∀ d : Kept (rdC2 w s j m g o l h x y p), d.w.cell? ⟨w.heap.size, 3, none⟩ = some (.int .i64 g) := fun d => d.h.2.2.2.1
    have k4 : ∀ d : Kept (rdC2 w s j m g o l h x y p), d.w.cell? ⟨w.heap.size, 4, none⟩ = some (.int .i64 o) := fun d => d.h.2.2.2.2.1
    have k5 : ∀ d : Kept (rdC2 w s j m g o l h x y p), d.w.cell? ⟨w.heap.size + 1, 0, none⟩ = some (.int .i64 l) := fun d => d.h.2.2.2.2.2.1
    have k6 : ∀ d : Kept (rdC2 w s j m g o l h x y p), d.w.cell? ⟨w.heap.size + 1, 1, none⟩ = some (.int .i64 h) := fun d => d.h.2.2.2.2.2.2.1
    have k7 : ∀ d : Kept (rdC2 w s j m g o l h x y p), d.w.cell? ⟨w.heap.size + 1 + 1, 0, none⟩ = some (.int .i64 0) := fun d => d.h.2.2.2.2.2.2.2.1
    have k8 : ∀ d : Kept (rdC2 w s j m g o l h x y p), d.w.cell? ⟨w.heap.size + 1 + 1, 1, none⟩ = some (.int .i64 0) := fun d => d.h.2.2.2.2.2.2.2.2.1
    have k13 : ∀ d : Kept (rdC2 w s j m g o l h x y p), d.w.cell? ⟨p, 0, none⟩ = some (.int .i64 x) := fun d => d.h.2.2.2.2.2.2.2.2.2.2.2.2.2.1
    have k14 : ∀ d : Kept (rdC2 w s j m g o l h x y p), d.w.cell? ⟨p, 1, none⟩ = some (.int .i64 y) := fun d => d.h.2.2.2.2.2.2.2.2.2.2.2.2.2.2.1
    repeat (go_big_quiet_step (first | (go_at_call 90; exact call_kept _ rdC2_on (intervalOf_c _ _ _)) | (go_at_call 109; exact call_kept _ rdC2_on (hull_c _ _ _ _ _)) | (go_at_call 108; exact call_kept _ rdC2_on (boundOf_c _ _ _))))
    exact wpQuiet_nil rfl
  have c0 : w9.cell? ⟨w.heap.size, 0, none⟩ = some (.int .i64 s) := h9.1
  have c1 : w9.cell? ⟨w.heap.size, 1, none⟩ = some (.int .i64 j) := h9.2.1
  have c2 : w9.cell? ⟨w.heap.size, 2, none⟩ = some (.int .i64 m) := h9.2.2.1
  have c3 : w9.cell? ⟨w.heap.size, 3, none⟩ = some (.int .i64 g) := h9.2.2.2.1
  have c4 : w9.cell? ⟨w.heap.size, 4, none⟩ = some (.int .i64 o) := h9.2.2.2.2.1
  have c5 : w9.cell? ⟨w.heap.size + 1, 0, none⟩ = some (.int .i64 l) := h9.2.2.2.2.2.1
  have c6 : w9.cell? ⟨w.heap.size + 1, 1, none⟩ = some (.int .i64 h) := h9.2.2.2.2.2.2.1
  have c7 : w9.cell? ⟨w.heap.size + 1 + 1, 0, none⟩ = some (.int .i64 0) := h9.2.2.2.2.2.2.2.1
  have c8 : w9.cell? ⟨w.heap.size + 1 + 1, 1, none⟩ = some (.int .i64 0) := h9.2.2.2.2.2.2.2.2.1
  have c9 : w9.frozen? ⟨w.heap.size + 1 + 1, 0, none⟩ = false := h9.2.2.2.2.2.2.2.2.2.1
  have c10 : w9.frozen? ⟨w.heap.size + 1 + 1, 1, none⟩ = false := h9.2.2.2.2.2.2.2.2.2.2.1
  have c11 : w9.frozen? ⟨w.heap.size + 1, 0, none⟩ = false := h9.2.2.2.2.2.2.2.2.2.2.2.1
  have c12 : w9.frozen? ⟨w.heap.size + 1, 1, none⟩ = false := h9.2.2.2.2.2.2.2.2.2.2.2.2.1
  have c13 : w9.cell? ⟨p, 0, none⟩ = some (.int .i64 x) := h9.2.2.2.2.2.2.2.2.2.2.2.2.2.1
  have c14 : w9.cell? ⟨p, 1, none⟩ = some (.int .i64 y) := h9.2.2.2.2.2.2.2.2.2.2.2.2.2.2.1
  have c15 : Below w.heap.size w w9 := h9.2.2.2.2.2.2.2.2.2.2.2.2.2.2.2
  go_simp
  go_wp2
  exact bodyPost_ret (v := .agg #[.int .i64 (min l x), .int .i64 (max h y)]) (by simp [results, Tryd.results98, go_sem, c7, c8]) rfl ⟨rfl, nbSet2 c15 (by omega)⟩

end Go.Proofs.YtmhppadblddjoaaDoor

