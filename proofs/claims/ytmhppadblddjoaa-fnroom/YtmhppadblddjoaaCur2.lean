import Derived.Test.YtmhppadblddjoaaCur
namespace Go.Proofs.Ytmhppadblddjoaa
open Go.RowKit

theorem CurAt.on {p : Nat} {a0 : Option Addr} {len cap K : Nat} {w w' : World} (h : CurAt p a0 len cap K w) (hb : Below w.heap.size w w') : CurAt p a0 len cap K w' := by
  obtain ⟨hR, k, seed, hk, hblk⟩ := h
  exact ⟨hR.on (Turns.of_below hb), k, seed, hk, by rw [hb.block p (Array.getElem?_eq_some_iff.1 hblk).1]; exact hblk⟩
theorem CurAt.lt {p : Nat} {a0 : Option Addr} {len cap K : Nat} {w : World} (h : CurAt p a0 len cap K w) : p < w.heap.size := by
  obtain ⟨_, k, seed, _, hblk⟩ := h
  exact (Array.getElem?_eq_some_iff.1 hblk).1
theorem CurAt.le {p : Nat} {a0 : Option Addr} {len cap K K' : Nat} {w : World} (h : CurAt p a0 len cap K w) (hk : K ≤ K') : CurAt p a0 len cap K' w := by
  obtain ⟨hR, k, seed, h1, hblk⟩ := h
  exact ⟨hR, k, seed, by omega, hblk⟩
theorem Turns.blk {p : Nat} {w w' : World} (h : Turns p w w') {R : Nat} {o : Obj} (hR : R ≠ p) (hb : w.heap[R]? = some o) : w'.heap[R]? = some o := by
  rw [h.block R (Array.getElem?_eq_some_iff.1 hb).1 hR]; exact hb
theorem Turns.alloc {p : Nat} {a w : World} (h : Turns p a w) (o : Obj) : Turns p a (w.alloc o) := h.trans (Turns.of_below ((Below.refl _ _).alloc (Nat.le_refl _) o))
theorem Turns.setOwn {p : Nat} {a w : World} (h : Turns p a w) {R : Nat} (hR : a.heap.size ≤ R) (o : Nat) (v : Value) : Turns p a (w.setCell ⟨R, o, none⟩ v) :=
  ⟨h.os, h.tape, h.output, by simpa [World.setCell] using h.size, fun k hk hn => by rw [Below.heap_setCell w ⟨R, o, none⟩ v k (by show k ≠ R; omega)]; exact h.block k hk hn⟩

theorem hpSet {w w6 : World} {p R o : Nat} {v : Value} (h : w.heap[p]? = w6.heap[p]?) (hR : p ≠ R) : (w.setCell ⟨R, o, none⟩ v).heap[p]? = w6.heap[p]? := by
  rw [Below.heap_setCell w ⟨R, o, none⟩ v p hR]; exact h
theorem CurAt.fin {p : Nat} {a0 : Option Addr} {len cap K0 K : Nat} {w w6 w' : World} (h0 : CurAt p a0 len cap K0 w) (h6 : CurAt p a0 len cap K w6) (hT : Turns p w w') (hp : w'.heap[p]? = w6.heap[p]?) : CurAt p a0 len cap K w' := by
  obtain ⟨_, k, seed, h1, hblk⟩ := h6
  exact ⟨h0.1.on hT, k, seed, h1, by rw [hp]; exact hblk⟩

set_option maxHeartbeats 400000 in
theorem pick_c {p : Nat} {a0 : Option Addr} {len cap : Nat} (K : Nat) (n : Int) (w : World) (hC : CurAt p a0 len cap K w) (hK : K ≤ 9999999) (hn1 : 1 < n) (hn2 : n ≤ 200) :
    Calls Try.prog 71 #[.pointer (some ⟨p, 0, none⟩), .int .i64 n] w fun e w' => ∃ v : Int, e = .returned (.int .i64 v) ∧ 0 ≤ v ∧ v < n ∧ CurAt p a0 len cap (K + 1) w' ∧ Turns p w w' := by
  go_enter Try.func71, Try.ntmps71
  go_wp2_with fail
  refine (next_c K _ hC (by omega)).mono ?_
  rintro e w1 ⟨v, rfl, q0, q1, hC1, ht⟩
  go_wp2_with fail
  go_ret
  exact ⟨v % n, rfl, Int.emod_nonneg _ (by omega), Int.emod_lt_of_pos _ (by omega), hC1, ht⟩

set_option maxHeartbeats 400000 in
theorem wide_c {p : Nat} {a0 : Option Addr} {len cap : Nat} (K : Nat) (n : Int) (w : World) (hC : CurAt p a0 len cap K w) (hK : K ≤ 9999998) (hn1 : 0 < n) (hn2 : n ≤ 100000) :
    Calls Try.prog 35 #[.pointer (some ⟨p, 0, none⟩), .int .i64 n] w fun e w' => ∃ v : Int, e = .returned (.int .i64 v) ∧ 0 ≤ v ∧ v < n ∧ CurAt p a0 len cap (K + 2) w' ∧ Turns p w w' := by
  have hnz : (n == 0) = false := by simp; omega
  go_enter Try.func35, Try.ntmps35
  go_wp2_with fail
  refine (next_c K _ hC (by omega)).mono ?_
  rintro e w1 ⟨v, rfl, q0, q1, hC1, ht⟩
  go_wp2_with fail
  refine (next_c (K + 1) _ hC1 (by omega)).mono ?_
  rintro e w2 ⟨u, rfl, r0, r1, hC2, ht2⟩
  go_wp2_with fail
  go_ret
  exact ⟨(v * 256 + u) % n, rfl, Int.emod_nonneg _ (by omega), Int.emod_lt_of_pos _ (by omega), hC2, ht.trans ht2⟩

set_option maxHeartbeats 1000000 in
theorem rules_c {p : Nat} {a0 : Option Addr} {len cap : Nat} (K : Nat) (w : World) (hC : CurAt p a0 len cap K w) (hK : K ≤ 9999000) :
    Calls Try.prog 33 #[.pointer (some ⟨p, 0, none⟩)] w fun e w' => ∃ s j m g o : Int, e = .returned (.agg #[.int .i64 s, .int .i64 j, .int .i64 m, .int .i64 g, .int .i64 o]) ∧ 0 ≤ s ∧ s < 80 ∧ 0 ≤ j ∧ j < 6 ∧ 0 ≤ m ∧ m < 30 ∧ 1 ≤ g ∧ g ≤ 400 ∧ 0 ≤ o ∧ o < 20 ∧ CurAt p a0 len cap (K + 7) w' ∧ Turns p w w' := by
  have hlt := hC.lt
  have hCa : CurAt p a0 len cap K (w.alloc (.cells #[.int .i64 0, .int .i64 0, .int .i64 0, .int .i64 0, .int .i64 0] 24)) := hC.on ((Below.refl _ _).alloc (Nat.le_refl _) _)
  have ht0 : Turns p w (w.alloc (.cells #[.int .i64 0, .int .i64 0, .int .i64 0, .int .i64 0, .int .i64 0] 24)) := (Turns.refl p w).alloc _
  have hb0 : Hid ((w.alloc (.cells #[.int .i64 0, .int .i64 0, .int .i64 0, .int .i64 0, .int .i64 0] 24)).heap[w.heap.size]? = some (.cells #[.int .i64 0, .int .i64 0, .int .i64 0, .int .i64 0, .int .i64 0] 24)) := by
    show (w.heap.push _)[w.heap.size]? = _
    simp
  go_enter Try.func33, Try.ntmps33
  go_wp2_with fail
  refine (pick_c K 80 _ hCa (by omega) (by omega) (by omega)).mono ?_
  rintro e w1 ⟨s, rfl, s0, s1, hC1, ht1⟩
  have hb1 : Hid (w1.heap[w.heap.size]? = some (.cells #[.int .i64 0, .int .i64 0, .int .i64 0, .int .i64 0, .int .i64 0] 24)) := ht1.blk (by omega) hb0.out
  go_wp2_with fail
  refine (pick_c (K + 1) 6 _ hC1 (by omega) (by omega) (by omega)).mono ?_
  rintro e w2 ⟨j, rfl, j0, j1, hC2, ht2⟩
  have hb2 : Hid (w2.heap[w.heap.size]? = some (.cells #[.int .i64 0, .int .i64 0, .int .i64 0, .int .i64 0, .int .i64 0] 24)) := ht2.blk (by omega) hb1.out
  go_wp2_with fail
  refine (pick_c (K + 2) 30 _ hC2 (by omega) (by omega) (by omega)).mono ?_
  rintro e w3 ⟨m, rfl, m0, m1, hC3, ht3⟩
  have hb3 : Hid (w3.heap[w.heap.size]? = some (.cells #[.int .i64 0, .int .i64 0, .int .i64 0, .int .i64 0, .int .i64 0] 24)) := ht3.blk (by omega) hb2.out
  go_wp2_with fail
  refine (wide_c (K + 3) 400 _ hC3 (by omega) (by omega) (by omega)).mono ?_
  rintro e w4 ⟨g', rfl, g0, g1, hC4, ht4⟩
  have hb4 : Hid (w4.heap[w.heap.size]? = some (.cells #[.int .i64 0, .int .i64 0, .int .i64 0, .int .i64 0, .int .i64 0] 24)) := ht4.blk (by omega) hb3.out
  go_wp2_with fail
  refine (pick_c (K + 5) 20 _ hC4 (by omega) (by omega) (by omega)).mono ?_
  rintro e w5 ⟨o, rfl, o0, o1, hC5, ht5⟩
  have hb5 : Hid (w5.heap[w.heap.size]? = some (.cells #[.int .i64 0, .int .i64 0, .int .i64 0, .int .i64 0, .int .i64 0] 24)) := ht5.blk (by omega) hb4.out
  go_wp2_with fail
  have hlt5 : w.heap.size < w5.heap.size := (Array.getElem?_eq_some_iff.1 hb5.out).1
  have hC5a := hC5.on ((Below.refl w5.heap.size w5).alloc (Nat.le_refl _) (.cells #[.int .i64 s, .int .i64 j, .int .i64 m, .int .i64 (1 + g'), .int .i64 o] 24))
  have hr5 : Hid ((w5.alloc (.cells #[.int .i64 s, .int .i64 j, .int .i64 m, .int .i64 (1 + g'), .int .i64 o] 24)).heap[w5.heap.size]? = some (.cells #[.int .i64 s, .int .i64 j, .int .i64 m, .int .i64 (1 + g'), .int .i64 o] 24)) := by
    show (w5.heap.push _)[w5.heap.size]? = _
    simp
  have hb5a : Hid ((w5.alloc (.cells #[.int .i64 s, .int .i64 j, .int .i64 m, .int .i64 (1 + g'), .int .i64 o] 24)).heap[w.heap.size]? = some (.cells #[.int .i64 0, .int .i64 0, .int .i64 0, .int .i64 0, .int .i64 0] 24)) := (((Turns.refl p w5).alloc _).blk (by omega) hb5.out)
  refine (pick_c _ 5 _ hC5a (by omega) (by omega) (by omega)).mono ?_
  rintro e w6 ⟨z, rfl, z0, z1, hC6, ht6⟩
  have hplt : p < w5.heap.size := hC5.lt
  have hr6 : w6.heap[w5.heap.size]? = _ := ht6.blk (by omega) hr5.out
  have hb6 : w6.heap[w.heap.size]? = _ := ht6.blk (by omega) hb5a.out
  have hT : Turns p w w6 := ((((((ht0.trans ht1).trans ht2).trans ht3).trans ht4).trans ht5).alloc _).trans ht6
  have hr6' : Hid (w6.heap[w5.heap.size]? = _) := hr6
  have hb6' : Hid (w6.heap[w.heap.size]? = _) := hb6
  have hne : w5.heap.size ≠ w.heap.size := by omega
  have ra0 : w6.cell? ⟨w5.heap.size, 0, none⟩ = some (.int .i64 s) := by simp [World.cell?, hr6]
  have raf0 : w6.frozen? ⟨w5.heap.size, 0, none⟩ = false := by simp [World.frozen?, hr6]
  have ra1 : w6.cell? ⟨w5.heap.size, 1, none⟩ = some (.int .i64 j) := by simp [World.cell?, hr6]
  have raf1 : w6.frozen? ⟨w5.heap.size, 1, none⟩ = false := by simp [World.frozen?, hr6]
  have ra2 : w6.cell? ⟨w5.heap.size, 2, none⟩ = some (.int .i64 m) := by simp [World.cell?, hr6]
  have raf2 : w6.frozen? ⟨w5.heap.size, 2, none⟩ = false := by simp [World.frozen?, hr6]
  have ra3 : w6.cell? ⟨w5.heap.size, 3, none⟩ = some (.int .i64 (1 + g')) := by simp [World.cell?, hr6]
  have raf3 : w6.frozen? ⟨w5.heap.size, 3, none⟩ = false := by simp [World.frozen?, hr6]
  have ra4 : w6.cell? ⟨w5.heap.size, 4, none⟩ = some (.int .i64 o) := by simp [World.cell?, hr6]
  have raf4 : w6.frozen? ⟨w5.heap.size, 4, none⟩ = false := by simp [World.frozen?, hr6]
  have rb0 : w6.cell? ⟨w.heap.size, 0, none⟩ = some (.int .i64 0) := by simp [World.cell?, hb6]
  have rbf0 : w6.frozen? ⟨w.heap.size, 0, none⟩ = false := by simp [World.frozen?, hb6]
  have rb1 : w6.cell? ⟨w.heap.size, 1, none⟩ = some (.int .i64 0) := by simp [World.cell?, hb6]
  have rbf1 : w6.frozen? ⟨w.heap.size, 1, none⟩ = false := by simp [World.frozen?, hb6]
  have rb2 : w6.cell? ⟨w.heap.size, 2, none⟩ = some (.int .i64 0) := by simp [World.cell?, hb6]
  have rbf2 : w6.frozen? ⟨w.heap.size, 2, none⟩ = false := by simp [World.frozen?, hb6]
  have rb3 : w6.cell? ⟨w.heap.size, 3, none⟩ = some (.int .i64 0) := by simp [World.cell?, hb6]
  have rbf3 : w6.frozen? ⟨w.heap.size, 3, none⟩ = false := by simp [World.frozen?, hb6]
  have rb4 : w6.cell? ⟨w.heap.size, 4, none⟩ = some (.int .i64 0) := by simp [World.cell?, hb6]
  have rbf4 : w6.frozen? ⟨w.heap.size, 4, none⟩ = false := by simp [World.frozen?, hb6]
  clear hr6 hb6 hb0 hb1 hb2 hb3 hb4 hb5 hb5a hr5 ht0 ht1 ht2 ht3 ht4 ht5 ht6 hCa hC1 hC2 hC3 hC4 hC5 hC5a
  generalize w5.heap.size = r at *
  have HC : Hid (CurAt p a0 len cap K w) := hC
  clear hC
  by_cases hz : z = 0
  · subst hz
    go_wp2_with fail
    refine bodyPost_ret (v := .agg #[.int .i64 0, .int .i64 j, .int .i64 m, .int .i64 (1 + g'), .int .i64 o]) (by simp [results, Try.results33, go_sem, *]) rfl ⟨0, j, m, 1 + g', o, rfl, by omega, by omega, j0, j1, m0, m1, by omega, by omega, o0, o1, ?_⟩
    refine (fun hX => ⟨CurAt.fin HC.out hC6 hX ?_, hX⟩) ?_
    · exact ((((((hT.setOwn (by omega) _ _).setOwn (by omega) _ _).setOwn (by omega) _ _).setOwn (by omega) _ _).setOwn (by omega) _ _).setOwn (by omega) _ _)
    · exact (hpSet (hpSet (hpSet (hpSet (hpSet (hpSet rfl (by omega)) (by omega)) (by omega)) (by omega)) (by omega)) (by omega))
  · have hzb : (z == 0) = false := by simpa using hz
    go_wp2_with fail
    refine bodyPost_ret (v := .agg #[.int .i64 s, .int .i64 j, .int .i64 m, .int .i64 (1 + g'), .int .i64 o]) (by simp [results, Try.results33, go_sem, *]) rfl ⟨s, j, m, 1 + g', o, rfl, s0, s1, j0, j1, m0, m1, by omega, by omega, o0, o1, ?_⟩
    refine (fun hX => ⟨CurAt.fin HC.out hC6 hX ?_, hX⟩) ?_
    · exact (((((hT.setOwn (by omega) _ _).setOwn (by omega) _ _).setOwn (by omega) _ _).setOwn (by omega) _ _).setOwn (by omega) _ _)
    · exact (hpSet (hpSet (hpSet (hpSet (hpSet rfl (by omega)) (by omega)) (by omega)) (by omega)) (by omega))

end Go.Proofs.Ytmhppadblddjoaa
