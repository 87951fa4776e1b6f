import Derived.Test.YtmhppadblddjoaaDoorZTopCur4
import Derived.Test.YtmhppadblddjoaaDoorZTopW1
/- The draws of a run: rules, a bound, events, whatever they are. -/
namespace Go.Proofs.YtmhppadblddjoaaDoor
open Go.RowKit
set_option linter.unusedVariables false

set_option maxRecDepth 100000 in
set_option maxHeartbeats 1000000 in
theorem oddevent_d {p : Nat} {a0 : Option Addr} {len cap : Nat} (K : Nat) (w : World) (hC : CurAt p a0 len cap K w) (hK : K ≤ 9990000) :
    Calls Tryd.prog 72 #[.pointer (some ⟨p, 0, none⟩)] w fun e w' => ∃ x y : Int, e = .returned (.agg #[.int .i64 x, .int .i64 y]) ∧ CurAt p a0 len cap (K + 2) w' ∧ Turns p w w' := by
  have hlt := hC.lt
  have HC : Hid (CurAt p a0 len cap K w) := hC
  have hCa := hC.on ((Below.refl w.heap.size w).alloc (Nat.le_refl _) (.cells #[.int .i64 0, .int .i64 0] 48))
  have hb0 : Hid ((w.alloc (.cells #[.int .i64 0, .int .i64 0] 48)).heap[w.heap.size]? = some (.cells #[.int .i64 0, .int .i64 0] 48)) := newBlk _ _ rfl
  have ht0 : Turns p w (w.alloc (.cells #[.int .i64 0, .int .i64 0] 48)) := (Turns.refl p w).alloc _
  clear hC
  go_enter Tryd.func72, Tryd.ntmps72
  go_wp2_with fail
  refine (pick_c K 6 _ hCa (by omega) (by omega) (by omega)).mono ?_
  rintro e w1 ⟨x, rfl, x0, x1, hC1, ht1⟩
  have hb1 : Hid (w1.heap[w.heap.size]? = some (.cells #[.int .i64 0, .int .i64 0] 48)) := ht1.blk (by omega) hb0.out
  have hlt1 : w.heap.size < w1.heap.size := (Array.getElem?_eq_some_iff.1 hb1.out).1
  have hT1 := ht0.trans ht1
  go_wp2_with fail
  have hC2a := hC1.on ((Below.refl w1.heap.size w1).alloc (Nat.le_refl _) (.cells #[.int .i64 (-1), .int .i64 0, .int .i64 1, .int .i64 100000, .int .i64 100001, .int .i64 1000000000, .int .i64 1000000001] 3))
  have hl2 : Hid ((w1.alloc (.cells #[.int .i64 (-1), .int .i64 0, .int .i64 1, .int .i64 100000, .int .i64 100001, .int .i64 1000000000, .int .i64 1000000001] 3)).heap[w1.heap.size]? = some (.cells #[.int .i64 (-1), .int .i64 0, .int .i64 1, .int .i64 100000, .int .i64 100001, .int .i64 1000000000, .int .i64 1000000001] 3)) := newBlk _ _ rfl
  have hp2 := hC1.lt
  refine (pick_c _ 7 _ hC2a (by omega) (by omega) (by omega)).mono ?_
  rintro e w2 ⟨q2, rfl, q20, q21, hC2, ht2⟩
  obtain ⟨k2, rfl⟩ := Int.eq_ofNat_of_zero_le q20
  have hk2 : w2.heap[w1.heap.size]? = some (.cells #[.int .i64 (-1), .int .i64 0, .int .i64 1, .int .i64 100000, .int .i64 100001, .int .i64 1000000000, .int .i64 1000000001] 3) := ht2.blk (by omega) hl2.out
  obtain ⟨y2, hy2⟩ : ∃ y : Int, w2.cell? ⟨w1.heap.size, k2, none⟩ = some (.int .i64 y) := by
    rcases (by omega : k2 = 0 ∨ k2 = 1 ∨ k2 = 2 ∨ k2 = 3 ∨ k2 = 4 ∨ k2 = 5 ∨ k2 = 6) with rfl | rfl | rfl | rfl | rfl | rfl | rfl <;> exact ⟨_, by simp [World.cell?, hk2]; rfl⟩
  have hb2 : w2.heap[w.heap.size]? = some (.cells #[.int .i64 0, .int .i64 0] 48) := ht2.blk (by omega) (oldBlk hb1.out _)
  have hT : Turns p w w2 := (hT1.alloc _).trans ht2
  have z0 : w2.cell? ⟨w.heap.size, 0, none⟩ = some (.int .i64 0) := by simp [World.cell?, hb2]
  have zf0 : w2.frozen? ⟨w.heap.size, 0, none⟩ = false := by simp [World.frozen?, hb2]
  have z1 : w2.cell? ⟨w.heap.size, 1, none⟩ = some (.int .i64 0) := by simp [World.cell?, hb2]
  have zf1 : w2.frozen? ⟨w.heap.size, 1, none⟩ = false := by simp [World.frozen?, hb2]
  clear hb0 hb1 hb2 hk2 ht0 ht1 ht2 hT1 hCa hC1 hC2a hl2
  generalize w1.heap.size = r at *
  go_wp2_with fail
  refine bodyPost_ret (v := .agg #[.int .i64 x, .int .i64 y2]) (by simp [results, Tryd.results72, go_sem, *]) rfl ⟨x, y2, rfl, ?_⟩
  refine (fun hX => ⟨CurAt.fin HC.out hC2 hX ?_, hX⟩) ?_
  · exact ((hT.setOwn (by omega) _ _).setOwn (by omega) _ _)
  · exact (hpSet (hpSet rfl (by omega)) (by omega))

set_option maxRecDepth 100000 in
set_option maxHeartbeats 2000000 in
theorem oddrules_d {p : Nat} {a0 : Option Addr} {len cap : Nat} (K : Nat) (s j m g o : Int) (w : World) (hC : CurAt p a0 len cap K w) (hK : K ≤ 9990000) :
    Calls Tryd.prog 93 #[.pointer (some ⟨p, 0, none⟩), .agg #[.int .i64 s, .int .i64 j, .int .i64 m, .int .i64 g, .int .i64 o]] w fun e w' => ∃ s j m g o : Int, e = .returned (.agg #[.int .i64 s, .int .i64 j, .int .i64 m, .int .i64 g, .int .i64 o]) ∧ CurAt p a0 len cap (K + 2) w' ∧ Turns p w w' := by
  have hlt := hC.lt
  have HC : Hid (CurAt p a0 len cap K w) := hC
  have hCa : CurAt p a0 len cap K ((w.alloc (.cells #[.int .i64 s, .int .i64 j, .int .i64 m, .int .i64 g, .int .i64 o] 24)).alloc (.cells #[.int .i64 0, .int .i64 0, .int .i64 0, .int .i64 0, .int .i64 0] 24)) := hC.on (nbAlloc (nbAlloc (Below.refl _ _) _) _)
  have hb0 : Hid (((w.alloc (.cells #[.int .i64 s, .int .i64 j, .int .i64 m, .int .i64 g, .int .i64 o] 24)).alloc (.cells #[.int .i64 0, .int .i64 0, .int .i64 0, .int .i64 0, .int .i64 0] 24)).heap[w.heap.size]? = some (.cells #[.int .i64 s, .int .i64 j, .int .i64 m, .int .i64 g, .int .i64 o] 24)) := oldBlk (newBlk _ _ rfl) _
  have hd0 : Hid (((w.alloc (.cells #[.int .i64 s, .int .i64 j, .int .i64 m, .int .i64 g, .int .i64 o] 24)).alloc (.cells #[.int .i64 0, .int .i64 0, .int .i64 0, .int .i64 0, .int .i64 0] 24)).heap[w.heap.size + 1]? = some (.cells #[.int .i64 0, .int .i64 0, .int .i64 0, .int .i64 0, .int .i64 0] 24)) := newBlk _ _ (by simp)
  have ht0 : Turns p w ((w.alloc (.cells #[.int .i64 s, .int .i64 j, .int .i64 m, .int .i64 g, .int .i64 o] 24)).alloc (.cells #[.int .i64 0, .int .i64 0, .int .i64 0, .int .i64 0, .int .i64 0] 24)) := ((Turns.refl p w).alloc _).alloc _
  clear hC
  go_enter Tryd.func93, Tryd.ntmps93
  go_wp2_with fail
  refine (pick_c K 5 _ hCa (by omega) (by omega) (by omega)).mono ?_
  rintro e w1 ⟨x, rfl, x0, x1, hC1, ht1⟩
  have hb1 : Hid (w1.heap[w.heap.size]? = some (.cells #[.int .i64 s, .int .i64 j, .int .i64 m, .int .i64 g, .int .i64 o] 24)) := ht1.blk (by omega) hb0.out
  have hd1 : Hid (w1.heap[w.heap.size + 1]? = some (.cells #[.int .i64 0, .int .i64 0, .int .i64 0, .int .i64 0, .int .i64 0] 24)) := ht1.blk (by omega) hd0.out
  have hlt1 : w.heap.size + 1 < w1.heap.size := (Array.getElem?_eq_some_iff.1 hd1.out).1
  have hT1 := ht0.trans ht1
  rcases (by omega : x = 0 ∨ x = 1 ∨ x = 2 ∨ x = 3 ∨ x = 4) with hx | hx | hx | hx | hx
  · have hq : x = 0 := by omega
    subst hq
    go_wp2_with fail
    have hC2a := hC1.on ((Below.refl w1.heap.size w1).alloc (Nat.le_refl _) (.cells #[.int .i64 (-1), .int .i64 500, .int .i64 501] 3))
    have hl2 : Hid ((w1.alloc (.cells #[.int .i64 (-1), .int .i64 500, .int .i64 501] 3)).heap[w1.heap.size]? = some (.cells #[.int .i64 (-1), .int .i64 500, .int .i64 501] 3)) := newBlk _ _ rfl
    have hp2 := hC1.lt
    refine (pick_c _ 3 _ hC2a (by omega) (by omega) (by omega)).mono ?_
    rintro e w2 ⟨q2, rfl, q20, q21, hC2, ht2⟩
    obtain ⟨k2, rfl⟩ := Int.eq_ofNat_of_zero_le q20
    have hk2 : w2.heap[w1.heap.size]? = some (.cells #[.int .i64 (-1), .int .i64 500, .int .i64 501] 3) := ht2.blk (by omega) hl2.out
    obtain ⟨y2, hy2⟩ : ∃ y : Int, w2.cell? ⟨w1.heap.size, k2, none⟩ = some (.int .i64 y) := by
      rcases (by omega : k2 = 0 ∨ k2 = 1 ∨ k2 = 2) with rfl | rfl | rfl <;> exact ⟨_, by simp [World.cell?, hk2]; rfl⟩
    have hb2 : w2.heap[w.heap.size]? = some (.cells #[.int .i64 s, .int .i64 j, .int .i64 m, .int .i64 g, .int .i64 o] 24) := ht2.blk (by omega) (oldBlk hb1.out _)
    have hd2 : w2.heap[w.heap.size + 1]? = some (.cells #[.int .i64 0, .int .i64 0, .int .i64 0, .int .i64 0, .int .i64 0] 24) := ht2.blk (by omega) (oldBlk hd1.out _)
    have hT : Turns p w w2 := (hT1.alloc _).trans ht2
    have z0 : w2.cell? ⟨w.heap.size, 0, none⟩ = some (.int .i64 s) := by simp [World.cell?, hb2]
    have zf0 : w2.frozen? ⟨w.heap.size, 0, none⟩ = false := by simp [World.frozen?, hb2]
    have z1 : w2.cell? ⟨w.heap.size, 1, none⟩ = some (.int .i64 j) := by simp [World.cell?, hb2]
    have zf1 : w2.frozen? ⟨w.heap.size, 1, none⟩ = false := by simp [World.frozen?, hb2]
    have z2 : w2.cell? ⟨w.heap.size, 2, none⟩ = some (.int .i64 m) := by simp [World.cell?, hb2]
    have zf2 : w2.frozen? ⟨w.heap.size, 2, none⟩ = false := by simp [World.frozen?, hb2]
    have z3 : w2.cell? ⟨w.heap.size, 3, none⟩ = some (.int .i64 g) := by simp [World.cell?, hb2]
    have zf3 : w2.frozen? ⟨w.heap.size, 3, none⟩ = false := by simp [World.frozen?, hb2]
    have z4 : w2.cell? ⟨w.heap.size, 4, none⟩ = some (.int .i64 o) := by simp [World.cell?, hb2]
    have zf4 : w2.frozen? ⟨w.heap.size, 4, none⟩ = false := by simp [World.frozen?, hb2]
    have u0 : w2.cell? ⟨w.heap.size + 1, 0, none⟩ = some (.int .i64 0) := by simp [World.cell?, hd2]
    have uf0 : w2.frozen? ⟨w.heap.size + 1, 0, none⟩ = false := by simp [World.frozen?, hd2]
    have u1 : w2.cell? ⟨w.heap.size + 1, 1, none⟩ = some (.int .i64 0) := by simp [World.cell?, hd2]
    have uf1 : w2.frozen? ⟨w.heap.size + 1, 1, none⟩ = false := by simp [World.frozen?, hd2]
    have u2 : w2.cell? ⟨w.heap.size + 1, 2, none⟩ = some (.int .i64 0) := by simp [World.cell?, hd2]
    have uf2 : w2.frozen? ⟨w.heap.size + 1, 2, none⟩ = false := by simp [World.frozen?, hd2]
    have u3 : w2.cell? ⟨w.heap.size + 1, 3, none⟩ = some (.int .i64 0) := by simp [World.cell?, hd2]
    have uf3 : w2.frozen? ⟨w.heap.size + 1, 3, none⟩ = false := by simp [World.frozen?, hd2]
    have u4 : w2.cell? ⟨w.heap.size + 1, 4, none⟩ = some (.int .i64 0) := by simp [World.cell?, hd2]
    have uf4 : w2.frozen? ⟨w.heap.size + 1, 4, none⟩ = false := by simp [World.frozen?, hd2]
    clear hb0 hb1 hb2 hd0 hd1 hd2 hk2 ht0 ht1 ht2 hT1 hCa hC1 hC2a hl2
    generalize w1.heap.size = r at *
    go_wp2_with fail
    refine bodyPost_ret (v := .agg #[.int .i64 y2, .int .i64 j, .int .i64 m, .int .i64 g, .int .i64 o]) (by simp [results, Tryd.results93, go_sem, *]) rfl ⟨y2, j, m, g, o, rfl, ?_⟩
    refine (fun hX => ⟨CurAt.fin HC.out hC2 hX ?_, hX⟩) ?_
    · exact ((((((hT.setOwn (by omega) _ _).setOwn (by omega) _ _).setOwn (by omega) _ _).setOwn (by omega) _ _).setOwn (by omega) _ _).setOwn (by omega) _ _)
    · exact (hpSet (hpSet (hpSet (hpSet (hpSet (hpSet rfl (by omega)) (by omega)) (by omega)) (by omega)) (by omega)) (by omega))
  · have hq : x = 1 := by omega
    subst hq
    go_wp2_with fail
    have hC2a := hC1.on ((Below.refl w1.heap.size w1).alloc (Nat.le_refl _) (.cells #[.int .i64 (-1), .int .i64 1000, .int .i64 1001] 3))
    have hl2 : Hid ((w1.alloc (.cells #[.int .i64 (-1), .int .i64 1000, .int .i64 1001] 3)).heap[w1.heap.size]? = some (.cells #[.int .i64 (-1), .int .i64 1000, .int .i64 1001] 3)) := newBlk _ _ rfl
    have hp2 := hC1.lt
    refine (pick_c _ 3 _ hC2a (by omega) (by omega) (by omega)).mono ?_
    rintro e w2 ⟨q2, rfl, q20, q21, hC2, ht2⟩
    obtain ⟨k2, rfl⟩ := Int.eq_ofNat_of_zero_le q20
    have hk2 : w2.heap[w1.heap.size]? = some (.cells #[.int .i64 (-1), .int .i64 1000, .int .i64 1001] 3) := ht2.blk (by omega) hl2.out
    obtain ⟨y2, hy2⟩ : ∃ y : Int, w2.cell? ⟨w1.heap.size, k2, none⟩ = some (.int .i64 y) := by
      rcases (by omega : k2 = 0 ∨ k2 = 1 ∨ k2 = 2) with rfl | rfl | rfl <;> exact ⟨_, by simp [World.cell?, hk2]; rfl⟩
    have hb2 : w2.heap[w.heap.size]? = some (.cells #[.int .i64 s, .int .i64 j, .int .i64 m, .int .i64 g, .int .i64 o] 24) := ht2.blk (by omega) (oldBlk hb1.out _)
    have hd2 : w2.heap[w.heap.size + 1]? = some (.cells #[.int .i64 0, .int .i64 0, .int .i64 0, .int .i64 0, .int .i64 0] 24) := ht2.blk (by omega) (oldBlk hd1.out _)
    have hT : Turns p w w2 := (hT1.alloc _).trans ht2
    have z0 : w2.cell? ⟨w.heap.size, 0, none⟩ = some (.int .i64 s) := by simp [World.cell?, hb2]
    have zf0 : w2.frozen? ⟨w.heap.size, 0, none⟩ = false := by simp [World.frozen?, hb2]
    have z1 : w2.cell? ⟨w.heap.size, 1, none⟩ = some (.int .i64 j) := by simp [World.cell?, hb2]
    have zf1 : w2.frozen? ⟨w.heap.size, 1, none⟩ = false := by simp [World.frozen?, hb2]
    have z2 : w2.cell? ⟨w.heap.size, 2, none⟩ = some (.int .i64 m) := by simp [World.cell?, hb2]
    have zf2 : w2.frozen? ⟨w.heap.size, 2, none⟩ = false := by simp [World.frozen?, hb2]
    have z3 : w2.cell? ⟨w.heap.size, 3, none⟩ = some (.int .i64 g) := by simp [World.cell?, hb2]
    have zf3 : w2.frozen? ⟨w.heap.size, 3, none⟩ = false := by simp [World.frozen?, hb2]
    have z4 : w2.cell? ⟨w.heap.size, 4, none⟩ = some (.int .i64 o) := by simp [World.cell?, hb2]
    have zf4 : w2.frozen? ⟨w.heap.size, 4, none⟩ = false := by simp [World.frozen?, hb2]
    have u0 : w2.cell? ⟨w.heap.size + 1, 0, none⟩ = some (.int .i64 0) := by simp [World.cell?, hd2]
    have uf0 : w2.frozen? ⟨w.heap.size + 1, 0, none⟩ = false := by simp [World.frozen?, hd2]
    have u1 : w2.cell? ⟨w.heap.size + 1, 1, none⟩ = some (.int .i64 0) := by simp [World.cell?, hd2]
    have uf1 : w2.frozen? ⟨w.heap.size + 1, 1, none⟩ = false := by simp [World.frozen?, hd2]
    have u2 : w2.cell? ⟨w.heap.size + 1, 2, none⟩ = some (.int .i64 0) := by simp [World.cell?, hd2]
    have uf2 : w2.frozen? ⟨w.heap.size + 1, 2, none⟩ = false := by simp [World.frozen?, hd2]
    have u3 : w2.cell? ⟨w.heap.size + 1, 3, none⟩ = some (.int .i64 0) := by simp [World.cell?, hd2]
    have uf3 : w2.frozen? ⟨w.heap.size + 1, 3, none⟩ = false := by simp [World.frozen?, hd2]
    have u4 : w2.cell? ⟨w.heap.size + 1, 4, none⟩ = some (.int .i64 0) := by simp [World.cell?, hd2]
    have uf4 : w2.frozen? ⟨w.heap.size + 1, 4, none⟩ = false := by simp [World.frozen?, hd2]
    clear hb0 hb1 hb2 hd0 hd1 hd2 hk2 ht0 ht1 ht2 hT1 hCa hC1 hC2a hl2
    generalize w1.heap.size = r at *
    go_wp2_with fail
    refine bodyPost_ret (v := .agg #[.int .i64 s, .int .i64 y2, .int .i64 m, .int .i64 g, .int .i64 o]) (by simp [results, Tryd.results93, go_sem, *]) rfl ⟨s, y2, m, g, o, rfl, ?_⟩
    refine (fun hX => ⟨CurAt.fin HC.out hC2 hX ?_, hX⟩) ?_
    · exact ((((((hT.setOwn (by omega) _ _).setOwn (by omega) _ _).setOwn (by omega) _ _).setOwn (by omega) _ _).setOwn (by omega) _ _).setOwn (by omega) _ _)
    · exact (hpSet (hpSet (hpSet (hpSet (hpSet (hpSet rfl (by omega)) (by omega)) (by omega)) (by omega)) (by omega)) (by omega))
  · have hq : x = 2 := by omega
    subst hq
    go_wp2_with fail
    have hC2a := hC1.on ((Below.refl w1.heap.size w1).alloc (Nat.le_refl _) (.cells #[.int .i64 (-1), .int .i64 10000, .int .i64 10001] 3))
    have hl2 : Hid ((w1.alloc (.cells #[.int .i64 (-1), .int .i64 10000, .int .i64 10001] 3)).heap[w1.heap.size]? = some (.cells #[.int .i64 (-1), .int .i64 10000, .int .i64 10001] 3)) := newBlk _ _ rfl
    have hp2 := hC1.lt
    refine (pick_c _ 3 _ hC2a (by omega) (by omega) (by omega)).mono ?_
    rintro e w2 ⟨q2, rfl, q20, q21, hC2, ht2⟩
    obtain ⟨k2, rfl⟩ := Int.eq_ofNat_of_zero_le q20
    have hk2 : w2.heap[w1.heap.size]? = some (.cells #[.int .i64 (-1), .int .i64 10000, .int .i64 10001] 3) := ht2.blk (by omega) hl2.out
    obtain ⟨y2, hy2⟩ : ∃ y : Int, w2.cell? ⟨w1.heap.size, k2, none⟩ = some (.int .i64 y) := by
      rcases (by omega : k2 = 0 ∨ k2 = 1 ∨ k2 = 2) with rfl | rfl | rfl <;> exact ⟨_, by simp [World.cell?, hk2]; rfl⟩
    have hb2 : w2.heap[w.heap.size]? = some (.cells #[.int .i64 s, .int .i64 j, .int .i64 m, .int .i64 g, .int .i64 o] 24) := ht2.blk (by omega) (oldBlk hb1.out _)
    have hd2 : w2.heap[w.heap.size + 1]? = some (.cells #[.int .i64 0, .int .i64 0, .int .i64 0, .int .i64 0, .int .i64 0] 24) := ht2.blk (by omega) (oldBlk hd1.out _)
    have hT : Turns p w w2 := (hT1.alloc _).trans ht2
    have z0 : w2.cell? ⟨w.heap.size, 0, none⟩ = some (.int .i64 s) := by simp [World.cell?, hb2]
    have zf0 : w2.frozen? ⟨w.heap.size, 0, none⟩ = false := by simp [World.frozen?, hb2]
    have z1 : w2.cell? ⟨w.heap.size, 1, none⟩ = some (.int .i64 j) := by simp [World.cell?, hb2]
    have zf1 : w2.frozen? ⟨w.heap.size, 1, none⟩ = false := by simp [World.frozen?, hb2]
    have z2 : w2.cell? ⟨w.heap.size, 2, none⟩ = some (.int .i64 m) := by simp [World.cell?, hb2]
    have zf2 : w2.frozen? ⟨w.heap.size, 2, none⟩ = false := by simp [World.frozen?, hb2]
    have z3 : w2.cell? ⟨w.heap.size, 3, none⟩ = some (.int .i64 g) := by simp [World.cell?, hb2]
    have zf3 : w2.frozen? ⟨w.heap.size, 3, none⟩ = false := by simp [World.frozen?, hb2]
    have z4 : w2.cell? ⟨w.heap.size, 4, none⟩ = some (.int .i64 o) := by simp [World.cell?, hb2]
    have zf4 : w2.frozen? ⟨w.heap.size, 4, none⟩ = false := by simp [World.frozen?, hb2]
    have u0 : w2.cell? ⟨w.heap.size + 1, 0, none⟩ = some (.int .i64 0) := by simp [World.cell?, hd2]
    have uf0 : w2.frozen? ⟨w.heap.size + 1, 0, none⟩ = false := by simp [World.frozen?, hd2]
    have u1 : w2.cell? ⟨w.heap.size + 1, 1, none⟩ = some (.int .i64 0) := by simp [World.cell?, hd2]
    have uf1 : w2.frozen? ⟨w.heap.size + 1, 1, none⟩ = false := by simp [World.frozen?, hd2]
    have u2 : w2.cell? ⟨w.heap.size + 1, 2, none⟩ = some (.int .i64 0) := by simp [World.cell?, hd2]
    have uf2 : w2.frozen? ⟨w.heap.size + 1, 2, none⟩ = false := by simp [World.frozen?, hd2]
    have u3 : w2.cell? ⟨w.heap.size + 1, 3, none⟩ = some (.int .i64 0) := by simp [World.cell?, hd2]
    have uf3 : w2.frozen? ⟨w.heap.size + 1, 3, none⟩ = false := by simp [World.frozen?, hd2]
    have u4 : w2.cell? ⟨w.heap.size + 1, 4, none⟩ = some (.int .i64 0) := by simp [World.cell?, hd2]
    have uf4 : w2.frozen? ⟨w.heap.size + 1, 4, none⟩ = false := by simp [World.frozen?, hd2]
    clear hb0 hb1 hb2 hd0 hd1 hd2 hk2 ht0 ht1 ht2 hT1 hCa hC1 hC2a hl2
    generalize w1.heap.size = r at *
    go_wp2_with fail
    refine bodyPost_ret (v := .agg #[.int .i64 s, .int .i64 j, .int .i64 y2, .int .i64 g, .int .i64 o]) (by simp [results, Tryd.results93, go_sem, *]) rfl ⟨s, j, y2, g, o, rfl, ?_⟩
    refine (fun hX => ⟨CurAt.fin HC.out hC2 hX ?_, hX⟩) ?_
    · exact ((((((hT.setOwn (by omega) _ _).setOwn (by omega) _ _).setOwn (by omega) _ _).setOwn (by omega) _ _).setOwn (by omega) _ _).setOwn (by omega) _ _)
    · exact (hpSet (hpSet (hpSet (hpSet (hpSet (hpSet rfl (by omega)) (by omega)) (by omega)) (by omega)) (by omega)) (by omega))
  · have hq : x = 3 := by omega
    subst hq
    go_wp2_with fail
    have hC2a := hC1.on ((Below.refl w1.heap.size w1).alloc (Nat.le_refl _) (.cells #[.int .i64 0, .int .i64 1, .int .i64 1000000, .int .i64 1000001] 3))
    have hl2 : Hid ((w1.alloc (.cells #[.int .i64 0, .int .i64 1, .int .i64 1000000, .int .i64 1000001] 3)).heap[w1.heap.size]? = some (.cells #[.int .i64 0, .int .i64 1, .int .i64 1000000, .int .i64 1000001] 3)) := newBlk _ _ rfl
    have hp2 := hC1.lt
    refine (pick_c _ 4 _ hC2a (by omega) (by omega) (by omega)).mono ?_
    rintro e w2 ⟨q2, rfl, q20, q21, hC2, ht2⟩
    obtain ⟨k2, rfl⟩ := Int.eq_ofNat_of_zero_le q20
    have hk2 : w2.heap[w1.heap.size]? = some (.cells #[.int .i64 0, .int .i64 1, .int .i64 1000000, .int .i64 1000001] 3) := ht2.blk (by omega) hl2.out
    obtain ⟨y2, hy2⟩ : ∃ y : Int, w2.cell? ⟨w1.heap.size, k2, none⟩ = some (.int .i64 y) := by
      rcases (by omega : k2 = 0 ∨ k2 = 1 ∨ k2 = 2 ∨ k2 = 3) with rfl | rfl | rfl | rfl <;> exact ⟨_, by simp [World.cell?, hk2]; rfl⟩
    have hb2 : w2.heap[w.heap.size]? = some (.cells #[.int .i64 s, .int .i64 j, .int .i64 m, .int .i64 g, .int .i64 o] 24) := ht2.blk (by omega) (oldBlk hb1.out _)
    have hd2 : w2.heap[w.heap.size + 1]? = some (.cells #[.int .i64 0, .int .i64 0, .int .i64 0, .int .i64 0, .int .i64 0] 24) := ht2.blk (by omega) (oldBlk hd1.out _)
    have hT : Turns p w w2 := (hT1.alloc _).trans ht2
    have z0 : w2.cell? ⟨w.heap.size, 0, none⟩ = some (.int .i64 s) := by simp [World.cell?, hb2]
    have zf0 : w2.frozen? ⟨w.heap.size, 0, none⟩ = false := by simp [World.frozen?, hb2]
    have z1 : w2.cell? ⟨w.heap.size, 1, none⟩ = some (.int .i64 j) := by simp [World.cell?, hb2]
    have zf1 : w2.frozen? ⟨w.heap.size, 1, none⟩ = false := by simp [World.frozen?, hb2]
    have z2 : w2.cell? ⟨w.heap.size, 2, none⟩ = some (.int .i64 m) := by simp [World.cell?, hb2]
    have zf2 : w2.frozen? ⟨w.heap.size, 2, none⟩ = false := by simp [World.frozen?, hb2]
    have z3 : w2.cell? ⟨w.heap.size, 3, none⟩ = some (.int .i64 g) := by simp [World.cell?, hb2]
    have zf3 : w2.frozen? ⟨w.heap.size, 3, none⟩ = false := by simp [World.frozen?, hb2]
    have z4 : w2.cell? ⟨w.heap.size, 4, none⟩ = some (.int .i64 o) := by simp [World.cell?, hb2]
    have zf4 : w2.frozen? ⟨w.heap.size, 4, none⟩ = false := by simp [World.frozen?, hb2]
    have u0 : w2.cell? ⟨w.heap.size + 1, 0, none⟩ = some (.int .i64 0) := by simp [World.cell?, hd2]
    have uf0 : w2.frozen? ⟨w.heap.size + 1, 0, none⟩ = false := by simp [World.frozen?, hd2]
    have u1 : w2.cell? ⟨w.heap.size + 1, 1, none⟩ = some (.int .i64 0) := by simp [World.cell?, hd2]
    have uf1 : w2.frozen? ⟨w.heap.size + 1, 1, none⟩ = false := by simp [World.frozen?, hd2]
    have u2 : w2.cell? ⟨w.heap.size + 1, 2, none⟩ = some (.int .i64 0) := by simp [World.cell?, hd2]
    have uf2 : w2.frozen? ⟨w.heap.size + 1, 2, none⟩ = false := by simp [World.frozen?, hd2]
    have u3 : w2.cell? ⟨w.heap.size + 1, 3, none⟩ = some (.int .i64 0) := by simp [World.cell?, hd2]
    have uf3 : w2.frozen? ⟨w.heap.size + 1, 3, none⟩ = false := by simp [World.frozen?, hd2]
    have u4 : w2.cell? ⟨w.heap.size + 1, 4, none⟩ = some (.int .i64 0) := by simp [World.cell?, hd2]
    have uf4 : w2.frozen? ⟨w.heap.size + 1, 4, none⟩ = false := by simp [World.frozen?, hd2]
    clear hb0 hb1 hb2 hd0 hd1 hd2 hk2 ht0 ht1 ht2 hT1 hCa hC1 hC2a hl2
    generalize w1.heap.size = r at *
    go_wp2_with fail
    refine bodyPost_ret (v := .agg #[.int .i64 s, .int .i64 j, .int .i64 m, .int .i64 y2, .int .i64 o]) (by simp [results, Tryd.results93, go_sem, *]) rfl ⟨s, j, m, y2, o, rfl, ?_⟩
    refine (fun hX => ⟨CurAt.fin HC.out hC2 hX ?_, hX⟩) ?_
    · exact ((((((hT.setOwn (by omega) _ _).setOwn (by omega) _ _).setOwn (by omega) _ _).setOwn (by omega) _ _).setOwn (by omega) _ _).setOwn (by omega) _ _)
    · exact (hpSet (hpSet (hpSet (hpSet (hpSet (hpSet rfl (by omega)) (by omega)) (by omega)) (by omega)) (by omega)) (by omega))
  · have hq : x = 4 := by omega
    subst hq
    go_wp2_with fail
    have hC2a := hC1.on ((Below.refl w1.heap.size w1).alloc (Nat.le_refl _) (.cells #[.int .i64 (-1), .int .i64 10000, .int .i64 10001, .int .i64 500] 3))
    have hl2 : Hid ((w1.alloc (.cells #[.int .i64 (-1), .int .i64 10000, .int .i64 10001, .int .i64 500] 3)).heap[w1.heap.size]? = some (.cells #[.int .i64 (-1), .int .i64 10000, .int .i64 10001, .int .i64 500] 3)) := newBlk _ _ rfl
    have hp2 := hC1.lt
    refine (pick_c _ 4 _ hC2a (by omega) (by omega) (by omega)).mono ?_
    rintro e w2 ⟨q2, rfl, q20, q21, hC2, ht2⟩
    obtain ⟨k2, rfl⟩ := Int.eq_ofNat_of_zero_le q20
    have hk2 : w2.heap[w1.heap.size]? = some (.cells #[.int .i64 (-1), .int .i64 10000, .int .i64 10001, .int .i64 500] 3) := ht2.blk (by omega) hl2.out
    obtain ⟨y2, hy2⟩ : ∃ y : Int, w2.cell? ⟨w1.heap.size, k2, none⟩ = some (.int .i64 y) := by
      rcases (by omega : k2 = 0 ∨ k2 = 1 ∨ k2 = 2 ∨ k2 = 3) with rfl | rfl | rfl | rfl <;> exact ⟨_, by simp [World.cell?, hk2]; rfl⟩
    have hb2 : w2.heap[w.heap.size]? = some (.cells #[.int .i64 s, .int .i64 j, .int .i64 m, .int .i64 g, .int .i64 o] 24) := ht2.blk (by omega) (oldBlk hb1.out _)
    have hd2 : w2.heap[w.heap.size + 1]? = some (.cells #[.int .i64 0, .int .i64 0, .int .i64 0, .int .i64 0, .int .i64 0] 24) := ht2.blk (by omega) (oldBlk hd1.out _)
    have hT : Turns p w w2 := (hT1.alloc _).trans ht2
    have z0 : w2.cell? ⟨w.heap.size, 0, none⟩ = some (.int .i64 s) := by simp [World.cell?, hb2]
    have zf0 : w2.frozen? ⟨w.heap.size, 0, none⟩ = false := by simp [World.frozen?, hb2]
    have z1 : w2.cell? ⟨w.heap.size, 1, none⟩ = some (.int .i64 j) := by simp [World.cell?, hb2]
    have zf1 : w2.frozen? ⟨w.heap.size, 1, none⟩ = false := by simp [World.frozen?, hb2]
    have z2 : w2.cell? ⟨w.heap.size, 2, none⟩ = some (.int .i64 m) := by simp [World.cell?, hb2]
    have zf2 : w2.frozen? ⟨w.heap.size, 2, none⟩ = false := by simp [World.frozen?, hb2]
    have z3 : w2.cell? ⟨w.heap.size, 3, none⟩ = some (.int .i64 g) := by simp [World.cell?, hb2]
    have zf3 : w2.frozen? ⟨w.heap.size, 3, none⟩ = false := by simp [World.frozen?, hb2]
    have z4 : w2.cell? ⟨w.heap.size, 4, none⟩ = some (.int .i64 o) := by simp [World.cell?, hb2]
    have zf4 : w2.frozen? ⟨w.heap.size, 4, none⟩ = false := by simp [World.frozen?, hb2]
    have u0 : w2.cell? ⟨w.heap.size + 1, 0, none⟩ = some (.int .i64 0) := by simp [World.cell?, hd2]
    have uf0 : w2.frozen? ⟨w.heap.size + 1, 0, none⟩ = false := by simp [World.frozen?, hd2]
    have u1 : w2.cell? ⟨w.heap.size + 1, 1, none⟩ = some (.int .i64 0) := by simp [World.cell?, hd2]
    have uf1 : w2.frozen? ⟨w.heap.size + 1, 1, none⟩ = false := by simp [World.frozen?, hd2]
    have u2 : w2.cell? ⟨w.heap.size + 1, 2, none⟩ = some (.int .i64 0) := by simp [World.cell?, hd2]
    have uf2 : w2.frozen? ⟨w.heap.size + 1, 2, none⟩ = false := by simp [World.frozen?, hd2]
    have u3 : w2.cell? ⟨w.heap.size + 1, 3, none⟩ = some (.int .i64 0) := by simp [World.cell?, hd2]
    have uf3 : w2.frozen? ⟨w.heap.size + 1, 3, none⟩ = false := by simp [World.frozen?, hd2]
    have u4 : w2.cell? ⟨w.heap.size + 1, 4, none⟩ = some (.int .i64 0) := by simp [World.cell?, hd2]
    have uf4 : w2.frozen? ⟨w.heap.size + 1, 4, none⟩ = false := by simp [World.frozen?, hd2]
    clear hb0 hb1 hb2 hd0 hd1 hd2 hk2 ht0 ht1 ht2 hT1 hCa hC1 hC2a hl2
    generalize w1.heap.size = r at *
    go_wp2_with fail
    refine bodyPost_ret (v := .agg #[.int .i64 s, .int .i64 j, .int .i64 m, .int .i64 g, .int .i64 y2]) (by simp [results, Tryd.results93, go_sem, *]) rfl ⟨s, j, m, g, y2, rfl, ?_⟩
    refine (fun hX => ⟨CurAt.fin HC.out hC2 hX ?_, hX⟩) ?_
    · exact ((((((hT.setOwn (by omega) _ _).setOwn (by omega) _ _).setOwn (by omega) _ _).setOwn (by omega) _ _).setOwn (by omega) _ _).setOwn (by omega) _ _)
    · exact (hpSet (hpSet (hpSet (hpSet (hpSet (hpSet rfl (by omega)) (by omega)) (by omega)) (by omega)) (by omega)) (by omega))

end Go.Proofs.YtmhppadblddjoaaDoor

/- The draws of a run: rules, a bound, an event, whatever they are. -/
namespace Go.Proofs.YtmhppadblddjoaaDoor
open Go.RowKit
set_option linter.unusedVariables false

set_option maxRecDepth 100000 in
set_option maxHeartbeats 2000000 in
theorem l5rules_d {p : Nat} {a0 : Option Addr} {len cap : Nat} (K : Nat) (w : World) (hC : CurAt p a0 len cap K w) (hK : K ≤ 9980000) :
    Calls Tryd.prog 68 #[.pointer (some ⟨p, 0, none⟩)] w fun e w' => ∃ s j m g o : Int, e = .returned (.agg #[.int .i64 s, .int .i64 j, .int .i64 m, .int .i64 g, .int .i64 o]) ∧ CurAt p a0 len cap (K + 20) w' ∧ Turns p w w' := by
  have hlt := hC.lt
  have HC : Hid (CurAt p a0 len cap K w) := hC
  have hCa := hC.on ((Below.refl w.heap.size w).alloc (Nat.le_refl _) (.cells #[.int .i64 0, .int .i64 0, .int .i64 0, .int .i64 0, .int .i64 0] 24))
  have hb0 : Hid ((w.alloc (.cells #[.int .i64 0, .int .i64 0, .int .i64 0, .int .i64 0, .int .i64 0] 24)).heap[w.heap.size]? = some (.cells #[.int .i64 0, .int .i64 0, .int .i64 0, .int .i64 0, .int .i64 0] 24)) := newBlk _ _ rfl
  have ht0 : Turns p w (w.alloc (.cells #[.int .i64 0, .int .i64 0, .int .i64 0, .int .i64 0, .int .i64 0] 24)) := (Turns.refl p w).alloc _
  clear hC
  go_enter Tryd.func68, Tryd.ntmps68
  go_wp2_with fail
  refine (rules_c K _ hCa (by omega)).mono ?_
  rintro e w1 ⟨s, j, m, g, o, rfl, s0, s1, j0, j1, m0, m1, g0, g1, o0, o1, hC1, ht1⟩
  have hb1 : Hid (w1.heap[w.heap.size]? = some (.cells #[.int .i64 0, .int .i64 0, .int .i64 0, .int .i64 0, .int .i64 0] 24)) := ht1.blk (by omega) hb0.out
  have hlt1 : w.heap.size < w1.heap.size := (Array.getElem?_eq_some_iff.1 hb1.out).1
  have hp1 := hC1.lt
  have hT1 := ht0.trans ht1
  have hC1a := hC1.on ((Below.refl w1.heap.size w1).alloc (Nat.le_refl _) (.cells #[.int .i64 s, .int .i64 j, .int .i64 m, .int .i64 g, .int .i64 o] 24))
  have hr1 : Hid ((w1.alloc (.cells #[.int .i64 s, .int .i64 j, .int .i64 m, .int .i64 g, .int .i64 o] 24)).heap[w1.heap.size]? = some (.cells #[.int .i64 s, .int .i64 j, .int .i64 m, .int .i64 g, .int .i64 o] 24)) := newBlk _ _ rfl
  have hb1a : Hid ((w1.alloc (.cells #[.int .i64 s, .int .i64 j, .int .i64 m, .int .i64 g, .int .i64 o] 24)).heap[w.heap.size]? = some (.cells #[.int .i64 0, .int .i64 0, .int .i64 0, .int .i64 0, .int .i64 0] 24)) := oldBlk hb1.out _
  have hT1a := hT1.alloc (.cells #[.int .i64 s, .int .i64 j, .int .i64 m, .int .i64 g, .int .i64 o] 24)
  go_wp2_with fail
  refine (pick_c _ 16 _ hC1a (by omega) (by omega) (by omega)).mono ?_
  rintro e w2 ⟨z, rfl, z0, z1, hC2, ht2⟩
  have hr2 : w2.heap[w1.heap.size]? = some (.cells #[.int .i64 s, .int .i64 j, .int .i64 m, .int .i64 g, .int .i64 o] 24) := ht2.blk (by omega) hr1.out
  have hb2 : w2.heap[w.heap.size]? = some (.cells #[.int .i64 0, .int .i64 0, .int .i64 0, .int .i64 0, .int .i64 0] 24) := ht2.blk (by omega) hb1a.out
  have hT2 := hT1a.trans ht2
  clear hb0 hb1 hb1a hr1 ht0 ht1 ht2 hT1 hT1a hCa hC1 hC1a
  generalize w1.heap.size = r at *
  by_cases hz : z = 0
  · have HB2 : Hid (w2.heap[w.heap.size]? = some (.cells #[.int .i64 0, .int .i64 0, .int .i64 0, .int .i64 0, .int .i64 0] 24)) := hb2
    have HR2 : Hid (w2.heap[r]? = some (.cells #[.int .i64 s, .int .i64 j, .int .i64 m, .int .i64 g, .int .i64 o] 24)) := hr2
    subst hz
    have z0_ : w2.cell? ⟨r, 0, none⟩ = some (.int .i64 s) := by simp [World.cell?, hr2]
    have zf0 : w2.frozen? ⟨r, 0, none⟩ = false := by simp [World.frozen?, hr2]
    have z1_ : w2.cell? ⟨r, 1, none⟩ = some (.int .i64 j) := by simp [World.cell?, hr2]
    have zf1 : w2.frozen? ⟨r, 1, none⟩ = false := by simp [World.frozen?, hr2]
    have z2 : w2.cell? ⟨r, 2, none⟩ = some (.int .i64 m) := by simp [World.cell?, hr2]
    have zf2 : w2.frozen? ⟨r, 2, none⟩ = false := by simp [World.frozen?, hr2]
    have z3 : w2.cell? ⟨r, 3, none⟩ = some (.int .i64 g) := by simp [World.cell?, hr2]
    have zf3 : w2.frozen? ⟨r, 3, none⟩ = false := by simp [World.frozen?, hr2]
    have z4 : w2.cell? ⟨r, 4, none⟩ = some (.int .i64 o) := by simp [World.cell?, hr2]
    have zf4 : w2.frozen? ⟨r, 4, none⟩ = false := by simp [World.frozen?, hr2]
    clear hb2 hr2
    go_wp2_with fail
    refine (oddrules_d _ s j m g o _ hC2 (by omega)).mono ?_
    rintro e w3 ⟨s', j', m', g', o', rfl, hC3, ht3⟩
    have hr3 : w3.heap[r]? = some (.cells #[.int .i64 s, .int .i64 j, .int .i64 m, .int .i64 g, .int .i64 o] 24) := ht3.blk (by omega) HR2.out
    have hb3 : w3.heap[w.heap.size]? = some (.cells #[.int .i64 0, .int .i64 0, .int .i64 0, .int .i64 0, .int .i64 0] 24) := ht3.blk (by omega) HB2.out
    have hT : Turns p w w3 := hT2.trans ht3
    have hne : r ≠ w.heap.size := by omega
    clear z0_ zf0 z1_ zf1 z2 zf2 z3 zf3 z4 zf4
    have z0_ : w3.cell? ⟨r, 0, none⟩ = some (.int .i64 s) := by simp [World.cell?, hr3]
    have zf0 : w3.frozen? ⟨r, 0, none⟩ = false := by simp [World.frozen?, hr3]
    have z1_ : w3.cell? ⟨r, 1, none⟩ = some (.int .i64 j) := by simp [World.cell?, hr3]
    have zf1 : w3.frozen? ⟨r, 1, none⟩ = false := by simp [World.frozen?, hr3]
    have z2 : w3.cell? ⟨r, 2, none⟩ = some (.int .i64 m) := by simp [World.cell?, hr3]
    have zf2 : w3.frozen? ⟨r, 2, none⟩ = false := by simp [World.frozen?, hr3]
    have z3 : w3.cell? ⟨r, 3, none⟩ = some (.int .i64 g) := by simp [World.cell?, hr3]
    have zf3 : w3.frozen? ⟨r, 3, none⟩ = false := by simp [World.frozen?, hr3]
    have z4 : w3.cell? ⟨r, 4, none⟩ = some (.int .i64 o) := by simp [World.cell?, hr3]
    have zf4 : w3.frozen? ⟨r, 4, none⟩ = false := by simp [World.frozen?, hr3]
    have u0 : w3.cell? ⟨w.heap.size, 0, none⟩ = some (.int .i64 0) := by simp [World.cell?, hb3]
    have uf0 : w3.frozen? ⟨w.heap.size, 0, none⟩ = false := by simp [World.frozen?, hb3]
    have u1 : w3.cell? ⟨w.heap.size, 1, none⟩ = some (.int .i64 0) := by simp [World.cell?, hb3]
    have uf1 : w3.frozen? ⟨w.heap.size, 1, none⟩ = false := by simp [World.frozen?, hb3]
    have u2 : w3.cell? ⟨w.heap.size, 2, none⟩ = some (.int .i64 0) := by simp [World.cell?, hb3]
    have uf2 : w3.frozen? ⟨w.heap.size, 2, none⟩ = false := by simp [World.frozen?, hb3]
    have u3 : w3.cell? ⟨w.heap.size, 3, none⟩ = some (.int .i64 0) := by simp [World.cell?, hb3]
    have uf3 : w3.frozen? ⟨w.heap.size, 3, none⟩ = false := by simp [World.frozen?, hb3]
    have u4 : w3.cell? ⟨w.heap.size, 4, none⟩ = some (.int .i64 0) := by simp [World.cell?, hb3]
    have uf4 : w3.frozen? ⟨w.heap.size, 4, none⟩ = false := by simp [World.frozen?, hb3]
    clear hr3 hb3 HB2 HR2 hT2 ht3 hC2
    go_wp2_with fail
    refine bodyPost_ret (v := .agg #[.int .i64 s', .int .i64 j', .int .i64 m', .int .i64 g', .int .i64 o']) (by simp [results, Tryd.results68, go_sem, *]) rfl ⟨s', j', m', g', o', rfl, ?_⟩
    refine (fun hX => ⟨CurAt.fin (HC.out.le (by omega)) (hC3.le (by omega)) hX ?_, hX⟩) ?_
    · exact ((((((((((hT.setOwn (by omega) _ _).setOwn (by omega) _ _).setOwn (by omega) _ _).setOwn (by omega) _ _).setOwn (by omega) _ _).setOwn (by omega) _ _).setOwn (by omega) _ _).setOwn (by omega) _ _).setOwn (by omega) _ _).setOwn (by omega) _ _)
    · exact (hpSet (hpSet (hpSet (hpSet (hpSet (hpSet (hpSet (hpSet (hpSet (hpSet rfl (by omega)) (by omega)) (by omega)) (by omega)) (by omega)) (by omega)) (by omega)) (by omega)) (by omega)) (by omega))

  · have hzb : (z == 0) = false := by simpa using hz
    have hne : r ≠ w.heap.size := by omega
    have hT := hT2
    have z0_ : w2.cell? ⟨r, 0, none⟩ = some (.int .i64 s) := by simp [World.cell?, hr2]
    have zf0 : w2.frozen? ⟨r, 0, none⟩ = false := by simp [World.frozen?, hr2]
    have z1_ : w2.cell? ⟨r, 1, none⟩ = some (.int .i64 j) := by simp [World.cell?, hr2]
    have zf1 : w2.frozen? ⟨r, 1, none⟩ = false := by simp [World.frozen?, hr2]
    have z2 : w2.cell? ⟨r, 2, none⟩ = some (.int .i64 m) := by simp [World.cell?, hr2]
    have zf2 : w2.frozen? ⟨r, 2, none⟩ = false := by simp [World.frozen?, hr2]
    have z3 : w2.cell? ⟨r, 3, none⟩ = some (.int .i64 g) := by simp [World.cell?, hr2]
    have zf3 : w2.frozen? ⟨r, 3, none⟩ = false := by simp [World.frozen?, hr2]
    have z4 : w2.cell? ⟨r, 4, none⟩ = some (.int .i64 o) := by simp [World.cell?, hr2]
    have zf4 : w2.frozen? ⟨r, 4, none⟩ = false := by simp [World.frozen?, hr2]
    have u0 : w2.cell? ⟨w.heap.size, 0, none⟩ = some (.int .i64 0) := by simp [World.cell?, hb2]
    have uf0 : w2.frozen? ⟨w.heap.size, 0, none⟩ = false := by simp [World.frozen?, hb2]
    have u1 : w2.cell? ⟨w.heap.size, 1, none⟩ = some (.int .i64 0) := by simp [World.cell?, hb2]
    have uf1 : w2.frozen? ⟨w.heap.size, 1, none⟩ = false := by simp [World.frozen?, hb2]
    have u2 : w2.cell? ⟨w.heap.size, 2, none⟩ = some (.int .i64 0) := by simp [World.cell?, hb2]
    have uf2 : w2.frozen? ⟨w.heap.size, 2, none⟩ = false := by simp [World.frozen?, hb2]
    have u3 : w2.cell? ⟨w.heap.size, 3, none⟩ = some (.int .i64 0) := by simp [World.cell?, hb2]
    have uf3 : w2.frozen? ⟨w.heap.size, 3, none⟩ = false := by simp [World.frozen?, hb2]
    have u4 : w2.cell? ⟨w.heap.size, 4, none⟩ = some (.int .i64 0) := by simp [World.cell?, hb2]
    have uf4 : w2.frozen? ⟨w.heap.size, 4, none⟩ = false := by simp [World.frozen?, hb2]
    clear hr2 hb2 hT2
    go_wp2_with fail
    refine bodyPost_ret (v := .agg #[.int .i64 s, .int .i64 j, .int .i64 m, .int .i64 g, .int .i64 o]) (by simp [results, Tryd.results68, go_sem, *]) rfl ⟨s, j, m, g, o, rfl, ?_⟩
    refine (fun hX => ⟨CurAt.fin (HC.out.le (by omega)) (hC2.le (by omega)) hX ?_, hX⟩) ?_
    · exact (((((hT.setOwn (by omega) _ _).setOwn (by omega) _ _).setOwn (by omega) _ _).setOwn (by omega) _ _).setOwn (by omega) _ _)
    · exact (hpSet (hpSet (hpSet (hpSet (hpSet rfl (by omega)) (by omega)) (by omega)) (by omega)) (by omega))

set_option maxRecDepth 100000 in
set_option maxHeartbeats 2000000 in
theorem bound_d {p : Nat} {a0 : Option Addr} {len cap : Nat} (K : Nat) (w : World) (hC : CurAt p a0 len cap K w) (hK : K ≤ 9990000) :
    Calls Tryd.prog 70 #[.pointer (some ⟨p, 0, none⟩)] w fun e w' => ∃ x y : Int, e = .returned (.agg #[.int .i64 x, .int .i64 y]) ∧ CurAt p a0 len cap (K + 20) w' ∧ Turns p w w' := by
  have hlt := hC.lt
  have HC : Hid (CurAt p a0 len cap K w) := hC
  have hCa := hC.on ((Below.refl w.heap.size w).alloc (Nat.le_refl _) (.cells #[.int .i64 0, .int .i64 0] 27))
  have hb0 : Hid ((w.alloc (.cells #[.int .i64 0, .int .i64 0] 27)).heap[w.heap.size]? = some (.cells #[.int .i64 0, .int .i64 0] 27)) := newBlk _ _ rfl
  have ht0 : Turns p w (w.alloc (.cells #[.int .i64 0, .int .i64 0] 27)) := (Turns.refl p w).alloc _
  clear hC
  go_enter Tryd.func70, Tryd.ntmps70
  go_wp2_with fail
  refine (wide_c K 3000 _ hCa (by omega) (by omega) (by omega)).mono ?_
  rintro e w1 ⟨x, rfl, x0, x1, hC1, ht1⟩
  have wr1 : IntKind.i64.wrap (x - 300) = x - 300 := wrapS (by omega) (by omega)
  go_wp2_with fail
  refine (wide_c _ 400 _ hC1 (by omega) (by omega) (by omega)).mono ?_
  rintro e w2 ⟨y, rfl, y0, y1, hC2, ht2⟩
  go_wp2_with fail
  refine (pick_c _ 2 _ hC2 (by omega) (by omega) (by omega)).mono ?_
  rintro e w3 ⟨z, rfl, z0, z1, hC3, ht3⟩
  have hT3 := ((ht0.trans ht1).trans ht2).trans ht3
  have hb3 : Hid (w3.heap[w.heap.size]? = some (.cells #[.int .i64 0, .int .i64 0] 27)) := (ht1.trans (ht2.trans ht3)).blk (by omega) hb0.out
  have hlt3 : w.heap.size < w3.heap.size := (Array.getElem?_eq_some_iff.1 hb3.out).1
  have hp3 := hC3.lt
  obtain ⟨Q, hQ, hQ0, hQ1⟩ : ∃ Q, y * z = Q ∧ 0 ≤ Q ∧ Q ≤ 399 := by
    refine ⟨_, rfl, Int.mul_nonneg y0 z0, ?_⟩
    have h1 : y * z ≤ y * 1 := Int.mul_le_mul_of_nonneg_left (by omega) y0
    omega
  obtain ⟨A, hA⟩ : ∃ A, x - 300 = A := ⟨_, rfl⟩
  obtain ⟨B, hB⟩ : ∃ B, A + Q = B := ⟨_, rfl⟩
  have hAb : -300 ≤ A ∧ A ≤ 3000 ∧ -300 ≤ B ∧ B ≤ 4000 := by omega
  have wr2 : IntKind.i64.wrap (y * z) = Q := by rw [hQ]; exact wrapS (by omega) (by omega)
  have wr3 : IntKind.i64.wrap (A + Q) = B := by rw [hB]; exact wrapS (by omega) (by omega)
  have HQ : Hid (y * z = Q) := hQ
  have HB : Hid (A + Q = B) := hB
  clear hQ hB
  have hC3a := hC3.on ((Below.refl w3.heap.size w3).alloc (Nat.le_refl _) (.cells #[.int .i64 A, .int .i64 B] 27))
  have hd3 : Hid ((w3.alloc (.cells #[.int .i64 A, .int .i64 B] 27)).heap[w3.heap.size]? = some (.cells #[.int .i64 A, .int .i64 B] 27)) := newBlk _ _ rfl
  have hb3a : Hid ((w3.alloc (.cells #[.int .i64 A, .int .i64 B] 27)).heap[w.heap.size]? = some (.cells #[.int .i64 0, .int .i64 0] 27)) := oldBlk hb3.out _
  have hT3a := hT3.alloc (.cells #[.int .i64 A, .int .i64 B] 27)
  go_wp2_with fail
  refine (pick_c _ 24 _ hC3a (by omega) (by omega) (by omega)).mono ?_
  rintro e w4 ⟨q, rfl, q0, q1, hC4, ht4⟩
  have HB4 : Hid (w4.heap[w.heap.size]? = some (.cells #[.int .i64 0, .int .i64 0] 27)) := ht4.blk (by omega) hb3a.out
  have HD4 : Hid (w4.heap[w3.heap.size]? = some (.cells #[.int .i64 A, .int .i64 B] 27)) := ht4.blk (by omega) hd3.out
  have hT4 := hT3a.trans ht4
  have hne : w3.heap.size ≠ w.heap.size := by omega
  clear hb0 hb3 hb3a hd3 ht0 ht1 ht2 ht3 ht4 hT3 hT3a hCa hC1 hC2 hC3 hC3a wr1 wr2 wr3 hA HQ HB
  generalize w3.heap.size = r at *
  rcases (by omega : q = 0 ∨ q = 1 ∨ q = 2 ∨ q = 3 ∨ 4 ≤ q) with hq | hq | hq | hq | hq
  · subst hq
    have hb5 : w4.heap[w.heap.size]? = some (.cells #[.int .i64 0, .int .i64 0] 27) := HB4.out
    have hd5 : w4.heap[r]? = some (.cells #[.int .i64 A, .int .i64 B] 27) := HD4.out
    have hT := hT4
    have wa : IntKind.i64.wrap (A - 1) = A - 1 := wrapS (by omega) (by omega)
    have u0 : w4.cell? ⟨w.heap.size, 0, none⟩ = some (.int .i64 0) := by simp [World.cell?, hb5]
    have uf0 : w4.frozen? ⟨w.heap.size, 0, none⟩ = false := by simp [World.frozen?, hb5]
    have u1 : w4.cell? ⟨w.heap.size, 1, none⟩ = some (.int .i64 0) := by simp [World.cell?, hb5]
    have uf1 : w4.frozen? ⟨w.heap.size, 1, none⟩ = false := by simp [World.frozen?, hb5]
    have v0 : w4.cell? ⟨r, 0, none⟩ = some (.int .i64 A) := by simp [World.cell?, hd5]
    have vf0 : w4.frozen? ⟨r, 0, none⟩ = false := by simp [World.frozen?, hd5]
    have v1 : w4.cell? ⟨r, 1, none⟩ = some (.int .i64 B) := by simp [World.cell?, hd5]
    have vf1 : w4.frozen? ⟨r, 1, none⟩ = false := by simp [World.frozen?, hd5]
    clear hb5 hd5 HB4 HD4 hT4
    go_wp2_with fail
    refine bodyPost_ret (v := .agg #[.int .i64 A, .int .i64 (A - 1)]) (by simp [results, Tryd.results70, go_sem, *]) rfl ⟨A, A - 1, rfl, ?_⟩
    refine (fun hX => ⟨CurAt.fin (HC.out.le (by omega)) (hC4.le (by omega)) hX ?_, hX⟩) ?_
    · exact (((hT.setOwn (by omega) _ _).setOwn (by omega) _ _).setOwn (by omega) _ _)
    · exact (hpSet (hpSet (hpSet rfl (by omega)) (by omega)) (by omega))
  · subst hq
    go_wp2_with fail
    refine (pick_c _ 2 _ hC4 (by omega) (by omega) (by omega)).mono ?_
    rintro e w5 ⟨t, rfl, t0, t1, hC5, ht5⟩
    have hb5 : w5.heap[w.heap.size]? = some (.cells #[.int .i64 0, .int .i64 0] 27) := ht5.blk (by omega) HB4.out
    have hd5 : w5.heap[r]? = some (.cells #[.int .i64 A, .int .i64 B] 27) := ht5.blk (by omega) HD4.out
    have hT : Turns p w w5 := hT4.trans ht5
    have wa : IntKind.i64.wrap (100000000 + t) = 100000000 + t := wrapS (by omega) (by omega)
    have u0 : w5.cell? ⟨w.heap.size, 0, none⟩ = some (.int .i64 0) := by simp [World.cell?, hb5]
    have uf0 : w5.frozen? ⟨w.heap.size, 0, none⟩ = false := by simp [World.frozen?, hb5]
    have u1 : w5.cell? ⟨w.heap.size, 1, none⟩ = some (.int .i64 0) := by simp [World.cell?, hb5]
    have uf1 : w5.frozen? ⟨w.heap.size, 1, none⟩ = false := by simp [World.frozen?, hb5]
    have v0 : w5.cell? ⟨r, 0, none⟩ = some (.int .i64 A) := by simp [World.cell?, hd5]
    have vf0 : w5.frozen? ⟨r, 0, none⟩ = false := by simp [World.frozen?, hd5]
    have v1 : w5.cell? ⟨r, 1, none⟩ = some (.int .i64 B) := by simp [World.cell?, hd5]
    have vf1 : w5.frozen? ⟨r, 1, none⟩ = false := by simp [World.frozen?, hd5]
    clear hb5 hd5 HB4 HD4 ht5 hT4 hC4
    go_wp2_with fail
    refine bodyPost_ret (v := .agg #[.int .i64 A, .int .i64 (100000000 + t)]) (by simp [results, Tryd.results70, go_sem, *]) rfl ⟨A, 100000000 + t, rfl, ?_⟩
    refine (fun hX => ⟨CurAt.fin (HC.out.le (by omega)) (hC5.le (by omega)) hX ?_, hX⟩) ?_
    · exact (((hT.setOwn (by omega) _ _).setOwn (by omega) _ _).setOwn (by omega) _ _)
    · exact (hpSet (hpSet (hpSet rfl (by omega)) (by omega)) (by omega))
  · subst hq
    go_wp2_with fail
    refine (pick_c _ 2 _ hC4 (by omega) (by omega) (by omega)).mono ?_
    rintro e w5 ⟨t, rfl, t0, t1, hC5, ht5⟩
    have hb5 : w5.heap[w.heap.size]? = some (.cells #[.int .i64 0, .int .i64 0] 27) := ht5.blk (by omega) HB4.out
    have hd5 : w5.heap[r]? = some (.cells #[.int .i64 A, .int .i64 B] 27) := ht5.blk (by omega) HD4.out
    have hT : Turns p w w5 := hT4.trans ht5
    have wa : IntKind.i64.wrap (-100000000 - t) = -100000000 - t := wrapS (by omega) (by omega)
    have u0 : w5.cell? ⟨w.heap.size, 0, none⟩ = some (.int .i64 0) := by simp [World.cell?, hb5]
    have uf0 : w5.frozen? ⟨w.heap.size, 0, none⟩ = false := by simp [World.frozen?, hb5]
    have u1 : w5.cell? ⟨w.heap.size, 1, none⟩ = some (.int .i64 0) := by simp [World.cell?, hb5]
    have uf1 : w5.frozen? ⟨w.heap.size, 1, none⟩ = false := by simp [World.frozen?, hb5]
    have v0 : w5.cell? ⟨r, 0, none⟩ = some (.int .i64 A) := by simp [World.cell?, hd5]
    have vf0 : w5.frozen? ⟨r, 0, none⟩ = false := by simp [World.frozen?, hd5]
    have v1 : w5.cell? ⟨r, 1, none⟩ = some (.int .i64 B) := by simp [World.cell?, hd5]
    have vf1 : w5.frozen? ⟨r, 1, none⟩ = false := by simp [World.frozen?, hd5]
    clear hb5 hd5 HB4 HD4 ht5 hT4 hC4
    go_wp2_with fail
    refine bodyPost_ret (v := .agg #[.int .i64 (-100000000 - t), .int .i64 B]) (by simp [results, Tryd.results70, go_sem, *]) rfl ⟨-100000000 - t, B, rfl, ?_⟩
    refine (fun hX => ⟨CurAt.fin (HC.out.le (by omega)) (hC5.le (by omega)) hX ?_, hX⟩) ?_
    · exact (((hT.setOwn (by omega) _ _).setOwn (by omega) _ _).setOwn (by omega) _ _)
    · exact (hpSet (hpSet (hpSet rfl (by omega)) (by omega)) (by omega))
  · subst hq
    go_wp2_with fail
    refine (pick_c _ 3 _ hC4 (by omega) (by omega) (by omega)).mono ?_
    rintro e w5 ⟨t, rfl, t0, t1, hC5, ht5⟩
    have hb5 : w5.heap[w.heap.size]? = some (.cells #[.int .i64 0, .int .i64 0] 27) := ht5.blk (by omega) HB4.out
    have hd5 : w5.heap[r]? = some (.cells #[.int .i64 A, .int .i64 B] 27) := ht5.blk (by omega) HD4.out
    have hT : Turns p w w5 := hT4.trans ht5
    have wa : IntKind.i64.wrap (100000000 - t) = 100000000 - t := wrapS (by omega) (by omega)
    have u0 : w5.cell? ⟨w.heap.size, 0, none⟩ = some (.int .i64 0) := by simp [World.cell?, hb5]
    have uf0 : w5.frozen? ⟨w.heap.size, 0, none⟩ = false := by simp [World.frozen?, hb5]
    have u1 : w5.cell? ⟨w.heap.size, 1, none⟩ = some (.int .i64 0) := by simp [World.cell?, hb5]
    have uf1 : w5.frozen? ⟨w.heap.size, 1, none⟩ = false := by simp [World.frozen?, hb5]
    have v0 : w5.cell? ⟨r, 0, none⟩ = some (.int .i64 A) := by simp [World.cell?, hd5]
    have vf0 : w5.frozen? ⟨r, 0, none⟩ = false := by simp [World.frozen?, hd5]
    have v1 : w5.cell? ⟨r, 1, none⟩ = some (.int .i64 B) := by simp [World.cell?, hd5]
    have vf1 : w5.frozen? ⟨r, 1, none⟩ = false := by simp [World.frozen?, hd5]
    clear hb5 hd5 HB4 HD4 ht5 hT4 hC4
    go_wp2_with fail
    refine bodyPost_ret (v := .agg #[.int .i64 (100000000 - t), .int .i64 100000000]) (by simp [results, Tryd.results70, go_sem, *]) rfl ⟨100000000 - t, 100000000, rfl, ?_⟩
    refine (fun hX => ⟨CurAt.fin (HC.out.le (by omega)) (hC5.le (by omega)) hX ?_, hX⟩) ?_
    · exact ((((hT.setOwn (by omega) _ _).setOwn (by omega) _ _).setOwn (by omega) _ _).setOwn (by omega) _ _)
    · exact (hpSet (hpSet (hpSet (hpSet rfl (by omega)) (by omega)) (by omega)) (by omega))
  · have q0_ : (q == 0) = false := by simp; omega
    have q1_ : (q == 1) = false := by simp; omega
    have q2_ : (q == 2) = false := by simp; omega
    have q3_ : (q == 3) = false := by simp; omega
    have hb5 : w4.heap[w.heap.size]? = some (.cells #[.int .i64 0, .int .i64 0] 27) := HB4.out
    have hd5 : w4.heap[r]? = some (.cells #[.int .i64 A, .int .i64 B] 27) := HD4.out
    have hT := hT4
    have u0 : w4.cell? ⟨w.heap.size, 0, none⟩ = some (.int .i64 0) := by simp [World.cell?, hb5]
    have uf0 : w4.frozen? ⟨w.heap.size, 0, none⟩ = false := by simp [World.frozen?, hb5]
    have u1 : w4.cell? ⟨w.heap.size, 1, none⟩ = some (.int .i64 0) := by simp [World.cell?, hb5]
    have uf1 : w4.frozen? ⟨w.heap.size, 1, none⟩ = false := by simp [World.frozen?, hb5]
    have v0 : w4.cell? ⟨r, 0, none⟩ = some (.int .i64 A) := by simp [World.cell?, hd5]
    have vf0 : w4.frozen? ⟨r, 0, none⟩ = false := by simp [World.frozen?, hd5]
    have v1 : w4.cell? ⟨r, 1, none⟩ = some (.int .i64 B) := by simp [World.cell?, hd5]
    have vf1 : w4.frozen? ⟨r, 1, none⟩ = false := by simp [World.frozen?, hd5]
    clear hb5 hd5 HB4 HD4 hT4
    go_wp2_with fail
    refine bodyPost_ret (v := .agg #[.int .i64 A, .int .i64 B]) (by simp [results, Tryd.results70, go_sem, *]) rfl ⟨A, B, rfl, ?_⟩
    refine (fun hX => ⟨CurAt.fin (HC.out.le (by omega)) (hC4.le (by omega)) hX ?_, hX⟩) ?_
    · exact ((hT.setOwn (by omega) _ _).setOwn (by omega) _ _)
    · exact (hpSet (hpSet rfl (by omega)) (by omega))

/-- Cells that are ints. -/
def AllInt (xs : List Value) : Prop := ∀ u ∈ xs, ∃ n : Int, u = .int .i64 n
theorem own_get {w : World} {B N c : Nat} {ad : Option Addr} {xs : List Value} {e : TypeId} (h : w.ownsRow B e 2 (.slice ad N c) N xs) (hi : AllInt xs) {k : Nat} (hk : k < N) : ∃ (g : Nat) (x : Int), ad = some ⟨g, 0, none⟩ ∧ w.cell? ⟨g, k * 2, none⟩ = some (.int .i64 x) := by
  have hc := fun {g : Nat} (hg : (Value.slice ad N c).ownBlock = some g) => h.cells (g := g) hg
  obtain ⟨h1, h2⟩ := h
  rcases h2 with ⟨-, h0⟩ | ⟨g, cap, cur, hv, hg, hh, hn, hm, hs, htk⟩
  · omega
  · cases hv
    have hlt : k * 2 < xs.length := by omega
    obtain ⟨n, hn⟩ := hi _ (List.getElem_mem hlt)
    refine ⟨g, n, rfl, ?_⟩
    have := hc (g := g) rfl (k * 2) _ (List.getElem?_eq_getElem hlt)
    rw [hn, show (⟨g, 0, none⟩ : Addr).add (k * 2) = ⟨g, k * 2, none⟩ by unfold Addr.add; split <;> simp_all] at this
    exact this
set_option maxHeartbeats 400000 in
theorem pick_any {p : Nat} {a0 : Option Addr} {len cap : Nat} (K : Nat) (n : Int) (w : World) (hC : CurAt p a0 len cap K w) (hK : K ≤ 9999999) (hn1 : 0 < n) (hn2 : n ≤ 200) :
    Calls Tryd.prog 27 #[.pointer (some ⟨p, 0, none⟩), .int .i64 n] w fun e w' => ∃ v : Int, e = .returned (.int .i64 v) ∧ 0 ≤ v ∧ v < n ∧ CurAt p a0 len cap (K + 1) w' ∧ Turns p w w' := by
  by_cases h : n = 1
  · subst h
    go_enter Tryd.func27, Tryd.ntmps27
    go_wp2_with fail
    go_ret
    exact ⟨0, rfl, by omega, by omega, hC.le (by omega), Turns.refl _ _⟩
  · exact pick_c K n w hC hK (by omega) hn2

set_option maxRecDepth 100000 in
set_option maxHeartbeats 4000000 in
theorem event_d {p : Nat} {a0 : Option Addr} {len cap : Nat} (K : Nat) (ad : Option Addr) (N mc Bm : Nat) (xs : List Value) (w : World) (hC : CurAt p a0 len cap K w) (hK : K ≤ 9990000) (hown : w.ownsRow Bm 111 2 (.slice ad N mc) N xs) (hint : AllInt xs) (hpB : p < Bm) (hN : N ≤ 150) :
    Calls Tryd.prog 71 #[.pointer (some ⟨p, 0, none⟩), .slice ad N mc] w fun e w' => ∃ x y : Int, e = .returned (.agg #[.int .i64 x, .int .i64 y]) ∧ CurAt p a0 len cap (K + 20) w' ∧ Turns p w w' := by
  have hlt := hC.lt
  have HC : Hid (CurAt p a0 len cap K w) := hC
  have hCa := hC.on ((Below.refl w.heap.size w).alloc (Nat.le_refl _) (.cells #[.int .i64 0, .int .i64 0] 48))
  have hb0 : Hid ((w.alloc (.cells #[.int .i64 0, .int .i64 0] 48)).heap[w.heap.size]? = some (.cells #[.int .i64 0, .int .i64 0] 48)) := newBlk _ _ rfl
  have ht0 : Turns p w (w.alloc (.cells #[.int .i64 0, .int .i64 0] 48)) := (Turns.refl p w).alloc _
  have hNi : (N : Int) ≤ 200 := by omega
  clear hC
  go_enter Tryd.func71, Tryd.ntmps71
  go_wp2_with fail
  refine (pick_c K 10 _ hCa (by omega) (by omega) (by omega)).mono ?_
  rintro e w1 ⟨q, rfl, q0, q1, hC1, ht1⟩
  have HB1 : Hid (w1.heap[w.heap.size]? = some (.cells #[.int .i64 0, .int .i64 0] 48)) := ht1.blk (by omega) hb0.out
  have hT1 := ht0.trans ht1
  have ht1' : Turns p w w1 := hT1
  clear hb0 ht0 ht1 hCa
  rcases (by omega : q = 0 ∨ q = 1 ∨ q = 2 ∨ q = 3 ∨ q = 4 ∨ 5 ≤ q) with hq | hq | hq | hq | hq | hq
  · subst hq
    have HB9 := HB1
    have hT := hT1
    have hb9 : w1.heap[w.heap.size]? = some (.cells #[.int .i64 0, .int .i64 0] 48) := HB9.out
    have u0 : w1.cell? ⟨w.heap.size, 0, none⟩ = some (.int .i64 0) := by simp [World.cell?, hb9]
    have uf0 : w1.frozen? ⟨w.heap.size, 0, none⟩ = false := by simp [World.frozen?, hb9]
    have u1 : w1.cell? ⟨w.heap.size, 1, none⟩ = some (.int .i64 0) := by simp [World.cell?, hb9]
    have uf1 : w1.frozen? ⟨w.heap.size, 1, none⟩ = false := by simp [World.frozen?, hb9]
    clear hb9 HB9
    go_wp2_with fail
    refine bodyPost_ret (v := .agg #[.int .i64 3, .int .i64 0]) (by simp [results, Tryd.results71, go_sem, *]) rfl ⟨3, 0, rfl, ?_⟩
    refine (fun hX => ⟨CurAt.fin (HC.out.le (by omega)) (hC1.le (by omega)) hX ?_, hX⟩) ?_
    · exact ((hT.setOwn (by omega) _ _).setOwn (by omega) _ _)
    · exact (hpSet (hpSet rfl (by omega)) (by omega))

  · subst hq
    go_wp2_with fail
    refine (pick_c _ 3 _ hC1 (by omega) (by omega) (by omega)).mono ?_
    rintro e w3 ⟨z, rfl, z0, z1, hC3, ht3⟩
    have HB3 : Hid (w3.heap[w.heap.size]? = some (.cells #[.int .i64 0, .int .i64 0] 48)) := ht3.blk (by omega) HB1.out
    have hT3 := hT1.trans ht3
    by_cases hz : z = 0
    · subst hz
      have HB9 := HB3
      have hT := hT3
      have hb9 : w3.heap[w.heap.size]? = some (.cells #[.int .i64 0, .int .i64 0] 48) := HB9.out
      have u0 : w3.cell? ⟨w.heap.size, 0, none⟩ = some (.int .i64 0) := by simp [World.cell?, hb9]
      have uf0 : w3.frozen? ⟨w.heap.size, 0, none⟩ = false := by simp [World.frozen?, hb9]
      have u1 : w3.cell? ⟨w.heap.size, 1, none⟩ = some (.int .i64 0) := by simp [World.cell?, hb9]
      have uf1 : w3.frozen? ⟨w.heap.size, 1, none⟩ = false := by simp [World.frozen?, hb9]
      clear hb9 HB9
      go_wp2_with fail
      refine bodyPost_ret (v := .agg #[.int .i64 4, .int .i64 0]) (by simp [results, Tryd.results71, go_sem, *]) rfl ⟨4, 0, rfl, ?_⟩
      refine (fun hX => ⟨CurAt.fin (HC.out.le (by omega)) (hC3.le (by omega)) hX ?_, hX⟩) ?_
      · exact ((hT.setOwn (by omega) _ _).setOwn (by omega) _ _)
      · exact (hpSet (hpSet rfl (by omega)) (by omega))

    · have hzb : (z == 0) = false := by simpa using hz
      go_wp2_with fail
      refine (wide_c _ 200 _ hC3 (by omega) (by omega) (by omega)).mono ?_
      rintro e w2 ⟨y, rfl, y0, y1, hC2, ht2⟩
      have HB9 : Hid (w2.heap[w.heap.size]? = some (.cells #[.int .i64 0, .int .i64 0] 48)) := ht2.blk (by omega) HB3.out
      have hT := hT3.trans ht2
      have hb9 : w2.heap[w.heap.size]? = some (.cells #[.int .i64 0, .int .i64 0] 48) := HB9.out
      have u0 : w2.cell? ⟨w.heap.size, 0, none⟩ = some (.int .i64 0) := by simp [World.cell?, hb9]
      have uf0 : w2.frozen? ⟨w.heap.size, 0, none⟩ = false := by simp [World.frozen?, hb9]
      have u1 : w2.cell? ⟨w.heap.size, 1, none⟩ = some (.int .i64 0) := by simp [World.cell?, hb9]
      have uf1 : w2.frozen? ⟨w.heap.size, 1, none⟩ = false := by simp [World.frozen?, hb9]
      clear hb9 HB9
      go_wp2_with fail
      refine bodyPost_ret (v := .agg #[.int .i64 1, .int .i64 y]) (by simp [results, Tryd.results71, go_sem, *]) rfl ⟨1, y, rfl, ?_⟩
      refine (fun hX => ⟨CurAt.fin (HC.out.le (by omega)) (hC2.le (by omega)) hX ?_, hX⟩) ?_
      · exact ((hT.setOwn (by omega) _ _).setOwn (by omega) _ _)
      · exact (hpSet (hpSet rfl (by omega)) (by omega))

  · subst hq
    by_cases hN0 : N = 0
    · subst hN0
      go_wp2_with fail
      refine (pick_c _ 9 _ hC1 (by omega) (by omega) (by omega)).mono ?_
      rintro e w2 ⟨y, rfl, y0, y1, hC2, ht2⟩
      have HB9 : Hid (w2.heap[w.heap.size]? = some (.cells #[.int .i64 0, .int .i64 0] 48)) := ht2.blk (by omega) HB1.out
      have hT := hT1.trans ht2
      have wy : IntKind.i64.wrap (1 + y) = 1 + y := wrapS (by omega) (by omega)
      have hb9 : w2.heap[w.heap.size]? = some (.cells #[.int .i64 0, .int .i64 0] 48) := HB9.out
      have u0 : w2.cell? ⟨w.heap.size, 0, none⟩ = some (.int .i64 0) := by simp [World.cell?, hb9]
      have uf0 : w2.frozen? ⟨w.heap.size, 0, none⟩ = false := by simp [World.frozen?, hb9]
      have u1 : w2.cell? ⟨w.heap.size, 1, none⟩ = some (.int .i64 0) := by simp [World.cell?, hb9]
      have uf1 : w2.frozen? ⟨w.heap.size, 1, none⟩ = false := by simp [World.frozen?, hb9]
      clear hb9 HB9
      go_wp2_with fail
      refine bodyPost_ret (v := .agg #[.int .i64 2, .int .i64 (1 + y)]) (by simp [results, Tryd.results71, go_sem, *]) rfl ⟨2, 1 + y, rfl, ?_⟩
      refine (fun hX => ⟨CurAt.fin (HC.out.le (by omega)) (hC2.le (by omega)) hX ?_, hX⟩) ?_
      · exact ((hT.setOwn (by omega) _ _).setOwn (by omega) _ _)
      · exact (hpSet (hpSet rfl (by omega)) (by omega))

    · have hNp : (0 : Int) < (N : Int) := by omega
      have hown1 := ownsOn hown ht1' hpB
      go_wp2_with fail
      refine (pick_any _ (N : Int) _ hC1 (by omega) (by omega) (by omega)).mono ?_
      rintro e w2 ⟨y, rfl, y0, y1, hC2, ht2⟩
      have HB9 : Hid (w2.heap[w.heap.size]? = some (.cells #[.int .i64 0, .int .i64 0] 48)) := ht2.blk (by omega) HB1.out
      have hT := hT1.trans ht2
      have hown2 := ownsOn hown1 ht2 hpB
      obtain ⟨k, rfl⟩ := Int.eq_ofNat_of_zero_le y0
      obtain ⟨gm, xn, rfl, hx⟩ := own_get hown2 hint (show k < N by omega)
      have y2_ : (k : Int) < (N : Int) := by omega
      have hb9 : w2.heap[w.heap.size]? = some (.cells #[.int .i64 0, .int .i64 0] 48) := HB9.out
      have u0 : w2.cell? ⟨w.heap.size, 0, none⟩ = some (.int .i64 0) := by simp [World.cell?, hb9]
      have uf0 : w2.frozen? ⟨w.heap.size, 0, none⟩ = false := by simp [World.frozen?, hb9]
      have u1 : w2.cell? ⟨w.heap.size, 1, none⟩ = some (.int .i64 0) := by simp [World.cell?, hb9]
      have uf1 : w2.frozen? ⟨w.heap.size, 1, none⟩ = false := by simp [World.frozen?, hb9]
      clear hb9 HB9
      go_wp2_with fail
      refine bodyPost_ret (v := .agg #[.int .i64 2, .int .i64 xn]) (by simp [results, Tryd.results71, go_sem, *]) rfl ⟨2, xn, rfl, ?_⟩
      refine (fun hX => ⟨CurAt.fin (HC.out.le (by omega)) (hC2.le (by omega)) hX ?_, hX⟩) ?_
      · exact ((hT.setOwn (by omega) _ _).setOwn (by omega) _ _)
      · exact (hpSet (hpSet rfl (by omega)) (by omega))

  · subst hq
    by_cases hN0 : N = 0
    · subst hN0
      go_wp2_with fail
      refine (pick_c _ 9 _ hC1 (by omega) (by omega) (by omega)).mono ?_
      rintro e w2 ⟨y, rfl, y0, y1, hC2, ht2⟩
      have HB9 : Hid (w2.heap[w.heap.size]? = some (.cells #[.int .i64 0, .int .i64 0] 48)) := ht2.blk (by omega) HB1.out
      have hT := hT1.trans ht2
      have wy : IntKind.i64.wrap (1 + y) = 1 + y := wrapS (by omega) (by omega)
      have hb9 : w2.heap[w.heap.size]? = some (.cells #[.int .i64 0, .int .i64 0] 48) := HB9.out
      have u0 : w2.cell? ⟨w.heap.size, 0, none⟩ = some (.int .i64 0) := by simp [World.cell?, hb9]
      have uf0 : w2.frozen? ⟨w.heap.size, 0, none⟩ = false := by simp [World.frozen?, hb9]
      have u1 : w2.cell? ⟨w.heap.size, 1, none⟩ = some (.int .i64 0) := by simp [World.cell?, hb9]
      have uf1 : w2.frozen? ⟨w.heap.size, 1, none⟩ = false := by simp [World.frozen?, hb9]
      clear hb9 HB9
      go_wp2_with fail
      refine bodyPost_ret (v := .agg #[.int .i64 2, .int .i64 (1 + y)]) (by simp [results, Tryd.results71, go_sem, *]) rfl ⟨2, 1 + y, rfl, ?_⟩
      refine (fun hX => ⟨CurAt.fin (HC.out.le (by omega)) (hC2.le (by omega)) hX ?_, hX⟩) ?_
      · exact ((hT.setOwn (by omega) _ _).setOwn (by omega) _ _)
      · exact (hpSet (hpSet rfl (by omega)) (by omega))

    · have hNp : (0 : Int) < (N : Int) := by omega
      have hown1 := ownsOn hown ht1' hpB
      go_wp2_with fail
      refine (pick_any _ (N : Int) _ hC1 (by omega) (by omega) (by omega)).mono ?_
      rintro e w2 ⟨y, rfl, y0, y1, hC2, ht2⟩
      have HB9 : Hid (w2.heap[w.heap.size]? = some (.cells #[.int .i64 0, .int .i64 0] 48)) := ht2.blk (by omega) HB1.out
      have hT := hT1.trans ht2
      have hown2 := ownsOn hown1 ht2 hpB
      obtain ⟨k, rfl⟩ := Int.eq_ofNat_of_zero_le y0
      obtain ⟨gm, xn, rfl, hx⟩ := own_get hown2 hint (show k < N by omega)
      have y2_ : (k : Int) < (N : Int) := by omega
      have hb9 : w2.heap[w.heap.size]? = some (.cells #[.int .i64 0, .int .i64 0] 48) := HB9.out
      have u0 : w2.cell? ⟨w.heap.size, 0, none⟩ = some (.int .i64 0) := by simp [World.cell?, hb9]
      have uf0 : w2.frozen? ⟨w.heap.size, 0, none⟩ = false := by simp [World.frozen?, hb9]
      have u1 : w2.cell? ⟨w.heap.size, 1, none⟩ = some (.int .i64 0) := by simp [World.cell?, hb9]
      have uf1 : w2.frozen? ⟨w.heap.size, 1, none⟩ = false := by simp [World.frozen?, hb9]
      clear hb9 HB9
      go_wp2_with fail
      refine bodyPost_ret (v := .agg #[.int .i64 2, .int .i64 xn]) (by simp [results, Tryd.results71, go_sem, *]) rfl ⟨2, xn, rfl, ?_⟩
      refine (fun hX => ⟨CurAt.fin (HC.out.le (by omega)) (hC2.le (by omega)) hX ?_, hX⟩) ?_
      · exact ((hT.setOwn (by omega) _ _).setOwn (by omega) _ _)
      · exact (hpSet (hpSet rfl (by omega)) (by omega))

  · subst hq
    by_cases hN0 : N = 0
    · subst hN0
      go_wp2_with fail
      refine (pick_c _ 9 _ hC1 (by omega) (by omega) (by omega)).mono ?_
      rintro e w2 ⟨y, rfl, y0, y1, hC2, ht2⟩
      have HB9 : Hid (w2.heap[w.heap.size]? = some (.cells #[.int .i64 0, .int .i64 0] 48)) := ht2.blk (by omega) HB1.out
      have hT := hT1.trans ht2
      have wy : IntKind.i64.wrap (1 + y) = 1 + y := wrapS (by omega) (by omega)
      have hb9 : w2.heap[w.heap.size]? = some (.cells #[.int .i64 0, .int .i64 0] 48) := HB9.out
      have u0 : w2.cell? ⟨w.heap.size, 0, none⟩ = some (.int .i64 0) := by simp [World.cell?, hb9]
      have uf0 : w2.frozen? ⟨w.heap.size, 0, none⟩ = false := by simp [World.frozen?, hb9]
      have u1 : w2.cell? ⟨w.heap.size, 1, none⟩ = some (.int .i64 0) := by simp [World.cell?, hb9]
      have uf1 : w2.frozen? ⟨w.heap.size, 1, none⟩ = false := by simp [World.frozen?, hb9]
      clear hb9 HB9
      go_wp2_with fail
      refine bodyPost_ret (v := .agg #[.int .i64 2, .int .i64 (1 + y)]) (by simp [results, Tryd.results71, go_sem, *]) rfl ⟨2, 1 + y, rfl, ?_⟩
      refine (fun hX => ⟨CurAt.fin (HC.out.le (by omega)) (hC2.le (by omega)) hX ?_, hX⟩) ?_
      · exact ((hT.setOwn (by omega) _ _).setOwn (by omega) _ _)
      · exact (hpSet (hpSet rfl (by omega)) (by omega))

    · have hNp : (0 : Int) < (N : Int) := by omega
      have hown1 := ownsOn hown ht1' hpB
      go_wp2_with fail
      refine (pick_any _ (N : Int) _ hC1 (by omega) (by omega) (by omega)).mono ?_
      rintro e w2 ⟨y, rfl, y0, y1, hC2, ht2⟩
      have HB9 : Hid (w2.heap[w.heap.size]? = some (.cells #[.int .i64 0, .int .i64 0] 48)) := ht2.blk (by omega) HB1.out
      have hT := hT1.trans ht2
      have hown2 := ownsOn hown1 ht2 hpB
      obtain ⟨k, rfl⟩ := Int.eq_ofNat_of_zero_le y0
      obtain ⟨gm, xn, rfl, hx⟩ := own_get hown2 hint (show k < N by omega)
      have y2_ : (k : Int) < (N : Int) := by omega
      have hb9 : w2.heap[w.heap.size]? = some (.cells #[.int .i64 0, .int .i64 0] 48) := HB9.out
      have u0 : w2.cell? ⟨w.heap.size, 0, none⟩ = some (.int .i64 0) := by simp [World.cell?, hb9]
      have uf0 : w2.frozen? ⟨w.heap.size, 0, none⟩ = false := by simp [World.frozen?, hb9]
      have u1 : w2.cell? ⟨w.heap.size, 1, none⟩ = some (.int .i64 0) := by simp [World.cell?, hb9]
      have uf1 : w2.frozen? ⟨w.heap.size, 1, none⟩ = false := by simp [World.frozen?, hb9]
      clear hb9 HB9
      go_wp2_with fail
      refine bodyPost_ret (v := .agg #[.int .i64 2, .int .i64 xn]) (by simp [results, Tryd.results71, go_sem, *]) rfl ⟨2, xn, rfl, ?_⟩
      refine (fun hX => ⟨CurAt.fin (HC.out.le (by omega)) (hC2.le (by omega)) hX ?_, hX⟩) ?_
      · exact ((hT.setOwn (by omega) _ _).setOwn (by omega) _ _)
      · exact (hpSet (hpSet rfl (by omega)) (by omega))

  · have q0_ : (q == 0) = false := by simp; omega
    have q1_ : (q == 1) = false := by simp; omega
    have q2_ : (q == 2) = false := by simp; omega
    have q3_ : (q == 3) = false := by simp; omega
    have q4_ : (q == 4) = false := by simp; omega
    go_wp2_with fail
    refine (wide_c _ 200 _ hC1 (by omega) (by omega) (by omega)).mono ?_
    rintro e w2 ⟨y, rfl, y0, y1, hC2, ht2⟩
    have HB9 : Hid (w2.heap[w.heap.size]? = some (.cells #[.int .i64 0, .int .i64 0] 48)) := ht2.blk (by omega) HB1.out
    have hT := hT1.trans ht2
    have hb9 : w2.heap[w.heap.size]? = some (.cells #[.int .i64 0, .int .i64 0] 48) := HB9.out
    have u0 : w2.cell? ⟨w.heap.size, 0, none⟩ = some (.int .i64 0) := by simp [World.cell?, hb9]
    have uf0 : w2.frozen? ⟨w.heap.size, 0, none⟩ = false := by simp [World.frozen?, hb9]
    have u1 : w2.cell? ⟨w.heap.size, 1, none⟩ = some (.int .i64 0) := by simp [World.cell?, hb9]
    have uf1 : w2.frozen? ⟨w.heap.size, 1, none⟩ = false := by simp [World.frozen?, hb9]
    clear hb9 HB9
    go_wp2_with fail
    refine bodyPost_ret (v := .agg #[.int .i64 1, .int .i64 y]) (by simp [results, Tryd.results71, go_sem, *]) rfl ⟨1, y, rfl, ?_⟩
    refine (fun hX => ⟨CurAt.fin (HC.out.le (by omega)) (hC2.le (by omega)) hX ?_, hX⟩) ?_
    · exact ((hT.setOwn (by omega) _ _).setOwn (by omega) _ _)
    · exact (hpSet (hpSet rfl (by omega)) (by omega))

end Go.Proofs.YtmhppadblddjoaaDoor

