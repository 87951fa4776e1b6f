/- Known, with what its marks hold. -/
import Derived.Test.YtmhppadblddjoaaKnown
import Derived.Test.YtmhppadblddjoaaCur4
namespace Go.Proofs.Ytmhppadblddjoaa
open Go.RowKit

set_option maxHeartbeats 4000000 in
theorem known_d (a0 : Option Addr) (len cap : Nat) (w : World) (hby : Bytes w a0 len) :
    Calls Try.prog 12 #[.slice a0 len cap] w fun e w' => ∃ (s j m g o a b : Int) (mv : Value) (N : Nat) (xs : List Value), e = .returned (.tuple #[.agg #[.int .i64 s, .int .i64 j, .int .i64 m, .int .i64 g, .int .i64 o], mv, .agg #[.bool true, .int .i64 a, .int .i64 b, .int .i64 0, .int .i64 (-1), .int .i64 0]]) ∧
      0 ≤ s ∧ s < 80 ∧ 0 ≤ j ∧ j < 6 ∧ 0 ≤ m ∧ m < 30 ∧ 1 ≤ g ∧ g ≤ 400 ∧ 0 ≤ o ∧ o < 20 ∧ 0 ≤ a ∧ a < 3000 ∧ a ≤ b ∧ b < a + 400 ∧ (∃ t : Int, N ≤ 7 ∧ t ≤ 5000 ∧ DM N N t xs) ∧ w'.ownsRow w.heap.size 37 2 mv N xs ∧ Below w.heap.size w w' := by
  have hb0 : Below w.heap.size w (((w.alloc (.cells #[.int .i64 0, .int .i64 0, .int .i64 0, .int .i64 0, .int .i64 0] 24)).alloc (.cells #[.bool false, .int .i64 0, .int .i64 0, .int .i64 0, .int .i64 0, .int .i64 0] 29)).alloc (.cells #[.slice a0 len cap, .int .i64 0, .int .u64 0] 57)) := nbAlloc (nbAlloc (nbAlloc (Below.refl _ _) _) _) _
  have hC0 : CurAt (w.heap.size + 1 + 1) a0 len cap 0 (((w.alloc (.cells #[.int .i64 0, .int .i64 0, .int .i64 0, .int .i64 0, .int .i64 0] 24)).alloc (.cells #[.bool false, .int .i64 0, .int .i64 0, .int .i64 0, .int .i64 0, .int .i64 0] 29)).alloc (.cells #[.slice a0 len cap, .int .i64 0, .int .u64 0] 57)) := by
    refine ⟨hby.row hb0 (by omega), 0, 0, Nat.le_refl _, ?_⟩
    exact newBlk _ _ (by simp)
  have hA0 : Hid ((((w.alloc (.cells #[.int .i64 0, .int .i64 0, .int .i64 0, .int .i64 0, .int .i64 0] 24)).alloc (.cells #[.bool false, .int .i64 0, .int .i64 0, .int .i64 0, .int .i64 0, .int .i64 0] 29)).alloc (.cells #[.slice a0 len cap, .int .i64 0, .int .u64 0] 57)).heap[w.heap.size]? = some (.cells #[.int .i64 0, .int .i64 0, .int .i64 0, .int .i64 0, .int .i64 0] 24)) := oldBlk (oldBlk (newBlk _ _ rfl) _) _
  have hS0 : Hid ((((w.alloc (.cells #[.int .i64 0, .int .i64 0, .int .i64 0, .int .i64 0, .int .i64 0] 24)).alloc (.cells #[.bool false, .int .i64 0, .int .i64 0, .int .i64 0, .int .i64 0, .int .i64 0] 29)).alloc (.cells #[.slice a0 len cap, .int .i64 0, .int .u64 0] 57)).heap[w.heap.size + 1]? = some (.cells #[.bool false, .int .i64 0, .int .i64 0, .int .i64 0, .int .i64 0, .int .i64 0] 29)) := oldBlk (newBlk _ _ (by simp)) _
  clear hby
  go_enter Try.func12, Try.ntmps12
  go_wp2_with fail
  refine (rules_c 0 _ hC0 (by omega)).mono ?_
  rintro e w1 ⟨s, j, m, g, o, rfl, s0, s1, j0, j1, m0, m1, g0, g1, o0, o1, hC1, ht1⟩
  have hA1 : Hid (w1.heap[w.heap.size]? = some (.cells #[.int .i64 0, .int .i64 0, .int .i64 0, .int .i64 0, .int .i64 0] 24)) := ht1.blk (by omega) hA0.out
  have hS1 : Hid (w1.heap[w.heap.size + 1]? = some (.cells #[.bool false, .int .i64 0, .int .i64 0, .int .i64 0, .int .i64 0, .int .i64 0] 29)) := ht1.blk (by omega) hS0.out
  go_wp2_with fail
  have hr1 : Hid ((w1.alloc (.cells #[.int .i64 s, .int .i64 j, .int .i64 m, .int .i64 g, .int .i64 o] 24)).heap[w1.heap.size]? = some (.cells #[.int .i64 s, .int .i64 j, .int .i64 m, .int .i64 g, .int .i64 o] 24)) := newBlk _ _ rfl
  have hsz1 := hC1.lt
  have hA1a : Hid ((w1.alloc (.cells #[.int .i64 s, .int .i64 j, .int .i64 m, .int .i64 g, .int .i64 o] 24)).heap[w.heap.size]? = some (.cells #[.int .i64 0, .int .i64 0, .int .i64 0, .int .i64 0, .int .i64 0] 24)) := (((Turns.refl (w.heap.size + 1 + 1) w1).alloc _).blk (by omega) hA1.out)
  have hS1a : Hid ((w1.alloc (.cells #[.int .i64 s, .int .i64 j, .int .i64 m, .int .i64 g, .int .i64 o] 24)).heap[w.heap.size + 1]? = some (.cells #[.bool false, .int .i64 0, .int .i64 0, .int .i64 0, .int .i64 0, .int .i64 0] 29)) := (((Turns.refl (w.heap.size + 1 + 1) w1).alloc _).blk (by omega) hS1.out)
  refine (marks_d _ _ (hC1.on ((Below.refl _ _).alloc (Nat.le_refl _) _)) (by omega)).mono ?_
  rintro e w2 ⟨mv, rfl, hC2, ht2, N, tt, xs, hN, htt, hDM, hown2⟩
  have HDM : Hid (∃ t : Int, N ≤ 7 ∧ t ≤ 5000 ∧ DM N N t xs) := ⟨tt, hN, htt, hDM⟩
  clear hN htt hDM
  have HOW2 : Hid (w2.ownsRow (w1.heap.size + 1) 37 2 mv N xs) := by
    have hq := hown2
    simp at hq
    exact hq
  clear hown2
  have hA2 : Hid (w2.heap[w.heap.size]? = some (.cells #[.int .i64 0, .int .i64 0, .int .i64 0, .int .i64 0, .int .i64 0] 24)) := ht2.blk (by omega) hA1a.out
  have hS2 : Hid (w2.heap[w.heap.size + 1]? = some (.cells #[.bool false, .int .i64 0, .int .i64 0, .int .i64 0, .int .i64 0, .int .i64 0] 29)) := ht2.blk (by omega) hS1a.out
  have hr2 : Hid (w2.heap[w1.heap.size]? = some (.cells #[.int .i64 s, .int .i64 j, .int .i64 m, .int .i64 g, .int .i64 o] 24)) := ht2.blk (by omega) hr1.out
  go_wp2_with fail
  refine (wide_c _ 3000 _ hC2 (by omega) (by omega) (by omega)).mono ?_
  rintro e w3 ⟨a, rfl, a0', a1, hC3, ht3⟩
  have hA3 : w3.heap[w.heap.size]? = some (.cells #[.int .i64 0, .int .i64 0, .int .i64 0, .int .i64 0, .int .i64 0] 24) := ht3.blk (by omega) hA2.out
  have hS3 : w3.heap[w.heap.size + 1]? = some (.cells #[.bool false, .int .i64 0, .int .i64 0, .int .i64 0, .int .i64 0, .int .i64 0] 29) := ht3.blk (by omega) hS2.out
  have hr3 : w3.heap[w1.heap.size]? = some (.cells #[.int .i64 s, .int .i64 j, .int .i64 m, .int .i64 g, .int .i64 o] 24) := ht3.blk (by omega) hr2.out
  have HOW3_ : Hid (w3.ownsRow (w1.heap.size + 1) 37 2 mv N xs) := ownsOn HOW2.out ht3 (by omega)
  have hT : Turns (w.heap.size + 1 + 1) (((w.alloc (.cells #[.int .i64 0, .int .i64 0, .int .i64 0, .int .i64 0, .int .i64 0] 24)).alloc (.cells #[.bool false, .int .i64 0, .int .i64 0, .int .i64 0, .int .i64 0, .int .i64 0] 29)).alloc (.cells #[.slice a0 len cap, .int .i64 0, .int .u64 0] 57)) w3 := ((ht1.alloc _).trans ht2).trans ht3
  have xa0 : w3.cell? ⟨w.heap.size, 0, none⟩ = some (.int .i64 0) := by simp [World.cell?, hA3]
  have xaf0 : w3.frozen? ⟨w.heap.size, 0, none⟩ = false := by simp [World.frozen?, hA3]
  have xa1 : w3.cell? ⟨w.heap.size, 1, none⟩ = some (.int .i64 0) := by simp [World.cell?, hA3]
  have xaf1 : w3.frozen? ⟨w.heap.size, 1, none⟩ = false := by simp [World.frozen?, hA3]
  have xa2 : w3.cell? ⟨w.heap.size, 2, none⟩ = some (.int .i64 0) := by simp [World.cell?, hA3]
  have xaf2 : w3.frozen? ⟨w.heap.size, 2, none⟩ = false := by simp [World.frozen?, hA3]
  have xa3 : w3.cell? ⟨w.heap.size, 3, none⟩ = some (.int .i64 0) := by simp [World.cell?, hA3]
  have xaf3 : w3.frozen? ⟨w.heap.size, 3, none⟩ = false := by simp [World.frozen?, hA3]
  have xa4 : w3.cell? ⟨w.heap.size, 4, none⟩ = some (.int .i64 0) := by simp [World.cell?, hA3]
  have xaf4 : w3.frozen? ⟨w.heap.size, 4, none⟩ = false := by simp [World.frozen?, hA3]
  have xs0 : w3.cell? ⟨w.heap.size + 1, 0, none⟩ = some (.bool false) := by simp [World.cell?, hS3]
  have xsf0 : w3.frozen? ⟨w.heap.size + 1, 0, none⟩ = false := by simp [World.frozen?, hS3]
  have xs1 : w3.cell? ⟨w.heap.size + 1, 1, none⟩ = some (.int .i64 0) := by simp [World.cell?, hS3]
  have xsf1 : w3.frozen? ⟨w.heap.size + 1, 1, none⟩ = false := by simp [World.frozen?, hS3]
  have xs2 : w3.cell? ⟨w.heap.size + 1, 2, none⟩ = some (.int .i64 0) := by simp [World.cell?, hS3]
  have xsf2 : w3.frozen? ⟨w.heap.size + 1, 2, none⟩ = false := by simp [World.frozen?, hS3]
  have xs3 : w3.cell? ⟨w.heap.size + 1, 3, none⟩ = some (.int .i64 0) := by simp [World.cell?, hS3]
  have xsf3 : w3.frozen? ⟨w.heap.size + 1, 3, none⟩ = false := by simp [World.frozen?, hS3]
  have xs4 : w3.cell? ⟨w.heap.size + 1, 4, none⟩ = some (.int .i64 0) := by simp [World.cell?, hS3]
  have xsf4 : w3.frozen? ⟨w.heap.size + 1, 4, none⟩ = false := by simp [World.frozen?, hS3]
  have xs5 : w3.cell? ⟨w.heap.size + 1, 5, none⟩ = some (.int .i64 0) := by simp [World.cell?, hS3]
  have xsf5 : w3.frozen? ⟨w.heap.size + 1, 5, none⟩ = false := by simp [World.frozen?, hS3]
  have xr0 : w3.cell? ⟨w1.heap.size, 0, none⟩ = some (.int .i64 s) := by simp [World.cell?, hr3]
  have xrf0 : w3.frozen? ⟨w1.heap.size, 0, none⟩ = false := by simp [World.frozen?, hr3]
  have xr1 : w3.cell? ⟨w1.heap.size, 1, none⟩ = some (.int .i64 j) := by simp [World.cell?, hr3]
  have xrf1 : w3.frozen? ⟨w1.heap.size, 1, none⟩ = false := by simp [World.frozen?, hr3]
  have xr2 : w3.cell? ⟨w1.heap.size, 2, none⟩ = some (.int .i64 m) := by simp [World.cell?, hr3]
  have xrf2 : w3.frozen? ⟨w1.heap.size, 2, none⟩ = false := by simp [World.frozen?, hr3]
  have xr3 : w3.cell? ⟨w1.heap.size, 3, none⟩ = some (.int .i64 g) := by simp [World.cell?, hr3]
  have xrf3 : w3.frozen? ⟨w1.heap.size, 3, none⟩ = false := by simp [World.frozen?, hr3]
  have xr4 : w3.cell? ⟨w1.heap.size, 4, none⟩ = some (.int .i64 o) := by simp [World.cell?, hr3]
  have xrf4 : w3.frozen? ⟨w1.heap.size, 4, none⟩ = false := by simp [World.frozen?, hr3]
  have HT := hT
  clear hA0 hS0 hA1 hS1 hr1 hA1a hS1a hA2 hS2 hr2 hA3 hS3 hr3 ht1 ht2 ht3 hC0 hC1 hC2 hT
  have HOW3 : Hid (w3.ownsRow (w1.heap.size + 1) 37 2 mv N xs) := HOW3_.out
  generalize w1.heap.size = r at *
  have hS0 : kS w r s j m g o w3.drew := ⟨xr0, xr1, xr2, xr3, xr4, rdOf (w := w3.drew) xa0, rdOf (w := w3.drew) xa1, rdOf (w := w3.drew) xa2, rdOf (w := w3.drew) xa3, rdOf (w := w3.drew) xa4, xaf0, xaf1, xaf2, xaf3, xaf4, rdOf (w := w3.drew) xs0, rdOf (w := w3.drew) xs1, rdOf (w := w3.drew) xs2, rdOf (w := w3.drew) xs3, rdOf (w := w3.drew) xs4, rdOf (w := w3.drew) xs5, xsf0, xsf1, xsf2, xsf3, xsf4, xsf5⟩
  go_wp2_with fail
  go_region_with (first | (go_at_call 35; refine (wide_c _ 400 _ hC3.drew (by omega) (by omega) (by omega)).mono ?_; rintro e w4 ⟨b, rfl, b0, b1, hC4, ht4⟩; have wr : IntKind.i64.wrap (a + b) = a + b := wrapS (by omega) (by omega); have hS4 := kS_on hS0 ht4 (by omega); obtain ⟨y0, y1, y2, y3, y4, y5, y6, y7, y8, y9, y10, y11, y12, y13, y14, y15, y16, y17, y18, y19, y20, y21, y22, y23, y24, y25, y26⟩ := hS4))
  all_goals
    go_wp2
    have hB4 : Below w.heap.size w w4 := turnsBelow hb0 (HT.trans ((Turns.refl _ w3).drewN 1 |>.trans ht4)) (by omega)
    exact bodyPost_ret (v := .tuple #[.agg #[.int .i64 s, .int .i64 j, .int .i64 m, .int .i64 g, .int .i64 o], mv, .agg #[.bool true, .int .i64 a, .int .i64 (a + b), .int .i64 0, .int .i64 (-1), .int .i64 0]]) (by simp [results, Try.results12, go_sem, *]) rfl ⟨s, j, m, g, o, a, a + b, mv, N, xs, rfl, s0, s1, j0, j1, m0, m1, g0, g1, o0, o1, a0', a1, by omega, by omega, HDM.out, owns_low (ownsRow_setCell_below (ownsRow_setCell_below (ownsRow_setCell_below (ownsRow_setCell_below (ownsRow_setCell_below (ownsRow_setCell_below (ownsRow_setCell_below (ownsRow_setCell_below (ownsRow_setCell_below (ownsRow_setCell_below (ownsRow_setCell_below (ownsOn (p := w.heap.size + 1 + 1) (World.ownsRow.drew HOW3.out) ht4 (by omega)) (by simp; omega) _) (by simp; omega) _) (by simp; omega) _) (by simp; omega) _) (by simp; omega) _) (by simp; omega) _) (by simp; omega) _) (by simp; omega) _) (by simp; omega) _) (by simp; omega) _) (by simp; omega) _) (by omega), (nbSet1 (nbSet1 (nbSet1 (nbSet1 (nbSet1 (nbSet1 (nbSet1 (nbSet1 (nbSet1 (nbSet1 (nbSet1 hB4 (by omega)) (by omega)) (by omega)) (by omega)) (by omega)) (by omega)) (by omega)) (by omega)) (by omega)) (by omega)) (by omega))⟩

end Go.Proofs.Ytmhppadblddjoaa
