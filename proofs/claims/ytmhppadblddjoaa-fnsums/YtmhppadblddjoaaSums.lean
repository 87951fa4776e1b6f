import Derived.Test.YtmhppadblddjoaaKnown
import Derived.Test.YtmhppadblddjoaaW4
namespace Go.Proofs.Ytmhppadblddjoaa
open Go.RowKit

theorem Bytes.on {w w' : World} {a0 : Option Addr} {len : Nat} (h : Bytes w a0 len) (hb : Below w.heap.size w w') : Bytes w' a0 len := by
  rcases h with h | ⟨b, off, h1, h3⟩
  · exact .inl h
  · exact .inr ⟨b, off, h1, fun i hi => let ⟨v, x, y, c⟩ := h3 i hi; ⟨v, x, y, cellOn hb c⟩⟩

theorem cellNw {w : World} {b o : Nat} {v : Value} (h : w.cell? ⟨b, o, none⟩ = some v) (ob : Obj) : (w.alloc ob).cell? ⟨b, o, none⟩ = some v := by
  rw [World.cell?_of_block (w := w) (Below.heap_alloc w ob b (ltCell h))]; exact h

set_option maxHeartbeats 1000000 in
theorem wByte_c (a0 : Option Addr) (len cap : Nat) (i : Int) (w : World) (hby : Bytes w a0 len) (hl : len ≤ 1048576) (hi0 : 0 ≤ i) (hi1 : i ≤ 3) :
    Calls Try.prog 14 #[.slice a0 len cap, .int .i64 i] w fun e w' => ∃ v : Int, e = .returned (.int .i64 v) ∧ 0 ≤ v ∧ v ≤ 255 ∧ w = w' := by
  by_cases hz : len = 0
  · subst hz
    go_enter Try.func14, Try.ntmps14
    go_wp2
    go_ret
    exact ⟨0, rfl, by omega, by omega, rfl⟩
  · rcases hby with h | ⟨b, off, rfl, h3⟩
    · exact absurd h hz
    · have hlp : (0 : Int) < (len : Int) := by omega
      have hm0 : 0 ≤ i % (len : Int) := Int.emod_nonneg _ (by omega)
      have hm1 : i % (len : Int) < (len : Int) := Int.emod_lt_of_pos _ hlp
      obtain ⟨v, v0, v1, hc⟩ := h3 (i % (len : Int)).toNat (by omega)
      have hne : ((len : Int) == 0) = false := by simp; omega
      clear h3
      go_enter Try.func14, Try.ntmps14
      go_wp2
      go_ret
      exact ⟨v, rfl, v0, v1, rfl⟩

def fS (w : World) (s j m g o l h : Int) (p5 p7 : Nat) : World → Prop := fun w' => w'.cell? ⟨p5, 0, none⟩ = some (.int .i64 s) ∧ w'.cell? ⟨p5, 1, none⟩ = some (.int .i64 j) ∧ w'.cell? ⟨p5, 2, none⟩ = some (.int .i64 m) ∧ w'.cell? ⟨p5, 3, none⟩ = some (.int .i64 g) ∧ w'.cell? ⟨p5, 4, none⟩ = some (.int .i64 o) ∧ w'.cell? ⟨p7, 0, none⟩ = some (.bool true) ∧ w'.cell? ⟨p7, 1, none⟩ = some (.int .i64 l) ∧ w'.cell? ⟨p7, 2, none⟩ = some (.int .i64 h) ∧ w'.cell? ⟨p7, 3, none⟩ = some (.int .i64 0) ∧ w'.cell? ⟨p7, 4, none⟩ = some (.int .i64 (-1)) ∧ w'.cell? ⟨p7, 5, none⟩ = some (.int .i64 0) ∧ Below w.heap.size w w'
theorem fS_on {w : World} {s j m g o l h : Int} {p5 p7 : Nat} {w1 w2 : World} (hh : fS w s j m g o l h p5 p7 w1) (hb : Below w1.heap.size w1 w2) : fS w s j m g o l h p5 p7 w2 :=
  ⟨cellOn hb hh.1, cellOn hb hh.2.1, cellOn hb hh.2.2.1, cellOn hb hh.2.2.2.1, cellOn hb hh.2.2.2.2.1, cellOn hb hh.2.2.2.2.2.1, cellOn hb hh.2.2.2.2.2.2.1, cellOn hb hh.2.2.2.2.2.2.2.1, cellOn hb hh.2.2.2.2.2.2.2.2.1, cellOn hb hh.2.2.2.2.2.2.2.2.2.1, cellOn hb hh.2.2.2.2.2.2.2.2.2.2.1, nbTrans hh.2.2.2.2.2.2.2.2.2.2.2 hb⟩

def fS2 (w : World) (s j m g o l h x0 y0 : Int) (p5 p7 p10 : Nat) : World → Prop := fun w' => w'.cell? ⟨p5, 0, none⟩ = some (.int .i64 s) ∧ w'.cell? ⟨p5, 1, none⟩ = some (.int .i64 j) ∧ w'.cell? ⟨p5, 2, none⟩ = some (.int .i64 m) ∧ w'.cell? ⟨p5, 3, none⟩ = some (.int .i64 g) ∧ w'.cell? ⟨p5, 4, none⟩ = some (.int .i64 o) ∧ w'.cell? ⟨p7, 0, none⟩ = some (.bool true) ∧ w'.cell? ⟨p7, 1, none⟩ = some (.int .i64 l) ∧ w'.cell? ⟨p7, 2, none⟩ = some (.int .i64 h) ∧ w'.cell? ⟨p7, 3, none⟩ = some (.int .i64 0) ∧ w'.cell? ⟨p7, 4, none⟩ = some (.int .i64 (-1)) ∧ w'.cell? ⟨p7, 5, none⟩ = some (.int .i64 0) ∧ w'.cell? ⟨p10, 0, none⟩ = some (.int .i64 x0) ∧ w'.cell? ⟨p10, 1, none⟩ = some (.int .i64 y0) ∧ Below w.heap.size w w'
theorem fS2_on {w : World} {s j m g o l h x0 y0 : Int} {p5 p7 p10 : Nat} {w1 w2 : World} (hh : fS2 w s j m g o l h x0 y0 p5 p7 p10 w1) (hb : Below w1.heap.size w1 w2) : fS2 w s j m g o l h x0 y0 p5 p7 p10 w2 :=
  ⟨cellOn hb hh.1, cellOn hb hh.2.1, cellOn hb hh.2.2.1, cellOn hb hh.2.2.2.1, cellOn hb hh.2.2.2.2.1, cellOn hb hh.2.2.2.2.2.1, cellOn hb hh.2.2.2.2.2.2.1, cellOn hb hh.2.2.2.2.2.2.2.1, cellOn hb hh.2.2.2.2.2.2.2.2.1, cellOn hb hh.2.2.2.2.2.2.2.2.2.1, cellOn hb hh.2.2.2.2.2.2.2.2.2.2.1, cellOn hb hh.2.2.2.2.2.2.2.2.2.2.2.1, cellOn hb hh.2.2.2.2.2.2.2.2.2.2.2.2.1, nbTrans hh.2.2.2.2.2.2.2.2.2.2.2.2.2 hb⟩

def fS3 (w : World) (s j m g o l h x0 y0 x2 y2 : Int) (p5 p7 p10 p11 : Nat) : World → Prop := fun w' => w'.cell? ⟨p5, 0, none⟩ = some (.int .i64 s) ∧ w'.cell? ⟨p5, 1, none⟩ = some (.int .i64 j) ∧ w'.cell? ⟨p5, 2, none⟩ = some (.int .i64 m) ∧ w'.cell? ⟨p5, 3, none⟩ = some (.int .i64 g) ∧ w'.cell? ⟨p5, 4, none⟩ = some (.int .i64 o) ∧ w'.cell? ⟨p7, 0, none⟩ = some (.bool true) ∧ w'.cell? ⟨p7, 1, none⟩ = some (.int .i64 l) ∧ w'.cell? ⟨p7, 2, none⟩ = some (.int .i64 h) ∧ w'.cell? ⟨p7, 3, none⟩ = some (.int .i64 0) ∧ w'.cell? ⟨p7, 4, none⟩ = some (.int .i64 (-1)) ∧ w'.cell? ⟨p7, 5, none⟩ = some (.int .i64 0) ∧ w'.cell? ⟨p10, 0, none⟩ = some (.int .i64 x0) ∧ w'.cell? ⟨p10, 1, none⟩ = some (.int .i64 y0) ∧ w'.cell? ⟨p11, 0, none⟩ = some (.int .i64 x2) ∧ w'.cell? ⟨p11, 1, none⟩ = some (.int .i64 y2) ∧ Below w.heap.size w w'
theorem fS3_on {w : World} {s j m g o l h x0 y0 x2 y2 : Int} {p5 p7 p10 p11 : Nat} {w1 w2 : World} (hh : fS3 w s j m g o l h x0 y0 x2 y2 p5 p7 p10 p11 w1) (hb : Below w1.heap.size w1 w2) : fS3 w s j m g o l h x0 y0 x2 y2 p5 p7 p10 p11 w2 :=
  ⟨cellOn hb hh.1, cellOn hb hh.2.1, cellOn hb hh.2.2.1, cellOn hb hh.2.2.2.1, cellOn hb hh.2.2.2.2.1, cellOn hb hh.2.2.2.2.2.1, cellOn hb hh.2.2.2.2.2.2.1, cellOn hb hh.2.2.2.2.2.2.2.1, cellOn hb hh.2.2.2.2.2.2.2.2.1, cellOn hb hh.2.2.2.2.2.2.2.2.2.1, cellOn hb hh.2.2.2.2.2.2.2.2.2.2.1, cellOn hb hh.2.2.2.2.2.2.2.2.2.2.2.1, cellOn hb hh.2.2.2.2.2.2.2.2.2.2.2.2.1, cellOn hb hh.2.2.2.2.2.2.2.2.2.2.2.2.2.1, cellOn hb hh.2.2.2.2.2.2.2.2.2.2.2.2.2.2.1, nbTrans hh.2.2.2.2.2.2.2.2.2.2.2.2.2.2.2 hb⟩

/-- What stands of the wheels, in one word for the walk. -/
structure Five (s j m g o l h ca cb x0 y0 x1 y1 x2 y2 : Int) : Prop where
  one : Hid (∀ w : World, Calls Try.prog 16 #[.agg #[.int .i64 s, .int .i64 j, .int .i64 m, .int .i64 g, .int .i64 o], .agg #[.int .i64 l, .int .i64 h], .int .i64 (ca + cb)] w fun e w' => e = .returned (.agg #[.int .i64 x0, .int .i64 y0]) ∧ Below w.heap.size w w')
  i1 : Hid (∀ w : World, Calls Try.prog 16 #[.agg #[.int .i64 s, .int .i64 j, .int .i64 m, .int .i64 g, .int .i64 o], .agg #[.int .i64 l, .int .i64 h], .int .i64 ca] w fun e w' => e = .returned (.agg #[.int .i64 x1, .int .i64 y1]) ∧ Below w.heap.size w w')
  i2 : Hid (∀ w : World, Calls Try.prog 16 #[.agg #[.int .i64 s, .int .i64 j, .int .i64 m, .int .i64 g, .int .i64 o], .agg #[.int .i64 x1, .int .i64 y1], .int .i64 cb] w fun e w' => e = .returned (.agg #[.int .i64 x2, .int .i64 y2]) ∧ Below w.heap.size w w')
  s1 : Hid (∀ w : World, Calls Try.prog 17 #[.agg #[.int .i64 s, .int .i64 j, .int .i64 m, .int .i64 g, .int .i64 o], .agg #[.int .i64 l, .int .i64 h], .int .i64 ca] w fun e w' => e = .returned (.agg #[.int .i64 x1, .int .i64 y1]) ∧ Below w.heap.size w w')
  s2 : Hid (∀ w : World, Calls Try.prog 17 #[.agg #[.int .i64 s, .int .i64 j, .int .i64 m, .int .i64 g, .int .i64 o], .agg #[.int .i64 x1, .int .i64 y1], .int .i64 cb] w fun e w' => e = .returned (.agg #[.int .i64 x2, .int .i64 y2]) ∧ Below w.heap.size w w')
  lo : x2 ≤ x0 + 1
  hi : y0 ≤ y2 + 1
  bx : -1000000 ≤ x0 ∧ x0 ≤ 1000000
  by2 : -1000000 ≤ y2 ∧ y2 ≤ 1000000

set_option maxHeartbeats 4000000 in
theorem sums_in (a0 a1 : Option Addr) (len0 cap0 len1 cap1 : Nat) (w : World) (hl0 : len0 ≤ 1048576) (hl1 : len1 ≤ 1048576) (hb0 : Bytes w a0 len0) (hb1 : Bytes w a1 len1)
    (H : Hid (∀ s j m g o l h ca cb : Int, 0 ≤ s → s < 80 → 0 ≤ j → j < 6 → 0 ≤ m → m < 30 → 1 ≤ g → g ≤ 400 → 0 ≤ o → o < 20 → 0 ≤ l → l < 3000 → l ≤ h → h < l + 400 → 0 ≤ ca → ca < 2000 → 0 ≤ cb → cb < 2000 → ∃ x0 y0 x1 y1 x2 y2, Five s j m g o l h ca cb x0 y0 x1 y1 x2 y2)) :
    Calls Try.prog 4 #[.slice a0 len0 cap0, .slice a1 len1 cap1] w fun e w' => e = .returned (.bool true) ∧ Below w.heap.size w w' := by
  have i0 : ¬ (1048576 : Int) < (len0 : Int) := by omega
  have i1 : ¬ (1048576 : Int) < (len1 : Int) := by omega
  have HB1 : Hid (Bytes w a1 len1) := hb1
  clear hb1
  go_enter Try.func4, Try.ntmps4
  go_wp2_with fail
  refine (known_c a0 len0 cap0 _ hb0).mono ?_
  rintro e w1 ⟨s, j, m, g, o, l, h, mv, rfl, s0, s1, j0, j1, m0, m1, g0, g1, o0, o1, l0, l1, lh, h1, hB1⟩
  go_wp2_with fail
  have hB2 := nbAlloc (nbAlloc hB1 (.cells #[.int .i64 s, .int .i64 j, .int .i64 m, .int .i64 g, .int .i64 o] 24)) (.cells #[.bool true, .int .i64 l, .int .i64 h, .int .i64 0, .int .i64 (-1), .int .i64 0] 29)
  have hby2 := HB1.out.on hB2
  have hC : fS w s j m g o l h w1.heap.size (w1.heap.size + 1) ((w1.alloc (.cells #[.int .i64 s, .int .i64 j, .int .i64 m, .int .i64 g, .int .i64 o] 24)).alloc (.cells #[.bool true, .int .i64 l, .int .i64 h, .int .i64 0, .int .i64 (-1), .int .i64 0] 29)) := ⟨by go_simp, by go_simp, by go_simp, by go_simp, by go_simp, by go_simp, by go_simp, by go_simp, by go_simp, by go_simp, by go_simp, hB2⟩
  generalize (w1.alloc (.cells #[.int .i64 s, .int .i64 j, .int .i64 m, .int .i64 g, .int .i64 o] 24)).alloc (.cells #[.bool true, .int .i64 l, .int .i64 h, .int .i64 0, .int .i64 (-1), .int .i64 0] 29) = w2 at *
  have hpq : w1.heap.size < w1.heap.size + 1 := by omega
  have hbs : w.heap.size ≤ w1.heap.size := hB1.size
  clear hb0 hB1 hB2
  generalize w1.heap.size + 1 = p7 at *
  generalize w1.heap.size = p5 at *
  refine (wByte_c a1 len1 cap1 0 _ hby2 hl1 (by omega) (by omega)).mono ?_
  rintro e w' ⟨v0, rfl, u0, u1, rfl⟩
  go_wp2_with fail
  refine (wByte_c a1 len1 cap1 1 _ hby2 hl1 (by omega) (by omega)).mono ?_
  rintro e w' ⟨v1, rfl, u2, u3, rfl⟩
  go_wp2_with fail
  refine (wByte_c a1 len1 cap1 2 _ hby2 hl1 (by omega) (by omega)).mono ?_
  rintro e w' ⟨v2, rfl, u4, u5, rfl⟩
  go_wp2_with fail
  refine (wByte_c a1 len1 cap1 3 _ hby2 hl1 (by omega) (by omega)).mono ?_
  rintro e w' ⟨v3, rfl, u6, u7, rfl⟩
  have c0 : w2.cell? ⟨p5, 0, none⟩ = some (.int .i64 s) := hC.1
  have c1 : w2.cell? ⟨p5, 1, none⟩ = some (.int .i64 j) := hC.2.1
  have c2 : w2.cell? ⟨p5, 2, none⟩ = some (.int .i64 m) := hC.2.2.1
  have c3 : w2.cell? ⟨p5, 3, none⟩ = some (.int .i64 g) := hC.2.2.2.1
  have c4 : w2.cell? ⟨p5, 4, none⟩ = some (.int .i64 o) := hC.2.2.2.2.1
  have c5 : w2.cell? ⟨p7, 0, none⟩ = some (.bool true) := hC.2.2.2.2.2.1
  have c6 : w2.cell? ⟨p7, 1, none⟩ = some (.int .i64 l) := hC.2.2.2.2.2.2.1
  have c7 : w2.cell? ⟨p7, 2, none⟩ = some (.int .i64 h) := hC.2.2.2.2.2.2.2.1
  have c8 : w2.cell? ⟨p7, 3, none⟩ = some (.int .i64 0) := hC.2.2.2.2.2.2.2.2.1
  have c9 : w2.cell? ⟨p7, 4, none⟩ = some (.int .i64 (-1)) := hC.2.2.2.2.2.2.2.2.2.1
  have c10 : w2.cell? ⟨p7, 5, none⟩ = some (.int .i64 0) := hC.2.2.2.2.2.2.2.2.2.2.1
  have c11 : Below w.heap.size w w2 := hC.2.2.2.2.2.2.2.2.2.2.2
  have ca0 : 0 ≤ (v0 + 256 * v1) % 2000 ∧ (v0 + 256 * v1) % 2000 < 2000 := by omega
  have cb0 : 0 ≤ (v2 + 256 * v3) % 2000 ∧ (v2 + 256 * v3) % 2000 < 2000 := by omega
  go_wp2_with fail
  generalize (v0 + 256 * v1) % 2000 = ca at *
  generalize (v2 + 256 * v3) % 2000 = cb at *
  obtain ⟨x0, y0, x1, y1, x2, y2, FV⟩ := H.out s j m g o l h ca cb s0 s1 j0 j1 m0 m1 g0 g1 o0 o1 l0 l1 lh h1 ca0.1 ca0.2 cb0.1 cb0.2
  clear u0 u1 u2 u3 u4 u5 u6 u7 c0 c1 c2 c3 c4 c5 c6 c7 c8 c9 c10 c11
  refine (FV.one.out _).mono ?_
  rintro e w3 ⟨rfl, hb3⟩
  have hC3 := fS_on hC hb3
  go_wp2_with fail
  have hC4 : fS2 w s j m g o l h x0 y0 p5 p7 w3.heap.size (w3.alloc (.cells #[.int .i64 x0, .int .i64 y0] 27)) := ⟨cellNw hC3.1 _, cellNw hC3.2.1 _, cellNw hC3.2.2.1 _, cellNw hC3.2.2.2.1 _, cellNw hC3.2.2.2.2.1 _, cellNw hC3.2.2.2.2.2.1 _, cellNw hC3.2.2.2.2.2.2.1 _, cellNw hC3.2.2.2.2.2.2.2.1 _, cellNw hC3.2.2.2.2.2.2.2.2.1 _, cellNw hC3.2.2.2.2.2.2.2.2.2.1 _, cellNw hC3.2.2.2.2.2.2.2.2.2.2.1 _, by go_simp, by go_simp, nbAlloc hC3.2.2.2.2.2.2.2.2.2.2.2 _⟩
  generalize hW4 : w3.alloc (.cells #[.int .i64 x0, .int .i64 y0] 27) = w4 at *
  clear hW4
  generalize w3.heap.size = p10 at *
  refine region_new (fS2 w s j m g o l h x0 y0 p5 p7 p10) (fun _ _ => fS2_on) 8 9 11 rfl rfl (by kernel_rfl) (by kernel_rfl) (by kernel_rfl) ?_ #[.int .i64 0, .int .i64 0] 27 (fun a w => by go_simp) ?_
  · obtain ⟨q0, q1, q2, q3, q4, q5, q6, q7, q8, q9, q10, q11, q12, q13⟩ := hC4
    exact ⟨q0, q1, q2, q3, q4, q5, q6, q7, q8, q9, q10, q11, q12, q13.drew⟩
  apply Exists.intro
  refine ⟨fun W hW hN => ?_, fun w5 p11 hw5 hp hblk => ?_⟩
  · simp only [List.set_cons_succ, List.set_cons_zero, idle]
    have k0 : ∀ d : Kept (fun w' => fS2 w s j m g o l h x0 y0 p5 p7 p10 w' ∧ Below W.heap.size W w'), d.w.cell? ⟨p5, 0, none⟩ = some (.int .i64 s) := fun d => d.h.1.1
    have k1 : ∀ d : Kept (fun w' => fS2 w s j m g o l h x0 y0 p5 p7 p10 w' ∧ Below W.heap.size W w'), d.w.cell? ⟨p5, 1, none⟩ = some (.int .i64 j) := fun d => d.h.1.2.1
    have k2 : ∀ d : Kept (fun w' => fS2 w s j m g o l h x0 y0 p5 p7 p10 w' ∧ Below W.heap.size W w'), d.w.cell? ⟨p5, 2, none⟩ = some (.int .i64 m) := fun d => d.h.1.2.2.1
    have k3 : ∀ d : Kept (fun w' => fS2 w s j m g o l h x0 y0 p5 p7 p10 w' ∧ Below W.heap.size W w'), d.w.cell? ⟨p5, 3, none⟩ = some (.int .i64 g) := fun d => d.h.1.2.2.2.1
    have k4 : ∀ d : Kept (fun w' => fS2 w s j m g o l h x0 y0 p5 p7 p10 w' ∧ Below W.heap.size W w'), d.w.cell? ⟨p5, 4, none⟩ = some (.int .i64 o) := fun d => d.h.1.2.2.2.2.1
    have k5 : ∀ d : Kept (fun w' => fS2 w s j m g o l h x0 y0 p5 p7 p10 w' ∧ Below W.heap.size W w'), d.w.cell? ⟨p7, 0, none⟩ = some (.bool true) := fun d => d.h.1.2.2.2.2.2.1
    have k6 : ∀ d : Kept (fun w' => fS2 w s j m g o l h x0 y0 p5 p7 p10 w' ∧ Below W.heap.size W w'), d.w.cell? ⟨p7, 1, none⟩ = some (.int .i64 l) := fun d => d.h.1.2.2.2.2.2.2.1
    have k7 : ∀ d : Kept (fun w' => fS2 w s j m g o l h x0 y0 p5 p7 p10 w' ∧ Below W.heap.size W w'), d.w.cell? ⟨p7, 2, none⟩ = some (.int .i64 h) := fun d => d.h.1.2.2.2.2.2.2.2.1
    have k8 : ∀ d : Kept (fun w' => fS2 w s j m g o l h x0 y0 p5 p7 p10 w' ∧ Below W.heap.size W w'), d.w.cell? ⟨p7, 3, none⟩ = some (.int .i64 0) := fun d => d.h.1.2.2.2.2.2.2.2.2.1
    have k9 : ∀ d : Kept (fun w' => fS2 w s j m g o l h x0 y0 p5 p7 p10 w' ∧ Below W.heap.size W w'), d.w.cell? ⟨p7, 4, none⟩ = some (.int .i64 (-1)) := fun d => d.h.1.2.2.2.2.2.2.2.2.2.1
    have k10 : ∀ d : Kept (fun w' => fS2 w s j m g o l h x0 y0 p5 p7 p10 w' ∧ Below W.heap.size W w'), d.w.cell? ⟨p7, 5, none⟩ = some (.int .i64 0) := fun d => d.h.1.2.2.2.2.2.2.2.2.2.2.1
    have k11 : ∀ d : Kept (fun w' => fS2 w s j m g o l h x0 y0 p5 p7 p10 w' ∧ Below W.heap.size W w'), d.w.cell? ⟨p10, 0, none⟩ = some (.int .i64 x0) := fun d => d.h.1.2.2.2.2.2.2.2.2.2.2.2.1
    have k12 : ∀ d : Kept (fun w' => fS2 w s j m g o l h x0 y0 p5 p7 p10 w' ∧ Below W.heap.size W w'), d.w.cell? ⟨p10, 1, none⟩ = some (.int .i64 y0) := fun d => d.h.1.2.2.2.2.2.2.2.2.2.2.2.2.1
    repeat (go_big_quiet_step (first | (go_at_call_of 16 (Value.int IntKind.i64 ca); exact call_new _ fS2_on (FV.i1.out _)) | (go_at_call_of 16 (Value.int IntKind.i64 cb); exact call_new _ fS2_on (FV.i2.out _))))
    exact wpQuiet_nil rfl
  have q0 : w5.cell? ⟨p11, 0, none⟩ = some (.int .i64 0) := by simp [World.cell?, hblk]
  have q1 : w5.cell? ⟨p11, 1, none⟩ = some (.int .i64 0) := by simp [World.cell?, hblk]
  have q2 : w5.frozen? ⟨p11, 0, none⟩ = false := by simp [World.frozen?, hblk]
  have q3 : w5.frozen? ⟨p11, 1, none⟩ = false := by simp [World.frozen?, hblk]
  have l5 := ltCell hC4.1
  have l7 := ltCell hC4.2.2.2.2.2.1
  have l10 := ltCell hC4.2.2.2.2.2.2.2.2.2.2.2.1
  have e0 := cellSet2 (v0 := .int .i64 x2) (v1 := .int .i64 y2) q0 q1
  have hC6 : fS3 w s j m g o l h x0 y0 x2 y2 p5 p7 p10 p11 ((w5.setCell ⟨p11, 0, none⟩ (.int .i64 x2)).setCell ⟨p11, 1, none⟩ (.int .i64 y2)) := ⟨cellFar2 (by omega) hw5.1, cellFar2 (by omega) hw5.2.1, cellFar2 (by omega) hw5.2.2.1, cellFar2 (by omega) hw5.2.2.2.1, cellFar2 (by omega) hw5.2.2.2.2.1, cellFar2 (by omega) hw5.2.2.2.2.2.1, cellFar2 (by omega) hw5.2.2.2.2.2.2.1, cellFar2 (by omega) hw5.2.2.2.2.2.2.2.1, cellFar2 (by omega) hw5.2.2.2.2.2.2.2.2.1, cellFar2 (by omega) hw5.2.2.2.2.2.2.2.2.2.1, cellFar2 (by omega) hw5.2.2.2.2.2.2.2.2.2.2.1, cellFar2 (by omega) hw5.2.2.2.2.2.2.2.2.2.2.2.1, cellFar2 (by omega) hw5.2.2.2.2.2.2.2.2.2.2.2.2.1, e0.1, e0.2, nbSet2 hw5.2.2.2.2.2.2.2.2.2.2.2.2.2 (by have := hC4.2.2.2.2.2.2.2.2.2.2.2.2.2.size; omega)⟩
  clear hblk hp e0
  go_simp
  generalize (w5.setCell ⟨p11, 0, none⟩ (.int .i64 x2)).setCell ⟨p11, 1, none⟩ (.int .i64 y2) = w6 at *
  go_wp2_with fail
  have lo := FV.lo
  have hi := FV.hi
  have wr1 : IntKind.i64.wrap (x0 + 1) = x0 + 1 := wrapS (by have := FV.bx; omega) (by have := FV.bx; omega)
  have wr2 : IntKind.i64.wrap (y2 + 1) = y2 + 1 := wrapS (by have := FV.by2; omega) (by have := FV.by2; omega)
  refine region_kept (fS3 w s j m g o l h x0 y0 x2 y2 p5 p7 p10 p11) (by kernel_rfl) (by kernel_rfl) ?_ ?_
  · obtain ⟨q0', q1', q2', q3', q4', q5', q6', q7', q8', q9', q10', q11', q12', q13', q14', q15'⟩ := hC6
    exact ⟨q0', q1', q2', q3', q4', q5', q6', q7', q8', q9', q10', q11', q12', q13', q14', q15'.drew⟩
  intro hN
  have k0 : ∀ d : Kept (fS3 w s j m g o l h x0 y0 x2 y2 p5 p7 p10 p11), d.w.cell? ⟨p5, 0, none⟩ = some (.int .i64 s) := fun d => d.h.1
  have k1 : ∀ d : Kept (fS3 w s j m g o l h x0 y0 x2 y2 p5 p7 p10 p11), d.w.cell? ⟨p5, 1, none⟩ = some (.int .i64 j) := fun d => d.h.2.1
  have k2 : ∀ d : Kept (fS3 w s j m g o l h x0 y0 x2 y2 p5 p7 p10 p11), d.w.cell? ⟨p5, 2, none⟩ = some (.int .i64 m) := fun d => d.h.2.2.1
  have k3 : ∀ d : Kept (fS3 w s j m g o l h x0 y0 x2 y2 p5 p7 p10 p11), d.w.cell? ⟨p5, 3, none⟩ = some (.int .i64 g) := fun d => d.h.2.2.2.1
  have k4 : ∀ d : Kept (fS3 w s j m g o l h x0 y0 x2 y2 p5 p7 p10 p11), d.w.cell? ⟨p5, 4, none⟩ = some (.int .i64 o) := fun d => d.h.2.2.2.2.1
  have k5 : ∀ d : Kept (fS3 w s j m g o l h x0 y0 x2 y2 p5 p7 p10 p11), d.w.cell? ⟨p7, 0, none⟩ = some (.bool true) := fun d => d.h.2.2.2.2.2.1
  have k6 : ∀ d : Kept (fS3 w s j m g o l h x0 y0 x2 y2 p5 p7 p10 p11), d.w.cell? ⟨p7, 1, none⟩ = some (.int .i64 l) := fun d => d.h.2.2.2.2.2.2.1
  have k7 : ∀ d : Kept (fS3 w s j m g o l h x0 y0 x2 y2 p5 p7 p10 p11), d.w.cell? ⟨p7, 2, none⟩ = some (.int .i64 h) := fun d => d.h.2.2.2.2.2.2.2.1
  have k8 : ∀ d : Kept (fS3 w s j m g o l h x0 y0 x2 y2 p5 p7 p10 p11), d.w.cell? ⟨p7, 3, none⟩ = some (.int .i64 0) := fun d => d.h.2.2.2.2.2.2.2.2.1
  have k9 : ∀ d : Kept (fS3 w s j m g o l h x0 y0 x2 y2 p5 p7 p10 p11), d.w.cell? ⟨p7, 4, none⟩ = some (.int .i64 (-1)) := fun d => d.h.2.2.2.2.2.2.2.2.2.1
  have k10 : ∀ d : Kept (fS3 w s j m g o l h x0 y0 x2 y2 p5 p7 p10 p11), d.w.cell? ⟨p7, 5, none⟩ = some (.int .i64 0) := fun d => d.h.2.2.2.2.2.2.2.2.2.2.1
  have k11 : ∀ d : Kept (fS3 w s j m g o l h x0 y0 x2 y2 p5 p7 p10 p11), d.w.cell? ⟨p10, 0, none⟩ = some (.int .i64 x0) := fun d => d.h.2.2.2.2.2.2.2.2.2.2.2.1
  have k12 : ∀ d : Kept (fS3 w s j m g o l h x0 y0 x2 y2 p5 p7 p10 p11), d.w.cell? ⟨p10, 1, none⟩ = some (.int .i64 y0) := fun d => d.h.2.2.2.2.2.2.2.2.2.2.2.2.1
  have k13 : ∀ d : Kept (fS3 w s j m g o l h x0 y0 x2 y2 p5 p7 p10 p11), d.w.cell? ⟨p11, 0, none⟩ = some (.int .i64 x2) := fun d => d.h.2.2.2.2.2.2.2.2.2.2.2.2.2.1
  have k14 : ∀ d : Kept (fS3 w s j m g o l h x0 y0 x2 y2 p5 p7 p10 p11), d.w.cell? ⟨p11, 1, none⟩ = some (.int .i64 y2) := fun d => d.h.2.2.2.2.2.2.2.2.2.2.2.2.2.2.1
  repeat (go_big_quiet_step (first | (go_at_call_of 17 (Value.int IntKind.i64 ca); exact call_kept _ fS3_on (FV.s1.out _)) | (go_at_call_of 17 (Value.int IntKind.i64 cb); exact call_kept _ fS3_on (FV.s2.out _))))
  refine wpQuiet_nil ?_
  rintro _ ⟨⟨w7, hd⟩, rfl⟩
  go_wp2
  go_ret
  exact ⟨rfl, hd.2.2.2.2.2.2.2.2.2.2.2.2.2.2.2⟩

theorem lst_two {s j a b : Int} (hs : 0 ≤ s) (hj : 0 ≤ j) (ha : 0 ≤ a) (hb : 0 ≤ b) : lst s j a + lst s j b ≤ lst s j (a + b) + 1 := by
  unfold lst
  have hd : (0 : Int) < 1000 + s := by omega
  have h1 := Int.ediv_mul_le (1000 * max (a - j) 0 + (1000 + s) - 1) (Int.ne_of_gt hd)
  have h2 := Int.ediv_mul_le (1000 * max (b - j) 0 + (1000 + s) - 1) (Int.ne_of_gt hd)
  have h3 := Int.lt_ediv_add_one_mul_self (1000 * max (a + b - j) 0 + (1000 + s) - 1) hd
  have hm : max (a - j) 0 + max (b - j) 0 ≤ max (a + b - j) 0 := by omega
  generalize (1000 * max (a - j) 0 + (1000 + s) - 1) / (1000 + s) = p at *
  generalize (1000 * max (b - j) 0 + (1000 + s) - 1) / (1000 + s) = q at *
  generalize (1000 * max (a + b - j) 0 + (1000 + s) - 1) / (1000 + s) = r at *
  generalize 1000 + s = d at *
  have h4 : (p + q) * d < (r + 2) * d := by
    rw [Int.add_mul] at h3 ⊢
    rw [Int.add_mul]
    omega
  have := Int.lt_of_mul_lt_mul_right h4 (Int.le_of_lt hd)
  omega
theorem mst_two {s j a b : Int} (hs : s ≤ 500) (hj : 0 ≤ j) : mst s j (a + b) ≤ mst s j a + mst s j b + 1 := by
  unfold mst
  have hd : (0 : Int) < 1000 - s := by omega
  have h1 := Int.lt_ediv_add_one_mul_self (1000 * (a + j)) hd
  have h2 := Int.lt_ediv_add_one_mul_self (1000 * (b + j)) hd
  have h3 := Int.ediv_mul_le (1000 * (a + b + j)) (Int.ne_of_gt hd)
  generalize 1000 * (a + j) / (1000 - s) = p at *
  generalize 1000 * (b + j) / (1000 - s) = q at *
  generalize 1000 * (a + b + j) / (1000 - s) = r at *
  generalize 1000 - s = d at *
  have h4 : r * d < (p + q + 2) * d := by
    rw [Int.add_mul] at h1 h2
    rw [Int.add_mul, Int.add_mul]
    omega
  have := Int.lt_of_mul_lt_mul_right h4 (Int.le_of_lt hd)
  omega

theorem five_holds (s j m g o l h ca cb : Int) (s0 : 0 ≤ s) (s1 : s < 80) (j0 : 0 ≤ j) (j1 : j < 6) (m0 : 0 ≤ m) (m1 : m < 30) (g0 : 1 ≤ g) (g1 : g ≤ 400) (o0 : 0 ≤ o) (o1 : o < 20) (l0 : 0 ≤ l) (l1 : l < 3000) (lh : l ≤ h) (h1 : h < l + 400) (a0 : 0 ≤ ca) (a1 : ca < 2000) (b0 : 0 ≤ cb) (b1 : cb < 2000) :
    ∃ x0 y0 x1 y1 x2 y2, Five s j m g o l h ca cb x0 y0 x1 y1 x2 y2 := by
  have hr : rOk s j m g o = true := by simp [rOk, inB]; omega
  have hbk : bOk l h = true := by simp [bOk]; omega
  have hca : inB ca 0 100000 = true := by simp [inB]; omega
  have hcb : inB cb 0 100000 = true := by simp [inB]; omega
  have hcc : inB (ca + cb) 0 100000 = true := by simp [inB]; omega
  have e1 := lst_nonneg (j := j) (c := ca) s0
  have e2 := lst_nonneg (j := j) (c := cb) s0
  have e3 := lst_nonneg (j := j) (c := ca + cb) s0
  have e4 := lst_le s0 j0 a0
  have e5 := lst_le s0 j0 b0
  have e6 := lst_le (c := ca + cb) s0 j0 (by omega)
  have e7 := mst_ge (s := s) (j := j) s0 (by omega) j0 a0
  have e8 := mst_ge (s := s) (j := j) s0 (by omega) j0 b0
  have e9 := mst_ge (s := s) (j := j) (c := ca + cb) s0 (by omega) j0 (by omega)
  have f1 := mst_le (c := ca) s0 (by omega) (by omega : j ≤ 1000) (by omega)
  have f2 := mst_le (c := cb) s0 (by omega) (by omega : j ≤ 1000) (by omega)
  have f3 := mst_le (c := ca + cb) s0 (by omega) (by omega : j ≤ 1000) (by omega)
  have t1 := lst_two s0 j0 a0 b0
  have t2 := mst_two (s := s) (a := ca) (b := cb) (by omega) j0
  have hb1 : bOk (l + lst s j ca) (h + mst s j ca) = true := by simp [bOk]; omega
  refine ⟨l + lst s j (ca + cb), h + mst s j (ca + cb), l + lst s j ca, h + mst s j ca, l + lst s j ca + lst s j cb, h + mst s j ca + mst s j cb, fun w => ?_, fun w => ?_, fun w => ?_, fun w => ?_, fun w => ?_, by omega, by omega, by omega, by omega⟩
  · have := implWheel_ok s j m g o l h (ca + cb) w hr hbk hcc
    rwa [Int.min_eq_left (by omega), Int.min_eq_left (by omega)] at this
  · have := implWheel_ok s j m g o l h ca w hr hbk hca
    rwa [Int.min_eq_left (by omega), Int.min_eq_left (by omega)] at this
  · have := implWheel_ok s j m g o _ _ cb w hr hb1 hcb
    rwa [Int.min_eq_left (by omega), Int.min_eq_left (by omega)] at this
  · have := specWheel_ok s j m g o l h ca w hr hbk hca
    rwa [Int.min_eq_left (by omega), Int.min_eq_left (by omega)] at this
  · have := specWheel_ok s j m g o _ _ cb w hr hb1 hcb
    rwa [Int.min_eq_left (by omega), Int.min_eq_left (by omega)] at this

set_option maxHeartbeats 1000000 in
theorem lawSums_c (a0 a1 : Option Addr) (len0 cap0 len1 cap1 : Nat) (w : World) (hb0 : Bytes w a0 len0) (hb1 : Bytes w a1 len1) :
    Calls Try.prog 4 #[.slice a0 len0 cap0, .slice a1 len1 cap1] w fun e w' => e = .returned (.bool true) ∧ Below w.heap.size w w' := by
  by_cases h0 : (1048576 : Int) < (len0 : Int)
  · clear hb0 hb1
    go_enter Try.func4, Try.ntmps4
    go_wp2
    go_ret
    exact ⟨rfl, Below.refl _ _⟩
  · by_cases h1 : (1048576 : Int) < (len1 : Int)
    · clear hb0 hb1
      go_enter Try.func4, Try.ntmps4
      go_wp2
      go_ret
      exact ⟨rfl, Below.refl _ _⟩
    · exact sums_in a0 a1 len0 cap0 len1 cap1 w (by omega) (by omega) hb0 hb1 (fun s j m g o l h ca cb => five_holds s j m g o l h ca cb)

end Go.Proofs.Ytmhppadblddjoaa
