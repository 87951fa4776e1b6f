/- Bounds are as narrow as can be: the law's walk, the program's Fair as a premise. -/
import Derived.Test.YtmhppadblddjoaaDoorKnown2
import Derived.Test.YtmhppadblddjoaaDoorWB
import Derived.Test.YtmhppadblddjoaaDoorSp4
import Derived.Test.YtmhppadblddjoaaDoorW4
import Derived.Test.YtmhppadblddjoaaDoorRelG
namespace Go.Proofs.YtmhppadblddjoaaDoor
open Go.RowKit
set_option linter.unusedVariables false

theorem fairA_one {s j m g o x c : Int} (hr : rOk s j m g o = true) : fairA s j m g o (fun _ => x) (fun _ => c) 1 = tickB s j x c := by
  simp [fairA, hr, tickTo]
theorem eqBd2 (a b : Int) (w : World) : (binOp .eql 27 (.agg #[.int .i64 a, .int .i64 b]) (.agg #[.int .i64 a, .int .i64 b])).run Tryd.prog w = .ok (.bool true) w := by
  go_simp
set_option maxHeartbeats 400000 in
theorem wOne_c (x c : Int) (w : World) : Calls Tryd.prog 24 #[.int .i64 x, .int .i64 c] w fun e w' => e = .returned (.slice (some ⟨w.heap.size, 0, none⟩) 1 1) ∧ Row2 w' w.heap.size 0 1 (fun _ => x) (fun _ => c) ∧ Below w.heap.size w w' := by
  go_enter Tryd.func24, Tryd.ntmps24
  go_wp2_with fail
  go_ret
  exact ⟨rfl, fun i hi => by
    have : i = 0 := by omega
    subst this
    constructor <;> go_simp, nbAlloc (Below.refl _ _) _⟩

def juC (w : World) (s j m g o bl bh : Int) (p5 p7 : Nat) (a1 : Option Addr) (len1 : Nat) (u : Nat → Int) : World → Prop := fun w' => w'.cell? ⟨p5, 0, none⟩ = some (.int .i64 s) ∧ w'.cell? ⟨p5, 1, none⟩ = some (.int .i64 j) ∧ w'.cell? ⟨p5, 2, none⟩ = some (.int .i64 m) ∧ w'.cell? ⟨p5, 3, none⟩ = some (.int .i64 g) ∧ w'.cell? ⟨p5, 4, none⟩ = some (.int .i64 o) ∧ w'.cell? ⟨p7, 0, none⟩ = some (.bool true) ∧ w'.cell? ⟨p7, 1, none⟩ = some (.int .i64 bl) ∧ w'.cell? ⟨p7, 2, none⟩ = some (.int .i64 bh) ∧ w'.cell? ⟨p7, 3, none⟩ = some (.int .i64 0) ∧ w'.cell? ⟨p7, 4, none⟩ = some (.int .i64 (-1)) ∧ w'.cell? ⟨p7, 5, none⟩ = some (.int .i64 0) ∧ BytesV w' a1 len1 u ∧ Below w.heap.size w w'
theorem juC_on {w : World} {s j m g o bl bh : Int} {p5 p7 : Nat} {a1 : Option Addr} {len1 : Nat} {u : Nat → Int} {w1 w2 : World} (hh : juC w s j m g o bl bh p5 p7 a1 len1 u w1) (hb : Below w1.heap.size w1 w2) : juC w s j m g o bl bh p5 p7 a1 len1 u w2 :=
  ⟨cellOn hb hh.1, cellOn hb hh.2.1, cellOn hb hh.2.2.1, cellOn hb hh.2.2.2.1, cellOn hb hh.2.2.2.2.1, cellOn hb hh.2.2.2.2.2.1, cellOn hb hh.2.2.2.2.2.2.1, cellOn hb hh.2.2.2.2.2.2.2.1, cellOn hb hh.2.2.2.2.2.2.2.2.1, cellOn hb hh.2.2.2.2.2.2.2.2.2.1, cellOn hb hh.2.2.2.2.2.2.2.2.2.2.1, hh.2.2.2.2.2.2.2.2.2.2.2.1.on hb, nbTrans hh.2.2.2.2.2.2.2.2.2.2.2.2 hb⟩

def juD (w : World) (s j m g o bl bh : Int) (p5 p7 p9 : Nat) (x y : Int) : World → Prop := fun w' => w'.cell? ⟨p5, 0, none⟩ = some (.int .i64 s) ∧ w'.cell? ⟨p5, 1, none⟩ = some (.int .i64 j) ∧ w'.cell? ⟨p5, 2, none⟩ = some (.int .i64 m) ∧ w'.cell? ⟨p5, 3, none⟩ = some (.int .i64 g) ∧ w'.cell? ⟨p5, 4, none⟩ = some (.int .i64 o) ∧ w'.cell? ⟨p7, 0, none⟩ = some (.bool true) ∧ w'.cell? ⟨p7, 1, none⟩ = some (.int .i64 bl) ∧ w'.cell? ⟨p7, 2, none⟩ = some (.int .i64 bh) ∧ w'.cell? ⟨p7, 3, none⟩ = some (.int .i64 0) ∧ w'.cell? ⟨p7, 4, none⟩ = some (.int .i64 (-1)) ∧ w'.cell? ⟨p7, 5, none⟩ = some (.int .i64 0) ∧ w'.cell? ⟨p9, 0, none⟩ = some (.int .i64 (bl + x)) ∧ w'.cell? ⟨p9, 1, none⟩ = some (.int .i64 (bh + y)) ∧ Below w.heap.size w w'
theorem juD_on {w : World} {s j m g o bl bh : Int} {p5 p7 p9 : Nat} {x y : Int} {w1 w2 : World} (hh : juD w s j m g o bl bh p5 p7 p9 x y w1) (hb : Below w1.heap.size w1 w2) : juD w s j m g o bl bh p5 p7 p9 x y w2 :=
  ⟨cellOn hb hh.1, cellOn hb hh.2.1, cellOn hb hh.2.2.1, cellOn hb hh.2.2.2.1, cellOn hb hh.2.2.2.2.1, cellOn hb hh.2.2.2.2.2.1, cellOn hb hh.2.2.2.2.2.2.1, cellOn hb hh.2.2.2.2.2.2.2.1, cellOn hb hh.2.2.2.2.2.2.2.2.1, cellOn hb hh.2.2.2.2.2.2.2.2.2.1, cellOn hb hh.2.2.2.2.2.2.2.2.2.2.1, cellOn hb hh.2.2.2.2.2.2.2.2.2.2.2.1, cellOn hb hh.2.2.2.2.2.2.2.2.2.2.2.2.1, nbTrans hh.2.2.2.2.2.2.2.2.2.2.2.2.2 hb⟩

def juY (s j m g o bl bh : Int) (p7 : Nat) (x y c : Int) : Nat → Value → World → Prop
  | 0, v, _ => v = .int .i64 x
  | 1, v, _ => v = .bool false
  | 2, v, _ => v = .bool false
  | 3, v, _ => v = .agg #[.int .i64 s, .int .i64 j, .int .i64 m, .int .i64 g, .int .i64 o]
  | 4, v, _ => v = .int .i64 x
  | 5, v, _ => v = .int .i64 (x - 1)
  | 6, v, _ => v = .int .i64 c
  | 7, v, w => ∃ q, v = .slice (some ⟨q, 0, none⟩) 1 1 ∧ Row2 w q 0 1 (fun _ => x - 1) (fun _ => c)
  | 8, v, _ => v = .bool false
  | 9, v, _ => v = .bool true
  | 10, v, _ => v = .bool true
  | 11, v, _ => v = .bool true
  | 12, v, _ => v = .agg #[.int .i64 s, .int .i64 j, .int .i64 m, .int .i64 g, .int .i64 o]
  | 13, v, _ => v = .int .i64 y
  | 14, v, _ => v = .int .i64 (y + 1)
  | 15, v, _ => v = .int .i64 c
  | 16, v, w => ∃ q, v = .slice (some ⟨q, 0, none⟩) 1 1 ∧ Row2 w q 0 1 (fun _ => y + 1) (fun _ => c)
  | 17, v, _ => v = .bool false
  | 18, v, _ => v = .bool true
  | 19, v, _ => v = .bool true
  | 20, v, _ => v = .bool true
  | 21, v, _ => v = .agg #[.int .i64 (bl + x), .int .i64 (bh + y)]
  | 22, v, _ => v = .agg #[.int .i64 s, .int .i64 j, .int .i64 m, .int .i64 g, .int .i64 o]
  | 23, v, _ => v = .pointer (some ⟨p7, 1, none⟩)
  | 24, v, _ => v = .agg #[.int .i64 bl, .int .i64 bh]
  | 25, v, _ => v = .int .i64 c
  | 26, v, _ => v = .agg #[.int .i64 (bl + x), .int .i64 (bh + y)]
  | 27, v, _ => v = .bool true
  | 28, v, _ => v = .bool true
  | 29, v, _ => v = .bool true
  | _, _, _ => True
theorem juY_on {s j m g o bl bh : Int} {p7 : Nat} {x y c : Int} : ∀ jj v w w', juY s j m g o bl bh p7 x y c jj v w → Below w.heap.size w w' → juY s j m g o bl bh p7 x y c jj v w'
  | 0, _, _, _, h, _ => h
  | 1, _, _, _, h, _ => h
  | 2, _, _, _, h, _ => h
  | 3, _, _, _, h, _ => h
  | 4, _, _, _, h, _ => h
  | 5, _, _, _, h, _ => h
  | 6, _, _, _, h, _ => h
  | 7, _, _, _, ⟨q, h1, h2⟩, hb => ⟨q, h1, h2.on hb⟩
  | 8, _, _, _, h, _ => h
  | 9, _, _, _, h, _ => h
  | 10, _, _, _, h, _ => h
  | 11, _, _, _, h, _ => h
  | 12, _, _, _, h, _ => h
  | 13, _, _, _, h, _ => h
  | 14, _, _, _, h, _ => h
  | 15, _, _, _, h, _ => h
  | 16, _, _, _, ⟨q, h1, h2⟩, hb => ⟨q, h1, h2.on hb⟩
  | 17, _, _, _, h, _ => h
  | 18, _, _, _, h, _ => h
  | 19, _, _, _, h, _ => h
  | 20, _, _, _, h, _ => h
  | 21, _, _, _, h, _ => h
  | 22, _, _, _, h, _ => h
  | 23, _, _, _, h, _ => h
  | 24, _, _, _, h, _ => h
  | 25, _, _, _, h, _ => h
  | 26, _, _, _, h, _ => h
  | 27, _, _, _, h, _ => h
  | 28, _, _, _, h, _ => h
  | 29, _, _, _, h, _ => h
  | _ + 30, _, _, _, _, _ => trivial
theorem juY_7 {s j m g o bl bh : Int} {p7 : Nat} {x y c : Int} {v : Value} {w : World} (h : juY s j m g o bl bh p7 x y c 7 v w) : ∃ q, v = .slice (some ⟨q, 0, none⟩) 1 1 ∧ Row2 w q 0 1 (fun _ => x - 1) (fun _ => c) := h
theorem juY_16 {s j m g o bl bh : Int} {p7 : Nat} {x y c : Int} {v : Value} {w : World} (h : juY s j m g o bl bh p7 x y c 16 v w) : ∃ q, v = .slice (some ⟨q, 0, none⟩) 1 1 ∧ Row2 w q 0 1 (fun _ => y + 1) (fun _ => c) := h

def juZ (s j m g o bl bh : Int) (p7 : Nat) (x y c : Int) : Nat → Value → World → Prop
  | 0, v, _ => v = .int .i64 x
  | 1, v, _ => v = .bool true
  | 2, v, _ => v = .bool true
  | 3, v, _ => v = undef
  | 4, v, _ => v = undef
  | 5, v, _ => v = undef
  | 6, v, _ => v = undef
  | 7, v, _ => v = undef
  | 8, v, _ => v = undef
  | 9, v, _ => v = undef
  | 10, v, _ => v = .bool true
  | 11, v, _ => v = .bool true
  | 12, v, _ => v = .agg #[.int .i64 s, .int .i64 j, .int .i64 m, .int .i64 g, .int .i64 o]
  | 13, v, _ => v = .int .i64 y
  | 14, v, _ => v = .int .i64 (y + 1)
  | 15, v, _ => v = .int .i64 c
  | 16, v, w => ∃ q, v = .slice (some ⟨q, 0, none⟩) 1 1 ∧ Row2 w q 0 1 (fun _ => y + 1) (fun _ => c)
  | 17, v, _ => v = .bool false
  | 18, v, _ => v = .bool true
  | 19, v, _ => v = .bool true
  | 20, v, _ => v = .bool true
  | 21, v, _ => v = .agg #[.int .i64 (bl + x), .int .i64 (bh + y)]
  | 22, v, _ => v = .agg #[.int .i64 s, .int .i64 j, .int .i64 m, .int .i64 g, .int .i64 o]
  | 23, v, _ => v = .pointer (some ⟨p7, 1, none⟩)
  | 24, v, _ => v = .agg #[.int .i64 bl, .int .i64 bh]
  | 25, v, _ => v = .int .i64 c
  | 26, v, _ => v = .agg #[.int .i64 (bl + x), .int .i64 (bh + y)]
  | 27, v, _ => v = .bool true
  | 28, v, _ => v = .bool true
  | 29, v, _ => v = .bool true
  | _, _, _ => True
theorem juZ_on {s j m g o bl bh : Int} {p7 : Nat} {x y c : Int} : ∀ jj v w w', juZ s j m g o bl bh p7 x y c jj v w → Below w.heap.size w w' → juZ s j m g o bl bh p7 x y c jj v w'
  | 0, _, _, _, h, _ => h
  | 1, _, _, _, h, _ => h
  | 2, _, _, _, h, _ => h
  | 3, _, _, _, h, _ => h
  | 4, _, _, _, h, _ => h
  | 5, _, _, _, h, _ => h
  | 6, _, _, _, h, _ => h
  | 7, _, _, _, h, _ => h
  | 8, _, _, _, h, _ => h
  | 9, _, _, _, h, _ => h
  | 10, _, _, _, h, _ => h
  | 11, _, _, _, h, _ => h
  | 12, _, _, _, h, _ => h
  | 13, _, _, _, h, _ => h
  | 14, _, _, _, h, _ => h
  | 15, _, _, _, h, _ => h
  | 16, _, _, _, ⟨q, h1, h2⟩, hb => ⟨q, h1, h2.on hb⟩
  | 17, _, _, _, h, _ => h
  | 18, _, _, _, h, _ => h
  | 19, _, _, _, h, _ => h
  | 20, _, _, _, h, _ => h
  | 21, _, _, _, h, _ => h
  | 22, _, _, _, h, _ => h
  | 23, _, _, _, h, _ => h
  | 24, _, _, _, h, _ => h
  | 25, _, _, _, h, _ => h
  | 26, _, _, _, h, _ => h
  | 27, _, _, _, h, _ => h
  | 28, _, _, _, h, _ => h
  | 29, _, _, _, h, _ => h
  | _ + 30, _, _, _, _, _ => trivial
theorem juZ_16 {s j m g o bl bh : Int} {p7 : Nat} {x y c : Int} {v : Value} {w : World} (h : juZ s j m g o bl bh p7 x y c 16 v w) : ∃ q, v = .slice (some ⟨q, 0, none⟩) 1 1 ∧ Row2 w q 0 1 (fun _ => y + 1) (fun _ => c) := h

set_option maxRecDepth 100000 in
set_option maxHeartbeats 4000000 in
theorem just_in (a0 a1 : Option Addr) (len0 cap0 len1 cap1 : Nat) (w : World) (hl0 : len0 ≤ 1048576) (hl1 : len1 ≤ 1048576) (hb0 : Bytes w a0 len0) (hb1 : Bytes w a1 len1)
    (HF : Hid (∀ (ad : Option Addr) (len cap : Nat) (f a : Nat → Int) (s j m g o : Int) (wz : World), Below w.heap.size w wz → len ≤ 1048576 → SRow wz ad len f a → Calls Tryd.prog 14 #[.agg #[.int .i64 s, .int .i64 j, .int .i64 m, .int .i64 g, .int .i64 o], .slice ad len cap] wz fun e w' => e = .returned (.bool (fairA s j m g o f a len)) ∧ Below wz.heap.size wz w')) :
    Calls Tryd.prog 5 #[.slice a0 len0 cap0, .slice a1 len1 cap1] w fun e w' => e = .returned (.bool true) ∧ Below w.heap.size w w' := by
  have i0 : ¬ (1048576 : Int) < (len0 : Int) := by omega
  have i1 : ¬ (1048576 : Int) < (len1 : Int) := by omega
  obtain ⟨u, hu⟩ := hb1.toV
  have HU : Hid (BytesV w a1 len1 u) := hu
  clear hb1 hu
  go_enter Tryd.func5, Tryd.ntmps5
  go_wp2_with fail
  refine (known_d a0 len0 cap0 _ hb0).mono ?_
  rintro e w1 ⟨s, j, m, g, o, bl, bh, mv, N, xs, rfl, s0, s1, j0, j1, m0, m1, g0, g1, o0, o1, l0, l1, lh, h1, hDM, hown, hB1⟩
  clear hDM hown hb0
  have hrk : rOk s j m g o = true := by
    simp only [rOk, inB, Bool.and_eq_true, decide_eq_true_eq]
    omega
  have hbk : bOk bl bh = true := by
    simp only [bOk, Bool.and_eq_true, decide_eq_true_eq]
    omega
  go_wp2_with fail
  have hC : juC w s j m g o bl bh w1.heap.size (w1.heap.size + 1) a1 len1 u ((w1.alloc (.cells #[.int .i64 s, .int .i64 j, .int .i64 m, .int .i64 g, .int .i64 o] 24)).alloc (.cells #[.bool true, .int .i64 bl, .int .i64 bh, .int .i64 0, .int .i64 (-1), .int .i64 0] 37)) := by
    refine ⟨?_, ?_, ?_, ?_, ?_, ?_, ?_, ?_, ?_, ?_, ?_, HU.out.on (nbAlloc (nbAlloc hB1 _) _), nbAlloc (nbAlloc hB1 _) _⟩
    all_goals go_simp
  clear hB1
  generalize ((w1.alloc (.cells #[.int .i64 s, .int .i64 j, .int .i64 m, .int .i64 g, .int .i64 o] 24)).alloc (.cells #[.bool true, .int .i64 bl, .int .i64 bh, .int .i64 0, .int .i64 (-1), .int .i64 0] 37)) = w2 at *
  generalize w1.heap.size + 1 = p7 at *
  generalize w1.heap.size = p5 at *
  refine (wByteV_c a1 len1 cap1 u 0 _ hC.2.2.2.2.2.2.2.2.2.2.2.1 hl1 (by omega) (by omega)).mono ?_
  rintro e w' ⟨rfl, hw'⟩
  subst hw'
  have r0 := bv_range HU.out 0
  generalize bv len1 u 0 = v0 at *
  go_wp2_with fail
  refine (wByteV_c a1 len1 cap1 u 1 _ hC.2.2.2.2.2.2.2.2.2.2.2.1 hl1 (by omega) (by omega)).mono ?_
  rintro e w' ⟨rfl, hw'⟩
  subst hw'
  have r1 := bv_range HU.out 1
  generalize bv len1 u 1 = v1 at *
  obtain ⟨c, hc⟩ : ∃ c, (v0 + 256 * v1) % 3000 = c := ⟨_, rfl⟩
  have hc0 : 0 ≤ c ∧ c < 3000 := by omega
  have hin : inB c 0 100000 = true := by simp [inB]; omega
  have q0 := lst_nonneg (s := s) (j := j) (c := c) (by omega)
  have q1 := lst_le (s := s) (j := j) (c := c) (by omega) (by omega) hc0.1
  have q2 := mst_ge (s := s) (j := j) (c := c) (by omega) (by omega) (by omega) hc0.1
  have q3 := mst_le (s := s) (j := j) (c := c) (by omega) (by omega) (by omega) (by omega)
  have q4 : mst s j c ≤ 4000 := by
    unfold mst
    exact Int.ediv_le_of_le_mul (by omega) (by
      have : (1000 - s) * 4000 ≥ 921 * 4000 := Int.mul_le_mul_of_nonneg_right (by omega) (by omega)
      have e : 4000 * (1000 - s) = (1000 - s) * 4000 := Int.mul_comm _ _
      omega)
  obtain ⟨x, hX⟩ : ∃ x, Hid (lst s j c = x) := ⟨_, rfl⟩
  obtain ⟨y, hY⟩ : ∃ y, Hid (mst s j c = y) := ⟨_, rfl⟩
  rw [hX.out] at q0 q1
  rw [hY.out] at q2 q3 q4
  have HWi : Hid (∀ w, Calls Tryd.prog 23 #[.agg #[.int .i64 s, .int .i64 j, .int .i64 m, .int .i64 g, .int .i64 o], .agg #[.int .i64 bl, .int .i64 bh], .int .i64 c] w fun e w' => e = .returned (.agg #[.int .i64 (bl + x), .int .i64 (bh + y)]) ∧ Below w.heap.size w w') := fun w => by
    have h := implWheel_ok s j m g o bl bh c w hrk hbk hin
    rwa [hX.out, hY.out, show min (bl + x) 100000000 = bl + x by omega, show min (bh + y) 100000000 = bh + y by omega] at h
  have HWs : Hid (∀ w, Calls Tryd.prog 25 #[.agg #[.int .i64 s, .int .i64 j, .int .i64 m, .int .i64 g, .int .i64 o], .agg #[.int .i64 bl, .int .i64 bh], .int .i64 c] w fun e w' => e = .returned (.agg #[.int .i64 (bl + x), .int .i64 (bh + y)]) ∧ Below w.heap.size w w') := fun w => by
    have h := specWheel_ok s j m g o bl bh c w hrk hbk hin
    rwa [hX.out, hY.out, show min (bl + x) 100000000 = bl + x by omega, show min (bh + y) 100000000 = bh + y by omega] at h
  have HF1 : Hid (∀ q wz, Below w.heap.size w wz → Row2 wz q 0 1 (fun _ => x) (fun _ => c) → Calls Tryd.prog 14 #[.agg #[.int .i64 s, .int .i64 j, .int .i64 m, .int .i64 g, .int .i64 o], .slice (some ⟨q, 0, none⟩) 1 1] wz fun e w' => e = .returned (.bool true) ∧ Below wz.heap.size wz w') := fun q wz hz hr => by
    have h := HF.out (some ⟨q, 0, none⟩) 1 1 (fun _ => x) (fun _ => c) s j m g o wz hz (by omega) (.inr ⟨q, 0, rfl, hr⟩)
    rw [fairA_one hrk] at h
    have h8 : tickB s j x c = true := by
      simp [tickB, numB, fairB, inB, hX.out, hY.out]; omega
    rwa [h8] at h
  have HF2 : Hid (∀ q wz, Below w.heap.size w wz → Row2 wz q 0 1 (fun _ => y) (fun _ => c) → Calls Tryd.prog 14 #[.agg #[.int .i64 s, .int .i64 j, .int .i64 m, .int .i64 g, .int .i64 o], .slice (some ⟨q, 0, none⟩) 1 1] wz fun e w' => e = .returned (.bool true) ∧ Below wz.heap.size wz w') := fun q wz hz hr => by
    have h := HF.out (some ⟨q, 0, none⟩) 1 1 (fun _ => y) (fun _ => c) s j m g o wz hz (by omega) (.inr ⟨q, 0, rfl, hr⟩)
    rw [fairA_one hrk] at h
    have h8 : tickB s j y c = true := by
      simp [tickB, numB, fairB, inB, hX.out, hY.out]; omega
    rwa [h8] at h
  have HF3 : Hid (∀ q wz, Below w.heap.size w wz → Row2 wz q 0 1 (fun _ => x - 1) (fun _ => c) → Calls Tryd.prog 14 #[.agg #[.int .i64 s, .int .i64 j, .int .i64 m, .int .i64 g, .int .i64 o], .slice (some ⟨q, 0, none⟩) 1 1] wz fun e w' => e = .returned (.bool false) ∧ Below wz.heap.size wz w') := fun q wz hz hr => by
    have h := HF.out (some ⟨q, 0, none⟩) 1 1 (fun _ => x - 1) (fun _ => c) s j m g o wz hz (by omega) (.inr ⟨q, 0, rfl, hr⟩)
    rw [fairA_one hrk] at h
    have h8 : tickB s j (x - 1) c = false := by
      have h9 : ¬ x ≤ x - 1 := by omega
      simp [tickB, fairB, hX.out, h9]
    rwa [h8] at h
  have HF4 : Hid (∀ q wz, Below w.heap.size w wz → Row2 wz q 0 1 (fun _ => y + 1) (fun _ => c) → Calls Tryd.prog 14 #[.agg #[.int .i64 s, .int .i64 j, .int .i64 m, .int .i64 g, .int .i64 o], .slice (some ⟨q, 0, none⟩) 1 1] wz fun e w' => e = .returned (.bool false) ∧ Below wz.heap.size wz w') := fun q wz hz hr => by
    have h := HF.out (some ⟨q, 0, none⟩) 1 1 (fun _ => y + 1) (fun _ => c) s j m g o wz hz (by omega) (.inr ⟨q, 0, rfl, hr⟩)
    rw [fairA_one hrk] at h
    have h8 : tickB s j (y + 1) c = false := by
      have h9 : ¬ y + 1 ≤ y := by omega
      simp [tickB, fairB, hY.out, h9]
    rwa [h8] at h
  clear HF hrk hbk hin hX hY
  have wr1 : IntKind.i64.wrap (bl + x - bl) = x := by rw [show bl + x - bl = x by omega]; exact wrapS (by omega) (by omega)
  have wr2 : IntKind.i64.wrap (bh + y - bh) = y := by rw [show bh + y - bh = y by omega]; exact wrapS (by omega) (by omega)
  have wr3 : IntKind.i64.wrap (x - 1) = x - 1 := wrapS (by omega) (by omega)
  have wr4 : IntKind.i64.wrap (y + 1) = y + 1 := wrapS (by omega) (by omega)
  have heq := eqBd2 (bl + x) (bh + y)
  have t1 : ¬ x < 0 := by omega
  have t2 : ¬ c < x := by omega
  have t3 : ¬ y < c := by omega
  have c0 : w2.cell? ⟨p5, 0, none⟩ = some (.int .i64 s) := hC.1
  have c1 : w2.cell? ⟨p5, 1, none⟩ = some (.int .i64 j) := hC.2.1
  have c2 : w2.cell? ⟨p5, 2, none⟩ = some (.int .i64 m) := hC.2.2.1
  have c3 : w2.cell? ⟨p5, 3, none⟩ = some (.int .i64 g) := hC.2.2.2.1
  have c4 : w2.cell? ⟨p5, 4, none⟩ = some (.int .i64 o) := hC.2.2.2.2.1
  have c5 : w2.cell? ⟨p7, 0, none⟩ = some (.bool true) := hC.2.2.2.2.2.1
  have c6 : w2.cell? ⟨p7, 1, none⟩ = some (.int .i64 bl) := hC.2.2.2.2.2.2.1
  have c7 : w2.cell? ⟨p7, 2, none⟩ = some (.int .i64 bh) := hC.2.2.2.2.2.2.2.1
  have c8 : w2.cell? ⟨p7, 3, none⟩ = some (.int .i64 0) := hC.2.2.2.2.2.2.2.2.1
  have c9 : w2.cell? ⟨p7, 4, none⟩ = some (.int .i64 (-1)) := hC.2.2.2.2.2.2.2.2.2.1
  have c10 : w2.cell? ⟨p7, 5, none⟩ = some (.int .i64 0) := hC.2.2.2.2.2.2.2.2.2.2.1
  go_wp2_with fail
  simp only [hc]
  refine (HWi.out _).mono ?_
  rintro e w3 ⟨rfl, hb3⟩
  have hC3 := juC_on hC hb3
  clear c0 c1 c2 c3 c4 c5 c6 c7 c8 c9 c10
  clear hC hb3
  have hD3 : juD w s j m g o bl bh p5 p7 w3.heap.size x y (w3.alloc (.cells #[.int .i64 (bl + x), .int .i64 (bh + y)] 27)) := ⟨cellOn (nbAlloc (Below.refl _ _) _) hC3.1, cellOn (nbAlloc (Below.refl _ _) _) hC3.2.1, cellOn (nbAlloc (Below.refl _ _) _) hC3.2.2.1, cellOn (nbAlloc (Below.refl _ _) _) hC3.2.2.2.1, cellOn (nbAlloc (Below.refl _ _) _) hC3.2.2.2.2.1, cellOn (nbAlloc (Below.refl _ _) _) hC3.2.2.2.2.2.1, cellOn (nbAlloc (Below.refl _ _) _) hC3.2.2.2.2.2.2.1, cellOn (nbAlloc (Below.refl _ _) _) hC3.2.2.2.2.2.2.2.1, cellOn (nbAlloc (Below.refl _ _) _) hC3.2.2.2.2.2.2.2.2.1, cellOn (nbAlloc (Below.refl _ _) _) hC3.2.2.2.2.2.2.2.2.2.1, cellOn (nbAlloc (Below.refl _ _) _) hC3.2.2.2.2.2.2.2.2.2.2.1, by go_simp, by go_simp, nbAlloc hC3.2.2.2.2.2.2.2.2.2.2.2.2 _⟩
  clear hC3 r0 r1 hc
  have c0 : (w3.alloc (.cells #[.int .i64 (bl + x), .int .i64 (bh + y)] 27)).cell? ⟨p5, 0, none⟩ = some (.int .i64 s) := hD3.1
  have c1 : (w3.alloc (.cells #[.int .i64 (bl + x), .int .i64 (bh + y)] 27)).cell? ⟨p5, 1, none⟩ = some (.int .i64 j) := hD3.2.1
  have c2 : (w3.alloc (.cells #[.int .i64 (bl + x), .int .i64 (bh + y)] 27)).cell? ⟨p5, 2, none⟩ = some (.int .i64 m) := hD3.2.2.1
  have c3 : (w3.alloc (.cells #[.int .i64 (bl + x), .int .i64 (bh + y)] 27)).cell? ⟨p5, 3, none⟩ = some (.int .i64 g) := hD3.2.2.2.1
  have c4 : (w3.alloc (.cells #[.int .i64 (bl + x), .int .i64 (bh + y)] 27)).cell? ⟨p5, 4, none⟩ = some (.int .i64 o) := hD3.2.2.2.2.1
  have c5 : (w3.alloc (.cells #[.int .i64 (bl + x), .int .i64 (bh + y)] 27)).cell? ⟨p7, 0, none⟩ = some (.bool true) := hD3.2.2.2.2.2.1
  have c6 : (w3.alloc (.cells #[.int .i64 (bl + x), .int .i64 (bh + y)] 27)).cell? ⟨p7, 1, none⟩ = some (.int .i64 bl) := hD3.2.2.2.2.2.2.1
  have c7 : (w3.alloc (.cells #[.int .i64 (bl + x), .int .i64 (bh + y)] 27)).cell? ⟨p7, 2, none⟩ = some (.int .i64 bh) := hD3.2.2.2.2.2.2.2.1
  have c8 : (w3.alloc (.cells #[.int .i64 (bl + x), .int .i64 (bh + y)] 27)).cell? ⟨p7, 3, none⟩ = some (.int .i64 0) := hD3.2.2.2.2.2.2.2.2.1
  have c9 : (w3.alloc (.cells #[.int .i64 (bl + x), .int .i64 (bh + y)] 27)).cell? ⟨p7, 4, none⟩ = some (.int .i64 (-1)) := hD3.2.2.2.2.2.2.2.2.2.1
  have c10 : (w3.alloc (.cells #[.int .i64 (bl + x), .int .i64 (bh + y)] 27)).cell? ⟨p7, 5, none⟩ = some (.int .i64 0) := hD3.2.2.2.2.2.2.2.2.2.2.1
  have c11 : (w3.alloc (.cells #[.int .i64 (bl + x), .int .i64 (bh + y)] 27)).cell? ⟨w3.heap.size, 0, none⟩ = some (.int .i64 (bl + x)) := hD3.2.2.2.2.2.2.2.2.2.2.2.1
  have c12 : (w3.alloc (.cells #[.int .i64 (bl + x), .int .i64 (bh + y)] 27)).cell? ⟨w3.heap.size, 1, none⟩ = some (.int .i64 (bh + y)) := hD3.2.2.2.2.2.2.2.2.2.2.2.2.1
  go_wp2_with fail
  clear c0 c1 c2 c3 c4 c5 c6 c7 c8 c9 c10 c11 c12
  generalize w3.alloc (.cells #[.int .i64 (bl + x), .int .i64 (bh + y)] 27) = w4 at *
  generalize w3.heap.size = p9 at *
  refine (wOne_c _ _ _).mono ?_
  rintro e w5 ⟨rfl, hr5, hb5⟩
  have hD5 := juD_on hD3 hb5
  clear hD3
  generalize w4.heap.size = q12 at *
  go_wp2_with fail
  refine (wOne_c _ _ _).mono ?_
  rintro e w6 ⟨rfl, hr6, hb6⟩
  have hD6 := juD_on hD5 hb6
  replace hr5 := hr5.on hb6
  clear hD5 hb5 hb6
  generalize w5.heap.size = q13 at *
  have c0 : w6.cell? ⟨p5, 0, none⟩ = some (.int .i64 s) := hD6.1
  have c1 : w6.cell? ⟨p5, 1, none⟩ = some (.int .i64 j) := hD6.2.1
  have c2 : w6.cell? ⟨p5, 2, none⟩ = some (.int .i64 m) := hD6.2.2.1
  have c3 : w6.cell? ⟨p5, 3, none⟩ = some (.int .i64 g) := hD6.2.2.2.1
  have c4 : w6.cell? ⟨p5, 4, none⟩ = some (.int .i64 o) := hD6.2.2.2.2.1
  have c5 : w6.cell? ⟨p7, 0, none⟩ = some (.bool true) := hD6.2.2.2.2.2.1
  have c6 : w6.cell? ⟨p7, 1, none⟩ = some (.int .i64 bl) := hD6.2.2.2.2.2.2.1
  have c7 : w6.cell? ⟨p7, 2, none⟩ = some (.int .i64 bh) := hD6.2.2.2.2.2.2.2.1
  have c8 : w6.cell? ⟨p7, 3, none⟩ = some (.int .i64 0) := hD6.2.2.2.2.2.2.2.2.1
  have c9 : w6.cell? ⟨p7, 4, none⟩ = some (.int .i64 (-1)) := hD6.2.2.2.2.2.2.2.2.2.1
  have c10 : w6.cell? ⟨p7, 5, none⟩ = some (.int .i64 0) := hD6.2.2.2.2.2.2.2.2.2.2.1
  have c11 : w6.cell? ⟨p9, 0, none⟩ = some (.int .i64 (bl + x)) := hD6.2.2.2.2.2.2.2.2.2.2.2.1
  have c12 : w6.cell? ⟨p9, 1, none⟩ = some (.int .i64 (bh + y)) := hD6.2.2.2.2.2.2.2.2.2.2.2.2.1
  go_wp2_with fail
  refine (HF1.out _ _ hD6.2.2.2.2.2.2.2.2.2.2.2.2.2 hr5).mono ?_
  rintro e w7 ⟨rfl, hb7⟩
  have hD7 := juD_on hD6 hb7
  replace hr6 := hr6.on hb7
  clear hD6 hb7 hr5 c0 c1 c2 c3 c4 c5 c6 c7 c8 c9 c10 c11 c12
  have c0 : w7.cell? ⟨p5, 0, none⟩ = some (.int .i64 s) := hD7.1
  have c1 : w7.cell? ⟨p5, 1, none⟩ = some (.int .i64 j) := hD7.2.1
  have c2 : w7.cell? ⟨p5, 2, none⟩ = some (.int .i64 m) := hD7.2.2.1
  have c3 : w7.cell? ⟨p5, 3, none⟩ = some (.int .i64 g) := hD7.2.2.2.1
  have c4 : w7.cell? ⟨p5, 4, none⟩ = some (.int .i64 o) := hD7.2.2.2.2.1
  have c5 : w7.cell? ⟨p7, 0, none⟩ = some (.bool true) := hD7.2.2.2.2.2.1
  have c6 : w7.cell? ⟨p7, 1, none⟩ = some (.int .i64 bl) := hD7.2.2.2.2.2.2.1
  have c7 : w7.cell? ⟨p7, 2, none⟩ = some (.int .i64 bh) := hD7.2.2.2.2.2.2.2.1
  have c8 : w7.cell? ⟨p7, 3, none⟩ = some (.int .i64 0) := hD7.2.2.2.2.2.2.2.2.1
  have c9 : w7.cell? ⟨p7, 4, none⟩ = some (.int .i64 (-1)) := hD7.2.2.2.2.2.2.2.2.2.1
  have c10 : w7.cell? ⟨p7, 5, none⟩ = some (.int .i64 0) := hD7.2.2.2.2.2.2.2.2.2.2.1
  have c11 : w7.cell? ⟨p9, 0, none⟩ = some (.int .i64 (bl + x)) := hD7.2.2.2.2.2.2.2.2.2.2.2.1
  have c12 : w7.cell? ⟨p9, 1, none⟩ = some (.int .i64 (bh + y)) := hD7.2.2.2.2.2.2.2.2.2.2.2.2.1
  go_wp2_with fail
  refine (HF2.out _ _ hD7.2.2.2.2.2.2.2.2.2.2.2.2.2 hr6).mono ?_
  rintro e w8 ⟨rfl, hb8⟩
  have hD := juD_on hD7 hb8
  clear hD7 hb8 hr6 c0 c1 c2 c3 c4 c5 c6 c7 c8 c9 c10 c11 c12
  by_cases hz : x = 0
  · have hz2 : (x == 0) = true := by simpa using hz
    clear hz
    go_wp2_with fail
    refine region_relG (juD w s j m g o bl bh p5 p7 p9 x y) (juZ s j m g o bl bh p7 x y c) 30 (fun _ _ => juD_on) juZ_on (by kernel_rfl) (by kernel_rfl) (by kernel_rfl) ?_ ?_ ?_
    · exact juD_on hD (Below.drew (Below.refl _ _))
    · intro j' o' ho hne' vs w4 hC4 hw
      have c0 : w4.cell? ⟨p5, 0, none⟩ = some (.int .i64 s) := hC4.1
      have c1 : w4.cell? ⟨p5, 1, none⟩ = some (.int .i64 j) := hC4.2.1
      have c2 : w4.cell? ⟨p5, 2, none⟩ = some (.int .i64 m) := hC4.2.2.1
      have c3 : w4.cell? ⟨p5, 3, none⟩ = some (.int .i64 g) := hC4.2.2.2.1
      have c4 : w4.cell? ⟨p5, 4, none⟩ = some (.int .i64 o) := hC4.2.2.2.2.1
      have c5 : w4.cell? ⟨p7, 0, none⟩ = some (.bool true) := hC4.2.2.2.2.2.1
      have c6 : w4.cell? ⟨p7, 1, none⟩ = some (.int .i64 bl) := hC4.2.2.2.2.2.2.1
      have c7 : w4.cell? ⟨p7, 2, none⟩ = some (.int .i64 bh) := hC4.2.2.2.2.2.2.2.1
      have c8 : w4.cell? ⟨p7, 3, none⟩ = some (.int .i64 0) := hC4.2.2.2.2.2.2.2.2.1
      have c9 : w4.cell? ⟨p7, 4, none⟩ = some (.int .i64 (-1)) := hC4.2.2.2.2.2.2.2.2.2.1
      have c10 : w4.cell? ⟨p7, 5, none⟩ = some (.int .i64 0) := hC4.2.2.2.2.2.2.2.2.2.2.1
      have c11 : w4.cell? ⟨p9, 0, none⟩ = some (.int .i64 (bl + x)) := hC4.2.2.2.2.2.2.2.2.2.2.2.1
      have c12 : w4.cell? ⟨p9, 1, none⟩ = some (.int .i64 (bh + y)) := hC4.2.2.2.2.2.2.2.2.2.2.2.2.1
      match j', ho with
      | 0, ho =>
        cases ho
        clear hw
        refine ⟨fun _ => ?_, fun hh => ?_⟩
        · simp [mix]
          go_simp
          exact ⟨rfl, Below.refl _ _⟩
        · simp [Region.wanted] at hh
      | 1, ho =>
        cases ho
        have y0 : vs 0 = _ := hw 0 (waits_of (by kernel_rfl))
        clear hw
        refine ⟨fun _ => ?_, fun hh => ?_⟩
        · simp [mix, y0]
          go_simp
          exact ⟨rfl, Below.refl _ _⟩
        · simp [Region.wanted] at hh
      | 2, ho =>
        cases ho
        have y1 : vs 1 = _ := hw 1 (waits_of (by kernel_rfl))
        clear hw
        refine ⟨fun _ => ?_, fun hh => ?_⟩
        · simp [mix, y1]
          go_simp
          exact ⟨rfl, Below.refl _ _⟩
        · simp [Region.wanted] at hh
      | 3, ho =>
        cases ho
        have y2 : vs 2 = _ := hw 2 (waits_of (by kernel_rfl))
        clear hw
        refine ⟨fun hh => ?_, fun _ => ?_⟩
        · simp [Region.wanted, yielded, mix, Act.put, y2] at hh
        · rfl
      | 4, ho =>
        cases ho
        have y2 : vs 2 = _ := hw 2 (waits_of (by kernel_rfl))
        clear hw
        refine ⟨fun hh => ?_, fun _ => ?_⟩
        · simp [Region.wanted, yielded, mix, Act.put, y2] at hh
        · rfl
      | 5, ho =>
        cases ho
        have y2 : vs 2 = _ := hw 2 (waits_of (by kernel_rfl))
        have y4 : vs 4 = _ := hw 4 (waits_of (by kernel_rfl))
        clear hw
        refine ⟨fun hh => ?_, fun _ => ?_⟩
        · simp [Region.wanted, yielded, mix, Act.put, y2, y4] at hh
        · rfl
      | 6, ho =>
        cases ho
        have y2 : vs 2 = _ := hw 2 (waits_of (by kernel_rfl))
        clear hw
        refine ⟨fun hh => ?_, fun _ => ?_⟩
        · simp [Region.wanted, yielded, mix, Act.put, y2] at hh
        · rfl
      | 7, ho =>
        cases ho
        have y2 : vs 2 = _ := hw 2 (waits_of (by kernel_rfl))
        have y5 : vs 5 = _ := hw 5 (waits_of (by kernel_rfl))
        have y6 : vs 6 = _ := hw 6 (waits_of (by kernel_rfl))
        clear hw
        refine ⟨fun hh => ?_, fun _ => ?_⟩
        · simp [Region.wanted, yielded, mix, Act.put, y2, y5, y6] at hh
        · rfl
      | 8, ho =>
        cases ho
        have y2 : vs 2 = _ := hw 2 (waits_of (by kernel_rfl))
        have y3 : vs 3 = _ := hw 3 (waits_of (by kernel_rfl))
        have y7 : vs 7 = _ := hw 7 (waits_of (by kernel_rfl))
        clear hw
        refine ⟨fun hh => ?_, fun _ => ?_⟩
        · simp [Region.wanted, yielded, mix, Act.put, y2, y3, y7] at hh
        · rfl
      | 9, ho =>
        cases ho
        have y2 : vs 2 = _ := hw 2 (waits_of (by kernel_rfl))
        have y8 : vs 8 = _ := hw 8 (waits_of (by kernel_rfl))
        clear hw
        refine ⟨fun hh => ?_, fun _ => ?_⟩
        · simp [Region.wanted, yielded, mix, Act.put, y2, y8] at hh
        · rfl
      | 10, ho =>
        cases ho
        have y2 : vs 2 = _ := hw 2 (waits_of (by kernel_rfl))
        have y9 : vs 9 = _ := hw 9 (waits_of (by kernel_rfl))
        clear hw
        refine ⟨fun _ => ?_, fun hh => ?_⟩
        · simp [mix, y2, y9]
          go_simp
          exact ⟨rfl, Below.refl _ _⟩
        · simp [Region.wanted] at hh
      | 11, ho =>
        cases ho
        have y10 : vs 10 = _ := hw 10 (waits_of (by kernel_rfl))
        clear hw
        refine ⟨fun _ => ?_, fun hh => ?_⟩
        · simp [mix, y10]
          go_simp
          exact ⟨rfl, Below.refl _ _⟩
        · simp [Region.wanted] at hh
      | 12, ho =>
        cases ho
        have y11 : vs 11 = _ := hw 11 (waits_of (by kernel_rfl))
        clear hw
        refine ⟨fun _ => ?_, fun hh => ?_⟩
        · simp [mix, y11]
          go_simp
          exact ⟨rfl, Below.refl _ _⟩
        · simp [Region.wanted, yielded, mix, Act.put, y11] at hh
      | 13, ho =>
        cases ho
        have y11 : vs 11 = _ := hw 11 (waits_of (by kernel_rfl))
        clear hw
        refine ⟨fun _ => ?_, fun hh => ?_⟩
        · simp [mix, y11]
          go_simp
          exact ⟨rfl, Below.refl _ _⟩
        · simp [Region.wanted, yielded, mix, Act.put, y11] at hh
      | 14, ho =>
        cases ho
        have y11 : vs 11 = _ := hw 11 (waits_of (by kernel_rfl))
        have y13 : vs 13 = _ := hw 13 (waits_of (by kernel_rfl))
        clear hw
        refine ⟨fun _ => ?_, fun hh => ?_⟩
        · simp [mix, y11, y13]
          go_simp
          exact ⟨rfl, Below.refl _ _⟩
        · simp [Region.wanted, yielded, mix, Act.put, y11, y13] at hh
      | 15, ho =>
        cases ho
        have y11 : vs 11 = _ := hw 11 (waits_of (by kernel_rfl))
        clear hw
        refine ⟨fun _ => ?_, fun hh => ?_⟩
        · simp [mix, y11]
          go_simp
          exact ⟨rfl, Below.refl _ _⟩
        · simp [Region.wanted, yielded, mix, Act.put, y11] at hh
      | 16, ho =>
        cases ho
        have y11 : vs 11 = _ := hw 11 (waits_of (by kernel_rfl))
        have y14 : vs 14 = _ := hw 14 (waits_of (by kernel_rfl))
        have y15 : vs 15 = _ := hw 15 (waits_of (by kernel_rfl))
        clear hw
        refine ⟨fun _ => ?_, fun hh => ?_⟩
        · simp [mix, y11, y14, y15]
          go_simp
          refine (wOne_c _ _ _).mono ?_
          rintro e w5 ⟨rfl, hr5, hb5⟩
          exact ⟨_, rfl, ⟨_, rfl, hr5⟩, hb5⟩
        · simp [Region.wanted, yielded, mix, Act.put, y11, y14, y15] at hh
      | 17, ho =>
        cases ho
        have y11 : vs 11 = _ := hw 11 (waits_of (by kernel_rfl))
        have y12 : vs 12 = _ := hw 12 (waits_of (by kernel_rfl))
        refine Exists.elim (juZ_16 (hw 16 (waits_of (by kernel_rfl)))) (fun q hq0 => ?_)
        have y16 := hq0.1
        have hq := hq0.2
        clear hq0
        clear hw
        refine ⟨fun _ => ?_, fun hh => ?_⟩
        · simp [mix, y11, y12, y16]
          go_simp
          refine (HF4.out _ _ hC4.2.2.2.2.2.2.2.2.2.2.2.2.2 hq).mono ?_
          rintro e w5 ⟨rfl, hb5⟩
          exact ⟨_, rfl, rfl, hb5⟩
        · simp [Region.wanted, yielded, mix, Act.put, y11, y12, y16] at hh
      | 18, ho =>
        cases ho
        have y11 : vs 11 = _ := hw 11 (waits_of (by kernel_rfl))
        have y17 : vs 17 = _ := hw 17 (waits_of (by kernel_rfl))
        clear hw
        refine ⟨fun _ => ?_, fun hh => ?_⟩
        · simp [mix, y11, y17]
          go_simp
          exact ⟨rfl, Below.refl _ _⟩
        · simp [Region.wanted, yielded, mix, Act.put, y11, y17] at hh
      | 19, ho =>
        cases ho
        have y11 : vs 11 = _ := hw 11 (waits_of (by kernel_rfl))
        have y18 : vs 18 = _ := hw 18 (waits_of (by kernel_rfl))
        clear hw
        refine ⟨fun _ => ?_, fun hh => ?_⟩
        · simp [mix, y11, y18]
          go_simp
          exact ⟨rfl, Below.refl _ _⟩
        · simp [Region.wanted] at hh
      | 20, ho =>
        cases ho
        have y19 : vs 19 = _ := hw 19 (waits_of (by kernel_rfl))
        clear hw
        refine ⟨fun _ => ?_, fun hh => ?_⟩
        · simp [mix, y19]
          go_simp
          exact ⟨rfl, Below.refl _ _⟩
        · simp [Region.wanted] at hh
      | 21, ho =>
        cases ho
        have y20 : vs 20 = _ := hw 20 (waits_of (by kernel_rfl))
        clear hw
        refine ⟨fun _ => ?_, fun hh => ?_⟩
        · simp [mix, y20]
          go_simp
          exact ⟨rfl, Below.refl _ _⟩
        · simp [Region.wanted, yielded, mix, Act.put, y20] at hh
      | 22, ho =>
        cases ho
        have y20 : vs 20 = _ := hw 20 (waits_of (by kernel_rfl))
        clear hw
        refine ⟨fun _ => ?_, fun hh => ?_⟩
        · simp [mix, y20]
          go_simp
          exact ⟨rfl, Below.refl _ _⟩
        · simp [Region.wanted, yielded, mix, Act.put, y20] at hh
      | 23, ho =>
        cases ho
        have y20 : vs 20 = _ := hw 20 (waits_of (by kernel_rfl))
        clear hw
        refine ⟨fun _ => ?_, fun hh => ?_⟩
        · simp [mix, y20]
          go_simp
          exact ⟨rfl, Below.refl _ _⟩
        · simp [Region.wanted, yielded, mix, Act.put, y20] at hh
      | 24, ho =>
        cases ho
        have y20 : vs 20 = _ := hw 20 (waits_of (by kernel_rfl))
        have y23 : vs 23 = _ := hw 23 (waits_of (by kernel_rfl))
        clear hw
        refine ⟨fun _ => ?_, fun hh => ?_⟩
        · simp [mix, y20, y23]
          go_simp
          exact ⟨rfl, Below.refl _ _⟩
        · simp [Region.wanted, yielded, mix, Act.put, y20, y23] at hh
      | 25, ho =>
        cases ho
        have y20 : vs 20 = _ := hw 20 (waits_of (by kernel_rfl))
        clear hw
        refine ⟨fun _ => ?_, fun hh => ?_⟩
        · simp [mix, y20]
          go_simp
          exact ⟨rfl, Below.refl _ _⟩
        · simp [Region.wanted, yielded, mix, Act.put, y20] at hh
      | 26, ho =>
        cases ho
        have y20 : vs 20 = _ := hw 20 (waits_of (by kernel_rfl))
        have y22 : vs 22 = _ := hw 22 (waits_of (by kernel_rfl))
        have y24 : vs 24 = _ := hw 24 (waits_of (by kernel_rfl))
        have y25 : vs 25 = _ := hw 25 (waits_of (by kernel_rfl))
        clear hw
        refine ⟨fun _ => ?_, fun hh => ?_⟩
        · simp [mix, y20, y22, y24, y25]
          go_simp
          refine (HWs.out _).mono ?_
          rintro e w5 ⟨rfl, hb5⟩
          exact ⟨_, rfl, rfl, hb5⟩
        · simp [Region.wanted, yielded, mix, Act.put, y20, y22, y24, y25] at hh
      | 27, ho =>
        cases ho
        have y20 : vs 20 = _ := hw 20 (waits_of (by kernel_rfl))
        have y21 : vs 21 = _ := hw 21 (waits_of (by kernel_rfl))
        have y26 : vs 26 = _ := hw 26 (waits_of (by kernel_rfl))
        clear hw
        refine ⟨fun _ => ?_, fun hh => ?_⟩
        · simp [mix, y20, y21, y26]
          go_simp
          exact ⟨rfl, Below.refl _ _⟩
        · simp [Region.wanted, yielded, mix, Act.put, y20, y21, y26] at hh
      | 28, ho =>
        cases ho
        have y20 : vs 20 = _ := hw 20 (waits_of (by kernel_rfl))
        have y27 : vs 27 = _ := hw 27 (waits_of (by kernel_rfl))
        clear hw
        refine ⟨fun _ => ?_, fun hh => ?_⟩
        · simp [mix, y20, y27]
          go_simp
          exact ⟨rfl, Below.refl _ _⟩
        · simp [Region.wanted] at hh
      | 29, ho =>
        cases ho
        have y28 : vs 28 = _ := hw 28 (waits_of (by kernel_rfl))
        clear hw
        refine ⟨fun _ => ?_, fun hh => ?_⟩
        · simp [mix, y28]
          go_simp
          exact ⟨rfl, Below.refl _ _⟩
        · simp [Region.wanted] at hh
      | k + 30, ho => simp at ho
    · intro vs w4 hC4 hy
      have y0 : vs 0 = _ := hy 0 (by simp) (by simp)
      have y1 : vs 1 = _ := hy 1 (by simp) (by simp)
      have y2 : vs 2 = _ := hy 2 (by simp) (by simp)
      have y3 : vs 3 = _ := hy 3 (by simp) (by simp)
      have y4 : vs 4 = _ := hy 4 (by simp) (by simp)
      have y5 : vs 5 = _ := hy 5 (by simp) (by simp)
      have y6 : vs 6 = _ := hy 6 (by simp) (by simp)
      have y7 : vs 7 = _ := hy 7 (by simp) (by simp)
      have y8 : vs 8 = _ := hy 8 (by simp) (by simp)
      have y9 : vs 9 = _ := hy 9 (by simp) (by simp)
      have y10 : vs 10 = _ := hy 10 (by simp) (by simp)
      have y11 : vs 11 = _ := hy 11 (by simp) (by simp)
      have y12 : vs 12 = _ := hy 12 (by simp) (by simp)
      have y13 : vs 13 = _ := hy 13 (by simp) (by simp)
      have y14 : vs 14 = _ := hy 14 (by simp) (by simp)
      have y15 : vs 15 = _ := hy 15 (by simp) (by simp)
      refine Exists.elim (juZ_16 (hy 16 (by simp) (by simp))) (fun q16 e2 => ?_)
      have y16 := e2.1
      clear e2
      have y17 : vs 17 = _ := hy 17 (by simp) (by simp)
      have y18 : vs 18 = _ := hy 18 (by simp) (by simp)
      have y19 : vs 19 = _ := hy 19 (by simp) (by simp)
      have y20 : vs 20 = _ := hy 20 (by simp) (by simp)
      have y21 : vs 21 = _ := hy 21 (by simp) (by simp)
      have y22 : vs 22 = _ := hy 22 (by simp) (by simp)
      have y23 : vs 23 = _ := hy 23 (by simp) (by simp)
      have y24 : vs 24 = _ := hy 24 (by simp) (by simp)
      have y25 : vs 25 = _ := hy 25 (by simp) (by simp)
      have y26 : vs 26 = _ := hy 26 (by simp) (by simp)
      have y27 : vs 27 = _ := hy 27 (by simp) (by simp)
      have y28 : vs 28 = _ := hy 28 (by simp) (by simp)
      have y29 : vs 29 = _ := hy 29 (by simp) (by simp)
      clear hy
      refine ⟨?_⟩
      simp only [mix, y0, y1, y2, y3, y4, y5, y6, y7, y8, y9, y10, y11, y12, y13, y14, y15, y16, y17, y18, y19, y20, y21, y22, y23, y24, y25, y26, y27, y28, y29]
      clear y0 y1 y2 y3 y4 y5 y6 y7 y8 y9 y10 y11 y12 y13 y14 y15 y16 y17 y18 y19 y20 y21 y22 y23 y24 y25 y26 y27 y28 y29
      go_wp2_with fail
      go_ret
      exact ⟨rfl, hC4.2.2.2.2.2.2.2.2.2.2.2.2.2⟩

  · have hz2 : (x == 0) = false := by simpa using hz
    go_wp2_with fail
    refine region_relG (juD w s j m g o bl bh p5 p7 p9 x y) (juY s j m g o bl bh p7 x y c) 30 (fun _ _ => juD_on) juY_on (by kernel_rfl) (by kernel_rfl) (by kernel_rfl) ?_ ?_ ?_
    · exact juD_on hD (Below.drew (Below.refl _ _))
    · intro j' o' ho hne' vs w4 hC4 hw
      have c0 : w4.cell? ⟨p5, 0, none⟩ = some (.int .i64 s) := hC4.1
      have c1 : w4.cell? ⟨p5, 1, none⟩ = some (.int .i64 j) := hC4.2.1
      have c2 : w4.cell? ⟨p5, 2, none⟩ = some (.int .i64 m) := hC4.2.2.1
      have c3 : w4.cell? ⟨p5, 3, none⟩ = some (.int .i64 g) := hC4.2.2.2.1
      have c4 : w4.cell? ⟨p5, 4, none⟩ = some (.int .i64 o) := hC4.2.2.2.2.1
      have c5 : w4.cell? ⟨p7, 0, none⟩ = some (.bool true) := hC4.2.2.2.2.2.1
      have c6 : w4.cell? ⟨p7, 1, none⟩ = some (.int .i64 bl) := hC4.2.2.2.2.2.2.1
      have c7 : w4.cell? ⟨p7, 2, none⟩ = some (.int .i64 bh) := hC4.2.2.2.2.2.2.2.1
      have c8 : w4.cell? ⟨p7, 3, none⟩ = some (.int .i64 0) := hC4.2.2.2.2.2.2.2.2.1
      have c9 : w4.cell? ⟨p7, 4, none⟩ = some (.int .i64 (-1)) := hC4.2.2.2.2.2.2.2.2.2.1
      have c10 : w4.cell? ⟨p7, 5, none⟩ = some (.int .i64 0) := hC4.2.2.2.2.2.2.2.2.2.2.1
      have c11 : w4.cell? ⟨p9, 0, none⟩ = some (.int .i64 (bl + x)) := hC4.2.2.2.2.2.2.2.2.2.2.2.1
      have c12 : w4.cell? ⟨p9, 1, none⟩ = some (.int .i64 (bh + y)) := hC4.2.2.2.2.2.2.2.2.2.2.2.2.1
      match j', ho with
      | 0, ho =>
        cases ho
        clear hw
        refine ⟨fun _ => ?_, fun hh => ?_⟩
        · simp [mix]
          go_simp
          exact ⟨rfl, Below.refl _ _⟩
        · simp [Region.wanted] at hh
      | 1, ho =>
        cases ho
        have y0 : vs 0 = _ := hw 0 (waits_of (by kernel_rfl))
        clear hw
        refine ⟨fun _ => ?_, fun hh => ?_⟩
        · simp [mix, y0]
          go_simp
          exact ⟨rfl, Below.refl _ _⟩
        · simp [Region.wanted] at hh
      | 2, ho =>
        cases ho
        have y1 : vs 1 = _ := hw 1 (waits_of (by kernel_rfl))
        clear hw
        refine ⟨fun _ => ?_, fun hh => ?_⟩
        · simp [mix, y1]
          go_simp
          exact ⟨rfl, Below.refl _ _⟩
        · simp [Region.wanted] at hh
      | 3, ho =>
        cases ho
        have y2 : vs 2 = _ := hw 2 (waits_of (by kernel_rfl))
        clear hw
        refine ⟨fun _ => ?_, fun hh => ?_⟩
        · simp [mix, y2]
          go_simp
          exact ⟨rfl, Below.refl _ _⟩
        · simp [Region.wanted, yielded, mix, Act.put, y2] at hh
      | 4, ho =>
        cases ho
        have y2 : vs 2 = _ := hw 2 (waits_of (by kernel_rfl))
        clear hw
        refine ⟨fun _ => ?_, fun hh => ?_⟩
        · simp [mix, y2]
          go_simp
          exact ⟨rfl, Below.refl _ _⟩
        · simp [Region.wanted, yielded, mix, Act.put, y2] at hh
      | 5, ho =>
        cases ho
        have y2 : vs 2 = _ := hw 2 (waits_of (by kernel_rfl))
        have y4 : vs 4 = _ := hw 4 (waits_of (by kernel_rfl))
        clear hw
        refine ⟨fun _ => ?_, fun hh => ?_⟩
        · simp [mix, y2, y4]
          go_simp
          exact ⟨rfl, Below.refl _ _⟩
        · simp [Region.wanted, yielded, mix, Act.put, y2, y4] at hh
      | 6, ho =>
        cases ho
        have y2 : vs 2 = _ := hw 2 (waits_of (by kernel_rfl))
        clear hw
        refine ⟨fun _ => ?_, fun hh => ?_⟩
        · simp [mix, y2]
          go_simp
          exact ⟨rfl, Below.refl _ _⟩
        · simp [Region.wanted, yielded, mix, Act.put, y2] at hh
      | 7, ho =>
        cases ho
        have y2 : vs 2 = _ := hw 2 (waits_of (by kernel_rfl))
        have y5 : vs 5 = _ := hw 5 (waits_of (by kernel_rfl))
        have y6 : vs 6 = _ := hw 6 (waits_of (by kernel_rfl))
        clear hw
        refine ⟨fun _ => ?_, fun hh => ?_⟩
        · simp [mix, y2, y5, y6]
          go_simp
          refine (wOne_c _ _ _).mono ?_
          rintro e w5 ⟨rfl, hr5, hb5⟩
          exact ⟨_, rfl, ⟨_, rfl, hr5⟩, hb5⟩
        · simp [Region.wanted, yielded, mix, Act.put, y2, y5, y6] at hh
      | 8, ho =>
        cases ho
        have y2 : vs 2 = _ := hw 2 (waits_of (by kernel_rfl))
        have y3 : vs 3 = _ := hw 3 (waits_of (by kernel_rfl))
        refine Exists.elim (juY_7 (hw 7 (waits_of (by kernel_rfl)))) (fun q hq0 => ?_)
        have y7 := hq0.1
        have hq := hq0.2
        clear hq0
        clear hw
        refine ⟨fun _ => ?_, fun hh => ?_⟩
        · simp [mix, y2, y3, y7]
          go_simp
          refine (HF3.out _ _ hC4.2.2.2.2.2.2.2.2.2.2.2.2.2 hq).mono ?_
          rintro e w5 ⟨rfl, hb5⟩
          exact ⟨_, rfl, rfl, hb5⟩
        · simp [Region.wanted, yielded, mix, Act.put, y2, y3, y7] at hh
      | 9, ho =>
        cases ho
        have y2 : vs 2 = _ := hw 2 (waits_of (by kernel_rfl))
        have y8 : vs 8 = _ := hw 8 (waits_of (by kernel_rfl))
        clear hw
        refine ⟨fun _ => ?_, fun hh => ?_⟩
        · simp [mix, y2, y8]
          go_simp
          exact ⟨rfl, Below.refl _ _⟩
        · simp [Region.wanted, yielded, mix, Act.put, y2, y8] at hh
      | 10, ho =>
        cases ho
        have y2 : vs 2 = _ := hw 2 (waits_of (by kernel_rfl))
        have y9 : vs 9 = _ := hw 9 (waits_of (by kernel_rfl))
        clear hw
        refine ⟨fun _ => ?_, fun hh => ?_⟩
        · simp [mix, y2, y9]
          go_simp
          exact ⟨rfl, Below.refl _ _⟩
        · simp [Region.wanted] at hh
      | 11, ho =>
        cases ho
        have y10 : vs 10 = _ := hw 10 (waits_of (by kernel_rfl))
        clear hw
        refine ⟨fun _ => ?_, fun hh => ?_⟩
        · simp [mix, y10]
          go_simp
          exact ⟨rfl, Below.refl _ _⟩
        · simp [Region.wanted] at hh
      | 12, ho =>
        cases ho
        have y11 : vs 11 = _ := hw 11 (waits_of (by kernel_rfl))
        clear hw
        refine ⟨fun _ => ?_, fun hh => ?_⟩
        · simp [mix, y11]
          go_simp
          exact ⟨rfl, Below.refl _ _⟩
        · simp [Region.wanted, yielded, mix, Act.put, y11] at hh
      | 13, ho =>
        cases ho
        have y11 : vs 11 = _ := hw 11 (waits_of (by kernel_rfl))
        clear hw
        refine ⟨fun _ => ?_, fun hh => ?_⟩
        · simp [mix, y11]
          go_simp
          exact ⟨rfl, Below.refl _ _⟩
        · simp [Region.wanted, yielded, mix, Act.put, y11] at hh
      | 14, ho =>
        cases ho
        have y11 : vs 11 = _ := hw 11 (waits_of (by kernel_rfl))
        have y13 : vs 13 = _ := hw 13 (waits_of (by kernel_rfl))
        clear hw
        refine ⟨fun _ => ?_, fun hh => ?_⟩
        · simp [mix, y11, y13]
          go_simp
          exact ⟨rfl, Below.refl _ _⟩
        · simp [Region.wanted, yielded, mix, Act.put, y11, y13] at hh
      | 15, ho =>
        cases ho
        have y11 : vs 11 = _ := hw 11 (waits_of (by kernel_rfl))
        clear hw
        refine ⟨fun _ => ?_, fun hh => ?_⟩
        · simp [mix, y11]
          go_simp
          exact ⟨rfl, Below.refl _ _⟩
        · simp [Region.wanted, yielded, mix, Act.put, y11] at hh
      | 16, ho =>
        cases ho
        have y11 : vs 11 = _ := hw 11 (waits_of (by kernel_rfl))
        have y14 : vs 14 = _ := hw 14 (waits_of (by kernel_rfl))
        have y15 : vs 15 = _ := hw 15 (waits_of (by kernel_rfl))
        clear hw
        refine ⟨fun _ => ?_, fun hh => ?_⟩
        · simp [mix, y11, y14, y15]
          go_simp
          refine (wOne_c _ _ _).mono ?_
          rintro e w5 ⟨rfl, hr5, hb5⟩
          exact ⟨_, rfl, ⟨_, rfl, hr5⟩, hb5⟩
        · simp [Region.wanted, yielded, mix, Act.put, y11, y14, y15] at hh
      | 17, ho =>
        cases ho
        have y11 : vs 11 = _ := hw 11 (waits_of (by kernel_rfl))
        have y12 : vs 12 = _ := hw 12 (waits_of (by kernel_rfl))
        refine Exists.elim (juY_16 (hw 16 (waits_of (by kernel_rfl)))) (fun q hq0 => ?_)
        have y16 := hq0.1
        have hq := hq0.2
        clear hq0
        clear hw
        refine ⟨fun _ => ?_, fun hh => ?_⟩
        · simp [mix, y11, y12, y16]
          go_simp
          refine (HF4.out _ _ hC4.2.2.2.2.2.2.2.2.2.2.2.2.2 hq).mono ?_
          rintro e w5 ⟨rfl, hb5⟩
          exact ⟨_, rfl, rfl, hb5⟩
        · simp [Region.wanted, yielded, mix, Act.put, y11, y12, y16] at hh
      | 18, ho =>
        cases ho
        have y11 : vs 11 = _ := hw 11 (waits_of (by kernel_rfl))
        have y17 : vs 17 = _ := hw 17 (waits_of (by kernel_rfl))
        clear hw
        refine ⟨fun _ => ?_, fun hh => ?_⟩
        · simp [mix, y11, y17]
          go_simp
          exact ⟨rfl, Below.refl _ _⟩
        · simp [Region.wanted, yielded, mix, Act.put, y11, y17] at hh
      | 19, ho =>
        cases ho
        have y11 : vs 11 = _ := hw 11 (waits_of (by kernel_rfl))
        have y18 : vs 18 = _ := hw 18 (waits_of (by kernel_rfl))
        clear hw
        refine ⟨fun _ => ?_, fun hh => ?_⟩
        · simp [mix, y11, y18]
          go_simp
          exact ⟨rfl, Below.refl _ _⟩
        · simp [Region.wanted] at hh
      | 20, ho =>
        cases ho
        have y19 : vs 19 = _ := hw 19 (waits_of (by kernel_rfl))
        clear hw
        refine ⟨fun _ => ?_, fun hh => ?_⟩
        · simp [mix, y19]
          go_simp
          exact ⟨rfl, Below.refl _ _⟩
        · simp [Region.wanted] at hh
      | 21, ho =>
        cases ho
        have y20 : vs 20 = _ := hw 20 (waits_of (by kernel_rfl))
        clear hw
        refine ⟨fun _ => ?_, fun hh => ?_⟩
        · simp [mix, y20]
          go_simp
          exact ⟨rfl, Below.refl _ _⟩
        · simp [Region.wanted, yielded, mix, Act.put, y20] at hh
      | 22, ho =>
        cases ho
        have y20 : vs 20 = _ := hw 20 (waits_of (by kernel_rfl))
        clear hw
        refine ⟨fun _ => ?_, fun hh => ?_⟩
        · simp [mix, y20]
          go_simp
          exact ⟨rfl, Below.refl _ _⟩
        · simp [Region.wanted, yielded, mix, Act.put, y20] at hh
      | 23, ho =>
        cases ho
        have y20 : vs 20 = _ := hw 20 (waits_of (by kernel_rfl))
        clear hw
        refine ⟨fun _ => ?_, fun hh => ?_⟩
        · simp [mix, y20]
          go_simp
          exact ⟨rfl, Below.refl _ _⟩
        · simp [Region.wanted, yielded, mix, Act.put, y20] at hh
      | 24, ho =>
        cases ho
        have y20 : vs 20 = _ := hw 20 (waits_of (by kernel_rfl))
        have y23 : vs 23 = _ := hw 23 (waits_of (by kernel_rfl))
        clear hw
        refine ⟨fun _ => ?_, fun hh => ?_⟩
        · simp [mix, y20, y23]
          go_simp
          exact ⟨rfl, Below.refl _ _⟩
        · simp [Region.wanted, yielded, mix, Act.put, y20, y23] at hh
      | 25, ho =>
        cases ho
        have y20 : vs 20 = _ := hw 20 (waits_of (by kernel_rfl))
        clear hw
        refine ⟨fun _ => ?_, fun hh => ?_⟩
        · simp [mix, y20]
          go_simp
          exact ⟨rfl, Below.refl _ _⟩
        · simp [Region.wanted, yielded, mix, Act.put, y20] at hh
      | 26, ho =>
        cases ho
        have y20 : vs 20 = _ := hw 20 (waits_of (by kernel_rfl))
        have y22 : vs 22 = _ := hw 22 (waits_of (by kernel_rfl))
        have y24 : vs 24 = _ := hw 24 (waits_of (by kernel_rfl))
        have y25 : vs 25 = _ := hw 25 (waits_of (by kernel_rfl))
        clear hw
        refine ⟨fun _ => ?_, fun hh => ?_⟩
        · simp [mix, y20, y22, y24, y25]
          go_simp
          refine (HWs.out _).mono ?_
          rintro e w5 ⟨rfl, hb5⟩
          exact ⟨_, rfl, rfl, hb5⟩
        · simp [Region.wanted, yielded, mix, Act.put, y20, y22, y24, y25] at hh
      | 27, ho =>
        cases ho
        have y20 : vs 20 = _ := hw 20 (waits_of (by kernel_rfl))
        have y21 : vs 21 = _ := hw 21 (waits_of (by kernel_rfl))
        have y26 : vs 26 = _ := hw 26 (waits_of (by kernel_rfl))
        clear hw
        refine ⟨fun _ => ?_, fun hh => ?_⟩
        · simp [mix, y20, y21, y26]
          go_simp
          exact ⟨rfl, Below.refl _ _⟩
        · simp [Region.wanted, yielded, mix, Act.put, y20, y21, y26] at hh
      | 28, ho =>
        cases ho
        have y20 : vs 20 = _ := hw 20 (waits_of (by kernel_rfl))
        have y27 : vs 27 = _ := hw 27 (waits_of (by kernel_rfl))
        clear hw
        refine ⟨fun _ => ?_, fun hh => ?_⟩
        · simp [mix, y20, y27]
          go_simp
          exact ⟨rfl, Below.refl _ _⟩
        · simp [Region.wanted] at hh
      | 29, ho =>
        cases ho
        have y28 : vs 28 = _ := hw 28 (waits_of (by kernel_rfl))
        clear hw
        refine ⟨fun _ => ?_, fun hh => ?_⟩
        · simp [mix, y28]
          go_simp
          exact ⟨rfl, Below.refl _ _⟩
        · simp [Region.wanted] at hh
      | k + 30, ho => simp at ho
    · intro vs w4 hC4 hy
      have y0 : vs 0 = _ := hy 0 (by simp) (by simp)
      have y1 : vs 1 = _ := hy 1 (by simp) (by simp)
      have y2 : vs 2 = _ := hy 2 (by simp) (by simp)
      have y3 : vs 3 = _ := hy 3 (by simp) (by simp)
      have y4 : vs 4 = _ := hy 4 (by simp) (by simp)
      have y5 : vs 5 = _ := hy 5 (by simp) (by simp)
      have y6 : vs 6 = _ := hy 6 (by simp) (by simp)
      refine Exists.elim (juY_7 (hy 7 (by simp) (by simp))) (fun q7 e2 => ?_)
      have y7 := e2.1
      clear e2
      have y8 : vs 8 = _ := hy 8 (by simp) (by simp)
      have y9 : vs 9 = _ := hy 9 (by simp) (by simp)
      have y10 : vs 10 = _ := hy 10 (by simp) (by simp)
      have y11 : vs 11 = _ := hy 11 (by simp) (by simp)
      have y12 : vs 12 = _ := hy 12 (by simp) (by simp)
      have y13 : vs 13 = _ := hy 13 (by simp) (by simp)
      have y14 : vs 14 = _ := hy 14 (by simp) (by simp)
      have y15 : vs 15 = _ := hy 15 (by simp) (by simp)
      refine Exists.elim (juY_16 (hy 16 (by simp) (by simp))) (fun q16 e2 => ?_)
      have y16 := e2.1
      clear e2
      have y17 : vs 17 = _ := hy 17 (by simp) (by simp)
      have y18 : vs 18 = _ := hy 18 (by simp) (by simp)
      have y19 : vs 19 = _ := hy 19 (by simp) (by simp)
      have y20 : vs 20 = _ := hy 20 (by simp) (by simp)
      have y21 : vs 21 = _ := hy 21 (by simp) (by simp)
      have y22 : vs 22 = _ := hy 22 (by simp) (by simp)
      have y23 : vs 23 = _ := hy 23 (by simp) (by simp)
      have y24 : vs 24 = _ := hy 24 (by simp) (by simp)
      have y25 : vs 25 = _ := hy 25 (by simp) (by simp)
      have y26 : vs 26 = _ := hy 26 (by simp) (by simp)
      have y27 : vs 27 = _ := hy 27 (by simp) (by simp)
      have y28 : vs 28 = _ := hy 28 (by simp) (by simp)
      have y29 : vs 29 = _ := hy 29 (by simp) (by simp)
      clear hy
      refine ⟨?_⟩
      simp only [mix, y0, y1, y2, y3, y4, y5, y6, y7, y8, y9, y10, y11, y12, y13, y14, y15, y16, y17, y18, y19, y20, y21, y22, y23, y24, y25, y26, y27, y28, y29]
      clear y0 y1 y2 y3 y4 y5 y6 y7 y8 y9 y10 y11 y12 y13 y14 y15 y16 y17 y18 y19 y20 y21 y22 y23 y24 y25 y26 y27 y28 y29
      go_wp2_with fail
      go_ret
      exact ⟨rfl, hC4.2.2.2.2.2.2.2.2.2.2.2.2.2⟩

end Go.Proofs.YtmhppadblddjoaaDoor
