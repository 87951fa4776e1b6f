/- Room, and the next mark: the law's walk, the program's Room and Next as premises. -/
import Derived.Test.YtmhppadblddjoaaKnown2
import Derived.Test.YtmhppadblddjoaaWB
import Derived.Test.YtmhppadblddjoaaSp3
namespace Go.Proofs.Ytmhppadblddjoaa
open Go.RowKit
set_option linter.unusedVariables false

theorem nxt_from (a : Nat → Int) (l : Int) : ∀ n k, (nxt a l k n = -1 ∧ ∀ i, k ≤ i → i < k + n → a i ≤ l) ∨ ∃ X : Nat, nxt a l k n = (X : Int) ∧ k ≤ X ∧ X < k + n ∧ l < a X ∧ ∀ i, k ≤ i → i < X → a i ≤ l
  | 0, k => .inl ⟨rfl, fun i h1 h2 => by omega⟩
  | n + 1, k => by
    by_cases hk : l < a k
    · exact .inr ⟨k, by rw [nxt, if_pos hk], Nat.le_refl _, by omega, hk, fun i h1 h2 => by omega⟩
    · rw [nxt, if_neg hk]
      rcases nxt_from a l n (k + 1) with ⟨h1, h2⟩ | ⟨X, h1, h2, h3, h4, h5⟩
      · refine .inl ⟨h1, fun i h3 h4 => ?_⟩
        by_cases hik : i = k
        · subst hik; omega
        · exact h2 i (by omega) (by omega)
      · refine .inr ⟨X, h1, by omega, by omega, h4, fun i h6 h7 => ?_⟩
        by_cases hik : i = k
        · subst hik; omega
        · exact h5 i (by omega) h7
theorem nxt_cases (a : Nat → Int) (l : Int) (N : Nat) : (nxt a l 0 N = -1 ∧ ∀ i, i < N → a i ≤ l) ∨ ∃ X : Nat, nxt a l 0 N = (X : Int) ∧ X < N ∧ l < a X ∧ ∀ i, i < X → a i ≤ l := by
  rcases nxt_from a l N 0 with ⟨h1, h2⟩ | ⟨X, h1, -, h3, h4, h5⟩
  · exact .inl ⟨h1, fun i hi => h2 i (by omega) (by omega)⟩
  · exact .inr ⟨X, h1, by omega, h4, fun i hi => h5 i (by omega) hi⟩

def rmC (w : World) (s j m g o bl bh : Int) (p5 p7 : Nat) (ad : Option Addr) (N : Nat) (f a : Nat → Int) (a1 : Option Addr) (len1 : Nat) (u : Nat → Int) : World → Prop := fun w' => w'.cell? ⟨p5, 0, none⟩ = some (.int .i64 s) ∧ w'.cell? ⟨p5, 1, none⟩ = some (.int .i64 j) ∧ w'.cell? ⟨p5, 2, none⟩ = some (.int .i64 m) ∧ w'.cell? ⟨p5, 3, none⟩ = some (.int .i64 g) ∧ w'.cell? ⟨p5, 4, none⟩ = some (.int .i64 o) ∧ w'.cell? ⟨p7, 0, none⟩ = some (.bool true) ∧ w'.cell? ⟨p7, 1, none⟩ = some (.int .i64 bl) ∧ w'.cell? ⟨p7, 2, none⟩ = some (.int .i64 bh) ∧ w'.cell? ⟨p7, 3, none⟩ = some (.int .i64 0) ∧ w'.cell? ⟨p7, 4, none⟩ = some (.int .i64 (-1)) ∧ w'.cell? ⟨p7, 5, none⟩ = some (.int .i64 0) ∧ SRow w' ad N f a ∧ BytesV w' a1 len1 u ∧ Below w.heap.size w w'
theorem rmC_on {w : World} {s j m g o bl bh : Int} {p5 p7 : Nat} {ad : Option Addr} {N : Nat} {f a : Nat → Int} {a1 : Option Addr} {len1 : Nat} {u : Nat → Int} {w1 w2 : World} (hh : rmC w s j m g o bl bh p5 p7 ad N f a a1 len1 u w1) (hb : Below w1.heap.size w1 w2) : rmC w s j m g o bl bh p5 p7 ad N f a a1 len1 u w2 :=
  ⟨cellOn hb hh.1, cellOn hb hh.2.1, cellOn hb hh.2.2.1, cellOn hb hh.2.2.2.1, cellOn hb hh.2.2.2.2.1, cellOn hb hh.2.2.2.2.2.1, cellOn hb hh.2.2.2.2.2.2.1, cellOn hb hh.2.2.2.2.2.2.2.1, cellOn hb hh.2.2.2.2.2.2.2.2.1, cellOn hb hh.2.2.2.2.2.2.2.2.2.1, cellOn hb hh.2.2.2.2.2.2.2.2.2.2.1, hh.2.2.2.2.2.2.2.2.2.2.2.1.on hb, hh.2.2.2.2.2.2.2.2.2.2.2.2.1.on hb, nbTrans hh.2.2.2.2.2.2.2.2.2.2.2.2.2 hb⟩

set_option maxRecDepth 100000 in
set_option maxHeartbeats 4000000 in
theorem room_in (a0 a1 : Option Addr) (len0 cap0 len1 cap1 : Nat) (w : World) (hl0 : len0 ≤ 1048576) (hl1 : len1 ≤ 1048576) (hb0 : Bytes w a0 len0) (hb1 : Bytes w a1 len1)
    (HR : Hid (∀ (s j m g o : Int) (kn : Bool) (l h si la od c : Int) (w : World), Calls Try.prog 20 #[.agg #[.int .i64 s, .int .i64 j, .int .i64 m, .int .i64 g, .int .i64 o], .agg #[.bool kn, .int .i64 l, .int .i64 h, .int .i64 si, .int .i64 la, .int .i64 od], .int .i64 c] w fun e w' => e = .returned (.int .i64 (roomA s j m g o kn l h c)) ∧ Below w.heap.size w w'))
    (HNA : Hid (∀ (ad : Option Addr) (len cap : Nat) (f a : Nat → Int) (kn : Bool) (l h si la od : Int) (w : World), len ≤ 1048576 → SRow w ad len f a → Calls Try.prog 21 #[.slice ad len cap, .agg #[.bool kn, .int .i64 l, .int .i64 h, .int .i64 si, .int .i64 la, .int .i64 od]] w fun e w' => e = .returned (.int .i64 (nextA f a len kn l h)) ∧ Below w.heap.size w w')) :
    Calls Try.prog 6 #[.slice a0 len0 cap0, .slice a1 len1 cap1] w fun e w' => e = .returned (.bool true) ∧ Below w.heap.size w w' := by
  have i0 : ¬ (1048576 : Int) < (len0 : Int) := by omega
  have i1 : ¬ (1048576 : Int) < (len1 : Int) := by omega
  obtain ⟨u, hu⟩ := hb1.toV
  have HU : Hid (BytesV w a1 len1 u) := hu
  clear hb1 hu
  have r0 := bv_range HU.out 0
  obtain ⟨v0, hv0⟩ : ∃ v, bv len1 u 0 = v := ⟨_, rfl⟩
  rw [hv0] at r0
  have HQ : Hid (∀ w, BytesV w a1 len1 u → Calls Try.prog 14 #[.slice a1 len1 cap1, .int .i64 0] w fun e w' => e = .returned (.int .i64 v0) ∧ Below w.heap.size w w') := fun w hb => by
    have := wByteQ_c a1 len1 cap1 u 0 w hb hl1 (by omega) (by omega)
    rw [hv0] at this
    exact this
  clear hv0
  go_enter Try.func6, Try.ntmps6
  go_wp2_with fail
  refine (known_d a0 len0 cap0 _ hb0).mono ?_
  rintro e w1 ⟨s, j, m, g, o, bl, bh, mv, N, xs, rfl, s0, s1, j0, j1, m0, m1, g0, g1, o0, o1, l0, l1, lh, h1, hDM, hown, hB1⟩
  obtain ⟨t, hN, ht, hD⟩ := hDM
  obtain ⟨f, a, rfl, hmk, hpl, hinj⟩ := hD.marks hN ht
  obtain ⟨ad, cap, rfl, hrow⟩ := mkRow_of hown
  have hq3 : q3 s j m g o true bl bh = true := by
    simp [q3, rOk, bOk, inB]
    omega
  have hnx : nextA f a N true bl bh = nxt a bl 0 N := by
    have hb : bOk bl bh = true := by simp [bOk]; omega
    simp [nextA, hmk, hb]
  have HNX : Hid (∀ w, SRow w ad N f a → Calls Try.prog 21 #[.slice ad N cap, .agg #[.bool true, .int .i64 bl, .int .i64 bh, .int .i64 0, .int .i64 (-1), .int .i64 0]] w fun e w' => e = .returned (.int .i64 (nextA f a N true bl bh)) ∧ Below w.heap.size w w') := fun w hr => HNA.out ad N cap f a true bl bh 0 (-1) 0 w (by omega) hr
  have hN7 : N ≤ 1048576 := by omega
  clear hmk hpl hinj hD hown t hN ht hb0
  obtain ⟨c, hc⟩ : ∃ c, bl + v0 * 4 - 200 = c := ⟨_, rfl⟩
  have hcb : -1000 ≤ c ∧ c ≤ 10000 := by omega
  have wr1 : IntKind.i64.wrap (v0 * 4) = v0 * 4 := wrapS (by omega) (by omega)
  have wr2 : IntKind.i64.wrap (bl + v0 * 4) = bl + v0 * 4 := wrapS (by omega) (by omega)
  have wr3 : IntKind.i64.wrap (bl + v0 * 4 - 200) = c := by rw [← hc]; exact wrapS (by omega) (by omega)
  have HRV : Hid (roomA s j m g o true bl bh c = if bh ≤ c then c - bh else -1) := by
    have hin : inB c (-100000000) 100000000 = true := by simp [inB]; omega
    unfold Hid
    simp [roomA, hq3, hin]
  clear hq3
  go_wp2_with fail
  have hC : rmC w s j m g o bl bh w1.heap.size (w1.heap.size + 1) ad N f a a1 len1 u ((w1.alloc (.cells #[.int .i64 s, .int .i64 j, .int .i64 m, .int .i64 g, .int .i64 o] 24)).alloc (.cells #[.bool true, .int .i64 bl, .int .i64 bh, .int .i64 0, .int .i64 (-1), .int .i64 0] 29)) := by
    refine ⟨?_, ?_, ?_, ?_, ?_, ?_, ?_, ?_, ?_, ?_, ?_, hrow.on (nbAlloc (nbAlloc (Below.refl _ _) _) _), HU.out.on (nbAlloc (nbAlloc hB1 _) _), nbAlloc (nbAlloc hB1 _) _⟩
    all_goals go_simp
  clear hB1 hrow
  generalize ((w1.alloc (.cells #[.int .i64 s, .int .i64 j, .int .i64 m, .int .i64 g, .int .i64 o] 24)).alloc (.cells #[.bool true, .int .i64 bl, .int .i64 bh, .int .i64 0, .int .i64 (-1), .int .i64 0] 29)) = w2 at *
  generalize w1.heap.size + 1 = p7 at *
  generalize w1.heap.size = p5 at *
  refine region_kept (rmC w s j m g o bl bh p5 p7 ad N f a a1 len1 u) (by kernel_rfl) (by kernel_rfl) (rmC_on hC (Below.drew (Below.refl _ _))) ?_
  intro hN_
  have k0 : ∀ d : Kept (rmC w s j m g o bl bh p5 p7 ad N f a a1 len1 u), d.w.cell? ⟨p5, 0, none⟩ = some (.int .i64 s) := fun d => d.h.1
  have k1 : ∀ d : Kept (rmC w s j m g o bl bh p5 p7 ad N f a a1 len1 u), d.w.cell? ⟨p5, 1, none⟩ = some (.int .i64 j) := fun d => d.h.2.1
  have k2 : ∀ d : Kept (rmC w s j m g o bl bh p5 p7 ad N f a a1 len1 u), d.w.cell? ⟨p5, 2, none⟩ = some (.int .i64 m) := fun d => d.h.2.2.1
  have k3 : ∀ d : Kept (rmC w s j m g o bl bh p5 p7 ad N f a a1 len1 u), d.w.cell? ⟨p5, 3, none⟩ = some (.int .i64 g) := fun d => d.h.2.2.2.1
  have k4 : ∀ d : Kept (rmC w s j m g o bl bh p5 p7 ad N f a a1 len1 u), d.w.cell? ⟨p5, 4, none⟩ = some (.int .i64 o) := fun d => d.h.2.2.2.2.1
  have k5 : ∀ d : Kept (rmC w s j m g o bl bh p5 p7 ad N f a a1 len1 u), d.w.cell? ⟨p7, 0, none⟩ = some (.bool true) := fun d => d.h.2.2.2.2.2.1
  have k6 : ∀ d : Kept (rmC w s j m g o bl bh p5 p7 ad N f a a1 len1 u), d.w.cell? ⟨p7, 1, none⟩ = some (.int .i64 bl) := fun d => d.h.2.2.2.2.2.2.1
  have k7 : ∀ d : Kept (rmC w s j m g o bl bh p5 p7 ad N f a a1 len1 u), d.w.cell? ⟨p7, 2, none⟩ = some (.int .i64 bh) := fun d => d.h.2.2.2.2.2.2.2.1
  have k8 : ∀ d : Kept (rmC w s j m g o bl bh p5 p7 ad N f a a1 len1 u), d.w.cell? ⟨p7, 3, none⟩ = some (.int .i64 0) := fun d => d.h.2.2.2.2.2.2.2.2.1
  have k9 : ∀ d : Kept (rmC w s j m g o bl bh p5 p7 ad N f a a1 len1 u), d.w.cell? ⟨p7, 4, none⟩ = some (.int .i64 (-1)) := fun d => d.h.2.2.2.2.2.2.2.2.2.1
  have k10 : ∀ d : Kept (rmC w s j m g o bl bh p5 p7 ad N f a a1 len1 u), d.w.cell? ⟨p7, 5, none⟩ = some (.int .i64 0) := fun d => d.h.2.2.2.2.2.2.2.2.2.2.1
  have kU : ∀ d : Kept (rmC w s j m g o bl bh p5 p7 ad N f a a1 len1 u), BytesV d.w a1 len1 u := fun d => d.h.2.2.2.2.2.2.2.2.2.2.2.2.1
  repeat (go_big_quiet_step (first | (go_at_call 14; exact call_kept _ rmC_on (HQ.out _ (kU _))) | exact rfl))
  refine wpQuiet_nil ?_
  rintro w5 ⟨d, hd2⟩
  have hC5 := d.h
  rw [← hd2] at hC5
  clear hd2 k0 k1 k2 k3 k4 k5 k6 k7 k8 k9 k10 kU hC HQ wr1 wr2 wr3 hc
  have c0 : w5.cell? ⟨p5, 0, none⟩ = some (.int .i64 s) := hC5.1
  have c1 : w5.cell? ⟨p5, 1, none⟩ = some (.int .i64 j) := hC5.2.1
  have c2 : w5.cell? ⟨p5, 2, none⟩ = some (.int .i64 m) := hC5.2.2.1
  have c3 : w5.cell? ⟨p5, 3, none⟩ = some (.int .i64 g) := hC5.2.2.2.1
  have c4 : w5.cell? ⟨p5, 4, none⟩ = some (.int .i64 o) := hC5.2.2.2.2.1
  have c5 : w5.cell? ⟨p7, 0, none⟩ = some (.bool true) := hC5.2.2.2.2.2.1
  have c6 : w5.cell? ⟨p7, 1, none⟩ = some (.int .i64 bl) := hC5.2.2.2.2.2.2.1
  have c7 : w5.cell? ⟨p7, 2, none⟩ = some (.int .i64 bh) := hC5.2.2.2.2.2.2.2.1
  have c8 : w5.cell? ⟨p7, 3, none⟩ = some (.int .i64 0) := hC5.2.2.2.2.2.2.2.2.1
  have c9 : w5.cell? ⟨p7, 4, none⟩ = some (.int .i64 (-1)) := hC5.2.2.2.2.2.2.2.2.2.1
  have c10 : w5.cell? ⟨p7, 5, none⟩ = some (.int .i64 0) := hC5.2.2.2.2.2.2.2.2.2.2.1
  go_wp2_with fail
  refine (HR.out _ _ _ _ _ _ _ _ _ _ _ _ _).mono ?_
  rintro e w6 ⟨rfl, hb6⟩
  have hC6 := rmC_on hC5 hb6
  clear c0 c1 c2 c3 c4 c5 c6 c7 c8 c9 c10
  clear hC5 hb6
  have c0 : w6.cell? ⟨p5, 0, none⟩ = some (.int .i64 s) := hC6.1
  have c1 : w6.cell? ⟨p5, 1, none⟩ = some (.int .i64 j) := hC6.2.1
  have c2 : w6.cell? ⟨p5, 2, none⟩ = some (.int .i64 m) := hC6.2.2.1
  have c3 : w6.cell? ⟨p5, 3, none⟩ = some (.int .i64 g) := hC6.2.2.2.1
  have c4 : w6.cell? ⟨p5, 4, none⟩ = some (.int .i64 o) := hC6.2.2.2.2.1
  have c5 : w6.cell? ⟨p7, 0, none⟩ = some (.bool true) := hC6.2.2.2.2.2.1
  have c6 : w6.cell? ⟨p7, 1, none⟩ = some (.int .i64 bl) := hC6.2.2.2.2.2.2.1
  have c7 : w6.cell? ⟨p7, 2, none⟩ = some (.int .i64 bh) := hC6.2.2.2.2.2.2.2.1
  have c8 : w6.cell? ⟨p7, 3, none⟩ = some (.int .i64 0) := hC6.2.2.2.2.2.2.2.2.1
  have c9 : w6.cell? ⟨p7, 4, none⟩ = some (.int .i64 (-1)) := hC6.2.2.2.2.2.2.2.2.2.1
  have c10 : w6.cell? ⟨p7, 5, none⟩ = some (.int .i64 0) := hC6.2.2.2.2.2.2.2.2.2.2.1
  rw [HRV.out]
  by_cases hbc : bh ≤ c
  · rw [if_pos hbc]
    have n1 : decide (c < bh) = false := by simp <;> omega
    have wr4 : IntKind.i64.wrap (c - bh) = c - bh := wrapS (by omega) (by omega)
    go_wp2_with fail
    refine (HNX.out _ hC6.2.2.2.2.2.2.2.2.2.2.2.1).mono ?_
    rintro e w7 ⟨rfl, hb7⟩
    have hC7 := rmC_on hC6 hb7
    clear c0 c1 c2 c3 c4 c5 c6 c7 c8 c9 c10
    clear hC6 hb7
    rw [hnx]
    rcases nxt_cases a bl N with hx | ⟨X, hx1, hx2, hx3⟩
    · rw [hx.1]
      have HX : Hid (∀ i, i < N → a i ≤ bl) := hx.2
      have hfin : (-1 : Int) < (N : Int) := by omega
      clear hx
      go_wp2_with fail
      go_loopw [69] (fun iv wr => ∃ k : Nat, iv = .int .i64 k ∧ k ≤ N ∧ rmC w s j m g o bl bh p5 p7 ad N f a a1 len1 u wr) (fun iv _ => N - (intOf iv).toNat)
      case atStart => exact ⟨0, rfl, by omega, hC7⟩
      case round =>
        clear hC7
        obtain ⟨k, rfl, hk, hC⟩ := hrel
        by_cases hlt : k < N
        · have i5 : (0 : Int) ≤ (k : Int) := by omega
          have i6 : (k : Int) < (N : Int) := by omega
          have hS : SRow wr ad N f a := hC.2.2.2.2.2.2.2.2.2.2.2.1
          rcases hS with hz | ⟨b, off, rfl, hr⟩
          · omega
          have d0 := (hr k hlt).1
          have d1 := (hr k hlt).2
          have hC3 := rmC_on hC (nbAlloc (Below.refl wr.heap.size wr) (.cells #[.int .i64 (f k), .int .i64 (a k)] 37))
          have c0 : (wr.alloc (.cells #[.int .i64 (f k), .int .i64 (a k)] 37)).cell? ⟨p5, 0, none⟩ = some (.int .i64 s) := hC3.1
          have c1 : (wr.alloc (.cells #[.int .i64 (f k), .int .i64 (a k)] 37)).cell? ⟨p5, 1, none⟩ = some (.int .i64 j) := hC3.2.1
          have c2 : (wr.alloc (.cells #[.int .i64 (f k), .int .i64 (a k)] 37)).cell? ⟨p5, 2, none⟩ = some (.int .i64 m) := hC3.2.2.1
          have c3 : (wr.alloc (.cells #[.int .i64 (f k), .int .i64 (a k)] 37)).cell? ⟨p5, 3, none⟩ = some (.int .i64 g) := hC3.2.2.2.1
          have c4 : (wr.alloc (.cells #[.int .i64 (f k), .int .i64 (a k)] 37)).cell? ⟨p5, 4, none⟩ = some (.int .i64 o) := hC3.2.2.2.2.1
          have c5 : (wr.alloc (.cells #[.int .i64 (f k), .int .i64 (a k)] 37)).cell? ⟨p7, 0, none⟩ = some (.bool true) := hC3.2.2.2.2.2.1
          have c6 : (wr.alloc (.cells #[.int .i64 (f k), .int .i64 (a k)] 37)).cell? ⟨p7, 1, none⟩ = some (.int .i64 bl) := hC3.2.2.2.2.2.2.1
          have c7 : (wr.alloc (.cells #[.int .i64 (f k), .int .i64 (a k)] 37)).cell? ⟨p7, 2, none⟩ = some (.int .i64 bh) := hC3.2.2.2.2.2.2.2.1
          have c8 : (wr.alloc (.cells #[.int .i64 (f k), .int .i64 (a k)] 37)).cell? ⟨p7, 3, none⟩ = some (.int .i64 0) := hC3.2.2.2.2.2.2.2.2.1
          have c9 : (wr.alloc (.cells #[.int .i64 (f k), .int .i64 (a k)] 37)).cell? ⟨p7, 4, none⟩ = some (.int .i64 (-1)) := hC3.2.2.2.2.2.2.2.2.2.1
          have c10 : (wr.alloc (.cells #[.int .i64 (f k), .int .i64 (a k)] 37)).cell? ⟨p7, 5, none⟩ = some (.int .i64 0) := hC3.2.2.2.2.2.2.2.2.2.2.1
          have g1 : decide (bl < a k) = false := by have := HX.out k hlt; simp <;> omega
          have g2 : decide ((k : Int) = -1) = false := by simp <;> omega
          have g3 : ((k : Int) == -1) = false := by simp <;> omega
          go_wp2_with fail
          go_roundw
          case rel => exact ⟨k + 1, by go_num, by omega, hC3⟩
          case measure => simp [intOf]; omega
        · have hkN : k = N := by omega
          subst hkN
          go_wp2_with fail
          go_ret
          exact ⟨rfl, hC.2.2.2.2.2.2.2.2.2.2.2.2.2⟩
    · rw [hx1]
      have HX : Hid (bl < a X ∧ ∀ i, i < X → a i ≤ bl) := hx3
      have hfin : (X : Int) < (N : Int) := by omega
      have hx0 : decide ((X : Int) < 0) = false := by simp <;> omega
      clear hx1 hx3
      go_wp2_with fail
      go_loopw [69] (fun iv wr => ∃ k : Nat, iv = .int .i64 k ∧ k ≤ N ∧ rmC w s j m g o bl bh p5 p7 ad N f a a1 len1 u wr) (fun iv _ => N - (intOf iv).toNat)
      case atStart => exact ⟨0, rfl, by omega, hC7⟩
      case round =>
        clear hC7
        obtain ⟨k, rfl, hk, hC⟩ := hrel
        by_cases hlt : k < N
        · have i5 : (0 : Int) ≤ (k : Int) := by omega
          have i6 : (k : Int) < (N : Int) := by omega
          have hS : SRow wr ad N f a := hC.2.2.2.2.2.2.2.2.2.2.2.1
          rcases hS with hz | ⟨b, off, rfl, hr⟩
          · omega
          have d0 := (hr k hlt).1
          have d1 := (hr k hlt).2
          have hC3 := rmC_on hC (nbAlloc (Below.refl wr.heap.size wr) (.cells #[.int .i64 (f k), .int .i64 (a k)] 37))
          have c0 : (wr.alloc (.cells #[.int .i64 (f k), .int .i64 (a k)] 37)).cell? ⟨p5, 0, none⟩ = some (.int .i64 s) := hC3.1
          have c1 : (wr.alloc (.cells #[.int .i64 (f k), .int .i64 (a k)] 37)).cell? ⟨p5, 1, none⟩ = some (.int .i64 j) := hC3.2.1
          have c2 : (wr.alloc (.cells #[.int .i64 (f k), .int .i64 (a k)] 37)).cell? ⟨p5, 2, none⟩ = some (.int .i64 m) := hC3.2.2.1
          have c3 : (wr.alloc (.cells #[.int .i64 (f k), .int .i64 (a k)] 37)).cell? ⟨p5, 3, none⟩ = some (.int .i64 g) := hC3.2.2.2.1
          have c4 : (wr.alloc (.cells #[.int .i64 (f k), .int .i64 (a k)] 37)).cell? ⟨p5, 4, none⟩ = some (.int .i64 o) := hC3.2.2.2.2.1
          have c5 : (wr.alloc (.cells #[.int .i64 (f k), .int .i64 (a k)] 37)).cell? ⟨p7, 0, none⟩ = some (.bool true) := hC3.2.2.2.2.2.1
          have c6 : (wr.alloc (.cells #[.int .i64 (f k), .int .i64 (a k)] 37)).cell? ⟨p7, 1, none⟩ = some (.int .i64 bl) := hC3.2.2.2.2.2.2.1
          have c7 : (wr.alloc (.cells #[.int .i64 (f k), .int .i64 (a k)] 37)).cell? ⟨p7, 2, none⟩ = some (.int .i64 bh) := hC3.2.2.2.2.2.2.2.1
          have c8 : (wr.alloc (.cells #[.int .i64 (f k), .int .i64 (a k)] 37)).cell? ⟨p7, 3, none⟩ = some (.int .i64 0) := hC3.2.2.2.2.2.2.2.2.1
          have c9 : (wr.alloc (.cells #[.int .i64 (f k), .int .i64 (a k)] 37)).cell? ⟨p7, 4, none⟩ = some (.int .i64 (-1)) := hC3.2.2.2.2.2.2.2.2.2.1
          have c10 : (wr.alloc (.cells #[.int .i64 (f k), .int .i64 (a k)] 37)).cell? ⟨p7, 5, none⟩ = some (.int .i64 0) := hC3.2.2.2.2.2.2.2.2.2.2.1
          by_cases hkx : k < X
          · have g0 : (k : Int) < (X : Int) := by omega
            have g1 : decide (bl < a k) = false := by have := HX.out.2 k hkx; simp <;> omega
            have g3 : ((k : Int) == (X : Int)) = false := by simp <;> omega
            go_wp2_with fail
            go_roundw
            case rel => exact ⟨k + 1, by go_num, by omega, hC3⟩
            case measure => simp [intOf]; omega
          by_cases hke : k = X
          · subst hke
            have hbg := HX.out.1
            have g1 : decide (a k ≤ bl) = false := by simp <;> omega
            go_wp2_with fail
            go_roundw
            case rel => exact ⟨k + 1, by go_num, by omega, hC3⟩
            case measure => simp [intOf]; omega
          have g0 : decide ((k : Int) < (X : Int)) = false := by simp <;> omega
          have g3 : ((k : Int) == (X : Int)) = false := by simp <;> omega
          go_wp2_with fail
          go_roundw
          case rel => exact ⟨k + 1, by go_num, by omega, hC3⟩
          case measure => simp [intOf]; omega
        · have hkN : k = N := by omega
          subst hkN
          go_wp2_with fail
          go_ret
          exact ⟨rfl, hC.2.2.2.2.2.2.2.2.2.2.2.2.2⟩
  · rw [if_neg hbc]
    have n1 : c < bh := by omega
    have n2 : decide (bh ≤ c) = false := by simp <;> omega
    go_wp2_with fail
    refine (HNX.out _ hC6.2.2.2.2.2.2.2.2.2.2.2.1).mono ?_
    rintro e w7 ⟨rfl, hb7⟩
    have hC7 := rmC_on hC6 hb7
    clear c0 c1 c2 c3 c4 c5 c6 c7 c8 c9 c10
    clear hC6 hb7
    rw [hnx]
    rcases nxt_cases a bl N with hx | ⟨X, hx1, hx2, hx3⟩
    · rw [hx.1]
      have HX : Hid (∀ i, i < N → a i ≤ bl) := hx.2
      have hfin : (-1 : Int) < (N : Int) := by omega
      clear hx
      go_wp2_with fail
      go_loopw [69] (fun iv wr => ∃ k : Nat, iv = .int .i64 k ∧ k ≤ N ∧ rmC w s j m g o bl bh p5 p7 ad N f a a1 len1 u wr) (fun iv _ => N - (intOf iv).toNat)
      case atStart => exact ⟨0, rfl, by omega, hC7⟩
      case round =>
        clear hC7
        obtain ⟨k, rfl, hk, hC⟩ := hrel
        by_cases hlt : k < N
        · have i5 : (0 : Int) ≤ (k : Int) := by omega
          have i6 : (k : Int) < (N : Int) := by omega
          have hS : SRow wr ad N f a := hC.2.2.2.2.2.2.2.2.2.2.2.1
          rcases hS with hz | ⟨b, off, rfl, hr⟩
          · omega
          have d0 := (hr k hlt).1
          have d1 := (hr k hlt).2
          have hC3 := rmC_on hC (nbAlloc (Below.refl wr.heap.size wr) (.cells #[.int .i64 (f k), .int .i64 (a k)] 37))
          have c0 : (wr.alloc (.cells #[.int .i64 (f k), .int .i64 (a k)] 37)).cell? ⟨p5, 0, none⟩ = some (.int .i64 s) := hC3.1
          have c1 : (wr.alloc (.cells #[.int .i64 (f k), .int .i64 (a k)] 37)).cell? ⟨p5, 1, none⟩ = some (.int .i64 j) := hC3.2.1
          have c2 : (wr.alloc (.cells #[.int .i64 (f k), .int .i64 (a k)] 37)).cell? ⟨p5, 2, none⟩ = some (.int .i64 m) := hC3.2.2.1
          have c3 : (wr.alloc (.cells #[.int .i64 (f k), .int .i64 (a k)] 37)).cell? ⟨p5, 3, none⟩ = some (.int .i64 g) := hC3.2.2.2.1
          have c4 : (wr.alloc (.cells #[.int .i64 (f k), .int .i64 (a k)] 37)).cell? ⟨p5, 4, none⟩ = some (.int .i64 o) := hC3.2.2.2.2.1
          have c5 : (wr.alloc (.cells #[.int .i64 (f k), .int .i64 (a k)] 37)).cell? ⟨p7, 0, none⟩ = some (.bool true) := hC3.2.2.2.2.2.1
          have c6 : (wr.alloc (.cells #[.int .i64 (f k), .int .i64 (a k)] 37)).cell? ⟨p7, 1, none⟩ = some (.int .i64 bl) := hC3.2.2.2.2.2.2.1
          have c7 : (wr.alloc (.cells #[.int .i64 (f k), .int .i64 (a k)] 37)).cell? ⟨p7, 2, none⟩ = some (.int .i64 bh) := hC3.2.2.2.2.2.2.2.1
          have c8 : (wr.alloc (.cells #[.int .i64 (f k), .int .i64 (a k)] 37)).cell? ⟨p7, 3, none⟩ = some (.int .i64 0) := hC3.2.2.2.2.2.2.2.2.1
          have c9 : (wr.alloc (.cells #[.int .i64 (f k), .int .i64 (a k)] 37)).cell? ⟨p7, 4, none⟩ = some (.int .i64 (-1)) := hC3.2.2.2.2.2.2.2.2.2.1
          have c10 : (wr.alloc (.cells #[.int .i64 (f k), .int .i64 (a k)] 37)).cell? ⟨p7, 5, none⟩ = some (.int .i64 0) := hC3.2.2.2.2.2.2.2.2.2.2.1
          have g1 : decide (bl < a k) = false := by have := HX.out k hlt; simp <;> omega
          have g2 : decide ((k : Int) = -1) = false := by simp <;> omega
          have g3 : ((k : Int) == -1) = false := by simp <;> omega
          go_wp2_with fail
          go_roundw
          case rel => exact ⟨k + 1, by go_num, by omega, hC3⟩
          case measure => simp [intOf]; omega
        · have hkN : k = N := by omega
          subst hkN
          go_wp2_with fail
          go_ret
          exact ⟨rfl, hC.2.2.2.2.2.2.2.2.2.2.2.2.2⟩
    · rw [hx1]
      have HX : Hid (bl < a X ∧ ∀ i, i < X → a i ≤ bl) := hx3
      have hfin : (X : Int) < (N : Int) := by omega
      have hx0 : decide ((X : Int) < 0) = false := by simp <;> omega
      clear hx1 hx3
      go_wp2_with fail
      go_loopw [69] (fun iv wr => ∃ k : Nat, iv = .int .i64 k ∧ k ≤ N ∧ rmC w s j m g o bl bh p5 p7 ad N f a a1 len1 u wr) (fun iv _ => N - (intOf iv).toNat)
      case atStart => exact ⟨0, rfl, by omega, hC7⟩
      case round =>
        clear hC7
        obtain ⟨k, rfl, hk, hC⟩ := hrel
        by_cases hlt : k < N
        · have i5 : (0 : Int) ≤ (k : Int) := by omega
          have i6 : (k : Int) < (N : Int) := by omega
          have hS : SRow wr ad N f a := hC.2.2.2.2.2.2.2.2.2.2.2.1
          rcases hS with hz | ⟨b, off, rfl, hr⟩
          · omega
          have d0 := (hr k hlt).1
          have d1 := (hr k hlt).2
          have hC3 := rmC_on hC (nbAlloc (Below.refl wr.heap.size wr) (.cells #[.int .i64 (f k), .int .i64 (a k)] 37))
          have c0 : (wr.alloc (.cells #[.int .i64 (f k), .int .i64 (a k)] 37)).cell? ⟨p5, 0, none⟩ = some (.int .i64 s) := hC3.1
          have c1 : (wr.alloc (.cells #[.int .i64 (f k), .int .i64 (a k)] 37)).cell? ⟨p5, 1, none⟩ = some (.int .i64 j) := hC3.2.1
          have c2 : (wr.alloc (.cells #[.int .i64 (f k), .int .i64 (a k)] 37)).cell? ⟨p5, 2, none⟩ = some (.int .i64 m) := hC3.2.2.1
          have c3 : (wr.alloc (.cells #[.int .i64 (f k), .int .i64 (a k)] 37)).cell? ⟨p5, 3, none⟩ = some (.int .i64 g) := hC3.2.2.2.1
          have c4 : (wr.alloc (.cells #[.int .i64 (f k), .int .i64 (a k)] 37)).cell? ⟨p5, 4, none⟩ = some (.int .i64 o) := hC3.2.2.2.2.1
          have c5 : (wr.alloc (.cells #[.int .i64 (f k), .int .i64 (a k)] 37)).cell? ⟨p7, 0, none⟩ = some (.bool true) := hC3.2.2.2.2.2.1
          have c6 : (wr.alloc (.cells #[.int .i64 (f k), .int .i64 (a k)] 37)).cell? ⟨p7, 1, none⟩ = some (.int .i64 bl) := hC3.2.2.2.2.2.2.1
          have c7 : (wr.alloc (.cells #[.int .i64 (f k), .int .i64 (a k)] 37)).cell? ⟨p7, 2, none⟩ = some (.int .i64 bh) := hC3.2.2.2.2.2.2.2.1
          have c8 : (wr.alloc (.cells #[.int .i64 (f k), .int .i64 (a k)] 37)).cell? ⟨p7, 3, none⟩ = some (.int .i64 0) := hC3.2.2.2.2.2.2.2.2.1
          have c9 : (wr.alloc (.cells #[.int .i64 (f k), .int .i64 (a k)] 37)).cell? ⟨p7, 4, none⟩ = some (.int .i64 (-1)) := hC3.2.2.2.2.2.2.2.2.2.1
          have c10 : (wr.alloc (.cells #[.int .i64 (f k), .int .i64 (a k)] 37)).cell? ⟨p7, 5, none⟩ = some (.int .i64 0) := hC3.2.2.2.2.2.2.2.2.2.2.1
          by_cases hkx : k < X
          · have g0 : (k : Int) < (X : Int) := by omega
            have g1 : decide (bl < a k) = false := by have := HX.out.2 k hkx; simp <;> omega
            have g3 : ((k : Int) == (X : Int)) = false := by simp <;> omega
            go_wp2_with fail
            go_roundw
            case rel => exact ⟨k + 1, by go_num, by omega, hC3⟩
            case measure => simp [intOf]; omega
          by_cases hke : k = X
          · subst hke
            have hbg := HX.out.1
            have g1 : decide (a k ≤ bl) = false := by simp <;> omega
            go_wp2_with fail
            go_roundw
            case rel => exact ⟨k + 1, by go_num, by omega, hC3⟩
            case measure => simp [intOf]; omega
          have g0 : decide ((k : Int) < (X : Int)) = false := by simp <;> omega
          have g3 : ((k : Int) == (X : Int)) = false := by simp <;> omega
          go_wp2_with fail
          go_roundw
          case rel => exact ⟨k + 1, by go_num, by omega, hC3⟩
          case measure => simp [intOf]; omega
        · have hkN : k = N := by omega
          subst hkN
          go_wp2_with fail
          go_ret
          exact ⟨rfl, hC.2.2.2.2.2.2.2.2.2.2.2.2.2⟩

end Go.Proofs.Ytmhppadblddjoaa
