import Derived.Test.YtmhppadblddjoaaDoorZTrueI3a
import Derived.Test.YtmhppadblddjoaaDoorZTrueRel
import Derived.Test.YtmhppadblddjoaaDoorZTrueTq
/- The front is where it is told to be: the law's walk, the program's Fair and Felt as premises. -/
namespace Go.Proofs.YtmhppadblddjoaaDoor
open Go.RowKit
set_option linter.unusedVariables false

theorem neqEv (a b : Int) (w : World) : (binOp .neq 48 (.agg #[.int .i64 a, .int .i64 b]) (.agg #[.int .i64 a, .int .i64 b])).run Tryd.prog w = .ok (.bool false) w := by
  go_simp
def weC (w : World) (p op q oq : Nat) (x y : Int) : World → Prop := fun w' => w'.cell? ⟨p, op, none⟩ = some (.int .i64 x) ∧ w'.cell? ⟨p, op + 1, none⟩ = some (.int .i64 y) ∧ w'.cell? ⟨q, oq, none⟩ = some (.int .i64 x) ∧ w'.cell? ⟨q, oq + 1, none⟩ = some (.int .i64 y) ∧ Below w.heap.size w w'
set_option maxHeartbeats 1000000 in
theorem wEvents_c (ad ae : Option Addr) (n c1 c2 : Nat) (fe ge : Nat → Int) (w : World) (hl : n ≤ 1048576) (h1 : SRow w ad n fe ge) (h2 : SRow w ae n fe ge) :
    Calls Tryd.prog 17 #[.slice ad n c1, .slice ae n c2] w fun e w' => e = .returned (.bool true) ∧ Below w.heap.size w w' := by
  obtain ⟨p, op, hp⟩ := h1.at
  obtain ⟨q, oq, hq⟩ := h2.at
  go_enter Tryd.func17, Tryd.ntmps17
  go_wp2_with fail
  go_loopw [13] (fun iv wr => ∃ k : Nat, iv = .int .i64 k ∧ k ≤ n ∧ Below w.heap.size w wr) (fun iv _ => n - (intOf iv).toNat)
  case atStart => exact ⟨0, rfl, by omega, Below.refl _ _⟩
  case round =>
    obtain ⟨k, rfl, hk, hB⟩ := hrel
    by_cases hlt : k < n
    · have i0 : (0 : Int) ≤ (k : Int) := by omega
      have i1 : (k : Int) < (n : Int) := by omega
      have ep := hp.1 (by omega)
      subst ep
      have eq := hq.1 (by omega)
      subst eq
      have d0 := cellOn hB (hp.2 k hlt).1
      have d1 := cellOn hB (hp.2 k hlt).2
      have d2 := cellOn hB (hq.2 k hlt).1
      have d3 := cellOn hB (hq.2 k hlt).2
      have hne := neqEv (fe k) (ge k)
      go_wp2_with fail
      refine region_kept (weC w p (op + k * 2) q (oq + k * 2) (fe k) (ge k)) (by kernel_rfl) (by kernel_rfl) ⟨d0, d1, d2, d3, hB.drew⟩ ?_
      intro hN
      have k0 : ∀ d : Kept (weC w p (op + k * 2) q (oq + k * 2) (fe k) (ge k)), d.w.cell? ⟨p, op + k * 2, none⟩ = some (.int .i64 (fe k)) := fun d => d.h.1
      have k1 : ∀ d : Kept (weC w p (op + k * 2) q (oq + k * 2) (fe k) (ge k)), d.w.cell? ⟨p, op + k * 2 + 1, none⟩ = some (.int .i64 (ge k)) := fun d => d.h.2.1
      have k2 : ∀ d : Kept (weC w p (op + k * 2) q (oq + k * 2) (fe k) (ge k)), d.w.cell? ⟨q, oq + k * 2, none⟩ = some (.int .i64 (fe k)) := fun d => d.h.2.2.1
      have k3 : ∀ d : Kept (weC w p (op + k * 2) q (oq + k * 2) (fe k) (ge k)), d.w.cell? ⟨q, oq + k * 2 + 1, none⟩ = some (.int .i64 (ge k)) := fun d => d.h.2.2.2.1
      repeat (go_big_quiet_step (first | exact rfl))
      refine wpQuiet_nil ?_
      rintro _ ⟨⟨w1, hd⟩, rfl⟩
      clear k0 k1 k2 k3
      go_wp2_with fail
      go_roundw
      case rel => exact ⟨k + 1, by go_num, by omega, hd.2.2.2.2⟩
      case measure => simp [intOf]; omega
    · go_wp2_with fail
      go_ret
      exact ⟨rfl, hB⟩

def tr0 (w : World) (s j m g o : Int) (p5 : Nat) (ad : Option Addr) (N : Nat) (f a : Nat → Int) (bt ot n : Nat) (tf tc : Nat → Int) (ar : Option Addr) (rd : Nat → Int) (a1 : Option Addr) (len1 : Nat) (u : Nat → Int) : World → Prop := fun w' => w'.cell? ⟨p5, 0, none⟩ = some (.int .i64 s) ∧ w'.cell? ⟨p5, 1, none⟩ = some (.int .i64 j) ∧ w'.cell? ⟨p5, 2, none⟩ = some (.int .i64 m) ∧ w'.cell? ⟨p5, 3, none⟩ = some (.int .i64 g) ∧ w'.cell? ⟨p5, 4, none⟩ = some (.int .i64 o) ∧ SRow w' ad N f a ∧ Row2 w' bt ot n tf tc ∧ SRow1 w' ar n rd ∧ BytesV w' a1 len1 u ∧ Below w.heap.size w w'
theorem tr0_on {w : World} {s j m g o : Int} {p5 : Nat} {ad : Option Addr} {N : Nat} {f a : Nat → Int} {bt ot n : Nat} {tf tc : Nat → Int} {ar : Option Addr} {rd : Nat → Int} {a1 : Option Addr} {len1 : Nat} {u : Nat → Int} {w1 w2 : World} (hh : tr0 w s j m g o p5 ad N f a bt ot n tf tc ar rd a1 len1 u w1) (hb : Below w1.heap.size w1 w2) : tr0 w s j m g o p5 ad N f a bt ot n tf tc ar rd a1 len1 u w2 :=
  ⟨cellOn hb hh.1, cellOn hb hh.2.1, cellOn hb hh.2.2.1, cellOn hb hh.2.2.2.1, cellOn hb hh.2.2.2.2.1, hh.2.2.2.2.2.1.on hb, hh.2.2.2.2.2.2.1.on hb, hh.2.2.2.2.2.2.2.1.on hb, hh.2.2.2.2.2.2.2.2.1.on hb, nbTrans hh.2.2.2.2.2.2.2.2.2 hb⟩

def trC (w : World) (s j m g o : Int) (p5 : Nat) (bt ot n : Nat) (tf tc : Nat → Int) (be oe el : Nat) (fe ge : Nat → Int) (qs : Nat) (T : Nat → St) (a1 : Option Addr) (len1 : Nat) (u : Nat → Int) : World → Prop := fun w' => w'.cell? ⟨p5, 0, none⟩ = some (.int .i64 s) ∧ w'.cell? ⟨p5, 1, none⟩ = some (.int .i64 j) ∧ w'.cell? ⟨p5, 2, none⟩ = some (.int .i64 m) ∧ w'.cell? ⟨p5, 3, none⟩ = some (.int .i64 g) ∧ w'.cell? ⟨p5, 4, none⟩ = some (.int .i64 o) ∧ Row2 w' bt ot n tf tc ∧ Row2 w' be oe el fe ge ∧ Row6 w' qs el T ∧ BytesV w' a1 len1 u ∧ Below w.heap.size w w'
theorem trC_on {w : World} {s j m g o : Int} {p5 : Nat} {bt ot n : Nat} {tf tc : Nat → Int} {be oe el : Nat} {fe ge : Nat → Int} {qs : Nat} {T : Nat → St} {a1 : Option Addr} {len1 : Nat} {u : Nat → Int} {w1 w2 : World} (hh : trC w s j m g o p5 bt ot n tf tc be oe el fe ge qs T a1 len1 u w1) (hb : Below w1.heap.size w1 w2) : trC w s j m g o p5 bt ot n tf tc be oe el fe ge qs T a1 len1 u w2 :=
  ⟨cellOn hb hh.1, cellOn hb hh.2.1, cellOn hb hh.2.2.1, cellOn hb hh.2.2.2.1, cellOn hb hh.2.2.2.2.1, hh.2.2.2.2.2.1.on hb, hh.2.2.2.2.2.2.1.on hb, hh.2.2.2.2.2.2.2.1.on hb, hh.2.2.2.2.2.2.2.2.1.on hb, nbTrans hh.2.2.2.2.2.2.2.2.2 hb⟩

def trS (w : World) (s j m g o : Int) (p5 : Nat) (bt ot n : Nat) (tf tc : Nat → Int) (be oe el : Nat) (fe ge : Nat → Int) (qs : Nat) (T : Nat → St) (a1 : Option Addr) (len1 : Nat) (u : Nat → Int) (p18 : Nat) (tl th tsi tla : Int) : World → Prop := fun w' => w'.cell? ⟨p5, 0, none⟩ = some (.int .i64 s) ∧ w'.cell? ⟨p5, 1, none⟩ = some (.int .i64 j) ∧ w'.cell? ⟨p5, 2, none⟩ = some (.int .i64 m) ∧ w'.cell? ⟨p5, 3, none⟩ = some (.int .i64 g) ∧ w'.cell? ⟨p5, 4, none⟩ = some (.int .i64 o) ∧ w'.cell? ⟨p18, 0, none⟩ = some (.bool true) ∧ w'.cell? ⟨p18, 1, none⟩ = some (.int .i64 tl) ∧ w'.cell? ⟨p18, 2, none⟩ = some (.int .i64 th) ∧ w'.cell? ⟨p18, 3, none⟩ = some (.int .i64 tsi) ∧ w'.cell? ⟨p18, 4, none⟩ = some (.int .i64 tla) ∧ w'.cell? ⟨p18, 5, none⟩ = some (.int .i64 0) ∧ Row2 w' bt ot n tf tc ∧ Row2 w' be oe el fe ge ∧ Row6 w' qs el T ∧ BytesV w' a1 len1 u ∧ Below w.heap.size w w'
theorem trS_on {w : World} {s j m g o : Int} {p5 : Nat} {bt ot n : Nat} {tf tc : Nat → Int} {be oe el : Nat} {fe ge : Nat → Int} {qs : Nat} {T : Nat → St} {a1 : Option Addr} {len1 : Nat} {u : Nat → Int} {p18 : Nat} {tl th tsi tla : Int} {w1 w2 : World} (hh : trS w s j m g o p5 bt ot n tf tc be oe el fe ge qs T a1 len1 u p18 tl th tsi tla w1) (hb : Below w1.heap.size w1 w2) : trS w s j m g o p5 bt ot n tf tc be oe el fe ge qs T a1 len1 u p18 tl th tsi tla w2 :=
  ⟨cellOn hb hh.1, cellOn hb hh.2.1, cellOn hb hh.2.2.1, cellOn hb hh.2.2.2.1, cellOn hb hh.2.2.2.2.1, cellOn hb hh.2.2.2.2.2.1, cellOn hb hh.2.2.2.2.2.2.1, cellOn hb hh.2.2.2.2.2.2.2.1, cellOn hb hh.2.2.2.2.2.2.2.2.1, cellOn hb hh.2.2.2.2.2.2.2.2.2.1, cellOn hb hh.2.2.2.2.2.2.2.2.2.2.1, hh.2.2.2.2.2.2.2.2.2.2.2.1.on hb, hh.2.2.2.2.2.2.2.2.2.2.2.2.1.on hb, hh.2.2.2.2.2.2.2.2.2.2.2.2.2.1.on hb, hh.2.2.2.2.2.2.2.2.2.2.2.2.2.2.1.on hb, nbTrans hh.2.2.2.2.2.2.2.2.2.2.2.2.2.2.2 hb⟩

set_option maxRecDepth 100000 in
set_option maxHeartbeats 8000000 in
theorem true_in (a0 a1 : Option Addr) (len0 cap0 len1 cap1 : Nat) (w : World) (hl0 : len0 ≤ 1048576) (hl1 : len1 ≤ 1048576) (hb0 : Bytes w a0 len0) (hb1 : Bytes w a1 len1)
    (HF : Hid (∀ (ad : Option Addr) (len cap : Nat) (f a : Nat → Int) (s j m g o : Int) (wz : World), Below w.heap.size w wz → len ≤ 1048576 → SRow wz ad len f a → Calls Tryd.prog 14 #[.agg #[.int .i64 s, .int .i64 j, .int .i64 m, .int .i64 g, .int .i64 o], .slice ad len cap] wz fun e w' => e = .returned (.bool (fairA s j m g o f a len)) ∧ Below wz.heap.size wz w'))
    (HFE : Hid (∀ (ad : Option Addr) (len cap : Nat) (f a : Nat → Int) (x0 : Int) (at2 : Option Addr) (n nc : Nat) (tf tc : Nat → Int) (ar : Option Addr) (rn rc : Nat) (rd : Nat → Int) (s j m g o : Int) (wz : World), Below w.heap.size w wz → len ≤ 1048576 → n ≤ 1048576 → rn ≤ 1048576 → SRow wz ad len f a → SRow wz at2 n tf tc → SRow1 wz ar rn rd → Calls Tryd.prog 16 #[.agg #[.int .i64 s, .int .i64 j, .int .i64 m, .int .i64 g, .int .i64 o], .slice ad len cap, .int .i64 x0, .slice at2 n nc, .slice ar rn rc] wz fun e w' => ∃ v, e = .returned v ∧ Felts wz (feltA s j m g o f a len x0 tf tc rd n rn) v w')) :
    Calls Tryd.prog 4 #[.slice a0 len0 cap0, .slice a1 len1 cap1] w fun e w' => e = .returned (.bool true) ∧ Below w.heap.size w w' := by
  have i0 : ¬ (1048576 : Int) < (len0 : Int) := by omega
  have i1 : ¬ (1048576 : Int) < (len1 : Int) := by omega
  obtain ⟨u, hu⟩ := hb1.toV
  have HU : Hid (BytesV w a1 len1 u) := hu
  clear hb1 hu
  have r0 := bv_range HU.out 0
  have r1 := bv_range HU.out 1
  have r2 := bv_range HU.out 2
  obtain ⟨v0, hv0⟩ : ∃ v, Hid (bv len1 u 0 = v) := ⟨_, rfl⟩
  obtain ⟨v1, hv1⟩ : ∃ v, Hid (bv len1 u 1 = v) := ⟨_, rfl⟩
  obtain ⟨v2, hv2⟩ : ∃ v, Hid (bv len1 u 2 = v) := ⟨_, rfl⟩
  rw [hv0.out] at r0
  rw [hv1.out] at r1
  rw [hv2.out] at r2
  go_enter Tryd.func4, Tryd.ntmps4
  go_wp2_with fail
  refine (trips_d a0 len0 cap0 _ hb0).mono ?_
  rintro e w1 ⟨s, j, m, g, o, x0, mv, N, xs, tv, ts, rv, rs, rfl, s0, s1, j0, j1, m0, m1, g0, g1, o0, o1, x00, x01, hDM, htl, hts, hrl, hM, hT, hR, hB1⟩
  refine Later.now ?_
  have hN7 : N ≤ 7 := by obtain ⟨t, h, -⟩ := hDM; exact h
  obtain ⟨ad, cap, f, a, at2, n, nc, tf, tc, ar, rc, rd, el, fe, ge, cnt, T, rfl, rfl, rfl, hrow, htk, hrd, hn, hel, HFa, HFl, HFs, HRn, hc0, hst, hTT, hps, htf⟩ := trip_pack w s0 s1 j0 j1 m0 m1 g0 g1 o0 o1 x00 x01 hDM htl hts hrl hM hT hR r0 r1 HF HFE
  clear HF HFE hDM htl hts hrl hM hT hR hb0
  obtain ⟨bt, ot, htA⟩ := htk.out.at
  have hta := htA.1
  have wr1 : IntKind.i64.wrap (x0 - v0) = x0 - v0 := wrapS (by omega) (by omega)
  have wr2 : IntKind.i64.wrap (x0 + v1) = x0 + v1 := wrapS (by omega) (by omega)
  have hC : tr0 w s j m g o w1.heap.size ad N f a bt ot n tf tc ar rd a1 len1 u (w1.alloc (.cells #[.int .i64 s, .int .i64 j, .int .i64 m, .int .i64 g, .int .i64 o] 24)) :=
    ⟨by go_simp, by go_simp, by go_simp, by go_simp, by go_simp, hrow.out.on (nbAlloc (Below.refl _ _) _), htA.2.on (nbAlloc (Below.refl _ _) _), hrd.out.on (nbAlloc (Below.refl _ _) _), HU.out.on (nbAlloc hB1 _), nbAlloc hB1 _⟩
  clear hrow htk hrd hB1 htA
  refine ⟨?_⟩
  have tks : ∀ w, Row2 w bt ot n tf tc → SRow w at2 n tf tc := fun w h => by
    by_cases hz : n = 0
    · exact .inl hz
    · exact .inr ⟨bt, ot, hta (by omega), h⟩
  have TKS : Hid (∀ w, Row2 w bt ot n tf tc → SRow w at2 n tf tc) := tks
  clear tks
  have c0 : (w1.alloc (.cells #[.int .i64 s, .int .i64 j, .int .i64 m, .int .i64 g, .int .i64 o] 24)).cell? ⟨w1.heap.size, 0, none⟩ = some (.int .i64 s) := hC.1
  have c1 : (w1.alloc (.cells #[.int .i64 s, .int .i64 j, .int .i64 m, .int .i64 g, .int .i64 o] 24)).cell? ⟨w1.heap.size, 1, none⟩ = some (.int .i64 j) := hC.2.1
  have c2 : (w1.alloc (.cells #[.int .i64 s, .int .i64 j, .int .i64 m, .int .i64 g, .int .i64 o] 24)).cell? ⟨w1.heap.size, 2, none⟩ = some (.int .i64 m) := hC.2.2.1
  have c3 : (w1.alloc (.cells #[.int .i64 s, .int .i64 j, .int .i64 m, .int .i64 g, .int .i64 o] 24)).cell? ⟨w1.heap.size, 3, none⟩ = some (.int .i64 g) := hC.2.2.2.1
  have c4 : (w1.alloc (.cells #[.int .i64 s, .int .i64 j, .int .i64 m, .int .i64 g, .int .i64 o] 24)).cell? ⟨w1.heap.size, 4, none⟩ = some (.int .i64 o) := hC.2.2.2.2.1
  go_wp2_with fail
  clear c0 c1 c2 c3 c4
  generalize w1.alloc (.cells #[.int .i64 s, .int .i64 j, .int .i64 m, .int .i64 g, .int .i64 o] 24) = w2 at *
  generalize w1.heap.size = p5 at *
  refine (HFa.out _ hC.2.2.2.2.2.2.2.2.2 (TKS.out _ hC.2.2.2.2.2.2.1)).mono ?_
  rintro e w3 ⟨rfl, hb3⟩
  have hC3 := tr0_on hC hb3
  clear hC hb3
  go_wp2_with fail
  refine (wByteV_c a1 len1 cap1 u 0 _ hC3.2.2.2.2.2.2.2.2.1 hl1 (by omega) (by omega)).mono ?_
  rintro e w' ⟨rfl, hw'⟩
  subst hw'
  rw [hv0.out]
  go_wp2_with fail
  refine (wByteV_c a1 len1 cap1 u 1 _ hC3.2.2.2.2.2.2.2.2.1 hl1 (by omega) (by omega)).mono ?_
  rintro e w' ⟨rfl, hw'⟩
  subst hw'
  rw [hv1.out]
  have hC4 := tr0_on hC3 (nbAlloc (Below.refl w3.heap.size w3) (.cells #[.int .i64 (x0 - v0), .int .i64 (x0 + v1)] 27))
  have c0 : (w3.alloc (.cells #[.int .i64 (x0 - v0), .int .i64 (x0 + v1)] 27)).cell? ⟨p5, 0, none⟩ = some (.int .i64 s) := hC4.1
  have c1 : (w3.alloc (.cells #[.int .i64 (x0 - v0), .int .i64 (x0 + v1)] 27)).cell? ⟨p5, 1, none⟩ = some (.int .i64 j) := hC4.2.1
  have c2 : (w3.alloc (.cells #[.int .i64 (x0 - v0), .int .i64 (x0 + v1)] 27)).cell? ⟨p5, 2, none⟩ = some (.int .i64 m) := hC4.2.2.1
  have c3 : (w3.alloc (.cells #[.int .i64 (x0 - v0), .int .i64 (x0 + v1)] 27)).cell? ⟨p5, 3, none⟩ = some (.int .i64 g) := hC4.2.2.2.1
  have c4 : (w3.alloc (.cells #[.int .i64 (x0 - v0), .int .i64 (x0 + v1)] 27)).cell? ⟨p5, 4, none⟩ = some (.int .i64 o) := hC4.2.2.2.2.1
  have b0_ : (w3.alloc (.cells #[.int .i64 (x0 - v0), .int .i64 (x0 + v1)] 27)).cell? ⟨w3.heap.size, 0, none⟩ = some (.int .i64 (x0 - v0)) := by go_simp
  have b1_ : (w3.alloc (.cells #[.int .i64 (x0 - v0), .int .i64 (x0 + v1)] 27)).cell? ⟨w3.heap.size, 1, none⟩ = some (.int .i64 (x0 + v1)) := by go_simp
  go_wp2_with fail
  clear c0 c1 c2 c3 c4 hC3
  generalize w3.alloc (.cells #[.int .i64 (x0 - v0), .int .i64 (x0 + v1)] 27) = w4 at *
  generalize w3.heap.size = p10 at *
  refine (HFl.out _ hC4.2.2.2.2.2.2.2.2.2 hC4.2.2.2.2.2.1 (TKS.out _ hC4.2.2.2.2.2.2.1) hC4.2.2.2.2.2.2.2.1).mono ?_
  rintro e w5 ⟨lv, rfl, hlv, hb5⟩
  have hC5 := tr0_on hC4 hb5
  have b0 := cellOn hb5 b0_
  have b1 := cellOn hb5 b1_
  refine Later.now ?_
  obtain ⟨ae, ec, rfl, hev⟩ := hlv.srow
  obtain ⟨be, oe, heA⟩ := hev.at
  have hea := heA.1
  have EVS : Hid (∀ w, Row2 w be oe el fe ge → SRow w ae el fe ge) := fun w h => by
    by_cases hz : el = 0
    · exact .inl hz
    · exact .inr ⟨be, oe, hea (by omega), h⟩
  have hE5 := heA.2
  clear hC4 hb5 hlv b0_ b1_ heA hev
  refine ⟨?_⟩
  have c0 : w5.cell? ⟨p5, 0, none⟩ = some (.int .i64 s) := hC5.1
  have c1 : w5.cell? ⟨p5, 1, none⟩ = some (.int .i64 j) := hC5.2.1
  have c2 : w5.cell? ⟨p5, 2, none⟩ = some (.int .i64 m) := hC5.2.2.1
  have c3 : w5.cell? ⟨p5, 3, none⟩ = some (.int .i64 g) := hC5.2.2.2.1
  have c4 : w5.cell? ⟨p5, 4, none⟩ = some (.int .i64 o) := hC5.2.2.2.2.1
  go_wp2_with fail
  refine (HRn.out ae ec _ hC5.2.2.2.2.2.1 (EVS.out _ hE5)).mono ?_
  rintro e w6 ⟨gv, rfl, hgv, hb6⟩
  have hC6 := tr0_on hC5 hb6
  have hE6 := hE5.on hb6
  refine Later.now ?_
  obtain ⟨qs, ag, gc, rfl, hga, hG6⟩ := hgv.at6
  clear hC5 hE5 hb6 hgv b0 b1 c0 c1 c2 c3 c4
  refine ⟨?_⟩
  have c0 : w6.cell? ⟨p5, 0, none⟩ = some (.int .i64 s) := hC6.1
  have c1 : w6.cell? ⟨p5, 1, none⟩ = some (.int .i64 j) := hC6.2.1
  have c2 : w6.cell? ⟨p5, 2, none⟩ = some (.int .i64 m) := hC6.2.2.1
  have c3 : w6.cell? ⟨p5, 3, none⟩ = some (.int .i64 g) := hC6.2.2.2.1
  have c4 : w6.cell? ⟨p5, 4, none⟩ = some (.int .i64 o) := hC6.2.2.2.2.1
  go_wp2_with fail
  refine (HFs.out _ hC6.2.2.2.2.2.1 (TKS.out _ hC6.2.2.2.2.2.2.1) hC6.2.2.2.2.2.2.2.1).mono ?_
  rintro e w7 ⟨sv, rfl, hsv, hb7⟩
  have hC7 := tr0_on hC6 hb7
  have hE7 := hE6.on hb7
  have hG7 := hG6.on hb7
  refine Later.now ?_
  obtain ⟨ae2, ec2, rfl, hev2⟩ := hsv.srow
  clear hC6 hE6 hG6 hb7 hsv c0 c1 c2 c3 c4
  refine ⟨?_⟩
  go_wp2_with fail
  refine (wEvents_c ae ae2 el ec ec2 fe ge _ (by omega) (EVS.out _ hE7) hev2).mono ?_
  rintro e w8 ⟨rfl, hb8⟩
  have hC8 := tr0_on hC7 hb8
  have hC : trC w s j m g o p5 bt ot n tf tc be oe el fe ge qs T a1 len1 u w8 := ⟨hC8.1, hC8.2.1, hC8.2.2.1, hC8.2.2.2.1, hC8.2.2.2.2.1, hC8.2.2.2.2.2.2.1, hE7.on hb8, hG7.on hb8, hC8.2.2.2.2.2.2.2.2.1, hC8.2.2.2.2.2.2.2.2.2⟩
  clear hC7 hC8 hE7 hG7 hb8 hev2 HFa HFl HFs HRn TKS EVS
  go_wp2_with fail
  obtain ⟨L, hL⟩ : ∃ L, g - o + v2 % (2 * o + 1) = L := ⟨_, rfl⟩
  have hLb : g - o ≤ L ∧ L ≤ g + o := by
    have h1 := Int.emod_nonneg v2 (show (2 * o + 1 : Int) ≠ 0 by omega)
    have h2 := Int.emod_lt_of_pos v2 (show (0 : Int) < 2 * o + 1 by omega)
    omega
  have wq1 : IntKind.i64.wrap (g - o) = g - o := wrapS (by omega) (by omega)
  have wq2 : IntKind.i64.wrap (2 * o) = 2 * o := wrapS (by omega) (by omega)
  have wq3 : IntKind.i64.wrap (2 * o + 1) = 2 * o + 1 := wrapS (by omega) (by omega)
  have wq4 : IntKind.i64.wrap (g - o + v2 % (2 * o + 1)) = L := by rw [hL]; exact wrapS (by omega) (by omega)
  have hz2 : ((2 * o + 1 : Int) == 0) = false := by simp; omega
  have hrem : (v2.tmod (2 * o + 1)) = v2 % (2 * o + 1) := Int.tmod_eq_emod_of_nonneg r2.1
  have h2o : (0 : Int) ≤ 2 * o + 1 := by omega
  have HLL : Hid (g - o + v2 % (2 * o + 1) = L) := hL
  have HQ2 : Hid (∀ w, BytesV w a1 len1 u → Calls Tryd.prog 15 #[.slice a1 len1 cap1, .int .i64 2] w fun e w' => e = .returned (.int .i64 v2) ∧ Below w.heap.size w w') := fun w hb => by
    have := wByteQ_c a1 len1 cap1 u 2 w hb hl1 (by omega) (by omega)
    rwa [hv2.out] at this
  clear hL
  refine region_kept (trC w s j m g o p5 bt ot n tf tc be oe el fe ge qs T a1 len1 u) (by kernel_rfl) (by kernel_rfl) (trC_on hC (Below.drew (Below.refl _ _))) ?_
  intro hN_
  have k0 : ∀ d : Kept (trC w s j m g o p5 bt ot n tf tc be oe el fe ge qs T a1 len1 u), d.w.cell? ⟨p5, 0, none⟩ = some (.int .i64 s) := fun d => d.h.1
  have k1 : ∀ d : Kept (trC w s j m g o p5 bt ot n tf tc be oe el fe ge qs T a1 len1 u), d.w.cell? ⟨p5, 1, none⟩ = some (.int .i64 j) := fun d => d.h.2.1
  have k2 : ∀ d : Kept (trC w s j m g o p5 bt ot n tf tc be oe el fe ge qs T a1 len1 u), d.w.cell? ⟨p5, 2, none⟩ = some (.int .i64 m) := fun d => d.h.2.2.1
  have k3 : ∀ d : Kept (trC w s j m g o p5 bt ot n tf tc be oe el fe ge qs T a1 len1 u), d.w.cell? ⟨p5, 3, none⟩ = some (.int .i64 g) := fun d => d.h.2.2.2.1
  have k4 : ∀ d : Kept (trC w s j m g o p5 bt ot n tf tc be oe el fe ge qs T a1 len1 u), d.w.cell? ⟨p5, 4, none⟩ = some (.int .i64 o) := fun d => d.h.2.2.2.2.1
  have kU : ∀ d : Kept (trC w s j m g o p5 bt ot n tf tc be oe el fe ge qs T a1 len1 u), BytesV d.w a1 len1 u := fun d => d.h.2.2.2.2.2.2.2.2.1
  repeat (go_big_quiet_step (first | (go_at_call 15; exact call_kept _ trC_on (HQ2.out _ (kU _))) | exact rfl))
  refine wpQuiet_nil ?_
  rintro w9 ⟨d, hd2⟩
  have hC9 := d.h
  rw [← hd2] at hC9
  clear hd2 k0 k1 k2 k3 k4 kU hC
  have hC := hC9
  clear hC9 wq1 wq2 wq3 wq4 hz2 hrem h2o HQ2 hv0 hv1 hv2 wr1 wr2
  by_cases hL1 : L < 1
  · have hLLb : g - o ≤ 1 ∧ 1 ≤ g + o := by omega
    clear HLL
    go_wp2_with fail
    go_loopw [13, 14, 97] (fun xv kv iv wr => ∃ i : Nat, iv = .int .i64 i ∧ xv = .int .i64 (pos x0 tf (cnt i)) ∧ kv = .int .i64 (cnt i) ∧ i ≤ el ∧ trC w s j m g o p5 bt ot n tf tc be oe el fe ge qs T a1 len1 u wr) (fun _ _ iv _ => el - (intOf iv).toNat)
    case atStart => exact ⟨0, rfl, by rw [hc0.out]; rfl, by rw [hc0.out]; rfl, by omega, hC⟩
    case round =>
      clear hC
      obtain ⟨i, rfl, rfl, rfl, hi, hC⟩ := hrel
      by_cases hlt : i < el
      · have i0_ : (0 : Int) ≤ (i : Int) := by omega
        have i1_ : (i : Int) < (el : Int) := by omega
        have ee := hea (by omega)
        subst ee
        have eg := hga (by omega)
        subst eg
        have d0 := cellOn (Below.refl wr.heap.size wr) ((hC.2.2.2.2.2.2.1) i hlt).1
        have d1 := cellOn (Below.refl wr.heap.size wr) ((hC.2.2.2.2.2.2.1) i hlt).2
        refine Later.now ?_
        obtain ⟨⟨kn, tl, th, tsi, tla, tod⟩, eT⟩ : ∃ t, Hid (t = T i) := ⟨_, rfl⟩
        obtain ⟨hts, hcn1, hbd⟩ := hTT.out i hlt
        rw [← eT.out] at hts hbd
        obtain ⟨t1, t2, t3, t4⟩ := hts
        simp only at t1 t2 t3 t4 hbd
        subst t1 t2
        obtain ⟨X, HX⟩ : ∃ X, Hid (X = pos x0 tf (cnt (i + 1))) := ⟨_, rfl⟩
        have hXb := hps.out _ hcn1
        rw [← HX.out] at t3 t4 hXb
        have hq3 : q3 s j m g o true tl th = true := by
          simp [q3, rOk, bOk, inB]
          omega
        have e1 : holdsA s j m g o true tl th = (tl - g - o, th) := holds_some hq3
        obtain ⟨lo, hlo⟩ : ∃ lo, Hid (lo = if g < o then th else th - g + o) := ⟨_, rfl⟩
        have hXL : ¬ lo < X - 1 := by
          rw [hlo.out]
          split <;> omega
        have wl : IntKind.i64.wrap (X - 1) = X - 1 := wrapS (by omega) (by omega)
        have k1_ : ¬ X < tl := by omega
        have k2_ : ¬ th < X := by omega
        have k3_ : ¬ X - 1 < tl - g - o := by omega
        rcases hst.out i hlt with ⟨hf1, hc1, hcn⟩ | ⟨hf1, hc1⟩
        · have hXX : pos x0 tf (cnt i) + tf (cnt i) = X := by rw [HX.out, hc1]; rfl
          have HC : Hid (cnt (i + 1) = cnt i + 1) := hc1
          have hpb := hps.out (cnt i) (by omega)
          have htb := htf.out (cnt i) hcn
          clear hc1 hcn1
          rw [hf1] at d0
          refine ⟨?_⟩
          as_aux_lemma =>
            have hC1 := trC_on hC (nbAlloc (Below.refl wr.heap.size wr) (.cells #[.int .i64 1, .int .i64 (ge i)] 48))
            have hs0 := (hC1.2.2.2.2.2.2.2.1) i hlt
            rw [← eT.out] at hs0
            have s0 : (wr.alloc (.cells #[.int .i64 1, .int .i64 (ge i)] 48)).cell? ⟨qs, i * 6, none⟩ = some (.bool true) := hs0.1
            have s1_ : (wr.alloc (.cells #[.int .i64 1, .int .i64 (ge i)] 48)).cell? ⟨qs, i * 6 + 1, none⟩ = some (.int .i64 tl) := hs0.2.1
            have s2 : (wr.alloc (.cells #[.int .i64 1, .int .i64 (ge i)] 48)).cell? ⟨qs, i * 6 + 2, none⟩ = some (.int .i64 th) := hs0.2.2.1
            have s3 : (wr.alloc (.cells #[.int .i64 1, .int .i64 (ge i)] 48)).cell? ⟨qs, i * 6 + 3, none⟩ = some (.int .i64 tsi) := hs0.2.2.2.1
            have s4 : (wr.alloc (.cells #[.int .i64 1, .int .i64 (ge i)] 48)).cell? ⟨qs, i * 6 + 4, none⟩ = some (.int .i64 tla) := hs0.2.2.2.2.1
            have s5 : (wr.alloc (.cells #[.int .i64 1, .int .i64 (ge i)] 48)).cell? ⟨qs, i * 6 + 5, none⟩ = some (.int .i64 0) := hs0.2.2.2.2.2
            have hC2 := trC_on hC1 (nbAlloc (Below.refl (wr.alloc (.cells #[.int .i64 1, .int .i64 (ge i)] 48)).heap.size (wr.alloc (.cells #[.int .i64 1, .int .i64 (ge i)] 48))) (.cells #[.bool true, .int .i64 tl, .int .i64 th, .int .i64 tsi, .int .i64 tla, .int .i64 0] 37))
            have hS : trS w s j m g o p5 bt ot n tf tc be oe el fe ge qs T a1 len1 u (wr.heap.size + 1) tl th tsi tla ((wr.alloc (.cells #[.int .i64 1, .int .i64 (ge i)] 48)).alloc (.cells #[.bool true, .int .i64 tl, .int .i64 th, .int .i64 tsi, .int .i64 tla, .int .i64 0] 37)) := ⟨hC2.1, hC2.2.1, hC2.2.2.1, hC2.2.2.2.1, hC2.2.2.2.2.1, by go_simp, by go_simp, by go_simp, by go_simp, by go_simp, by go_simp, hC2.2.2.2.2.2.1, hC2.2.2.2.2.2.2.1, hC2.2.2.2.2.2.2.2.1, hC2.2.2.2.2.2.2.2.2.1, hC2.2.2.2.2.2.2.2.2.2⟩
            have d2 := cellOn (nbAlloc (Below.refl wr.heap.size wr) (.cells #[.int .i64 1, .int .i64 (ge i)] 48)) ((hC.2.2.2.2.2.1) (cnt i) hcn).1
            have hcN : (0 : Int) ≤ (cnt i : Int) := by omega
            have hcM : (cnt i : Int) < (n : Int) := by omega
            have wx : IntKind.i64.wrap (pos x0 tf (cnt i) + tf (cnt i)) = X := by rw [hXX]; exact wrapS (by omega) (by omega)
            have et := hta (by omega)
            subst et
            have c0 : ((wr.alloc (.cells #[.int .i64 1, .int .i64 (ge i)] 48)).alloc (.cells #[.bool true, .int .i64 tl, .int .i64 th, .int .i64 tsi, .int .i64 tla, .int .i64 0] 37)).cell? ⟨p5, 0, none⟩ = some (.int .i64 s) := hS.1
            have c1 : ((wr.alloc (.cells #[.int .i64 1, .int .i64 (ge i)] 48)).alloc (.cells #[.bool true, .int .i64 tl, .int .i64 th, .int .i64 tsi, .int .i64 tla, .int .i64 0] 37)).cell? ⟨p5, 1, none⟩ = some (.int .i64 j) := hS.2.1
            have c2 : ((wr.alloc (.cells #[.int .i64 1, .int .i64 (ge i)] 48)).alloc (.cells #[.bool true, .int .i64 tl, .int .i64 th, .int .i64 tsi, .int .i64 tla, .int .i64 0] 37)).cell? ⟨p5, 2, none⟩ = some (.int .i64 m) := hS.2.2.1
            have c3 : ((wr.alloc (.cells #[.int .i64 1, .int .i64 (ge i)] 48)).alloc (.cells #[.bool true, .int .i64 tl, .int .i64 th, .int .i64 tsi, .int .i64 tla, .int .i64 0] 37)).cell? ⟨p5, 3, none⟩ = some (.int .i64 g) := hS.2.2.2.1
            have c4 : ((wr.alloc (.cells #[.int .i64 1, .int .i64 (ge i)] 48)).alloc (.cells #[.bool true, .int .i64 tl, .int .i64 th, .int .i64 tsi, .int .i64 tla, .int .i64 0] 37)).cell? ⟨p5, 4, none⟩ = some (.int .i64 o) := hS.2.2.2.2.1
            have c5 : ((wr.alloc (.cells #[.int .i64 1, .int .i64 (ge i)] 48)).alloc (.cells #[.bool true, .int .i64 tl, .int .i64 th, .int .i64 tsi, .int .i64 tla, .int .i64 0] 37)).cell? ⟨wr.heap.size + 1, 0, none⟩ = some (.bool true) := hS.2.2.2.2.2.1
            have c6 : ((wr.alloc (.cells #[.int .i64 1, .int .i64 (ge i)] 48)).alloc (.cells #[.bool true, .int .i64 tl, .int .i64 th, .int .i64 tsi, .int .i64 tla, .int .i64 0] 37)).cell? ⟨wr.heap.size + 1, 1, none⟩ = some (.int .i64 tl) := hS.2.2.2.2.2.2.1
            have c7 : ((wr.alloc (.cells #[.int .i64 1, .int .i64 (ge i)] 48)).alloc (.cells #[.bool true, .int .i64 tl, .int .i64 th, .int .i64 tsi, .int .i64 tla, .int .i64 0] 37)).cell? ⟨wr.heap.size + 1, 2, none⟩ = some (.int .i64 th) := hS.2.2.2.2.2.2.2.1
            have c8 : ((wr.alloc (.cells #[.int .i64 1, .int .i64 (ge i)] 48)).alloc (.cells #[.bool true, .int .i64 tl, .int .i64 th, .int .i64 tsi, .int .i64 tla, .int .i64 0] 37)).cell? ⟨wr.heap.size + 1, 3, none⟩ = some (.int .i64 tsi) := hS.2.2.2.2.2.2.2.2.1
            have c9 : ((wr.alloc (.cells #[.int .i64 1, .int .i64 (ge i)] 48)).alloc (.cells #[.bool true, .int .i64 tl, .int .i64 th, .int .i64 tsi, .int .i64 tla, .int .i64 0] 37)).cell? ⟨wr.heap.size + 1, 4, none⟩ = some (.int .i64 tla) := hS.2.2.2.2.2.2.2.2.2.1
            have c10 : ((wr.alloc (.cells #[.int .i64 1, .int .i64 (ge i)] 48)).alloc (.cells #[.bool true, .int .i64 tl, .int .i64 th, .int .i64 tsi, .int .i64 tla, .int .i64 0] 37)).cell? ⟨wr.heap.size + 1, 5, none⟩ = some (.int .i64 0) := hS.2.2.2.2.2.2.2.2.2.2.1
            go_wp2_with fail
            clear c0 c1 c2 c3 c4 c5 c6 c7 c8 c9 c10
            clear s0 s1_ s2 s3 s4 s5 d0 d1 d2 hs0 hC hC1 hC2
            generalize ((wr.alloc (.cells #[.int .i64 1, .int .i64 (ge i)] 48)).alloc (.cells #[.bool true, .int .i64 tl, .int .i64 th, .int .i64 tsi, .int .i64 tla, .int .i64 0] 37)) = w3 at *
            generalize wr.heap.size + 1 = p18 at *
            refine (implHolds_c _ _ _ _ _ _ _ _ _ _ _ _).mono ?_
            rintro e w5 ⟨rfl, hb5⟩
            simp only [e1]
            have hS5 := trS_on (trS_on hS hb5) (nbAlloc (Below.refl w5.heap.size w5) (.cells #[.int .i64 (tl - g - o), .int .i64 th] 27))
            clear hS hb5
            have g0_ : (w5.alloc (.cells #[.int .i64 (tl - g - o), .int .i64 th] 27)).cell? ⟨w5.heap.size, 0, none⟩ = some (.int .i64 (tl - g - o)) := by go_simp
            have g1_ : (w5.alloc (.cells #[.int .i64 (tl - g - o), .int .i64 th] 27)).cell? ⟨w5.heap.size, 1, none⟩ = some (.int .i64 th) := by go_simp
            go_wp2_with fail
            clear g0_ g1_
            generalize w5.alloc (.cells #[.int .i64 (tl - g - o), .int .i64 th] 27) = w6 at *
            generalize w5.heap.size = p19 at *
            refine (wByteV_c a1 len1 cap1 u (i : Int) _ hS5.2.2.2.2.2.2.2.2.2.2.2.2.2.2.1 hl1 (by omega) (by omega)).mono ?_
            rintro e w' ⟨rfl, hw'⟩
            subst hw'
            have rv := bv_range HU.out (i : Int)
            generalize bv len1 u (i : Int) = vv at *
            obtain ⟨Pp, hPp⟩ : ∃ Pp, X + vv - 128 = Pp := ⟨_, rfl⟩
            have hin : inB Pp (-100000000) 100000000 = true := by simp [inB]; omega
            have wa1 : IntKind.i64.wrap (X + vv) = X + vv := wrapS (by omega) (by omega)
            have wa2 : IntKind.i64.wrap (X + vv - 128) = Pp := by rw [← hPp]; exact wrapS (by omega) (by omega)
            have HPp : Hid (X + vv - 128 = Pp) := hPp
            have hS6 := hS5
            clear hS5 hPp
            have c0 : w6.cell? ⟨p5, 0, none⟩ = some (.int .i64 s) := hS6.1
            have c1 : w6.cell? ⟨p5, 1, none⟩ = some (.int .i64 j) := hS6.2.1
            have c2 : w6.cell? ⟨p5, 2, none⟩ = some (.int .i64 m) := hS6.2.2.1
            have c3 : w6.cell? ⟨p5, 3, none⟩ = some (.int .i64 g) := hS6.2.2.2.1
            have c4 : w6.cell? ⟨p5, 4, none⟩ = some (.int .i64 o) := hS6.2.2.2.2.1
            have c5 : w6.cell? ⟨p18, 0, none⟩ = some (.bool true) := hS6.2.2.2.2.2.1
            have c6 : w6.cell? ⟨p18, 1, none⟩ = some (.int .i64 tl) := hS6.2.2.2.2.2.2.1
            have c7 : w6.cell? ⟨p18, 2, none⟩ = some (.int .i64 th) := hS6.2.2.2.2.2.2.2.1
            have c8 : w6.cell? ⟨p18, 3, none⟩ = some (.int .i64 tsi) := hS6.2.2.2.2.2.2.2.2.1
            have c9 : w6.cell? ⟨p18, 4, none⟩ = some (.int .i64 tla) := hS6.2.2.2.2.2.2.2.2.2.1
            have c10 : w6.cell? ⟨p18, 5, none⟩ = some (.int .i64 0) := hS6.2.2.2.2.2.2.2.2.2.2.1
            go_wp2_with fail
            clear wa1 wa2 rv
            by_cases hp1 : th < Pp
            · have hx1 : ¬ Pp ≤ X := by omega
              as_aux_lemma =>
                have e2 : pastA s j m g o true tl th Pp = -1 := by
                  simp only [pastA, hq3, hin, Bool.and_self, if_true]
                  rw [if_pos hp1]
                refine (implPast_c _ _ _ _ _ _ _ _ _ _ _ _ _).mono ?_
                rintro e w7 ⟨rfl, hb7⟩
                simp only [e2]
                have hS7 := trS_on hS6 hb7
                clear hS6 hb7 e2
                clear c0 c1 c2 c3 c4 c5 c6 c7 c8 c9 c10
                have c0 : w7.cell? ⟨p5, 0, none⟩ = some (.int .i64 s) := hS7.1
                have c1 : w7.cell? ⟨p5, 1, none⟩ = some (.int .i64 j) := hS7.2.1
                have c2 : w7.cell? ⟨p5, 2, none⟩ = some (.int .i64 m) := hS7.2.2.1
                have c3 : w7.cell? ⟨p5, 3, none⟩ = some (.int .i64 g) := hS7.2.2.2.1
                have c4 : w7.cell? ⟨p5, 4, none⟩ = some (.int .i64 o) := hS7.2.2.2.2.1
                have c5 : w7.cell? ⟨p18, 0, none⟩ = some (.bool true) := hS7.2.2.2.2.2.1
                have c6 : w7.cell? ⟨p18, 1, none⟩ = some (.int .i64 tl) := hS7.2.2.2.2.2.2.1
                have c7 : w7.cell? ⟨p18, 2, none⟩ = some (.int .i64 th) := hS7.2.2.2.2.2.2.2.1
                have c8 : w7.cell? ⟨p18, 3, none⟩ = some (.int .i64 tsi) := hS7.2.2.2.2.2.2.2.2.1
                have c9 : w7.cell? ⟨p18, 4, none⟩ = some (.int .i64 tla) := hS7.2.2.2.2.2.2.2.2.2.1
                have c10 : w7.cell? ⟨p18, 5, none⟩ = some (.int .i64 0) := hS7.2.2.2.2.2.2.2.2.2.2.1
                go_wp2_with fail
                by_cases hly : tl < lo
                · as_aux_lemma =>
                    have e3 : surelyA s j m g o true tl th = (1, 0) := by
                      simp only [surelyA, hq3, if_true, ← hlo.out]
                      rw [if_pos hly]
                    refine (implSurely_c _ _ _ _ _ _ _ _ _ _ _ _).mono ?_
                    rintro e w8 ⟨rfl, hb8⟩
                    simp only [e3]
                    have hS8 := trS_on hS7 hb8
                    clear hS7 hb8 e3
                    have hS9 := trS_on hS8 (nbAlloc (Below.refl w8.heap.size w8) (.cells #[.int .i64 1, .int .i64 0] 27))
                    go_wp2_with fail
                    go_roundw
                    case rel => exact ⟨i + 1, by go_num, by rw [HX.out], by rw [HC.out]; go_num, by omega, ⟨hS9.1, hS9.2.1, hS9.2.2.1, hS9.2.2.2.1, hS9.2.2.2.2.1, hS9.2.2.2.2.2.2.2.2.2.2.2.1, hS9.2.2.2.2.2.2.2.2.2.2.2.2.1, hS9.2.2.2.2.2.2.2.2.2.2.2.2.2.1, hS9.2.2.2.2.2.2.2.2.2.2.2.2.2.2.1, hS9.2.2.2.2.2.2.2.2.2.2.2.2.2.2.2⟩⟩
                    case measure => simp [intOf]; omega
                · have hlz : lo ≤ tl := by omega
                  as_aux_lemma =>
                    have e3 : surelyA s j m g o true tl th = (lo, tl) := by
                      simp only [surelyA, hq3, if_true, ← hlo.out]
                      rw [if_neg hly]
                    refine (implSurely_c _ _ _ _ _ _ _ _ _ _ _ _).mono ?_
                    rintro e w8 ⟨rfl, hb8⟩
                    simp only [e3]
                    have hS8 := trS_on hS7 hb8
                    clear hS7 hb8 e3
                    have hS9 := trS_on hS8 (nbAlloc (Below.refl w8.heap.size w8) (.cells #[.int .i64 lo, .int .i64 tl] 27))
                    go_wp2_with fail
                    go_roundw
                    case rel => exact ⟨i + 1, by go_num, by rw [HX.out], by rw [HC.out]; go_num, by omega, ⟨hS9.1, hS9.2.1, hS9.2.2.1, hS9.2.2.2.1, hS9.2.2.2.2.1, hS9.2.2.2.2.2.2.2.2.2.2.2.1, hS9.2.2.2.2.2.2.2.2.2.2.2.2.1, hS9.2.2.2.2.2.2.2.2.2.2.2.2.2.1, hS9.2.2.2.2.2.2.2.2.2.2.2.2.2.2.1, hS9.2.2.2.2.2.2.2.2.2.2.2.2.2.2.2⟩⟩
                    case measure => simp [intOf]; omega
            by_cases hp2 : Pp < tl - g - o
            · have hx2 : ¬ X - 1 ≤ Pp := by omega
              as_aux_lemma =>
                have e2 : pastA s j m g o true tl th Pp = 1 := by
                  simp only [pastA, hq3, hin, Bool.and_self, if_true]
                  rw [if_neg (by omega), if_pos hp2]
                refine (implPast_c _ _ _ _ _ _ _ _ _ _ _ _ _).mono ?_
                rintro e w7 ⟨rfl, hb7⟩
                simp only [e2]
                have hS7 := trS_on hS6 hb7
                clear hS6 hb7 e2
                clear c0 c1 c2 c3 c4 c5 c6 c7 c8 c9 c10
                have c0 : w7.cell? ⟨p5, 0, none⟩ = some (.int .i64 s) := hS7.1
                have c1 : w7.cell? ⟨p5, 1, none⟩ = some (.int .i64 j) := hS7.2.1
                have c2 : w7.cell? ⟨p5, 2, none⟩ = some (.int .i64 m) := hS7.2.2.1
                have c3 : w7.cell? ⟨p5, 3, none⟩ = some (.int .i64 g) := hS7.2.2.2.1
                have c4 : w7.cell? ⟨p5, 4, none⟩ = some (.int .i64 o) := hS7.2.2.2.2.1
                have c5 : w7.cell? ⟨p18, 0, none⟩ = some (.bool true) := hS7.2.2.2.2.2.1
                have c6 : w7.cell? ⟨p18, 1, none⟩ = some (.int .i64 tl) := hS7.2.2.2.2.2.2.1
                have c7 : w7.cell? ⟨p18, 2, none⟩ = some (.int .i64 th) := hS7.2.2.2.2.2.2.2.1
                have c8 : w7.cell? ⟨p18, 3, none⟩ = some (.int .i64 tsi) := hS7.2.2.2.2.2.2.2.2.1
                have c9 : w7.cell? ⟨p18, 4, none⟩ = some (.int .i64 tla) := hS7.2.2.2.2.2.2.2.2.2.1
                have c10 : w7.cell? ⟨p18, 5, none⟩ = some (.int .i64 0) := hS7.2.2.2.2.2.2.2.2.2.2.1
                go_wp2_with fail
                by_cases hly : tl < lo
                · as_aux_lemma =>
                    have e3 : surelyA s j m g o true tl th = (1, 0) := by
                      simp only [surelyA, hq3, if_true, ← hlo.out]
                      rw [if_pos hly]
                    refine (implSurely_c _ _ _ _ _ _ _ _ _ _ _ _).mono ?_
                    rintro e w8 ⟨rfl, hb8⟩
                    simp only [e3]
                    have hS8 := trS_on hS7 hb8
                    clear hS7 hb8 e3
                    have hS9 := trS_on hS8 (nbAlloc (Below.refl w8.heap.size w8) (.cells #[.int .i64 1, .int .i64 0] 27))
                    go_wp2_with fail
                    go_roundw
                    case rel => exact ⟨i + 1, by go_num, by rw [HX.out], by rw [HC.out]; go_num, by omega, ⟨hS9.1, hS9.2.1, hS9.2.2.1, hS9.2.2.2.1, hS9.2.2.2.2.1, hS9.2.2.2.2.2.2.2.2.2.2.2.1, hS9.2.2.2.2.2.2.2.2.2.2.2.2.1, hS9.2.2.2.2.2.2.2.2.2.2.2.2.2.1, hS9.2.2.2.2.2.2.2.2.2.2.2.2.2.2.1, hS9.2.2.2.2.2.2.2.2.2.2.2.2.2.2.2⟩⟩
                    case measure => simp [intOf]; omega
                · have hlz : lo ≤ tl := by omega
                  as_aux_lemma =>
                    have e3 : surelyA s j m g o true tl th = (lo, tl) := by
                      simp only [surelyA, hq3, if_true, ← hlo.out]
                      rw [if_neg hly]
                    refine (implSurely_c _ _ _ _ _ _ _ _ _ _ _ _).mono ?_
                    rintro e w8 ⟨rfl, hb8⟩
                    simp only [e3]
                    have hS8 := trS_on hS7 hb8
                    clear hS7 hb8 e3
                    have hS9 := trS_on hS8 (nbAlloc (Below.refl w8.heap.size w8) (.cells #[.int .i64 lo, .int .i64 tl] 27))
                    go_wp2_with fail
                    go_roundw
                    case rel => exact ⟨i + 1, by go_num, by rw [HX.out], by rw [HC.out]; go_num, by omega, ⟨hS9.1, hS9.2.1, hS9.2.2.1, hS9.2.2.2.1, hS9.2.2.2.2.1, hS9.2.2.2.2.2.2.2.2.2.2.2.1, hS9.2.2.2.2.2.2.2.2.2.2.2.2.1, hS9.2.2.2.2.2.2.2.2.2.2.2.2.2.1, hS9.2.2.2.2.2.2.2.2.2.2.2.2.2.2.1, hS9.2.2.2.2.2.2.2.2.2.2.2.2.2.2.2⟩⟩
                    case measure => simp [intOf]; omega
            · as_aux_lemma =>
                have e2 : pastA s j m g o true tl th Pp = 0 := by
                  simp only [pastA, hq3, hin, Bool.and_self, if_true]
                  rw [if_neg (by omega), if_neg (by omega)]
                refine (implPast_c _ _ _ _ _ _ _ _ _ _ _ _ _).mono ?_
                rintro e w7 ⟨rfl, hb7⟩
                simp only [e2]
                have hS7 := trS_on hS6 hb7
                clear hS6 hb7 e2
                clear c0 c1 c2 c3 c4 c5 c6 c7 c8 c9 c10
                have c0 : w7.cell? ⟨p5, 0, none⟩ = some (.int .i64 s) := hS7.1
                have c1 : w7.cell? ⟨p5, 1, none⟩ = some (.int .i64 j) := hS7.2.1
                have c2 : w7.cell? ⟨p5, 2, none⟩ = some (.int .i64 m) := hS7.2.2.1
                have c3 : w7.cell? ⟨p5, 3, none⟩ = some (.int .i64 g) := hS7.2.2.2.1
                have c4 : w7.cell? ⟨p5, 4, none⟩ = some (.int .i64 o) := hS7.2.2.2.2.1
                have c5 : w7.cell? ⟨p18, 0, none⟩ = some (.bool true) := hS7.2.2.2.2.2.1
                have c6 : w7.cell? ⟨p18, 1, none⟩ = some (.int .i64 tl) := hS7.2.2.2.2.2.2.1
                have c7 : w7.cell? ⟨p18, 2, none⟩ = some (.int .i64 th) := hS7.2.2.2.2.2.2.2.1
                have c8 : w7.cell? ⟨p18, 3, none⟩ = some (.int .i64 tsi) := hS7.2.2.2.2.2.2.2.2.1
                have c9 : w7.cell? ⟨p18, 4, none⟩ = some (.int .i64 tla) := hS7.2.2.2.2.2.2.2.2.2.1
                have c10 : w7.cell? ⟨p18, 5, none⟩ = some (.int .i64 0) := hS7.2.2.2.2.2.2.2.2.2.2.1
                go_wp2_with fail
                by_cases hly : tl < lo
                · as_aux_lemma =>
                    have e3 : surelyA s j m g o true tl th = (1, 0) := by
                      simp only [surelyA, hq3, if_true, ← hlo.out]
                      rw [if_pos hly]
                    refine (implSurely_c _ _ _ _ _ _ _ _ _ _ _ _).mono ?_
                    rintro e w8 ⟨rfl, hb8⟩
                    simp only [e3]
                    have hS8 := trS_on hS7 hb8
                    clear hS7 hb8 e3
                    have hS9 := trS_on hS8 (nbAlloc (Below.refl w8.heap.size w8) (.cells #[.int .i64 1, .int .i64 0] 27))
                    go_wp2_with fail
                    go_roundw
                    case rel => exact ⟨i + 1, by go_num, by rw [HX.out], by rw [HC.out]; go_num, by omega, ⟨hS9.1, hS9.2.1, hS9.2.2.1, hS9.2.2.2.1, hS9.2.2.2.2.1, hS9.2.2.2.2.2.2.2.2.2.2.2.1, hS9.2.2.2.2.2.2.2.2.2.2.2.2.1, hS9.2.2.2.2.2.2.2.2.2.2.2.2.2.1, hS9.2.2.2.2.2.2.2.2.2.2.2.2.2.2.1, hS9.2.2.2.2.2.2.2.2.2.2.2.2.2.2.2⟩⟩
                    case measure => simp [intOf]; omega
                · have hlz : lo ≤ tl := by omega
                  as_aux_lemma =>
                    have e3 : surelyA s j m g o true tl th = (lo, tl) := by
                      simp only [surelyA, hq3, if_true, ← hlo.out]
                      rw [if_neg hly]
                    refine (implSurely_c _ _ _ _ _ _ _ _ _ _ _ _).mono ?_
                    rintro e w8 ⟨rfl, hb8⟩
                    simp only [e3]
                    have hS8 := trS_on hS7 hb8
                    clear hS7 hb8 e3
                    have hS9 := trS_on hS8 (nbAlloc (Below.refl w8.heap.size w8) (.cells #[.int .i64 lo, .int .i64 tl] 27))
                    go_wp2_with fail
                    go_roundw
                    case rel => exact ⟨i + 1, by go_num, by rw [HX.out], by rw [HC.out]; go_num, by omega, ⟨hS9.1, hS9.2.1, hS9.2.2.1, hS9.2.2.2.1, hS9.2.2.2.2.1, hS9.2.2.2.2.2.2.2.2.2.2.2.1, hS9.2.2.2.2.2.2.2.2.2.2.2.2.1, hS9.2.2.2.2.2.2.2.2.2.2.2.2.2.1, hS9.2.2.2.2.2.2.2.2.2.2.2.2.2.2.1, hS9.2.2.2.2.2.2.2.2.2.2.2.2.2.2.2⟩⟩
                    case measure => simp [intOf]; omega

        · have hXX : pos x0 tf (cnt i) = X := by rw [HX.out, hc1]
          have HC : Hid (cnt (i + 1) = cnt i) := hc1
          clear hc1 hcn1
          rw [hf1] at d0
          refine ⟨?_⟩
          simp only [hXX]
          as_aux_lemma =>
            have hC1 := trC_on hC (nbAlloc (Below.refl wr.heap.size wr) (.cells #[.int .i64 2, .int .i64 (ge i)] 48))
            have hs0 := (hC1.2.2.2.2.2.2.2.1) i hlt
            rw [← eT.out] at hs0
            have s0 : (wr.alloc (.cells #[.int .i64 2, .int .i64 (ge i)] 48)).cell? ⟨qs, i * 6, none⟩ = some (.bool true) := hs0.1
            have s1_ : (wr.alloc (.cells #[.int .i64 2, .int .i64 (ge i)] 48)).cell? ⟨qs, i * 6 + 1, none⟩ = some (.int .i64 tl) := hs0.2.1
            have s2 : (wr.alloc (.cells #[.int .i64 2, .int .i64 (ge i)] 48)).cell? ⟨qs, i * 6 + 2, none⟩ = some (.int .i64 th) := hs0.2.2.1
            have s3 : (wr.alloc (.cells #[.int .i64 2, .int .i64 (ge i)] 48)).cell? ⟨qs, i * 6 + 3, none⟩ = some (.int .i64 tsi) := hs0.2.2.2.1
            have s4 : (wr.alloc (.cells #[.int .i64 2, .int .i64 (ge i)] 48)).cell? ⟨qs, i * 6 + 4, none⟩ = some (.int .i64 tla) := hs0.2.2.2.2.1
            have s5 : (wr.alloc (.cells #[.int .i64 2, .int .i64 (ge i)] 48)).cell? ⟨qs, i * 6 + 5, none⟩ = some (.int .i64 0) := hs0.2.2.2.2.2
            have hC2 := trC_on hC1 (nbAlloc (Below.refl (wr.alloc (.cells #[.int .i64 2, .int .i64 (ge i)] 48)).heap.size (wr.alloc (.cells #[.int .i64 2, .int .i64 (ge i)] 48))) (.cells #[.bool true, .int .i64 tl, .int .i64 th, .int .i64 tsi, .int .i64 tla, .int .i64 0] 37))
            have hS : trS w s j m g o p5 bt ot n tf tc be oe el fe ge qs T a1 len1 u (wr.heap.size + 1) tl th tsi tla ((wr.alloc (.cells #[.int .i64 2, .int .i64 (ge i)] 48)).alloc (.cells #[.bool true, .int .i64 tl, .int .i64 th, .int .i64 tsi, .int .i64 tla, .int .i64 0] 37)) := ⟨hC2.1, hC2.2.1, hC2.2.2.1, hC2.2.2.2.1, hC2.2.2.2.2.1, by go_simp, by go_simp, by go_simp, by go_simp, by go_simp, by go_simp, hC2.2.2.2.2.2.1, hC2.2.2.2.2.2.2.1, hC2.2.2.2.2.2.2.2.1, hC2.2.2.2.2.2.2.2.2.1, hC2.2.2.2.2.2.2.2.2.2⟩
            have c0 : ((wr.alloc (.cells #[.int .i64 2, .int .i64 (ge i)] 48)).alloc (.cells #[.bool true, .int .i64 tl, .int .i64 th, .int .i64 tsi, .int .i64 tla, .int .i64 0] 37)).cell? ⟨p5, 0, none⟩ = some (.int .i64 s) := hS.1
            have c1 : ((wr.alloc (.cells #[.int .i64 2, .int .i64 (ge i)] 48)).alloc (.cells #[.bool true, .int .i64 tl, .int .i64 th, .int .i64 tsi, .int .i64 tla, .int .i64 0] 37)).cell? ⟨p5, 1, none⟩ = some (.int .i64 j) := hS.2.1
            have c2 : ((wr.alloc (.cells #[.int .i64 2, .int .i64 (ge i)] 48)).alloc (.cells #[.bool true, .int .i64 tl, .int .i64 th, .int .i64 tsi, .int .i64 tla, .int .i64 0] 37)).cell? ⟨p5, 2, none⟩ = some (.int .i64 m) := hS.2.2.1
            have c3 : ((wr.alloc (.cells #[.int .i64 2, .int .i64 (ge i)] 48)).alloc (.cells #[.bool true, .int .i64 tl, .int .i64 th, .int .i64 tsi, .int .i64 tla, .int .i64 0] 37)).cell? ⟨p5, 3, none⟩ = some (.int .i64 g) := hS.2.2.2.1
            have c4 : ((wr.alloc (.cells #[.int .i64 2, .int .i64 (ge i)] 48)).alloc (.cells #[.bool true, .int .i64 tl, .int .i64 th, .int .i64 tsi, .int .i64 tla, .int .i64 0] 37)).cell? ⟨p5, 4, none⟩ = some (.int .i64 o) := hS.2.2.2.2.1
            have c5 : ((wr.alloc (.cells #[.int .i64 2, .int .i64 (ge i)] 48)).alloc (.cells #[.bool true, .int .i64 tl, .int .i64 th, .int .i64 tsi, .int .i64 tla, .int .i64 0] 37)).cell? ⟨wr.heap.size + 1, 0, none⟩ = some (.bool true) := hS.2.2.2.2.2.1
            have c6 : ((wr.alloc (.cells #[.int .i64 2, .int .i64 (ge i)] 48)).alloc (.cells #[.bool true, .int .i64 tl, .int .i64 th, .int .i64 tsi, .int .i64 tla, .int .i64 0] 37)).cell? ⟨wr.heap.size + 1, 1, none⟩ = some (.int .i64 tl) := hS.2.2.2.2.2.2.1
            have c7 : ((wr.alloc (.cells #[.int .i64 2, .int .i64 (ge i)] 48)).alloc (.cells #[.bool true, .int .i64 tl, .int .i64 th, .int .i64 tsi, .int .i64 tla, .int .i64 0] 37)).cell? ⟨wr.heap.size + 1, 2, none⟩ = some (.int .i64 th) := hS.2.2.2.2.2.2.2.1
            have c8 : ((wr.alloc (.cells #[.int .i64 2, .int .i64 (ge i)] 48)).alloc (.cells #[.bool true, .int .i64 tl, .int .i64 th, .int .i64 tsi, .int .i64 tla, .int .i64 0] 37)).cell? ⟨wr.heap.size + 1, 3, none⟩ = some (.int .i64 tsi) := hS.2.2.2.2.2.2.2.2.1
            have c9 : ((wr.alloc (.cells #[.int .i64 2, .int .i64 (ge i)] 48)).alloc (.cells #[.bool true, .int .i64 tl, .int .i64 th, .int .i64 tsi, .int .i64 tla, .int .i64 0] 37)).cell? ⟨wr.heap.size + 1, 4, none⟩ = some (.int .i64 tla) := hS.2.2.2.2.2.2.2.2.2.1
            have c10 : ((wr.alloc (.cells #[.int .i64 2, .int .i64 (ge i)] 48)).alloc (.cells #[.bool true, .int .i64 tl, .int .i64 th, .int .i64 tsi, .int .i64 tla, .int .i64 0] 37)).cell? ⟨wr.heap.size + 1, 5, none⟩ = some (.int .i64 0) := hS.2.2.2.2.2.2.2.2.2.2.1
            go_wp2_with fail
            clear c0 c1 c2 c3 c4 c5 c6 c7 c8 c9 c10
            clear s0 s1_ s2 s3 s4 s5 d0 d1 hs0 hC hC1 hC2
            generalize ((wr.alloc (.cells #[.int .i64 2, .int .i64 (ge i)] 48)).alloc (.cells #[.bool true, .int .i64 tl, .int .i64 th, .int .i64 tsi, .int .i64 tla, .int .i64 0] 37)) = w3 at *
            generalize wr.heap.size + 1 = p18 at *
            refine (implHolds_c _ _ _ _ _ _ _ _ _ _ _ _).mono ?_
            rintro e w5 ⟨rfl, hb5⟩
            simp only [e1]
            have hS5 := trS_on (trS_on hS hb5) (nbAlloc (Below.refl w5.heap.size w5) (.cells #[.int .i64 (tl - g - o), .int .i64 th] 27))
            clear hS hb5
            have g0_ : (w5.alloc (.cells #[.int .i64 (tl - g - o), .int .i64 th] 27)).cell? ⟨w5.heap.size, 0, none⟩ = some (.int .i64 (tl - g - o)) := by go_simp
            have g1_ : (w5.alloc (.cells #[.int .i64 (tl - g - o), .int .i64 th] 27)).cell? ⟨w5.heap.size, 1, none⟩ = some (.int .i64 th) := by go_simp
            go_wp2_with fail
            clear g0_ g1_
            generalize w5.alloc (.cells #[.int .i64 (tl - g - o), .int .i64 th] 27) = w6 at *
            generalize w5.heap.size = p19 at *
            refine (wByteV_c a1 len1 cap1 u (i : Int) _ hS5.2.2.2.2.2.2.2.2.2.2.2.2.2.2.1 hl1 (by omega) (by omega)).mono ?_
            rintro e w' ⟨rfl, hw'⟩
            subst hw'
            have rv := bv_range HU.out (i : Int)
            generalize bv len1 u (i : Int) = vv at *
            obtain ⟨Pp, hPp⟩ : ∃ Pp, X + vv - 128 = Pp := ⟨_, rfl⟩
            have hin : inB Pp (-100000000) 100000000 = true := by simp [inB]; omega
            have wa1 : IntKind.i64.wrap (X + vv) = X + vv := wrapS (by omega) (by omega)
            have wa2 : IntKind.i64.wrap (X + vv - 128) = Pp := by rw [← hPp]; exact wrapS (by omega) (by omega)
            have HPp : Hid (X + vv - 128 = Pp) := hPp
            have hS6 := hS5
            clear hS5 hPp
            have c0 : w6.cell? ⟨p5, 0, none⟩ = some (.int .i64 s) := hS6.1
            have c1 : w6.cell? ⟨p5, 1, none⟩ = some (.int .i64 j) := hS6.2.1
            have c2 : w6.cell? ⟨p5, 2, none⟩ = some (.int .i64 m) := hS6.2.2.1
            have c3 : w6.cell? ⟨p5, 3, none⟩ = some (.int .i64 g) := hS6.2.2.2.1
            have c4 : w6.cell? ⟨p5, 4, none⟩ = some (.int .i64 o) := hS6.2.2.2.2.1
            have c5 : w6.cell? ⟨p18, 0, none⟩ = some (.bool true) := hS6.2.2.2.2.2.1
            have c6 : w6.cell? ⟨p18, 1, none⟩ = some (.int .i64 tl) := hS6.2.2.2.2.2.2.1
            have c7 : w6.cell? ⟨p18, 2, none⟩ = some (.int .i64 th) := hS6.2.2.2.2.2.2.2.1
            have c8 : w6.cell? ⟨p18, 3, none⟩ = some (.int .i64 tsi) := hS6.2.2.2.2.2.2.2.2.1
            have c9 : w6.cell? ⟨p18, 4, none⟩ = some (.int .i64 tla) := hS6.2.2.2.2.2.2.2.2.2.1
            have c10 : w6.cell? ⟨p18, 5, none⟩ = some (.int .i64 0) := hS6.2.2.2.2.2.2.2.2.2.2.1
            go_wp2_with fail
            clear wa1 wa2 rv
            by_cases hp1 : th < Pp
            · have hx1 : ¬ Pp ≤ X := by omega
              as_aux_lemma =>
                have e2 : pastA s j m g o true tl th Pp = -1 := by
                  simp only [pastA, hq3, hin, Bool.and_self, if_true]
                  rw [if_pos hp1]
                refine (implPast_c _ _ _ _ _ _ _ _ _ _ _ _ _).mono ?_
                rintro e w7 ⟨rfl, hb7⟩
                simp only [e2]
                have hS7 := trS_on hS6 hb7
                clear hS6 hb7 e2
                clear c0 c1 c2 c3 c4 c5 c6 c7 c8 c9 c10
                have c0 : w7.cell? ⟨p5, 0, none⟩ = some (.int .i64 s) := hS7.1
                have c1 : w7.cell? ⟨p5, 1, none⟩ = some (.int .i64 j) := hS7.2.1
                have c2 : w7.cell? ⟨p5, 2, none⟩ = some (.int .i64 m) := hS7.2.2.1
                have c3 : w7.cell? ⟨p5, 3, none⟩ = some (.int .i64 g) := hS7.2.2.2.1
                have c4 : w7.cell? ⟨p5, 4, none⟩ = some (.int .i64 o) := hS7.2.2.2.2.1
                have c5 : w7.cell? ⟨p18, 0, none⟩ = some (.bool true) := hS7.2.2.2.2.2.1
                have c6 : w7.cell? ⟨p18, 1, none⟩ = some (.int .i64 tl) := hS7.2.2.2.2.2.2.1
                have c7 : w7.cell? ⟨p18, 2, none⟩ = some (.int .i64 th) := hS7.2.2.2.2.2.2.2.1
                have c8 : w7.cell? ⟨p18, 3, none⟩ = some (.int .i64 tsi) := hS7.2.2.2.2.2.2.2.2.1
                have c9 : w7.cell? ⟨p18, 4, none⟩ = some (.int .i64 tla) := hS7.2.2.2.2.2.2.2.2.2.1
                have c10 : w7.cell? ⟨p18, 5, none⟩ = some (.int .i64 0) := hS7.2.2.2.2.2.2.2.2.2.2.1
                go_wp2_with fail
                by_cases hly : tl < lo
                · as_aux_lemma =>
                    have e3 : surelyA s j m g o true tl th = (1, 0) := by
                      simp only [surelyA, hq3, if_true, ← hlo.out]
                      rw [if_pos hly]
                    refine (implSurely_c _ _ _ _ _ _ _ _ _ _ _ _).mono ?_
                    rintro e w8 ⟨rfl, hb8⟩
                    simp only [e3]
                    have hS8 := trS_on hS7 hb8
                    clear hS7 hb8 e3
                    have hS9 := trS_on hS8 (nbAlloc (Below.refl w8.heap.size w8) (.cells #[.int .i64 1, .int .i64 0] 27))
                    go_wp2_with fail
                    go_roundw
                    case rel => exact ⟨i + 1, by go_num, by rw [HX.out], by rw [HC.out], by omega, ⟨hS9.1, hS9.2.1, hS9.2.2.1, hS9.2.2.2.1, hS9.2.2.2.2.1, hS9.2.2.2.2.2.2.2.2.2.2.2.1, hS9.2.2.2.2.2.2.2.2.2.2.2.2.1, hS9.2.2.2.2.2.2.2.2.2.2.2.2.2.1, hS9.2.2.2.2.2.2.2.2.2.2.2.2.2.2.1, hS9.2.2.2.2.2.2.2.2.2.2.2.2.2.2.2⟩⟩
                    case measure => simp [intOf]; omega
                · have hlz : lo ≤ tl := by omega
                  as_aux_lemma =>
                    have e3 : surelyA s j m g o true tl th = (lo, tl) := by
                      simp only [surelyA, hq3, if_true, ← hlo.out]
                      rw [if_neg hly]
                    refine (implSurely_c _ _ _ _ _ _ _ _ _ _ _ _).mono ?_
                    rintro e w8 ⟨rfl, hb8⟩
                    simp only [e3]
                    have hS8 := trS_on hS7 hb8
                    clear hS7 hb8 e3
                    have hS9 := trS_on hS8 (nbAlloc (Below.refl w8.heap.size w8) (.cells #[.int .i64 lo, .int .i64 tl] 27))
                    go_wp2_with fail
                    go_roundw
                    case rel => exact ⟨i + 1, by go_num, by rw [HX.out], by rw [HC.out], by omega, ⟨hS9.1, hS9.2.1, hS9.2.2.1, hS9.2.2.2.1, hS9.2.2.2.2.1, hS9.2.2.2.2.2.2.2.2.2.2.2.1, hS9.2.2.2.2.2.2.2.2.2.2.2.2.1, hS9.2.2.2.2.2.2.2.2.2.2.2.2.2.1, hS9.2.2.2.2.2.2.2.2.2.2.2.2.2.2.1, hS9.2.2.2.2.2.2.2.2.2.2.2.2.2.2.2⟩⟩
                    case measure => simp [intOf]; omega
            by_cases hp2 : Pp < tl - g - o
            · have hx2 : ¬ X - 1 ≤ Pp := by omega
              as_aux_lemma =>
                have e2 : pastA s j m g o true tl th Pp = 1 := by
                  simp only [pastA, hq3, hin, Bool.and_self, if_true]
                  rw [if_neg (by omega), if_pos hp2]
                refine (implPast_c _ _ _ _ _ _ _ _ _ _ _ _ _).mono ?_
                rintro e w7 ⟨rfl, hb7⟩
                simp only [e2]
                have hS7 := trS_on hS6 hb7
                clear hS6 hb7 e2
                clear c0 c1 c2 c3 c4 c5 c6 c7 c8 c9 c10
                have c0 : w7.cell? ⟨p5, 0, none⟩ = some (.int .i64 s) := hS7.1
                have c1 : w7.cell? ⟨p5, 1, none⟩ = some (.int .i64 j) := hS7.2.1
                have c2 : w7.cell? ⟨p5, 2, none⟩ = some (.int .i64 m) := hS7.2.2.1
                have c3 : w7.cell? ⟨p5, 3, none⟩ = some (.int .i64 g) := hS7.2.2.2.1
                have c4 : w7.cell? ⟨p5, 4, none⟩ = some (.int .i64 o) := hS7.2.2.2.2.1
                have c5 : w7.cell? ⟨p18, 0, none⟩ = some (.bool true) := hS7.2.2.2.2.2.1
                have c6 : w7.cell? ⟨p18, 1, none⟩ = some (.int .i64 tl) := hS7.2.2.2.2.2.2.1
                have c7 : w7.cell? ⟨p18, 2, none⟩ = some (.int .i64 th) := hS7.2.2.2.2.2.2.2.1
                have c8 : w7.cell? ⟨p18, 3, none⟩ = some (.int .i64 tsi) := hS7.2.2.2.2.2.2.2.2.1
                have c9 : w7.cell? ⟨p18, 4, none⟩ = some (.int .i64 tla) := hS7.2.2.2.2.2.2.2.2.2.1
                have c10 : w7.cell? ⟨p18, 5, none⟩ = some (.int .i64 0) := hS7.2.2.2.2.2.2.2.2.2.2.1
                go_wp2_with fail
                by_cases hly : tl < lo
                · as_aux_lemma =>
                    have e3 : surelyA s j m g o true tl th = (1, 0) := by
                      simp only [surelyA, hq3, if_true, ← hlo.out]
                      rw [if_pos hly]
                    refine (implSurely_c _ _ _ _ _ _ _ _ _ _ _ _).mono ?_
                    rintro e w8 ⟨rfl, hb8⟩
                    simp only [e3]
                    have hS8 := trS_on hS7 hb8
                    clear hS7 hb8 e3
                    have hS9 := trS_on hS8 (nbAlloc (Below.refl w8.heap.size w8) (.cells #[.int .i64 1, .int .i64 0] 27))
                    go_wp2_with fail
                    go_roundw
                    case rel => exact ⟨i + 1, by go_num, by rw [HX.out], by rw [HC.out], by omega, ⟨hS9.1, hS9.2.1, hS9.2.2.1, hS9.2.2.2.1, hS9.2.2.2.2.1, hS9.2.2.2.2.2.2.2.2.2.2.2.1, hS9.2.2.2.2.2.2.2.2.2.2.2.2.1, hS9.2.2.2.2.2.2.2.2.2.2.2.2.2.1, hS9.2.2.2.2.2.2.2.2.2.2.2.2.2.2.1, hS9.2.2.2.2.2.2.2.2.2.2.2.2.2.2.2⟩⟩
                    case measure => simp [intOf]; omega
                · have hlz : lo ≤ tl := by omega
                  as_aux_lemma =>
                    have e3 : surelyA s j m g o true tl th = (lo, tl) := by
                      simp only [surelyA, hq3, if_true, ← hlo.out]
                      rw [if_neg hly]
                    refine (implSurely_c _ _ _ _ _ _ _ _ _ _ _ _).mono ?_
                    rintro e w8 ⟨rfl, hb8⟩
                    simp only [e3]
                    have hS8 := trS_on hS7 hb8
                    clear hS7 hb8 e3
                    have hS9 := trS_on hS8 (nbAlloc (Below.refl w8.heap.size w8) (.cells #[.int .i64 lo, .int .i64 tl] 27))
                    go_wp2_with fail
                    go_roundw
                    case rel => exact ⟨i + 1, by go_num, by rw [HX.out], by rw [HC.out], by omega, ⟨hS9.1, hS9.2.1, hS9.2.2.1, hS9.2.2.2.1, hS9.2.2.2.2.1, hS9.2.2.2.2.2.2.2.2.2.2.2.1, hS9.2.2.2.2.2.2.2.2.2.2.2.2.1, hS9.2.2.2.2.2.2.2.2.2.2.2.2.2.1, hS9.2.2.2.2.2.2.2.2.2.2.2.2.2.2.1, hS9.2.2.2.2.2.2.2.2.2.2.2.2.2.2.2⟩⟩
                    case measure => simp [intOf]; omega
            · as_aux_lemma =>
                have e2 : pastA s j m g o true tl th Pp = 0 := by
                  simp only [pastA, hq3, hin, Bool.and_self, if_true]
                  rw [if_neg (by omega), if_neg (by omega)]
                refine (implPast_c _ _ _ _ _ _ _ _ _ _ _ _ _).mono ?_
                rintro e w7 ⟨rfl, hb7⟩
                simp only [e2]
                have hS7 := trS_on hS6 hb7
                clear hS6 hb7 e2
                clear c0 c1 c2 c3 c4 c5 c6 c7 c8 c9 c10
                have c0 : w7.cell? ⟨p5, 0, none⟩ = some (.int .i64 s) := hS7.1
                have c1 : w7.cell? ⟨p5, 1, none⟩ = some (.int .i64 j) := hS7.2.1
                have c2 : w7.cell? ⟨p5, 2, none⟩ = some (.int .i64 m) := hS7.2.2.1
                have c3 : w7.cell? ⟨p5, 3, none⟩ = some (.int .i64 g) := hS7.2.2.2.1
                have c4 : w7.cell? ⟨p5, 4, none⟩ = some (.int .i64 o) := hS7.2.2.2.2.1
                have c5 : w7.cell? ⟨p18, 0, none⟩ = some (.bool true) := hS7.2.2.2.2.2.1
                have c6 : w7.cell? ⟨p18, 1, none⟩ = some (.int .i64 tl) := hS7.2.2.2.2.2.2.1
                have c7 : w7.cell? ⟨p18, 2, none⟩ = some (.int .i64 th) := hS7.2.2.2.2.2.2.2.1
                have c8 : w7.cell? ⟨p18, 3, none⟩ = some (.int .i64 tsi) := hS7.2.2.2.2.2.2.2.2.1
                have c9 : w7.cell? ⟨p18, 4, none⟩ = some (.int .i64 tla) := hS7.2.2.2.2.2.2.2.2.2.1
                have c10 : w7.cell? ⟨p18, 5, none⟩ = some (.int .i64 0) := hS7.2.2.2.2.2.2.2.2.2.2.1
                go_wp2_with fail
                by_cases hly : tl < lo
                · as_aux_lemma =>
                    have e3 : surelyA s j m g o true tl th = (1, 0) := by
                      simp only [surelyA, hq3, if_true, ← hlo.out]
                      rw [if_pos hly]
                    refine (implSurely_c _ _ _ _ _ _ _ _ _ _ _ _).mono ?_
                    rintro e w8 ⟨rfl, hb8⟩
                    simp only [e3]
                    have hS8 := trS_on hS7 hb8
                    clear hS7 hb8 e3
                    have hS9 := trS_on hS8 (nbAlloc (Below.refl w8.heap.size w8) (.cells #[.int .i64 1, .int .i64 0] 27))
                    go_wp2_with fail
                    go_roundw
                    case rel => exact ⟨i + 1, by go_num, by rw [HX.out], by rw [HC.out], by omega, ⟨hS9.1, hS9.2.1, hS9.2.2.1, hS9.2.2.2.1, hS9.2.2.2.2.1, hS9.2.2.2.2.2.2.2.2.2.2.2.1, hS9.2.2.2.2.2.2.2.2.2.2.2.2.1, hS9.2.2.2.2.2.2.2.2.2.2.2.2.2.1, hS9.2.2.2.2.2.2.2.2.2.2.2.2.2.2.1, hS9.2.2.2.2.2.2.2.2.2.2.2.2.2.2.2⟩⟩
                    case measure => simp [intOf]; omega
                · have hlz : lo ≤ tl := by omega
                  as_aux_lemma =>
                    have e3 : surelyA s j m g o true tl th = (lo, tl) := by
                      simp only [surelyA, hq3, if_true, ← hlo.out]
                      rw [if_neg hly]
                    refine (implSurely_c _ _ _ _ _ _ _ _ _ _ _ _).mono ?_
                    rintro e w8 ⟨rfl, hb8⟩
                    simp only [e3]
                    have hS8 := trS_on hS7 hb8
                    clear hS7 hb8 e3
                    have hS9 := trS_on hS8 (nbAlloc (Below.refl w8.heap.size w8) (.cells #[.int .i64 lo, .int .i64 tl] 27))
                    go_wp2_with fail
                    go_roundw
                    case rel => exact ⟨i + 1, by go_num, by rw [HX.out], by rw [HC.out], by omega, ⟨hS9.1, hS9.2.1, hS9.2.2.1, hS9.2.2.2.1, hS9.2.2.2.2.1, hS9.2.2.2.2.2.2.2.2.2.2.2.1, hS9.2.2.2.2.2.2.2.2.2.2.2.2.1, hS9.2.2.2.2.2.2.2.2.2.2.2.2.2.1, hS9.2.2.2.2.2.2.2.2.2.2.2.2.2.2.1, hS9.2.2.2.2.2.2.2.2.2.2.2.2.2.2.2⟩⟩
                    case measure => simp [intOf]; omega

      · have hil : i = el := by omega
        subst hil
        go_wp2_with fail
        go_ret
        exact ⟨rfl, hC.2.2.2.2.2.2.2.2.2⟩

  · have hLLb : g - o ≤ L ∧ L ≤ g + o := by omega
    clear HLL
    go_wp2_with fail
    go_loopw [13, 14, 97] (fun xv kv iv wr => ∃ i : Nat, iv = .int .i64 i ∧ xv = .int .i64 (pos x0 tf (cnt i)) ∧ kv = .int .i64 (cnt i) ∧ i ≤ el ∧ trC w s j m g o p5 bt ot n tf tc be oe el fe ge qs T a1 len1 u wr) (fun _ _ iv _ => el - (intOf iv).toNat)
    case atStart => exact ⟨0, rfl, by rw [hc0.out]; rfl, by rw [hc0.out]; rfl, by omega, hC⟩
    case round =>
      clear hC
      obtain ⟨i, rfl, rfl, rfl, hi, hC⟩ := hrel
      by_cases hlt : i < el
      · have i0_ : (0 : Int) ≤ (i : Int) := by omega
        have i1_ : (i : Int) < (el : Int) := by omega
        have ee := hea (by omega)
        subst ee
        have eg := hga (by omega)
        subst eg
        have d0 := cellOn (Below.refl wr.heap.size wr) ((hC.2.2.2.2.2.2.1) i hlt).1
        have d1 := cellOn (Below.refl wr.heap.size wr) ((hC.2.2.2.2.2.2.1) i hlt).2
        refine Later.now ?_
        obtain ⟨⟨kn, tl, th, tsi, tla, tod⟩, eT⟩ : ∃ t, Hid (t = T i) := ⟨_, rfl⟩
        obtain ⟨hts, hcn1, hbd⟩ := hTT.out i hlt
        rw [← eT.out] at hts hbd
        obtain ⟨t1, t2, t3, t4⟩ := hts
        simp only at t1 t2 t3 t4 hbd
        subst t1 t2
        obtain ⟨X, HX⟩ : ∃ X, Hid (X = pos x0 tf (cnt (i + 1))) := ⟨_, rfl⟩
        have hXb := hps.out _ hcn1
        rw [← HX.out] at t3 t4 hXb
        have hq3 : q3 s j m g o true tl th = true := by
          simp [q3, rOk, bOk, inB]
          omega
        have e1 : holdsA s j m g o true tl th = (tl - g - o, th) := holds_some hq3
        obtain ⟨lo, hlo⟩ : ∃ lo, Hid (lo = if g < o then th else th - g + o) := ⟨_, rfl⟩
        have hXL : ¬ lo < X - L := by
          rw [hlo.out]
          split <;> omega
        have wl : IntKind.i64.wrap (X - L) = X - L := wrapS (by omega) (by omega)
        have k1_ : ¬ X < tl := by omega
        have k2_ : ¬ th < X := by omega
        have k3_ : ¬ X - L < tl - g - o := by omega
        rcases hst.out i hlt with ⟨hf1, hc1, hcn⟩ | ⟨hf1, hc1⟩
        · have hXX : pos x0 tf (cnt i) + tf (cnt i) = X := by rw [HX.out, hc1]; rfl
          have HC : Hid (cnt (i + 1) = cnt i + 1) := hc1
          have hpb := hps.out (cnt i) (by omega)
          have htb := htf.out (cnt i) hcn
          clear hc1 hcn1
          rw [hf1] at d0
          refine ⟨?_⟩
          as_aux_lemma =>
            have hC1 := trC_on hC (nbAlloc (Below.refl wr.heap.size wr) (.cells #[.int .i64 1, .int .i64 (ge i)] 48))
            have hs0 := (hC1.2.2.2.2.2.2.2.1) i hlt
            rw [← eT.out] at hs0
            have s0 : (wr.alloc (.cells #[.int .i64 1, .int .i64 (ge i)] 48)).cell? ⟨qs, i * 6, none⟩ = some (.bool true) := hs0.1
            have s1_ : (wr.alloc (.cells #[.int .i64 1, .int .i64 (ge i)] 48)).cell? ⟨qs, i * 6 + 1, none⟩ = some (.int .i64 tl) := hs0.2.1
            have s2 : (wr.alloc (.cells #[.int .i64 1, .int .i64 (ge i)] 48)).cell? ⟨qs, i * 6 + 2, none⟩ = some (.int .i64 th) := hs0.2.2.1
            have s3 : (wr.alloc (.cells #[.int .i64 1, .int .i64 (ge i)] 48)).cell? ⟨qs, i * 6 + 3, none⟩ = some (.int .i64 tsi) := hs0.2.2.2.1
            have s4 : (wr.alloc (.cells #[.int .i64 1, .int .i64 (ge i)] 48)).cell? ⟨qs, i * 6 + 4, none⟩ = some (.int .i64 tla) := hs0.2.2.2.2.1
            have s5 : (wr.alloc (.cells #[.int .i64 1, .int .i64 (ge i)] 48)).cell? ⟨qs, i * 6 + 5, none⟩ = some (.int .i64 0) := hs0.2.2.2.2.2
            have hC2 := trC_on hC1 (nbAlloc (Below.refl (wr.alloc (.cells #[.int .i64 1, .int .i64 (ge i)] 48)).heap.size (wr.alloc (.cells #[.int .i64 1, .int .i64 (ge i)] 48))) (.cells #[.bool true, .int .i64 tl, .int .i64 th, .int .i64 tsi, .int .i64 tla, .int .i64 0] 37))
            have hS : trS w s j m g o p5 bt ot n tf tc be oe el fe ge qs T a1 len1 u (wr.heap.size + 1) tl th tsi tla ((wr.alloc (.cells #[.int .i64 1, .int .i64 (ge i)] 48)).alloc (.cells #[.bool true, .int .i64 tl, .int .i64 th, .int .i64 tsi, .int .i64 tla, .int .i64 0] 37)) := ⟨hC2.1, hC2.2.1, hC2.2.2.1, hC2.2.2.2.1, hC2.2.2.2.2.1, by go_simp, by go_simp, by go_simp, by go_simp, by go_simp, by go_simp, hC2.2.2.2.2.2.1, hC2.2.2.2.2.2.2.1, hC2.2.2.2.2.2.2.2.1, hC2.2.2.2.2.2.2.2.2.1, hC2.2.2.2.2.2.2.2.2.2⟩
            have d2 := cellOn (nbAlloc (Below.refl wr.heap.size wr) (.cells #[.int .i64 1, .int .i64 (ge i)] 48)) ((hC.2.2.2.2.2.1) (cnt i) hcn).1
            have hcN : (0 : Int) ≤ (cnt i : Int) := by omega
            have hcM : (cnt i : Int) < (n : Int) := by omega
            have wx : IntKind.i64.wrap (pos x0 tf (cnt i) + tf (cnt i)) = X := by rw [hXX]; exact wrapS (by omega) (by omega)
            have et := hta (by omega)
            subst et
            have c0 : ((wr.alloc (.cells #[.int .i64 1, .int .i64 (ge i)] 48)).alloc (.cells #[.bool true, .int .i64 tl, .int .i64 th, .int .i64 tsi, .int .i64 tla, .int .i64 0] 37)).cell? ⟨p5, 0, none⟩ = some (.int .i64 s) := hS.1
            have c1 : ((wr.alloc (.cells #[.int .i64 1, .int .i64 (ge i)] 48)).alloc (.cells #[.bool true, .int .i64 tl, .int .i64 th, .int .i64 tsi, .int .i64 tla, .int .i64 0] 37)).cell? ⟨p5, 1, none⟩ = some (.int .i64 j) := hS.2.1
            have c2 : ((wr.alloc (.cells #[.int .i64 1, .int .i64 (ge i)] 48)).alloc (.cells #[.bool true, .int .i64 tl, .int .i64 th, .int .i64 tsi, .int .i64 tla, .int .i64 0] 37)).cell? ⟨p5, 2, none⟩ = some (.int .i64 m) := hS.2.2.1
            have c3 : ((wr.alloc (.cells #[.int .i64 1, .int .i64 (ge i)] 48)).alloc (.cells #[.bool true, .int .i64 tl, .int .i64 th, .int .i64 tsi, .int .i64 tla, .int .i64 0] 37)).cell? ⟨p5, 3, none⟩ = some (.int .i64 g) := hS.2.2.2.1
            have c4 : ((wr.alloc (.cells #[.int .i64 1, .int .i64 (ge i)] 48)).alloc (.cells #[.bool true, .int .i64 tl, .int .i64 th, .int .i64 tsi, .int .i64 tla, .int .i64 0] 37)).cell? ⟨p5, 4, none⟩ = some (.int .i64 o) := hS.2.2.2.2.1
            have c5 : ((wr.alloc (.cells #[.int .i64 1, .int .i64 (ge i)] 48)).alloc (.cells #[.bool true, .int .i64 tl, .int .i64 th, .int .i64 tsi, .int .i64 tla, .int .i64 0] 37)).cell? ⟨wr.heap.size + 1, 0, none⟩ = some (.bool true) := hS.2.2.2.2.2.1
            have c6 : ((wr.alloc (.cells #[.int .i64 1, .int .i64 (ge i)] 48)).alloc (.cells #[.bool true, .int .i64 tl, .int .i64 th, .int .i64 tsi, .int .i64 tla, .int .i64 0] 37)).cell? ⟨wr.heap.size + 1, 1, none⟩ = some (.int .i64 tl) := hS.2.2.2.2.2.2.1
            have c7 : ((wr.alloc (.cells #[.int .i64 1, .int .i64 (ge i)] 48)).alloc (.cells #[.bool true, .int .i64 tl, .int .i64 th, .int .i64 tsi, .int .i64 tla, .int .i64 0] 37)).cell? ⟨wr.heap.size + 1, 2, none⟩ = some (.int .i64 th) := hS.2.2.2.2.2.2.2.1
            have c8 : ((wr.alloc (.cells #[.int .i64 1, .int .i64 (ge i)] 48)).alloc (.cells #[.bool true, .int .i64 tl, .int .i64 th, .int .i64 tsi, .int .i64 tla, .int .i64 0] 37)).cell? ⟨wr.heap.size + 1, 3, none⟩ = some (.int .i64 tsi) := hS.2.2.2.2.2.2.2.2.1
            have c9 : ((wr.alloc (.cells #[.int .i64 1, .int .i64 (ge i)] 48)).alloc (.cells #[.bool true, .int .i64 tl, .int .i64 th, .int .i64 tsi, .int .i64 tla, .int .i64 0] 37)).cell? ⟨wr.heap.size + 1, 4, none⟩ = some (.int .i64 tla) := hS.2.2.2.2.2.2.2.2.2.1
            have c10 : ((wr.alloc (.cells #[.int .i64 1, .int .i64 (ge i)] 48)).alloc (.cells #[.bool true, .int .i64 tl, .int .i64 th, .int .i64 tsi, .int .i64 tla, .int .i64 0] 37)).cell? ⟨wr.heap.size + 1, 5, none⟩ = some (.int .i64 0) := hS.2.2.2.2.2.2.2.2.2.2.1
            go_wp2_with fail
            clear c0 c1 c2 c3 c4 c5 c6 c7 c8 c9 c10
            clear s0 s1_ s2 s3 s4 s5 d0 d1 d2 hs0 hC hC1 hC2
            generalize ((wr.alloc (.cells #[.int .i64 1, .int .i64 (ge i)] 48)).alloc (.cells #[.bool true, .int .i64 tl, .int .i64 th, .int .i64 tsi, .int .i64 tla, .int .i64 0] 37)) = w3 at *
            generalize wr.heap.size + 1 = p18 at *
            refine (implHolds_c _ _ _ _ _ _ _ _ _ _ _ _).mono ?_
            rintro e w5 ⟨rfl, hb5⟩
            simp only [e1]
            have hS5 := trS_on (trS_on hS hb5) (nbAlloc (Below.refl w5.heap.size w5) (.cells #[.int .i64 (tl - g - o), .int .i64 th] 27))
            clear hS hb5
            have g0_ : (w5.alloc (.cells #[.int .i64 (tl - g - o), .int .i64 th] 27)).cell? ⟨w5.heap.size, 0, none⟩ = some (.int .i64 (tl - g - o)) := by go_simp
            have g1_ : (w5.alloc (.cells #[.int .i64 (tl - g - o), .int .i64 th] 27)).cell? ⟨w5.heap.size, 1, none⟩ = some (.int .i64 th) := by go_simp
            go_wp2_with fail
            clear g0_ g1_
            generalize w5.alloc (.cells #[.int .i64 (tl - g - o), .int .i64 th] 27) = w6 at *
            generalize w5.heap.size = p19 at *
            refine (wByteV_c a1 len1 cap1 u (i : Int) _ hS5.2.2.2.2.2.2.2.2.2.2.2.2.2.2.1 hl1 (by omega) (by omega)).mono ?_
            rintro e w' ⟨rfl, hw'⟩
            subst hw'
            have rv := bv_range HU.out (i : Int)
            generalize bv len1 u (i : Int) = vv at *
            obtain ⟨Pp, hPp⟩ : ∃ Pp, X + vv - 128 = Pp := ⟨_, rfl⟩
            have hin : inB Pp (-100000000) 100000000 = true := by simp [inB]; omega
            have wa1 : IntKind.i64.wrap (X + vv) = X + vv := wrapS (by omega) (by omega)
            have wa2 : IntKind.i64.wrap (X + vv - 128) = Pp := by rw [← hPp]; exact wrapS (by omega) (by omega)
            have HPp : Hid (X + vv - 128 = Pp) := hPp
            have hS6 := hS5
            clear hS5 hPp
            have c0 : w6.cell? ⟨p5, 0, none⟩ = some (.int .i64 s) := hS6.1
            have c1 : w6.cell? ⟨p5, 1, none⟩ = some (.int .i64 j) := hS6.2.1
            have c2 : w6.cell? ⟨p5, 2, none⟩ = some (.int .i64 m) := hS6.2.2.1
            have c3 : w6.cell? ⟨p5, 3, none⟩ = some (.int .i64 g) := hS6.2.2.2.1
            have c4 : w6.cell? ⟨p5, 4, none⟩ = some (.int .i64 o) := hS6.2.2.2.2.1
            have c5 : w6.cell? ⟨p18, 0, none⟩ = some (.bool true) := hS6.2.2.2.2.2.1
            have c6 : w6.cell? ⟨p18, 1, none⟩ = some (.int .i64 tl) := hS6.2.2.2.2.2.2.1
            have c7 : w6.cell? ⟨p18, 2, none⟩ = some (.int .i64 th) := hS6.2.2.2.2.2.2.2.1
            have c8 : w6.cell? ⟨p18, 3, none⟩ = some (.int .i64 tsi) := hS6.2.2.2.2.2.2.2.2.1
            have c9 : w6.cell? ⟨p18, 4, none⟩ = some (.int .i64 tla) := hS6.2.2.2.2.2.2.2.2.2.1
            have c10 : w6.cell? ⟨p18, 5, none⟩ = some (.int .i64 0) := hS6.2.2.2.2.2.2.2.2.2.2.1
            go_wp2_with fail
            clear wa1 wa2 rv
            by_cases hp1 : th < Pp
            · have hx1 : ¬ Pp ≤ X := by omega
              as_aux_lemma =>
                have e2 : pastA s j m g o true tl th Pp = -1 := by
                  simp only [pastA, hq3, hin, Bool.and_self, if_true]
                  rw [if_pos hp1]
                refine (implPast_c _ _ _ _ _ _ _ _ _ _ _ _ _).mono ?_
                rintro e w7 ⟨rfl, hb7⟩
                simp only [e2]
                have hS7 := trS_on hS6 hb7
                clear hS6 hb7 e2
                clear c0 c1 c2 c3 c4 c5 c6 c7 c8 c9 c10
                have c0 : w7.cell? ⟨p5, 0, none⟩ = some (.int .i64 s) := hS7.1
                have c1 : w7.cell? ⟨p5, 1, none⟩ = some (.int .i64 j) := hS7.2.1
                have c2 : w7.cell? ⟨p5, 2, none⟩ = some (.int .i64 m) := hS7.2.2.1
                have c3 : w7.cell? ⟨p5, 3, none⟩ = some (.int .i64 g) := hS7.2.2.2.1
                have c4 : w7.cell? ⟨p5, 4, none⟩ = some (.int .i64 o) := hS7.2.2.2.2.1
                have c5 : w7.cell? ⟨p18, 0, none⟩ = some (.bool true) := hS7.2.2.2.2.2.1
                have c6 : w7.cell? ⟨p18, 1, none⟩ = some (.int .i64 tl) := hS7.2.2.2.2.2.2.1
                have c7 : w7.cell? ⟨p18, 2, none⟩ = some (.int .i64 th) := hS7.2.2.2.2.2.2.2.1
                have c8 : w7.cell? ⟨p18, 3, none⟩ = some (.int .i64 tsi) := hS7.2.2.2.2.2.2.2.2.1
                have c9 : w7.cell? ⟨p18, 4, none⟩ = some (.int .i64 tla) := hS7.2.2.2.2.2.2.2.2.2.1
                have c10 : w7.cell? ⟨p18, 5, none⟩ = some (.int .i64 0) := hS7.2.2.2.2.2.2.2.2.2.2.1
                go_wp2_with fail
                by_cases hly : tl < lo
                · as_aux_lemma =>
                    have e3 : surelyA s j m g o true tl th = (1, 0) := by
                      simp only [surelyA, hq3, if_true, ← hlo.out]
                      rw [if_pos hly]
                    refine (implSurely_c _ _ _ _ _ _ _ _ _ _ _ _).mono ?_
                    rintro e w8 ⟨rfl, hb8⟩
                    simp only [e3]
                    have hS8 := trS_on hS7 hb8
                    clear hS7 hb8 e3
                    have hS9 := trS_on hS8 (nbAlloc (Below.refl w8.heap.size w8) (.cells #[.int .i64 1, .int .i64 0] 27))
                    go_wp2_with fail
                    go_roundw
                    case rel => exact ⟨i + 1, by go_num, by rw [HX.out], by rw [HC.out]; go_num, by omega, ⟨hS9.1, hS9.2.1, hS9.2.2.1, hS9.2.2.2.1, hS9.2.2.2.2.1, hS9.2.2.2.2.2.2.2.2.2.2.2.1, hS9.2.2.2.2.2.2.2.2.2.2.2.2.1, hS9.2.2.2.2.2.2.2.2.2.2.2.2.2.1, hS9.2.2.2.2.2.2.2.2.2.2.2.2.2.2.1, hS9.2.2.2.2.2.2.2.2.2.2.2.2.2.2.2⟩⟩
                    case measure => simp [intOf]; omega
                · have hlz : lo ≤ tl := by omega
                  as_aux_lemma =>
                    have e3 : surelyA s j m g o true tl th = (lo, tl) := by
                      simp only [surelyA, hq3, if_true, ← hlo.out]
                      rw [if_neg hly]
                    refine (implSurely_c _ _ _ _ _ _ _ _ _ _ _ _).mono ?_
                    rintro e w8 ⟨rfl, hb8⟩
                    simp only [e3]
                    have hS8 := trS_on hS7 hb8
                    clear hS7 hb8 e3
                    have hS9 := trS_on hS8 (nbAlloc (Below.refl w8.heap.size w8) (.cells #[.int .i64 lo, .int .i64 tl] 27))
                    go_wp2_with fail
                    go_roundw
                    case rel => exact ⟨i + 1, by go_num, by rw [HX.out], by rw [HC.out]; go_num, by omega, ⟨hS9.1, hS9.2.1, hS9.2.2.1, hS9.2.2.2.1, hS9.2.2.2.2.1, hS9.2.2.2.2.2.2.2.2.2.2.2.1, hS9.2.2.2.2.2.2.2.2.2.2.2.2.1, hS9.2.2.2.2.2.2.2.2.2.2.2.2.2.1, hS9.2.2.2.2.2.2.2.2.2.2.2.2.2.2.1, hS9.2.2.2.2.2.2.2.2.2.2.2.2.2.2.2⟩⟩
                    case measure => simp [intOf]; omega
            by_cases hp2 : Pp < tl - g - o
            · have hx2 : ¬ X - L ≤ Pp := by omega
              as_aux_lemma =>
                have e2 : pastA s j m g o true tl th Pp = 1 := by
                  simp only [pastA, hq3, hin, Bool.and_self, if_true]
                  rw [if_neg (by omega), if_pos hp2]
                refine (implPast_c _ _ _ _ _ _ _ _ _ _ _ _ _).mono ?_
                rintro e w7 ⟨rfl, hb7⟩
                simp only [e2]
                have hS7 := trS_on hS6 hb7
                clear hS6 hb7 e2
                clear c0 c1 c2 c3 c4 c5 c6 c7 c8 c9 c10
                have c0 : w7.cell? ⟨p5, 0, none⟩ = some (.int .i64 s) := hS7.1
                have c1 : w7.cell? ⟨p5, 1, none⟩ = some (.int .i64 j) := hS7.2.1
                have c2 : w7.cell? ⟨p5, 2, none⟩ = some (.int .i64 m) := hS7.2.2.1
                have c3 : w7.cell? ⟨p5, 3, none⟩ = some (.int .i64 g) := hS7.2.2.2.1
                have c4 : w7.cell? ⟨p5, 4, none⟩ = some (.int .i64 o) := hS7.2.2.2.2.1
                have c5 : w7.cell? ⟨p18, 0, none⟩ = some (.bool true) := hS7.2.2.2.2.2.1
                have c6 : w7.cell? ⟨p18, 1, none⟩ = some (.int .i64 tl) := hS7.2.2.2.2.2.2.1
                have c7 : w7.cell? ⟨p18, 2, none⟩ = some (.int .i64 th) := hS7.2.2.2.2.2.2.2.1
                have c8 : w7.cell? ⟨p18, 3, none⟩ = some (.int .i64 tsi) := hS7.2.2.2.2.2.2.2.2.1
                have c9 : w7.cell? ⟨p18, 4, none⟩ = some (.int .i64 tla) := hS7.2.2.2.2.2.2.2.2.2.1
                have c10 : w7.cell? ⟨p18, 5, none⟩ = some (.int .i64 0) := hS7.2.2.2.2.2.2.2.2.2.2.1
                go_wp2_with fail
                by_cases hly : tl < lo
                · as_aux_lemma =>
                    have e3 : surelyA s j m g o true tl th = (1, 0) := by
                      simp only [surelyA, hq3, if_true, ← hlo.out]
                      rw [if_pos hly]
                    refine (implSurely_c _ _ _ _ _ _ _ _ _ _ _ _).mono ?_
                    rintro e w8 ⟨rfl, hb8⟩
                    simp only [e3]
                    have hS8 := trS_on hS7 hb8
                    clear hS7 hb8 e3
                    have hS9 := trS_on hS8 (nbAlloc (Below.refl w8.heap.size w8) (.cells #[.int .i64 1, .int .i64 0] 27))
                    go_wp2_with fail
                    go_roundw
                    case rel => exact ⟨i + 1, by go_num, by rw [HX.out], by rw [HC.out]; go_num, by omega, ⟨hS9.1, hS9.2.1, hS9.2.2.1, hS9.2.2.2.1, hS9.2.2.2.2.1, hS9.2.2.2.2.2.2.2.2.2.2.2.1, hS9.2.2.2.2.2.2.2.2.2.2.2.2.1, hS9.2.2.2.2.2.2.2.2.2.2.2.2.2.1, hS9.2.2.2.2.2.2.2.2.2.2.2.2.2.2.1, hS9.2.2.2.2.2.2.2.2.2.2.2.2.2.2.2⟩⟩
                    case measure => simp [intOf]; omega
                · have hlz : lo ≤ tl := by omega
                  as_aux_lemma =>
                    have e3 : surelyA s j m g o true tl th = (lo, tl) := by
                      simp only [surelyA, hq3, if_true, ← hlo.out]
                      rw [if_neg hly]
                    refine (implSurely_c _ _ _ _ _ _ _ _ _ _ _ _).mono ?_
                    rintro e w8 ⟨rfl, hb8⟩
                    simp only [e3]
                    have hS8 := trS_on hS7 hb8
                    clear hS7 hb8 e3
                    have hS9 := trS_on hS8 (nbAlloc (Below.refl w8.heap.size w8) (.cells #[.int .i64 lo, .int .i64 tl] 27))
                    go_wp2_with fail
                    go_roundw
                    case rel => exact ⟨i + 1, by go_num, by rw [HX.out], by rw [HC.out]; go_num, by omega, ⟨hS9.1, hS9.2.1, hS9.2.2.1, hS9.2.2.2.1, hS9.2.2.2.2.1, hS9.2.2.2.2.2.2.2.2.2.2.2.1, hS9.2.2.2.2.2.2.2.2.2.2.2.2.1, hS9.2.2.2.2.2.2.2.2.2.2.2.2.2.1, hS9.2.2.2.2.2.2.2.2.2.2.2.2.2.2.1, hS9.2.2.2.2.2.2.2.2.2.2.2.2.2.2.2⟩⟩
                    case measure => simp [intOf]; omega
            · as_aux_lemma =>
                have e2 : pastA s j m g o true tl th Pp = 0 := by
                  simp only [pastA, hq3, hin, Bool.and_self, if_true]
                  rw [if_neg (by omega), if_neg (by omega)]
                refine (implPast_c _ _ _ _ _ _ _ _ _ _ _ _ _).mono ?_
                rintro e w7 ⟨rfl, hb7⟩
                simp only [e2]
                have hS7 := trS_on hS6 hb7
                clear hS6 hb7 e2
                clear c0 c1 c2 c3 c4 c5 c6 c7 c8 c9 c10
                have c0 : w7.cell? ⟨p5, 0, none⟩ = some (.int .i64 s) := hS7.1
                have c1 : w7.cell? ⟨p5, 1, none⟩ = some (.int .i64 j) := hS7.2.1
                have c2 : w7.cell? ⟨p5, 2, none⟩ = some (.int .i64 m) := hS7.2.2.1
                have c3 : w7.cell? ⟨p5, 3, none⟩ = some (.int .i64 g) := hS7.2.2.2.1
                have c4 : w7.cell? ⟨p5, 4, none⟩ = some (.int .i64 o) := hS7.2.2.2.2.1
                have c5 : w7.cell? ⟨p18, 0, none⟩ = some (.bool true) := hS7.2.2.2.2.2.1
                have c6 : w7.cell? ⟨p18, 1, none⟩ = some (.int .i64 tl) := hS7.2.2.2.2.2.2.1
                have c7 : w7.cell? ⟨p18, 2, none⟩ = some (.int .i64 th) := hS7.2.2.2.2.2.2.2.1
                have c8 : w7.cell? ⟨p18, 3, none⟩ = some (.int .i64 tsi) := hS7.2.2.2.2.2.2.2.2.1
                have c9 : w7.cell? ⟨p18, 4, none⟩ = some (.int .i64 tla) := hS7.2.2.2.2.2.2.2.2.2.1
                have c10 : w7.cell? ⟨p18, 5, none⟩ = some (.int .i64 0) := hS7.2.2.2.2.2.2.2.2.2.2.1
                go_wp2_with fail
                by_cases hly : tl < lo
                · as_aux_lemma =>
                    have e3 : surelyA s j m g o true tl th = (1, 0) := by
                      simp only [surelyA, hq3, if_true, ← hlo.out]
                      rw [if_pos hly]
                    refine (implSurely_c _ _ _ _ _ _ _ _ _ _ _ _).mono ?_
                    rintro e w8 ⟨rfl, hb8⟩
                    simp only [e3]
                    have hS8 := trS_on hS7 hb8
                    clear hS7 hb8 e3
                    have hS9 := trS_on hS8 (nbAlloc (Below.refl w8.heap.size w8) (.cells #[.int .i64 1, .int .i64 0] 27))
                    go_wp2_with fail
                    go_roundw
                    case rel => exact ⟨i + 1, by go_num, by rw [HX.out], by rw [HC.out]; go_num, by omega, ⟨hS9.1, hS9.2.1, hS9.2.2.1, hS9.2.2.2.1, hS9.2.2.2.2.1, hS9.2.2.2.2.2.2.2.2.2.2.2.1, hS9.2.2.2.2.2.2.2.2.2.2.2.2.1, hS9.2.2.2.2.2.2.2.2.2.2.2.2.2.1, hS9.2.2.2.2.2.2.2.2.2.2.2.2.2.2.1, hS9.2.2.2.2.2.2.2.2.2.2.2.2.2.2.2⟩⟩
                    case measure => simp [intOf]; omega
                · have hlz : lo ≤ tl := by omega
                  as_aux_lemma =>
                    have e3 : surelyA s j m g o true tl th = (lo, tl) := by
                      simp only [surelyA, hq3, if_true, ← hlo.out]
                      rw [if_neg hly]
                    refine (implSurely_c _ _ _ _ _ _ _ _ _ _ _ _).mono ?_
                    rintro e w8 ⟨rfl, hb8⟩
                    simp only [e3]
                    have hS8 := trS_on hS7 hb8
                    clear hS7 hb8 e3
                    have hS9 := trS_on hS8 (nbAlloc (Below.refl w8.heap.size w8) (.cells #[.int .i64 lo, .int .i64 tl] 27))
                    go_wp2_with fail
                    go_roundw
                    case rel => exact ⟨i + 1, by go_num, by rw [HX.out], by rw [HC.out]; go_num, by omega, ⟨hS9.1, hS9.2.1, hS9.2.2.1, hS9.2.2.2.1, hS9.2.2.2.2.1, hS9.2.2.2.2.2.2.2.2.2.2.2.1, hS9.2.2.2.2.2.2.2.2.2.2.2.2.1, hS9.2.2.2.2.2.2.2.2.2.2.2.2.2.1, hS9.2.2.2.2.2.2.2.2.2.2.2.2.2.2.1, hS9.2.2.2.2.2.2.2.2.2.2.2.2.2.2.2⟩⟩
                    case measure => simp [intOf]; omega

        · have hXX : pos x0 tf (cnt i) = X := by rw [HX.out, hc1]
          have HC : Hid (cnt (i + 1) = cnt i) := hc1
          clear hc1 hcn1
          rw [hf1] at d0
          refine ⟨?_⟩
          simp only [hXX]
          as_aux_lemma =>
            have hC1 := trC_on hC (nbAlloc (Below.refl wr.heap.size wr) (.cells #[.int .i64 2, .int .i64 (ge i)] 48))
            have hs0 := (hC1.2.2.2.2.2.2.2.1) i hlt
            rw [← eT.out] at hs0
            have s0 : (wr.alloc (.cells #[.int .i64 2, .int .i64 (ge i)] 48)).cell? ⟨qs, i * 6, none⟩ = some (.bool true) := hs0.1
            have s1_ : (wr.alloc (.cells #[.int .i64 2, .int .i64 (ge i)] 48)).cell? ⟨qs, i * 6 + 1, none⟩ = some (.int .i64 tl) := hs0.2.1
            have s2 : (wr.alloc (.cells #[.int .i64 2, .int .i64 (ge i)] 48)).cell? ⟨qs, i * 6 + 2, none⟩ = some (.int .i64 th) := hs0.2.2.1
            have s3 : (wr.alloc (.cells #[.int .i64 2, .int .i64 (ge i)] 48)).cell? ⟨qs, i * 6 + 3, none⟩ = some (.int .i64 tsi) := hs0.2.2.2.1
            have s4 : (wr.alloc (.cells #[.int .i64 2, .int .i64 (ge i)] 48)).cell? ⟨qs, i * 6 + 4, none⟩ = some (.int .i64 tla) := hs0.2.2.2.2.1
            have s5 : (wr.alloc (.cells #[.int .i64 2, .int .i64 (ge i)] 48)).cell? ⟨qs, i * 6 + 5, none⟩ = some (.int .i64 0) := hs0.2.2.2.2.2
            have hC2 := trC_on hC1 (nbAlloc (Below.refl (wr.alloc (.cells #[.int .i64 2, .int .i64 (ge i)] 48)).heap.size (wr.alloc (.cells #[.int .i64 2, .int .i64 (ge i)] 48))) (.cells #[.bool true, .int .i64 tl, .int .i64 th, .int .i64 tsi, .int .i64 tla, .int .i64 0] 37))
            have hS : trS w s j m g o p5 bt ot n tf tc be oe el fe ge qs T a1 len1 u (wr.heap.size + 1) tl th tsi tla ((wr.alloc (.cells #[.int .i64 2, .int .i64 (ge i)] 48)).alloc (.cells #[.bool true, .int .i64 tl, .int .i64 th, .int .i64 tsi, .int .i64 tla, .int .i64 0] 37)) := ⟨hC2.1, hC2.2.1, hC2.2.2.1, hC2.2.2.2.1, hC2.2.2.2.2.1, by go_simp, by go_simp, by go_simp, by go_simp, by go_simp, by go_simp, hC2.2.2.2.2.2.1, hC2.2.2.2.2.2.2.1, hC2.2.2.2.2.2.2.2.1, hC2.2.2.2.2.2.2.2.2.1, hC2.2.2.2.2.2.2.2.2.2⟩
            have c0 : ((wr.alloc (.cells #[.int .i64 2, .int .i64 (ge i)] 48)).alloc (.cells #[.bool true, .int .i64 tl, .int .i64 th, .int .i64 tsi, .int .i64 tla, .int .i64 0] 37)).cell? ⟨p5, 0, none⟩ = some (.int .i64 s) := hS.1
            have c1 : ((wr.alloc (.cells #[.int .i64 2, .int .i64 (ge i)] 48)).alloc (.cells #[.bool true, .int .i64 tl, .int .i64 th, .int .i64 tsi, .int .i64 tla, .int .i64 0] 37)).cell? ⟨p5, 1, none⟩ = some (.int .i64 j) := hS.2.1
            have c2 : ((wr.alloc (.cells #[.int .i64 2, .int .i64 (ge i)] 48)).alloc (.cells #[.bool true, .int .i64 tl, .int .i64 th, .int .i64 tsi, .int .i64 tla, .int .i64 0] 37)).cell? ⟨p5, 2, none⟩ = some (.int .i64 m) := hS.2.2.1
            have c3 : ((wr.alloc (.cells #[.int .i64 2, .int .i64 (ge i)] 48)).alloc (.cells #[.bool true, .int .i64 tl, .int .i64 th, .int .i64 tsi, .int .i64 tla, .int .i64 0] 37)).cell? ⟨p5, 3, none⟩ = some (.int .i64 g) := hS.2.2.2.1
            have c4 : ((wr.alloc (.cells #[.int .i64 2, .int .i64 (ge i)] 48)).alloc (.cells #[.bool true, .int .i64 tl, .int .i64 th, .int .i64 tsi, .int .i64 tla, .int .i64 0] 37)).cell? ⟨p5, 4, none⟩ = some (.int .i64 o) := hS.2.2.2.2.1
            have c5 : ((wr.alloc (.cells #[.int .i64 2, .int .i64 (ge i)] 48)).alloc (.cells #[.bool true, .int .i64 tl, .int .i64 th, .int .i64 tsi, .int .i64 tla, .int .i64 0] 37)).cell? ⟨wr.heap.size + 1, 0, none⟩ = some (.bool true) := hS.2.2.2.2.2.1
            have c6 : ((wr.alloc (.cells #[.int .i64 2, .int .i64 (ge i)] 48)).alloc (.cells #[.bool true, .int .i64 tl, .int .i64 th, .int .i64 tsi, .int .i64 tla, .int .i64 0] 37)).cell? ⟨wr.heap.size + 1, 1, none⟩ = some (.int .i64 tl) := hS.2.2.2.2.2.2.1
            have c7 : ((wr.alloc (.cells #[.int .i64 2, .int .i64 (ge i)] 48)).alloc (.cells #[.bool true, .int .i64 tl, .int .i64 th, .int .i64 tsi, .int .i64 tla, .int .i64 0] 37)).cell? ⟨wr.heap.size + 1, 2, none⟩ = some (.int .i64 th) := hS.2.2.2.2.2.2.2.1
            have c8 : ((wr.alloc (.cells #[.int .i64 2, .int .i64 (ge i)] 48)).alloc (.cells #[.bool true, .int .i64 tl, .int .i64 th, .int .i64 tsi, .int .i64 tla, .int .i64 0] 37)).cell? ⟨wr.heap.size + 1, 3, none⟩ = some (.int .i64 tsi) := hS.2.2.2.2.2.2.2.2.1
            have c9 : ((wr.alloc (.cells #[.int .i64 2, .int .i64 (ge i)] 48)).alloc (.cells #[.bool true, .int .i64 tl, .int .i64 th, .int .i64 tsi, .int .i64 tla, .int .i64 0] 37)).cell? ⟨wr.heap.size + 1, 4, none⟩ = some (.int .i64 tla) := hS.2.2.2.2.2.2.2.2.2.1
            have c10 : ((wr.alloc (.cells #[.int .i64 2, .int .i64 (ge i)] 48)).alloc (.cells #[.bool true, .int .i64 tl, .int .i64 th, .int .i64 tsi, .int .i64 tla, .int .i64 0] 37)).cell? ⟨wr.heap.size + 1, 5, none⟩ = some (.int .i64 0) := hS.2.2.2.2.2.2.2.2.2.2.1
            go_wp2_with fail
            clear c0 c1 c2 c3 c4 c5 c6 c7 c8 c9 c10
            clear s0 s1_ s2 s3 s4 s5 d0 d1 hs0 hC hC1 hC2
            generalize ((wr.alloc (.cells #[.int .i64 2, .int .i64 (ge i)] 48)).alloc (.cells #[.bool true, .int .i64 tl, .int .i64 th, .int .i64 tsi, .int .i64 tla, .int .i64 0] 37)) = w3 at *
            generalize wr.heap.size + 1 = p18 at *
            refine (implHolds_c _ _ _ _ _ _ _ _ _ _ _ _).mono ?_
            rintro e w5 ⟨rfl, hb5⟩
            simp only [e1]
            have hS5 := trS_on (trS_on hS hb5) (nbAlloc (Below.refl w5.heap.size w5) (.cells #[.int .i64 (tl - g - o), .int .i64 th] 27))
            clear hS hb5
            have g0_ : (w5.alloc (.cells #[.int .i64 (tl - g - o), .int .i64 th] 27)).cell? ⟨w5.heap.size, 0, none⟩ = some (.int .i64 (tl - g - o)) := by go_simp
            have g1_ : (w5.alloc (.cells #[.int .i64 (tl - g - o), .int .i64 th] 27)).cell? ⟨w5.heap.size, 1, none⟩ = some (.int .i64 th) := by go_simp
            go_wp2_with fail
            clear g0_ g1_
            generalize w5.alloc (.cells #[.int .i64 (tl - g - o), .int .i64 th] 27) = w6 at *
            generalize w5.heap.size = p19 at *
            refine (wByteV_c a1 len1 cap1 u (i : Int) _ hS5.2.2.2.2.2.2.2.2.2.2.2.2.2.2.1 hl1 (by omega) (by omega)).mono ?_
            rintro e w' ⟨rfl, hw'⟩
            subst hw'
            have rv := bv_range HU.out (i : Int)
            generalize bv len1 u (i : Int) = vv at *
            obtain ⟨Pp, hPp⟩ : ∃ Pp, X + vv - 128 = Pp := ⟨_, rfl⟩
            have hin : inB Pp (-100000000) 100000000 = true := by simp [inB]; omega
            have wa1 : IntKind.i64.wrap (X + vv) = X + vv := wrapS (by omega) (by omega)
            have wa2 : IntKind.i64.wrap (X + vv - 128) = Pp := by rw [← hPp]; exact wrapS (by omega) (by omega)
            have HPp : Hid (X + vv - 128 = Pp) := hPp
            have hS6 := hS5
            clear hS5 hPp
            have c0 : w6.cell? ⟨p5, 0, none⟩ = some (.int .i64 s) := hS6.1
            have c1 : w6.cell? ⟨p5, 1, none⟩ = some (.int .i64 j) := hS6.2.1
            have c2 : w6.cell? ⟨p5, 2, none⟩ = some (.int .i64 m) := hS6.2.2.1
            have c3 : w6.cell? ⟨p5, 3, none⟩ = some (.int .i64 g) := hS6.2.2.2.1
            have c4 : w6.cell? ⟨p5, 4, none⟩ = some (.int .i64 o) := hS6.2.2.2.2.1
            have c5 : w6.cell? ⟨p18, 0, none⟩ = some (.bool true) := hS6.2.2.2.2.2.1
            have c6 : w6.cell? ⟨p18, 1, none⟩ = some (.int .i64 tl) := hS6.2.2.2.2.2.2.1
            have c7 : w6.cell? ⟨p18, 2, none⟩ = some (.int .i64 th) := hS6.2.2.2.2.2.2.2.1
            have c8 : w6.cell? ⟨p18, 3, none⟩ = some (.int .i64 tsi) := hS6.2.2.2.2.2.2.2.2.1
            have c9 : w6.cell? ⟨p18, 4, none⟩ = some (.int .i64 tla) := hS6.2.2.2.2.2.2.2.2.2.1
            have c10 : w6.cell? ⟨p18, 5, none⟩ = some (.int .i64 0) := hS6.2.2.2.2.2.2.2.2.2.2.1
            go_wp2_with fail
            clear wa1 wa2 rv
            by_cases hp1 : th < Pp
            · have hx1 : ¬ Pp ≤ X := by omega
              as_aux_lemma =>
                have e2 : pastA s j m g o true tl th Pp = -1 := by
                  simp only [pastA, hq3, hin, Bool.and_self, if_true]
                  rw [if_pos hp1]
                refine (implPast_c _ _ _ _ _ _ _ _ _ _ _ _ _).mono ?_
                rintro e w7 ⟨rfl, hb7⟩
                simp only [e2]
                have hS7 := trS_on hS6 hb7
                clear hS6 hb7 e2
                clear c0 c1 c2 c3 c4 c5 c6 c7 c8 c9 c10
                have c0 : w7.cell? ⟨p5, 0, none⟩ = some (.int .i64 s) := hS7.1
                have c1 : w7.cell? ⟨p5, 1, none⟩ = some (.int .i64 j) := hS7.2.1
                have c2 : w7.cell? ⟨p5, 2, none⟩ = some (.int .i64 m) := hS7.2.2.1
                have c3 : w7.cell? ⟨p5, 3, none⟩ = some (.int .i64 g) := hS7.2.2.2.1
                have c4 : w7.cell? ⟨p5, 4, none⟩ = some (.int .i64 o) := hS7.2.2.2.2.1
                have c5 : w7.cell? ⟨p18, 0, none⟩ = some (.bool true) := hS7.2.2.2.2.2.1
                have c6 : w7.cell? ⟨p18, 1, none⟩ = some (.int .i64 tl) := hS7.2.2.2.2.2.2.1
                have c7 : w7.cell? ⟨p18, 2, none⟩ = some (.int .i64 th) := hS7.2.2.2.2.2.2.2.1
                have c8 : w7.cell? ⟨p18, 3, none⟩ = some (.int .i64 tsi) := hS7.2.2.2.2.2.2.2.2.1
                have c9 : w7.cell? ⟨p18, 4, none⟩ = some (.int .i64 tla) := hS7.2.2.2.2.2.2.2.2.2.1
                have c10 : w7.cell? ⟨p18, 5, none⟩ = some (.int .i64 0) := hS7.2.2.2.2.2.2.2.2.2.2.1
                go_wp2_with fail
                by_cases hly : tl < lo
                · as_aux_lemma =>
                    have e3 : surelyA s j m g o true tl th = (1, 0) := by
                      simp only [surelyA, hq3, if_true, ← hlo.out]
                      rw [if_pos hly]
                    refine (implSurely_c _ _ _ _ _ _ _ _ _ _ _ _).mono ?_
                    rintro e w8 ⟨rfl, hb8⟩
                    simp only [e3]
                    have hS8 := trS_on hS7 hb8
                    clear hS7 hb8 e3
                    have hS9 := trS_on hS8 (nbAlloc (Below.refl w8.heap.size w8) (.cells #[.int .i64 1, .int .i64 0] 27))
                    go_wp2_with fail
                    go_roundw
                    case rel => exact ⟨i + 1, by go_num, by rw [HX.out], by rw [HC.out], by omega, ⟨hS9.1, hS9.2.1, hS9.2.2.1, hS9.2.2.2.1, hS9.2.2.2.2.1, hS9.2.2.2.2.2.2.2.2.2.2.2.1, hS9.2.2.2.2.2.2.2.2.2.2.2.2.1, hS9.2.2.2.2.2.2.2.2.2.2.2.2.2.1, hS9.2.2.2.2.2.2.2.2.2.2.2.2.2.2.1, hS9.2.2.2.2.2.2.2.2.2.2.2.2.2.2.2⟩⟩
                    case measure => simp [intOf]; omega
                · have hlz : lo ≤ tl := by omega
                  as_aux_lemma =>
                    have e3 : surelyA s j m g o true tl th = (lo, tl) := by
                      simp only [surelyA, hq3, if_true, ← hlo.out]
                      rw [if_neg hly]
                    refine (implSurely_c _ _ _ _ _ _ _ _ _ _ _ _).mono ?_
                    rintro e w8 ⟨rfl, hb8⟩
                    simp only [e3]
                    have hS8 := trS_on hS7 hb8
                    clear hS7 hb8 e3
                    have hS9 := trS_on hS8 (nbAlloc (Below.refl w8.heap.size w8) (.cells #[.int .i64 lo, .int .i64 tl] 27))
                    go_wp2_with fail
                    go_roundw
                    case rel => exact ⟨i + 1, by go_num, by rw [HX.out], by rw [HC.out], by omega, ⟨hS9.1, hS9.2.1, hS9.2.2.1, hS9.2.2.2.1, hS9.2.2.2.2.1, hS9.2.2.2.2.2.2.2.2.2.2.2.1, hS9.2.2.2.2.2.2.2.2.2.2.2.2.1, hS9.2.2.2.2.2.2.2.2.2.2.2.2.2.1, hS9.2.2.2.2.2.2.2.2.2.2.2.2.2.2.1, hS9.2.2.2.2.2.2.2.2.2.2.2.2.2.2.2⟩⟩
                    case measure => simp [intOf]; omega
            by_cases hp2 : Pp < tl - g - o
            · have hx2 : ¬ X - L ≤ Pp := by omega
              as_aux_lemma =>
                have e2 : pastA s j m g o true tl th Pp = 1 := by
                  simp only [pastA, hq3, hin, Bool.and_self, if_true]
                  rw [if_neg (by omega), if_pos hp2]
                refine (implPast_c _ _ _ _ _ _ _ _ _ _ _ _ _).mono ?_
                rintro e w7 ⟨rfl, hb7⟩
                simp only [e2]
                have hS7 := trS_on hS6 hb7
                clear hS6 hb7 e2
                clear c0 c1 c2 c3 c4 c5 c6 c7 c8 c9 c10
                have c0 : w7.cell? ⟨p5, 0, none⟩ = some (.int .i64 s) := hS7.1
                have c1 : w7.cell? ⟨p5, 1, none⟩ = some (.int .i64 j) := hS7.2.1
                have c2 : w7.cell? ⟨p5, 2, none⟩ = some (.int .i64 m) := hS7.2.2.1
                have c3 : w7.cell? ⟨p5, 3, none⟩ = some (.int .i64 g) := hS7.2.2.2.1
                have c4 : w7.cell? ⟨p5, 4, none⟩ = some (.int .i64 o) := hS7.2.2.2.2.1
                have c5 : w7.cell? ⟨p18, 0, none⟩ = some (.bool true) := hS7.2.2.2.2.2.1
                have c6 : w7.cell? ⟨p18, 1, none⟩ = some (.int .i64 tl) := hS7.2.2.2.2.2.2.1
                have c7 : w7.cell? ⟨p18, 2, none⟩ = some (.int .i64 th) := hS7.2.2.2.2.2.2.2.1
                have c8 : w7.cell? ⟨p18, 3, none⟩ = some (.int .i64 tsi) := hS7.2.2.2.2.2.2.2.2.1
                have c9 : w7.cell? ⟨p18, 4, none⟩ = some (.int .i64 tla) := hS7.2.2.2.2.2.2.2.2.2.1
                have c10 : w7.cell? ⟨p18, 5, none⟩ = some (.int .i64 0) := hS7.2.2.2.2.2.2.2.2.2.2.1
                go_wp2_with fail
                by_cases hly : tl < lo
                · as_aux_lemma =>
                    have e3 : surelyA s j m g o true tl th = (1, 0) := by
                      simp only [surelyA, hq3, if_true, ← hlo.out]
                      rw [if_pos hly]
                    refine (implSurely_c _ _ _ _ _ _ _ _ _ _ _ _).mono ?_
                    rintro e w8 ⟨rfl, hb8⟩
                    simp only [e3]
                    have hS8 := trS_on hS7 hb8
                    clear hS7 hb8 e3
                    have hS9 := trS_on hS8 (nbAlloc (Below.refl w8.heap.size w8) (.cells #[.int .i64 1, .int .i64 0] 27))
                    go_wp2_with fail
                    go_roundw
                    case rel => exact ⟨i + 1, by go_num, by rw [HX.out], by rw [HC.out], by omega, ⟨hS9.1, hS9.2.1, hS9.2.2.1, hS9.2.2.2.1, hS9.2.2.2.2.1, hS9.2.2.2.2.2.2.2.2.2.2.2.1, hS9.2.2.2.2.2.2.2.2.2.2.2.2.1, hS9.2.2.2.2.2.2.2.2.2.2.2.2.2.1, hS9.2.2.2.2.2.2.2.2.2.2.2.2.2.2.1, hS9.2.2.2.2.2.2.2.2.2.2.2.2.2.2.2⟩⟩
                    case measure => simp [intOf]; omega
                · have hlz : lo ≤ tl := by omega
                  as_aux_lemma =>
                    have e3 : surelyA s j m g o true tl th = (lo, tl) := by
                      simp only [surelyA, hq3, if_true, ← hlo.out]
                      rw [if_neg hly]
                    refine (implSurely_c _ _ _ _ _ _ _ _ _ _ _ _).mono ?_
                    rintro e w8 ⟨rfl, hb8⟩
                    simp only [e3]
                    have hS8 := trS_on hS7 hb8
                    clear hS7 hb8 e3
                    have hS9 := trS_on hS8 (nbAlloc (Below.refl w8.heap.size w8) (.cells #[.int .i64 lo, .int .i64 tl] 27))
                    go_wp2_with fail
                    go_roundw
                    case rel => exact ⟨i + 1, by go_num, by rw [HX.out], by rw [HC.out], by omega, ⟨hS9.1, hS9.2.1, hS9.2.2.1, hS9.2.2.2.1, hS9.2.2.2.2.1, hS9.2.2.2.2.2.2.2.2.2.2.2.1, hS9.2.2.2.2.2.2.2.2.2.2.2.2.1, hS9.2.2.2.2.2.2.2.2.2.2.2.2.2.1, hS9.2.2.2.2.2.2.2.2.2.2.2.2.2.2.1, hS9.2.2.2.2.2.2.2.2.2.2.2.2.2.2.2⟩⟩
                    case measure => simp [intOf]; omega
            · as_aux_lemma =>
                have e2 : pastA s j m g o true tl th Pp = 0 := by
                  simp only [pastA, hq3, hin, Bool.and_self, if_true]
                  rw [if_neg (by omega), if_neg (by omega)]
                refine (implPast_c _ _ _ _ _ _ _ _ _ _ _ _ _).mono ?_
                rintro e w7 ⟨rfl, hb7⟩
                simp only [e2]
                have hS7 := trS_on hS6 hb7
                clear hS6 hb7 e2
                clear c0 c1 c2 c3 c4 c5 c6 c7 c8 c9 c10
                have c0 : w7.cell? ⟨p5, 0, none⟩ = some (.int .i64 s) := hS7.1
                have c1 : w7.cell? ⟨p5, 1, none⟩ = some (.int .i64 j) := hS7.2.1
                have c2 : w7.cell? ⟨p5, 2, none⟩ = some (.int .i64 m) := hS7.2.2.1
                have c3 : w7.cell? ⟨p5, 3, none⟩ = some (.int .i64 g) := hS7.2.2.2.1
                have c4 : w7.cell? ⟨p5, 4, none⟩ = some (.int .i64 o) := hS7.2.2.2.2.1
                have c5 : w7.cell? ⟨p18, 0, none⟩ = some (.bool true) := hS7.2.2.2.2.2.1
                have c6 : w7.cell? ⟨p18, 1, none⟩ = some (.int .i64 tl) := hS7.2.2.2.2.2.2.1
                have c7 : w7.cell? ⟨p18, 2, none⟩ = some (.int .i64 th) := hS7.2.2.2.2.2.2.2.1
                have c8 : w7.cell? ⟨p18, 3, none⟩ = some (.int .i64 tsi) := hS7.2.2.2.2.2.2.2.2.1
                have c9 : w7.cell? ⟨p18, 4, none⟩ = some (.int .i64 tla) := hS7.2.2.2.2.2.2.2.2.2.1
                have c10 : w7.cell? ⟨p18, 5, none⟩ = some (.int .i64 0) := hS7.2.2.2.2.2.2.2.2.2.2.1
                go_wp2_with fail
                by_cases hly : tl < lo
                · as_aux_lemma =>
                    have e3 : surelyA s j m g o true tl th = (1, 0) := by
                      simp only [surelyA, hq3, if_true, ← hlo.out]
                      rw [if_pos hly]
                    refine (implSurely_c _ _ _ _ _ _ _ _ _ _ _ _).mono ?_
                    rintro e w8 ⟨rfl, hb8⟩
                    simp only [e3]
                    have hS8 := trS_on hS7 hb8
                    clear hS7 hb8 e3
                    have hS9 := trS_on hS8 (nbAlloc (Below.refl w8.heap.size w8) (.cells #[.int .i64 1, .int .i64 0] 27))
                    go_wp2_with fail
                    go_roundw
                    case rel => exact ⟨i + 1, by go_num, by rw [HX.out], by rw [HC.out], by omega, ⟨hS9.1, hS9.2.1, hS9.2.2.1, hS9.2.2.2.1, hS9.2.2.2.2.1, hS9.2.2.2.2.2.2.2.2.2.2.2.1, hS9.2.2.2.2.2.2.2.2.2.2.2.2.1, hS9.2.2.2.2.2.2.2.2.2.2.2.2.2.1, hS9.2.2.2.2.2.2.2.2.2.2.2.2.2.2.1, hS9.2.2.2.2.2.2.2.2.2.2.2.2.2.2.2⟩⟩
                    case measure => simp [intOf]; omega
                · have hlz : lo ≤ tl := by omega
                  as_aux_lemma =>
                    have e3 : surelyA s j m g o true tl th = (lo, tl) := by
                      simp only [surelyA, hq3, if_true, ← hlo.out]
                      rw [if_neg hly]
                    refine (implSurely_c _ _ _ _ _ _ _ _ _ _ _ _).mono ?_
                    rintro e w8 ⟨rfl, hb8⟩
                    simp only [e3]
                    have hS8 := trS_on hS7 hb8
                    clear hS7 hb8 e3
                    have hS9 := trS_on hS8 (nbAlloc (Below.refl w8.heap.size w8) (.cells #[.int .i64 lo, .int .i64 tl] 27))
                    go_wp2_with fail
                    go_roundw
                    case rel => exact ⟨i + 1, by go_num, by rw [HX.out], by rw [HC.out], by omega, ⟨hS9.1, hS9.2.1, hS9.2.2.1, hS9.2.2.2.1, hS9.2.2.2.2.1, hS9.2.2.2.2.2.2.2.2.2.2.2.1, hS9.2.2.2.2.2.2.2.2.2.2.2.2.1, hS9.2.2.2.2.2.2.2.2.2.2.2.2.2.1, hS9.2.2.2.2.2.2.2.2.2.2.2.2.2.2.1, hS9.2.2.2.2.2.2.2.2.2.2.2.2.2.2.2⟩⟩
                    case measure => simp [intOf]; omega

      · have hil : i = el := by omega
        subst hil
        go_wp2_with fail
        go_ret
        exact ⟨rfl, hC.2.2.2.2.2.2.2.2.2⟩


end Go.Proofs.YtmhppadblddjoaaDoor

