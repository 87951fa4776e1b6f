import Derived.Test.YtmhppadblddjoaaDoorZTopDec
import Derived.Test.YtmhppadblddjoaaDoorZTopDoS
import Derived.Test.YtmhppadblddjoaaDoorZTopDr3
import Derived.Test.YtmhppadblddjoaaDoorZTopIRunS
/- The top law: drawn events have the model's states, nothing is shared. The program's Answer as a premise. -/
namespace Go.Proofs.YtmhppadblddjoaaDoor
open Go.RowKit
set_option linter.unusedVariables false

theorem allRow_of {w : World} {B N : Nat} {v : Value} {e : TypeId} {ys : List Value} (h : w.ownsRow B e 2 v N ys) (hi : AllInt ys) : ∃ ad cap, v = .slice ad N cap ∧ ∃ f a, SRow w ad N f a := by
  obtain ⟨ad, cap, rfl⟩ := own_slice h
  refine ⟨ad, cap, rfl, ?_⟩
  by_cases hN : N = 0
  · exact ⟨fun _ => 0, fun _ => 0, .inl hN⟩
  · obtain ⟨g, -, rfl, -⟩ := own_get h hi (show 0 < N by omega)
    have hc : ∀ o : Nat, ∃ x : Int, o < N * 2 → w.cell? ⟨g, o, none⟩ = some (.int .i64 x) := fun o => by
      by_cases ho : o < N * 2
      · obtain ⟨x, hx⟩ := own_cell h hi ho
        exact ⟨x, fun _ => hx⟩
      · exact ⟨0, fun h => absurd h ho⟩
    refine ⟨fun i => (hc (i * 2)).choose, fun i => (hc (i * 2 + 1)).choose, .inr ⟨g, 0, rfl, fun i hi => ⟨?_, ?_⟩⟩⟩
    · rw [Nat.zero_add]; exact (hc (i * 2)).choose_spec (by omega)
    · rw [Nat.zero_add]; exact (hc (i * 2 + 1)).choose_spec (by omega)

theorem run_numT {s j m g o : Int} {len : Nat} {f a : Nat → Int} {l h : Int} {fe ge : Nat → Int} {el : Nat} (hok : runOk s j m g o len f a l h fe ge el = true) : Hid (∀ i, i < el → StNum (runSt s j m g o len f a l h fe ge (i + 1))) := fun i hi => by
  unfold runOk at hok
  simp only [Bool.and_eq_true, decide_eq_true_eq] at hok
  obtain ⟨⟨⟨⟨hr, hbk⟩, hmk⟩, -⟩, hto⟩ := hok
  obtain ⟨-, h1, h2, h3, h4, h5⟩ := st_all (run_st hr hbk hmk hto (i + 1) (by omega))
  have hml := marks_len hmk
  cases hk : (runSt s j m g o len f a l h fe ge (i + 1)).kn
  · obtain ⟨e1, e2, e3⟩ := h5 hk
    exact ⟨by omega, by omega, h2, by omega, h3⟩
  · obtain ⟨e1, e2, e3⟩ := h4 hk
    exact ⟨by omega, by omega, h2, by omega, h3⟩

theorem top_pack {s j m g o x y : Int} {mv : Value} {N : Nat} {ys : List Value} {lv : Value} {el : Nat} {zs : List Value} {w1 : World} {B : Nat} (w0 : World) (hN : N ≤ 101) (hM : w1.ownsRow B 111 2 mv N ys) (hiy : AllInt ys) (hel : el ≤ 2001) (hE : w1.ownsRow B 48 2 lv el zs) (hiz : AllInt zs)
    (HA : Hid (∀ (s j m g o : Int) (mv : Value) (l h : Int) (xv : Value) (n : Nat) (T : Nat → St) (wz : World), Below w0.heap.size w0 wz → n ≤ 2000 → Hid (∀ i, i < n → StNum (T i)) → Hid (∀ w', Below wz.heap.size wz w' → Calls Tryd.prog 8 #[.agg #[.int .i64 s, .int .i64 j, .int .i64 m, .int .i64 g, .int .i64 o], mv, .agg #[.int .i64 l, .int .i64 h], xv] w' fun e w'' => ∃ v, e = .returned v ∧ StRow w'' w'.heap.size v n T ∧ Below w'.heap.size w' w'') → Calls Tryd.prog 10 #[.agg #[.int .i64 s, .int .i64 j, .int .i64 m, .int .i64 g, .int .i64 o], mv, .agg #[.int .i64 l, .int .i64 h], xv] wz fun e w' => e = .returned (.string (ansB T n)) ∧ Below wz.heap.size wz w')) :
    ∃ (ad : Option Addr) (mc : Nat) (f a : Nat → Int) (ae : Option Addr) (ec : Nat) (fe ge : Nat → Int) (n : Nat) (T : Nat → St) (A : ByteArray), mv = .slice ad N mc ∧ lv = .slice ae el ec ∧ Hid (SRow w1 ad N f a) ∧ Hid (SRow w1 ae el fe ge) ∧ n ≤ 2000 ∧
      Hid (∀ w, SRow w ad N f a → SRow w ae el fe ge → Calls Tryd.prog 7 #[.agg #[.int .i64 s, .int .i64 j, .int .i64 m, .int .i64 g, .int .i64 o], .slice ad N mc, .agg #[.int .i64 x, .int .i64 y], .slice ae el ec] w fun e w' => ∃ v, e = .returned v ∧ StRow w' w.heap.size v n T ∧ Below w.heap.size w w') ∧ Hid (∀ w, SRow w ad N f a → SRow w ae el fe ge → Calls Tryd.prog 8 #[.agg #[.int .i64 s, .int .i64 j, .int .i64 m, .int .i64 g, .int .i64 o], .slice ad N mc, .agg #[.int .i64 x, .int .i64 y], .slice ae el ec] w fun e w' => ∃ v, e = .returned v ∧ StRow w' w.heap.size v n T ∧ Below w.heap.size w w') ∧ Hid (∀ w, SRow w ad N f a → SRow w ae el fe ge → Calls Tryd.prog 11 #[.agg #[.int .i64 s, .int .i64 j, .int .i64 m, .int .i64 g, .int .i64 o], .slice ad N mc, .agg #[.int .i64 x, .int .i64 y], .slice ae el ec] w fun e w' => e = .returned (.string A) ∧ Below w.heap.size w w') ∧ Hid (∀ w, Below w0.heap.size w0 w → SRow w ad N f a → SRow w ae el fe ge → Calls Tryd.prog 10 #[.agg #[.int .i64 s, .int .i64 j, .int .i64 m, .int .i64 g, .int .i64 o], .slice ad N mc, .agg #[.int .i64 x, .int .i64 y], .slice ae el ec] w fun e w' => e = .returned (.string A) ∧ Below w.heap.size w w') ∧ Hid (∀ i, i < n → ∀ w, SRow w ad N f a → Calls Tryd.prog 12 #[.slice ad N mc, .agg #[.bool (T i).kn, .int .i64 (T i).l, .int .i64 (T i).h, .int .i64 (T i).si, .int .i64 (T i).la, .int .i64 (T i).od]] w fun e w' => e = .returned (.bool true) ∧ Below w.heap.size w w') := by
  obtain ⟨ad, mc, rfl, f, a, hrow⟩ := allRow_of hM hiy
  obtain ⟨ae, ec, rfl, fe, ge, hev⟩ := allRow_of hE hiz
  cases hok : runOk s j m g o N f a x y fe ge el
  · have h1 : ∀ w, SRow w ad N f a → SRow w ae el fe ge → Calls Tryd.prog 7 #[.agg #[.int .i64 s, .int .i64 j, .int .i64 m, .int .i64 g, .int .i64 o], .slice ad N mc, .agg #[.int .i64 x, .int .i64 y], .slice ae el ec] w fun e w' => ∃ v, e = .returned v ∧ StRow w' w.heap.size v 0 (fun _ => ⟨false, 0, 0, 0, 0, 0⟩) ∧ Below w.heap.size w w' :=
      fun w h1 h2 => (specRun_badS ad N mc f a ae el ec fe ge s j m g o x y w (by omega) h1 (by omega) h2 hok).mono fun e w' hh => ⟨_, hh.1, ⟨none, 0, rfl, .inl rfl⟩, hh.2⟩
    have h2 : ∀ w, SRow w ad N f a → SRow w ae el fe ge → Calls Tryd.prog 8 #[.agg #[.int .i64 s, .int .i64 j, .int .i64 m, .int .i64 g, .int .i64 o], .slice ad N mc, .agg #[.int .i64 x, .int .i64 y], .slice ae el ec] w fun e w' => ∃ v, e = .returned v ∧ StRow w' w.heap.size v 0 (fun _ => ⟨false, 0, 0, 0, 0, 0⟩) ∧ Below w.heap.size w w' :=
      fun w h1 h2 => (implRun_badS ad N mc f a ae el ec fe ge s j m g o x y w (by omega) h1 (by omega) h2 hok).mono fun e w' hh => ⟨_, hh.1, ⟨none, 0, rfl, .inl rfl⟩, hh.2⟩
    exact ⟨ad, mc, f, a, ae, ec, fe, ge, 0, fun _ => ⟨false, 0, 0, 0, 0, 0⟩, ansB (fun _ => ⟨false, 0, 0, 0, 0, 0⟩) 0, rfl, rfl, hrow, hev, by omega, h1, h2,
      fun w g1 g2 => specAnswer_m s j m g o _ x y _ 0 _ w (by omega) (fun i hi => absurd hi (by omega)) (fun w' hb => h1 w' (g1.on hb) (g2.on hb)),
      fun w g0 g1 g2 => HA.out s j m g o _ x y _ 0 _ w g0 (by omega) (fun i hi => absurd hi (by omega)) (fun w' hb => h2 w' (g1.on hb) (g2.on hb)),
      fun i hi => absurd hi (by omega)⟩
  · have hN9 := run_numT hok
    have hk := hok
    unfold runOk at hk
    simp only [Bool.and_eq_true, decide_eq_true_eq] at hk
    obtain ⟨⟨⟨⟨hr, hbk⟩, hmk⟩, h2k⟩, hto⟩ := hk
    have h1 : ∀ w, SRow w ad N f a → SRow w ae el fe ge → Calls Tryd.prog 7 #[.agg #[.int .i64 s, .int .i64 j, .int .i64 m, .int .i64 g, .int .i64 o], .slice ad N mc, .agg #[.int .i64 x, .int .i64 y], .slice ae el ec] w fun e w' => ∃ v, e = .returned v ∧ StRow w' w.heap.size v el (fun i => runSt s j m g o N f a x y fe ge (i + 1)) ∧ Below w.heap.size w w' :=
      fun w h1 h2 => (specRun_okS ad N mc f a ae el ec fe ge s j m g o x y w (by omega) h1 (by omega) h2 hok).mono fun e w' ⟨v, hv, hh⟩ => ⟨v, hv, stRow_of hh.1, hh.2⟩
    have h2 : ∀ w, SRow w ad N f a → SRow w ae el fe ge → Calls Tryd.prog 8 #[.agg #[.int .i64 s, .int .i64 j, .int .i64 m, .int .i64 g, .int .i64 o], .slice ad N mc, .agg #[.int .i64 x, .int .i64 y], .slice ae el ec] w fun e w' => ∃ v, e = .returned v ∧ StRow w' w.heap.size v el (fun i => runSt s j m g o N f a x y fe ge (i + 1)) ∧ Below w.heap.size w w' :=
      fun w h1 h2 => (implRun_okS ad N mc f a ae el ec fe ge s j m g o x y w (by omega) h1 (by omega) h2 hok).mono fun e w' ⟨v, hv, hh⟩ => ⟨v, hv, stRow_of hh.1, hh.2⟩
    refine ⟨ad, mc, f, a, ae, ec, fe, ge, el, fun i => runSt s j m g o N f a x y fe ge (i + 1), ansB (fun i => runSt s j m g o N f a x y fe ge (i + 1)) el, rfl, rfl, hrow, hev, by omega, h1, h2,
      fun w g1 g2 => specAnswer_m s j m g o _ x y _ el _ w h2k hN9 (fun w' hb => h1 w' (g1.on hb) (g2.on hb)),
      fun w g0 g1 g2 => HA.out s j m g o _ x y _ el _ w g0 h2k hN9 (fun w' hb => h2 w' (g1.on hb) (g2.on hb)), ?_⟩
    intro i hi w hw
    have h3 := implStateOk_c ad N mc (marksB f a N) (runSt s j m g o N f a x y fe ge (i + 1)).kn (runSt s j m g o N f a x y fe ge (i + 1)).l (runSt s j m g o N f a x y fe ge (i + 1)).h (runSt s j m g o N f a x y fe ge (i + 1)).si (runSt s j m g o N f a x y fe ge (i + 1)).la (runSt s j m g o N f a x y fe ge (i + 1)).od w (by omega) (fun w' hb => implMarksOk_s ad N mc f a w' (by omega) (hw.on hb))
    rwa [run_st hr hbk hmk hto (i + 1) (by omega)] at h3

def wsC (w : World) (p q k : Nat) (t : St) : World → Prop := fun w' => w'.cell? ⟨p, k * 6, none⟩ = some (.bool t.kn) ∧ w'.cell? ⟨p, k * 6 + 1, none⟩ = some (.int .i64 t.l) ∧ w'.cell? ⟨p, k * 6 + 2, none⟩ = some (.int .i64 t.h) ∧ w'.cell? ⟨p, k * 6 + 3, none⟩ = some (.int .i64 t.si) ∧ w'.cell? ⟨p, k * 6 + 4, none⟩ = some (.int .i64 t.la) ∧ w'.cell? ⟨p, k * 6 + 5, none⟩ = some (.int .i64 t.od) ∧ w'.cell? ⟨q, k * 6, none⟩ = some (.bool t.kn) ∧ w'.cell? ⟨q, k * 6 + 1, none⟩ = some (.int .i64 t.l) ∧ w'.cell? ⟨q, k * 6 + 2, none⟩ = some (.int .i64 t.h) ∧ w'.cell? ⟨q, k * 6 + 3, none⟩ = some (.int .i64 t.si) ∧ w'.cell? ⟨q, k * 6 + 4, none⟩ = some (.int .i64 t.la) ∧ w'.cell? ⟨q, k * 6 + 5, none⟩ = some (.int .i64 t.od) ∧ Below w.heap.size w w'
theorem wsC_on {w : World} {p q k : Nat} {t : St} {w1 w2 : World} (hh : wsC w p q k t w1) (hb : Below w1.heap.size w1 w2) : wsC w p q k t w2 :=
  ⟨cellOn hb hh.1, cellOn hb hh.2.1, cellOn hb hh.2.2.1, cellOn hb hh.2.2.2.1, cellOn hb hh.2.2.2.2.1, cellOn hb hh.2.2.2.2.2.1, cellOn hb hh.2.2.2.2.2.2.1, cellOn hb hh.2.2.2.2.2.2.2.1, cellOn hb hh.2.2.2.2.2.2.2.2.1, cellOn hb hh.2.2.2.2.2.2.2.2.2.1, cellOn hb hh.2.2.2.2.2.2.2.2.2.2.1, cellOn hb hh.2.2.2.2.2.2.2.2.2.2.2.1, nbTrans hh.2.2.2.2.2.2.2.2.2.2.2.2 hb⟩

theorem neqSt (t : St) (w : World) : (binOp .neq 37 (.agg #[.bool t.kn, .int .i64 t.l, .int .i64 t.h, .int .i64 t.si, .int .i64 t.la, .int .i64 t.od]) (.agg #[.bool t.kn, .int .i64 t.l, .int .i64 t.h, .int .i64 t.si, .int .i64 t.la, .int .i64 t.od])).run Tryd.prog w = .ok (.bool false) w := by
  go_simp
set_option maxHeartbeats 2000000 in
theorem wStates_c {p q n : Nat} {u v : Value} {T : Nat → St} (w : World) (hl : n ≤ 1048576) (h1 : StAt w p u n T) (h2 : StAt w q v n T) :
    Calls Tryd.prog 9 #[u, v] w fun e w' => e = .returned (.bool true) ∧ Below w.heap.size w w' := by
  obtain ⟨a1, c1, rfl, h1⟩ := h1
  obtain ⟨a2, c2, rfl, h2⟩ := h2
  have g1 : 0 < n → a1 = some ⟨p, 0, none⟩ ∧ Row6 w p n T := fun hn => by
    rcases h1 with h | ⟨h, h', -⟩
    · omega
    · exact ⟨h, h'⟩
  have g2 : 0 < n → a2 = some ⟨q, 0, none⟩ ∧ Row6 w q n T := fun hn => by
    rcases h2 with h | ⟨h, h', -⟩
    · omega
    · exact ⟨h, h'⟩
  clear h1 h2
  go_enter Tryd.func9, Tryd.ntmps9
  go_wp2_with fail
  go_loopw [13] (fun iv wr => ∃ k : Nat, iv = .int .i64 k ∧ k ≤ n ∧ Below w.heap.size w wr) (fun iv _ => n - (intOf iv).toNat)
  case atStart => exact ⟨0, rfl, by omega, Below.refl _ _⟩
  case round =>
    obtain ⟨k, rfl, hk, hB⟩ := hrel
    by_cases hlt : k < n
    · have i0 : (0 : Int) ≤ (k : Int) := by omega
      have i1 : (k : Int) < (n : Int) := by omega
      have e1 := (g1 (by omega)).1
      have r1 := (g1 (by omega)).2.on hB
      have e2 := (g2 (by omega)).1
      have r2 := (g2 (by omega)).2.on hB
      subst e1 e2
      have hC : wsC w p q k (T k) wr := ⟨(r1 k hlt).1, (r1 k hlt).2.1, (r1 k hlt).2.2.1, (r1 k hlt).2.2.2.1, (r1 k hlt).2.2.2.2.1, (r1 k hlt).2.2.2.2.2, (r2 k hlt).1, (r2 k hlt).2.1, (r2 k hlt).2.2.1, (r2 k hlt).2.2.2.1, (r2 k hlt).2.2.2.2.1, (r2 k hlt).2.2.2.2.2, hB⟩
      have hne := neqSt (T k)
      clear r1 r2 g1 g2
      go_wp2_with fail
      refine region_kept (wsC w p q k (T k)) (by kernel_rfl) (by kernel_rfl) (wsC_on hC (Below.drew (Below.refl _ _))) ?_
      intro hN
      have k0 : ∀ d : Kept (wsC w p q k (T k)), d.w.cell? ⟨p, k * 6, none⟩ = some (.bool (T k).kn) := fun d => d.h.1
      have k1 : ∀ d : Kept (wsC w p q k (T k)), d.w.cell? ⟨p, k * 6 + 1, none⟩ = some (.int .i64 (T k).l) := fun d => d.h.2.1
      have k2 : ∀ d : Kept (wsC w p q k (T k)), d.w.cell? ⟨p, k * 6 + 2, none⟩ = some (.int .i64 (T k).h) := fun d => d.h.2.2.1
      have k3 : ∀ d : Kept (wsC w p q k (T k)), d.w.cell? ⟨p, k * 6 + 3, none⟩ = some (.int .i64 (T k).si) := fun d => d.h.2.2.2.1
      have k4 : ∀ d : Kept (wsC w p q k (T k)), d.w.cell? ⟨p, k * 6 + 4, none⟩ = some (.int .i64 (T k).la) := fun d => d.h.2.2.2.2.1
      have k5 : ∀ d : Kept (wsC w p q k (T k)), d.w.cell? ⟨p, k * 6 + 5, none⟩ = some (.int .i64 (T k).od) := fun d => d.h.2.2.2.2.2.1
      have k6 : ∀ d : Kept (wsC w p q k (T k)), d.w.cell? ⟨q, k * 6, none⟩ = some (.bool (T k).kn) := fun d => d.h.2.2.2.2.2.2.1
      have k7 : ∀ d : Kept (wsC w p q k (T k)), d.w.cell? ⟨q, k * 6 + 1, none⟩ = some (.int .i64 (T k).l) := fun d => d.h.2.2.2.2.2.2.2.1
      have k8 : ∀ d : Kept (wsC w p q k (T k)), d.w.cell? ⟨q, k * 6 + 2, none⟩ = some (.int .i64 (T k).h) := fun d => d.h.2.2.2.2.2.2.2.2.1
      have k9 : ∀ d : Kept (wsC w p q k (T k)), d.w.cell? ⟨q, k * 6 + 3, none⟩ = some (.int .i64 (T k).si) := fun d => d.h.2.2.2.2.2.2.2.2.2.1
      have k10 : ∀ d : Kept (wsC w p q k (T k)), d.w.cell? ⟨q, k * 6 + 4, none⟩ = some (.int .i64 (T k).la) := fun d => d.h.2.2.2.2.2.2.2.2.2.2.1
      have k11 : ∀ d : Kept (wsC w p q k (T k)), d.w.cell? ⟨q, k * 6 + 5, none⟩ = some (.int .i64 (T k).od) := fun d => d.h.2.2.2.2.2.2.2.2.2.2.2.1
      repeat (go_big_quiet_step (first | exact rfl))
      refine wpQuiet_nil ?_
      rintro _ ⟨⟨w1, hd⟩, rfl⟩
      clear k0 k1 k2 k3 k4 k5 k6 k7 k8 k9 k10 k11
      go_wp2_with fail
      go_roundw
      case rel => exact ⟨k + 1, by go_num, by omega, hd.2.2.2.2.2.2.2.2.2.2.2.2⟩
      case measure => simp [intOf]; omega
    · go_wp2_with fail
      go_ret
      exact ⟨rfl, hB⟩

/-- The states behind which i are written over. -/
def Tm (T : Nat → St) (i : Nat) : Nat → St := fun k => if k < i then ⟨(T k).kn, (T k).l, (T k).h, (T k).si, (T k).la, 77⟩ else T k
theorem st_mark {w : World} {q n i : Nat} {v : Value} {T : Nat → St} (h : StAt w q v n (Tm T i)) (hi : i < n) : StAt (w.setCell ⟨q, i * 6 + 5, none⟩ (.int .i64 77)) q v n (Tm T (i + 1)) := by
  obtain ⟨a, cap, hv, h0 | ⟨ha, h1, h2⟩⟩ := h
  · omega
  · refine ⟨a, cap, hv, .inr ⟨ha, fun k hk => ?_, fun k hk => (World.frozen?_setCell _ _ _ _).trans (h2 k hk)⟩⟩
    have g := h1 k hk
    by_cases hki : k = i
    · subst hki
      have e1 : Tm T k k = T k := by simp [Tm]
      have e2 : Tm T (k + 1) k = ⟨(T k).kn, (T k).l, (T k).h, (T k).si, (T k).la, 77⟩ := by simp [Tm]
      rw [e1] at g
      rw [e2]
      exact ⟨(World.cell?_setCell_other _ _ _ _ (neOff (by omega))).trans g.1, (World.cell?_setCell_other _ _ _ _ (neOff (by omega))).trans g.2.1, (World.cell?_setCell_other _ _ _ _ (neOff (by omega))).trans g.2.2.1, (World.cell?_setCell_other _ _ _ _ (neOff (by omega))).trans g.2.2.2.1, (World.cell?_setCell_other _ _ _ _ (neOff (by omega))).trans g.2.2.2.2.1, World.cell?_setCell_same _ _ _ g.2.2.2.2.2⟩
    · have e1 : Tm T (i + 1) k = Tm T i k := by
        have : (k < i + 1) = (k < i) := by simp; omega
        simp [Tm, this]
      rw [e1]
      exact ⟨(World.cell?_setCell_other _ _ _ _ (neOff (by omega))).trans g.1, (World.cell?_setCell_other _ _ _ _ (neOff (by omega))).trans g.2.1, (World.cell?_setCell_other _ _ _ _ (neOff (by omega))).trans g.2.2.1, (World.cell?_setCell_other _ _ _ _ (neOff (by omega))).trans g.2.2.2.1, (World.cell?_setCell_other _ _ _ _ (neOff (by omega))).trans g.2.2.2.2.1, (World.cell?_setCell_other _ _ _ _ (neOff (by omega))).trans g.2.2.2.2.2⟩

def toC (w : World) (s j m g o x y : Int) (p3 p5 : Nat) (ad : Option Addr) (N : Nat) (f a : Nat → Int) (ae : Option Addr) (el : Nat) (fe ge : Nat → Int) : World → Prop := fun w' => w'.cell? ⟨p3, 0, none⟩ = some (.int .i64 s) ∧ w'.cell? ⟨p3, 1, none⟩ = some (.int .i64 j) ∧ w'.cell? ⟨p3, 2, none⟩ = some (.int .i64 m) ∧ w'.cell? ⟨p3, 3, none⟩ = some (.int .i64 g) ∧ w'.cell? ⟨p3, 4, none⟩ = some (.int .i64 o) ∧ w'.cell? ⟨p5, 0, none⟩ = some (.int .i64 x) ∧ w'.cell? ⟨p5, 1, none⟩ = some (.int .i64 y) ∧ SRow w' ad N f a ∧ SRow w' ae el fe ge ∧ Below w.heap.size w w'
theorem toC_on {w : World} {s j m g o x y : Int} {p3 p5 : Nat} {ad : Option Addr} {N : Nat} {f a : Nat → Int} {ae : Option Addr} {el : Nat} {fe ge : Nat → Int} {w1 w2 : World} (hh : toC w s j m g o x y p3 p5 ad N f a ae el fe ge w1) (hb : Below w1.heap.size w1 w2) : toC w s j m g o x y p3 p5 ad N f a ae el fe ge w2 :=
  ⟨cellOn hb hh.1, cellOn hb hh.2.1, cellOn hb hh.2.2.1, cellOn hb hh.2.2.2.1, cellOn hb hh.2.2.2.2.1, cellOn hb hh.2.2.2.2.2.1, cellOn hb hh.2.2.2.2.2.2.1, hh.2.2.2.2.2.2.2.1.on hb, hh.2.2.2.2.2.2.2.2.1.on hb, nbTrans hh.2.2.2.2.2.2.2.2.2 hb⟩

def toD (w : World) (s j m g o x y : Int) (p3 p5 : Nat) (ad : Option Addr) (N : Nat) (f a : Nat → Int) (ae : Option Addr) (el : Nat) (fe ge : Nat → Int) (q7 : Nat) (v7 : Value) (q8 : Nat) (v8 : Value) (n : Nat) (T : Nat → St) : World → Prop := fun w' => w'.cell? ⟨p3, 0, none⟩ = some (.int .i64 s) ∧ w'.cell? ⟨p3, 1, none⟩ = some (.int .i64 j) ∧ w'.cell? ⟨p3, 2, none⟩ = some (.int .i64 m) ∧ w'.cell? ⟨p3, 3, none⟩ = some (.int .i64 g) ∧ w'.cell? ⟨p3, 4, none⟩ = some (.int .i64 o) ∧ w'.cell? ⟨p5, 0, none⟩ = some (.int .i64 x) ∧ w'.cell? ⟨p5, 1, none⟩ = some (.int .i64 y) ∧ SRow w' ad N f a ∧ SRow w' ae el fe ge ∧ StAt w' q7 v7 n T ∧ StAt w' q8 v8 n T ∧ Below w.heap.size w w'
theorem toD_on {w : World} {s j m g o x y : Int} {p3 p5 : Nat} {ad : Option Addr} {N : Nat} {f a : Nat → Int} {ae : Option Addr} {el : Nat} {fe ge : Nat → Int} {q7 : Nat} {v7 : Value} {q8 : Nat} {v8 : Value} {n : Nat} {T : Nat → St} {w1 w2 : World} (hh : toD w s j m g o x y p3 p5 ad N f a ae el fe ge q7 v7 q8 v8 n T w1) (hb : Below w1.heap.size w1 w2) : toD w s j m g o x y p3 p5 ad N f a ae el fe ge q7 v7 q8 v8 n T w2 :=
  ⟨cellOn hb hh.1, cellOn hb hh.2.1, cellOn hb hh.2.2.1, cellOn hb hh.2.2.2.1, cellOn hb hh.2.2.2.2.1, cellOn hb hh.2.2.2.2.2.1, cellOn hb hh.2.2.2.2.2.2.1, hh.2.2.2.2.2.2.2.1.on hb, hh.2.2.2.2.2.2.2.2.1.on hb, hh.2.2.2.2.2.2.2.2.2.1.on hb, hh.2.2.2.2.2.2.2.2.2.2.1.on hb, nbTrans hh.2.2.2.2.2.2.2.2.2.2.2 hb⟩

def toD2 (wx : World) (w : World) (s j m g o x y : Int) (p3 p5 : Nat) (ad : Option Addr) (N : Nat) (f a : Nat → Int) (ae : Option Addr) (el : Nat) (fe ge : Nat → Int) (q7 : Nat) (v7 : Value) (q8 : Nat) (v8 : Value) (n : Nat) (T : Nat → St) : World → Prop := fun w' => toD w s j m g o x y p3 p5 ad N f a ae el fe ge q7 v7 q8 v8 n T w' ∧ Below wx.heap.size wx w'
theorem toD2_on {wx : World} {w : World} {s j m g o x y : Int} {p3 p5 : Nat} {ad : Option Addr} {N : Nat} {f a : Nat → Int} {ae : Option Addr} {el : Nat} {fe ge : Nat → Int} {q7 : Nat} {v7 : Value} {q8 : Nat} {v8 : Value} {n : Nat} {T : Nat → St} {w1 w2 : World} (hh : toD2 wx w s j m g o x y p3 p5 ad N f a ae el fe ge q7 v7 q8 v8 n T w1) (hb : Below w1.heap.size w1 w2) : toD2 wx w s j m g o x y p3 p5 ad N f a ae el fe ge q7 v7 q8 v8 n T w2 := ⟨toD_on hh.1 hb, nbTrans hh.2 hb⟩

set_option maxRecDepth 100000 in
set_option maxHeartbeats 4000000 in
theorem top_in (a0 : Option Addr) (len0 cap0 : Nat) (w : World) (hl0 : len0 ≤ 1048576) (hb0 : Bytes w a0 len0)
    (HA : Hid (∀ (s j m g o : Int) (mv : Value) (l h : Int) (xv : Value) (n : Nat) (T : Nat → St) (wz : World), Below w.heap.size w wz → n ≤ 2000 → Hid (∀ i, i < n → StNum (T i)) → Hid (∀ w', Below wz.heap.size wz w' → Calls Tryd.prog 8 #[.agg #[.int .i64 s, .int .i64 j, .int .i64 m, .int .i64 g, .int .i64 o], mv, .agg #[.int .i64 l, .int .i64 h], xv] w' fun e w'' => ∃ v, e = .returned v ∧ StRow w'' w'.heap.size v n T ∧ Below w'.heap.size w' w'') → Calls Tryd.prog 10 #[.agg #[.int .i64 s, .int .i64 j, .int .i64 m, .int .i64 g, .int .i64 o], mv, .agg #[.int .i64 l, .int .i64 h], xv] wz fun e w' => e = .returned (.string (ansB T n)) ∧ Below wz.heap.size wz w')) :
    Calls Tryd.prog 3 #[.slice a0 len0 cap0] w fun e w' => e = .returned (.bool true) ∧ Below w.heap.size w w' := by
  have i0 : ¬ (1048576 : Int) < (len0 : Int) := by omega
  go_enter Tryd.func3, Tryd.ntmps3
  go_wp2_with fail
  refine (drawRun_d a0 len0 cap0 _ hb0).mono ?_
  rintro e w1 ⟨s, j, m, g, o, mv, N, ys, x, y, lv, el, zs, rfl, hN, hM, hiy, hel, hE, hiz, hB1⟩
  refine Later.now ?_
  obtain ⟨ad, mc, f, a, ae, ec, fe, ge, n, T, A, rfl, rfl, hrow, hev, hn, HRs, HRi, HAs, HAi, HSO⟩ := top_pack (s := s) (j := j) (m := m) (g := g) (o := o) (x := x) (y := y) w hN hM hiy hel hE hiz HA
  have hC : toC w s j m g o x y w1.heap.size (w1.heap.size + 1) ad N f a ae el fe ge ((w1.alloc (.cells #[.int .i64 s, .int .i64 j, .int .i64 m, .int .i64 g, .int .i64 o] 24)).alloc (.cells #[.int .i64 x, .int .i64 y] 27)) :=
    ⟨by go_simp, by go_simp, by go_simp, by go_simp, by go_simp, by go_simp, by go_simp, hrow.out.on (nbAlloc (nbAlloc (Below.refl _ _) _) _), hev.out.on (nbAlloc (nbAlloc (Below.refl _ _) _) _), nbAlloc (nbAlloc hB1 _) _⟩
  clear HA hM hiy hE hiz hB1 hrow hev hb0
  refine ⟨?_⟩
  have c0 : ((w1.alloc (.cells #[.int .i64 s, .int .i64 j, .int .i64 m, .int .i64 g, .int .i64 o] 24)).alloc (.cells #[.int .i64 x, .int .i64 y] 27)).cell? ⟨w1.heap.size, 0, none⟩ = some (.int .i64 s) := hC.1
  have c1 : ((w1.alloc (.cells #[.int .i64 s, .int .i64 j, .int .i64 m, .int .i64 g, .int .i64 o] 24)).alloc (.cells #[.int .i64 x, .int .i64 y] 27)).cell? ⟨w1.heap.size, 1, none⟩ = some (.int .i64 j) := hC.2.1
  have c2 : ((w1.alloc (.cells #[.int .i64 s, .int .i64 j, .int .i64 m, .int .i64 g, .int .i64 o] 24)).alloc (.cells #[.int .i64 x, .int .i64 y] 27)).cell? ⟨w1.heap.size, 2, none⟩ = some (.int .i64 m) := hC.2.2.1
  have c3 : ((w1.alloc (.cells #[.int .i64 s, .int .i64 j, .int .i64 m, .int .i64 g, .int .i64 o] 24)).alloc (.cells #[.int .i64 x, .int .i64 y] 27)).cell? ⟨w1.heap.size, 3, none⟩ = some (.int .i64 g) := hC.2.2.2.1
  have c4 : ((w1.alloc (.cells #[.int .i64 s, .int .i64 j, .int .i64 m, .int .i64 g, .int .i64 o] 24)).alloc (.cells #[.int .i64 x, .int .i64 y] 27)).cell? ⟨w1.heap.size, 4, none⟩ = some (.int .i64 o) := hC.2.2.2.2.1
  have c5 : ((w1.alloc (.cells #[.int .i64 s, .int .i64 j, .int .i64 m, .int .i64 g, .int .i64 o] 24)).alloc (.cells #[.int .i64 x, .int .i64 y] 27)).cell? ⟨w1.heap.size + 1, 0, none⟩ = some (.int .i64 x) := hC.2.2.2.2.2.1
  have c6 : ((w1.alloc (.cells #[.int .i64 s, .int .i64 j, .int .i64 m, .int .i64 g, .int .i64 o] 24)).alloc (.cells #[.int .i64 x, .int .i64 y] 27)).cell? ⟨w1.heap.size + 1, 1, none⟩ = some (.int .i64 y) := hC.2.2.2.2.2.2.1
  go_wp2_with fail
  clear c0 c1 c2 c3 c4 c5 c6
  generalize ((w1.alloc (.cells #[.int .i64 s, .int .i64 j, .int .i64 m, .int .i64 g, .int .i64 o] 24)).alloc (.cells #[.int .i64 x, .int .i64 y] 27)) = w2 at *
  generalize w1.heap.size + 1 = p5 at *
  generalize w1.heap.size = p3 at *
  refine (HRs.out _ hC.2.2.2.2.2.2.2.1 hC.2.2.2.2.2.2.2.2.1).mono ?_
  rintro e w3 ⟨v7, rfl, hv7, hb3⟩
  have hC3 := toC_on hC hb3
  refine Later.now ?_
  obtain ⟨q7, -, hS7⟩ := hv7.at
  clear hC hb3 hv7
  refine ⟨?_⟩
  have c0 : w3.cell? ⟨p3, 0, none⟩ = some (.int .i64 s) := hC3.1
  have c1 : w3.cell? ⟨p3, 1, none⟩ = some (.int .i64 j) := hC3.2.1
  have c2 : w3.cell? ⟨p3, 2, none⟩ = some (.int .i64 m) := hC3.2.2.1
  have c3 : w3.cell? ⟨p3, 3, none⟩ = some (.int .i64 g) := hC3.2.2.2.1
  have c4 : w3.cell? ⟨p3, 4, none⟩ = some (.int .i64 o) := hC3.2.2.2.2.1
  have c5 : w3.cell? ⟨p5, 0, none⟩ = some (.int .i64 x) := hC3.2.2.2.2.2.1
  have c6 : w3.cell? ⟨p5, 1, none⟩ = some (.int .i64 y) := hC3.2.2.2.2.2.2.1
  go_wp2_with fail
  clear c0 c1 c2 c3 c4 c5 c6
  refine (HRi.out _ hC3.2.2.2.2.2.2.2.1 hC3.2.2.2.2.2.2.2.2.1).mono ?_
  rintro e w4 ⟨v8, rfl, hv8, hb4⟩
  refine Later.now ?_
  obtain ⟨q8, hq8, hS8⟩ := hv8.at
  have HC3 : Hid (toC w s j m g o x y p3 p5 ad N f a ae el fe ge w3) := hC3
  have HS7 : Hid (StAt w3 q7 v7 n T) := hS7
  have hC4 := toC_on hC3 hb4
  have hD : toD w s j m g o x y p3 p5 ad N f a ae el fe ge q7 v7 q8 v8 n T w4 := ⟨hC4.1, hC4.2.1, hC4.2.2.1, hC4.2.2.2.1, hC4.2.2.2.2.1, hC4.2.2.2.2.2.1, hC4.2.2.2.2.2.2.1, hC4.2.2.2.2.2.2.2.1, hC4.2.2.2.2.2.2.2.2.1, hS7.on hb4, hS8, hC4.2.2.2.2.2.2.2.2.2⟩
  have HB4 : Hid (Below w3.heap.size w3 w4) := hb4
  clear hC3 hS7 hC4 hS8 hb4 hv8
  refine ⟨?_⟩
  go_wp2_with fail
  have hstr : ∀ w', (binOp .neq 9 (.string A) (.string A)).run Tryd.prog w' = .ok (.bool false) w' := fun w' => by go_simp
  refine region_kept (toD2 w4 w s j m g o x y p3 p5 ad N f a ae el fe ge q7 v7 q8 v8 n T) (by kernel_rfl) (by kernel_rfl) ⟨toD_on hD (Below.drew (Below.refl _ _)), Below.drew (Below.refl _ _)⟩ ?_
  intro hN_
  have k0 : ∀ d : Kept (toD2 w4 w s j m g o x y p3 p5 ad N f a ae el fe ge q7 v7 q8 v8 n T), d.w.cell? ⟨p3, 0, none⟩ = some (.int .i64 s) := fun d => d.h.1.1
  have k1 : ∀ d : Kept (toD2 w4 w s j m g o x y p3 p5 ad N f a ae el fe ge q7 v7 q8 v8 n T), d.w.cell? ⟨p3, 1, none⟩ = some (.int .i64 j) := fun d => d.h.1.2.1
  have k2 : ∀ d : Kept (toD2 w4 w s j m g o x y p3 p5 ad N f a ae el fe ge q7 v7 q8 v8 n T), d.w.cell? ⟨p3, 2, none⟩ = some (.int .i64 m) := fun d => d.h.1.2.2.1
  have k3 : ∀ d : Kept (toD2 w4 w s j m g o x y p3 p5 ad N f a ae el fe ge q7 v7 q8 v8 n T), d.w.cell? ⟨p3, 3, none⟩ = some (.int .i64 g) := fun d => d.h.1.2.2.2.1
  have k4 : ∀ d : Kept (toD2 w4 w s j m g o x y p3 p5 ad N f a ae el fe ge q7 v7 q8 v8 n T), d.w.cell? ⟨p3, 4, none⟩ = some (.int .i64 o) := fun d => d.h.1.2.2.2.2.1
  have k5 : ∀ d : Kept (toD2 w4 w s j m g o x y p3 p5 ad N f a ae el fe ge q7 v7 q8 v8 n T), d.w.cell? ⟨p5, 0, none⟩ = some (.int .i64 x) := fun d => d.h.1.2.2.2.2.2.1
  have k6 : ∀ d : Kept (toD2 w4 w s j m g o x y p3 p5 ad N f a ae el fe ge q7 v7 q8 v8 n T), d.w.cell? ⟨p5, 1, none⟩ = some (.int .i64 y) := fun d => d.h.1.2.2.2.2.2.2.1
  have kM : ∀ d : Kept (toD2 w4 w s j m g o x y p3 p5 ad N f a ae el fe ge q7 v7 q8 v8 n T), SRow d.w ad N f a := fun d => d.h.1.2.2.2.2.2.2.2.1
  have kE : ∀ d : Kept (toD2 w4 w s j m g o x y p3 p5 ad N f a ae el fe ge q7 v7 q8 v8 n T), SRow d.w ae el fe ge := fun d => d.h.1.2.2.2.2.2.2.2.2.1
  have k7 : ∀ d : Kept (toD2 w4 w s j m g o x y p3 p5 ad N f a ae el fe ge q7 v7 q8 v8 n T), StAt d.w q7 v7 n T := fun d => d.h.1.2.2.2.2.2.2.2.2.2.1
  have k8 : ∀ d : Kept (toD2 w4 w s j m g o x y p3 p5 ad N f a ae el fe ge q7 v7 q8 v8 n T), StAt d.w q8 v8 n T := fun d => d.h.1.2.2.2.2.2.2.2.2.2.2.1
  have kB : ∀ d : Kept (toD2 w4 w s j m g o x y p3 p5 ad N f a ae el fe ge q7 v7 q8 v8 n T), Below w.heap.size w d.w := fun d => d.h.1.2.2.2.2.2.2.2.2.2.2.2
  have hn2 : n ≤ 1048576 := by omega
  repeat (go_big_quiet_step (first | (go_at_call 9; exact call_kept _ toD2_on (wStates_c _ hn2 (k8 _) (k7 _))) | (go_at_call 10; exact call_kept _ toD2_on (HAi.out _ (kB _) (kM _) (kE _))) | (go_at_call 11; exact call_kept _ toD2_on (HAs.out _ (kM _) (kE _))) | exact rfl))
  refine wpQuiet_nil ?_
  rintro w5 ⟨d, hd2⟩
  have hd := d.h
  rw [← hd2] at hd
  clear hd2 k0 k1 k2 k3 k4 k5 k6 kM kE k7 k8 kB hD
  have hW5 : Below w3.heap.size w3 w5 := nbTrans HB4.out hd.2
  have hS5 : StAt w5 q8 v8 n T := hd.1.2.2.2.2.2.2.2.2.2.2.1
  refine Later.now ?_
  obtain ⟨a8, c8, rfl⟩ : ∃ a c, v8 = .slice a n c := by
    obtain ⟨a, c, h, -⟩ := hS5
    exact ⟨a, c, h⟩
  have ha8 : 0 < n → a8 = some ⟨q8, 0, none⟩ := fun hn => by
    obtain ⟨a, c, h, h0 | ⟨h1, -⟩⟩ := hS5
    · omega
    · cases h; exact h1
  have hTm0 : Tm T 0 = T := by funext k; simp [Tm]
  have HTm0 : Hid (Tm T 0 = T) := hTm0
  clear hTm0 hd HB4
  refine ⟨?_⟩
  go_wp2_with fail
  go_loopw [49] (fun iv wr => ∃ i : Nat, iv = .int .i64 i ∧ i ≤ n ∧ StAt wr q8 (.slice a8 n c8) n (Tm T i) ∧ Below w3.heap.size w3 wr) (fun iv _ => n - (intOf iv).toNat)
  case atStart => exact ⟨0, rfl, by omega, by rw [HTm0.out]; exact hS5, hW5⟩
  case round =>
    clear hS5 hW5
    obtain ⟨i, rfl, hi, hS, hW⟩ := hrel
    by_cases hlt : i < n
    · have j0 : (0 : Int) ≤ (i : Int) := by omega
      have j1 : (i : Int) < (n : Int) := by omega
      have e8 := ha8 (by omega)
      subst e8
      have hTi : Tm T i i = T i := by simp [Tm]
      have hrw : Row6 wr q8 n (Tm T i) ∧ ∀ k, k < n * 6 → wr.frozen? ⟨q8, k, none⟩ = false := by
        obtain ⟨a, c, h, h0 | ⟨h1, h2, h3⟩⟩ := hS
        · omega
        · exact ⟨h2, h3⟩
      have g := hrw.1 i hlt
      rw [hTi] at g
      have g0 := g.1
      have g1 := g.2.1
      have g2 := g.2.2.1
      have g3 := g.2.2.2.1
      have g4 := g.2.2.2.2.1
      have g5 := g.2.2.2.2.2
      have gf := hrw.2 (i * 6 + 5) (by omega)
      have hm3 := (HC3.out.2.2.2.2.2.2.2.1).on hW
      clear hTi g hrw
      go_wp2_with fail
      refine (HSO.out i hlt _ hm3).mono ?_
      rintro e w6 ⟨rfl, hb6⟩
      have h5 := cellOn hb6 g5
      have h6 := frozenOn hb6 g5 gf
      have hS6 := hS.on hb6
      have hW6 := nbTrans hW hb6
      clear g0 g1 g2 g3 g4 g5 gf hS hW hb6 hm3
      go_wp2_with fail
      go_roundw
      case rel => exact ⟨i + 1, by go_num, by omega, st_mark hS6 hlt, nbSetX hW6 hq8⟩
      case measure => simp [intOf]; omega
    · have hC6 := toC_on HC3.out hW
      have hS7 := HS7.out.on hW
      have c0 : wr.cell? ⟨p3, 0, none⟩ = some (.int .i64 s) := hC6.1
      have c1 : wr.cell? ⟨p3, 1, none⟩ = some (.int .i64 j) := hC6.2.1
      have c2 : wr.cell? ⟨p3, 2, none⟩ = some (.int .i64 m) := hC6.2.2.1
      have c3 : wr.cell? ⟨p3, 3, none⟩ = some (.int .i64 g) := hC6.2.2.2.1
      have c4 : wr.cell? ⟨p3, 4, none⟩ = some (.int .i64 o) := hC6.2.2.2.2.1
      have c5 : wr.cell? ⟨p5, 0, none⟩ = some (.int .i64 x) := hC6.2.2.2.2.2.1
      have c6 : wr.cell? ⟨p5, 1, none⟩ = some (.int .i64 y) := hC6.2.2.2.2.2.2.1
      go_wp2_with fail
      refine (HRi.out _ hC6.2.2.2.2.2.2.2.1 hC6.2.2.2.2.2.2.2.2.1).mono ?_
      rintro e w7 ⟨v9, rfl, hv9, hb7⟩
      refine Later.now ?_
      obtain ⟨q9, -, hS9⟩ := hv9.at
      refine ⟨?_⟩
      go_wp2_with fail
      refine (wStates_c _ (by omega) hS9 (hS7.on hb7)).mono ?_
      rintro e w8 ⟨rfl, hb8⟩
      go_wp2_with fail
      go_ret
      exact ⟨rfl, nbTrans (nbTrans hC6.2.2.2.2.2.2.2.2.2 hb7) hb8⟩

end Go.Proofs.YtmhppadblddjoaaDoor

