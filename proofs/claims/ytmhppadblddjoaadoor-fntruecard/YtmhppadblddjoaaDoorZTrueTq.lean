import Derived.Test.YtmhppadblddjoaaDoorZTrueCur4
import Derived.Test.YtmhppadblddjoaaDoorZTrueFl
import Derived.Test.YtmhppadblddjoaaDoorZTrueIRunS
import Derived.Test.YtmhppadblddjoaaDoorZTrueTn
/- A drawn trip, and the calls that speak of it. -/
namespace Go.Proofs.YtmhppadblddjoaaDoor
open Go.RowKit

theorem trRow_of {w : World} {B : Nat} {v : Value} {xs : List (Int × Int)} (hw : w.ownsRow B 50 2 v xs.length (cells2 xs)) : ∃ ad cap, v = .slice ad xs.length cap ∧ SRow w ad xs.length (fun i => (xs.getD i (0, 0)).1) (fun i => (xs.getD i (0, 0)).2) := by
  obtain ⟨h1, h2⟩ := hw
  rcases h2 with ⟨rfl, h0⟩ | ⟨q, cap, cur, rfl, hg, hh, hn, hm, hs, htk⟩
  · exact ⟨none, 0, by rw [h0], .inl h0⟩
  · refine ⟨some ⟨q, 0, none⟩, cap, rfl, .inr ⟨q, 0, rfl, fun i hi => ?_⟩⟩
    have key : ∀ o, o < xs.length * 2 → w.cell? ⟨q, o, none⟩ = (cells2 xs)[o]? := fun o ho => by
      rw [Joins.cell_of_block hh, ← htk, List.getElem?_take, if_pos ho]
      simp
    obtain ⟨g1, g2⟩ := cells2_get xs i hi
    exact ⟨by rw [show 0 + i * 2 = i * 2 by omega, key _ (by omega)]; exact g1, by rw [show 0 + i * 2 + 1 = i * 2 + 1 by omega, key _ (by omega)]; exact g2⟩
theorem inRow_of {w : World} {B : Nat} {v : Value} {rs : List Int} (hw : w.ownsRow B 3 1 v rs.length (rs.map (Value.int .i64))) : ∃ ad cap, v = .slice ad rs.length cap ∧ SRow1 w ad rs.length (fun i => rs.getD i 0) := by
  have hc := fun {g : Nat} (hg : v.ownBlock = some g) => hw.cells (g := g) hg
  obtain ⟨h1, h2⟩ := hw
  rcases h2 with ⟨rfl, h0⟩ | ⟨q, cap, cur, rfl, hg, hh, hn, hm, hs, htk⟩
  · exact ⟨none, 0, by rw [h0], .inl h0⟩
  · refine ⟨some ⟨q, 0, none⟩, cap, rfl, .inr ⟨q, 0, rfl, fun i hi => ?_⟩⟩
    have := hc (g := q) rfl i (.int .i64 (rs.getD i 0)) (by simp [List.getD_eq_getElem?_getD, hi])
    rw [show (⟨q, 0, none⟩ : Addr).add i = ⟨q, 0 + i, none⟩ by unfold Addr.add; split <;> simp_all] at this
    exact this
theorem EvRow.srow {w : World} {B : Nat} {v : Value} {n : Nat} {fe ge : Nat → Int} (h : EvRow w B v n fe ge) : ∃ ad cap, v = .slice ad n cap ∧ SRow w ad n fe ge := by
  obtain ⟨a, cap, hv, h0 | ⟨q, ha, hq, h1, -⟩⟩ := h
  · exact ⟨a, cap, hv, .inl h0⟩
  · exact ⟨a, cap, hv, .inr ⟨q, 0, ha, h1⟩⟩
theorem StRow.at6 {w : World} {B : Nat} {v : Value} {n : Nat} {T : Nat → St} (h : StRow w B v n T) : ∃ q ad cap, v = .slice ad n cap ∧ (0 < n → ad = some ⟨q, 0, none⟩) ∧ Row6 w q n T := by
  obtain ⟨a, cap, hv, h0 | ⟨q, ha, hq, h1, -⟩⟩ := h
  · exact ⟨0, a, cap, hv, fun h => absurd h (by omega), fun i hi => absurd hi (by omega)⟩
  · exact ⟨q, a, cap, hv, fun _ => ha, h1⟩

theorem trip_pack {s j m g o x0 v0 v1 : Int} {mv : Value} {N : Nat} {xs : List Value} {tv : Value} {ts : List (Int × Int)} {rv : Value} {rs : List Int} {w1 : World} {B : Nat} (w0 : World)
    (s0 : 0 ≤ s) (s1 : s < 80) (j0 : 0 ≤ j) (j1 : j < 6) (m0 : 0 ≤ m) (m1 : m < 30) (g0 : 1 ≤ g) (g1 : g ≤ 400) (o0 : 0 ≤ o) (o1 : o < 20) (x00 : 0 ≤ x0) (x01 : x0 < 900) (hDM : ∃ t : Int, N ≤ 7 ∧ t ≤ 5000 ∧ DM N N t xs) (htl : ts.length ≤ 19) (hts : ∀ e ∈ ts, TickOk s j e) (hrl : rs.length = ts.length)
    (hM : w1.ownsRow B 111 2 mv N xs) (hT : w1.ownsRow B 50 2 tv ts.length (cells2 ts)) (hR : w1.ownsRow B 3 1 rv rs.length (rs.map (Value.int .i64))) (hv0 : 0 ≤ v0 ∧ v0 ≤ 255) (hv1 : 0 ≤ v1 ∧ v1 ≤ 255)
    (HF : Hid (∀ (ad : Option Addr) (len cap : Nat) (f a : Nat → Int) (s j m g o : Int) (wz : World), Below w0.heap.size w0 wz → len ≤ 1048576 → SRow wz ad len f a → Calls Tryd.prog 14 #[.agg #[.int .i64 s, .int .i64 j, .int .i64 m, .int .i64 g, .int .i64 o], .slice ad len cap] wz fun e w' => e = .returned (.bool (fairA s j m g o f a len)) ∧ Below wz.heap.size wz w'))
    (HFE : Hid (∀ (ad : Option Addr) (len cap : Nat) (f a : Nat → Int) (x0 : Int) (at2 : Option Addr) (n nc : Nat) (tf tc : Nat → Int) (ar : Option Addr) (rn rc : Nat) (rd : Nat → Int) (s j m g o : Int) (wz : World), Below w0.heap.size w0 wz → len ≤ 1048576 → n ≤ 1048576 → rn ≤ 1048576 → SRow wz ad len f a → SRow wz at2 n tf tc → SRow1 wz ar rn rd → Calls Tryd.prog 16 #[.agg #[.int .i64 s, .int .i64 j, .int .i64 m, .int .i64 g, .int .i64 o], .slice ad len cap, .int .i64 x0, .slice at2 n nc, .slice ar rn rc] wz fun e w' => ∃ v, e = .returned v ∧ Felts wz (feltA s j m g o f a len x0 tf tc rd n rn) v w')) :
    ∃ (ad : Option Addr) (cap : Nat) (f a : Nat → Int) (at2 : Option Addr) (n nc : Nat) (tf tc : Nat → Int) (ar : Option Addr) (rc : Nat) (rd : Nat → Int) (el : Nat) (fe ge : Nat → Int) (cnt : Nat → Nat) (T : Nat → St),
      mv = .slice ad N cap ∧ tv = .slice at2 n nc ∧ rv = .slice ar n rc ∧ Hid (SRow w1 ad N f a) ∧ Hid (SRow w1 at2 n tf tc) ∧ Hid (SRow1 w1 ar n rd) ∧ n ≤ 19 ∧ el ≤ 152 ∧
      Hid (∀ w, Below w0.heap.size w0 w → SRow w at2 n tf tc → Calls Tryd.prog 14 #[.agg #[.int .i64 s, .int .i64 j, .int .i64 m, .int .i64 g, .int .i64 o], .slice at2 n nc] w fun e w' => e = .returned (.bool true) ∧ Below w.heap.size w w') ∧
      Hid (∀ w, Below w0.heap.size w0 w → SRow w ad N f a → SRow w at2 n tf tc → SRow1 w ar n rd → Calls Tryd.prog 16 #[.agg #[.int .i64 s, .int .i64 j, .int .i64 m, .int .i64 g, .int .i64 o], .slice ad N cap, .int .i64 x0, .slice at2 n nc, .slice ar n rc] w fun e w' => ∃ v, e = .returned v ∧ EvRow w' w.heap.size v el fe ge ∧ Below w.heap.size w w') ∧ Hid (∀ w, SRow w ad N f a → SRow w at2 n tf tc → SRow1 w ar n rd → Calls Tryd.prog 18 #[.agg #[.int .i64 s, .int .i64 j, .int .i64 m, .int .i64 g, .int .i64 o], .slice ad N cap, .int .i64 x0, .slice at2 n nc, .slice ar n rc] w fun e w' => ∃ v, e = .returned v ∧ EvRow w' w.heap.size v el fe ge ∧ Below w.heap.size w w') ∧
      Hid (∀ ae ec w, SRow w ad N f a → SRow w ae el fe ge → Calls Tryd.prog 8 #[.agg #[.int .i64 s, .int .i64 j, .int .i64 m, .int .i64 g, .int .i64 o], .slice ad N cap, .agg #[.int .i64 (x0 - v0), .int .i64 (x0 + v1)], .slice ae el ec] w fun e w' => ∃ v, e = .returned v ∧ StRow w' w.heap.size v el T ∧ Below w.heap.size w w') ∧
      Hid (cnt 0 = 0) ∧ Hid (∀ i, i < el → fe i = 1 ∧ cnt (i + 1) = cnt i + 1 ∧ cnt i < n ∨ fe i = 2 ∧ cnt (i + 1) = cnt i) ∧
      Hid (∀ i, i < el → TrueSt (T i) (pos x0 tf (cnt (i + 1))) ∧ cnt (i + 1) ≤ n ∧ (-100000000 ≤ (T i).l ∧ (T i).l ≤ (T i).h ∧ (T i).h ≤ 100000000)) ∧
      Hid (∀ i, i ≤ n → 0 ≤ pos x0 tf i ∧ pos x0 tf i ≤ 4000) ∧ Hid (∀ i, i < n → 0 ≤ tf i ∧ tf i ≤ 159) := by
  obtain ⟨t, hN, ht, hD⟩ := hDM
  obtain ⟨f, a, rfl, hmk, hpl, hinj⟩ := hD.marks hN ht
  obtain ⟨ad, cap, rfl, hrow⟩ := mkRow_of hM
  obtain ⟨at2, nc, rfl, htk⟩ := trRow_of hT
  obtain ⟨ar, rc, rfl, hrd⟩ := inRow_of hR
  have hrk : rOk s j m g o = true := by
    simp only [rOk, inB, Bool.and_eq_true, decide_eq_true_eq]
    omega
  have hbk : bOk (x0 - v0) (x0 + v1) = true := by
    simp only [bOk, Bool.and_eq_true, decide_eq_true_eq]
    omega
  obtain ⟨E, hEA, hEl, hFr, hRun, hEv, hTr⟩ := trip_all (rd := fun i => rs.getD i 0) hrk hmk hN hinj x00 x01 hts htl hbk (show x0 - v0 ≤ x0 by omega) (show x0 ≤ x0 + v1 by omega)
  have hin : ∀ i, i < ts.length → 0 ≤ (ts.getD i (0, 0)).1 ∧ (ts.getD i (0, 0)).1 ≤ 159 := fun i hi => ⟨(tick_get hts i hi).1, (tick_get hts i hi).2.1⟩
  have hpos := pos_in (tf := fun i => (ts.getD i (0, 0)).1) (n := ts.length) x00 x01 hin
  rw [hrl] at hrd
  refine ⟨ad, cap, f, a, at2, ts.length, nc, fun i => (ts.getD i (0, 0)).1, fun i => (ts.getD i (0, 0)).2, ar, rc, fun i => rs.getD i 0, E.length, fun i => (E.getD i (0, 0)).1, fun i => (E.getD i (0, 0)).2, fun i => ones (E.take i), fun i => runSt s j m g o N f a (x0 - v0) (x0 + v1) (fun i => (E.getD i (0, 0)).1) (fun i => (E.getD i (0, 0)).2) (i + 1),
    rfl, rfl, by rw [hrl], hrow, htk, hrd, htl, hEl, ?_, ?_, ?_, ?_, rfl, ?_, ?_, fun i hi => by have := hpos i hi; omega, hin⟩
  · intro w hz hw
    have h := HF.out at2 ts.length nc (fun i => (ts.getD i (0, 0)).1) (fun i => (ts.getD i (0, 0)).2) s j m g o w hz (by omega) hw
    rwa [hFr] at h
  · intro w hz h1 h2 h3
    refine (HFE.out ad N cap f a x0 at2 ts.length nc _ _ ar ts.length rc (fun i => rs.getD i 0) s j m g o w hz (by omega) (by omega) (by omega) h1 h2 h3).mono ?_
    rintro e w' ⟨v, rfl, hh⟩
    rw [hEA] at hh
    exact ⟨v, rfl, evRow_of hh.1, hh.2⟩
  · intro w h1 h2 h3
    refine (specFelt_s ad N cap f a x0 at2 ts.length nc _ _ ar ts.length rc (fun i => rs.getD i 0) s j m g o w (by omega) (by omega) (by omega) h1 h2 h3).mono ?_
    rintro e w' ⟨v, rfl, hh⟩
    rw [hEA] at hh
    exact ⟨v, rfl, evRow_of hh.1, hh.2⟩
  · intro ae ec w h1 h2
    refine (implRun_okS ad N cap f a ae E.length ec _ _ s j m g o (x0 - v0) (x0 + v1) w (by omega) h1 (by omega) h2 hRun).mono ?_
    rintro e w' ⟨v, rfl, hh⟩
    exact ⟨v, rfl, stRow_of hh.1, hh.2⟩
  · intro i hi
    have h2 := ones_take_succ hi
    rcases hEv i hi with ⟨h3, h4⟩ | ⟨h3, -, -⟩
    · refine .inl ⟨by show (E.getD i (0, 0)).1 = 1; rw [h3], ?_, h4⟩
      rw [h3] at h2
      exact h2
    · refine .inr ⟨h3, ?_⟩
      rw [h3] at h2
      exact h2
  · intro i hi
    have h2 := hTr (i + 1) (by omega)
    refine ⟨h2.1, h2.2, ?_⟩
    unfold runOk at hRun
    simp only [Bool.and_eq_true, decide_eq_true_eq] at hRun
    obtain ⟨⟨⟨⟨hr', hbk'⟩, hmk'⟩, -⟩, hto⟩ := hRun
    obtain ⟨-, -, -, -, h4, -⟩ := st_all (run_st hr' hbk' hmk' hto (i + 1) (by omega))
    exact h4 h2.1.1

end Go.Proofs.YtmhppadblddjoaaDoor

