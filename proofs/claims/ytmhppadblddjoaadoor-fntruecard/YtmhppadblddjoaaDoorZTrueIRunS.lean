import Derived.Test.YtmhppadblddjoaaDoorZTrueFe
import Derived.Test.YtmhppadblddjoaaDoorZTrueIDo
import Derived.Test.YtmhppadblddjoaaDoorZTrueIRun
/- The program's Run at whatever slices. -/
namespace Go.Proofs.YtmhppadblddjoaaDoor
open Go.RowKit Go.Maps

set_option maxHeartbeats 1000000 in
theorem eventsOk_s (ae : Option Addr) (el ec : Nat) (fe ge : Nat → Int) (w : World) (hel : el ≤ 1048576) (hev : SRow w ae el fe ge) :
    Calls Tryd.prog 35 #[.slice ae el ec] w fun e w' => e = .returned (.bool (decide (el ≤ 2000) && evTo fe ge el)) ∧ Below w.heap.size w w' := by
  obtain ⟨eb, eo, hevA⟩ := hev.at
  by_cases hbig : 2000 < el
  · have hb2 : (2000 : Int) < (el : Int) := by omega
    go_enter Tryd.func35, Tryd.ntmps35
    go_wp2_with fail
    go_ret
    exact ⟨retB (by simp; omega), Below.refl _ _⟩
  have hb2 : decide ((2000 : Int) < (el : Int)) = false := by simp; omega
  have HB : Hid (el ≤ 2000) := by unfold Hid; omega
  clear hbig
  go_enter Tryd.func35, Tryd.ntmps35
  go_wp2_with fail
  go_loopw [10] (fun iv wr => ∃ k : Nat, iv = .int .i64 k ∧ k ≤ el ∧ evTo fe ge k = true ∧ Below w.heap.size w wr) (fun iv _ => el - (intOf iv).toNat)
  case atStart => exact ⟨0, rfl, by omega, rfl, Below.refl _ _⟩
  case round =>
    obtain ⟨k, rfl, hk, hm, hB⟩ := hrel
    have HM : Hid (evTo fe ge k = true) := hm
    clear hm
    by_cases hlt : k < el
    · have i0 : (0 : Int) ≤ (k : Int) := by omega
      have i1 : (k : Int) < (el : Int) := by omega
      have ee := hevA.1 (by omega)
      subst ee
      have d0 := cellOn hB (hevA.2 k hlt).1
      have d1 := cellOn hB (hevA.2 k hlt).2
      cases hE : evB (fe k) (ge k)
      · go_wp2_with fail
        refine (implEventOk_c _ _ _).mono ?_
        rintro e w1 ⟨rfl, hb1⟩
        go_wp2_with fail
        go_ret
        refine ⟨retB ?_, nbTrans (nbAlloc hB _) hb1⟩
        have : evTo fe ge el = false := by
          cases hh : evTo fe ge el
          · rfl
          · rw [evTo_at hh hlt] at hE; cases hE
        simp [this]
      · go_wp2_with fail
        refine (implEventOk_c _ _ _).mono ?_
        rintro e w1 ⟨rfl, hb1⟩
        clear d0 d1
        go_wp2_with fail
        go_roundw
        case rel => exact ⟨k + 1, by go_num, by omega, evTo_snoc HM.out hE, nbTrans (nbAlloc hB _) hb1⟩
        case measure => simp [intOf]; omega
    · have hkl : k = el := by omega
      subst hkl
      go_wp2_with fail
      go_ret
      exact ⟨retB (by simp [HM.out]; exact HB.out), hB⟩


set_option maxRecDepth 100000 in
set_option maxHeartbeats 4000000 in
theorem implRun_okS (ad : Option Addr) (len cap : Nat) (f a : Nat → Int) (ae : Option Addr) (el ec : Nat) (fe ge : Nat → Int) (s j m g o l h : Int) (w : World) (hl : len ≤ 1048576) (hrow : SRow w ad len f a) (hel : el ≤ 1048576) (hev : SRow w ae el fe ge) (hok : runOk s j m g o len f a l h fe ge el = true) :
    Calls Tryd.prog 8 #[.agg #[.int .i64 s, .int .i64 j, .int .i64 m, .int .i64 g, .int .i64 o], .slice ad len cap, .agg #[.int .i64 l, .int .i64 h], .slice ae el ec] w fun e w' => ∃ v, e = .returned v ∧ w'.ownsRow w.heap.size 37 6 v el (runCs s j m g o len f a l h fe ge el) ∧ Below w.heap.size w w' := by
  obtain ⟨eb, eo, hevA⟩ := hev.at
  unfold runOk at hok
  simp only [Bool.and_eq_true, decide_eq_true_eq] at hok
  obtain ⟨⟨⟨⟨hr, hbk⟩, hmk⟩, h2k⟩, hto⟩ := hok
  have HTA : Hid (evTo fe ge el = true) := hto
  have hnm : Hid (∀ i, i < len → inB (f i) 1 1000000000 = true) := fun i hi => marksB_name hmk hi
  have HST : Hid (∀ k, k < el → stB (marksB f a len) len (runSt s j m g o len f a l h fe ge k).kn (runSt s j m g o len f a l h fe ge k).l (runSt s j m g o len f a l h fe ge k).h (runSt s j m g o len f a l h fe ge k).si (runSt s j m g o len f a l h fe ge k).la (runSt s j m g o len f a l h fe ge k).od = true) := fun k hk => run_st hr hbk hmk hto k (by omega)
  have HSP : Hid (∀ k, k < el → doM s j m len f a (runSt s j m g o len f a l h fe ge k) (fe k) (ge k) = runSt s j m g o len f a l h fe ge (k + 1)) := fun k hk => run_step hr hbk hmk hto k hk
  have hev4 : (decide (el ≤ 2000) && evTo fe ge el) = true := by rw [hto]; simpa using h2k
  have HR : Hid (rOk s j m g o = true) := hr
  clear h2k hto
  go_enter Tryd.func8, Tryd.ntmps8
  go_wp2_with fail
  refine (implRulesOk_c _ _ _ _ _ _).mono ?_
  rintro e w1 ⟨rfl, hb1⟩
  have hC1 : irC w s j m g o l h w1 := ⟨cellOn hb1 (by go_simp), cellOn hb1 (by go_simp), cellOn hb1 (by go_simp), cellOn hb1 (by go_simp), cellOn hb1 (by go_simp), cellOn hb1 (by go_simp), cellOn hb1 (by go_simp), nbTrans (nbAlloc (nbAlloc (Below.refl _ _) _) _) hb1⟩
  have hB1 : Below w.heap.size w w1 := hC1.2.2.2.2.2.2.2
  have c0 : w1.cell? ⟨w.heap.size, 0, none⟩ = some (.int .i64 s) := hC1.1
  have c1 : w1.cell? ⟨w.heap.size, 1, none⟩ = some (.int .i64 j) := hC1.2.1
  have c2 : w1.cell? ⟨w.heap.size, 2, none⟩ = some (.int .i64 m) := hC1.2.2.1
  have c3 : w1.cell? ⟨w.heap.size, 3, none⟩ = some (.int .i64 g) := hC1.2.2.2.1
  have c4 : w1.cell? ⟨w.heap.size, 4, none⟩ = some (.int .i64 o) := hC1.2.2.2.2.1
  have c5 : w1.cell? ⟨w.heap.size + 1, 0, none⟩ = some (.int .i64 l) := hC1.2.2.2.2.2.1
  have c6 : w1.cell? ⟨w.heap.size + 1, 1, none⟩ = some (.int .i64 h) := hC1.2.2.2.2.2.2.1
  have c7 : Below w.heap.size w w1 := hC1.2.2.2.2.2.2.2
  go_wp2_with fail
  clear c0 c1 c2 c3 c4 c5 c6 c7
  refine (implMarksOk_s ad len cap f a _ hl (hrow.on hB1)).mono ?_
  rintro e w2 ⟨rfl, hb2⟩
  have hC2 := irC_on hC1 hb2
  have hB2 : Below w.heap.size w w2 := hC2.2.2.2.2.2.2.2
  have c0 : w2.cell? ⟨w.heap.size, 0, none⟩ = some (.int .i64 s) := hC2.1
  have c1 : w2.cell? ⟨w.heap.size, 1, none⟩ = some (.int .i64 j) := hC2.2.1
  have c2 : w2.cell? ⟨w.heap.size, 2, none⟩ = some (.int .i64 m) := hC2.2.2.1
  have c3 : w2.cell? ⟨w.heap.size, 3, none⟩ = some (.int .i64 g) := hC2.2.2.2.1
  have c4 : w2.cell? ⟨w.heap.size, 4, none⟩ = some (.int .i64 o) := hC2.2.2.2.2.1
  have c5 : w2.cell? ⟨w.heap.size + 1, 0, none⟩ = some (.int .i64 l) := hC2.2.2.2.2.2.1
  have c6 : w2.cell? ⟨w.heap.size + 1, 1, none⟩ = some (.int .i64 h) := hC2.2.2.2.2.2.2.1
  have c7 : Below w.heap.size w w2 := hC2.2.2.2.2.2.2.2
  go_wp2_with fail
  clear c0 c1 c2 c3 c4 c5 c6 c7
  refine (implBoundOk_c _ _ _).mono ?_
  rintro e w3 ⟨rfl, hb3⟩
  have hC3 := irC_on hC2 hb3
  have hB3 : Below w.heap.size w w3 := hC3.2.2.2.2.2.2.2
  have c0 : w3.cell? ⟨w.heap.size, 0, none⟩ = some (.int .i64 s) := hC3.1
  have c1 : w3.cell? ⟨w.heap.size, 1, none⟩ = some (.int .i64 j) := hC3.2.1
  have c2 : w3.cell? ⟨w.heap.size, 2, none⟩ = some (.int .i64 m) := hC3.2.2.1
  have c3 : w3.cell? ⟨w.heap.size, 3, none⟩ = some (.int .i64 g) := hC3.2.2.2.1
  have c4 : w3.cell? ⟨w.heap.size, 4, none⟩ = some (.int .i64 o) := hC3.2.2.2.2.1
  have c5 : w3.cell? ⟨w.heap.size + 1, 0, none⟩ = some (.int .i64 l) := hC3.2.2.2.2.2.1
  have c6 : w3.cell? ⟨w.heap.size + 1, 1, none⟩ = some (.int .i64 h) := hC3.2.2.2.2.2.2.1
  have c7 : Below w.heap.size w w3 := hC3.2.2.2.2.2.2.2
  go_wp2_with fail
  clear c0 c1 c2 c3 c4 c5 c6 c7
  refine (eventsOk_s ae el ec fe ge _ hel (hev.on hB3)).mono ?_
  rintro e w4 ⟨rfl, hb4⟩
  have hC4 := irC_on hC3 hb4
  have hB4 : Below w.heap.size w w4 := hC4.2.2.2.2.2.2.2
  have c0 : w4.cell? ⟨w.heap.size, 0, none⟩ = some (.int .i64 s) := hC4.1
  have c1 : w4.cell? ⟨w.heap.size, 1, none⟩ = some (.int .i64 j) := hC4.2.1
  have c2 : w4.cell? ⟨w.heap.size, 2, none⟩ = some (.int .i64 m) := hC4.2.2.1
  have c3 : w4.cell? ⟨w.heap.size, 3, none⟩ = some (.int .i64 g) := hC4.2.2.2.1
  have c4 : w4.cell? ⟨w.heap.size, 4, none⟩ = some (.int .i64 o) := hC4.2.2.2.2.1
  have c5 : w4.cell? ⟨w.heap.size + 1, 0, none⟩ = some (.int .i64 l) := hC4.2.2.2.2.2.1
  have c6 : w4.cell? ⟨w.heap.size + 1, 1, none⟩ = some (.int .i64 h) := hC4.2.2.2.2.2.2.1
  have c7 : Below w.heap.size w w4 := hC4.2.2.2.2.2.2.2
  go_wp2_with fail
  clear c0 c1 c2 c3 c4 c5 c6 c7
  refine region_relL (irC w s j m g o l h) (idY (w.heap.size + 1 + 1) s j m g o (.slice ad len cap) len f a) 5 (fun _ _ => irC_on) idY_on (by kernel_rfl) (by kernel_rfl) (by kernel_rfl) ?_ ?_ ?_
  · exact irC_on hC4 (Below.drew (Below.refl _ _))
  · intro j' o' ho hne vs w4 hC hw
    have hBS : w.heap.size + 1 + 1 ≤ w4.heap.size := by have := ltCell hC.2.2.2.2.2.1; omega
    have hB4 := hC.2.2.2.2.2.2.2
    have c0 : w4.cell? ⟨w.heap.size, 0, none⟩ = some (.int .i64 s) := hC.1
    have c1 : w4.cell? ⟨w.heap.size, 1, none⟩ = some (.int .i64 j) := hC.2.1
    have c2 : w4.cell? ⟨w.heap.size, 2, none⟩ = some (.int .i64 m) := hC.2.2.1
    have c3 : w4.cell? ⟨w.heap.size, 3, none⟩ = some (.int .i64 g) := hC.2.2.2.1
    have c4 : w4.cell? ⟨w.heap.size, 4, none⟩ = some (.int .i64 o) := hC.2.2.2.2.1
    have c5 : w4.cell? ⟨w.heap.size + 1, 0, none⟩ = some (.int .i64 l) := hC.2.2.2.2.2.1
    have c6 : w4.cell? ⟨w.heap.size + 1, 1, none⟩ = some (.int .i64 h) := hC.2.2.2.2.2.2.1
    have c7 : Below w.heap.size w w4 := hC.2.2.2.2.2.2.2
    match j', ho with
    | 0, ho =>
      cases ho
      clear hw
      simp [mix]
      go_simp
      exact ⟨rfl, Below.refl _ _⟩
    | 1, ho =>
      cases ho
      clear hw
      simp [mix]
      go_simp
      exact ⟨rfl, Below.refl _ _⟩
    | 2, ho =>
      cases ho
      have y1 : vs 1 = _ := hw 1 (waits_of (by kernel_rfl))
      clear hw
      simp [mix, y1]
      go_simp
      refine (spotsByName_s ad len cap f a _ hl (hrow.on hB4) hnm).mono ?_
      rintro e w5 ⟨rfl, hM5, hb5⟩
      exact ⟨_, rfl, ⟨_, rfl, hM5⟩, hb5⟩
    | 3, ho =>
      cases ho
      have y0 : vs 0 = _ := hw 0 (waits_of (by kernel_rfl))
      refine Exists.elim (idY_2 (hw 2 (waits_of (by kernel_rfl)))) (fun q hq0 => ?_)
      have y2 := hq0.1
      have hq := hq0.2
      clear hq0
      clear hw
      simp [mix, y0, y2]
      go_simp
      exact ⟨⟨q, rfl, hq⟩, Below.refl _ _⟩
    | 4, ho =>
      cases ho
      clear hw
      simp [mix]
      go_simp
      exact ⟨⟨_, rfl, hBS, newBlkD _ _ rfl⟩, nbAlloc (Below.refl _ _) _⟩
    | 5, ho => exact absurd rfl hne
    | k + 6, ho => simp at ho
  · intro vs w4 hC hy
    have y0 : vs 0 = _ := hy 0 (by simp) (by simp)
    have y1 : vs 1 = _ := hy 1 (by simp) (by simp)
    refine Exists.elim (idY_2 (hy 2 (by simp) (by simp))) (fun q2 e2 => ?_)
    have y2 := e2.1
    refine Exists.elim (idY_3 (hy 3 (by simp) (by simp))) (fun q e3 => ?_)
    have y3 := e3.1
    have hM := e3.2
    refine Exists.elim (idY_4 (hy 4 (by simp) (by simp))) (fun p e4 => ?_)
    have y4 := e4.1
    have hp := e4.2.1
    have hblk := e4.2.2
    clear e2 e3 e4 hy
    have r0 : w4.cell? ⟨p, 0, none⟩ = some (.int .i64 0) := by simp [World.cell?, hblk]
    have f0 : w4.frozen? ⟨p, 0, none⟩ = false := by simp [World.frozen?, hblk]
    have r1 : w4.cell? ⟨p, 1, none⟩ = some (.int .i64 0) := by simp [World.cell?, hblk]
    have f1 : w4.frozen? ⟨p, 1, none⟩ = false := by simp [World.frozen?, hblk]
    have r2 : w4.cell? ⟨p, 2, none⟩ = some (.int .i64 0) := by simp [World.cell?, hblk]
    have f2 : w4.frozen? ⟨p, 2, none⟩ = false := by simp [World.frozen?, hblk]
    have r3 : w4.cell? ⟨p, 3, none⟩ = some (.int .i64 0) := by simp [World.cell?, hblk]
    have f3 : w4.frozen? ⟨p, 3, none⟩ = false := by simp [World.frozen?, hblk]
    have r4 : w4.cell? ⟨p, 4, none⟩ = some (.int .i64 0) := by simp [World.cell?, hblk]
    have f4 : w4.frozen? ⟨p, 4, none⟩ = false := by simp [World.frozen?, hblk]
    have r5 : w4.cell? ⟨p, 5, none⟩ = some (.map none) := by simp [World.cell?, hblk]
    have f5 : w4.frozen? ⟨p, 5, none⟩ = false := by simp [World.frozen?, hblk]
    have hqp := hM.ne hblk
    have hT := turn6 (w := w4) (q := p) (v0 := .int .i64 s) (v1 := .int .i64 j) (v2 := .int .i64 m) (v3 := .int .i64 g) (v4 := .int .i64 o) (v5 := .map (some q))
    have S := set6 (v0 := .int .i64 s) (v1 := .int .i64 j) (v2 := .int .i64 m) (v3 := .int .i64 g) (v4 := .int .i64 o) (v5 := .map (some q)) r0 r1 r2 r3 r4 r5
    have hJ : jrC w s j m g o l h p q len f a ((((((w4.setCell ⟨p, 0, none⟩ (.int .i64 s)).setCell ⟨p, 1, none⟩ (.int .i64 j)).setCell ⟨p, 2, none⟩ (.int .i64 m)).setCell ⟨p, 3, none⟩ (.int .i64 g)).setCell ⟨p, 4, none⟩ (.int .i64 o)).setCell ⟨p, 5, none⟩ (.map (some q))) := ⟨hT.cell (by omega) hC.1, hT.cell (by omega) hC.2.1, hT.cell (by omega) hC.2.2.1, hT.cell (by omega) hC.2.2.2.1, hT.cell (by omega) hC.2.2.2.2.1, hT.cell (by omega) hC.2.2.2.2.2.1, hT.cell (by omega) hC.2.2.2.2.2.2.1, S.1, S.2.1, S.2.2.1, S.2.2.2.1, S.2.2.2.2.1, S.2.2.2.2.2, hM.turns hT hqp, hT.below hC.2.2.2.2.2.2.2 (by omega)⟩
    refine ⟨?_⟩
    simp only [mix, y0, y1, y2, y3, y4]
    go_simp
    generalize ((((((w4.setCell ⟨p, 0, none⟩ (.int .i64 s)).setCell ⟨p, 1, none⟩ (.int .i64 j)).setCell ⟨p, 2, none⟩ (.int .i64 m)).setCell ⟨p, 3, none⟩ (.int .i64 g)).setCell ⟨p, 4, none⟩ (.int .i64 o)).setCell ⟨p, 5, none⟩ (.map (some q))) = w5 at *
    clear hT S r0 f0 r1 f1 r2 f2 r3 f3 r4 f4 r5 f5 hblk y0 y1 y2 y3 y4 hM hC
    have c0 : w5.cell? ⟨w.heap.size, 0, none⟩ = some (.int .i64 s) := hJ.1
    have c1 : w5.cell? ⟨w.heap.size, 1, none⟩ = some (.int .i64 j) := hJ.2.1
    have c2 : w5.cell? ⟨w.heap.size, 2, none⟩ = some (.int .i64 m) := hJ.2.2.1
    have c3 : w5.cell? ⟨w.heap.size, 3, none⟩ = some (.int .i64 g) := hJ.2.2.2.1
    have c4 : w5.cell? ⟨w.heap.size, 4, none⟩ = some (.int .i64 o) := hJ.2.2.2.2.1
    have c5 : w5.cell? ⟨w.heap.size + 1, 0, none⟩ = some (.int .i64 l) := hJ.2.2.2.2.2.1
    have c6 : w5.cell? ⟨w.heap.size + 1, 1, none⟩ = some (.int .i64 h) := hJ.2.2.2.2.2.2.1
    have c7 : w5.cell? ⟨p, 0, none⟩ = some (.int .i64 s) := hJ.2.2.2.2.2.2.2.1
    have c8 : w5.cell? ⟨p, 1, none⟩ = some (.int .i64 j) := hJ.2.2.2.2.2.2.2.2.1
    have c9 : w5.cell? ⟨p, 2, none⟩ = some (.int .i64 m) := hJ.2.2.2.2.2.2.2.2.2.1
    have c10 : w5.cell? ⟨p, 3, none⟩ = some (.int .i64 g) := hJ.2.2.2.2.2.2.2.2.2.2.1
    have c11 : w5.cell? ⟨p, 4, none⟩ = some (.int .i64 o) := hJ.2.2.2.2.2.2.2.2.2.2.2.1
    have c12 : w5.cell? ⟨p, 5, none⟩ = some (.map (some q)) := hJ.2.2.2.2.2.2.2.2.2.2.2.2.1
    have c13 : MapAt w5 q len f a := hJ.2.2.2.2.2.2.2.2.2.2.2.2.2.1
    have c14 : Below w.heap.size w w5 := hJ.2.2.2.2.2.2.2.2.2.2.2.2.2.2
    go_wp2_with fail
    refine (firstBelief_c l h _).mono ?_
    rintro e w6 ⟨rfl, hb6⟩
    simp only [St.b]
    have hJ6 := jrC_on hJ hb6
    clear hJ c0 c1 c2 c3 c4 c5 c6 c7 c8 c9 c10 c11 c12 c13 c14
    have hpl := ltCell hJ6.2.2.2.2.2.2.2.1
    have hql := World.ownsMap.lt hJ6.2.2.2.2.2.2.2.2.2.2.2.2.2.1
    have hwl := hJ6.2.2.2.2.2.2.2.2.2.2.2.2.2.2.size
    have hszn : w6.heap.size + 1 ≤ (w6.alloc (.cells #[.int .i64 l, .int .i64 h, .bool true, .int .i64 0, .int .i64 (-1), .int .i64 0] 75)).heap.size := by show w6.heap.size + 1 ≤ (w6.heap.push _).size; rw [Array.size_push]; omega
    have hC7 : r3C w s j m g o p q len f a w6.heap.size (runSt s j m g o len f a l h fe ge 0) (w6.alloc (.cells #[.int .i64 l, .int .i64 h, .bool true, .int .i64 0, .int .i64 (-1), .int .i64 0] 75)) := ⟨cellNew hJ6.2.2.2.2.2.2.2.1 _, cellNew hJ6.2.2.2.2.2.2.2.2.1 _, cellNew hJ6.2.2.2.2.2.2.2.2.2.1 _, cellNew hJ6.2.2.2.2.2.2.2.2.2.2.1 _, cellNew hJ6.2.2.2.2.2.2.2.2.2.2.2.1 _, cellNew hJ6.2.2.2.2.2.2.2.2.2.2.2.2.1 _, by rw [Joins.cell_of_block (newBlkD _ _ rfl)]; rfl, by rw [Joins.cell_of_block (newBlkD _ _ rfl)]; rfl, by rw [Joins.cell_of_block (newBlkD _ _ rfl)]; rfl, by rw [Joins.cell_of_block (newBlkD _ _ rfl)]; rfl, by rw [Joins.cell_of_block (newBlkD _ _ rfl)]; rfl, by rw [Joins.cell_of_block (newBlkD _ _ rfl)]; rfl, Joins.unfrozen_of_block (newBlkD _ _ rfl) 0, Joins.unfrozen_of_block (newBlkD _ _ rfl) 1, Joins.unfrozen_of_block (newBlkD _ _ rfl) 2, Joins.unfrozen_of_block (newBlkD _ _ rfl) 3, Joins.unfrozen_of_block (newBlkD _ _ rfl) 4, Joins.unfrozen_of_block (newBlkD _ _ rfl) 5, (hJ6.2.2.2.2.2.2.2.2.2.2.2.2.2.1).on (nbAlloc (Below.refl _ _) _), nbAlloc hJ6.2.2.2.2.2.2.2.2.2.2.2.2.2.2 _⟩
    obtain ⟨i0', hi, hz0, hz1, hz2⟩ := info_parts infoSt
    go_wp2_with (first | (at_make; refine wpList_make_own _ rfl _ _ 31 rfl (w6.heap.size + 1) 37 i0' _ 6 Tryd.underlying31 hi hz0 hz1 _ _ _ el rfl rfl rfl ?bytes ?most ?base ?_) | fail)
    case bytes => rw [hz2]; omega
    case most => unfold maxLen; omega
    case base => exact hszn
    intro w8 hown8 hgrow8
    have hb8 : Below (w6.alloc (.cells #[.int .i64 l, .int .i64 h, .bool true, .int .i64 0, .int .i64 (-1), .int .i64 0] 75)).heap.size (w6.alloc (.cells #[.int .i64 l, .int .i64 h, .bool true, .int .i64 0, .int .i64 (-1), .int .i64 0] 75)) w8 := ⟨hgrow8.os, hgrow8.tape, hgrow8.output, hgrow8.size, fun k hk => hgrow8.block k hk (by simp)⟩
    have hC8 := r3C_on hC7 hb8
    have hsz8 : w6.heap.size + 1 ≤ w8.heap.size := Nat.le_trans hszn hb8.size
    clear hC7 hb8 hgrow8 hJ6 hb6 hi hz0 hz1 hz2 hszn
    generalize (w6.alloc (.cells #[.int .i64 l, .int .i64 h, .bool true, .int .i64 0, .int .i64 (-1), .int .i64 0] 75)).heap.size = gg at *
    generalize w6.heap.size = pb at *
    go_wp2_with fail
    go_loopw [11, 43] (fun v iv wr => ∃ k : Nat, iv = .int .i64 k ∧ k ≤ el ∧ wr.ownsRow (pb + 1) 37 6 v k (runCs s j m g o len f a l h fe ge k) ∧ r3C w s j m g o p q len f a pb (runSt s j m g o len f a l h fe ge k) wr ∧ pb + 1 ≤ wr.heap.size) (fun _ iv _ => el - (intOf iv).toNat)
    case atStart => exact ⟨0, rfl, by omega, hown8, hC8, hsz8⟩
    case round =>
      clear hown8 hC8 hsz8
      obtain ⟨k, rfl, hk, hown, hC, hsz⟩ := hrel
      by_cases hlt : k < el
      · have i0 : (0 : Int) ≤ (k : Int) := by omega
        have i1 : (k : Int) < (el : Int) := by omega
        have hE : Hid (evB (fe k) (ge k) = true) := evTo_at HTA.out hlt
        have hA : Hid (∀ w, MapAt w q len f a → Calls Tryd.prog 38 #[.agg #[.int .i64 s, .int .i64 j, .int .i64 m, .int .i64 g, .int .i64 o, .map (some q)], (runSt s j m g o len f a l h fe ge k).b, hapV (fe k) (ge k)] w fun e w' => e = .returned (runSt s j m g o len f a l h fe ge (k + 1)).b ∧ Below w.heap.size w w') := fun w hM => calls_eq (by rw [HSP.out k hlt]) (after_c s j m g o q len f a (runSt s j m g o len f a l h fe ge k) (fe k) (ge k) w hM HR.out (HST.out k hlt) hE.out)
        have HS : Hid (runCs s j m g o len f a l h fe ge k ++ (runSt s j m g o len f a l h fe ge (k + 1)).cs = runCs s j m g o len f a l h fe ge (k + 1)) := rfl
        clear hE
        generalize runSt s j m g o len f a l h fe ge k = t at *
        generalize hT2 : runSt s j m g o len f a l h fe ge (k + 1) = t2 at *
        have HT2 : Hid (runSt s j m g o len f a l h fe ge (k + 1) = t2) := hT2
        clear hT2
        have hB0 : Below w.heap.size w wr := hC.2.2.2.2.2.2.2.2.2.2.2.2.2.2.2.2.2.2.2
        have ee := hevA.1 (by omega)
        subst ee
        have d0 := cellOn hB0 (hevA.2 k hlt).1
        have d1 := cellOn hB0 (hevA.2 k hlt).2
        have hq0 : w.heap.size ≤ pb := by omega
        go_wp2_with fail
        have hC5 : r4C w s j m g o p q len f a pb t wr.heap.size (fe k) (ge k) u11 k (runCs s j m g o len f a l h fe ge k) (wr.alloc (.cells #[.int .i64 (fe k), .int .i64 (ge k)] 48)) := ⟨cellNew hC.1 _, cellNew hC.2.1 _, cellNew hC.2.2.1 _, cellNew hC.2.2.2.1 _, cellNew hC.2.2.2.2.1 _, cellNew hC.2.2.2.2.2.1 _, cellNew hC.2.2.2.2.2.2.1 _, cellNew hC.2.2.2.2.2.2.2.1 _, cellNew hC.2.2.2.2.2.2.2.2.1 _, cellNew hC.2.2.2.2.2.2.2.2.2.1 _, cellNew hC.2.2.2.2.2.2.2.2.2.2.1 _, cellNew hC.2.2.2.2.2.2.2.2.2.2.2.1 _, frozenNew hC.2.2.2.2.2.2.1 hC.2.2.2.2.2.2.2.2.2.2.2.2.1 _, frozenNew hC.2.2.2.2.2.2.2.1 hC.2.2.2.2.2.2.2.2.2.2.2.2.2.1 _, frozenNew hC.2.2.2.2.2.2.2.2.1 hC.2.2.2.2.2.2.2.2.2.2.2.2.2.2.1 _, frozenNew hC.2.2.2.2.2.2.2.2.2.1 hC.2.2.2.2.2.2.2.2.2.2.2.2.2.2.2.1 _, frozenNew hC.2.2.2.2.2.2.2.2.2.2.1 hC.2.2.2.2.2.2.2.2.2.2.2.2.2.2.2.2.1 _, frozenNew hC.2.2.2.2.2.2.2.2.2.2.2.1 hC.2.2.2.2.2.2.2.2.2.2.2.2.2.2.2.2.2.1 _, (hC.2.2.2.2.2.2.2.2.2.2.2.2.2.2.2.2.2.2.1).on (nbAlloc (Below.refl _ _) _), by go_simp, by go_simp, hown.alloc _, nbAlloc hC.2.2.2.2.2.2.2.2.2.2.2.2.2.2.2.2.2.2.2 _⟩
        clear d0 d1 hC hown hB0
        have hsz5 : pb + 1 ≤ (wr.alloc (.cells #[.int .i64 (fe k), .int .i64 (ge k)] 48)).heap.size := by show pb + 1 ≤ (wr.heap.push _).size; rw [Array.size_push]; omega
        generalize wr.alloc (.cells #[.int .i64 (fe k), .int .i64 (ge k)] 48) = w5' at *
        have hpe : pb < wr.heap.size := by omega
        generalize wr.heap.size = pe at *
        refine region_last (r4C w s j m g o p q len f a pb t pe (fe k) (ge k) u11 k (runCs s j m g o len f a l h fe ge k)) 5 rfl (by kernel_rfl) (by kernel_rfl) (by kernel_rfl) (r4C_on hC5 (Below.drew (Below.refl _ _))) ?_
        apply Exists.intro
        refine ⟨fun hN => ?_, fun w9 h9 => ?_⟩
        · simp only [List.set_cons_succ, List.set_cons_zero, idle]
          have k0 : ∀ d : Kept (r4C w s j m g o p q len f a pb t pe (fe k) (ge k) u11 k (runCs s j m g o len f a l h fe ge k)), d.w.cell? ⟨p, 0, none⟩ = some (.int .i64 s) := fun d => d.h.1
          have k1 : ∀ d : Kept (r4C w s j m g o p q len f a pb t pe (fe k) (ge k) u11 k (runCs s j m g o len f a l h fe ge k)), d.w.cell? ⟨p, 1, none⟩ = some (.int .i64 j) := fun d => d.h.2.1
          have k2 : ∀ d : Kept (r4C w s j m g o p q len f a pb t pe (fe k) (ge k) u11 k (runCs s j m g o len f a l h fe ge k)), d.w.cell? ⟨p, 2, none⟩ = some (.int .i64 m) := fun d => d.h.2.2.1
          have k3 : ∀ d : Kept (r4C w s j m g o p q len f a pb t pe (fe k) (ge k) u11 k (runCs s j m g o len f a l h fe ge k)), d.w.cell? ⟨p, 3, none⟩ = some (.int .i64 g) := fun d => d.h.2.2.2.1
          have k4 : ∀ d : Kept (r4C w s j m g o p q len f a pb t pe (fe k) (ge k) u11 k (runCs s j m g o len f a l h fe ge k)), d.w.cell? ⟨p, 4, none⟩ = some (.int .i64 o) := fun d => d.h.2.2.2.2.1
          have k5 : ∀ d : Kept (r4C w s j m g o p q len f a pb t pe (fe k) (ge k) u11 k (runCs s j m g o len f a l h fe ge k)), d.w.cell? ⟨p, 5, none⟩ = some (.map (some q)) := fun d => d.h.2.2.2.2.2.1
          have k6 : ∀ d : Kept (r4C w s j m g o p q len f a pb t pe (fe k) (ge k) u11 k (runCs s j m g o len f a l h fe ge k)), d.w.cell? ⟨pb, 0, none⟩ = some (.int .i64 t.l) := fun d => d.h.2.2.2.2.2.2.1
          have k7 : ∀ d : Kept (r4C w s j m g o p q len f a pb t pe (fe k) (ge k) u11 k (runCs s j m g o len f a l h fe ge k)), d.w.cell? ⟨pb, 1, none⟩ = some (.int .i64 t.h) := fun d => d.h.2.2.2.2.2.2.2.1
          have k8 : ∀ d : Kept (r4C w s j m g o p q len f a pb t pe (fe k) (ge k) u11 k (runCs s j m g o len f a l h fe ge k)), d.w.cell? ⟨pb, 2, none⟩ = some (.bool t.kn) := fun d => d.h.2.2.2.2.2.2.2.2.1
          have k9 : ∀ d : Kept (r4C w s j m g o p q len f a pb t pe (fe k) (ge k) u11 k (runCs s j m g o len f a l h fe ge k)), d.w.cell? ⟨pb, 3, none⟩ = some (.int .i64 t.si) := fun d => d.h.2.2.2.2.2.2.2.2.2.1
          have k10 : ∀ d : Kept (r4C w s j m g o p q len f a pb t pe (fe k) (ge k) u11 k (runCs s j m g o len f a l h fe ge k)), d.w.cell? ⟨pb, 4, none⟩ = some (.int .i64 t.la) := fun d => d.h.2.2.2.2.2.2.2.2.2.2.1
          have k11 : ∀ d : Kept (r4C w s j m g o p q len f a pb t pe (fe k) (ge k) u11 k (runCs s j m g o len f a l h fe ge k)), d.w.cell? ⟨pb, 5, none⟩ = some (.int .i64 t.od) := fun d => d.h.2.2.2.2.2.2.2.2.2.2.2.1
          have k19 : ∀ d : Kept (r4C w s j m g o p q len f a pb t pe (fe k) (ge k) u11 k (runCs s j m g o len f a l h fe ge k)), d.w.cell? ⟨pe, 0, none⟩ = some (.int .i64 (fe k)) := fun d => d.h.2.2.2.2.2.2.2.2.2.2.2.2.2.2.2.2.2.2.2.1
          have k20 : ∀ d : Kept (r4C w s j m g o p q len f a pb t pe (fe k) (ge k) u11 k (runCs s j m g o len f a l h fe ge k)), d.w.cell? ⟨pe, 1, none⟩ = some (.int .i64 (ge k)) := fun d => d.h.2.2.2.2.2.2.2.2.2.2.2.2.2.2.2.2.2.2.2.2.1
          have kM : ∀ d : Kept (r4C w s j m g o p q len f a pb t pe (fe k) (ge k) u11 k (runCs s j m g o len f a l h fe ge k)), MapAt d.w q len f a := fun d => d.h.2.2.2.2.2.2.2.2.2.2.2.2.2.2.2.2.2.2.1
          repeat (go_big_quiet_step (first | (go_at_call 39; exact call_kept _ r4C_on (happeningOf_c _ _ _)) | (go_at_call 38; exact call_kept _ r4C_on (hA.out _ (kM _)))))
          exact wpQuiet_nil rfl
        have hplp : p ≠ pb := by omega
        have c0 : w9.cell? ⟨p, 0, none⟩ = some (.int .i64 s) := h9.1
        have c1 : w9.cell? ⟨p, 1, none⟩ = some (.int .i64 j) := h9.2.1
        have c2 : w9.cell? ⟨p, 2, none⟩ = some (.int .i64 m) := h9.2.2.1
        have c3 : w9.cell? ⟨p, 3, none⟩ = some (.int .i64 g) := h9.2.2.2.1
        have c4 : w9.cell? ⟨p, 4, none⟩ = some (.int .i64 o) := h9.2.2.2.2.1
        have c5 : w9.cell? ⟨p, 5, none⟩ = some (.map (some q)) := h9.2.2.2.2.2.1
        have c6 : w9.cell? ⟨pb, 0, none⟩ = some (.int .i64 t.l) := h9.2.2.2.2.2.2.1
        have c7 : w9.cell? ⟨pb, 1, none⟩ = some (.int .i64 t.h) := h9.2.2.2.2.2.2.2.1
        have c8 : w9.cell? ⟨pb, 2, none⟩ = some (.bool t.kn) := h9.2.2.2.2.2.2.2.2.1
        have c9 : w9.cell? ⟨pb, 3, none⟩ = some (.int .i64 t.si) := h9.2.2.2.2.2.2.2.2.2.1
        have c10 : w9.cell? ⟨pb, 4, none⟩ = some (.int .i64 t.la) := h9.2.2.2.2.2.2.2.2.2.2.1
        have c11 : w9.cell? ⟨pb, 5, none⟩ = some (.int .i64 t.od) := h9.2.2.2.2.2.2.2.2.2.2.2.1
        have c12 : w9.frozen? ⟨pb, 0, none⟩ = false := h9.2.2.2.2.2.2.2.2.2.2.2.2.1
        have c13 : w9.frozen? ⟨pb, 1, none⟩ = false := h9.2.2.2.2.2.2.2.2.2.2.2.2.2.1
        have c14 : w9.frozen? ⟨pb, 2, none⟩ = false := h9.2.2.2.2.2.2.2.2.2.2.2.2.2.2.1
        have c15 : w9.frozen? ⟨pb, 3, none⟩ = false := h9.2.2.2.2.2.2.2.2.2.2.2.2.2.2.2.1
        have c16 : w9.frozen? ⟨pb, 4, none⟩ = false := h9.2.2.2.2.2.2.2.2.2.2.2.2.2.2.2.2.1
        have c17 : w9.frozen? ⟨pb, 5, none⟩ = false := h9.2.2.2.2.2.2.2.2.2.2.2.2.2.2.2.2.2.1
        have c18 : MapAt w9 q len f a := h9.2.2.2.2.2.2.2.2.2.2.2.2.2.2.2.2.2.2.1
        have c19 : w9.cell? ⟨pe, 0, none⟩ = some (.int .i64 (fe k)) := h9.2.2.2.2.2.2.2.2.2.2.2.2.2.2.2.2.2.2.2.1
        have c20 : w9.cell? ⟨pe, 1, none⟩ = some (.int .i64 (ge k)) := h9.2.2.2.2.2.2.2.2.2.2.2.2.2.2.2.2.2.2.2.2.1
        have c22 : Below w.heap.size w w9 := h9.2.2.2.2.2.2.2.2.2.2.2.2.2.2.2.2.2.2.2.2.2.2
        simp only [St.b]
        have hT := turn6 (w := w9) (q := pb) (v0 := .int .i64 t2.l) (v1 := .int .i64 t2.h) (v2 := .bool t2.kn) (v3 := .int .i64 t2.si) (v4 := .int .i64 t2.la) (v5 := .int .i64 t2.od)
        have S := set6 (v0 := .int .i64 t2.l) (v1 := .int .i64 t2.h) (v2 := .bool t2.kn) (v3 := .int .i64 t2.si) (v4 := .int .i64 t2.la) (v5 := .int .i64 t2.od) c6 c7 c8 c9 c10 c11
        have hqn : q ≠ pb := (c18 : MapAt w9 q len f a).ne0 c6
        have hC10 : r3C w s j m g o p q len f a pb t2 ((((((w9.setCell ⟨pb, 0, none⟩ (.int .i64 t2.l)).setCell ⟨pb, 1, none⟩ (.int .i64 t2.h)).setCell ⟨pb, 2, none⟩ (.bool t2.kn)).setCell ⟨pb, 3, none⟩ (.int .i64 t2.si)).setCell ⟨pb, 4, none⟩ (.int .i64 t2.la)).setCell ⟨pb, 5, none⟩ (.int .i64 t2.od)) := ⟨hT.cell hplp c0, hT.cell hplp c1, hT.cell hplp c2, hT.cell hplp c3, hT.cell hplp c4, hT.cell hplp c5, S.1, S.2.1, S.2.2.1, S.2.2.2.1, S.2.2.2.2.1, S.2.2.2.2.2, (World.frozen?_setCell _ _ _ _).trans ((World.frozen?_setCell _ _ _ _).trans ((World.frozen?_setCell _ _ _ _).trans ((World.frozen?_setCell _ _ _ _).trans ((World.frozen?_setCell _ _ _ _).trans ((World.frozen?_setCell _ _ _ _).trans (c12)))))), (World.frozen?_setCell _ _ _ _).trans ((World.frozen?_setCell _ _ _ _).trans ((World.frozen?_setCell _ _ _ _).trans ((World.frozen?_setCell _ _ _ _).trans ((World.frozen?_setCell _ _ _ _).trans ((World.frozen?_setCell _ _ _ _).trans (c13)))))), (World.frozen?_setCell _ _ _ _).trans ((World.frozen?_setCell _ _ _ _).trans ((World.frozen?_setCell _ _ _ _).trans ((World.frozen?_setCell _ _ _ _).trans ((World.frozen?_setCell _ _ _ _).trans ((World.frozen?_setCell _ _ _ _).trans (c14)))))), (World.frozen?_setCell _ _ _ _).trans ((World.frozen?_setCell _ _ _ _).trans ((World.frozen?_setCell _ _ _ _).trans ((World.frozen?_setCell _ _ _ _).trans ((World.frozen?_setCell _ _ _ _).trans ((World.frozen?_setCell _ _ _ _).trans (c15)))))), (World.frozen?_setCell _ _ _ _).trans ((World.frozen?_setCell _ _ _ _).trans ((World.frozen?_setCell _ _ _ _).trans ((World.frozen?_setCell _ _ _ _).trans ((World.frozen?_setCell _ _ _ _).trans ((World.frozen?_setCell _ _ _ _).trans (c16)))))), (World.frozen?_setCell _ _ _ _).trans ((World.frozen?_setCell _ _ _ _).trans ((World.frozen?_setCell _ _ _ _).trans ((World.frozen?_setCell _ _ _ _).trans ((World.frozen?_setCell _ _ _ _).trans ((World.frozen?_setCell _ _ _ _).trans (c17)))))), (c18 : MapAt w9 q len f a).turns hT hqn, hT.below c22 hq0⟩
        have hown10 : ((((((w9.setCell ⟨pb, 0, none⟩ (.int .i64 t2.l)).setCell ⟨pb, 1, none⟩ (.int .i64 t2.h)).setCell ⟨pb, 2, none⟩ (.bool t2.kn)).setCell ⟨pb, 3, none⟩ (.int .i64 t2.si)).setCell ⟨pb, 4, none⟩ (.int .i64 t2.la)).setCell ⟨pb, 5, none⟩ (.int .i64 t2.od)).ownsRow (pb + 1) 37 6 u11 k (runCs s j m g o len f a l h fe ge k) := owns_set (owns_set (owns_set (owns_set (owns_set (owns_set (h9.2.2.2.2.2.2.2.2.2.2.2.2.2.2.2.2.2.2.2.2.2.1) (by omega)) (by omega)) (by omega)) (by omega)) (by omega)) (by omega)
        have hsz10 : pb + 1 ≤ ((((((w9.setCell ⟨pb, 0, none⟩ (.int .i64 t2.l)).setCell ⟨pb, 1, none⟩ (.int .i64 t2.h)).setCell ⟨pb, 2, none⟩ (.bool t2.kn)).setCell ⟨pb, 3, none⟩ (.int .i64 t2.si)).setCell ⟨pb, 4, none⟩ (.int .i64 t2.la)).setCell ⟨pb, 5, none⟩ (.int .i64 t2.od)).heap.size := by have := ltCell S.1; omega
        go_simp
        clear hT S h9 c0 c1 c2 c3 c4 c5 c6 c7 c8 c9 c10 c11 c12 c13 c14 c15 c16 c17 c18 c19 c20 c22
        generalize ((((((w9.setCell ⟨pb, 0, none⟩ (.int .i64 t2.l)).setCell ⟨pb, 1, none⟩ (.int .i64 t2.h)).setCell ⟨pb, 2, none⟩ (.bool t2.kn)).setCell ⟨pb, 3, none⟩ (.int .i64 t2.si)).setCell ⟨pb, 4, none⟩ (.int .i64 t2.la)).setCell ⟨pb, 5, none⟩ (.int .i64 t2.od)) = w10 at *
        have c0 : w10.cell? ⟨p, 0, none⟩ = some (.int .i64 s) := hC10.1
        have c1 : w10.cell? ⟨p, 1, none⟩ = some (.int .i64 j) := hC10.2.1
        have c2 : w10.cell? ⟨p, 2, none⟩ = some (.int .i64 m) := hC10.2.2.1
        have c3 : w10.cell? ⟨p, 3, none⟩ = some (.int .i64 g) := hC10.2.2.2.1
        have c4 : w10.cell? ⟨p, 4, none⟩ = some (.int .i64 o) := hC10.2.2.2.2.1
        have c5 : w10.cell? ⟨p, 5, none⟩ = some (.map (some q)) := hC10.2.2.2.2.2.1
        have c6 : w10.cell? ⟨pb, 0, none⟩ = some (.int .i64 t2.l) := hC10.2.2.2.2.2.2.1
        have c7 : w10.cell? ⟨pb, 1, none⟩ = some (.int .i64 t2.h) := hC10.2.2.2.2.2.2.2.1
        have c8 : w10.cell? ⟨pb, 2, none⟩ = some (.bool t2.kn) := hC10.2.2.2.2.2.2.2.2.1
        have c9 : w10.cell? ⟨pb, 3, none⟩ = some (.int .i64 t2.si) := hC10.2.2.2.2.2.2.2.2.2.1
        have c10 : w10.cell? ⟨pb, 4, none⟩ = some (.int .i64 t2.la) := hC10.2.2.2.2.2.2.2.2.2.2.1
        have c11 : w10.cell? ⟨pb, 5, none⟩ = some (.int .i64 t2.od) := hC10.2.2.2.2.2.2.2.2.2.2.2.1
        have c12 : w10.frozen? ⟨pb, 0, none⟩ = false := hC10.2.2.2.2.2.2.2.2.2.2.2.2.1
        have c13 : w10.frozen? ⟨pb, 1, none⟩ = false := hC10.2.2.2.2.2.2.2.2.2.2.2.2.2.1
        have c14 : w10.frozen? ⟨pb, 2, none⟩ = false := hC10.2.2.2.2.2.2.2.2.2.2.2.2.2.2.1
        have c15 : w10.frozen? ⟨pb, 3, none⟩ = false := hC10.2.2.2.2.2.2.2.2.2.2.2.2.2.2.2.1
        have c16 : w10.frozen? ⟨pb, 4, none⟩ = false := hC10.2.2.2.2.2.2.2.2.2.2.2.2.2.2.2.2.1
        have c17 : w10.frozen? ⟨pb, 5, none⟩ = false := hC10.2.2.2.2.2.2.2.2.2.2.2.2.2.2.2.2.2.1
        have c18 : MapAt w10 q len f a := hC10.2.2.2.2.2.2.2.2.2.2.2.2.2.2.2.2.2.2.1
        have c19 : Below w.heap.size w w10 := hC10.2.2.2.2.2.2.2.2.2.2.2.2.2.2.2.2.2.2.2
        go_wp2_with fail
        refine (stateOf_c t2 _).mono ?_
        rintro e w11 ⟨rfl, hb11⟩
        simp only [St.v]
        have hC11 := r3C_on hC10 hb11
        have hown11 := owns_on hown10 hb11
        have hsz11 : pb + 1 ≤ w11.heap.size := Nat.le_trans hsz10 hb11.size
        clear hC10 hown10 hsz10 hb11 c0 c1 c2 c3 c4 c5 c6 c7 c8 c9 c10 c11 c12 c13 c14 c15 c16 c17 c18 c19
        obtain ⟨i0', hi, hz0, hz1, hz2⟩ := info_parts infoSt
        go_wp2_with (at_builtin; refine wpList_append_own _ rfl _ _ 31 rfl (pb + 1) 37 i0' _ 6 48 Tryd.underlying31 hi hz0 hz1 hz2 rfl (by decide) _ _ _ rfl (hown11.alloc _) ⟨w11.heap.size, 0, none⟩ 1 1 [.bool t2.kn, .int .i64 t2.l, .int .i64 t2.h, .int .i64 t2.si, .int .i64 t2.la, .int .i64 t2.od] rfl rfl ?c1 ?c2 ?c3 ?c4 ?c5 ?_)
        case c1 =>
          intro j u hj
          match j, hj with
          | 0, hj => simp at hj; subst hj; simp [Addr.add]
          | 1, hj => simp at hj; subst hj; simp [Addr.add]
          | 2, hj => simp at hj; subst hj; simp [Addr.add]
          | 3, hj => simp at hj; subst hj; simp [Addr.add]
          | 4, hj => simp at hj; subst hj; simp [Addr.add]
          | 5, hj => simp at hj; subst hj; simp [Addr.add]
        case c2 => intro u hu; simp at hu; rcases hu with rfl | rfl | rfl | rfl | rfl | rfl <;> rfl
        case c3 => unfold maxLen; omega
        case c4 => omega
        case c5 => show pb + 1 ≤ (Array.push _ _).size; rw [Array.size_push]; omega
        intro v' w12 hown12 hgrow _
        have hlow := grown_low (hown11.alloc _) (by show pb + 1 ≤ (Array.push _ _).size; rw [Array.size_push]; omega) hgrow
        have hC12 := r3C_low (r3C_on hC11 (nbAlloc (Below.refl _ _) _)) hpl hql hq0 hlow
        have hsz12 : pb + 1 ≤ w12.heap.size := by
          have h9 : (Array.push _ _).size ≤ _ := hlow.size
          rw [Array.size_push] at h9; omega
        clear hgrow hlow hi hz0 hz1 hz2 hC11 hown11
        go_wp2_with fail
        go_roundw
        case rel => exact ⟨k + 1, by go_num, by omega, (by rw [← HS.out]; exact hown12), (by rw [HT2.out]; exact hC12), hsz12⟩
        case measure => simp [intOf]; omega
      · have hkl : el = k := by omega
        subst hkl
        go_wp2_with fail
        go_ret
        exact ⟨_, rfl, owns_base hown (by omega), hC.2.2.2.2.2.2.2.2.2.2.2.2.2.2.2.2.2.2.2⟩


end Go.Proofs.YtmhppadblddjoaaDoor

