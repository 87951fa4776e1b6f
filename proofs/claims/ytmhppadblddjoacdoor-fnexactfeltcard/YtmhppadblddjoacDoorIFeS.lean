/- Chapter 4 of the program: Felt at every argument. -/
import Derived.Test.YtmhppadblddjoacDoorIFe
namespace Go.Proofs.YtmhppadblddjoacDoor
open Go.RowKit Go.Shelf

set_option maxRecDepth 100000 in
set_option maxHeartbeats 4000000 in
theorem implFelt_bad (ad : Option Addr) (len cap : Nat) (f a : Nat → Int) (x0 : Int) (at2 : Option Addr) (n nc : Nat) (tf tc : Nat → Int) (ar : Option Addr) (rn rc : Nat) (rd : Nat → Int) (s j m g o : Int) (w : World) (hl : len ≤ 1048576) (hrow : SRow w ad len f a) (hbad : (rOk s j m g o && marksB f a len && inB x0 0 100000000 && decide (n ≤ 2000) && decide (rn = n)) = false) :
    Calls Tryd.prog 16 #[.agg #[.int .i64 s, .int .i64 j, .int .i64 m, .int .i64 g, .int .i64 o], .slice ad len cap, .int .i64 x0, .slice at2 n nc, .slice ar rn rc] w fun e w' => ∃ v, e = .returned v ∧ Felts w (feltA s j m g o f a len x0 tf tc rd n rn) v w' := by
  cases hr : rOk s j m g o
  case false =>
    go_enter Tryd.func16, Tryd.ntmps16
    have hF0 := feB_new w s j m g o (.slice ad len cap) (.slice at2 n nc) (.slice ar rn rc)
    unfold feW at hF0
    go_wp2_with fail
    refine (implRulesOk_c _ _ _ _ _ _).mono ?_
    rintro e w1 ⟨rfl, hb1⟩
    simp only [hr]
    have hF1 := hF0.on hb1
    clear hF0 hb1
    have z0 := hF1.q.cell
    have z1 := hF1.q.frozen
    go_wp2_with fail
    have hc5 := World.cell?_setCell_same' w1 ⟨w.heap.size + 1 + 1 + 1 + 1, 0, none⟩ (.slice none 0 0) (by rw [z0]; rfl)
    exact bodyPost_ret (v := .slice none 0 0) (by simp [results, Tryd.f16, go_sem, hc5]) rfl ⟨_, rfl, by rw [feltA_no (by simp [feltOk, hr])]; exact World.ownsRow_nil _ _ _ _, hF1.low.setCell (p := ⟨w.heap.size + 1 + 1 + 1 + 1, 0, none⟩) (by show w.heap.size ≤ w.heap.size + 1 + 1 + 1 + 1; omega) _⟩
  cases hm : marksB f a len
  case false =>
    go_enter Tryd.func16, Tryd.ntmps16
    have hF0 := feB_new w s j m g o (.slice ad len cap) (.slice at2 n nc) (.slice ar rn rc)
    unfold feW at hF0
    go_wp2_with fail
    refine (implRulesOk_c _ _ _ _ _ _).mono ?_
    rintro e w1 ⟨rfl, hb1⟩
    simp only [hr]
    have hF1 := hF0.on hb1
    clear hF0 hb1
    have c1 := hF1.k.cell
    go_wp2_with fail
    refine (implMarksOk_sx ad len cap f a _ hl (hrow.on hF1.low)).mono ?_
    rintro e w2 ⟨rfl, hb2⟩
    simp only [hm]
    have hF2 := hF1.on hb2
    clear hF1 hb2 c1
    have z0 := hF2.q.cell
    have z1 := hF2.q.frozen
    go_wp2_with fail
    have hc5 := World.cell?_setCell_same' w2 ⟨w.heap.size + 1 + 1 + 1 + 1, 0, none⟩ (.slice none 0 0) (by rw [z0]; rfl)
    exact bodyPost_ret (v := .slice none 0 0) (by simp [results, Tryd.f16, go_sem, hc5]) rfl ⟨_, rfl, by rw [feltA_no (by simp [feltOk, hm])]; exact World.ownsRow_nil _ _ _ _, hF2.low.setCell (p := ⟨w.heap.size + 1 + 1 + 1 + 1, 0, none⟩) (by show w.heap.size ≤ w.heap.size + 1 + 1 + 1 + 1; omega) _⟩
  cases hx : inB x0 0 100000000
  case false =>
    go_enter Tryd.func16, Tryd.ntmps16
    have hF0 := feB_new w s j m g o (.slice ad len cap) (.slice at2 n nc) (.slice ar rn rc)
    unfold feW at hF0
    go_wp2_with fail
    refine (implRulesOk_c _ _ _ _ _ _).mono ?_
    rintro e w1 ⟨rfl, hb1⟩
    simp only [hr]
    have hF1 := hF0.on hb1
    clear hF0 hb1
    have c1 := hF1.k.cell
    go_wp2_with fail
    refine (implMarksOk_sx ad len cap f a _ hl (hrow.on hF1.low)).mono ?_
    rintro e w2 ⟨rfl, hb2⟩
    simp only [hm]
    have hF2 := hF1.on hb2
    clear hF1 hb2 c1
    go_wp2_with fail
    refine (upTo_c _ _).mono ?_
    rintro e w3 ⟨rfl, hb3⟩
    have hF3 := hF2.on hb3
    clear hF2 hb3
    go_wp2_with fail
    refine (has_c _ _ _ _).mono ?_
    rintro e w4 ⟨rfl, hb4⟩
    simp only [hx]
    have hF4 := hF3.on hb4
    clear hF3 hb4
    have z0 := hF4.q.cell
    have z1 := hF4.q.frozen
    go_wp2_with fail
    have hc5 := World.cell?_setCell_same' w4 ⟨w.heap.size + 1 + 1 + 1 + 1, 0, none⟩ (.slice none 0 0) (by rw [z0]; rfl)
    exact bodyPost_ret (v := .slice none 0 0) (by simp [results, Tryd.f16, go_sem, hc5]) rfl ⟨_, rfl, by rw [feltA_no (by simp [feltOk, hx])]; exact World.ownsRow_nil _ _ _ _, hF4.low.setCell (p := ⟨w.heap.size + 1 + 1 + 1 + 1, 0, none⟩) (by show w.heap.size ≤ w.heap.size + 1 + 1 + 1 + 1; omega) _⟩
  by_cases h2 : (2000 : Int) < (n : Int)
  · have h2' : ¬ n ≤ 2000 := by omega
    go_enter Tryd.func16, Tryd.ntmps16
    have hF0 := feB_new w s j m g o (.slice ad len cap) (.slice at2 n nc) (.slice ar rn rc)
    unfold feW at hF0
    go_wp2_with fail
    refine (implRulesOk_c _ _ _ _ _ _).mono ?_
    rintro e w1 ⟨rfl, hb1⟩
    simp only [hr]
    have hF1 := hF0.on hb1
    clear hF0 hb1
    have c1 := hF1.k.cell
    go_wp2_with fail
    refine (implMarksOk_sx ad len cap f a _ hl (hrow.on hF1.low)).mono ?_
    rintro e w2 ⟨rfl, hb2⟩
    simp only [hm]
    have hF2 := hF1.on hb2
    clear hF1 hb2 c1
    go_wp2_with fail
    refine (upTo_c _ _).mono ?_
    rintro e w3 ⟨rfl, hb3⟩
    have hF3 := hF2.on hb3
    clear hF2 hb3
    go_wp2_with fail
    refine (has_c _ _ _ _).mono ?_
    rintro e w4 ⟨rfl, hb4⟩
    simp only [hx]
    have hF4 := hF3.on hb4
    clear hF3 hb4
    have c2 := hF4.t.cell
    have z0 := hF4.q.cell
    have z1 := hF4.q.frozen
    go_wp2_with fail
    have hc5 := World.cell?_setCell_same' w4 ⟨w.heap.size + 1 + 1 + 1 + 1, 0, none⟩ (.slice none 0 0) (by rw [z0]; rfl)
    exact bodyPost_ret (v := .slice none 0 0) (by simp [results, Tryd.f16, go_sem, hc5]) rfl ⟨_, rfl, by rw [feltA_no (by simp [feltOk, h2'])]; exact World.ownsRow_nil _ _ _ _, hF4.low.setCell (p := ⟨w.heap.size + 1 + 1 + 1 + 1, 0, none⟩) (by show w.heap.size ≤ w.heap.size + 1 + 1 + 1 + 1; omega) _⟩
  · have h3 : ¬ rn = n := by
      intro e
      have : n ≤ 2000 := by omega
      simp [hr, hm, hx, this, e] at hbad
    have h3' : ((rn : Int) != (n : Int)) = true := by simp; omega
    go_enter Tryd.func16, Tryd.ntmps16
    have hF0 := feB_new w s j m g o (.slice ad len cap) (.slice at2 n nc) (.slice ar rn rc)
    unfold feW at hF0
    go_wp2_with fail
    refine (implRulesOk_c _ _ _ _ _ _).mono ?_
    rintro e w1 ⟨rfl, hb1⟩
    simp only [hr]
    have hF1 := hF0.on hb1
    clear hF0 hb1
    have c1 := hF1.k.cell
    go_wp2_with fail
    refine (implMarksOk_sx ad len cap f a _ hl (hrow.on hF1.low)).mono ?_
    rintro e w2 ⟨rfl, hb2⟩
    simp only [hm]
    have hF2 := hF1.on hb2
    clear hF1 hb2 c1
    go_wp2_with fail
    refine (upTo_c _ _).mono ?_
    rintro e w3 ⟨rfl, hb3⟩
    have hF3 := hF2.on hb3
    clear hF2 hb3
    go_wp2_with fail
    refine (has_c _ _ _ _).mono ?_
    rintro e w4 ⟨rfl, hb4⟩
    simp only [hx]
    have hF4 := hF3.on hb4
    clear hF3 hb4
    have c2 := hF4.t.cell
    have c3 := hF4.d.cell
    have z0 := hF4.q.cell
    have z1 := hF4.q.frozen
    go_wp2_with fail
    have hc5 := World.cell?_setCell_same' w4 ⟨w.heap.size + 1 + 1 + 1 + 1, 0, none⟩ (.slice none 0 0) (by rw [z0]; rfl)
    exact bodyPost_ret (v := .slice none 0 0) (by simp [results, Tryd.f16, go_sem, hc5]) rfl ⟨_, rfl, by rw [feltA_no (by simp [feltOk, h3])]; exact World.ownsRow_nil _ _ _ _, hF4.low.setCell (p := ⟨w.heap.size + 1 + 1 + 1 + 1, 0, none⟩) (by show w.heap.size ≤ w.heap.size + 1 + 1 + 1 + 1; omega) _⟩

theorem implFelt_s (ad : Option Addr) (len cap : Nat) (f a : Nat → Int) (x0 : Int) (at2 : Option Addr) (n nc : Nat) (tf tc : Nat → Int) (ar : Option Addr) (rn rc : Nat) (rd : Nat → Int) (s j m g o : Int) (w : World) (hl : len ≤ 1048576) (_ : n ≤ 1048576) (_ : rn ≤ 1048576) (hrow : SRow w ad len f a) (htk : SRow w at2 n tf tc) (hrd : SRow1 w ar rn rd) (hV : Vars w) :
    Calls Tryd.prog 16 #[.agg #[.int .i64 s, .int .i64 j, .int .i64 m, .int .i64 g, .int .i64 o], .slice ad len cap, .int .i64 x0, .slice at2 n nc, .slice ar rn rc] w fun e w' => ∃ v, e = .returned v ∧ Felts w (feltA s j m g o f a len x0 tf tc rd n rn) v w' := by
  by_cases hgood : (rOk s j m g o && marksB f a len && inB x0 0 100000000 && decide (n ≤ 2000) && decide (rn = n)) = true
  · simp only [Bool.and_eq_true, decide_eq_true_eq] at hgood
    obtain ⟨⟨⟨⟨hr, hm⟩, hx⟩, h2⟩, rfl⟩ := hgood
    exact implFelt_ok ad len cap f a x0 at2 rn nc tf tc ar rc rd s j m g o w hl hrow htk hrd hV hr hm hx h2
  · exact implFelt_bad ad len cap f a x0 at2 n nc tf tc ar rn rc rd s j m g o w hl hrow (by simpa using hgood)

end Go.Proofs.YtmhppadblddjoacDoor
