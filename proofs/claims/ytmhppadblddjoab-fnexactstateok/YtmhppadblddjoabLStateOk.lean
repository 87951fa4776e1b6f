import Derived.Test.YtmhppadblddjoabEv
import Derived.Test.YtmhppadblddjoabRel
namespace Go.Proofs.Ytmhppadblddjoab
open Go.RowKit

def lsC (w : World) (kn : Bool) (l h si la od : Int) : World → Prop := fun w' => w'.cell? ⟨w.heap.size, 0, none⟩ = some (.bool kn) ∧ w'.cell? ⟨w.heap.size, 1, none⟩ = some (.int .i64 l) ∧ w'.cell? ⟨w.heap.size, 2, none⟩ = some (.int .i64 h) ∧ w'.cell? ⟨w.heap.size, 3, none⟩ = some (.int .i64 si) ∧ w'.cell? ⟨w.heap.size, 4, none⟩ = some (.int .i64 la) ∧ w'.cell? ⟨w.heap.size, 5, none⟩ = some (.int .i64 od) ∧ Below w.heap.size w w'
theorem lsC_on {w : World} {kn : Bool} {l h si la od : Int} {w1 w2 : World} (hh : lsC w kn l h si la od w1) (hb : Below w1.heap.size w1 w2) : lsC w kn l h si la od w2 :=
  ⟨cellOn hb hh.1, cellOn hb hh.2.1, cellOn hb hh.2.2.1, cellOn hb hh.2.2.2.1, cellOn hb hh.2.2.2.2.1, cellOn hb hh.2.2.2.2.2.1, nbTrans hh.2.2.2.2.2.2 hb⟩

def lsY (a : Option Addr) (len cap : Nat) (f g : Nat → Int) (sv : Value) (r : Bool) : Nat → Value → World → Prop
  | 0, v, _ => v = .slice a len cap
  | 1, v, w => ∃ q, v = .slice (some ⟨q, 0, none⟩) len len ∧ Row2 w q 0 len f g
  | 2, v, _ => v = sv
  | 3, v, _ => v = sv
  | 4, v, _ => v = .bool r
  | 5, v, _ => v = .bool r
  | _, _, _ => True
theorem lsY_on {a : Option Addr} {len cap : Nat} {f g : Nat → Int} {sv : Value} {r : Bool} : ∀ j v w w', lsY a len cap f g sv r j v w → Below w.heap.size w w' → lsY a len cap f g sv r j v w'
  | 0, _, _, _, h, _ => h
  | 1, _, _, _, ⟨q, h1, h2⟩, hb => ⟨q, h1, h2.on hb⟩
  | 2, _, _, _, h, _ => h
  | 3, _, _, _, h, _ => h
  | 4, _, _, _, h, _ => h
  | 5, _, _, _, h, _ => h
  | _ + 6, _, _, _, _, _ => trivial

set_option maxRecDepth 100000 in
set_option maxHeartbeats 1000000 in
theorem lawStateOk_c (a : Option Addr) (len cap : Nat) (f g : Nat → Int) (kn : Bool) (l h si la od : Int) (w : World) (hlen : len ≤ 9223372036854775807) (hr : SRow w a len f g)
    (hi : Hid (∀ q w, len ≤ 1048576 → Row2 w q 0 len f g → Calls Try.prog 29 #[.slice (some ⟨q, 0, none⟩) len len, .agg #[.bool kn, .int .i64 l, .int .i64 h, .int .i64 si, .int .i64 la, .int .i64 od]] w fun e w' => e = .returned (.bool (stB (marksB f g len) len kn l h si la od)) ∧ Below w.heap.size w w')) :
    Calls Try.prog 6 #[.slice a len cap, .agg #[.bool kn, .int .i64 l, .int .i64 h, .int .i64 si, .int .i64 la, .int .i64 od]] w fun e w' => e = .returned (.bool true) ∧ Below w.heap.size w w' := by
  have hne : (stB (marksB f g len) len kn l h si la od != stB (marksB f g len) len kn l h si la od) = false := by simp
  go_enter Try.func6, Try.ntmps6
  go_wp2_with fail
  refine (szMarkS_c _ _ _ _ _ (by omega) (by omega) hlen).mono ?_
  rintro e w1 ⟨rfl, rfl⟩
  by_cases hbig : (1048576 : Int) - (len : Int) < 0
  · rw [if_pos hbig]
    go_wp2_with fail
    go_ret
    exact ⟨rfl, nbAlloc (Below.refl _ _) _⟩
  · rw [if_neg hbig]
    have hl : len ≤ 1048576 := by omega
    have HB : Hid (len ≤ 1048576) := hl
    have i0 : ¬ ((1048576 : Int) - (len : Int) < 0) := hbig
    clear hl
    go_wp2_with fail
    refine region_rel (lsC w kn l h si la od) (lsY a len cap f g (.agg #[.bool kn, .int .i64 l, .int .i64 h, .int .i64 si, .int .i64 la, .int .i64 od]) (stB (marksB f g len) len kn l h si la od)) 6 (fun _ _ => lsC_on) lsY_on (by kernel_rfl) (by kernel_rfl) (by kernel_rfl) ?_ ?_ ?_
    · refine ⟨?_, ?_, ?_, ?_, ?_, ?_, Below.drew (nbAlloc (Below.refl _ _) _)⟩ <;> go_simp
    · intro j o ho hne vs w1 hC hw
      obtain ⟨c0, c1, c2, c3, c4, c5, cB⟩ := hC
      match j, ho with
      | 0, ho =>
        cases ho
        clear hw
        simp only [mix]
        go_simp
        exact ⟨rfl, Below.refl _ _⟩
      | 1, ho =>
        cases ho
        have y0 : vs 0 = _ := hw 0 (waits_of (by kernel_rfl))
        clear hw
        simp [mix, y0]
        go_simp
        refine (toMarkS_any a len cap f g _ HB.out (hr.on cB)).mono ?_
        rintro e w2 ⟨q2, rfl, hq2, hr2, -, hb2⟩
        exact ⟨_, rfl, ⟨q2, rfl, hr2⟩, hb2⟩
      | 2, ho =>
        cases ho
        clear hw
        simp [mix]
        go_simp
        exact ⟨rfl, Below.refl _ _⟩
      | 3, ho =>
        cases ho
        have y2 : vs 2 = _ := hw 2 (waits_of (by kernel_rfl))
        clear hw
        simp [mix, y2]
        go_simp
        refine (toState_c _ _ _ _ _ _ _).mono ?_
        rintro e w2 ⟨rfl, hb2⟩
        exact ⟨_, rfl, rfl, hb2⟩
      | 4, ho =>
        cases ho
        obtain ⟨q, y1, hq⟩ := hw 1 (waits_of (by kernel_rfl))
        have y3 : vs 3 = _ := hw 3 (waits_of (by kernel_rfl))
        clear hw
        simp [mix, y1, y3]
        go_simp
        refine (specStateOk_c _ _ _ (marksB f g len) _ _ _ _ _ _ _ HB.out (by intro w' hw'; exact specMarksOk_c q 0 len len f g w' HB.out (hq.on hw'))).mono ?_
        rintro e w2 ⟨rfl, hb2⟩
        exact ⟨_, rfl, rfl, hb2⟩
      | 5, ho =>
        cases ho
        have y4 : vs 4 = _ := hw 4 (waits_of (by kernel_rfl))
        clear hw
        simp [mix, y4]
        go_simp
        exact ⟨rfl, Below.refl _ _⟩
      | n + 6, ho => simp at ho
    · intro vs w1 hC hy
      obtain ⟨c0, c1, c2, c3, c4, c5, cB⟩ := hC
      have y0 : vs 0 = _ := hy 0 (by simp) (by simp)
      obtain ⟨q1, y1, -⟩ := hy 1 (by simp) (by simp)
      have y2 : vs 2 = _ := hy 2 (by simp) (by simp)
      have y3 : vs 3 = _ := hy 3 (by simp) (by simp)
      have y4 : vs 4 = _ := hy 4 (by simp) (by simp)
      have y5 : vs 5 = _ := hy 5 (by simp) (by simp)
      clear hy
      simp only [mix, y0, y1, y2, y3, y4, y5]
      clear y0 y1 y2 y3 y4 y5
      go_wp2_with fail
      refine (toMarkS_any a len cap f g _ HB.out (hr.on cB)).mono ?_
      rintro e w4 ⟨q4, rfl, hq4, hr4, -, hb4⟩
      have hC4 := lsC_on ⟨c0, c1, c2, c3, c4, c5, cB⟩ hb4
      clear c0 c1 c2 c3 c4 c5
      obtain ⟨c0, c1, c2, c3, c4, c5, cB4⟩ := hC4
      go_wp2_with fail
      refine (toState_c _ _ _ _ _ _ _).mono ?_
      rintro e w5 ⟨rfl, hb5⟩
      have hB5 := nbTrans cB4 hb5
      go_wp2_with fail
      refine (hi.out q4 _ HB.out (hr4.on hb5)).mono ?_
      rintro e w6 ⟨rfl, hb6⟩
      have hB6 := nbTrans hB5 hb6
      go_wp2_with fail
      refine (toMarkS_any a len cap f g _ HB.out (hr.on hB6)).mono ?_
      rintro e w7 ⟨q7, rfl, hq7, hr7, -, hb7⟩
      go_wp2_with fail
      refine (eqMarkS_c q4 q7 len len len f g _ HB.out (((hr4.on hb5).on hb6).on hb7) hr7).mono ?_
      rintro e w8 ⟨rfl, hb8⟩
      go_wp2_with fail
      go_ret
      exact ⟨rfl, nbTrans (nbTrans hB6 hb7) hb8⟩

end Go.Proofs.Ytmhppadblddjoab
