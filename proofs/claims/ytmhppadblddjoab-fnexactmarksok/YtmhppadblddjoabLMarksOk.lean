import Derived.Test.YtmhppadblddjoabMkOk
namespace Go.Proofs.Ytmhppadblddjoab
open Go.RowKit

set_option maxHeartbeats 1000000 in
theorem lawMarksOk_c (a : Option Addr) (len cap : Nat) (f g : Nat → Int) (w : World) (hlen : len ≤ 9223372036854775807) (hr : SRow w a len f g)
    (hi : Hid (∀ q w, len ≤ 1048576 → Row2 w q 0 len f g → Calls Try.prog 22 #[.slice (some ⟨q, 0, none⟩) len len] w fun e w' => e = .returned (.bool (marksB f g len)) ∧ Below w.heap.size w w')) :
    Calls Try.prog 4 #[.slice a len cap] w fun e w' => e = .returned (.bool true) ∧ Below w.heap.size w w' := by
  go_enter Try.func4, Try.ntmps4
  go_wp2_with fail
  refine (szMarkS_c _ _ _ _ _ (by omega) (by omega) hlen).mono ?_
  rintro e w1 ⟨rfl, rfl⟩
  by_cases hbig : (1048576 : Int) - (len : Int) < 0
  · rw [if_pos hbig]
    go_wp2_with fail
    go_ret
    exact ⟨rfl, Below.refl _ _⟩
  · rw [if_neg hbig]
    have hl : len ≤ 1048576 := by omega
    have HB : Hid (len ≤ 1048576) := hl
    have i0 : ¬ ((1048576 : Int) - (len : Int) < 0) := hbig
    clear hl
    go_wp2_with fail
    refine (toMarkS_any a len cap f g _ HB.out hr).mono ?_
    rintro e w2 ⟨q2, rfl, hq2, hr2, -, hb2⟩
    go_wp2_with fail
    refine (specMarksOk_c q2 0 len len f g _ HB.out hr2).mono ?_
    rintro e w3 ⟨rfl, hb3⟩
    have hB3 := nbTrans hb2 hb3
    go_wp2_with fail
    refine (toMarkS_any a len cap f g _ HB.out (hr.on hB3)).mono ?_
    rintro e w4 ⟨q4, rfl, hq4, hr4, -, hb4⟩
    have hB4 := nbTrans hB3 hb4
    go_wp2_with fail
    refine (hi.out q4 _ HB.out hr4).mono ?_
    rintro e w5 ⟨rfl, hb5⟩
    have hB5 := nbTrans hB4 hb5
    have hne : (marksB f g len != marksB f g len) = false := by simp
    go_wp2_with fail
    refine (toMarkS_any a len cap f g _ HB.out (hr.on hB5)).mono ?_
    rintro e w6 ⟨q6, rfl, hq6, hr6, -, hb6⟩
    go_wp2_with fail
    refine (eqMarkS_c q4 q6 len len len f g _ HB.out ((hr4.on hb5).on hb6) hr6).mono ?_
    rintro e w7 ⟨rfl, hb7⟩
    go_wp2_with fail
    go_ret
    exact ⟨rfl, nbTrans (nbTrans hB5 hb6) hb7⟩

end Go.Proofs.Ytmhppadblddjoab
