import Derived.Test.YtmhppadblddjoacDoorIAnS
import Derived.Test.YtmhppadblddjoacDoorAn
import Derived.Test.YtmhppadblddjoacDoorIRun
import Derived.Test.YtmhppadblddjoacDoorRunOk
import Derived.Test.YtmhppadblddjoacDoorLAnswer
namespace Go.Proofs.YtmhppadblddjoacDoor
open Go.RowKit

theorem run_num {s j m g o : Int} {len : Nat} {f a : Nat → Int} {l h : Int} {fe ge : Nat → Int} {el : Nat} (hok : runOk s j m g o len f a l h fe ge el = true) : Hid (∀ i, i < el → StNum (runSt s j m g o len f a l h fe ge (i + 1))) := fun i hi => by
  unfold runOk at hok
  simp only [Bool.and_eq_true, decide_eq_true_eq] at hok
  obtain ⟨⟨⟨⟨hr, hbk⟩, hmk⟩, -⟩, hto⟩ := hok
  obtain ⟨-, h1, h2, h3, h4, h5⟩ := st_all (run_st hr hbk hmk hto (i + 1) (by omega))
  have hml : len ≤ 100 := by
    unfold marksB at hmk
    rw [Bool.and_eq_true, decide_eq_true_eq] at hmk
    exact hmk.2
  cases hk : (runSt s j m g o len f a l h fe ge (i + 1)).kn
  · obtain ⟨e1, e2, e3⟩ := h5 hk
    exact ⟨by omega, by omega, h2, by omega, h3⟩
  · obtain ⟨e1, e2, e3⟩ := h4 hk
    exact ⟨by omega, by omega, h2, by omega, h3⟩
theorem lawAnswer_w (s j m g o : Int) (ad : Option Addr) (len cap : Nat) (f a : Nat → Int) (l h : Int) (ae : Option Addr) (el ce : Nat) (fe ge : Nat → Int) (w : World) (hlen : len ≤ 9223372036854775807) (hrow : SRow w ad len f a) (helen : el ≤ 9223372036854775807) (hev : SRow w ae el fe ge) (hTab : Tab w) :
    Calls Tryd.prog 5 #[.agg #[.int .i64 s, .int .i64 j, .int .i64 m, .int .i64 g, .int .i64 o], .slice ad len cap, .agg #[.int .i64 l, .int .i64 h], .slice ae el ce] w fun e w' => e = .returned (.bool true) ∧ Below w.heap.size w w' := by
  cases hok : runOk s j m g o len f a l h fe ge el
  · refine lawAnswer_c ad len cap f a ae el ce fe ge s j m g o l h (ansB (fun i => runSt s j m g o len f a l h fe ge (i + 1)) 0) w hlen helen hrow hev ?_ ?_
    · exact fun q qe w hl hel h1 h2 => specAnswer_m s j m g o _ l h _ 0 _ w (by omega) (fun i hi => absurd hi (by omega)) (fun w' hb => (specRun_bad q 0 len len f a qe 0 el el fe ge s j m g o l h w' hl (h1.on hb) hel (h2.on hb) hok).mono fun e w' hh => ⟨_, hh.1, ⟨none, 0, rfl, .inl rfl⟩, hh.2⟩)
    · exact fun q qe w hz hl hel h1 h2 => implAnswer_m s j m g o _ l h _ 0 _ w (by omega) (fun i hi => absurd hi (by omega)) (fun w' hb => (implRun_bad q 0 len len f a qe 0 el el fe ge s j m g o l h w' hl (h1.on hb) hel (h2.on hb) hok).mono fun e w' hh => ⟨_, hh.1, ⟨none, 0, rfl, .inl rfl⟩, hh.2⟩) (hTab.on hz)
  · have hN := run_num hok
    have h2k : el ≤ 2000 := by
      have hk := hok
      unfold runOk at hk
      simp only [Bool.and_eq_true, decide_eq_true_eq] at hk
      exact hk.1.2
    refine lawAnswer_c ad len cap f a ae el ce fe ge s j m g o l h (ansB (fun i => runSt s j m g o len f a l h fe ge (i + 1)) el) w hlen helen hrow hev ?_ ?_
    · exact fun q qe w hl hel h1 h2 => specAnswer_m s j m g o _ l h _ el _ w h2k hN (fun w' hb => (specRun_ok q 0 len len f a qe 0 el el fe ge s j m g o l h w' hl (h1.on hb) hel (h2.on hb) hok).mono fun e w' ⟨v, hv, hh⟩ => ⟨v, hv, stRow_of hh.1, hh.2⟩)
    · exact fun q qe w hz hl hel h1 h2 => implAnswer_m s j m g o _ l h _ el _ w h2k hN (fun w' hb => (implRun_ok q 0 len len f a qe 0 el el fe ge s j m g o l h w' hl (h1.on hb) hel (h2.on hb) hok).mono fun e w' ⟨v, hv, hh⟩ => ⟨v, hv, stRow_of hh.1, hh.2⟩) (hTab.on hz)

end Go.Proofs.YtmhppadblddjoacDoor
