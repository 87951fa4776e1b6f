import Derived.Test.YtmhppadblddjoabIRun
import Derived.Test.YtmhppadblddjoabLRun
namespace Go.Proofs.Ytmhppadblddjoab
open Go.RowKit

theorem lawRun_w (s j m g o : Int) (ad : Option Addr) (len cap : Nat) (f a : Nat → Int) (l h : Int) (ae : Option Addr) (el ce : Nat) (fe ge : Nat → Int) (w : World) (hlen : len ≤ 9223372036854775807) (hrow : SRow w ad len f a) (helen : el ≤ 9223372036854775807) (hev : SRow w ae el fe ge) :
    Calls Try.prog 8 #[.agg #[.int .i64 s, .int .i64 j, .int .i64 m, .int .i64 g, .int .i64 o], .slice ad len cap, .agg #[.int .i64 l, .int .i64 h], .slice ae el ce] w fun e w' => e = .returned (.bool true) ∧ Below w.heap.size w w' := by
  cases hok : runOk s j m g o len f a l h fe ge el
  · refine lawRun_c ad len cap f a ae el ce fe ge s j m g o l h 0 (fun i => runSt s j m g o len f a l h fe ge (i + 1)) w hlen helen hrow hev (by unfold Hid; omega) ?_ ?_
    · exact fun q qe w hl hel h1 h2 => (specRun_bad q 0 len len f a qe 0 el el fe ge s j m g o l h w hl h1 hel h2 hok).mono fun e w' hh => ⟨_, hh.1, ⟨none, 0, rfl, .inl rfl⟩, hh.2⟩
    · exact fun q qe w hl hel h1 h2 => (implRun_bad q 0 len len f a qe 0 el el fe ge s j m g o l h w hl h1 hel h2 hok).mono fun e w' hh => ⟨_, hh.1, ⟨none, 0, rfl, .inl rfl⟩, hh.2⟩
  · have h2k : el ≤ 2000 := by
      unfold runOk at hok
      simp only [Bool.and_eq_true, decide_eq_true_eq] at hok
      exact hok.1.2
    refine lawRun_c ad len cap f a ae el ce fe ge s j m g o l h el (fun i => runSt s j m g o len f a l h fe ge (i + 1)) w hlen helen hrow hev (by unfold Hid; omega) ?_ ?_
    · exact fun q qe w hl hel h1 h2 => (specRun_ok q 0 len len f a qe 0 el el fe ge s j m g o l h w hl h1 hel h2 hok).mono fun e w' ⟨v, hv, hh⟩ => ⟨v, hv, stRow_of hh.1, hh.2⟩
    · exact fun q qe w hl hel h1 h2 => (implRun_ok q 0 len len f a qe 0 el el fe ge s j m g o l h w hl h1 hel h2 hok).mono fun e w' ⟨v, hv, hh⟩ => ⟨v, hv, stRow_of hh.1, hh.2⟩

end Go.Proofs.Ytmhppadblddjoab
