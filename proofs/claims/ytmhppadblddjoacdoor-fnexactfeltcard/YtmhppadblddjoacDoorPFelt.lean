import Derived.Test.YtmhppadblddjoacDoorIFeS
import Derived.Test.YtmhppadblddjoacDoorV4
import Derived.Test.YtmhppadblddjoacDoorLFelt
namespace Go.Proofs.YtmhppadblddjoacDoor
open Go.RowKit

theorem felts_row {w w' : World} {xs : List (Int × Int)} {v : Value} (h : Felts w xs v w') : EvRow w' w.heap.size v xs.length (fun i => (xs.getD i (0, 0)).1) (fun i => (xs.getD i (0, 0)).2) := evRow_of h.1
theorem feltA_len (s j m g o : Int) (f a : Nat → Int) (len : Nat) (x0 : Int) (tf tc rd : Nat → Int) (n rn : Nat) : (feltA s j m g o f a len x0 tf tc rd n rn).length ≤ 2000 := by
  unfold feltA
  split
  · rename_i h
    unfold feltOk at h
    simp only [Bool.and_eq_true, decide_eq_true_eq] at h
    exact h.2
  · simp
theorem lawFelt_w (s j m g o : Int) (ad : Option Addr) (len cap : Nat) (f a : Nat → Int) (x0 : Int) (at2 : Option Addr) (n nc : Nat) (tf tc : Nat → Int) (ar : Option Addr) (rn rc : Nat) (rd : Nat → Int) (w : World) (hlen : len ≤ 9223372036854775807) (hrow : SRow w ad len f a) (hnlen : n ≤ 9223372036854775807) (htk : SRow w at2 n tf tc) (hrlen : rn ≤ 9223372036854775807) (hrd : SRow1 w ar rn rd) (hV : Vars w) :
    Calls Tryd.prog 4 #[.agg #[.int .i64 s, .int .i64 j, .int .i64 m, .int .i64 g, .int .i64 o], .slice ad len cap, .int .i64 x0, .slice at2 n nc, .slice ar rn rc] w fun e w' => e = .returned (.bool true) ∧ Below w.heap.size w w' := by
  have hN := feltA_len s j m g o f a len x0 tf tc rd n rn
  refine lawFelt_c ad len cap f a x0 at2 n nc tf tc ar rn rc rd s j m g o (feltA s j m g o f a len x0 tf tc rd n rn).length (fun i => ((feltA s j m g o f a len x0 tf tc rd n rn).getD i (0, 0)).1) (fun i => ((feltA s j m g o f a len x0 tf tc rd n rn).getD i (0, 0)).2) w hlen hnlen hrlen hrow htk hrd (show Hid ((feltA s j m g o f a len x0 tf tc rd n rn).length ≤ 1048576) by unfold Hid; omega) ?_ ?_
  · exact fun q qt qr w hl hn hr h1 h2 h3 => (specFelt_s (some ⟨q, 0, none⟩) len len f a x0 (some ⟨qt, 0, none⟩) n n tf tc (some ⟨qr, 0, none⟩) rn rn rd s j m g o w hl hn hr (.inr ⟨q, 0, rfl, h1⟩) (.inr ⟨qt, 0, rfl, h2⟩) (.inr ⟨qr, 0, rfl, h3⟩)).mono fun e w' ⟨v, hv, hh⟩ => ⟨v, hv, felts_row hh, hh.2⟩
  · exact fun q qt qr w hz hl hn hr h1 h2 h3 => (implFelt_s (some ⟨q, 0, none⟩) len len f a x0 (some ⟨qt, 0, none⟩) n n tf tc (some ⟨qr, 0, none⟩) rn rn rd s j m g o w hl hn hr (.inr ⟨q, 0, rfl, h1⟩) (.inr ⟨qt, 0, rfl, h2⟩) (.inr ⟨qr, 0, rfl, h3⟩) (hV.on hz)).mono fun e w' ⟨v, hv, hh⟩ => ⟨v, hv, felts_row hh, hh.2⟩

end Go.Proofs.YtmhppadblddjoacDoor
