/- The bytes that came in, each by its number. -/
import Derived.Test.YtmhppadblddjoaaKnown
namespace Go.Proofs.Ytmhppadblddjoaa
open Go.RowKit

def byteAt (w : World) (a : Addr) : Int := match w.cell? a with | some (.int _ n) => n | _ => 0
def BytesV (w : World) (a0 : Option Addr) (len : Nat) (v : Nat → Int) : Prop :=
  len = 0 ∨ ∃ b off, a0 = some ⟨b, off, none⟩ ∧ ∀ i, i < len → 0 ≤ v i ∧ v i ≤ 255 ∧ w.cell? ⟨b, off + i, none⟩ = some (.int .u8 (v i))
theorem BytesV.on {w w' : World} {a0 : Option Addr} {len : Nat} {v : Nat → Int} (h : BytesV w a0 len v) (hb : Below w.heap.size w w') : BytesV w' a0 len v := by
  rcases h with h | ⟨b, off, h1, h3⟩
  · exact .inl h
  · exact .inr ⟨b, off, h1, fun i hi => ⟨(h3 i hi).1, (h3 i hi).2.1, cellOn hb (h3 i hi).2.2⟩⟩
theorem Bytes.toV {w : World} {a0 : Option Addr} {len : Nat} (h : Bytes w a0 len) : ∃ v, BytesV w a0 len v := by
  rcases h with h | ⟨b, off, h1, h3⟩
  · exact ⟨fun _ => 0, .inl h⟩
  · refine ⟨fun i => byteAt w ⟨b, off + i, none⟩, .inr ⟨b, off, h1, fun i hi => ?_⟩⟩
    obtain ⟨v, x, y, c⟩ := h3 i hi
    have : byteAt w ⟨b, off + i, none⟩ = v := by unfold byteAt; rw [c]
    dsimp only
    rw [this]
    exact ⟨x, y, c⟩
/-- What wByte answers. -/
def bv (len : Nat) (v : Nat → Int) (i : Int) : Int := if len = 0 then 0 else v (i % (len : Int)).toNat
theorem bv_range {w : World} {a0 : Option Addr} {len : Nat} {v : Nat → Int} (h : BytesV w a0 len v) (i : Int) : 0 ≤ bv len v i ∧ bv len v i ≤ 255 := by
  unfold bv
  rcases h with h | ⟨b, off, -, h3⟩
  · rw [if_pos h]; omega
  · by_cases hz : len = 0
    · rw [if_pos hz]; omega
    · rw [if_neg hz]
      have hm1 : i % (len : Int) < (len : Int) := Int.emod_lt_of_pos _ (by omega)
      have hm0 : 0 ≤ i % (len : Int) := Int.emod_nonneg _ (by omega)
      have := h3 (i % (len : Int)).toNat (by omega)
      exact ⟨this.1, this.2.1⟩

set_option maxHeartbeats 1000000 in
theorem wByteV_c (a0 : Option Addr) (len cap : Nat) (v : Nat → Int) (i : Int) (w : World) (hby : BytesV w a0 len v) (hl : len ≤ 1048576) (hi0 : 0 ≤ i) (hi1 : i ≤ 1000) :
    Calls Try.prog 14 #[.slice a0 len cap, .int .i64 i] w fun e w' => e = .returned (.int .i64 (bv len v i)) ∧ w = w' := by
  by_cases hz : len = 0
  · subst hz
    go_enter Try.func14, Try.ntmps14
    go_wp2
    go_ret
    exact ⟨retI (by simp [bv]), rfl⟩
  · rcases hby with h | ⟨b, off, rfl, h3⟩
    · exact absurd h hz
    · have hlp : (0 : Int) < (len : Int) := by omega
      have hm0 : 0 ≤ i % (len : Int) := Int.emod_nonneg _ (by omega)
      have hm1 : i % (len : Int) < (len : Int) := Int.emod_lt_of_pos _ hlp
      obtain ⟨v0, v1, hc⟩ := h3 (i % (len : Int)).toNat (by omega)
      have hne : ((len : Int) == 0) = false := by simp; omega
      have hv : Hid (bv len v i = v (i % (len : Int)).toNat) := by unfold Hid bv; rw [if_neg hz]
      clear h3
      generalize v (i % (len : Int)).toNat = x at *
      go_enter Try.func14, Try.ntmps14
      go_wp2
      go_ret
      exact ⟨retI hv.out.symm, rfl⟩
theorem wByteQ_c (a0 : Option Addr) (len cap : Nat) (v : Nat → Int) (i : Int) (w : World) (hby : BytesV w a0 len v) (hl : len ≤ 1048576) (hi0 : 0 ≤ i) (hi1 : i ≤ 1000) :
    Calls Try.prog 14 #[.slice a0 len cap, .int .i64 i] w fun e w' => e = .returned (.int .i64 (bv len v i)) ∧ Below w.heap.size w w' :=
  (wByteV_c a0 len cap v i w hby hl hi0 hi1).mono fun e w' h => ⟨h.1, by rw [← h.2]; exact Below.refl _ _⟩

end Go.Proofs.Ytmhppadblddjoaa
