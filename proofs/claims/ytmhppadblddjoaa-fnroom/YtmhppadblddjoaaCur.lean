import Derived.Test.YtmhppadblddjoaaW1
import Derived.Test.YtmhppadblddjoaaTurn
namespace Go.Proofs.Ytmhppadblddjoaa
open Go.RowKit

/-- The bytes that a law was handed: none, or a row of bytes away from block p. -/
def Row (p : Nat) (w : World) (a0 : Option Addr) (len : Nat) : Prop :=
  len = 0 ∨ ∃ b off, a0 = some ⟨b, off, none⟩ ∧ b ≠ p ∧ ∀ i, i < len → ∃ v : Int, 0 ≤ v ∧ v ≤ 255 ∧ w.cell? ⟨b, off + i, none⟩ = some (.int .u8 v)
theorem Row.on {p : Nat} {w w' : World} {a0 : Option Addr} {len : Nat} (h : Row p w a0 len) (k : Turns p w w') : Row p w' a0 len := by
  rcases h with h | ⟨b, off, h1, h2, h3⟩
  · exact .inl h
  · exact .inr ⟨b, off, h1, h2, fun i hi => let ⟨v, a, b, c⟩ := h3 i hi; ⟨v, a, b, k.cell h2 c⟩⟩

theorem low8 (y : Int) : 0 ≤ wrap64 (bits .and .u64 (IntKind.u64.wrap y / 1099511627776) 255) ∧ wrap64 (bits .and .u64 (IntKind.u64.wrap y / 1099511627776) 255) ≤ 255 := by
  have h1 : 0 ≤ IntKind.u64.wrap y ∧ IntKind.u64.wrap y < 18446744073709551616 := by rw [IntKind.wrap_u64]; omega
  generalize IntKind.u64.wrap y = x at *
  rw [u64_and (x / 1099511627776) 255 (by omega) (by omega) (by omega) (by omega)]
  have h2 : (x / 1099511627776).toNat &&& (255 : Int).toNat ≤ (255 : Int).toNat := Nat.and_le_right
  generalize (x / 1099511627776).toNat &&& (255 : Int).toNat = n at *
  have h3 : (255 : Int).toNat = 255 := rfl
  unfold wrap64
  omega

set_option maxHeartbeats 1000000 in
theorem next_in (p b off len cap k : Nat) (seed v : Int) (w : World) (hblk : w.heap[p]? = some (.cells #[.slice (some ⟨b, off, none⟩) len cap, .int .i64 k, .int .u64 seed] 57))
    (hk : k < len) (hk1 : k ≤ 10000000) (hv0 : 0 ≤ v) (hv1 : v ≤ 255) (hc : w.cell? ⟨b, off + k, none⟩ = some (.int .u8 v)) :
    Calls Try.prog 72 #[.pointer (some ⟨p, 0, none⟩)] w fun e w' => ∃ v seed' : Int, e = .returned (.int .i64 v) ∧ 0 ≤ v ∧ v ≤ 255 ∧ w'.heap[p]? = some (.cells #[.slice (some ⟨b, off, none⟩) len cap, .int .i64 (k + 1), .int .u64 seed'] 57) ∧ Turns p w w' := by
  have c0 : w.cell? ⟨p, 0, none⟩ = some (.slice (some ⟨b, off, none⟩) len cap) := by simp [World.cell?, hblk]
  have c1 : w.cell? ⟨p, 1, none⟩ = some (.int .i64 k) := by simp [World.cell?, hblk]
  have c2 : w.cell? ⟨p, 2, none⟩ = some (.int .u64 seed) := by simp [World.cell?, hblk]
  have f1 : w.frozen? ⟨p, 1, none⟩ = false := by simp [World.frozen?, hblk]
  have f2 : w.frozen? ⟨p, 2, none⟩ = false := by simp [World.frozen?, hblk]
  have HB : Hid (w.heap[p]? = some (.cells #[.slice (some ⟨b, off, none⟩) len cap, .int .i64 k, .int .u64 seed] 57)) := hblk
  clear hblk
  have i0 : (0 : Int) ≤ (k : Int) := by omega
  have i1 : (k : Int) < (len : Int) := by omega
  go_enter Try.func72, Try.ntmps72
  go_wp2_with fail
  go_quiet (fail)
  go_wp2_with fail
  go_quiet (fail)
  go_wp2_with fail
  go_ret
  exact ⟨v, _, rfl, hv0, hv1, Joins.block_setCell (Joins.block_setCell (w := w.drewN _) HB.out _) _, (((Turns.refl p w).drewN _).setCell 1 _).setCell 2 _⟩

set_option maxHeartbeats 1000000 in
theorem next_out (p len cap k : Nat) (a0 : Option Addr) (seed : Int) (w : World) (hblk : w.heap[p]? = some (.cells #[.slice a0 len cap, .int .i64 k, .int .u64 seed] 57))
    (hk : len ≤ k) (hk1 : k ≤ 10000000) :
    Calls Try.prog 72 #[.pointer (some ⟨p, 0, none⟩)] w fun e w' => ∃ v seed' : Int, e = .returned (.int .i64 v) ∧ 0 ≤ v ∧ v ≤ 255 ∧ w'.heap[p]? = some (.cells #[.slice a0 len cap, .int .i64 (k + 1), .int .u64 seed'] 57) ∧ Turns p w w' := by
  have c0 : w.cell? ⟨p, 0, none⟩ = some (.slice a0 len cap) := by simp [World.cell?, hblk]
  have c1 : w.cell? ⟨p, 1, none⟩ = some (.int .i64 k) := by simp [World.cell?, hblk]
  have c2 : w.cell? ⟨p, 2, none⟩ = some (.int .u64 seed) := by simp [World.cell?, hblk]
  have f1 : w.frozen? ⟨p, 1, none⟩ = false := by simp [World.frozen?, hblk]
  have f2 : w.frozen? ⟨p, 2, none⟩ = false := by simp [World.frozen?, hblk]
  have HB : Hid (w.heap[p]? = some (.cells #[.slice a0 len cap, .int .i64 k, .int .u64 seed] 57)) := hblk
  clear hblk
  have i1 : (len : Int) ≤ (k : Int) := by omega
  go_enter Try.func72, Try.ntmps72
  go_wp2_with fail
  go_quiet (fail)
  go_wp2_with fail
  go_ret
  refine ⟨_, _, rfl, ?_, ?_, Joins.block_setCell (Joins.block_setCell (w := w.drewN _) HB.out _) _, (((Turns.refl p w).drewN _).setCell 2 _).setCell 1 _⟩
  · exact (low8 _).1
  · exact (low8 _).2

/-- The cursor: its block, how far it has read at the most. -/
def CurAt (p : Nat) (a0 : Option Addr) (len cap : Nat) (K : Nat) (w : World) : Prop :=
  Row p w a0 len ∧ ∃ (k : Nat) (seed : Int), k ≤ K ∧ w.heap[p]? = some (.cells #[.slice a0 len cap, .int .i64 k, .int .u64 seed] 57)

theorem next_c {p : Nat} {a0 : Option Addr} {len cap : Nat} (K : Nat) (w : World) (hC : CurAt p a0 len cap K w) (hK : K ≤ 10000000) :
    Calls Try.prog 72 #[.pointer (some ⟨p, 0, none⟩)] w fun e w' => ∃ v : Int, e = .returned (.int .i64 v) ∧ 0 ≤ v ∧ v ≤ 255 ∧ CurAt p a0 len cap (K + 1) w' ∧ Turns p w w' := by
  obtain ⟨hR, k, seed, hk, hblk⟩ := hC
  by_cases hlt : k < len
  · have hR' := hR
    rcases hR' with h | ⟨b, off, rfl, hb, h3⟩
    · omega
    · obtain ⟨v, v0, v1, hc⟩ := h3 k hlt
      refine (next_in p b off len cap k seed v w hblk hlt (by omega) v0 v1 hc).mono ?_
      rintro e w' ⟨v, seed', he, q0, q1, hb', ht⟩
      exact ⟨v, he, q0, q1, ⟨hR.on ht, k + 1, seed', by omega, by simpa using hb'⟩, ht⟩
  · refine (next_out p len cap k a0 seed w hblk (by omega) (by omega)).mono ?_
    rintro e w' ⟨v, seed', he, q0, q1, hb', ht⟩
    exact ⟨v, he, q0, q1, ⟨hR.on ht, k + 1, seed', by omega, by simpa using hb'⟩, ht⟩

end Go.Proofs.Ytmhppadblddjoaa
