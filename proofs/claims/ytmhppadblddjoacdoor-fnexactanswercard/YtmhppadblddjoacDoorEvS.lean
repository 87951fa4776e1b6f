import Derived.Test.YtmhppadblddjoacDoorEv
namespace Go.Proofs.YtmhppadblddjoacDoor
open Go.RowKit

theorem infoEv : (Tryd.prog.info? 78).map (fun i => (i.zero, i.size, i.bytes)) = some (some (.agg #[.int .i64 0, .int .i64 0]), 2, 16) := by kernel_rfl

set_option maxHeartbeats 1000000 in
theorem toEventS_c (b off len cap : Nat) (f g : Nat → Int) (w : World) (hl : len ≤ 1048576) (hr : Row2 w b off len f g) :
    Calls Tryd.prog 28 #[.slice (some ⟨b, off, none⟩) len cap] w fun e w' => ∃ q, e = .returned (.slice (some ⟨q, 0, none⟩) len len) ∧ w.heap.size ≤ q ∧ Row2 w' q 0 len f g ∧ (∀ i, i < len * 2 → w'.frozen? ⟨q, i, none⟩ = false) ∧ Below w.heap.size w w' := by
  obtain ⟨i0, hi, hz0, hz1, hz2⟩ := info_parts infoEv
  have hmk : ∀ w, (Instr.makeSlice 36 (.int .i64 (len : Int)) (.int .i64 (len : Int))).run Tryd.prog w = .ok (.slice (some ⟨w.heap.size, 0, none⟩) len len) (w.alloc (.cells (madeCells #[.int .i64 0, .int .i64 0] (len * 2)) 78)) := fun w => by
    have h := run_make (P := Tryd.prog) w 36 78 i0 (.agg #[.int .i64 0, .int .i64 0]) Tryd.underlying36 hi hz0 .i64 .i64 len len (by omega) (Int.le_refl _) (by rw [hz2]; omega) (by omega)
    rw [hz1] at h
    simpa [Value.cells] using h
  have hm0 : ∀ i, i < len * 2 → (w.alloc (.cells (madeCells #[.int .i64 0, .int .i64 0] (len * 2)) 78)).cell? ⟨w.heap.size, i, none⟩ = some (.int .i64 0) := fun i hi => by
    rw [Joins.cell_of_block (newBlkD _ _ rfl)]
    exact made2 i _ hi
  have hf0 : ∀ i, (w.alloc (.cells (madeCells #[.int .i64 0, .int .i64 0] (len * 2)) 78)).frozen? ⟨w.heap.size, i, none⟩ = false := fun i => Joins.unfrozen_of_block (newBlkD _ _ rfl) i
  have hb0 : Below w.heap.size w (w.alloc (.cells (madeCells #[.int .i64 0, .int .i64 0] (len * 2)) 78)) := nbAlloc (Below.refl _ _) _
  go_enter Tryd.func28, Tryd.ntmps28
  go_wp2_with fail
  generalize w.alloc (.cells (madeCells #[.int .i64 0, .int .i64 0] (len * 2)) 78) = w0 at *
  clear hmk
  go_loopw [4] (fun iv wr => ∃ k : Nat, iv = .int .i64 k ∧ k ≤ len ∧ Row2 wr w.heap.size 0 k f g ∧ (∀ i, i < len * 2 → wr.cell? ⟨w.heap.size, i, none⟩ = some (rdCell wr ⟨w.heap.size, i, none⟩)) ∧ (∀ i, i < len * 2 → wr.frozen? ⟨w.heap.size, i, none⟩ = false) ∧ Below w.heap.size w wr) (fun iv _ => len - (intOf iv).toNat)
  case atStart => exact ⟨0, rfl, by omega, fun i hi => by omega, fun i hi => rdOf (hm0 i hi), fun i _ => hf0 i, hb0⟩
  case round =>
    obtain ⟨k, rfl, hk, h1, h2, h3, hB⟩ := hrel
    by_cases hlt : k < len
    · have hin := hr k hlt
      have d0 := cellOn hB hin.1
      have d1 := cellOn hB hin.2
      have i0 : (0 : Int) ≤ (k : Int) := by omega
      have i1 : (k : Int) < (len : Int) := by omega
      go_wp2_with fail
      refine (toEvent_c _ _ _).mono ?_
      rintro e w1 ⟨rfl, hb1⟩
      have e0 := cellOn hb1 (h2 (k * 2) (by omega))
      have e1 := cellOn hb1 (h2 (k * 2 + 1) (by omega))
      have e2 := frozenOn hb1 (h2 (k * 2) (by omega)) (h3 (k * 2) (by omega))
      have e3 := frozenOn hb1 (h2 (k * 2 + 1) (by omega)) (h3 (k * 2 + 1) (by omega))
      have R := row2_step (x := f k) (y := g k) h1 h2 h3 hB hb1 rfl rfl hlt
      clear h1 h2 h3 hB
      go_wp2_with fail
      go_roundw
      case rel => exact ⟨k + 1, by go_num, by omega, R⟩
      case measure => simp [intOf]; omega
    · have hkl : k = len := by omega
      subst hkl
      go_wp2_with fail
      go_ret
      exact ⟨w.heap.size, rfl, Nat.le_refl _, h1, h3, hB⟩

set_option maxHeartbeats 400000 in
theorem toEventS_0 (a : Option Addr) (cap : Nat) (w : World) :
    Calls Tryd.prog 28 #[.slice a 0 cap] w fun e w' => ∃ q, e = .returned (.slice (some ⟨q, 0, none⟩) 0 0) ∧ w.heap.size ≤ q ∧ Below w.heap.size w w' := by
  obtain ⟨i0, hi, hz0, hz1, hz2⟩ := info_parts infoEv
  have hmk : ∀ w, (Instr.makeSlice 36 (.int .i64 0) (.int .i64 0)).run Tryd.prog w = .ok (.slice (some ⟨w.heap.size, 0, none⟩) 0 0) (w.alloc (.cells (madeCells #[.int .i64 0, .int .i64 0] 0) 78)) := fun w => by
    have h := run_make (P := Tryd.prog) w 36 78 i0 (.agg #[.int .i64 0, .int .i64 0]) Tryd.underlying36 hi hz0 .i64 .i64 0 0 (by omega) (Int.le_refl _) (by rw [hz2]; omega) (by omega)
    rw [hz1] at h
    simpa [Value.cells] using h
  clear hi hz0 hz1 hz2
  go_enter Tryd.func28, Tryd.ntmps28
  go_wp2_with fail
  go_loopw [4] (fun iv wr => iv = .int .i64 0 ∧ Below w.heap.size w wr) (fun _ _ => 0)
  case atStart => exact ⟨rfl, nbAlloc (Below.refl _ _) _⟩
  case round =>
    obtain ⟨rfl, hB⟩ := hrel
    go_wp2_with fail
    go_ret
    exact ⟨_, rfl, Nat.le_refl _, hB⟩

theorem toEventS_any (a : Option Addr) (len cap : Nat) (f g : Nat → Int) (w : World) (hl : len ≤ 1048576) (hr : SRow w a len f g) :
    Calls Tryd.prog 28 #[.slice a len cap] w fun e w' => ∃ q, e = .returned (.slice (some ⟨q, 0, none⟩) len len) ∧ w.heap.size ≤ q ∧ Row2 w' q 0 len f g ∧ (∀ i, i < len * 2 → w'.frozen? ⟨q, i, none⟩ = false) ∧ Below w.heap.size w w' := by
  by_cases hz : len = 0
  · subst hz
    refine (toEventS_0 a cap w).mono ?_
    rintro e w' ⟨q, he, hq, hB⟩
    exact ⟨q, he, hq, fun i hi => by omega, fun i hi => by omega, hB⟩
  · rcases hr with h | ⟨b, off, rfl, h2⟩
    · exact absurd h hz
    · exact toEventS_c b off len cap f g w hl h2

set_option maxHeartbeats 400000 in
theorem eqEvent_c (l h : Int) (w : World) :
    Calls Tryd.prog 45 #[.agg #[.int .i64 l, .int .i64 h], .agg #[.int .i64 l, .int .i64 h]] w fun e w' => e = .returned (.bool true) ∧ Below w.heap.size w w' := by
  go_enter Tryd.func45, Tryd.ntmps45
  go_wp2
  go_ret
  exact ⟨rfl, nbAlloc (nbAlloc (Below.refl _ _) _) _⟩

set_option maxHeartbeats 1000000 in
theorem eqEventS_c (p q len c1 c2 : Nat) (f g : Nat → Int) (w : World) (hl : len ≤ 1048576) (h1 : Row2 w p 0 len f g) (h2 : Row2 w q 0 len f g) :
    Calls Tryd.prog 17 #[.slice (some ⟨p, 0, none⟩) len c1, .slice (some ⟨q, 0, none⟩) len c2] w fun e w' => e = .returned (.bool true) ∧ Below w.heap.size w w' := by
  go_enter Tryd.func17, Tryd.ntmps17
  go_wp2_with fail
  go_loopw [5] (fun iv wr => ∃ k : Nat, iv = .int .i64 k ∧ k ≤ len ∧ Below w.heap.size w wr) (fun iv _ => len - (intOf iv).toNat)
  case atStart => exact ⟨0, rfl, by omega, Below.refl _ _⟩
  case round =>
    obtain ⟨k, rfl, hk, hB⟩ := hrel
    by_cases hlt : k < len
    · have i0 : (0 : Int) ≤ (k : Int) := by omega
      have i1 : (k : Int) < (len : Int) := by omega
      have hC : eqC w p q k (f k) (g k) wr := ⟨by have := cellOn hB (h1 k hlt).1; simpa using this, by have := cellOn hB (h1 k hlt).2; simpa using this, by have := cellOn hB (h2 k hlt).1; simpa using this, by have := cellOn hB (h2 k hlt).2; simpa using this, hB⟩
      go_wp2_with fail
      refine region_kept (eqC w p q k (f k) (g k)) (by kernel_rfl) (by kernel_rfl) ⟨hC.1, hC.2.1, hC.2.2.1, hC.2.2.2.1, hC.2.2.2.2.drew⟩ ?_
      intro hN
      have k0 : ∀ d : Kept (eqC w p q k (f k) (g k)), d.w.cell? ⟨p, k * 2, none⟩ = some (.int .i64 (f k)) := fun d => d.h.1
      have k1 : ∀ d : Kept (eqC w p q k (f k) (g k)), d.w.cell? ⟨p, k * 2 + 1, none⟩ = some (.int .i64 (g k)) := fun d => d.h.2.1
      have k2 : ∀ d : Kept (eqC w p q k (f k) (g k)), d.w.cell? ⟨q, k * 2, none⟩ = some (.int .i64 (f k)) := fun d => d.h.2.2.1
      have k3 : ∀ d : Kept (eqC w p q k (f k) (g k)), d.w.cell? ⟨q, k * 2 + 1, none⟩ = some (.int .i64 (g k)) := fun d => d.h.2.2.2.1
      repeat (go_big_quiet_step (first | (go_at_call 45; exact call_kept _ eqC_on (eqEvent_c _ _ _))))
      refine wpQuiet_nil ?_
      rintro _ ⟨⟨w1, hd⟩, rfl⟩
      go_wp2_with fail
      go_roundw
      case rel => exact ⟨k + 1, by go_num, by omega, hd.2.2.2.2⟩
      case measure => simp [intOf]; omega
    · go_wp2_with fail
      go_ret
      exact ⟨rfl, hB⟩

set_option maxHeartbeats 400000 in
theorem szEventS_c (a : Option Addr) (len cap : Nat) (left : Int) (w : World) (h0 : 0 ≤ left) (h1 : left ≤ 1048576) (hl : len ≤ 9223372036854775807) :
    Calls Tryd.prog 25 #[.slice a len cap, .int .i64 left] w fun e w' => e = .returned (.int .i64 (if left - len < 0 then -1 else left - len)) ∧ w = w' := by
  by_cases h : left - (len : Int) < 0
  · rw [if_pos h]
    go_enter Tryd.func25, Tryd.ntmps25
    go_wp2
    go_ret
    exact ⟨rfl, rfl⟩
  · rw [if_neg h]
    go_enter Tryd.func25, Tryd.ntmps25
    go_wp2
    go_ret
    exact ⟨rfl, rfl⟩

end Go.Proofs.YtmhppadblddjoacDoor
