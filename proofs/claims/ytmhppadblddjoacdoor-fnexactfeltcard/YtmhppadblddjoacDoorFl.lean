/- What the law of Felt keeps in mind: slices of ints; rows of events that own their block. -/
import Derived.Test.YtmhppadblddjoacDoorFe
import Derived.Test.YtmhppadblddjoacDoorStL
namespace Go.Proofs.YtmhppadblddjoacDoor
open Go.RowKit

theorem infoInt : (Tryd.prog.info? 3).map (fun i => (i.zero, i.size, i.bytes)) = some (some (.int .i64 0), 1, 8) := by kernel_rfl
theorem made1 (i n : Nat) (hi : i < n) : (madeCells #[.int .i64 0] n)[i]? = some (Value.int .i64 0) := by
  unfold madeCells
  simp [hi, Nat.mod_one]
theorem rdSetI {w : World} {q i k : Nat} {u v : Value} (h : w.cell? ⟨q, i, none⟩ = some u) : (w.setCell ⟨q, k, none⟩ v).cell? ⟨q, i, none⟩ = some (rdCell (w.setCell ⟨q, k, none⟩ v) ⟨q, i, none⟩) := by
  by_cases hik : i = k
  · subst hik
    exact rdOf (World.cell?_setCell_same _ _ _ h)
  · exact rdOf ((World.cell?_setCell_other _ _ _ _ (neOff (by omega))).trans h)
theorem row1_step {wr : World} {q k : Nat} {f : Nat → Int} {u : Value} (h1 : Row1 wr q 0 k f) (h2 : wr.cell? ⟨q, k, none⟩ = some u) : Row1 (wr.setCell ⟨q, k, none⟩ (.int .i64 (f k))) q 0 (k + 1) f := fun i hi => by
  by_cases hik : i = k
  · subst hik
    rw [Nat.zero_add]
    exact World.cell?_setCell_same _ _ _ h2
  · exact (World.cell?_setCell_other _ _ _ _ (neOff (by omega))).trans (h1 i (by omega))

set_option maxHeartbeats 1000000 in
theorem toIntS_c (b off len cap : Nat) (f : Nat → Int) (w : World) (hl : len ≤ 1048576) (hr : Row1 w b off len f) :
    Calls Tryd.prog 15 #[.slice (some ⟨b, off, none⟩) len cap] w fun e w' => ∃ q, e = .returned (.slice (some ⟨q, 0, none⟩) len len) ∧ w.heap.size ≤ q ∧ Row1 w' q 0 len f ∧ (∀ i, i < len → w'.frozen? ⟨q, i, none⟩ = false) ∧ Below w.heap.size w w' := by
  obtain ⟨i0, hi, hz0, hz1, hz2⟩ := info_parts infoInt
  have hmk : ∀ w, (Instr.makeSlice 34 (.int .i64 (len : Int)) (.int .i64 (len : Int))).run Tryd.prog w = .ok (.slice (some ⟨w.heap.size, 0, none⟩) len len) (w.alloc (.cells (madeCells #[.int .i64 0] len) 3)) := fun w => by
    have h := run_make (P := Tryd.prog) w 34 3 i0 (.int .i64 0) Tryd.underlying34 hi hz0 .i64 .i64 len len (by omega) (Int.le_refl _) (by rw [hz2]; omega) (by omega)
    rw [hz1] at h
    simpa [Value.cells] using h
  have hm0 : ∀ i, i < len → (w.alloc (.cells (madeCells #[.int .i64 0] len) 3)).cell? ⟨w.heap.size, i, none⟩ = some (.int .i64 0) := fun i hi => by
    rw [Joins.cell_of_block (newBlkD _ _ rfl)]
    exact made1 i _ hi
  have hf0 : ∀ i, (w.alloc (.cells (madeCells #[.int .i64 0] len) 3)).frozen? ⟨w.heap.size, i, none⟩ = false := fun i => Joins.unfrozen_of_block (newBlkD _ _ rfl) i
  have hb0 : Below w.heap.size w (w.alloc (.cells (madeCells #[.int .i64 0] len) 3)) := nbAlloc (Below.refl _ _) _
  go_enter Tryd.func15, Tryd.ntmps15
  go_wp2_with fail
  generalize w.alloc (.cells (madeCells #[.int .i64 0] len) 3) = w0 at *
  clear hmk
  go_loopw [4] (fun iv wr => ∃ k : Nat, iv = .int .i64 k ∧ k ≤ len ∧ Row1 wr w.heap.size 0 k f ∧ (∀ i, i < len → wr.cell? ⟨w.heap.size, i, none⟩ = some (rdCell wr ⟨w.heap.size, i, none⟩)) ∧ (∀ i, i < len → wr.frozen? ⟨w.heap.size, i, none⟩ = false) ∧ Below w.heap.size w wr) (fun iv _ => len - (intOf iv).toNat)
  case atStart => exact ⟨0, rfl, by omega, fun i hi => by omega, fun i hi => rdOf (hm0 i hi), fun i _ => hf0 i, hb0⟩
  case round =>
    obtain ⟨k, rfl, hk, h1, h2, h3, hB⟩ := hrel
    by_cases hlt : k < len
    · have d0 := cellOn hB (hr k hlt)
      have i0 : (0 : Int) ≤ (k : Int) := by omega
      have i1 : (k : Int) < (len : Int) := by omega
      have e0 := h2 k hlt
      have e2 := h3 k hlt
      have R := row1_step h1 e0
      have H2 : Hid (∀ i, i < len → wr.cell? ⟨w.heap.size, i, none⟩ = some (rdCell wr ⟨w.heap.size, i, none⟩)) := h2
      have H3 : Hid (∀ i, i < len → wr.frozen? ⟨w.heap.size, i, none⟩ = false) := h3
      clear h1 h2 h3
      go_wp2_with fail
      go_roundw
      case rel => exact ⟨k + 1, by go_num, by omega, R, fun i hi => rdSetI (H2.out i hi), fun i hi => (World.frozen?_setCell _ _ _ _).trans (H3.out i hi), nbSetX hB (Nat.le_refl _)⟩
      case measure => simp [intOf]; omega
    · have hkl : k = len := by omega
      subst hkl
      go_wp2_with fail
      go_ret
      exact ⟨w.heap.size, rfl, Nat.le_refl _, h1, h3, hB⟩

set_option maxHeartbeats 400000 in
theorem toIntS_0 (a : Option Addr) (cap : Nat) (w : World) :
    Calls Tryd.prog 15 #[.slice a 0 cap] w fun e w' => ∃ q, e = .returned (.slice (some ⟨q, 0, none⟩) 0 0) ∧ w.heap.size ≤ q ∧ Below w.heap.size w w' := by
  obtain ⟨i0, hi, hz0, hz1, hz2⟩ := info_parts infoInt
  have hmk : ∀ w, (Instr.makeSlice 34 (.int .i64 0) (.int .i64 0)).run Tryd.prog w = .ok (.slice (some ⟨w.heap.size, 0, none⟩) 0 0) (w.alloc (.cells (madeCells #[.int .i64 0] 0) 3)) := fun w => by
    have h := run_make (P := Tryd.prog) w 34 3 i0 (.int .i64 0) Tryd.underlying34 hi hz0 .i64 .i64 0 0 (by omega) (Int.le_refl _) (by rw [hz2]; omega) (by omega)
    rw [hz1] at h
    simpa [Value.cells] using h
  clear hi hz0 hz1 hz2
  go_enter Tryd.func15, Tryd.ntmps15
  go_wp2_with fail
  go_loopw [4] (fun iv wr => iv = .int .i64 0 ∧ Below w.heap.size w wr) (fun _ _ => 0)
  case atStart => exact ⟨rfl, nbAlloc (Below.refl _ _) _⟩
  case round =>
    obtain ⟨rfl, hB⟩ := hrel
    go_wp2_with fail
    go_ret
    exact ⟨_, rfl, Nat.le_refl _, hB⟩
theorem toIntS_any (a : Option Addr) (len cap : Nat) (f : Nat → Int) (w : World) (hl : len ≤ 1048576) (hr : SRow1 w a len f) :
    Calls Tryd.prog 15 #[.slice a len cap] w fun e w' => ∃ q, e = .returned (.slice (some ⟨q, 0, none⟩) len len) ∧ w.heap.size ≤ q ∧ Row1 w' q 0 len f ∧ (∀ i, i < len → w'.frozen? ⟨q, i, none⟩ = false) ∧ Below w.heap.size w w' := by
  by_cases hz : len = 0
  · subst hz
    refine (toIntS_0 a cap w).mono ?_
    rintro e w' ⟨q, he, hq, hB⟩
    exact ⟨q, he, hq, fun i hi => by omega, fun i hi => by omega, hB⟩
  · rcases hr with h | ⟨b, off, rfl, h2⟩
    · exact absurd h hz
    · exact toIntS_c b off len cap f w hl h2

def eiC (w : World) (p q k : Nat) (x : Int) : World → Prop := fun w' => w'.cell? ⟨p, k, none⟩ = some (.int .i64 x) ∧ w'.cell? ⟨q, k, none⟩ = some (.int .i64 x) ∧ Below w.heap.size w w'
set_option maxHeartbeats 1000000 in
theorem eqIntS_c (p q len c1 c2 : Nat) (f : Nat → Int) (w : World) (hl : len ≤ 1048576) (h1 : Row1 w p 0 len f) (h2 : Row1 w q 0 len f) :
    Calls Tryd.prog 19 #[.slice (some ⟨p, 0, none⟩) len c1, .slice (some ⟨q, 0, none⟩) len c2] w fun e w' => e = .returned (.bool true) ∧ Below w.heap.size w w' := by
  go_enter Tryd.func19, Tryd.ntmps19
  go_wp2_with fail
  go_loopw [5] (fun iv wr => ∃ k : Nat, iv = .int .i64 k ∧ k ≤ len ∧ Below w.heap.size w wr) (fun iv _ => len - (intOf iv).toNat)
  case atStart => exact ⟨0, rfl, by omega, Below.refl _ _⟩
  case round =>
    obtain ⟨k, rfl, hk, hB⟩ := hrel
    by_cases hlt : k < len
    · have i0 : (0 : Int) ≤ (k : Int) := by omega
      have i1 : (k : Int) < (len : Int) := by omega
      have a0 := cellOn hB (h1 k hlt)
      have a1 := cellOn hB (h2 k hlt)
      rw [Nat.zero_add] at a0 a1
      go_wp2_with fail
      refine region_kept (eiC w p q k (f k)) (by kernel_rfl) (by kernel_rfl) ⟨a0, a1, hB.drew⟩ ?_
      intro hN
      have k0 : ∀ d : Kept (eiC w p q k (f k)), d.w.cell? ⟨p, k, none⟩ = some (.int .i64 (f k)) := fun d => d.h.1
      have k1 : ∀ d : Kept (eiC w p q k (f k)), d.w.cell? ⟨q, k, none⟩ = some (.int .i64 (f k)) := fun d => d.h.2.1
      repeat (go_big_quiet_step (first | exact rfl))
      refine wpQuiet_nil ?_
      rintro _ ⟨⟨w1, hd⟩, rfl⟩
      go_wp2_with fail
      go_roundw
      case rel => exact ⟨k + 1, by go_num, by omega, hd.2.2⟩
      case measure => simp [intOf]; omega
    · go_wp2_with fail
      go_ret
      exact ⟨rfl, hB⟩

set_option maxHeartbeats 1000000 in
theorem markIntS_c (q len c1 : Nat) (x : Int) (f : Nat → Int) (w : World) (hl : len ≤ 1048576) (hx0 : 0 ≤ x) (hx1 : x ≤ 100000000) (hr : Row1 w q 0 len f) (hf : ∀ i, i < len → w.frozen? ⟨q, i, none⟩ = false) :
    Calls Tryd.prog 22 #[.slice (some ⟨q, 0, none⟩) len c1, .int .i64 x] w fun e w' => e = .returned (.int .i64 (x + len)) ∧ Turns q w w' := by
  have hc0 : ∀ i, i < len → w.cell? ⟨q, i, none⟩ = some (rdCell w ⟨q, i, none⟩) := fun i hi => by
    have h2 := hr i hi
    rw [Nat.zero_add] at h2
    exact rdOf h2
  go_enter Tryd.func22, Tryd.ntmps22
  go_wp2_with fail
  go_loopw [1, 5] (fun xv iv wr => ∃ k : Nat, iv = .int .i64 k ∧ xv = .int .i64 (x + k) ∧ k ≤ len ∧ (∀ i, i < len → wr.cell? ⟨q, i, none⟩ = some (rdCell wr ⟨q, i, none⟩)) ∧ (∀ i, i < len → wr.frozen? ⟨q, i, none⟩ = false) ∧ Turns q w wr) (fun _ iv _ => len - (intOf iv).toNat)
  case atStart => exact ⟨0, rfl, by simp, by omega, hc0, hf, Turns.refl _ _⟩
  case round =>
    obtain ⟨k, rfl, rfl, hk, h2, h3, hT⟩ := hrel
    by_cases hlt : k < len
    · have i0 : (0 : Int) ≤ (k : Int) := by omega
      have i1 : (k : Int) < (len : Int) := by omega
      have e0 := h2 k hlt
      have e2 := h3 k hlt
      have wr1 : IntKind.i64.wrap (x + k + 1) = x + k + 1 := wrapS (by omega) (by omega)
      have H2 : Hid (∀ i, i < len → wr.cell? ⟨q, i, none⟩ = some (rdCell wr ⟨q, i, none⟩)) := h2
      have H3 : Hid (∀ i, i < len → wr.frozen? ⟨q, i, none⟩ = false) := h3
      clear h2 h3
      go_wp2_with fail
      go_roundw
      case rel => exact ⟨k + 1, by go_num, (by congr 1; omega), by omega, fun i hi => rdSetI (H2.out i hi), fun i hi => (World.frozen?_setCell _ _ _ _).trans (H3.out i hi), hT.setCell _ _⟩
      case measure => simp [intOf]; omega
    · have hkl : len = k := by omega
      subst hkl
      go_wp2_with fail
      go_ret
      exact ⟨rfl, hT⟩

set_option maxHeartbeats 1000000 in
theorem markTrueS_c (q len c1 : Nat) (x : Int) (f g : Nat → Int) (w : World) (hl : len ≤ 1048576) (hx0 : 0 ≤ x) (hx1 : x ≤ 100000000) (hr : Row2 w q 0 len f g) (hf : ∀ i, i < len * 2 → w.frozen? ⟨q, i, none⟩ = false) :
    Calls Tryd.prog 21 #[.slice (some ⟨q, 0, none⟩) len c1, .int .i64 x] w fun e w' => e = .returned (.int .i64 (x + 2 * len)) ∧ Turns q w w' := by
  have hc0 : ∀ i, i < len * 2 → w.cell? ⟨q, i, none⟩ = some (rdCell w ⟨q, i, none⟩) := fun i hi => by
    have h2 := hr (i / 2) (by omega)
    rcases (by omega : i = 0 + i / 2 * 2 ∨ i = 0 + i / 2 * 2 + 1) with h | h
    · rw [h]; exact rdOf h2.1
    · rw [h]; exact rdOf h2.2
  go_enter Tryd.func21, Tryd.ntmps21
  go_wp2_with fail
  go_loopw [1, 5] (fun xv iv wr => ∃ k : Nat, iv = .int .i64 k ∧ xv = .int .i64 (x + 2 * k) ∧ k ≤ len ∧ (∀ i, i < len * 2 → wr.cell? ⟨q, i, none⟩ = some (rdCell wr ⟨q, i, none⟩)) ∧ (∀ i, i < len * 2 → wr.frozen? ⟨q, i, none⟩ = false) ∧ Turns q w wr) (fun _ iv _ => len - (intOf iv).toNat)
  case atStart => exact ⟨0, rfl, by simp, by omega, hc0, hf, Turns.refl _ _⟩
  case round =>
    obtain ⟨k, rfl, rfl, hk, h2, h3, hT⟩ := hrel
    by_cases hlt : k < len
    · have i0 : (0 : Int) ≤ (k : Int) := by omega
      have i1 : (k : Int) < (len : Int) := by omega
      have e0 := h2 (k * 2) (by omega)
      have e1 := h2 (k * 2 + 1) (by omega)
      have e2 := h3 (k * 2) (by omega)
      have e3 := h3 (k * 2 + 1) (by omega)
      have wr1 : IntKind.i64.wrap (x + 2 * k + 1) = x + 2 * k + 1 := wrapS (by omega) (by omega)
      have wr2 : IntKind.i64.wrap (x + 2 * k + 1 + 1) = x + 2 * k + 1 + 1 := wrapS (by omega) (by omega)
      have H2 : Hid (∀ i, i < len * 2 → wr.cell? ⟨q, i, none⟩ = some (rdCell wr ⟨q, i, none⟩)) := h2
      have H3 : Hid (∀ i, i < len * 2 → wr.frozen? ⟨q, i, none⟩ = false) := h3
      clear h2 h3
      go_wp2_with fail
      go_roundw
      case rel => exact ⟨k + 1, by go_num, (by congr 1; omega), by omega, fun i hi => rdSet2 (H2.out i hi), fun i hi => (World.frozen?_setCell _ _ _ _).trans ((World.frozen?_setCell _ _ _ _).trans (H3.out i hi)), (hT.setCell _ _).setCell _ _⟩
      case measure => simp [intOf]; omega
    · have hkl : len = k := by omega
      subst hkl
      go_wp2_with fail
      go_ret
      exact ⟨rfl, hT⟩

set_option maxHeartbeats 400000 in
theorem markTrueS_0 (a : Option Addr) (c1 : Nat) (x : Int) (w : World) :
    Calls Tryd.prog 21 #[.slice a 0 c1, .int .i64 x] w fun e w' => e = .returned (.int .i64 x) ∧ w' = w := by
  go_enter Tryd.func21, Tryd.ntmps21
  go_wp2_with fail
  refine wp_loop_rounds 1 ?_
  rw [rounds_succ]
  go_wp2_with fail
  go_ret
  exact ⟨rfl, rfl⟩
set_option maxHeartbeats 400000 in
theorem markIntS_0 (a : Option Addr) (c1 : Nat) (x : Int) (w : World) :
    Calls Tryd.prog 22 #[.slice a 0 c1, .int .i64 x] w fun e w' => e = .returned (.int .i64 x) ∧ w' = w := by
  go_enter Tryd.func22, Tryd.ntmps22
  go_wp2_with fail
  refine wp_loop_rounds 1 ?_
  rw [rounds_succ]
  go_wp2_with fail
  go_ret
  exact ⟨rfl, rfl⟩
set_option maxHeartbeats 400000 in
theorem heldEventS_0 (a : Option Addr) (c1 : Nat) (x : Int) (w : World) :
    Calls Tryd.prog 24 #[.slice a 0 c1, .int .i64 x] w fun e w' => e = .returned (.int .i64 x) ∧ w' = w := by
  go_enter Tryd.func24, Tryd.ntmps24
  go_wp2_with fail
  refine wp_loop_rounds 1 ?_
  rw [rounds_succ]
  go_wp2_with fail
  go_ret
  exact ⟨rfl, rfl⟩
theorem markTrueS_v (q len c1 : Nat) (x : Int) (f g : Nat → Int) (w : World) (hl : len ≤ 1048576) (hx0 : 0 ≤ x) (hx1 : x ≤ 100000000) (h : Own2 w q len f g) :
    Calls Tryd.prog 21 #[.slice (some ⟨q, 0, none⟩) len c1, .int .i64 x] w fun e w' => e = .returned (.int .i64 (x + 2 * len)) ∧ TurnIf len q w w' := by
  by_cases hn : len = 0
  · subst hn
    exact (markTrueS_0 _ _ _ _).mono fun e w' hh => ⟨by rw [hh.1]; exact retI (by omega), .inl ⟨rfl, hh.2⟩⟩
  · exact (markTrueS_c q len c1 x f g w hl hx0 hx1 h.1 h.2).mono fun e w' hh => ⟨hh.1, .inr ⟨by omega, hh.2⟩⟩

/-- A row of ints in block q, none of its cells frozen. -/
def Own1 (w : World) (q len : Nat) (f : Nat → Int) : Prop := Row1 w q 0 len f ∧ ∀ i, i < len → w.frozen? ⟨q, i, none⟩ = false
theorem Own1.lt {w : World} {q len : Nat} {f : Nat → Int} (h : Own1 w q len f) (hl : 0 < len) : q < w.heap.size := ltCell (h.1 0 hl)
theorem Own1.block {w w' : World} {q len : Nat} {f : Nat → Int} (h : Own1 w q len f) (hb : 0 < len → w'.heap[q]? = w.heap[q]?) : Own1 w' q len f :=
  ⟨fun i hi => by rw [World.cell?_of_block (w := w) (hb (by omega))]; exact h.1 i hi, fun i hi => by rw [World.frozen?_of_block (w := w) (hb (by omega))]; exact h.2 i hi⟩
theorem Own1.on {w w' : World} {q len : Nat} {f : Nat → Int} (h : Own1 w q len f) (hb : Below w.heap.size w w') : Own1 w' q len f := h.block fun hl => hb.block q (h.lt hl)
theorem TurnIf.own1 {len q p n : Nat} {w w' : World} {f : Nat → Int} (h : TurnIf len q w w') (ho : Own1 w p n f) (hne : 0 < n → 0 < len → p ≠ q) : Own1 w' p n f :=
  ho.block fun hn => h.blk (ho.lt hn) (hne hn)
theorem markIntS_v (q len c1 : Nat) (x : Int) (f : Nat → Int) (w : World) (hl : len ≤ 1048576) (hx0 : 0 ≤ x) (hx1 : x ≤ 100000000) (h : Own1 w q len f) :
    Calls Tryd.prog 22 #[.slice (some ⟨q, 0, none⟩) len c1, .int .i64 x] w fun e w' => e = .returned (.int .i64 (x + len)) ∧ TurnIf len q w w' := by
  by_cases hn : len = 0
  · subst hn
    exact (markIntS_0 _ _ _ _).mono fun e w' hh => ⟨by rw [hh.1]; exact retI (by omega), .inl ⟨rfl, hh.2⟩⟩
  · exact (markIntS_c q len c1 x f w hl hx0 hx1 h.1 h.2).mono fun e w' hh => ⟨hh.1, .inr ⟨by omega, hh.2⟩⟩

/-- A slice of n events in memory of its own, from block B on (or of none). -/
def EvRow (w : World) (B : Nat) (v : Value) (n : Nat) (fe ge : Nat → Int) : Prop :=
  ∃ a cap, v = .slice a n cap ∧ (n = 0 ∨ ∃ q, a = some ⟨q, 0, none⟩ ∧ B ≤ q ∧ Row2 w q 0 n fe ge ∧ ∀ i, i < n * 2 → w.frozen? ⟨q, i, none⟩ = false)
/-- A slice of n events in block q (or of none). -/
def EvAt (w : World) (q : Nat) (v : Value) (n : Nat) (fe ge : Nat → Int) : Prop :=
  ∃ a cap, v = .slice a n cap ∧ (n = 0 ∨ a = some ⟨q, 0, none⟩ ∧ Row2 w q 0 n fe ge ∧ ∀ i, i < n * 2 → w.frozen? ⟨q, i, none⟩ = false)
theorem EvAt.lt {w : World} {q : Nat} {v : Value} {n : Nat} {fe ge : Nat → Int} (h : EvAt w q v n fe ge) (hn : 0 < n) : q < w.heap.size := by
  obtain ⟨a, cap, -, h0 | ⟨-, h1, -⟩⟩ := h
  · omega
  · exact ltCell (h1 0 hn).1
theorem EvAt.block {w w' : World} {q : Nat} {v : Value} {n : Nat} {fe ge : Nat → Int} (h : EvAt w q v n fe ge) (hb : 0 < n → w'.heap[q]? = w.heap[q]?) : EvAt w' q v n fe ge := by
  obtain ⟨a, cap, hv, h0 | ⟨ha, h1, h2⟩⟩ := h
  · exact ⟨a, cap, hv, .inl h0⟩
  · refine ⟨a, cap, hv, .inr ⟨ha, fun i hi => ?_, fun i hi => ?_⟩⟩
    · have e : ∀ o, w'.cell? ⟨q, o, none⟩ = w.cell? ⟨q, o, none⟩ := fun o => World.cell?_of_block (w := w) (hb (by omega))
      rw [e, e]; exact h1 i hi
    · rw [World.frozen?_of_block (w := w) (hb (by omega))]; exact h2 i hi
theorem EvAt.on {w w' : World} {q : Nat} {v : Value} {n : Nat} {fe ge : Nat → Int} (h : EvAt w q v n fe ge) (hb : Below w.heap.size w w') : EvAt w' q v n fe ge := h.block fun hn => hb.block q (h.lt hn)
theorem EvRow.at {w : World} {B : Nat} {v : Value} {n : Nat} {fe ge : Nat → Int} (h : EvRow w B v n fe ge) : ∃ q, B ≤ q ∧ EvAt w q v n fe ge := by
  obtain ⟨a, cap, hv, h0 | ⟨q, ha, hq, h1, h2⟩⟩ := h
  · exact ⟨B, Nat.le_refl _, a, cap, hv, .inl h0⟩
  · exact ⟨q, hq, a, cap, hv, .inr ⟨ha, h1, h2⟩⟩
theorem EvAt.row {w : World} {q : Nat} {v : Value} {n : Nat} {fe ge : Nat → Int} (h : EvAt w q v n fe ge) : EvRow w q v n fe ge := by
  obtain ⟨a, cap, hv, h0 | ⟨ha, h1, h2⟩⟩ := h
  · exact ⟨a, cap, hv, .inl h0⟩
  · exact ⟨a, cap, hv, .inr ⟨q, ha, Nat.le_refl _, h1, h2⟩⟩
theorem EvRow.on {w w' : World} {B : Nat} {v : Value} {n : Nat} {fe ge : Nat → Int} (h : EvRow w B v n fe ge) (hb : Below w.heap.size w w') : EvRow w' B v n fe ge := by
  obtain ⟨q, hq, h1⟩ := h.at
  obtain ⟨a, cap, hv, h0 | ⟨ha, h2, h3⟩⟩ := h1.on hb
  · exact ⟨a, cap, hv, .inl h0⟩
  · exact ⟨a, cap, hv, .inr ⟨q, ha, hq, h2, h3⟩⟩
theorem EvRow.base {w : World} {B B' : Nat} {v : Value} {n : Nat} {fe ge : Nat → Int} (h : EvRow w B v n fe ge) (hb : B' ≤ B) : EvRow w B' v n fe ge := by
  obtain ⟨a, cap, hv, h0 | ⟨q, ha, hq, h1⟩⟩ := h
  · exact ⟨a, cap, hv, .inl h0⟩
  · exact ⟨a, cap, hv, .inr ⟨q, ha, by omega, h1⟩⟩

/-- .. of which no more is asked than what stands in it. -/
def EvHeld (w : World) (q : Nat) (v : Value) (n : Nat) (fe ge : Nat → Int) : Prop := ∃ a cap, v = .slice a n cap ∧ (n = 0 ∨ a = some ⟨q, 0, none⟩ ∧ Row2 w q 0 n fe ge)
theorem EvHeld.on {w w' : World} {q : Nat} {v : Value} {n : Nat} {fe ge : Nat → Int} (h : EvHeld w q v n fe ge) (hb : Below w.heap.size w w') : EvHeld w' q v n fe ge := by
  obtain ⟨a, cap, hv, h0 | ⟨ha, h1⟩⟩ := h
  · exact ⟨a, cap, hv, .inl h0⟩
  · exact ⟨a, cap, hv, .inr ⟨ha, h1.on hb⟩⟩

theorem TurnIf.ev {len q p n : Nat} {w w' : World} {v : Value} {fe ge : Nat → Int} (h : TurnIf len q w w') (ho : EvAt w p v n fe ge) (hne : 0 < n → 0 < len → p ≠ q) : EvAt w' p v n fe ge :=
  ho.block fun hn => h.blk (ho.lt hn) (hne hn)

theorem cells2_get : ∀ (xs : List (Int × Int)) (i : Nat), i < xs.length → (cells2 xs)[i * 2]? = some (.int .i64 (xs.getD i (0, 0)).1) ∧ (cells2 xs)[i * 2 + 1]? = some (.int .i64 (xs.getD i (0, 0)).2)
  | [], i, h => by simp at h
  | x :: xs, 0, _ => by simp [cells2]
  | x :: xs, i + 1, h => by
    have h' := cells2_get xs i (by simpa using h)
    have e : cells2 (x :: xs) = .int .i64 x.1 :: .int .i64 x.2 :: cells2 xs := by simp [cells2]
    rw [e, show (i + 1) * 2 = i * 2 + 1 + 1 by omega]
    simpa using h'
theorem evRow_of {w : World} {B : Nat} {v : Value} {xs : List (Int × Int)} (hw : w.ownsRow B 78 2 v xs.length (cells2 xs)) : EvRow w B v xs.length (fun i => (xs.getD i (0, 0)).1) (fun i => (xs.getD i (0, 0)).2) := by
  obtain ⟨h1, h2⟩ := hw
  rcases h2 with ⟨rfl, h0⟩ | ⟨q, cap, cur, rfl, hg, hh, hn, hm, hs, htk⟩
  · exact ⟨none, 0, by rw [h0], .inl h0⟩
  · refine ⟨some ⟨q, 0, none⟩, cap, rfl, .inr ⟨q, rfl, hg, fun i hi => ?_, fun i _ => Joins.unfrozen_of_block hh i⟩⟩
    have key : ∀ o, o < xs.length * 2 → w.cell? ⟨q, o, none⟩ = (cells2 xs)[o]? := fun o ho => by
      rw [Joins.cell_of_block hh, ← htk, List.getElem?_take, if_pos ho]
      simp
    obtain ⟨g1, g2⟩ := cells2_get xs i hi
    exact ⟨by rw [show 0 + i * 2 = i * 2 by omega, key _ (by omega)]; exact g1, by rw [show 0 + i * 2 + 1 = i * 2 + 1 by omega, key _ (by omega)]; exact g2⟩

set_option maxHeartbeats 1000000 in
theorem markEventS_1 (q n c1 : Nat) (x : Int) (f g : Nat → Int) (w : World) (hl : n ≤ 1048576) (hx0 : 0 ≤ x) (hx1 : x ≤ 100000000) (hr : Row2 w q 0 n f g) (hf : ∀ i, i < n * 2 → w.frozen? ⟨q, i, none⟩ = false) :
    Calls Tryd.prog 23 #[.slice (some ⟨q, 0, none⟩) n c1, .int .i64 x] w fun e w' => e = .returned (.int .i64 (x + 2 * n)) ∧ Row2 w' q 0 n (fun i => x + 2 * i) (fun i => x + 2 * i + 1) ∧ Turns q w w' := by
  have hc0 : ∀ i, i < n * 2 → w.cell? ⟨q, i, none⟩ = some (rdCell w ⟨q, i, none⟩) := fun i hi => by
    have h2 := hr (i / 2) (by omega)
    rcases (by omega : i = 0 + i / 2 * 2 ∨ i = 0 + i / 2 * 2 + 1) with h | h
    · rw [h]; exact rdOf h2.1
    · rw [h]; exact rdOf h2.2
  go_enter Tryd.func23, Tryd.ntmps23
  go_wp2_with fail
  go_loopw [1, 5] (fun xv iv wr => ∃ k : Nat, iv = .int .i64 k ∧ xv = .int .i64 (x + 2 * k) ∧ k ≤ n ∧ Row2 wr q 0 k (fun i => x + 2 * i) (fun i => x + 2 * i + 1) ∧ (∀ i, i < n * 2 → wr.cell? ⟨q, i, none⟩ = some (rdCell wr ⟨q, i, none⟩)) ∧ (∀ i, i < n * 2 → wr.frozen? ⟨q, i, none⟩ = false) ∧ Turns q w wr) (fun _ iv _ => n - (intOf iv).toNat)
  case atStart => exact ⟨0, rfl, by simp, by omega, fun i hi => by omega, hc0, hf, Turns.refl _ _⟩
  case round =>
    obtain ⟨k, rfl, rfl, hk, hR, h2, h3, hT⟩ := hrel
    by_cases hlt : k < n
    · have i0 : (0 : Int) ≤ (k : Int) := by omega
      have i1 : (k : Int) < (n : Int) := by omega
      have e0 := h2 (k * 2) (by omega)
      have e1 := h2 (k * 2 + 1) (by omega)
      have e2 := h3 (k * 2) (by omega)
      have e3 := h3 (k * 2 + 1) (by omega)
      have wr1 : IntKind.i64.wrap (x + 2 * k + 1) = x + 2 * k + 1 := wrapS (by omega) (by omega)
      have wr2 : IntKind.i64.wrap (x + 2 * k + 1 + 1) = x + 2 * k + 1 + 1 := wrapS (by omega) (by omega)
      have R := row2_step (x := x + 2 * k) (y := x + 2 * k + 1) hR h2 h3 (Below.refl q wr) (Below.refl _ _) rfl rfl hlt
      clear hR h2 h3
      go_wp2_with fail
      go_roundw
      case rel => exact ⟨k + 1, by go_num, (by congr 1; omega), by omega, R.1, R.2.1, R.2.2.1, (hT.setCell _ _).setCell _ _⟩
      case measure => simp [intOf]; omega
    · have hkl : n = k := by omega
      subst hkl
      go_wp2_with fail
      go_ret
      exact ⟨rfl, hR, hT⟩

set_option maxHeartbeats 1000000 in
theorem heldEventS_1 (q n c1 : Nat) (x : Int) (w : World) (hl : n ≤ 1048576) (hx0 : 0 ≤ x) (hx1 : x ≤ 100000000) (hr : Row2 w q 0 n (fun i => x + 2 * i) (fun i => x + 2 * i + 1)) :
    Calls Tryd.prog 24 #[.slice (some ⟨q, 0, none⟩) n c1, .int .i64 x] w fun e w' => e = .returned (.int .i64 (x + 2 * n)) ∧ w = w' := by
  go_enter Tryd.func24, Tryd.ntmps24
  go_wp2_with fail
  go_loopw [1, 5] (fun xv iv wr => ∃ k : Nat, iv = .int .i64 k ∧ xv = .int .i64 (x + 2 * k) ∧ k ≤ n ∧ w = wr) (fun _ iv _ => n - (intOf iv).toNat)
  case atStart => exact ⟨0, rfl, by simp, by omega, rfl⟩
  case round =>
    obtain ⟨k, rfl, rfl, hk, rfl⟩ := hrel
    by_cases hlt : k < n
    · have i0 : (0 : Int) ≤ (k : Int) := by omega
      have i1 : (k : Int) < (n : Int) := by omega
      have e0 : w.cell? ⟨q, k * 2, none⟩ = some (.int .i64 (x + 2 * k)) := by have := (hr k hlt).1; rwa [Nat.zero_add] at this
      have e1 : w.cell? ⟨q, k * 2 + 1, none⟩ = some (.int .i64 (x + 2 * k + 1)) := by have := (hr k hlt).2; rwa [Nat.zero_add] at this
      have wr1 : IntKind.i64.wrap (x + 2 * k + 1) = x + 2 * k + 1 := wrapS (by omega) (by omega)
      have wr2 : IntKind.i64.wrap (x + 2 * k + 1 + 1) = x + 2 * k + 1 + 1 := wrapS (by omega) (by omega)
      go_wp2_with fail
      go_roundw
      case rel => exact ⟨k + 1, by go_num, (by congr 1; omega), by omega, (by first | rfl | trivial)⟩
      case measure => simp [intOf]; omega
    · have hkl : n = k := by omega
      subst hkl
      go_wp2_with fail
      go_ret
      exact ⟨rfl, rfl⟩

theorem markEventS_a (q n : Nat) (v : Value) (fe ge : Nat → Int) (w : World) (hl : n ≤ 1048576) (h : EvAt w q v n fe ge) :
    Calls Tryd.prog 23 #[v, .int .i64 1] w fun e w' => e = .returned (.int .i64 (1 + 2 * n)) ∧ EvHeld w' q v n (fun i => 1 + 2 * i) (fun i => 1 + 2 * i + 1) ∧ TurnIf n q w w' := by
  obtain ⟨a, cap, rfl, h0 | ⟨rfl, h1, h2⟩⟩ := h
  · subst h0
    exact (markEventS_0 _ _ _ _).mono fun e w' hh => ⟨by rw [hh.1]; exact retI (by omega), ⟨a, cap, rfl, .inl rfl⟩, .inl ⟨rfl, hh.2⟩⟩
  · by_cases hn : n = 0
    · subst hn
      exact (markEventS_0 _ _ _ _).mono fun e w' hh => ⟨by rw [hh.1]; exact retI (by omega), ⟨_, cap, rfl, .inl rfl⟩, .inl ⟨rfl, hh.2⟩⟩
    · exact (markEventS_1 q n cap 1 fe ge w hl (by omega) (by omega) h1 h2).mono fun e w' hh => ⟨hh.1, ⟨_, cap, rfl, .inr ⟨rfl, hh.2.1⟩⟩, .inr ⟨by omega, hh.2.2⟩⟩
theorem heldEventS_v (q n : Nat) (v : Value) (w : World) (hl : n ≤ 1048576) (h : EvHeld w q v n (fun i => 1 + 2 * i) (fun i => 1 + 2 * i + 1)) :
    Calls Tryd.prog 24 #[v, .int .i64 1] w fun e w' => e = .returned (.int .i64 (1 + 2 * n)) ∧ w = w' := by
  obtain ⟨a, cap, rfl, h0 | ⟨rfl, h1⟩⟩ := h
  · subst h0
    exact (heldEventS_0 _ _ _ _).mono fun e w' hh => ⟨by rw [hh.1]; exact retI (by omega), hh.2.symm⟩
  · exact heldEventS_1 q n cap 1 w hl (by omega) (by omega) h1

set_option maxHeartbeats 400000 in
theorem eqEventS_0 (a b : Option Addr) (c1 c2 : Nat) (w : World) :
    Calls Tryd.prog 17 #[.slice a 0 c1, .slice b 0 c2] w fun e w' => e = .returned (.bool true) ∧ Below w.heap.size w w' := by
  go_enter Tryd.func17, Tryd.ntmps17
  go_wp2_with fail
  refine wp_loop_rounds 1 ?_
  rw [rounds_succ]
  go_wp2_with fail
  go_ret
  exact ⟨rfl, Below.refl _ _⟩
theorem eqEventS_v {p q n : Nat} {u v : Value} {fe ge : Nat → Int} (w : World) (hl : n ≤ 1048576) (h1 : EvAt w p u n fe ge) (h2 : EvAt w q v n fe ge) :
    Calls Tryd.prog 17 #[u, v] w fun e w' => e = .returned (.bool true) ∧ Below w.heap.size w w' := by
  obtain ⟨a, c1, rfl, h1⟩ := h1
  obtain ⟨b, c2, rfl, h2⟩ := h2
  by_cases hn : n = 0
  · subst hn
    exact eqEventS_0 _ _ _ _ _
  · rcases h1 with h1 | ⟨rfl, h1, -⟩
    · exact absurd h1 hn
    rcases h2 with h2 | ⟨rfl, h2, -⟩
    · exact absurd h2 hn
    exact eqEventS_c p q n c1 c2 fe ge w hl h1 h2

end Go.Proofs.YtmhppadblddjoacDoor
