/- Chapter 4 of the program: the small functions: what a tick has at fault, the error that carries it, whether an error has a fault. -/
import Derived.Test.YtmhppadblddjoaaDoorAs2
import Derived.Test.YtmhppadblddjoaaDoorSp4
namespace Go.Proofs.YtmhppadblddjoaaDoor
open Go.RowKit

def inrC (w : World) (x y : Int) : World → Prop := fun w' => w'.cell? ⟨w.heap.size, 0, none⟩ = some (.int .i64 x) ∧ w'.cell? ⟨w.heap.size, 1, none⟩ = some (.int .i64 y) ∧ Below w.heap.size w w'
theorem inrC_on {w : World} {x y : Int} {w1 w2 : World} (h : inrC w x y w1) (hb : Below w1.heap.size w1 w2) : inrC w x y w2 :=
  ⟨cellOn hb h.1, cellOn hb h.2.1, nbTrans h.2.2 hb⟩

set_option maxHeartbeats 1000000 in
theorem inRange_0 (x y : Int) (w : World) (h0 : inB x 0 100000 = false) :
    Calls Tryd.prog 86 #[.agg #[.int .i64 x, .int .i64 y]] w fun e w' => e = .returned (.bool false) ∧ Below w.heap.size w w' := by
  go_enter Tryd.func86, Tryd.ntmps86
  go_wp2
  refine region_kept (inrC w x y) (by kernel_rfl) (by kernel_rfl) ?_ ?_
  · refine ⟨?_, ?_, ?_⟩ <;> first | (simp; done) | exact Below.drew (nbAlloc (Below.refl _ _) _)
  intro hN
  have k0 : ∀ d : Kept (inrC w x y), d.w.cell? ⟨w.heap.size, 0, none⟩ = some (.int .i64 x) := fun d => d.h.1
  have k1 : ∀ d : Kept (inrC w x y), d.w.cell? ⟨w.heap.size, 1, none⟩ = some (.int .i64 y) := fun d => d.h.2.1
  repeat (go_big_quiet_step (first | (go_at_call 53; exact (upTo_c _ _).mono fun e w' h => ⟨h.1, ⟨w', inrC_on (Kept.h _) h.2⟩, rfl⟩) | (go_at_call 54; exact (has_t _ _ _ _ (by assumption)).mono fun e w' h => ⟨h.1, ⟨w', inrC_on (Kept.h _) h.2⟩, rfl⟩) | (go_at_call 54; exact (has_f _ _ _ _ (by assumption)).mono fun e w' h => ⟨h.1, ⟨w', inrC_on (Kept.h _) h.2⟩, rfl⟩)))
  refine wpQuiet_nil ?_
  rintro _ ⟨⟨w1, hd⟩, rfl⟩
  go_wp2
  go_ret
  exact ⟨rfl, hd.2.2⟩
set_option maxHeartbeats 1000000 in
theorem inRange_1 (x y : Int) (w : World) (h0 : inB x 0 100000 = true) (h1 : inB y 0 100000 = false) :
    Calls Tryd.prog 86 #[.agg #[.int .i64 x, .int .i64 y]] w fun e w' => e = .returned (.bool false) ∧ Below w.heap.size w w' := by
  go_enter Tryd.func86, Tryd.ntmps86
  go_wp2
  refine region_kept (inrC w x y) (by kernel_rfl) (by kernel_rfl) ?_ ?_
  · refine ⟨?_, ?_, ?_⟩ <;> first | (simp; done) | exact Below.drew (nbAlloc (Below.refl _ _) _)
  intro hN
  have k0 : ∀ d : Kept (inrC w x y), d.w.cell? ⟨w.heap.size, 0, none⟩ = some (.int .i64 x) := fun d => d.h.1
  have k1 : ∀ d : Kept (inrC w x y), d.w.cell? ⟨w.heap.size, 1, none⟩ = some (.int .i64 y) := fun d => d.h.2.1
  repeat (go_big_quiet_step (first | (go_at_call 53; exact (upTo_c _ _).mono fun e w' h => ⟨h.1, ⟨w', inrC_on (Kept.h _) h.2⟩, rfl⟩) | (go_at_call 54; exact (has_t _ _ _ _ (by assumption)).mono fun e w' h => ⟨h.1, ⟨w', inrC_on (Kept.h _) h.2⟩, rfl⟩) | (go_at_call 54; exact (has_f _ _ _ _ (by assumption)).mono fun e w' h => ⟨h.1, ⟨w', inrC_on (Kept.h _) h.2⟩, rfl⟩)))
  refine wpQuiet_nil ?_
  rintro _ ⟨⟨w1, hd⟩, rfl⟩
  go_wp2
  go_ret
  exact ⟨rfl, hd.2.2⟩
set_option maxHeartbeats 1000000 in
theorem inRange_2 (x y : Int) (w : World) (h0 : inB x 0 100000 = true) (h1 : inB y 0 100000 = true) :
    Calls Tryd.prog 86 #[.agg #[.int .i64 x, .int .i64 y]] w fun e w' => e = .returned (.bool true) ∧ Below w.heap.size w w' := by
  go_enter Tryd.func86, Tryd.ntmps86
  go_wp2
  refine region_kept (inrC w x y) (by kernel_rfl) (by kernel_rfl) ?_ ?_
  · refine ⟨?_, ?_, ?_⟩ <;> first | (simp; done) | exact Below.drew (nbAlloc (Below.refl _ _) _)
  intro hN
  have k0 : ∀ d : Kept (inrC w x y), d.w.cell? ⟨w.heap.size, 0, none⟩ = some (.int .i64 x) := fun d => d.h.1
  have k1 : ∀ d : Kept (inrC w x y), d.w.cell? ⟨w.heap.size, 1, none⟩ = some (.int .i64 y) := fun d => d.h.2.1
  repeat (go_big_quiet_step (first | (go_at_call 53; exact (upTo_c _ _).mono fun e w' h => ⟨h.1, ⟨w', inrC_on (Kept.h _) h.2⟩, rfl⟩) | (go_at_call 54; exact (has_t _ _ _ _ (by assumption)).mono fun e w' h => ⟨h.1, ⟨w', inrC_on (Kept.h _) h.2⟩, rfl⟩) | (go_at_call 54; exact (has_f _ _ _ _ (by assumption)).mono fun e w' h => ⟨h.1, ⟨w', inrC_on (Kept.h _) h.2⟩, rfl⟩)))
  refine wpQuiet_nil ?_
  rintro _ ⟨⟨w1, hd⟩, rfl⟩
  go_wp2
  go_ret
  exact ⟨rfl, hd.2.2⟩
theorem inRange_c (x y : Int) (w : World) :
    Calls Tryd.prog 86 #[.agg #[.int .i64 x, .int .i64 y]] w fun e w' => e = .returned (.bool (numB x y)) ∧ Below w.heap.size w w' := by
  unfold numB
  cases h0 : inB x 0 100000
  · exact inRange_0 x y w h0
  · cases h1 : inB y 0 100000
    · exact inRange_1 x y w h0 h1
    · exact inRange_2 x y w h0 h1

set_option maxHeartbeats 400000 in
theorem mayCount_c (s j m g o x y : Int) (w : World) (hr : rOk s j m g o = true) (hn : numB x y = true) :
    Calls Tryd.prog 101 #[.agg #[.int .i64 s, .int .i64 j, .int .i64 m, .int .i64 g, .int .i64 o], .int .i64 x, .int .i64 y] w fun e w' => e = .returned (.bool (fairB s j x y)) ∧ Below w.heap.size w w' := by
  simp only [rOk, inB, Bool.and_eq_true, decide_eq_true_eq] at hr
  simp only [numB, inB, Bool.and_eq_true, decide_eq_true_eq] at hn
  have hp := prodB (s := s) (f := x) (by omega) (by omega) (by omega) (by omega)
  have i1 := lst_iff (s := s) (j := j) (c := y) (f := x) (by omega) (by omega)
  have i2 := mst_iff (s := s) (j := j) (c := y) (f := x) (by omega)
  obtain ⟨hp0, hp1⟩ := hp
  by_cases hxy : x < y
  · have HI : Hid (fairB s j x y = decide (1000 * (y - x) ≤ s * x + 1000 * j)) := by
      unfold Hid fairB
      rw [Bool.eq_iff_iff]
      simp only [Bool.and_eq_true, decide_eq_true_eq, i1, i2]
      omega
    clear i1 i2
    go_enter Tryd.func101, Tryd.ntmps101
    go_wp2
    go_ret
    exact ⟨retB (by rw [HI.out]), nbAlloc (Below.refl _ _) _⟩
  · have HI : Hid (fairB s j x y = decide (1000 * (x - y) ≤ s * x + 1000 * j)) := by
      unfold Hid fairB
      rw [Bool.eq_iff_iff]
      simp only [Bool.and_eq_true, decide_eq_true_eq, i1, i2]
      omega
    clear i1 i2
    go_enter Tryd.func101, Tryd.ntmps101
    go_wp2
    go_ret
    exact ⟨retB (by rw [HI.out]), nbAlloc (Below.refl _ _) _⟩

def fdOf (s j x y fr : Int) : Int := if fairB s j x y then (if 100000000 < fr then 4 else 0) else (if 100000000 < fr then 6 else 2)

set_option maxHeartbeats 1000000 in
theorem faultsOf_c (s j m g o x y fr : Int) (w : World) (hr : rOk s j m g o = true) (hn : numB x y = true) :
    Calls Tryd.prog 88 #[.agg #[.int .i64 s, .int .i64 j, .int .i64 m, .int .i64 g, .int .i64 o], .agg #[.int .i64 x, .int .i64 y], .int .i64 fr] w fun e w' => e = .returned (.int .i64 (fdOf s j x y fr)) ∧ Below w.heap.size w w' := by
  unfold fdOf
  cases hf : fairB s j x y
  all_goals by_cases hb : 100000000 < fr
  all_goals
    have HM := mayCount_c s j m g o x y
    rw [hf] at HM
    go_enter Tryd.func88, Tryd.ntmps88
    go_wp2_with (go_at_call 101; refine (HM _ hr hn).mono ?_; rintro e w1 ⟨rfl, hb1⟩)
    go_ret
    exact ⟨by first | (simp; done) | (simp; kernel_rfl), nbTrans (nbAlloc (nbAlloc (Below.refl _ _) _) _) hb1⟩

def errV (i fd : Int) : Value := if fd = 0 then .nilIface else .iface 138 (.agg #[.int .i64 i, .int .i64 fd])
theorem tickErrorOf_c (i fd : Int) (w : World) :
    Calls Tryd.prog 87 #[.int .i64 i, .int .i64 fd] w fun e w' => e = .returned (errV i fd) ∧ w = w' := by
  unfold errV
  by_cases h : fd = 0
  · subst h
    go_enter Tryd.func87, Tryd.ntmps87
    go_wp2
    go_ret
    exact ⟨rfl, rfl⟩
  · rw [if_neg h]
    have h' : (fd == 0) = false := by simpa using h
    go_enter Tryd.func87, Tryd.ntmps87
    go_wp2
    go_ret
    exact ⟨rfl, rfl⟩

theorem asW_below (w : World) (t : Nat) (x y : Int) (ht : t ≤ w.heap.size) : Below t w (asW w t x y) :=
  ((((((Below.refl t w).alloc ht _).alloc (by simp; omega) _).alloc (by simp; omega) _).alloc (by simp; omega) _).setCell (p := ⟨t, 0, none⟩) (Nat.le_refl _) _).setCell (p := ⟨t, 1, none⟩) (Nat.le_refl _) _
theorem asW_cell {w : World} {t : Nat} {x y : Int} {o : Value} (h : w.cell? ⟨t, 1, none⟩ = some o) : (asW w t x y).cell? ⟨t, 1, none⟩ = some (.int .i64 y) := by
  unfold asW
  refine World.cell?_setCell_same' _ _ _ ?_
  rw [World.cell?_setCell_other _ _ _ _ (by simp), cellOn (nbAlloc (nbAlloc (nbAlloc (nbAlloc (Below.refl _ _) _) _) _) _) h]
  rfl

/-- Whether the fault is among those that are minded. -/
def hasB (fd md : Int) : Bool := bits BinOp.and IntKind.i64 fd md != 0

set_option maxRecDepth 100000 in
set_option maxHeartbeats 1000000 in
theorem hasFault_0 (md : Int) (w : World) :
    Calls Tryd.prog 52 #[.nilIface, .int .i64 md] w fun e w' => e = .returned (.bool false) ∧ Below w.heap.size w w' := by
  go_enter Tryd.func52, Tryd.ntmps52
  go_wp2_with (go_at_call 89; refine (as_nil _ _).mono ?_; rintro e w1 ⟨rfl, rfl⟩)
  go_ret
  exact ⟨rfl, nbAlloc (Below.refl _ _) _⟩
set_option maxRecDepth 100000 in
set_option maxHeartbeats 1000000 in
theorem hasFault_1 (i fd md : Int) (w : World) (hV : Vars w) :
    Calls Tryd.prog 52 #[.iface 138 (.agg #[.int .i64 i, .int .i64 fd]), .int .i64 md] w fun e w' => e = .returned (.bool (hasB fd md)) ∧ Below w.heap.size w w' := by
  have hA := as_hit w.heap.size i fd (.int .i64 0) (.int .i64 0) (w.alloc (.cells #[.int .i64 0, .int .i64 0] 138)) (hV.on (nbAlloc (Below.refl _ _) _)) (by go_simp) (by go_simp) (by go_simp) (by go_simp)
  have hc := asW_cell (w := w.alloc (.cells #[.int .i64 0, .int .i64 0] 138)) (t := w.heap.size) (x := i) (y := fd) (o := .int .i64 0) (by go_simp)
  have hB : Below w.heap.size w (asW (w.alloc (.cells #[.int .i64 0, .int .i64 0] 138)) w.heap.size i fd) := (nbAlloc (Below.refl _ _) _).trans (asW_below _ _ _ _ (by simp))
  go_enter Tryd.func52, Tryd.ntmps52
  go_wp2_with (go_at_call 89; refine hA.mono ?_; rintro e w1 ⟨rfl, rfl⟩)
  go_ret
  exact ⟨rfl, hB⟩
theorem hasFault_c (i fd md : Int) (w : World) (hV : Vars w) :
    Calls Tryd.prog 52 #[errV i fd, .int .i64 md] w fun e w' => e = .returned (.bool (if fd = 0 then false else hasB fd md)) ∧ Below w.heap.size w w' := by
  unfold errV
  by_cases h : fd = 0
  · simp only [h, if_true]
    exact hasFault_0 md w
  · simp only [h, if_false]
    exact hasFault_1 i fd md w hV

end Go.Proofs.YtmhppadblddjoaaDoor
