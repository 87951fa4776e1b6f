import Derived.Test.YtmhppadblddjoaaW2
namespace Go.Proofs.Ytmhppadblddjoaa
open Go.RowKit

theorem has_t (a b x : Int) (w : World) (hh : inB x a b = true) :
    Calls Try.prog 48 #[.agg #[.int .i64 a, .int .i64 b], .int .i64 x] w fun e w' => e = .returned (.bool true) ∧ Below w.heap.size w w' := hh ▸ has_c a b x w
theorem has_f (a b x : Int) (w : World) (hh : inB x a b = false) :
    Calls Try.prog 48 #[.agg #[.int .i64 a, .int .i64 b], .int .i64 x] w fun e w' => e = .returned (.bool false) ∧ Below w.heap.size w w' := hh ▸ has_c a b x w

def rC (w : World) (s j m g o : Int) : World → Prop := fun w' => w'.cell? ⟨w.heap.size, 0, none⟩ = some (.int .i64 s) ∧ w'.cell? ⟨w.heap.size, 1, none⟩ = some (.int .i64 j) ∧ w'.cell? ⟨w.heap.size, 2, none⟩ = some (.int .i64 m) ∧ w'.cell? ⟨w.heap.size, 3, none⟩ = some (.int .i64 g) ∧ w'.cell? ⟨w.heap.size, 4, none⟩ = some (.int .i64 o) ∧ w'.cell? ⟨w.heap.size + 1, 0, none⟩ = some (.int .i64 1) ∧ w'.cell? ⟨w.heap.size + 1, 1, none⟩ = some (.int .i64 1000000) ∧ Below w.heap.size w w'
theorem rC_on {w : World} {s j m g o : Int} {w1 w2 : World} (h : rC w s j m g o w1) (hb : Below w1.heap.size w1 w2) : rC w s j m g o w2 :=
  ⟨cellOn hb h.1, cellOn hb h.2.1, cellOn hb h.2.2.1, cellOn hb h.2.2.2.1, cellOn hb h.2.2.2.2.1, cellOn hb h.2.2.2.2.2.1, cellOn hb h.2.2.2.2.2.2.1, nbTrans h.2.2.2.2.2.2.2 hb⟩

set_option maxHeartbeats 1000000 in
theorem implRulesOk_0 (s j m g o : Int) (w : World)  (h0 : inB s 0 500 = false) :
    Calls Try.prog 27 #[.agg #[.int .i64 s, .int .i64 j, .int .i64 m, .int .i64 g, .int .i64 o]] w fun e w' => e = .returned (.bool false) ∧ Below w.heap.size w w' := by
  go_enter Try.func27, Try.ntmps27
  go_wp2
  refine region_kept (rC w s j m g o) (by kernel_rfl) (by kernel_rfl) ?_ ?_
  · refine ⟨?_, ?_, ?_, ?_, ?_, ?_, ?_, ?_⟩ <;> first | (simp; done) | exact Below.drew (nbAlloc (nbAlloc (Below.refl _ _) _) _)
  intro hN
  have k0 : ∀ d : Kept (rC w s j m g o), d.w.cell? ⟨w.heap.size, 0, none⟩ = some (.int .i64 s) := fun d => d.h.1
  have k1 : ∀ d : Kept (rC w s j m g o), d.w.cell? ⟨w.heap.size, 1, none⟩ = some (.int .i64 j) := fun d => d.h.2.1
  have k2 : ∀ d : Kept (rC w s j m g o), d.w.cell? ⟨w.heap.size, 2, none⟩ = some (.int .i64 m) := fun d => d.h.2.2.1
  have k3 : ∀ d : Kept (rC w s j m g o), d.w.cell? ⟨w.heap.size, 3, none⟩ = some (.int .i64 g) := fun d => d.h.2.2.2.1
  have k4 : ∀ d : Kept (rC w s j m g o), d.w.cell? ⟨w.heap.size, 4, none⟩ = some (.int .i64 o) := fun d => d.h.2.2.2.2.1
  have k5 : ∀ d : Kept (rC w s j m g o), d.w.cell? ⟨w.heap.size + 1, 0, none⟩ = some (.int .i64 1) := fun d => d.h.2.2.2.2.2.1
  have k6 : ∀ d : Kept (rC w s j m g o), d.w.cell? ⟨w.heap.size + 1, 1, none⟩ = some (.int .i64 1000000) := fun d => d.h.2.2.2.2.2.2.1
  repeat (go_big_quiet_step (first | (go_at_call 47; exact (upTo_c _ _).mono fun e w' h => ⟨h.1, ⟨w', rC_on (Kept.h _) h.2⟩, rfl⟩) | (go_at_call 48; exact (has_t _ _ _ _ (by assumption)).mono fun e w' h => ⟨h.1, ⟨w', rC_on (Kept.h _) h.2⟩, rfl⟩) | (go_at_call 48; exact (has_f _ _ _ _ (by assumption)).mono fun e w' h => ⟨h.1, ⟨w', rC_on (Kept.h _) h.2⟩, rfl⟩)))
  refine wpQuiet_nil ?_
  rintro _ ⟨⟨w1, hd⟩, rfl⟩
  go_wp2
  go_ret
  exact ⟨rfl, hd.2.2.2.2.2.2.2⟩

set_option maxHeartbeats 1000000 in
theorem implRulesOk_1 (s j m g o : Int) (w : World) (h0 : inB s 0 500 = true) (h1 : inB j 0 1000 = false) :
    Calls Try.prog 27 #[.agg #[.int .i64 s, .int .i64 j, .int .i64 m, .int .i64 g, .int .i64 o]] w fun e w' => e = .returned (.bool false) ∧ Below w.heap.size w w' := by
  go_enter Try.func27, Try.ntmps27
  go_wp2
  refine region_kept (rC w s j m g o) (by kernel_rfl) (by kernel_rfl) ?_ ?_
  · refine ⟨?_, ?_, ?_, ?_, ?_, ?_, ?_, ?_⟩ <;> first | (simp; done) | exact Below.drew (nbAlloc (nbAlloc (Below.refl _ _) _) _)
  intro hN
  have k0 : ∀ d : Kept (rC w s j m g o), d.w.cell? ⟨w.heap.size, 0, none⟩ = some (.int .i64 s) := fun d => d.h.1
  have k1 : ∀ d : Kept (rC w s j m g o), d.w.cell? ⟨w.heap.size, 1, none⟩ = some (.int .i64 j) := fun d => d.h.2.1
  have k2 : ∀ d : Kept (rC w s j m g o), d.w.cell? ⟨w.heap.size, 2, none⟩ = some (.int .i64 m) := fun d => d.h.2.2.1
  have k3 : ∀ d : Kept (rC w s j m g o), d.w.cell? ⟨w.heap.size, 3, none⟩ = some (.int .i64 g) := fun d => d.h.2.2.2.1
  have k4 : ∀ d : Kept (rC w s j m g o), d.w.cell? ⟨w.heap.size, 4, none⟩ = some (.int .i64 o) := fun d => d.h.2.2.2.2.1
  have k5 : ∀ d : Kept (rC w s j m g o), d.w.cell? ⟨w.heap.size + 1, 0, none⟩ = some (.int .i64 1) := fun d => d.h.2.2.2.2.2.1
  have k6 : ∀ d : Kept (rC w s j m g o), d.w.cell? ⟨w.heap.size + 1, 1, none⟩ = some (.int .i64 1000000) := fun d => d.h.2.2.2.2.2.2.1
  repeat (go_big_quiet_step (first | (go_at_call 47; exact (upTo_c _ _).mono fun e w' h => ⟨h.1, ⟨w', rC_on (Kept.h _) h.2⟩, rfl⟩) | (go_at_call 48; exact (has_t _ _ _ _ (by assumption)).mono fun e w' h => ⟨h.1, ⟨w', rC_on (Kept.h _) h.2⟩, rfl⟩) | (go_at_call 48; exact (has_f _ _ _ _ (by assumption)).mono fun e w' h => ⟨h.1, ⟨w', rC_on (Kept.h _) h.2⟩, rfl⟩)))
  refine wpQuiet_nil ?_
  rintro _ ⟨⟨w1, hd⟩, rfl⟩
  go_wp2
  go_ret
  exact ⟨rfl, hd.2.2.2.2.2.2.2⟩

set_option maxHeartbeats 1000000 in
theorem implRulesOk_2 (s j m g o : Int) (w : World) (h0 : inB s 0 500 = true) (h1 : inB j 0 1000 = true) (h2 : inB m 0 10000 = false) :
    Calls Try.prog 27 #[.agg #[.int .i64 s, .int .i64 j, .int .i64 m, .int .i64 g, .int .i64 o]] w fun e w' => e = .returned (.bool false) ∧ Below w.heap.size w w' := by
  go_enter Try.func27, Try.ntmps27
  go_wp2
  refine region_kept (rC w s j m g o) (by kernel_rfl) (by kernel_rfl) ?_ ?_
  · refine ⟨?_, ?_, ?_, ?_, ?_, ?_, ?_, ?_⟩ <;> first | (simp; done) | exact Below.drew (nbAlloc (nbAlloc (Below.refl _ _) _) _)
  intro hN
  have k0 : ∀ d : Kept (rC w s j m g o), d.w.cell? ⟨w.heap.size, 0, none⟩ = some (.int .i64 s) := fun d => d.h.1
  have k1 : ∀ d : Kept (rC w s j m g o), d.w.cell? ⟨w.heap.size, 1, none⟩ = some (.int .i64 j) := fun d => d.h.2.1
  have k2 : ∀ d : Kept (rC w s j m g o), d.w.cell? ⟨w.heap.size, 2, none⟩ = some (.int .i64 m) := fun d => d.h.2.2.1
  have k3 : ∀ d : Kept (rC w s j m g o), d.w.cell? ⟨w.heap.size, 3, none⟩ = some (.int .i64 g) := fun d => d.h.2.2.2.1
  have k4 : ∀ d : Kept (rC w s j m g o), d.w.cell? ⟨w.heap.size, 4, none⟩ = some (.int .i64 o) := fun d => d.h.2.2.2.2.1
  have k5 : ∀ d : Kept (rC w s j m g o), d.w.cell? ⟨w.heap.size + 1, 0, none⟩ = some (.int .i64 1) := fun d => d.h.2.2.2.2.2.1
  have k6 : ∀ d : Kept (rC w s j m g o), d.w.cell? ⟨w.heap.size + 1, 1, none⟩ = some (.int .i64 1000000) := fun d => d.h.2.2.2.2.2.2.1
  repeat (go_big_quiet_step (first | (go_at_call 47; exact (upTo_c _ _).mono fun e w' h => ⟨h.1, ⟨w', rC_on (Kept.h _) h.2⟩, rfl⟩) | (go_at_call 48; exact (has_t _ _ _ _ (by assumption)).mono fun e w' h => ⟨h.1, ⟨w', rC_on (Kept.h _) h.2⟩, rfl⟩) | (go_at_call 48; exact (has_f _ _ _ _ (by assumption)).mono fun e w' h => ⟨h.1, ⟨w', rC_on (Kept.h _) h.2⟩, rfl⟩)))
  refine wpQuiet_nil ?_
  rintro _ ⟨⟨w1, hd⟩, rfl⟩
  go_wp2
  go_ret
  exact ⟨rfl, hd.2.2.2.2.2.2.2⟩

set_option maxHeartbeats 1000000 in
theorem implRulesOk_3 (s j m g o : Int) (w : World) (h0 : inB s 0 500 = true) (h1 : inB j 0 1000 = true) (h2 : inB m 0 10000 = true) (h3 : inB g 1 1000000 = false) :
    Calls Try.prog 27 #[.agg #[.int .i64 s, .int .i64 j, .int .i64 m, .int .i64 g, .int .i64 o]] w fun e w' => e = .returned (.bool false) ∧ Below w.heap.size w w' := by
  go_enter Try.func27, Try.ntmps27
  go_wp2
  refine region_kept (rC w s j m g o) (by kernel_rfl) (by kernel_rfl) ?_ ?_
  · refine ⟨?_, ?_, ?_, ?_, ?_, ?_, ?_, ?_⟩ <;> first | (simp; done) | exact Below.drew (nbAlloc (nbAlloc (Below.refl _ _) _) _)
  intro hN
  have k0 : ∀ d : Kept (rC w s j m g o), d.w.cell? ⟨w.heap.size, 0, none⟩ = some (.int .i64 s) := fun d => d.h.1
  have k1 : ∀ d : Kept (rC w s j m g o), d.w.cell? ⟨w.heap.size, 1, none⟩ = some (.int .i64 j) := fun d => d.h.2.1
  have k2 : ∀ d : Kept (rC w s j m g o), d.w.cell? ⟨w.heap.size, 2, none⟩ = some (.int .i64 m) := fun d => d.h.2.2.1
  have k3 : ∀ d : Kept (rC w s j m g o), d.w.cell? ⟨w.heap.size, 3, none⟩ = some (.int .i64 g) := fun d => d.h.2.2.2.1
  have k4 : ∀ d : Kept (rC w s j m g o), d.w.cell? ⟨w.heap.size, 4, none⟩ = some (.int .i64 o) := fun d => d.h.2.2.2.2.1
  have k5 : ∀ d : Kept (rC w s j m g o), d.w.cell? ⟨w.heap.size + 1, 0, none⟩ = some (.int .i64 1) := fun d => d.h.2.2.2.2.2.1
  have k6 : ∀ d : Kept (rC w s j m g o), d.w.cell? ⟨w.heap.size + 1, 1, none⟩ = some (.int .i64 1000000) := fun d => d.h.2.2.2.2.2.2.1
  repeat (go_big_quiet_step (first | (go_at_call 47; exact (upTo_c _ _).mono fun e w' h => ⟨h.1, ⟨w', rC_on (Kept.h _) h.2⟩, rfl⟩) | (go_at_call 48; exact (has_t _ _ _ _ (by assumption)).mono fun e w' h => ⟨h.1, ⟨w', rC_on (Kept.h _) h.2⟩, rfl⟩) | (go_at_call 48; exact (has_f _ _ _ _ (by assumption)).mono fun e w' h => ⟨h.1, ⟨w', rC_on (Kept.h _) h.2⟩, rfl⟩)))
  refine wpQuiet_nil ?_
  rintro _ ⟨⟨w1, hd⟩, rfl⟩
  go_wp2
  go_ret
  exact ⟨rfl, hd.2.2.2.2.2.2.2⟩

set_option maxHeartbeats 1000000 in
theorem implRulesOk_4 (s j m g o : Int) (w : World) (h0 : inB s 0 500 = true) (h1 : inB j 0 1000 = true) (h2 : inB m 0 10000 = true) (h3 : inB g 1 1000000 = true) (h4 : inB o 0 10000 = false) :
    Calls Try.prog 27 #[.agg #[.int .i64 s, .int .i64 j, .int .i64 m, .int .i64 g, .int .i64 o]] w fun e w' => e = .returned (.bool false) ∧ Below w.heap.size w w' := by
  go_enter Try.func27, Try.ntmps27
  go_wp2
  refine region_kept (rC w s j m g o) (by kernel_rfl) (by kernel_rfl) ?_ ?_
  · refine ⟨?_, ?_, ?_, ?_, ?_, ?_, ?_, ?_⟩ <;> first | (simp; done) | exact Below.drew (nbAlloc (nbAlloc (Below.refl _ _) _) _)
  intro hN
  have k0 : ∀ d : Kept (rC w s j m g o), d.w.cell? ⟨w.heap.size, 0, none⟩ = some (.int .i64 s) := fun d => d.h.1
  have k1 : ∀ d : Kept (rC w s j m g o), d.w.cell? ⟨w.heap.size, 1, none⟩ = some (.int .i64 j) := fun d => d.h.2.1
  have k2 : ∀ d : Kept (rC w s j m g o), d.w.cell? ⟨w.heap.size, 2, none⟩ = some (.int .i64 m) := fun d => d.h.2.2.1
  have k3 : ∀ d : Kept (rC w s j m g o), d.w.cell? ⟨w.heap.size, 3, none⟩ = some (.int .i64 g) := fun d => d.h.2.2.2.1
  have k4 : ∀ d : Kept (rC w s j m g o), d.w.cell? ⟨w.heap.size, 4, none⟩ = some (.int .i64 o) := fun d => d.h.2.2.2.2.1
  have k5 : ∀ d : Kept (rC w s j m g o), d.w.cell? ⟨w.heap.size + 1, 0, none⟩ = some (.int .i64 1) := fun d => d.h.2.2.2.2.2.1
  have k6 : ∀ d : Kept (rC w s j m g o), d.w.cell? ⟨w.heap.size + 1, 1, none⟩ = some (.int .i64 1000000) := fun d => d.h.2.2.2.2.2.2.1
  repeat (go_big_quiet_step (first | (go_at_call 47; exact (upTo_c _ _).mono fun e w' h => ⟨h.1, ⟨w', rC_on (Kept.h _) h.2⟩, rfl⟩) | (go_at_call 48; exact (has_t _ _ _ _ (by assumption)).mono fun e w' h => ⟨h.1, ⟨w', rC_on (Kept.h _) h.2⟩, rfl⟩) | (go_at_call 48; exact (has_f _ _ _ _ (by assumption)).mono fun e w' h => ⟨h.1, ⟨w', rC_on (Kept.h _) h.2⟩, rfl⟩)))
  refine wpQuiet_nil ?_
  rintro _ ⟨⟨w1, hd⟩, rfl⟩
  go_wp2
  go_ret
  exact ⟨rfl, hd.2.2.2.2.2.2.2⟩

set_option maxHeartbeats 1000000 in
theorem implRulesOk_5 (s j m g o : Int) (w : World) (h0 : inB s 0 500 = true) (h1 : inB j 0 1000 = true) (h2 : inB m 0 10000 = true) (h3 : inB g 1 1000000 = true) (h4 : inB o 0 10000 = true) :
    Calls Try.prog 27 #[.agg #[.int .i64 s, .int .i64 j, .int .i64 m, .int .i64 g, .int .i64 o]] w fun e w' => e = .returned (.bool true) ∧ Below w.heap.size w w' := by
  go_enter Try.func27, Try.ntmps27
  go_wp2
  refine region_kept (rC w s j m g o) (by kernel_rfl) (by kernel_rfl) ?_ ?_
  · refine ⟨?_, ?_, ?_, ?_, ?_, ?_, ?_, ?_⟩ <;> first | (simp; done) | exact Below.drew (nbAlloc (nbAlloc (Below.refl _ _) _) _)
  intro hN
  have k0 : ∀ d : Kept (rC w s j m g o), d.w.cell? ⟨w.heap.size, 0, none⟩ = some (.int .i64 s) := fun d => d.h.1
  have k1 : ∀ d : Kept (rC w s j m g o), d.w.cell? ⟨w.heap.size, 1, none⟩ = some (.int .i64 j) := fun d => d.h.2.1
  have k2 : ∀ d : Kept (rC w s j m g o), d.w.cell? ⟨w.heap.size, 2, none⟩ = some (.int .i64 m) := fun d => d.h.2.2.1
  have k3 : ∀ d : Kept (rC w s j m g o), d.w.cell? ⟨w.heap.size, 3, none⟩ = some (.int .i64 g) := fun d => d.h.2.2.2.1
  have k4 : ∀ d : Kept (rC w s j m g o), d.w.cell? ⟨w.heap.size, 4, none⟩ = some (.int .i64 o) := fun d => d.h.2.2.2.2.1
  have k5 : ∀ d : Kept (rC w s j m g o), d.w.cell? ⟨w.heap.size + 1, 0, none⟩ = some (.int .i64 1) := fun d => d.h.2.2.2.2.2.1
  have k6 : ∀ d : Kept (rC w s j m g o), d.w.cell? ⟨w.heap.size + 1, 1, none⟩ = some (.int .i64 1000000) := fun d => d.h.2.2.2.2.2.2.1
  repeat (go_big_quiet_step (first | (go_at_call 47; exact (upTo_c _ _).mono fun e w' h => ⟨h.1, ⟨w', rC_on (Kept.h _) h.2⟩, rfl⟩) | (go_at_call 48; exact (has_t _ _ _ _ (by assumption)).mono fun e w' h => ⟨h.1, ⟨w', rC_on (Kept.h _) h.2⟩, rfl⟩) | (go_at_call 48; exact (has_f _ _ _ _ (by assumption)).mono fun e w' h => ⟨h.1, ⟨w', rC_on (Kept.h _) h.2⟩, rfl⟩)))
  refine wpQuiet_nil ?_
  rintro _ ⟨⟨w1, hd⟩, rfl⟩
  go_wp2
  go_ret
  exact ⟨rfl, hd.2.2.2.2.2.2.2⟩

set_option maxHeartbeats 1000000 in
theorem specRulesOk_0 (s j m g o : Int) (w : World)  (h0 : inB s 0 500 = false) :
    Calls Try.prog 25 #[.agg #[.int .i64 s, .int .i64 j, .int .i64 m, .int .i64 g, .int .i64 o]] w fun e w' => e = .returned (.bool false) ∧ Below w.heap.size w w' := by
  go_enter Try.func25, Try.ntmps25
  go_wp2_with (go_at_call 54; refine (l1in_c _ _ _ _).mono ?_; rintro e w' ⟨rfl, rfl⟩)
  go_ret
  exact ⟨rfl, nbAlloc (Below.refl _ _) _⟩

set_option maxHeartbeats 1000000 in
theorem specRulesOk_1 (s j m g o : Int) (w : World) (h0 : inB s 0 500 = true) (h1 : inB j 0 1000 = false) :
    Calls Try.prog 25 #[.agg #[.int .i64 s, .int .i64 j, .int .i64 m, .int .i64 g, .int .i64 o]] w fun e w' => e = .returned (.bool false) ∧ Below w.heap.size w w' := by
  go_enter Try.func25, Try.ntmps25
  go_wp2_with (go_at_call 54; refine (l1in_c _ _ _ _).mono ?_; rintro e w' ⟨rfl, rfl⟩)
  go_ret
  exact ⟨rfl, nbAlloc (Below.refl _ _) _⟩

set_option maxHeartbeats 1000000 in
theorem specRulesOk_2 (s j m g o : Int) (w : World) (h0 : inB s 0 500 = true) (h1 : inB j 0 1000 = true) (h2 : inB m 0 10000 = false) :
    Calls Try.prog 25 #[.agg #[.int .i64 s, .int .i64 j, .int .i64 m, .int .i64 g, .int .i64 o]] w fun e w' => e = .returned (.bool false) ∧ Below w.heap.size w w' := by
  go_enter Try.func25, Try.ntmps25
  go_wp2_with (go_at_call 54; refine (l1in_c _ _ _ _).mono ?_; rintro e w' ⟨rfl, rfl⟩)
  go_ret
  exact ⟨rfl, nbAlloc (Below.refl _ _) _⟩

set_option maxHeartbeats 1000000 in
theorem specRulesOk_3 (s j m g o : Int) (w : World) (h0 : inB s 0 500 = true) (h1 : inB j 0 1000 = true) (h2 : inB m 0 10000 = true) (h3 : inB g 1 1000000 = false) :
    Calls Try.prog 25 #[.agg #[.int .i64 s, .int .i64 j, .int .i64 m, .int .i64 g, .int .i64 o]] w fun e w' => e = .returned (.bool false) ∧ Below w.heap.size w w' := by
  go_enter Try.func25, Try.ntmps25
  go_wp2_with (go_at_call 54; refine (l1in_c _ _ _ _).mono ?_; rintro e w' ⟨rfl, rfl⟩)
  go_ret
  exact ⟨rfl, nbAlloc (Below.refl _ _) _⟩

set_option maxHeartbeats 1000000 in
theorem specRulesOk_4 (s j m g o : Int) (w : World) (h0 : inB s 0 500 = true) (h1 : inB j 0 1000 = true) (h2 : inB m 0 10000 = true) (h3 : inB g 1 1000000 = true) (h4 : inB o 0 10000 = false) :
    Calls Try.prog 25 #[.agg #[.int .i64 s, .int .i64 j, .int .i64 m, .int .i64 g, .int .i64 o]] w fun e w' => e = .returned (.bool false) ∧ Below w.heap.size w w' := by
  go_enter Try.func25, Try.ntmps25
  go_wp2_with (go_at_call 54; refine (l1in_c _ _ _ _).mono ?_; rintro e w' ⟨rfl, rfl⟩)
  go_ret
  exact ⟨rfl, nbAlloc (Below.refl _ _) _⟩

set_option maxHeartbeats 1000000 in
theorem specRulesOk_5 (s j m g o : Int) (w : World) (h0 : inB s 0 500 = true) (h1 : inB j 0 1000 = true) (h2 : inB m 0 10000 = true) (h3 : inB g 1 1000000 = true) (h4 : inB o 0 10000 = true) :
    Calls Try.prog 25 #[.agg #[.int .i64 s, .int .i64 j, .int .i64 m, .int .i64 g, .int .i64 o]] w fun e w' => e = .returned (.bool true) ∧ Below w.heap.size w w' := by
  go_enter Try.func25, Try.ntmps25
  go_wp2_with (go_at_call 54; refine (l1in_c _ _ _ _).mono ?_; rintro e w' ⟨rfl, rfl⟩)
  go_ret
  exact ⟨rfl, nbAlloc (Below.refl _ _) _⟩

theorem implRulesOk_c (s j m g o : Int) (w : World) :
    Calls Try.prog 27 #[.agg #[.int .i64 s, .int .i64 j, .int .i64 m, .int .i64 g, .int .i64 o]] w fun e w' => e = .returned (.bool (rOk s j m g o)) ∧ Below w.heap.size w w' := by
  by_cases h0 : inB s 0 500 = true
  case neg =>
    have f0 := Bool.eq_false_iff.2 h0
    rw [show rOk s j m g o = false from by simp [rOk, f0]]; exact implRulesOk_0 s j m g o w f0
  by_cases h1 : inB j 0 1000 = true
  case neg =>
    have f1 := Bool.eq_false_iff.2 h1
    rw [show rOk s j m g o = false from by simp [rOk, f1]]; exact implRulesOk_1 s j m g o w h0 f1
  by_cases h2 : inB m 0 10000 = true
  case neg =>
    have f2 := Bool.eq_false_iff.2 h2
    rw [show rOk s j m g o = false from by simp [rOk, f2]]; exact implRulesOk_2 s j m g o w h0 h1 f2
  by_cases h3 : inB g 1 1000000 = true
  case neg =>
    have f3 := Bool.eq_false_iff.2 h3
    rw [show rOk s j m g o = false from by simp [rOk, f3]]; exact implRulesOk_3 s j m g o w h0 h1 h2 f3
  by_cases h4 : inB o 0 10000 = true
  case neg =>
    have f4 := Bool.eq_false_iff.2 h4
    rw [show rOk s j m g o = false from by simp [rOk, f4]]; exact implRulesOk_4 s j m g o w h0 h1 h2 h3 f4
  rw [show rOk s j m g o = true from by simp [rOk, h0, h1, h2, h3, h4]]; exact implRulesOk_5 s j m g o w h0 h1 h2 h3 h4

theorem specRulesOk_c (s j m g o : Int) (w : World) :
    Calls Try.prog 25 #[.agg #[.int .i64 s, .int .i64 j, .int .i64 m, .int .i64 g, .int .i64 o]] w fun e w' => e = .returned (.bool (rOk s j m g o)) ∧ Below w.heap.size w w' := by
  by_cases h0 : inB s 0 500 = true
  case neg =>
    have f0 := Bool.eq_false_iff.2 h0
    rw [show rOk s j m g o = false from by simp [rOk, f0]]; exact specRulesOk_0 s j m g o w f0
  by_cases h1 : inB j 0 1000 = true
  case neg =>
    have f1 := Bool.eq_false_iff.2 h1
    rw [show rOk s j m g o = false from by simp [rOk, f1]]; exact specRulesOk_1 s j m g o w h0 f1
  by_cases h2 : inB m 0 10000 = true
  case neg =>
    have f2 := Bool.eq_false_iff.2 h2
    rw [show rOk s j m g o = false from by simp [rOk, f2]]; exact specRulesOk_2 s j m g o w h0 h1 f2
  by_cases h3 : inB g 1 1000000 = true
  case neg =>
    have f3 := Bool.eq_false_iff.2 h3
    rw [show rOk s j m g o = false from by simp [rOk, f3]]; exact specRulesOk_3 s j m g o w h0 h1 h2 f3
  by_cases h4 : inB o 0 10000 = true
  case neg =>
    have f4 := Bool.eq_false_iff.2 h4
    rw [show rOk s j m g o = false from by simp [rOk, f4]]; exact specRulesOk_4 s j m g o w h0 h1 h2 h3 f4
  rw [show rOk s j m g o = true from by simp [rOk, h0, h1, h2, h3, h4]]; exact specRulesOk_5 s j m g o w h0 h1 h2 h3 h4

end Go.Proofs.Ytmhppadblddjoaa
