import Derived.Test.YtmhppadblddjoaaDoorRows
import Derived.Test.YtmhppadblddjoaaDoorZTrueMk
import Derived.Test.YtmhppadblddjoaaDoorZTrueW1
namespace Go.Proofs.YtmhppadblddjoaaDoor
open Go.RowKit

def inB (x a b : Int) : Bool := decide (a ≤ x) && decide (x ≤ b)
def bOk (l h : Int) : Bool := decide (-100000000 ≤ l) && decide (l ≤ h) && decide (h ≤ 100000000)
def rOk (s j m g o : Int) : Bool := inB s 0 500 && inB j 0 1000 && inB m 0 10000 && inB g 1 1000000 && inB o 0 10000

set_option maxHeartbeats 400000 in
theorem l1in_c (x a b : Int) (w : World) :
    Calls Tryd.prog 57 #[.int .i64 x, .int .i64 a, .int .i64 b] w fun e w' => e = .returned (.bool (inB x a b)) ∧ w' = w := by
  by_cases h1 : a ≤ x
  · by_cases h2 : x ≤ b
    · go_enter Tryd.func57, Tryd.ntmps57
      go_wp2
      go_ret
      exact ⟨by simp [inB, h1, h2], rfl⟩
    · go_enter Tryd.func57, Tryd.ntmps57
      go_wp2
      go_ret
      exact ⟨by simp [inB, h1, h2], rfl⟩
  · go_enter Tryd.func57, Tryd.ntmps57
    go_wp2
    go_ret
    exact ⟨by simp [inB]; omega, rfl⟩

theorem bOk_out {l h : Int} (h1 : inB l (-100000000) 100000000 = false) : bOk l h = false := by
  rw [Bool.eq_false_iff]; simp [inB, bOk] at *; omega
theorem bOk_out2 {l h : Int} (h1 : inB h (-100000000) 100000000 = false) : bOk l h = false := by
  rw [Bool.eq_false_iff]; simp [inB, bOk] at *; omega
theorem bOk_both {l h : Int} (h1 : inB l (-100000000) 100000000 = true) (h2 : inB h (-100000000) 100000000 = true) : decide (l ≤ h) = bOk l h := by
  rw [Bool.eq_iff_iff]; simp [inB, bOk] at *; omega

set_option maxHeartbeats 400000 in
theorem wholeWay_c (w : World) :
    Calls Tryd.prog 61 #[] w fun e w' => e = .returned (.agg #[.int .i64 (-100000000), .int .i64 100000000]) ∧ Below w.heap.size w w' := by
  go_enter Tryd.func61, Tryd.ntmps61
  go_wp2
  exact bodyPost_ret (v := .agg #[.int .i64 (-100000000), .int .i64 100000000]) (by simp [results, Tryd.results61, go_sem]) rfl ⟨rfl, nbAlloc (Below.refl _ _) _⟩

set_option maxHeartbeats 400000 in
theorem upTo_c (n : Int) (w : World) :
    Calls Tryd.prog 53 #[.int .i64 n] w fun e w' => e = .returned (.agg #[.int .i64 0, .int .i64 n]) ∧ Below w.heap.size w w' := by
  go_enter Tryd.func53, Tryd.ntmps53
  go_wp2
  exact bodyPost_ret (v := .agg #[.int .i64 0, .int .i64 n]) (by simp [results, Tryd.results53, go_sem]) rfl ⟨rfl, nbAlloc (Below.refl _ _) _⟩

set_option maxHeartbeats 400000 in
theorem has_c (a b x : Int) (w : World) :
    Calls Tryd.prog 54 #[.agg #[.int .i64 a, .int .i64 b], .int .i64 x] w fun e w' => e = .returned (.bool (inB x a b)) ∧ Below w.heap.size w w' := by
  by_cases h1 : a ≤ x
  · by_cases h2 : x ≤ b
    all_goals
      go_enter Tryd.func54, Tryd.ntmps54
      go_wp2
      go_ret
      exact ⟨by simp [inB, h1, h2], nbAlloc (Below.refl _ _) _⟩
  · go_enter Tryd.func54, Tryd.ntmps54
    go_wp2
    go_ret
    exact ⟨by simp [inB]; omega, nbAlloc (Below.refl _ _) _⟩

set_option maxHeartbeats 400000 in
theorem implBoundOk_c (l h : Int) (w : World) :
    Calls Tryd.prog 34 #[.agg #[.int .i64 l, .int .i64 h]] w fun e w' => e = .returned (.bool (bOk l h)) ∧ Below w.heap.size w w' := by
  have hmf : ∀ (fn : Fn) (first cap : Array Value) (w : World), (Instr.makeFunc fn first cap).run Tryd.prog w = .ok (.func fn first cap) w := fun _ _ _ _ => rfl
  cases h1 : inB l (-100000000) 100000000
  · go_enter Tryd.func34, Tryd.ntmps34
    go_wp2_with fail
    refine (wholeWay_c _).mono ?_
    rintro e w1 ⟨rfl, hb1⟩
    have c0 : w1.cell? ⟨w.heap.size, 0, none⟩ = some (.int .i64 l) := cellOn hb1 (by simp)
    go_wp2_with fail
    refine (has_c _ _ _ _).mono ?_
    rintro e w2 ⟨rfl, hb2⟩
    go_wp2_with fail
    go_ret
    exact ⟨by rw [bOk_out h1]; rfl, nbTrans (nbTrans (nbAlloc (Below.refl _ _) _) hb1) hb2⟩
  · cases h2 : inB h (-100000000) 100000000
    · go_enter Tryd.func34, Tryd.ntmps34
      go_wp2_with fail
      refine (wholeWay_c _).mono ?_
      rintro e w1 ⟨rfl, hb1⟩
      have c0 : w1.cell? ⟨w.heap.size, 0, none⟩ = some (.int .i64 l) := cellOn hb1 (by simp)
      have c1 : w1.cell? ⟨w.heap.size, 1, none⟩ = some (.int .i64 h) := cellOn hb1 (by simp)
      go_wp2_with fail
      refine (has_c _ _ _ _).mono ?_
      rintro e w2 ⟨rfl, hb2⟩
      have d1 : w2.cell? ⟨w.heap.size, 1, none⟩ = some (.int .i64 h) := cellOn hb2 c1
      go_wp2_with fail
      refine (has_c _ _ _ _).mono ?_
      rintro e w3 ⟨rfl, hb3⟩
      go_wp2_with fail
      go_ret
      exact ⟨by rw [bOk_out2 h2]; rfl, nbTrans (nbTrans (nbTrans (nbAlloc (Below.refl _ _) _) hb1) hb2) hb3⟩
    · go_enter Tryd.func34, Tryd.ntmps34
      go_wp2_with fail
      refine (wholeWay_c _).mono ?_
      rintro e w1 ⟨rfl, hb1⟩
      have c0 : w1.cell? ⟨w.heap.size, 0, none⟩ = some (.int .i64 l) := cellOn hb1 (by simp)
      have c1 : w1.cell? ⟨w.heap.size, 1, none⟩ = some (.int .i64 h) := cellOn hb1 (by simp)
      go_wp2_with fail
      refine (has_c _ _ _ _).mono ?_
      rintro e w2 ⟨rfl, hb2⟩
      have d0 : w2.cell? ⟨w.heap.size, 0, none⟩ = some (.int .i64 l) := cellOn hb2 c0
      have d1 : w2.cell? ⟨w.heap.size, 1, none⟩ = some (.int .i64 h) := cellOn hb2 c1
      go_wp2_with fail
      refine (has_c _ _ _ _).mono ?_
      rintro e w3 ⟨rfl, hb3⟩
      have e0 : w3.cell? ⟨w.heap.size, 0, none⟩ = some (.int .i64 l) := cellOn hb3 d0
      have e1 : w3.cell? ⟨w.heap.size, 1, none⟩ = some (.int .i64 h) := cellOn hb3 d1
      go_wp2_with fail
      go_ret
      exact ⟨by rw [bOk_both h1 h2]; rfl, nbTrans (nbTrans (nbTrans (nbAlloc (Below.refl _ _) _) hb1) hb2) hb3⟩

end Go.Proofs.YtmhppadblddjoaaDoor

namespace Go.Proofs.YtmhppadblddjoaaDoor
open Go.RowKit

theorem has_t (a b x : Int) (w : World) (hh : inB x a b = true) :
    Calls Tryd.prog 54 #[.agg #[.int .i64 a, .int .i64 b], .int .i64 x] w fun e w' => e = .returned (.bool true) ∧ Below w.heap.size w w' := hh ▸ has_c a b x w
theorem has_f (a b x : Int) (w : World) (hh : inB x a b = false) :
    Calls Tryd.prog 54 #[.agg #[.int .i64 a, .int .i64 b], .int .i64 x] w fun e w' => e = .returned (.bool false) ∧ Below w.heap.size w w' := hh ▸ has_c a b x w

def rC (w : World) (s j m g o : Int) : World → Prop := fun w' => w'.cell? ⟨w.heap.size, 0, none⟩ = some (.int .i64 s) ∧ w'.cell? ⟨w.heap.size, 1, none⟩ = some (.int .i64 j) ∧ w'.cell? ⟨w.heap.size, 2, none⟩ = some (.int .i64 m) ∧ w'.cell? ⟨w.heap.size, 3, none⟩ = some (.int .i64 g) ∧ w'.cell? ⟨w.heap.size, 4, none⟩ = some (.int .i64 o) ∧ w'.cell? ⟨w.heap.size + 1, 0, none⟩ = some (.int .i64 1) ∧ w'.cell? ⟨w.heap.size + 1, 1, none⟩ = some (.int .i64 1000000) ∧ Below w.heap.size w w'
theorem rC_on {w : World} {s j m g o : Int} {w1 w2 : World} (h : rC w s j m g o w1) (hb : Below w1.heap.size w1 w2) : rC w s j m g o w2 :=
  ⟨cellOn hb h.1, cellOn hb h.2.1, cellOn hb h.2.2.1, cellOn hb h.2.2.2.1, cellOn hb h.2.2.2.2.1, cellOn hb h.2.2.2.2.2.1, cellOn hb h.2.2.2.2.2.2.1, nbTrans h.2.2.2.2.2.2.2 hb⟩

set_option maxHeartbeats 1000000 in
theorem implRulesOk_0 (s j m g o : Int) (w : World)  (h0 : inB s 0 500 = false) :
    Calls Tryd.prog 32 #[.agg #[.int .i64 s, .int .i64 j, .int .i64 m, .int .i64 g, .int .i64 o]] w fun e w' => e = .returned (.bool false) ∧ Below w.heap.size w w' := by
  go_enter Tryd.func32, Tryd.ntmps32
  go_wp2
  refine region_kept (rC w s j m g o) (by kernel_rfl) (by kernel_rfl) ?_ ?_
  · refine ⟨?_, ?_, ?_, ?_, ?_, ?_, ?_, ?_⟩ <;> first | (simp; done) | exact Below.drew (nbAlloc (nbAlloc (Below.refl _ _) _) _)
  intro hN
  have k0 : ∀ d : Kept (rC w s j m g o), d.w.cell? ⟨w.heap.size, 0, none⟩ = some (.int .i64 s) := fun d => d.h.1
  have k1 : ∀ d : Kept (rC w s j m g o), d.w.cell? ⟨w.heap.size, 1, none⟩ = some (.int .i64 j) := fun d => d.h.2.1
  have k2 : ∀ d : Kept (rC w s j m g o), d.w.cell? ⟨w.heap.size, 2, none⟩ = some (.int .i64 m) := fun d => d.h.2.2.1
  have k3 : ∀ d : Kept (rC w s j m g o), d.w.cell? ⟨w.heap.size, 3, none⟩ = some (.int .i64 g) := fun d => d.h.2.2.2.1
  have k4 : ∀ d : Kept (rC w s j m g o), d.w.cell? ⟨w.heap.size, 4, none⟩ = some (.int .i64 o) := fun d => d.h.2.2.2.2.1
  have k5 : ∀ d : Kept (rC w s j m g o), d.w.cell? ⟨w.heap.size + 1, 0, none⟩ = some (.int .i64 1) := fun d => d.h.2.2.2.2.2.1
  have k6 : ∀ d : Kept (rC w s j m g o), d.w.cell? ⟨w.heap.size + 1, 1, none⟩ = some (.int .i64 1000000) := fun d => d.h.2.2.2.2.2.2.1
  repeat (go_big_quiet_step (first | (go_at_call 53; exact (upTo_c _ _).mono fun e w' h => ⟨h.1, ⟨w', rC_on (Kept.h _) h.2⟩, rfl⟩) | (go_at_call 54; exact (has_t _ _ _ _ (by assumption)).mono fun e w' h => ⟨h.1, ⟨w', rC_on (Kept.h _) h.2⟩, rfl⟩) | (go_at_call 54; exact (has_f _ _ _ _ (by assumption)).mono fun e w' h => ⟨h.1, ⟨w', rC_on (Kept.h _) h.2⟩, rfl⟩)))
  refine wpQuiet_nil ?_
  rintro _ ⟨⟨w1, hd⟩, rfl⟩
  go_wp2
  go_ret
  exact ⟨rfl, hd.2.2.2.2.2.2.2⟩

set_option maxHeartbeats 1000000 in
theorem implRulesOk_1 (s j m g o : Int) (w : World) (h0 : inB s 0 500 = true) (h1 : inB j 0 1000 = false) :
    Calls Tryd.prog 32 #[.agg #[.int .i64 s, .int .i64 j, .int .i64 m, .int .i64 g, .int .i64 o]] w fun e w' => e = .returned (.bool false) ∧ Below w.heap.size w w' := by
  go_enter Tryd.func32, Tryd.ntmps32
  go_wp2
  refine region_kept (rC w s j m g o) (by kernel_rfl) (by kernel_rfl) ?_ ?_
  · refine ⟨?_, ?_, ?_, ?_, ?_, ?_, ?_, ?_⟩ <;> first | (simp; done) | exact Below.drew (nbAlloc (nbAlloc (Below.refl _ _) _) _)
  intro hN
  have k0 : ∀ d : Kept (rC w s j m g o), d.w.cell? ⟨w.heap.size, 0, none⟩ = some (.int .i64 s) := fun d => d.h.1
  have k1 : ∀ d : Kept (rC w s j m g o), d.w.cell? ⟨w.heap.size, 1, none⟩ = some (.int .i64 j) := fun d => d.h.2.1
  have k2 : ∀ d : Kept (rC w s j m g o), d.w.cell? ⟨w.heap.size, 2, none⟩ = some (.int .i64 m) := fun d => d.h.2.2.1
  have k3 : ∀ d : Kept (rC w s j m g o), d.w.cell? ⟨w.heap.size, 3, none⟩ = some (.int .i64 g) := fun d => d.h.2.2.2.1
  have k4 : ∀ d : Kept (rC w s j m g o), d.w.cell? ⟨w.heap.size, 4, none⟩ = some (.int .i64 o) := fun d => d.h.2.2.2.2.1
  have k5 : ∀ d : Kept (rC w s j m g o), d.w.cell? ⟨w.heap.size + 1, 0, none⟩ = some (.int .i64 1) := fun d => d.h.2.2.2.2.2.1
  have k6 : ∀ d : Kept (rC w s j m g o), d.w.cell? ⟨w.heap.size + 1, 1, none⟩ = some (.int .i64 1000000) := fun d => d.h.2.2.2.2.2.2.1
  repeat (go_big_quiet_step (first | (go_at_call 53; exact (upTo_c _ _).mono fun e w' h => ⟨h.1, ⟨w', rC_on (Kept.h _) h.2⟩, rfl⟩) | (go_at_call 54; exact (has_t _ _ _ _ (by assumption)).mono fun e w' h => ⟨h.1, ⟨w', rC_on (Kept.h _) h.2⟩, rfl⟩) | (go_at_call 54; exact (has_f _ _ _ _ (by assumption)).mono fun e w' h => ⟨h.1, ⟨w', rC_on (Kept.h _) h.2⟩, rfl⟩)))
  refine wpQuiet_nil ?_
  rintro _ ⟨⟨w1, hd⟩, rfl⟩
  go_wp2
  go_ret
  exact ⟨rfl, hd.2.2.2.2.2.2.2⟩

set_option maxHeartbeats 1000000 in
theorem implRulesOk_2 (s j m g o : Int) (w : World) (h0 : inB s 0 500 = true) (h1 : inB j 0 1000 = true) (h2 : inB m 0 10000 = false) :
    Calls Tryd.prog 32 #[.agg #[.int .i64 s, .int .i64 j, .int .i64 m, .int .i64 g, .int .i64 o]] w fun e w' => e = .returned (.bool false) ∧ Below w.heap.size w w' := by
  go_enter Tryd.func32, Tryd.ntmps32
  go_wp2
  refine region_kept (rC w s j m g o) (by kernel_rfl) (by kernel_rfl) ?_ ?_
  · refine ⟨?_, ?_, ?_, ?_, ?_, ?_, ?_, ?_⟩ <;> first | (simp; done) | exact Below.drew (nbAlloc (nbAlloc (Below.refl _ _) _) _)
  intro hN
  have k0 : ∀ d : Kept (rC w s j m g o), d.w.cell? ⟨w.heap.size, 0, none⟩ = some (.int .i64 s) := fun d => d.h.1
  have k1 : ∀ d : Kept (rC w s j m g o), d.w.cell? ⟨w.heap.size, 1, none⟩ = some (.int .i64 j) := fun d => d.h.2.1
  have k2 : ∀ d : Kept (rC w s j m g o), d.w.cell? ⟨w.heap.size, 2, none⟩ = some (.int .i64 m) := fun d => d.h.2.2.1
  have k3 : ∀ d : Kept (rC w s j m g o), d.w.cell? ⟨w.heap.size, 3, none⟩ = some (.int .i64 g) := fun d => d.h.2.2.2.1
  have k4 : ∀ d : Kept (rC w s j m g o), d.w.cell? ⟨w.heap.size, 4, none⟩ = some (.int .i64 o) := fun d => d.h.2.2.2.2.1
  have k5 : ∀ d : Kept (rC w s j m g o), d.w.cell? ⟨w.heap.size + 1, 0, none⟩ = some (.int .i64 1) := fun d => d.h.2.2.2.2.2.1
  have k6 : ∀ d : Kept (rC w s j m g o), d.w.cell? ⟨w.heap.size + 1, 1, none⟩ = some (.int .i64 1000000) := fun d => d.h.2.2.2.2.2.2.1
  repeat (go_big_quiet_step (first | (go_at_call 53; exact (upTo_c _ _).mono fun e w' h => ⟨h.1, ⟨w', rC_on (Kept.h _) h.2⟩, rfl⟩) | (go_at_call 54; exact (has_t _ _ _ _ (by assumption)).mono fun e w' h => ⟨h.1, ⟨w', rC_on (Kept.h _) h.2⟩, rfl⟩) | (go_at_call 54; exact (has_f _ _ _ _ (by assumption)).mono fun e w' h => ⟨h.1, ⟨w', rC_on (Kept.h _) h.2⟩, rfl⟩)))
  refine wpQuiet_nil ?_
  rintro _ ⟨⟨w1, hd⟩, rfl⟩
  go_wp2
  go_ret
  exact ⟨rfl, hd.2.2.2.2.2.2.2⟩

set_option maxHeartbeats 1000000 in
theorem implRulesOk_3 (s j m g o : Int) (w : World) (h0 : inB s 0 500 = true) (h1 : inB j 0 1000 = true) (h2 : inB m 0 10000 = true) (h3 : inB g 1 1000000 = false) :
    Calls Tryd.prog 32 #[.agg #[.int .i64 s, .int .i64 j, .int .i64 m, .int .i64 g, .int .i64 o]] w fun e w' => e = .returned (.bool false) ∧ Below w.heap.size w w' := by
  go_enter Tryd.func32, Tryd.ntmps32
  go_wp2
  refine region_kept (rC w s j m g o) (by kernel_rfl) (by kernel_rfl) ?_ ?_
  · refine ⟨?_, ?_, ?_, ?_, ?_, ?_, ?_, ?_⟩ <;> first | (simp; done) | exact Below.drew (nbAlloc (nbAlloc (Below.refl _ _) _) _)
  intro hN
  have k0 : ∀ d : Kept (rC w s j m g o), d.w.cell? ⟨w.heap.size, 0, none⟩ = some (.int .i64 s) := fun d => d.h.1
  have k1 : ∀ d : Kept (rC w s j m g o), d.w.cell? ⟨w.heap.size, 1, none⟩ = some (.int .i64 j) := fun d => d.h.2.1
  have k2 : ∀ d : Kept (rC w s j m g o), d.w.cell? ⟨w.heap.size, 2, none⟩ = some (.int .i64 m) := fun d => d.h.2.2.1
  have k3 : ∀ d : Kept (rC w s j m g o), d.w.cell? ⟨w.heap.size, 3, none⟩ = some (.int .i64 g) := fun d => d.h.2.2.2.1
  have k4 : ∀ d : Kept (rC w s j m g o), d.w.cell? ⟨w.heap.size, 4, none⟩ = some (.int .i64 o) := fun d => d.h.2.2.2.2.1
  have k5 : ∀ d : Kept (rC w s j m g o), d.w.cell? ⟨w.heap.size + 1, 0, none⟩ = some (.int .i64 1) := fun d => d.h.2.2.2.2.2.1
  have k6 : ∀ d : Kept (rC w s j m g o), d.w.cell? ⟨w.heap.size + 1, 1, none⟩ = some (.int .i64 1000000) := fun d => d.h.2.2.2.2.2.2.1
  repeat (go_big_quiet_step (first | (go_at_call 53; exact (upTo_c _ _).mono fun e w' h => ⟨h.1, ⟨w', rC_on (Kept.h _) h.2⟩, rfl⟩) | (go_at_call 54; exact (has_t _ _ _ _ (by assumption)).mono fun e w' h => ⟨h.1, ⟨w', rC_on (Kept.h _) h.2⟩, rfl⟩) | (go_at_call 54; exact (has_f _ _ _ _ (by assumption)).mono fun e w' h => ⟨h.1, ⟨w', rC_on (Kept.h _) h.2⟩, rfl⟩)))
  refine wpQuiet_nil ?_
  rintro _ ⟨⟨w1, hd⟩, rfl⟩
  go_wp2
  go_ret
  exact ⟨rfl, hd.2.2.2.2.2.2.2⟩

set_option maxHeartbeats 1000000 in
theorem implRulesOk_4 (s j m g o : Int) (w : World) (h0 : inB s 0 500 = true) (h1 : inB j 0 1000 = true) (h2 : inB m 0 10000 = true) (h3 : inB g 1 1000000 = true) (h4 : inB o 0 10000 = false) :
    Calls Tryd.prog 32 #[.agg #[.int .i64 s, .int .i64 j, .int .i64 m, .int .i64 g, .int .i64 o]] w fun e w' => e = .returned (.bool false) ∧ Below w.heap.size w w' := by
  go_enter Tryd.func32, Tryd.ntmps32
  go_wp2
  refine region_kept (rC w s j m g o) (by kernel_rfl) (by kernel_rfl) ?_ ?_
  · refine ⟨?_, ?_, ?_, ?_, ?_, ?_, ?_, ?_⟩ <;> first | (simp; done) | exact Below.drew (nbAlloc (nbAlloc (Below.refl _ _) _) _)
  intro hN
  have k0 : ∀ d : Kept (rC w s j m g o), d.w.cell? ⟨w.heap.size, 0, none⟩ = some (.int .i64 s) := fun d => d.h.1
  have k1 : ∀ d : Kept (rC w s j m g o), d.w.cell? ⟨w.heap.size, 1, none⟩ = some (.int .i64 j) := fun d => d.h.2.1
  have k2 : ∀ d : Kept (rC w s j m g o), d.w.cell? ⟨w.heap.size, 2, none⟩ = some (.int .i64 m) := fun d => d.h.2.2.1
  have k3 : ∀ d : Kept (rC w s j m g o), d.w.cell? ⟨w.heap.size, 3, none⟩ = some (.int .i64 g) := fun d => d.h.2.2.2.1
  have k4 : ∀ d : Kept (rC w s j m g o), d.w.cell? ⟨w.heap.size, 4, none⟩ = some (.int .i64 o) := fun d => d.h.2.2.2.2.1
  have k5 : ∀ d : Kept (rC w s j m g o), d.w.cell? ⟨w.heap.size + 1, 0, none⟩ = some (.int .i64 1) := fun d => d.h.2.2.2.2.2.1
  have k6 : ∀ d : Kept (rC w s j m g o), d.w.cell? ⟨w.heap.size + 1, 1, none⟩ = some (.int .i64 1000000) := fun d => d.h.2.2.2.2.2.2.1
  repeat (go_big_quiet_step (first | (go_at_call 53; exact (upTo_c _ _).mono fun e w' h => ⟨h.1, ⟨w', rC_on (Kept.h _) h.2⟩, rfl⟩) | (go_at_call 54; exact (has_t _ _ _ _ (by assumption)).mono fun e w' h => ⟨h.1, ⟨w', rC_on (Kept.h _) h.2⟩, rfl⟩) | (go_at_call 54; exact (has_f _ _ _ _ (by assumption)).mono fun e w' h => ⟨h.1, ⟨w', rC_on (Kept.h _) h.2⟩, rfl⟩)))
  refine wpQuiet_nil ?_
  rintro _ ⟨⟨w1, hd⟩, rfl⟩
  go_wp2
  go_ret
  exact ⟨rfl, hd.2.2.2.2.2.2.2⟩

set_option maxHeartbeats 1000000 in
theorem implRulesOk_5 (s j m g o : Int) (w : World) (h0 : inB s 0 500 = true) (h1 : inB j 0 1000 = true) (h2 : inB m 0 10000 = true) (h3 : inB g 1 1000000 = true) (h4 : inB o 0 10000 = true) :
    Calls Tryd.prog 32 #[.agg #[.int .i64 s, .int .i64 j, .int .i64 m, .int .i64 g, .int .i64 o]] w fun e w' => e = .returned (.bool true) ∧ Below w.heap.size w w' := by
  go_enter Tryd.func32, Tryd.ntmps32
  go_wp2
  refine region_kept (rC w s j m g o) (by kernel_rfl) (by kernel_rfl) ?_ ?_
  · refine ⟨?_, ?_, ?_, ?_, ?_, ?_, ?_, ?_⟩ <;> first | (simp; done) | exact Below.drew (nbAlloc (nbAlloc (Below.refl _ _) _) _)
  intro hN
  have k0 : ∀ d : Kept (rC w s j m g o), d.w.cell? ⟨w.heap.size, 0, none⟩ = some (.int .i64 s) := fun d => d.h.1
  have k1 : ∀ d : Kept (rC w s j m g o), d.w.cell? ⟨w.heap.size, 1, none⟩ = some (.int .i64 j) := fun d => d.h.2.1
  have k2 : ∀ d : Kept (rC w s j m g o), d.w.cell? ⟨w.heap.size, 2, none⟩ = some (.int .i64 m) := fun d => d.h.2.2.1
  have k3 : ∀ d : Kept (rC w s j m g o), d.w.cell? ⟨w.heap.size, 3, none⟩ = some (.int .i64 g) := fun d => d.h.2.2.2.1
  have k4 : ∀ d : Kept (rC w s j m g o), d.w.cell? ⟨w.heap.size, 4, none⟩ = some (.int .i64 o) := fun d => d.h.2.2.2.2.1
  have k5 : ∀ d : Kept (rC w s j m g o), d.w.cell? ⟨w.heap.size + 1, 0, none⟩ = some (.int .i64 1) := fun d => d.h.2.2.2.2.2.1
  have k6 : ∀ d : Kept (rC w s j m g o), d.w.cell? ⟨w.heap.size + 1, 1, none⟩ = some (.int .i64 1000000) := fun d => d.h.2.2.2.2.2.2.1
  repeat (go_big_quiet_step (first | (go_at_call 53; exact (upTo_c _ _).mono fun e w' h => ⟨h.1, ⟨w', rC_on (Kept.h _) h.2⟩, rfl⟩) | (go_at_call 54; exact (has_t _ _ _ _ (by assumption)).mono fun e w' h => ⟨h.1, ⟨w', rC_on (Kept.h _) h.2⟩, rfl⟩) | (go_at_call 54; exact (has_f _ _ _ _ (by assumption)).mono fun e w' h => ⟨h.1, ⟨w', rC_on (Kept.h _) h.2⟩, rfl⟩)))
  refine wpQuiet_nil ?_
  rintro _ ⟨⟨w1, hd⟩, rfl⟩
  go_wp2
  go_ret
  exact ⟨rfl, hd.2.2.2.2.2.2.2⟩

set_option maxHeartbeats 1000000 in
theorem specRulesOk_0 (s j m g o : Int) (w : World)  (h0 : inB s 0 500 = false) :
    Calls Tryd.prog 56 #[.agg #[.int .i64 s, .int .i64 j, .int .i64 m, .int .i64 g, .int .i64 o]] w fun e w' => e = .returned (.bool false) ∧ Below w.heap.size w w' := by
  go_enter Tryd.func56, Tryd.ntmps56
  go_wp2_with (go_at_call 57; refine (l1in_c _ _ _ _).mono ?_; rintro e w' ⟨rfl, rfl⟩)
  go_ret
  exact ⟨rfl, nbAlloc (Below.refl _ _) _⟩

set_option maxHeartbeats 1000000 in
theorem specRulesOk_1 (s j m g o : Int) (w : World) (h0 : inB s 0 500 = true) (h1 : inB j 0 1000 = false) :
    Calls Tryd.prog 56 #[.agg #[.int .i64 s, .int .i64 j, .int .i64 m, .int .i64 g, .int .i64 o]] w fun e w' => e = .returned (.bool false) ∧ Below w.heap.size w w' := by
  go_enter Tryd.func56, Tryd.ntmps56
  go_wp2_with (go_at_call 57; refine (l1in_c _ _ _ _).mono ?_; rintro e w' ⟨rfl, rfl⟩)
  go_ret
  exact ⟨rfl, nbAlloc (Below.refl _ _) _⟩

set_option maxHeartbeats 1000000 in
theorem specRulesOk_2 (s j m g o : Int) (w : World) (h0 : inB s 0 500 = true) (h1 : inB j 0 1000 = true) (h2 : inB m 0 10000 = false) :
    Calls Tryd.prog 56 #[.agg #[.int .i64 s, .int .i64 j, .int .i64 m, .int .i64 g, .int .i64 o]] w fun e w' => e = .returned (.bool false) ∧ Below w.heap.size w w' := by
  go_enter Tryd.func56, Tryd.ntmps56
  go_wp2_with (go_at_call 57; refine (l1in_c _ _ _ _).mono ?_; rintro e w' ⟨rfl, rfl⟩)
  go_ret
  exact ⟨rfl, nbAlloc (Below.refl _ _) _⟩

set_option maxHeartbeats 1000000 in
theorem specRulesOk_3 (s j m g o : Int) (w : World) (h0 : inB s 0 500 = true) (h1 : inB j 0 1000 = true) (h2 : inB m 0 10000 = true) (h3 : inB g 1 1000000 = false) :
    Calls Tryd.prog 56 #[.agg #[.int .i64 s, .int .i64 j, .int .i64 m, .int .i64 g, .int .i64 o]] w fun e w' => e = .returned (.bool false) ∧ Below w.heap.size w w' := by
  go_enter Tryd.func56, Tryd.ntmps56
  go_wp2_with (go_at_call 57; refine (l1in_c _ _ _ _).mono ?_; rintro e w' ⟨rfl, rfl⟩)
  go_ret
  exact ⟨rfl, nbAlloc (Below.refl _ _) _⟩

set_option maxHeartbeats 1000000 in
theorem specRulesOk_4 (s j m g o : Int) (w : World) (h0 : inB s 0 500 = true) (h1 : inB j 0 1000 = true) (h2 : inB m 0 10000 = true) (h3 : inB g 1 1000000 = true) (h4 : inB o 0 10000 = false) :
    Calls Tryd.prog 56 #[.agg #[.int .i64 s, .int .i64 j, .int .i64 m, .int .i64 g, .int .i64 o]] w fun e w' => e = .returned (.bool false) ∧ Below w.heap.size w w' := by
  go_enter Tryd.func56, Tryd.ntmps56
  go_wp2_with (go_at_call 57; refine (l1in_c _ _ _ _).mono ?_; rintro e w' ⟨rfl, rfl⟩)
  go_ret
  exact ⟨rfl, nbAlloc (Below.refl _ _) _⟩

set_option maxHeartbeats 1000000 in
theorem specRulesOk_5 (s j m g o : Int) (w : World) (h0 : inB s 0 500 = true) (h1 : inB j 0 1000 = true) (h2 : inB m 0 10000 = true) (h3 : inB g 1 1000000 = true) (h4 : inB o 0 10000 = true) :
    Calls Tryd.prog 56 #[.agg #[.int .i64 s, .int .i64 j, .int .i64 m, .int .i64 g, .int .i64 o]] w fun e w' => e = .returned (.bool true) ∧ Below w.heap.size w w' := by
  go_enter Tryd.func56, Tryd.ntmps56
  go_wp2_with (go_at_call 57; refine (l1in_c _ _ _ _).mono ?_; rintro e w' ⟨rfl, rfl⟩)
  go_ret
  exact ⟨rfl, nbAlloc (Below.refl _ _) _⟩

theorem implRulesOk_c (s j m g o : Int) (w : World) :
    Calls Tryd.prog 32 #[.agg #[.int .i64 s, .int .i64 j, .int .i64 m, .int .i64 g, .int .i64 o]] w fun e w' => e = .returned (.bool (rOk s j m g o)) ∧ Below w.heap.size w w' := by
  by_cases h0 : inB s 0 500 = true
  case neg =>
    have f0 := Bool.eq_false_iff.2 h0
    rw [show rOk s j m g o = false from by simp [rOk, f0]]; exact implRulesOk_0 s j m g o w f0
  by_cases h1 : inB j 0 1000 = true
  case neg =>
    have f1 := Bool.eq_false_iff.2 h1
    rw [show rOk s j m g o = false from by simp [rOk, f1]]; exact implRulesOk_1 s j m g o w h0 f1
  by_cases h2 : inB m 0 10000 = true
  case neg =>
    have f2 := Bool.eq_false_iff.2 h2
    rw [show rOk s j m g o = false from by simp [rOk, f2]]; exact implRulesOk_2 s j m g o w h0 h1 f2
  by_cases h3 : inB g 1 1000000 = true
  case neg =>
    have f3 := Bool.eq_false_iff.2 h3
    rw [show rOk s j m g o = false from by simp [rOk, f3]]; exact implRulesOk_3 s j m g o w h0 h1 h2 f3
  by_cases h4 : inB o 0 10000 = true
  case neg =>
    have f4 := Bool.eq_false_iff.2 h4
    rw [show rOk s j m g o = false from by simp [rOk, f4]]; exact implRulesOk_4 s j m g o w h0 h1 h2 h3 f4
  rw [show rOk s j m g o = true from by simp [rOk, h0, h1, h2, h3, h4]]; exact implRulesOk_5 s j m g o w h0 h1 h2 h3 h4

theorem specRulesOk_c (s j m g o : Int) (w : World) :
    Calls Tryd.prog 56 #[.agg #[.int .i64 s, .int .i64 j, .int .i64 m, .int .i64 g, .int .i64 o]] w fun e w' => e = .returned (.bool (rOk s j m g o)) ∧ Below w.heap.size w w' := by
  by_cases h0 : inB s 0 500 = true
  case neg =>
    have f0 := Bool.eq_false_iff.2 h0
    rw [show rOk s j m g o = false from by simp [rOk, f0]]; exact specRulesOk_0 s j m g o w f0
  by_cases h1 : inB j 0 1000 = true
  case neg =>
    have f1 := Bool.eq_false_iff.2 h1
    rw [show rOk s j m g o = false from by simp [rOk, f1]]; exact specRulesOk_1 s j m g o w h0 f1
  by_cases h2 : inB m 0 10000 = true
  case neg =>
    have f2 := Bool.eq_false_iff.2 h2
    rw [show rOk s j m g o = false from by simp [rOk, f2]]; exact specRulesOk_2 s j m g o w h0 h1 f2
  by_cases h3 : inB g 1 1000000 = true
  case neg =>
    have f3 := Bool.eq_false_iff.2 h3
    rw [show rOk s j m g o = false from by simp [rOk, f3]]; exact specRulesOk_3 s j m g o w h0 h1 h2 f3
  by_cases h4 : inB o 0 10000 = true
  case neg =>
    have f4 := Bool.eq_false_iff.2 h4
    rw [show rOk s j m g o = false from by simp [rOk, f4]]; exact specRulesOk_4 s j m g o w h0 h1 h2 h3 f4
  rw [show rOk s j m g o = true from by simp [rOk, h0, h1, h2, h3, h4]]; exact specRulesOk_5 s j m g o w h0 h1 h2 h3 h4

end Go.Proofs.YtmhppadblddjoaaDoor

/- Plain arithmetic of the wheels: no Go in it. -/
namespace Go.Proofs.YtmhppadblddjoaaDoor

/-- The least way that wheels can have come. -/
def lst (s j c : Int) : Int := (1000 * max (c - j) 0 + (1000 + s) - 1) / (1000 + s)
/-- The most. -/
def mst (s j c : Int) : Int := (1000 * (c + j)) / (1000 - s)

theorem lst_iff {s j c f : Int} (hs : 0 ≤ s) (hf : 0 ≤ f) : lst s j c ≤ f ↔ 1000 * (c - f) ≤ s * f + 1000 * j := by
  unfold lst
  have hp : (0 : Int) < 1000 + s := by omega
  rw [← Int.lt_add_one_iff, Int.ediv_lt_iff_lt_mul hp]
  have e : (f + 1) * (1000 + s) = 1000 * f + s * f + (1000 + s) := by
    rw [Int.add_mul, Int.mul_add, Int.one_mul, Int.mul_comm f 1000, Int.mul_comm f s]
  rw [e]
  have h0 : 0 ≤ s * f := Int.mul_nonneg hs hf
  generalize s * f = p at *
  omega

theorem lst_nonneg {s j c : Int} (hs : 0 ≤ s) : 0 ≤ lst s j c := by
  unfold lst
  exact Int.ediv_nonneg (by omega) (by omega)

theorem lst_le {s j c : Int} (hs : 0 ≤ s) (hj : 0 ≤ j) (hc : 0 ≤ c) : lst s j c ≤ c := by
  rw [lst_iff hs hc]
  have h0 : 0 ≤ s * c := Int.mul_nonneg hs hc
  omega

theorem mst_iff {s j c f : Int} (hs : s ≤ 500) : f ≤ mst s j c ↔ 1000 * (f - c) ≤ s * f + 1000 * j := by
  unfold mst
  have hp : (0 : Int) < 1000 - s := by omega
  rw [Int.le_ediv_iff_mul_le hp]
  have e : f * (1000 - s) = 1000 * f - s * f := by
    rw [Int.mul_sub, Int.mul_comm f 1000, Int.mul_comm f s]
  rw [e]
  generalize s * f = p at *
  omega

theorem mst_ge {s j c : Int} (hs0 : 0 ≤ s) (hs : s ≤ 500) (hj : 0 ≤ j) (hc : 0 ≤ c) : c ≤ mst s j c := by
  rw [mst_iff hs]
  have h0 : 0 ≤ s * c := Int.mul_nonneg hs0 hc
  omega

theorem mst_le {s j c : Int} (_hs0 : 0 ≤ s) (hs : s ≤ 500) (hj : j ≤ 1000) (hc : c ≤ 100000) : mst s j c ≤ 202000 := by
  unfold mst
  have hp : (0 : Int) < 1000 - s := by omega
  rw [← Int.lt_add_one_iff, Int.ediv_lt_iff_lt_mul hp]
  have e : (202000 + 1) * (1000 - s) = 202001000 - 202001 * s := by omega
  rw [e]
  omega

end Go.Proofs.YtmhppadblddjoaaDoor

namespace Go.Proofs.YtmhppadblddjoaaDoor
open Go.RowKit

theorem lst_pos {s j c : Int} (h : 0 ≤ c - j) : (1000 * (c - j) + (1000 + s) - 1) / (1000 + s) = lst s j c := by
  unfold lst; rw [Int.max_eq_left h]
theorem lst_neg {s j c : Int} (h : c - j < 0) : (1000 + s - 1) / (1000 + s) = lst s j c := by
  unfold lst; rw [Int.max_eq_right (by omega)]; congr 1; omega

theorem prodB {s f : Int} (hs0 : 0 ≤ s) (hs : s ≤ 500) (hf0 : 0 ≤ f) (hf : f ≤ 202001) : 0 ≤ s * f ∧ s * f ≤ 101000500 := by
  refine ⟨Int.mul_nonneg hs0 hf0, ?_⟩
  have := Int.mul_le_mul hs hf hf0 (by omega : (0 : Int) ≤ 500)
  omega

set_option maxHeartbeats 400000 in
theorem leastCome_c (s j m g o c : Int) (w : World) (hs0 : 0 ≤ s) (hs : s ≤ 500) (hj0 : 0 ≤ j) (hj : j ≤ 1000) (hc0 : 0 ≤ c) (hc : c ≤ 100000) :
    Calls Tryd.prog 63 #[.agg #[.int .i64 s, .int .i64 j, .int .i64 m, .int .i64 g, .int .i64 o], .int .i64 c] w fun e w' => e = .returned (.int .i64 (lst s j c)) ∧ Below w.heap.size w w' := by
  by_cases h1 : c - j < 0
  · have HL := lst_neg (s := s) h1
    have H2 : Hid (lst s j c = (1000 + s - 1) / (1000 + s)) := HL.symm
    clear HL
    go_enter Tryd.func63, Tryd.ntmps63
    go_wp2
    go_ret
    exact ⟨retI (by rw [H2.out]), nbAlloc (Below.refl _ _) _⟩
  · have h2 : 0 ≤ c - j := by omega
    have HL := lst_pos (s := s) h2
    have H2 : Hid (lst s j c = (1000 * (c - j) + (1000 + s) - 1) / (1000 + s)) := HL.symm
    clear HL
    go_enter Tryd.func63, Tryd.ntmps63
    go_wp2
    go_ret
    exact ⟨retI (by rw [H2.out]), nbAlloc (Below.refl _ _) _⟩

set_option maxHeartbeats 400000 in
theorem mostCome_c (s j m g o c : Int) (w : World) (hs0 : 0 ≤ s) (hs : s ≤ 500) (hj0 : 0 ≤ j) (hj : j ≤ 1000) (hc0 : 0 ≤ c) (hc : c ≤ 100000) :
    Calls Tryd.prog 64 #[.agg #[.int .i64 s, .int .i64 j, .int .i64 m, .int .i64 g, .int .i64 o], .int .i64 c] w fun e w' => e = .returned (.int .i64 (mst s j c)) ∧ Below w.heap.size w w' := by
  go_enter Tryd.func64, Tryd.ntmps64
  go_wp2
  go_ret
  exact ⟨rfl, nbAlloc (Below.refl _ _) _⟩

set_option maxHeartbeats 400000 in
theorem nearest_c (a b x : Int) (w : World) (hab : a ≤ b) :
    Calls Tryd.prog 62 #[.agg #[.int .i64 a, .int .i64 b], .int .i64 x] w fun e w' => e = .returned (.int .i64 (min (max x a) b)) ∧ Below w.heap.size w w' := by
  by_cases h1 : x < a
  · have H2 : Hid (min (max x a) b = a) := by unfold Hid; omega
    by_cases h2 : b < a
    · omega
    · go_enter Tryd.func62, Tryd.ntmps62
      go_wp2
      go_ret
      exact ⟨retI (by rw [H2.out]), nbAlloc (Below.refl _ _) _⟩
  · by_cases h2 : b < x
    · have H2 : Hid (min (max x a) b = b) := by unfold Hid; omega
      go_enter Tryd.func62, Tryd.ntmps62
      go_wp2
      go_ret
      exact ⟨retI (by rw [H2.out]), nbAlloc (Below.refl _ _) _⟩
    · have H2 : Hid (min (max x a) b = x) := by unfold Hid; omega
      go_enter Tryd.func62, Tryd.ntmps62
      go_wp2
      go_ret
      exact ⟨retI (by rw [H2.out]), nbAlloc (Below.refl _ _) _⟩

end Go.Proofs.YtmhppadblddjoaaDoor

/- Chapter 4 of the specification: whether wheels may count so. -/
namespace Go.Proofs.YtmhppadblddjoaaDoor
open Go.RowKit

def numB (x y : Int) : Bool := inB x 0 100000 && inB y 0 100000
def fairB (s j x y : Int) : Bool := decide (lst s j y ≤ x) && decide (x ≤ mst s j y)
def tickB (s j x y : Int) : Bool := numB x y && fairB s j x y
def tickTo (s j : Int) (f a : Nat → Int) (k : Nat) : Bool := (List.range k).all fun i => tickB s j (f i) (a i)
def fairA (s j m g o : Int) (f a : Nat → Int) (len : Nat) : Bool := rOk s j m g o && decide (len ≤ 2000) && tickTo s j f a len
theorem tickTo_no {s j : Int} {f a : Nat → Int} {k n : Nat} (hk : k < n) (h : tickB s j (f k) (a k) = false) : tickTo s j f a n = false := by
  unfold tickTo
  rw [List.all_eq_false]
  exact ⟨k, by simpa using hk, by simp [h]⟩
set_option maxHeartbeats 400000 in
theorem l4true_c (x y : Int) (w : World) :
    Calls Tryd.prog 58 #[.agg #[.int .i64 x, .int .i64 y]] w fun e w' => e = .returned (.bool (numB x y)) ∧ Below w.heap.size w w' := by
  cases h1 : inB x 0 100000
  case false =>
    go_enter Tryd.func58, Tryd.ntmps58
    go_wp2_with fail
    refine (l1in_c _ _ _ _).mono ?_
    rintro e w' ⟨rfl, rfl⟩
    simp only [h1]
    go_wp2_with fail
    go_ret
    exact ⟨retB (by simp [numB, h1]), nbAlloc (Below.refl _ _) _⟩
  go_enter Tryd.func58, Tryd.ntmps58
  go_wp2_with fail
  refine (l1in_c _ _ _ _).mono ?_
  rintro e w' ⟨rfl, rfl⟩
  simp only [h1]
  go_wp2_with fail
  refine (l1in_c _ _ _ _).mono ?_
  rintro e w' ⟨rfl, rfl⟩
  go_wp2_with fail
  go_ret
  exact ⟨retB (by simp [numB, h1]), nbAlloc (Below.refl _ _) _⟩

def f4C (w : World) (s j m g o : Int) : World → Prop := fun w' => w'.cell? ⟨w.heap.size, 0, none⟩ = some (.int .i64 s) ∧ w'.cell? ⟨w.heap.size, 1, none⟩ = some (.int .i64 j) ∧ w'.cell? ⟨w.heap.size, 2, none⟩ = some (.int .i64 m) ∧ w'.cell? ⟨w.heap.size, 3, none⟩ = some (.int .i64 g) ∧ w'.cell? ⟨w.heap.size, 4, none⟩ = some (.int .i64 o) ∧ Below w.heap.size w w'
theorem f4C_on {w : World} {s j m g o : Int} {w1 w2 : World} (hh : f4C w s j m g o w1) (hb : Below w1.heap.size w1 w2) : f4C w s j m g o w2 :=
  ⟨cellOn hb hh.1, cellOn hb hh.2.1, cellOn hb hh.2.2.1, cellOn hb hh.2.2.2.1, cellOn hb hh.2.2.2.2.1, nbTrans hh.2.2.2.2.2 hb⟩

end Go.Proofs.YtmhppadblddjoaaDoor

