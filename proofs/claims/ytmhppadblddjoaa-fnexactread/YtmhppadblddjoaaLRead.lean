import Derived.Test.YtmhppadblddjoaaW7
namespace Go.Proofs.Ytmhppadblddjoaa
open Go.RowKit

def lD (w : World) (s j m g o l h : Int) : World → Prop := fun w' => w'.cell? ⟨w.heap.size, 0, none⟩ = some (.int .i64 s) ∧ w'.cell? ⟨w.heap.size, 1, none⟩ = some (.int .i64 j) ∧ w'.cell? ⟨w.heap.size, 2, none⟩ = some (.int .i64 m) ∧ w'.cell? ⟨w.heap.size, 3, none⟩ = some (.int .i64 g) ∧ w'.cell? ⟨w.heap.size, 4, none⟩ = some (.int .i64 o) ∧ w'.cell? ⟨w.heap.size + 1, 0, none⟩ = some (.int .i64 l) ∧ w'.cell? ⟨w.heap.size + 1, 1, none⟩ = some (.int .i64 h) ∧ Below w.heap.size w w'
theorem lD_on {w : World} {s j m g o l h : Int} {w1 w2 : World} (hh : lD w s j m g o l h w1) (hb : Below w1.heap.size w1 w2) : lD w s j m g o l h w2 :=
  ⟨cellOn hb hh.1, cellOn hb hh.2.1, cellOn hb hh.2.2.1, cellOn hb hh.2.2.2.1, cellOn hb hh.2.2.2.2.1, cellOn hb hh.2.2.2.2.2.1, cellOn hb hh.2.2.2.2.2.2.1, nbTrans hh.2.2.2.2.2.2.2 hb⟩

def lD2 (w : World) (s j m g o l h : Int) (x y : Int) (p : Nat) : World → Prop := fun w' => w'.cell? ⟨w.heap.size, 0, none⟩ = some (.int .i64 s) ∧ w'.cell? ⟨w.heap.size, 1, none⟩ = some (.int .i64 j) ∧ w'.cell? ⟨w.heap.size, 2, none⟩ = some (.int .i64 m) ∧ w'.cell? ⟨w.heap.size, 3, none⟩ = some (.int .i64 g) ∧ w'.cell? ⟨w.heap.size, 4, none⟩ = some (.int .i64 o) ∧ w'.cell? ⟨w.heap.size + 1, 0, none⟩ = some (.int .i64 l) ∧ w'.cell? ⟨w.heap.size + 1, 1, none⟩ = some (.int .i64 h) ∧ w'.cell? ⟨p, 0, none⟩ = some (.int .i64 x) ∧ w'.cell? ⟨p, 1, none⟩ = some (.int .i64 y) ∧ Below w.heap.size w w'
theorem lD2_on {w : World} {s j m g o l h : Int} {x y : Int} {p : Nat} {w1 w2 : World} (hh : lD2 w s j m g o l h x y p w1) (hb : Below w1.heap.size w1 w2) : lD2 w s j m g o l h x y p w2 :=
  ⟨cellOn hb hh.1, cellOn hb hh.2.1, cellOn hb hh.2.2.1, cellOn hb hh.2.2.2.1, cellOn hb hh.2.2.2.2.1, cellOn hb hh.2.2.2.2.2.1, cellOn hb hh.2.2.2.2.2.2.1, cellOn hb hh.2.2.2.2.2.2.2.1, cellOn hb hh.2.2.2.2.2.2.2.2.1, nbTrans hh.2.2.2.2.2.2.2.2.2 hb⟩

set_option maxHeartbeats 2000000 in
theorem lawRead_of (s j m g o l h c : Int) (x y : Int) (w : World) (hs : Hid (∀ w : World, Calls Try.prog 29 #[.agg #[.int .i64 s, .int .i64 j, .int .i64 m, .int .i64 g, .int .i64 o], .agg #[.int .i64 l, .int .i64 h], .int .i64 c] w fun e w' => e = .returned (.agg #[.int .i64 x, .int .i64 y]) ∧ Below w.heap.size w w')) (hi : Hid (∀ w : World, Calls Try.prog 30 #[.agg #[.int .i64 s, .int .i64 j, .int .i64 m, .int .i64 g, .int .i64 o], .agg #[.int .i64 l, .int .i64 h], .int .i64 c] w fun e w' => e = .returned (.agg #[.int .i64 x, .int .i64 y]) ∧ Below w.heap.size w w')) :
    Calls Try.prog 10 #[.agg #[.int .i64 s, .int .i64 j, .int .i64 m, .int .i64 g, .int .i64 o], .agg #[.int .i64 l, .int .i64 h], .int .i64 c] w fun e w' => e = .returned (.bool true) ∧ Below w.heap.size w w' := by
  go_enter Try.func10, Try.ntmps10
  go_wp2_with fail
  refine region_new (lD w s j m g o l h) (fun _ _ => lD_on) 6 7 7 rfl rfl (by kernel_rfl) (by kernel_rfl) (by kernel_rfl) ?_ #[.int .i64 0, .int .i64 0] 27 (fun a w => by go_simp) ?_
  · refine ⟨?_, ?_, ?_, ?_, ?_, ?_, ?_, ?_⟩ <;> first | (go_simp; done) | exact Below.drew (nbAlloc (nbAlloc (Below.refl _ _) _) _)
  apply Exists.intro
  refine ⟨fun W hW hN => ?_, fun w1 p hw1 hp hblk => ?_⟩
  · simp only [List.set_cons_succ, List.set_cons_zero, idle]
    have k0 : ∀ d : Kept (fun w' => lD w s j m g o l h w' ∧ Below W.heap.size W w'), d.w.cell? ⟨w.heap.size, 0, none⟩ = some (.int .i64 s) := fun d => d.h.1.1
    have k1 : ∀ d : Kept (fun w' => lD w s j m g o l h w' ∧ Below W.heap.size W w'), d.w.cell? ⟨w.heap.size, 1, none⟩ = some (.int .i64 j) := fun d => d.h.1.2.1
    have k2 : ∀ d : Kept (fun w' => lD w s j m g o l h w' ∧ Below W.heap.size W w'), d.w.cell? ⟨w.heap.size, 2, none⟩ = some (.int .i64 m) := fun d => d.h.1.2.2.1
    have k3 : ∀ d : Kept (fun w' => lD w s j m g o l h w' ∧ Below W.heap.size W w'), d.w.cell? ⟨w.heap.size, 3, none⟩ = some (.int .i64 g) := fun d => d.h.1.2.2.2.1
    have k4 : ∀ d : Kept (fun w' => lD w s j m g o l h w' ∧ Below W.heap.size W w'), d.w.cell? ⟨w.heap.size, 4, none⟩ = some (.int .i64 o) := fun d => d.h.1.2.2.2.2.1
    have k5 : ∀ d : Kept (fun w' => lD w s j m g o l h w' ∧ Below W.heap.size W w'), d.w.cell? ⟨w.heap.size + 1, 0, none⟩ = some (.int .i64 l) := fun d => d.h.1.2.2.2.2.2.1
    have k6 : ∀ d : Kept (fun w' => lD w s j m g o l h w' ∧ Below W.heap.size W w'), d.w.cell? ⟨w.heap.size + 1, 1, none⟩ = some (.int .i64 h) := fun d => d.h.1.2.2.2.2.2.2.1
    repeat (go_big_quiet_step (first | (go_at_call 26; exact call_new _ lD_on (toRules_c _ _ _ _ _ _)) | (go_at_call 23; exact call_new _ lD_on (toBound_c _ _ _)) | (go_at_call 29; exact call_new _ lD_on (hs.out _))))
    exact wpQuiet_nil rfl
  have q0 : w1.cell? ⟨p, 0, none⟩ = some (.int .i64 0) := by simp [World.cell?, hblk]
  have z0 : w1.frozen? ⟨p, 0, none⟩ = false := by simp [World.frozen?, hblk]
  have q1 : w1.cell? ⟨p, 1, none⟩ = some (.int .i64 0) := by simp [World.cell?, hblk]
  have z1 : w1.frozen? ⟨p, 1, none⟩ = false := by simp [World.frozen?, hblk]
  have hn : w.heap.size + 1 + 1 ≤ p := by simp at hp; omega
  clear hblk hp
  go_simp
  go_wp2_with fail
  refine region_new (lD2 w s j m g o l h x y p) (fun _ _ => lD2_on) 6 7 8 rfl rfl (by kernel_rfl) (by kernel_rfl) (by kernel_rfl) ?_ #[.int .i64 0, .int .i64 0] 27 (fun a w => by go_simp) ?_
  · have e0 := cellSet2 (v0 := .int .i64 x) (v1 := .int .i64 y) q0 q1
    refine ⟨?_, ?_, ?_, ?_, ?_, ?_, ?_, ?_, ?_, ?_⟩
    · exact cellFar2 (by omega) hw1.1
    · exact cellFar2 (by omega) hw1.2.1
    · exact cellFar2 (by omega) hw1.2.2.1
    · exact cellFar2 (by omega) hw1.2.2.2.1
    · exact cellFar2 (by omega) hw1.2.2.2.2.1
    · exact cellFar2 (by omega) hw1.2.2.2.2.2.1
    · exact cellFar2 (by omega) hw1.2.2.2.2.2.2.1
    · exact e0.1
    · exact e0.2
    · exact Below.drew (nbSet2 hw1.2.2.2.2.2.2.2 (by omega))
  apply Exists.intro
  refine ⟨fun W hW hN => ?_, fun w2 p2 hw2 hp2 hblk2 => ?_⟩
  · simp only [List.set_cons_succ, List.set_cons_zero, idle]
    have k0 : ∀ d : Kept (fun w' => lD2 w s j m g o l h x y p w' ∧ Below W.heap.size W w'), d.w.cell? ⟨w.heap.size, 0, none⟩ = some (.int .i64 s) := fun d => d.h.1.1
    have k1 : ∀ d : Kept (fun w' => lD2 w s j m g o l h x y p w' ∧ Below W.heap.size W w'), d.w.cell? ⟨w.heap.size, 1, none⟩ = some (.int .i64 j) := fun d => d.h.1.2.1
    have k2 : ∀ d : Kept (fun w' => lD2 w s j m g o l h x y p w' ∧ Below W.heap.size W w'), d.w.cell? ⟨w.heap.size, 2, none⟩ = some (.int .i64 m) := fun d => d.h.1.2.2.1
    have k3 : ∀ d : Kept (fun w' => lD2 w s j m g o l h x y p w' ∧ Below W.heap.size W w'), d.w.cell? ⟨w.heap.size, 3, none⟩ = some (.int .i64 g) := fun d => d.h.1.2.2.2.1
    have k4 : ∀ d : Kept (fun w' => lD2 w s j m g o l h x y p w' ∧ Below W.heap.size W w'), d.w.cell? ⟨w.heap.size, 4, none⟩ = some (.int .i64 o) := fun d => d.h.1.2.2.2.2.1
    have k5 : ∀ d : Kept (fun w' => lD2 w s j m g o l h x y p w' ∧ Below W.heap.size W w'), d.w.cell? ⟨w.heap.size + 1, 0, none⟩ = some (.int .i64 l) := fun d => d.h.1.2.2.2.2.2.1
    have k6 : ∀ d : Kept (fun w' => lD2 w s j m g o l h x y p w' ∧ Below W.heap.size W w'), d.w.cell? ⟨w.heap.size + 1, 1, none⟩ = some (.int .i64 h) := fun d => d.h.1.2.2.2.2.2.2.1
    have k7 : ∀ d : Kept (fun w' => lD2 w s j m g o l h x y p w' ∧ Below W.heap.size W w'), d.w.cell? ⟨p, 0, none⟩ = some (.int .i64 x) := fun d => d.h.1.2.2.2.2.2.2.2.1
    have k8 : ∀ d : Kept (fun w' => lD2 w s j m g o l h x y p w' ∧ Below W.heap.size W w'), d.w.cell? ⟨p, 1, none⟩ = some (.int .i64 y) := fun d => d.h.1.2.2.2.2.2.2.2.2.1
    repeat (go_big_quiet_step (first | (go_at_call 26; exact call_new _ lD2_on (toRules_c _ _ _ _ _ _)) | (go_at_call 23; exact call_new _ lD2_on (toBound_c _ _ _)) | (go_at_call 30; exact call_new _ lD2_on (hi.out _))))
    exact wpQuiet_nil rfl
  have r0 : w2.cell? ⟨p2, 0, none⟩ = some (.int .i64 0) := by simp [World.cell?, hblk2]
  have y0 : w2.frozen? ⟨p2, 0, none⟩ = false := by simp [World.frozen?, hblk2]
  have r1 : w2.cell? ⟨p2, 1, none⟩ = some (.int .i64 0) := by simp [World.cell?, hblk2]
  have y1 : w2.frozen? ⟨p2, 1, none⟩ = false := by simp [World.frozen?, hblk2]
  have hlt := ltCell q0
  have hn2 : p < p2 := by simp at hp2; omega
  clear hblk2 hp2
  have t0 := cellSet2 (v0 := .int .i64 x) (v1 := .int .i64 y) r0 r1
  have u0 : ((w2.setCell ⟨p2, 0, none⟩ (.int .i64 x)).setCell ⟨p2, 1, none⟩ (.int .i64 y)).cell? ⟨p, 0, none⟩ = some (.int .i64 x) := cellFar2 (by omega) hw2.2.2.2.2.2.2.2.1
  have u1 : ((w2.setCell ⟨p2, 0, none⟩ (.int .i64 x)).setCell ⟨p2, 1, none⟩ (.int .i64 y)).cell? ⟨p, 1, none⟩ = some (.int .i64 y) := cellFar2 (by omega) hw2.2.2.2.2.2.2.2.2.1
  have hB2 : Below w.heap.size w ((w2.setCell ⟨p2, 0, none⟩ (.int .i64 x)).setCell ⟨p2, 1, none⟩ (.int .i64 y)) := nbSet2 hw2.2.2.2.2.2.2.2.2.2 (by omega)
  have t0' := t0.1
  have t1' := t0.2
  clear t0
  go_simp
  generalize (w2.setCell ⟨p2, 0, none⟩ (.int .i64 x)).setCell ⟨p2, 1, none⟩ (.int .i64 y) = w3 at *
  go_wp2_with fail
  refine (eqBound_c _ _ _).mono ?_
  rintro e w4 ⟨rfl, hb4⟩
  go_wp2_with fail
  go_ret
  exact ⟨rfl, nbTrans hB2 hb4⟩

theorem lawRead_c (s j m g o l h c : Int) (w : World) :
    Calls Try.prog 10 #[.agg #[.int .i64 s, .int .i64 j, .int .i64 m, .int .i64 g, .int .i64 o], .agg #[.int .i64 l, .int .i64 h], .int .i64 c] w fun e w' => e = .returned (.bool true) ∧ Below w.heap.size w w' := by
  by_cases hbad : (rOk s j m g o && bOk l h && inB c 0 100000000) = true
  · have hk := hbad
    simp only [Bool.and_eq_true] at hk
    obtain ⟨⟨h1, h2⟩, h3⟩ := hk
    cases hmt : mB l h (min (c - m) 100000000) (min (c + m) 100000000)
    · exact lawRead_of s j m g o l h c _ _ w (fun w => specRead_no s j m g o l h c _ _ w h1 h2 h3 rfl rfl hmt) (fun w => implRead_no s j m g o l h c _ _ w h1 h2 h3 rfl rfl hmt)
    · exact lawRead_of s j m g o l h c _ _ w (fun w => specRead_yes s j m g o l h c _ _ w h1 h2 h3 rfl rfl hmt) (fun w => implRead_yes s j m g o l h c _ _ w h1 h2 h3 rfl rfl hmt)
  · have hf := Bool.eq_false_iff.2 hbad
    exact lawRead_of s j m g o l h c 0 0 w (fun w => specRead_bad s j m g o l h c w hf) (fun w => implRead_bad s j m g o l h c w hf)

end Go.Proofs.Ytmhppadblddjoaa
