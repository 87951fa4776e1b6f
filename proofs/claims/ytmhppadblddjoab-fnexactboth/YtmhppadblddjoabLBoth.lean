import Derived.Test.YtmhppadblddjoabWBoth
namespace Go.Proofs.Ytmhppadblddjoab
open Go.RowKit

def lB (w : World) (al ah bl bh : Int) : World → Prop := fun w' => w'.cell? ⟨w.heap.size, 0, none⟩ = some (.int .i64 al) ∧ w'.cell? ⟨w.heap.size, 1, none⟩ = some (.int .i64 ah) ∧ w'.cell? ⟨w.heap.size + 1, 0, none⟩ = some (.int .i64 bl) ∧ w'.cell? ⟨w.heap.size + 1, 1, none⟩ = some (.int .i64 bh) ∧ Below w.heap.size w w'
theorem lB_on {w : World} {al ah bl bh : Int} {w1 w2 : World} (hh : lB w al ah bl bh w1) (hb : Below w1.heap.size w1 w2) : lB w al ah bl bh w2 :=
  ⟨cellOn hb hh.1, cellOn hb hh.2.1, cellOn hb hh.2.2.1, cellOn hb hh.2.2.2.1, nbTrans hh.2.2.2.2 hb⟩

def lB2 (w : World) (al ah bl bh : Int) (x y : Int) (p : Nat) : World → Prop := fun w' => w'.cell? ⟨w.heap.size, 0, none⟩ = some (.int .i64 al) ∧ w'.cell? ⟨w.heap.size, 1, none⟩ = some (.int .i64 ah) ∧ w'.cell? ⟨w.heap.size + 1, 0, none⟩ = some (.int .i64 bl) ∧ w'.cell? ⟨w.heap.size + 1, 1, none⟩ = some (.int .i64 bh) ∧ w'.cell? ⟨p, 0, none⟩ = some (.int .i64 x) ∧ w'.cell? ⟨p, 1, none⟩ = some (.int .i64 y) ∧ Below w.heap.size w w'
theorem lB2_on {w : World} {al ah bl bh : Int} {x y : Int} {p : Nat} {w1 w2 : World} (hh : lB2 w al ah bl bh x y p w1) (hb : Below w1.heap.size w1 w2) : lB2 w al ah bl bh x y p w2 :=
  ⟨cellOn hb hh.1, cellOn hb hh.2.1, cellOn hb hh.2.2.1, cellOn hb hh.2.2.2.1, cellOn hb hh.2.2.2.2.1, cellOn hb hh.2.2.2.2.2.1, nbTrans hh.2.2.2.2.2.2 hb⟩

set_option maxHeartbeats 2000000 in
theorem lawBoth_of (al ah bl bh : Int) (x y : Int) (w : World) (hs : Hid (∀ w : World, Calls Try.prog 15 #[.agg #[.int .i64 al, .int .i64 ah], .agg #[.int .i64 bl, .int .i64 bh]] w fun e w' => e = .returned (.agg #[.int .i64 x, .int .i64 y]) ∧ Below w.heap.size w w')) (hi : Hid (∀ w : World, Calls Try.prog 17 #[.agg #[.int .i64 al, .int .i64 ah], .agg #[.int .i64 bl, .int .i64 bh]] w fun e w' => e = .returned (.agg #[.int .i64 x, .int .i64 y]) ∧ Below w.heap.size w w')) :
    Calls Try.prog 3 #[.agg #[.int .i64 al, .int .i64 ah], .agg #[.int .i64 bl, .int .i64 bh]] w fun e w' => e = .returned (.bool true) ∧ Below w.heap.size w w' := by
  go_enter Try.func3, Try.ntmps3
  go_wp2_with fail
  refine region_new (lB w al ah bl bh) (fun _ _ => lB_on) 5 6 5 rfl rfl (by kernel_rfl) (by kernel_rfl) (by kernel_rfl) ?_ #[.int .i64 0, .int .i64 0] 24 (fun a w => by go_simp) ?_
  · refine ⟨?_, ?_, ?_, ?_, ?_⟩ <;> first | (go_simp; done) | exact Below.drew (nbAlloc (nbAlloc (Below.refl _ _) _) _)
  apply Exists.intro
  refine ⟨fun W hW hN => ?_, fun w1 p hw1 hp hblk => ?_⟩
  · simp only [List.set_cons_succ, List.set_cons_zero, idle]
    have k0 : ∀ d : Kept (fun w' => lB w al ah bl bh w' ∧ Below W.heap.size W w'), d.w.cell? ⟨w.heap.size, 0, none⟩ = some (.int .i64 al) := fun d => d.h.1.1
    have k1 : ∀ d : Kept (fun w' => lB w al ah bl bh w' ∧ Below W.heap.size W w'), d.w.cell? ⟨w.heap.size, 1, none⟩ = some (.int .i64 ah) := fun d => d.h.1.2.1
    have k2 : ∀ d : Kept (fun w' => lB w al ah bl bh w' ∧ Below W.heap.size W w'), d.w.cell? ⟨w.heap.size + 1, 0, none⟩ = some (.int .i64 bl) := fun d => d.h.1.2.2.1
    have k3 : ∀ d : Kept (fun w' => lB w al ah bl bh w' ∧ Below W.heap.size W w'), d.w.cell? ⟨w.heap.size + 1, 1, none⟩ = some (.int .i64 bh) := fun d => d.h.1.2.2.2.1
    repeat (go_big_quiet_step (first | (go_at_call 16; exact call_new _ lB_on (toBound_c _ _ _)) | (go_at_call 15; exact call_new _ lB_on (hs.out _))))
    exact wpQuiet_nil rfl
  have q0 : w1.cell? ⟨p, 0, none⟩ = some (.int .i64 0) := by simp [World.cell?, hblk]
  have z0 : w1.frozen? ⟨p, 0, none⟩ = false := by simp [World.frozen?, hblk]
  have q1 : w1.cell? ⟨p, 1, none⟩ = some (.int .i64 0) := by simp [World.cell?, hblk]
  have z1 : w1.frozen? ⟨p, 1, none⟩ = false := by simp [World.frozen?, hblk]
  have hn : w.heap.size + 1 + 1 ≤ p := by simp at hp; omega
  clear hblk hp
  go_simp
  go_wp2_with fail
  refine region_new (lB2 w al ah bl bh x y p) (fun _ _ => lB2_on) 5 6 6 rfl rfl (by kernel_rfl) (by kernel_rfl) (by kernel_rfl) ?_ #[.int .i64 0, .int .i64 0] 24 (fun a w => by go_simp) ?_
  · have e0 := cellSet2 (v0 := .int .i64 x) (v1 := .int .i64 y) q0 q1
    refine ⟨?_, ?_, ?_, ?_, ?_, ?_, ?_⟩
    · exact cellFar2 (by omega) hw1.1
    · exact cellFar2 (by omega) hw1.2.1
    · exact cellFar2 (by omega) hw1.2.2.1
    · exact cellFar2 (by omega) hw1.2.2.2.1
    · exact e0.1
    · exact e0.2
    · exact Below.drew (nbSet2 hw1.2.2.2.2 (by omega))
  apply Exists.intro
  refine ⟨fun W hW hN => ?_, fun w2 p2 hw2 hp2 hblk2 => ?_⟩
  · simp only [List.set_cons_succ, List.set_cons_zero, idle]
    have k0 : ∀ d : Kept (fun w' => lB2 w al ah bl bh x y p w' ∧ Below W.heap.size W w'), d.w.cell? ⟨w.heap.size, 0, none⟩ = some (.int .i64 al) := fun d => d.h.1.1
    have k1 : ∀ d : Kept (fun w' => lB2 w al ah bl bh x y p w' ∧ Below W.heap.size W w'), d.w.cell? ⟨w.heap.size, 1, none⟩ = some (.int .i64 ah) := fun d => d.h.1.2.1
    have k2 : ∀ d : Kept (fun w' => lB2 w al ah bl bh x y p w' ∧ Below W.heap.size W w'), d.w.cell? ⟨w.heap.size + 1, 0, none⟩ = some (.int .i64 bl) := fun d => d.h.1.2.2.1
    have k3 : ∀ d : Kept (fun w' => lB2 w al ah bl bh x y p w' ∧ Below W.heap.size W w'), d.w.cell? ⟨w.heap.size + 1, 1, none⟩ = some (.int .i64 bh) := fun d => d.h.1.2.2.2.1
    have k4 : ∀ d : Kept (fun w' => lB2 w al ah bl bh x y p w' ∧ Below W.heap.size W w'), d.w.cell? ⟨p, 0, none⟩ = some (.int .i64 x) := fun d => d.h.1.2.2.2.2.1
    have k5 : ∀ d : Kept (fun w' => lB2 w al ah bl bh x y p w' ∧ Below W.heap.size W w'), d.w.cell? ⟨p, 1, none⟩ = some (.int .i64 y) := fun d => d.h.1.2.2.2.2.2.1
    repeat (go_big_quiet_step (first | (go_at_call 16; exact call_new _ lB2_on (toBound_c _ _ _)) | (go_at_call 17; exact call_new _ lB2_on (hi.out _))))
    exact wpQuiet_nil rfl
  have r0 : w2.cell? ⟨p2, 0, none⟩ = some (.int .i64 0) := by simp [World.cell?, hblk2]
  have y0 : w2.frozen? ⟨p2, 0, none⟩ = false := by simp [World.frozen?, hblk2]
  have r1 : w2.cell? ⟨p2, 1, none⟩ = some (.int .i64 0) := by simp [World.cell?, hblk2]
  have y1 : w2.frozen? ⟨p2, 1, none⟩ = false := by simp [World.frozen?, hblk2]
  have hlt := ltCell q0
  have hn2 : p < p2 := by simp at hp2; omega
  clear hblk2 hp2
  have t0 := cellSet2 (v0 := .int .i64 x) (v1 := .int .i64 y) r0 r1
  have u0 : ((w2.setCell ⟨p2, 0, none⟩ (.int .i64 x)).setCell ⟨p2, 1, none⟩ (.int .i64 y)).cell? ⟨p, 0, none⟩ = some (.int .i64 x) := cellFar2 (by omega) hw2.2.2.2.2.1
  have u1 : ((w2.setCell ⟨p2, 0, none⟩ (.int .i64 x)).setCell ⟨p2, 1, none⟩ (.int .i64 y)).cell? ⟨p, 1, none⟩ = some (.int .i64 y) := cellFar2 (by omega) hw2.2.2.2.2.2.1
  have hB2 : Below w.heap.size w ((w2.setCell ⟨p2, 0, none⟩ (.int .i64 x)).setCell ⟨p2, 1, none⟩ (.int .i64 y)) := nbSet2 hw2.2.2.2.2.2.2 (by omega)
  have t0' := t0.1
  have t1' := t0.2
  clear t0
  go_simp
  generalize (w2.setCell ⟨p2, 0, none⟩ (.int .i64 x)).setCell ⟨p2, 1, none⟩ (.int .i64 y) = w3 at *
  go_wp2_with fail
  refine (eqBound_c _ _ _).mono ?_
  rintro e w4 ⟨rfl, hb4⟩
  go_wp2_with fail
  go_ret
  exact ⟨rfl, nbTrans hB2 hb4⟩

theorem lawBoth_c (al ah bl bh : Int) (w : World) :
    Calls Try.prog 3 #[.agg #[.int .i64 al, .int .i64 ah], .agg #[.int .i64 bl, .int .i64 bh]] w fun e w' => e = .returned (.bool true) ∧ Below w.heap.size w w' :=
  lawBoth_of al ah bl bh _ _ w (fun w => specBoth_c al ah bl bh w) (fun w => implBoth_c al ah bl bh w)

end Go.Proofs.Ytmhppadblddjoab
