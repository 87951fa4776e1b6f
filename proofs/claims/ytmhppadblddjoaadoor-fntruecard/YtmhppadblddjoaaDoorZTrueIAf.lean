import Derived.Test.YtmhppadblddjoaaDoorZTrueISt
/- The program's belief behind wheels; what was odd counted. -/
namespace Go.Proofs.YtmhppadblddjoaaDoor
open Go.RowKit Go.Maps

theorem nearestT (x : Int) (w : World) (hx : 0 ≤ x) :
    Calls Tryd.prog 62 #[.agg #[.int .i64 0, .int .i64 1000000000], .int .i64 x] w fun e w' => e = .returned (.int .i64 (min x 1000000000)) ∧ Below w.heap.size w w' :=
  (nearest_c 0 1000000000 x w (by omega)).mono fun e w' hh => ⟨by rw [hh.1]; exact retI (by omega), hh.2⟩

def odC (w : World) (l h : Int) (kn : Bool) (si la od : Int) : World → Prop := fun w' => w'.cell? ⟨w.heap.size, 0, none⟩ = some (.int .i64 l) ∧ w'.cell? ⟨w.heap.size, 1, none⟩ = some (.int .i64 h) ∧ w'.cell? ⟨w.heap.size, 2, none⟩ = some (.bool kn) ∧ w'.cell? ⟨w.heap.size, 3, none⟩ = some (.int .i64 si) ∧ w'.cell? ⟨w.heap.size, 4, none⟩ = some (.int .i64 la) ∧ w'.cell? ⟨w.heap.size, 5, none⟩ = some (.int .i64 od) ∧ w'.cell? ⟨w.heap.size + 1, 0, none⟩ = some (.int .i64 0) ∧ w'.cell? ⟨w.heap.size + 1, 1, none⟩ = some (.int .i64 0) ∧ w'.cell? ⟨w.heap.size + 1, 2, none⟩ = some (.bool false) ∧ w'.cell? ⟨w.heap.size + 1, 3, none⟩ = some (.int .i64 0) ∧ w'.cell? ⟨w.heap.size + 1, 4, none⟩ = some (.int .i64 0) ∧ w'.cell? ⟨w.heap.size + 1, 5, none⟩ = some (.int .i64 0) ∧ w'.frozen? ⟨w.heap.size, 0, none⟩ = false ∧ w'.frozen? ⟨w.heap.size, 1, none⟩ = false ∧ w'.frozen? ⟨w.heap.size, 2, none⟩ = false ∧ w'.frozen? ⟨w.heap.size, 3, none⟩ = false ∧ w'.frozen? ⟨w.heap.size, 4, none⟩ = false ∧ w'.frozen? ⟨w.heap.size, 5, none⟩ = false ∧ w'.frozen? ⟨w.heap.size + 1, 0, none⟩ = false ∧ w'.frozen? ⟨w.heap.size + 1, 1, none⟩ = false ∧ w'.frozen? ⟨w.heap.size + 1, 2, none⟩ = false ∧ w'.frozen? ⟨w.heap.size + 1, 3, none⟩ = false ∧ w'.frozen? ⟨w.heap.size + 1, 4, none⟩ = false ∧ w'.frozen? ⟨w.heap.size + 1, 5, none⟩ = false ∧ Below w.heap.size w w'
theorem odC_on {w : World} {l h : Int} {kn : Bool} {si la od : Int} {w1 w2 : World} (hh : odC w l h kn si la od w1) (hb : Below w1.heap.size w1 w2) : odC w l h kn si la od w2 :=
  ⟨cellOn hb hh.1, cellOn hb hh.2.1, cellOn hb hh.2.2.1, cellOn hb hh.2.2.2.1, cellOn hb hh.2.2.2.2.1, cellOn hb hh.2.2.2.2.2.1, cellOn hb hh.2.2.2.2.2.2.1, cellOn hb hh.2.2.2.2.2.2.2.1, cellOn hb hh.2.2.2.2.2.2.2.2.1, cellOn hb hh.2.2.2.2.2.2.2.2.2.1, cellOn hb hh.2.2.2.2.2.2.2.2.2.2.1, cellOn hb hh.2.2.2.2.2.2.2.2.2.2.2.1, frozenOn hb hh.1 hh.2.2.2.2.2.2.2.2.2.2.2.2.1, frozenOn hb hh.2.1 hh.2.2.2.2.2.2.2.2.2.2.2.2.2.1, frozenOn hb hh.2.2.1 hh.2.2.2.2.2.2.2.2.2.2.2.2.2.2.1, frozenOn hb hh.2.2.2.1 hh.2.2.2.2.2.2.2.2.2.2.2.2.2.2.2.1, frozenOn hb hh.2.2.2.2.1 hh.2.2.2.2.2.2.2.2.2.2.2.2.2.2.2.2.1, frozenOn hb hh.2.2.2.2.2.1 hh.2.2.2.2.2.2.2.2.2.2.2.2.2.2.2.2.2.1, frozenOn hb hh.2.2.2.2.2.2.1 hh.2.2.2.2.2.2.2.2.2.2.2.2.2.2.2.2.2.2.1, frozenOn hb hh.2.2.2.2.2.2.2.1 hh.2.2.2.2.2.2.2.2.2.2.2.2.2.2.2.2.2.2.2.1, frozenOn hb hh.2.2.2.2.2.2.2.2.1 hh.2.2.2.2.2.2.2.2.2.2.2.2.2.2.2.2.2.2.2.2.1, frozenOn hb hh.2.2.2.2.2.2.2.2.2.1 hh.2.2.2.2.2.2.2.2.2.2.2.2.2.2.2.2.2.2.2.2.2.1, frozenOn hb hh.2.2.2.2.2.2.2.2.2.2.1 hh.2.2.2.2.2.2.2.2.2.2.2.2.2.2.2.2.2.2.2.2.2.2.1, frozenOn hb hh.2.2.2.2.2.2.2.2.2.2.2.1 hh.2.2.2.2.2.2.2.2.2.2.2.2.2.2.2.2.2.2.2.2.2.2.2.1, nbTrans hh.2.2.2.2.2.2.2.2.2.2.2.2.2.2.2.2.2.2.2.2.2.2.2.2 hb⟩

theorem odC_od {w : World} {l h : Int} {kn : Bool} {si la od : Int} {w1 : World} (hh : odC w l h kn si la od w1) (X : Int) : odC w l h kn si la X (w1.setCell ⟨w.heap.size, 5, none⟩ (.int .i64 X)) :=
  ⟨(World.cell?_setCell_other _ _ _ _ (by simp)).trans hh.1,
   (World.cell?_setCell_other _ _ _ _ (by simp)).trans hh.2.1,
   (World.cell?_setCell_other _ _ _ _ (by simp)).trans hh.2.2.1,
   (World.cell?_setCell_other _ _ _ _ (by simp)).trans hh.2.2.2.1,
   (World.cell?_setCell_other _ _ _ _ (by simp)).trans hh.2.2.2.2.1,
   World.cell?_setCell_same _ _ _ hh.2.2.2.2.2.1,
   cellFar (by omega) hh.2.2.2.2.2.2.1,
   cellFar (by omega) hh.2.2.2.2.2.2.2.1,
   cellFar (by omega) hh.2.2.2.2.2.2.2.2.1,
   cellFar (by omega) hh.2.2.2.2.2.2.2.2.2.1,
   cellFar (by omega) hh.2.2.2.2.2.2.2.2.2.2.1,
   cellFar (by omega) hh.2.2.2.2.2.2.2.2.2.2.2.1,
   (World.frozen?_setCell _ _ _ _).trans hh.2.2.2.2.2.2.2.2.2.2.2.2.1,
   (World.frozen?_setCell _ _ _ _).trans hh.2.2.2.2.2.2.2.2.2.2.2.2.2.1,
   (World.frozen?_setCell _ _ _ _).trans hh.2.2.2.2.2.2.2.2.2.2.2.2.2.2.1,
   (World.frozen?_setCell _ _ _ _).trans hh.2.2.2.2.2.2.2.2.2.2.2.2.2.2.2.1,
   (World.frozen?_setCell _ _ _ _).trans hh.2.2.2.2.2.2.2.2.2.2.2.2.2.2.2.2.1,
   (World.frozen?_setCell _ _ _ _).trans hh.2.2.2.2.2.2.2.2.2.2.2.2.2.2.2.2.2.1,
   (World.frozen?_setCell _ _ _ _).trans hh.2.2.2.2.2.2.2.2.2.2.2.2.2.2.2.2.2.2.1,
   (World.frozen?_setCell _ _ _ _).trans hh.2.2.2.2.2.2.2.2.2.2.2.2.2.2.2.2.2.2.2.1,
   (World.frozen?_setCell _ _ _ _).trans hh.2.2.2.2.2.2.2.2.2.2.2.2.2.2.2.2.2.2.2.2.1,
   (World.frozen?_setCell _ _ _ _).trans hh.2.2.2.2.2.2.2.2.2.2.2.2.2.2.2.2.2.2.2.2.2.1,
   (World.frozen?_setCell _ _ _ _).trans hh.2.2.2.2.2.2.2.2.2.2.2.2.2.2.2.2.2.2.2.2.2.2.1,
   (World.frozen?_setCell _ _ _ _).trans hh.2.2.2.2.2.2.2.2.2.2.2.2.2.2.2.2.2.2.2.2.2.2.2.1,
   nbSetX hh.2.2.2.2.2.2.2.2.2.2.2.2.2.2.2.2.2.2.2.2.2.2.2.2 (by omega)⟩

set_option maxHeartbeats 1000000 in
theorem odder_c (l h : Int) (kn : Bool) (si la od : Int) (w : World) (h0 : 0 ≤ od) (h1 : od ≤ 1000000000) :
    Calls Tryd.prog 96 #[.agg #[.int .i64 l, .int .i64 h, .bool kn, .int .i64 si, .int .i64 la, .int .i64 od]] w fun e w' => e = .returned (.agg #[.int .i64 l, .int .i64 h, .bool kn, .int .i64 si, .int .i64 la, .int .i64 (min (od + 1) 1000000000)]) ∧ Below w.heap.size w w' := by
  have wr : IntKind.i64.wrap (od + 1) = od + 1 := by rw [IntKind.wrap_i64]; omega
  go_enter Tryd.func96, Tryd.ntmps96
  go_wp2_with fail
  refine region_last (odC w l h kn si la od) 6 rfl (by kernel_rfl) (by kernel_rfl) (by kernel_rfl) ?_ ?_
  · refine ⟨?_, ?_, ?_, ?_, ?_, ?_, ?_, ?_, ?_, ?_, ?_, ?_, ?_, ?_, ?_, ?_, ?_, ?_, ?_, ?_, ?_, ?_, ?_, ?_, Below.drew (nbAlloc (nbAlloc (Below.refl _ _) _) _)⟩ <;> go_simp
  apply Exists.intro
  refine ⟨fun hN => ?_, fun w9 h9 => ?_⟩
  · simp only [List.set_cons_succ, List.set_cons_zero, idle]
    have k0 : ∀ d : Kept (odC w l h kn si la od), d.w.cell? ⟨w.heap.size, 0, none⟩ = some (.int .i64 l) := fun d => d.h.1
    have k1 : ∀ d : Kept (odC w l h kn si la od), d.w.cell? ⟨w.heap.size, 1, none⟩ = some (.int .i64 h) := fun d => d.h.2.1
    have k2 : ∀ d : Kept (odC w l h kn si la od), d.w.cell? ⟨w.heap.size, 2, none⟩ = some (.bool kn) := fun d => d.h.2.2.1
    have k3 : ∀ d : Kept (odC w l h kn si la od), d.w.cell? ⟨w.heap.size, 3, none⟩ = some (.int .i64 si) := fun d => d.h.2.2.2.1
    have k4 : ∀ d : Kept (odC w l h kn si la od), d.w.cell? ⟨w.heap.size, 4, none⟩ = some (.int .i64 la) := fun d => d.h.2.2.2.2.1
    have k5 : ∀ d : Kept (odC w l h kn si la od), d.w.cell? ⟨w.heap.size, 5, none⟩ = some (.int .i64 od) := fun d => d.h.2.2.2.2.2.1
    have k6 : ∀ d : Kept (odC w l h kn si la od), d.w.cell? ⟨w.heap.size + 1, 0, none⟩ = some (.int .i64 0) := fun d => d.h.2.2.2.2.2.2.1
    have k7 : ∀ d : Kept (odC w l h kn si la od), d.w.cell? ⟨w.heap.size + 1, 1, none⟩ = some (.int .i64 0) := fun d => d.h.2.2.2.2.2.2.2.1
    have k8 : ∀ d : Kept (odC w l h kn si la od), d.w.cell? ⟨w.heap.size + 1, 2, none⟩ = some (.bool false) := fun d => d.h.2.2.2.2.2.2.2.2.1
    have k9 : ∀ d : Kept (odC w l h kn si la od), d.w.cell? ⟨w.heap.size + 1, 3, none⟩ = some (.int .i64 0) := fun d => d.h.2.2.2.2.2.2.2.2.2.1
    have k10 : ∀ d : Kept (odC w l h kn si la od), d.w.cell? ⟨w.heap.size + 1, 4, none⟩ = some (.int .i64 0) := fun d => d.h.2.2.2.2.2.2.2.2.2.2.1
    have k11 : ∀ d : Kept (odC w l h kn si la od), d.w.cell? ⟨w.heap.size + 1, 5, none⟩ = some (.int .i64 0) := fun d => d.h.2.2.2.2.2.2.2.2.2.2.2.1
    repeat (go_big_quiet_step (first | (go_at_call 53; exact call_kept _ odC_on (upTo_c _ _)) | (go_at_call 62; exact call_kept _ odC_on (nearestT _ _ (by omega)))))
    exact wpQuiet_nil rfl
  have c0 : w9.cell? ⟨w.heap.size, 0, none⟩ = some (.int .i64 l) := h9.1
  have c1 : w9.cell? ⟨w.heap.size, 1, none⟩ = some (.int .i64 h) := h9.2.1
  have c2 : w9.cell? ⟨w.heap.size, 2, none⟩ = some (.bool kn) := h9.2.2.1
  have c3 : w9.cell? ⟨w.heap.size, 3, none⟩ = some (.int .i64 si) := h9.2.2.2.1
  have c4 : w9.cell? ⟨w.heap.size, 4, none⟩ = some (.int .i64 la) := h9.2.2.2.2.1
  have c5 : w9.cell? ⟨w.heap.size, 5, none⟩ = some (.int .i64 od) := h9.2.2.2.2.2.1
  have c6 : w9.cell? ⟨w.heap.size + 1, 0, none⟩ = some (.int .i64 0) := h9.2.2.2.2.2.2.1
  have c7 : w9.cell? ⟨w.heap.size + 1, 1, none⟩ = some (.int .i64 0) := h9.2.2.2.2.2.2.2.1
  have c8 : w9.cell? ⟨w.heap.size + 1, 2, none⟩ = some (.bool false) := h9.2.2.2.2.2.2.2.2.1
  have c9 : w9.cell? ⟨w.heap.size + 1, 3, none⟩ = some (.int .i64 0) := h9.2.2.2.2.2.2.2.2.2.1
  have c10 : w9.cell? ⟨w.heap.size + 1, 4, none⟩ = some (.int .i64 0) := h9.2.2.2.2.2.2.2.2.2.2.1
  have c11 : w9.cell? ⟨w.heap.size + 1, 5, none⟩ = some (.int .i64 0) := h9.2.2.2.2.2.2.2.2.2.2.2.1
  have c12 : w9.frozen? ⟨w.heap.size, 0, none⟩ = false := h9.2.2.2.2.2.2.2.2.2.2.2.2.1
  have c13 : w9.frozen? ⟨w.heap.size, 1, none⟩ = false := h9.2.2.2.2.2.2.2.2.2.2.2.2.2.1
  have c14 : w9.frozen? ⟨w.heap.size, 2, none⟩ = false := h9.2.2.2.2.2.2.2.2.2.2.2.2.2.2.1
  have c15 : w9.frozen? ⟨w.heap.size, 3, none⟩ = false := h9.2.2.2.2.2.2.2.2.2.2.2.2.2.2.2.1
  have c16 : w9.frozen? ⟨w.heap.size, 4, none⟩ = false := h9.2.2.2.2.2.2.2.2.2.2.2.2.2.2.2.2.1
  have c17 : w9.frozen? ⟨w.heap.size, 5, none⟩ = false := h9.2.2.2.2.2.2.2.2.2.2.2.2.2.2.2.2.2.1
  have c18 : w9.frozen? ⟨w.heap.size + 1, 0, none⟩ = false := h9.2.2.2.2.2.2.2.2.2.2.2.2.2.2.2.2.2.2.1
  have c19 : w9.frozen? ⟨w.heap.size + 1, 1, none⟩ = false := h9.2.2.2.2.2.2.2.2.2.2.2.2.2.2.2.2.2.2.2.1
  have c20 : w9.frozen? ⟨w.heap.size + 1, 2, none⟩ = false := h9.2.2.2.2.2.2.2.2.2.2.2.2.2.2.2.2.2.2.2.2.1
  have c21 : w9.frozen? ⟨w.heap.size + 1, 3, none⟩ = false := h9.2.2.2.2.2.2.2.2.2.2.2.2.2.2.2.2.2.2.2.2.2.1
  have c22 : w9.frozen? ⟨w.heap.size + 1, 4, none⟩ = false := h9.2.2.2.2.2.2.2.2.2.2.2.2.2.2.2.2.2.2.2.2.2.2.1
  have c23 : w9.frozen? ⟨w.heap.size + 1, 5, none⟩ = false := h9.2.2.2.2.2.2.2.2.2.2.2.2.2.2.2.2.2.2.2.2.2.2.2.1
  have c24 : Below w.heap.size w w9 := h9.2.2.2.2.2.2.2.2.2.2.2.2.2.2.2.2.2.2.2.2.2.2.2.2
  go_simp
  have hC := odC_od h9 (min (od + 1) 1000000000)
  clear c0 c1 c2 c3 c4 c5 c6 c7 c8 c9 c10 c11 c12 c13 c14 c15 c16 c17 c18 c19 c20 c21 c22 c23 c24 h9
  generalize w9.setCell ⟨w.heap.size, 5, none⟩ (.int .i64 (min (od + 1) 1000000000)) = w2 at *
  have c0 : w2.cell? ⟨w.heap.size, 0, none⟩ = some (.int .i64 l) := hC.1
  have c1 : w2.cell? ⟨w.heap.size, 1, none⟩ = some (.int .i64 h) := hC.2.1
  have c2 : w2.cell? ⟨w.heap.size, 2, none⟩ = some (.bool kn) := hC.2.2.1
  have c3 : w2.cell? ⟨w.heap.size, 3, none⟩ = some (.int .i64 si) := hC.2.2.2.1
  have c4 : w2.cell? ⟨w.heap.size, 4, none⟩ = some (.int .i64 la) := hC.2.2.2.2.1
  have c5 : w2.cell? ⟨w.heap.size, 5, none⟩ = some (.int .i64 (min (od + 1) 1000000000)) := hC.2.2.2.2.2.1
  have c6 : w2.cell? ⟨w.heap.size + 1, 0, none⟩ = some (.int .i64 0) := hC.2.2.2.2.2.2.1
  have c7 : w2.cell? ⟨w.heap.size + 1, 1, none⟩ = some (.int .i64 0) := hC.2.2.2.2.2.2.2.1
  have c8 : w2.cell? ⟨w.heap.size + 1, 2, none⟩ = some (.bool false) := hC.2.2.2.2.2.2.2.2.1
  have c9 : w2.cell? ⟨w.heap.size + 1, 3, none⟩ = some (.int .i64 0) := hC.2.2.2.2.2.2.2.2.2.1
  have c10 : w2.cell? ⟨w.heap.size + 1, 4, none⟩ = some (.int .i64 0) := hC.2.2.2.2.2.2.2.2.2.2.1
  have c11 : w2.cell? ⟨w.heap.size + 1, 5, none⟩ = some (.int .i64 0) := hC.2.2.2.2.2.2.2.2.2.2.2.1
  have c12 : w2.frozen? ⟨w.heap.size, 0, none⟩ = false := hC.2.2.2.2.2.2.2.2.2.2.2.2.1
  have c13 : w2.frozen? ⟨w.heap.size, 1, none⟩ = false := hC.2.2.2.2.2.2.2.2.2.2.2.2.2.1
  have c14 : w2.frozen? ⟨w.heap.size, 2, none⟩ = false := hC.2.2.2.2.2.2.2.2.2.2.2.2.2.2.1
  have c15 : w2.frozen? ⟨w.heap.size, 3, none⟩ = false := hC.2.2.2.2.2.2.2.2.2.2.2.2.2.2.2.1
  have c16 : w2.frozen? ⟨w.heap.size, 4, none⟩ = false := hC.2.2.2.2.2.2.2.2.2.2.2.2.2.2.2.2.1
  have c17 : w2.frozen? ⟨w.heap.size, 5, none⟩ = false := hC.2.2.2.2.2.2.2.2.2.2.2.2.2.2.2.2.2.1
  have c18 : w2.frozen? ⟨w.heap.size + 1, 0, none⟩ = false := hC.2.2.2.2.2.2.2.2.2.2.2.2.2.2.2.2.2.2.1
  have c19 : w2.frozen? ⟨w.heap.size + 1, 1, none⟩ = false := hC.2.2.2.2.2.2.2.2.2.2.2.2.2.2.2.2.2.2.2.1
  have c20 : w2.frozen? ⟨w.heap.size + 1, 2, none⟩ = false := hC.2.2.2.2.2.2.2.2.2.2.2.2.2.2.2.2.2.2.2.2.1
  have c21 : w2.frozen? ⟨w.heap.size + 1, 3, none⟩ = false := hC.2.2.2.2.2.2.2.2.2.2.2.2.2.2.2.2.2.2.2.2.2.1
  have c22 : w2.frozen? ⟨w.heap.size + 1, 4, none⟩ = false := hC.2.2.2.2.2.2.2.2.2.2.2.2.2.2.2.2.2.2.2.2.2.2.1
  have c23 : w2.frozen? ⟨w.heap.size + 1, 5, none⟩ = false := hC.2.2.2.2.2.2.2.2.2.2.2.2.2.2.2.2.2.2.2.2.2.2.2.1
  have c24 : Below w.heap.size w w2 := hC.2.2.2.2.2.2.2.2.2.2.2.2.2.2.2.2.2.2.2.2.2.2.2.2
  have hq1 : w.heap.size ≤ w.heap.size + 1 := by omega
  go_wp2_with fail
  exact bodyPost_ret (v := .agg #[.int .i64 l, .int .i64 h, .bool kn, .int .i64 si, .int .i64 la, .int .i64 (min (od + 1) 1000000000)]) (by simp [results, Tryd.results96, go_sem, *]) rfl ⟨rfl, (nbSetX (nbSetX (nbSetX (nbSetX (nbSetX (nbSetX c24 hq1) hq1) hq1) hq1) hq1) hq1)⟩

def afC (w : World) (s j m g o : Int) (q : Nat) (l h : Int) (kn : Bool) (si la od : Int) : World → Prop := fun w' => w'.cell? ⟨w.heap.size, 0, none⟩ = some (.int .i64 s) ∧ w'.cell? ⟨w.heap.size, 1, none⟩ = some (.int .i64 j) ∧ w'.cell? ⟨w.heap.size, 2, none⟩ = some (.int .i64 m) ∧ w'.cell? ⟨w.heap.size, 3, none⟩ = some (.int .i64 g) ∧ w'.cell? ⟨w.heap.size, 4, none⟩ = some (.int .i64 o) ∧ w'.cell? ⟨w.heap.size, 5, none⟩ = some (.map (some q)) ∧ w'.cell? ⟨w.heap.size + 1, 0, none⟩ = some (.int .i64 l) ∧ w'.cell? ⟨w.heap.size + 1, 1, none⟩ = some (.int .i64 h) ∧ w'.cell? ⟨w.heap.size + 1, 2, none⟩ = some (.bool kn) ∧ w'.cell? ⟨w.heap.size + 1, 3, none⟩ = some (.int .i64 si) ∧ w'.cell? ⟨w.heap.size + 1, 4, none⟩ = some (.int .i64 la) ∧ w'.cell? ⟨w.heap.size + 1, 5, none⟩ = some (.int .i64 od) ∧ w'.cell? ⟨w.heap.size + 1 + 1, 0, none⟩ = some (.int .i64 0) ∧ w'.cell? ⟨w.heap.size + 1 + 1, 1, none⟩ = some (.int .i64 0) ∧ w'.cell? ⟨w.heap.size + 1 + 1, 2, none⟩ = some (.bool false) ∧ w'.cell? ⟨w.heap.size + 1 + 1, 3, none⟩ = some (.int .i64 0) ∧ w'.cell? ⟨w.heap.size + 1 + 1, 4, none⟩ = some (.int .i64 0) ∧ w'.cell? ⟨w.heap.size + 1 + 1, 5, none⟩ = some (.int .i64 0) ∧ w'.frozen? ⟨w.heap.size + 1, 0, none⟩ = false ∧ w'.frozen? ⟨w.heap.size + 1, 1, none⟩ = false ∧ w'.frozen? ⟨w.heap.size + 1, 2, none⟩ = false ∧ w'.frozen? ⟨w.heap.size + 1, 3, none⟩ = false ∧ w'.frozen? ⟨w.heap.size + 1, 4, none⟩ = false ∧ w'.frozen? ⟨w.heap.size + 1, 5, none⟩ = false ∧ w'.frozen? ⟨w.heap.size + 1 + 1, 0, none⟩ = false ∧ w'.frozen? ⟨w.heap.size + 1 + 1, 1, none⟩ = false ∧ w'.frozen? ⟨w.heap.size + 1 + 1, 2, none⟩ = false ∧ w'.frozen? ⟨w.heap.size + 1 + 1, 3, none⟩ = false ∧ w'.frozen? ⟨w.heap.size + 1 + 1, 4, none⟩ = false ∧ w'.frozen? ⟨w.heap.size + 1 + 1, 5, none⟩ = false ∧ Below w.heap.size w w'
theorem afC_on {w : World} {s j m g o : Int} {q : Nat} {l h : Int} {kn : Bool} {si la od : Int} {w1 w2 : World} (hh : afC w s j m g o q l h kn si la od w1) (hb : Below w1.heap.size w1 w2) : afC w s j m g o q l h kn si la od w2 :=
  ⟨cellOn hb hh.1, cellOn hb hh.2.1, cellOn hb hh.2.2.1, cellOn hb hh.2.2.2.1, cellOn hb hh.2.2.2.2.1, cellOn hb hh.2.2.2.2.2.1, cellOn hb hh.2.2.2.2.2.2.1, cellOn hb hh.2.2.2.2.2.2.2.1, cellOn hb hh.2.2.2.2.2.2.2.2.1, cellOn hb hh.2.2.2.2.2.2.2.2.2.1, cellOn hb hh.2.2.2.2.2.2.2.2.2.2.1, cellOn hb hh.2.2.2.2.2.2.2.2.2.2.2.1, cellOn hb hh.2.2.2.2.2.2.2.2.2.2.2.2.1, cellOn hb hh.2.2.2.2.2.2.2.2.2.2.2.2.2.1, cellOn hb hh.2.2.2.2.2.2.2.2.2.2.2.2.2.2.1, cellOn hb hh.2.2.2.2.2.2.2.2.2.2.2.2.2.2.2.1, cellOn hb hh.2.2.2.2.2.2.2.2.2.2.2.2.2.2.2.2.1, cellOn hb hh.2.2.2.2.2.2.2.2.2.2.2.2.2.2.2.2.2.1, frozenOn hb hh.2.2.2.2.2.2.1 hh.2.2.2.2.2.2.2.2.2.2.2.2.2.2.2.2.2.2.1, frozenOn hb hh.2.2.2.2.2.2.2.1 hh.2.2.2.2.2.2.2.2.2.2.2.2.2.2.2.2.2.2.2.1, frozenOn hb hh.2.2.2.2.2.2.2.2.1 hh.2.2.2.2.2.2.2.2.2.2.2.2.2.2.2.2.2.2.2.2.1, frozenOn hb hh.2.2.2.2.2.2.2.2.2.1 hh.2.2.2.2.2.2.2.2.2.2.2.2.2.2.2.2.2.2.2.2.2.1, frozenOn hb hh.2.2.2.2.2.2.2.2.2.2.1 hh.2.2.2.2.2.2.2.2.2.2.2.2.2.2.2.2.2.2.2.2.2.2.1, frozenOn hb hh.2.2.2.2.2.2.2.2.2.2.2.1 hh.2.2.2.2.2.2.2.2.2.2.2.2.2.2.2.2.2.2.2.2.2.2.2.1, frozenOn hb hh.2.2.2.2.2.2.2.2.2.2.2.2.1 hh.2.2.2.2.2.2.2.2.2.2.2.2.2.2.2.2.2.2.2.2.2.2.2.2.1, frozenOn hb hh.2.2.2.2.2.2.2.2.2.2.2.2.2.1 hh.2.2.2.2.2.2.2.2.2.2.2.2.2.2.2.2.2.2.2.2.2.2.2.2.2.1, frozenOn hb hh.2.2.2.2.2.2.2.2.2.2.2.2.2.2.1 hh.2.2.2.2.2.2.2.2.2.2.2.2.2.2.2.2.2.2.2.2.2.2.2.2.2.2.1, frozenOn hb hh.2.2.2.2.2.2.2.2.2.2.2.2.2.2.2.1 hh.2.2.2.2.2.2.2.2.2.2.2.2.2.2.2.2.2.2.2.2.2.2.2.2.2.2.2.1, frozenOn hb hh.2.2.2.2.2.2.2.2.2.2.2.2.2.2.2.2.1 hh.2.2.2.2.2.2.2.2.2.2.2.2.2.2.2.2.2.2.2.2.2.2.2.2.2.2.2.2.1, frozenOn hb hh.2.2.2.2.2.2.2.2.2.2.2.2.2.2.2.2.2.1 hh.2.2.2.2.2.2.2.2.2.2.2.2.2.2.2.2.2.2.2.2.2.2.2.2.2.2.2.2.2.1, nbTrans hh.2.2.2.2.2.2.2.2.2.2.2.2.2.2.2.2.2.2.2.2.2.2.2.2.2.2.2.2.2.2 hb⟩

theorem afC_si {w : World} {s j m g o : Int} {q : Nat} {l h : Int} {kn : Bool} {si la od : Int} {w1 : World} (hh : afC w s j m g o q l h kn si la od w1) (X : Int) : afC w s j m g o q l h kn X la od (w1.setCell ⟨w.heap.size + 1, 3, none⟩ (.int .i64 X)) :=
  ⟨cellFar (by omega) hh.1,
   cellFar (by omega) hh.2.1,
   cellFar (by omega) hh.2.2.1,
   cellFar (by omega) hh.2.2.2.1,
   cellFar (by omega) hh.2.2.2.2.1,
   cellFar (by omega) hh.2.2.2.2.2.1,
   (World.cell?_setCell_other _ _ _ _ (by simp)).trans hh.2.2.2.2.2.2.1,
   (World.cell?_setCell_other _ _ _ _ (by simp)).trans hh.2.2.2.2.2.2.2.1,
   (World.cell?_setCell_other _ _ _ _ (by simp)).trans hh.2.2.2.2.2.2.2.2.1,
   World.cell?_setCell_same _ _ _ hh.2.2.2.2.2.2.2.2.2.1,
   (World.cell?_setCell_other _ _ _ _ (by simp)).trans hh.2.2.2.2.2.2.2.2.2.2.1,
   (World.cell?_setCell_other _ _ _ _ (by simp)).trans hh.2.2.2.2.2.2.2.2.2.2.2.1,
   cellFar (by omega) hh.2.2.2.2.2.2.2.2.2.2.2.2.1,
   cellFar (by omega) hh.2.2.2.2.2.2.2.2.2.2.2.2.2.1,
   cellFar (by omega) hh.2.2.2.2.2.2.2.2.2.2.2.2.2.2.1,
   cellFar (by omega) hh.2.2.2.2.2.2.2.2.2.2.2.2.2.2.2.1,
   cellFar (by omega) hh.2.2.2.2.2.2.2.2.2.2.2.2.2.2.2.2.1,
   cellFar (by omega) hh.2.2.2.2.2.2.2.2.2.2.2.2.2.2.2.2.2.1,
   (World.frozen?_setCell _ _ _ _).trans hh.2.2.2.2.2.2.2.2.2.2.2.2.2.2.2.2.2.2.1,
   (World.frozen?_setCell _ _ _ _).trans hh.2.2.2.2.2.2.2.2.2.2.2.2.2.2.2.2.2.2.2.1,
   (World.frozen?_setCell _ _ _ _).trans hh.2.2.2.2.2.2.2.2.2.2.2.2.2.2.2.2.2.2.2.2.1,
   (World.frozen?_setCell _ _ _ _).trans hh.2.2.2.2.2.2.2.2.2.2.2.2.2.2.2.2.2.2.2.2.2.1,
   (World.frozen?_setCell _ _ _ _).trans hh.2.2.2.2.2.2.2.2.2.2.2.2.2.2.2.2.2.2.2.2.2.2.1,
   (World.frozen?_setCell _ _ _ _).trans hh.2.2.2.2.2.2.2.2.2.2.2.2.2.2.2.2.2.2.2.2.2.2.2.1,
   (World.frozen?_setCell _ _ _ _).trans hh.2.2.2.2.2.2.2.2.2.2.2.2.2.2.2.2.2.2.2.2.2.2.2.2.1,
   (World.frozen?_setCell _ _ _ _).trans hh.2.2.2.2.2.2.2.2.2.2.2.2.2.2.2.2.2.2.2.2.2.2.2.2.2.1,
   (World.frozen?_setCell _ _ _ _).trans hh.2.2.2.2.2.2.2.2.2.2.2.2.2.2.2.2.2.2.2.2.2.2.2.2.2.2.1,
   (World.frozen?_setCell _ _ _ _).trans hh.2.2.2.2.2.2.2.2.2.2.2.2.2.2.2.2.2.2.2.2.2.2.2.2.2.2.2.1,
   (World.frozen?_setCell _ _ _ _).trans hh.2.2.2.2.2.2.2.2.2.2.2.2.2.2.2.2.2.2.2.2.2.2.2.2.2.2.2.2.1,
   (World.frozen?_setCell _ _ _ _).trans hh.2.2.2.2.2.2.2.2.2.2.2.2.2.2.2.2.2.2.2.2.2.2.2.2.2.2.2.2.2.1,
   nbSetX hh.2.2.2.2.2.2.2.2.2.2.2.2.2.2.2.2.2.2.2.2.2.2.2.2.2.2.2.2.2.2 (by omega)⟩

set_option maxHeartbeats 1000000 in
theorem afterWheels_false (s j m g o : Int) (q : Nat) (l h si la od n : Int) (w : World) (h0 : 0 ≤ si) (h1 : si ≤ 1000000000) (hn : inB n 0 100000 = true) :
    Calls Tryd.prog 80 #[.agg #[.int .i64 s, .int .i64 j, .int .i64 m, .int .i64 g, .int .i64 o, .map (some q)], .agg #[.int .i64 l, .int .i64 h, .bool false, .int .i64 si, .int .i64 la, .int .i64 od], .int .i64 n] w fun e w' => e = .returned (.agg #[.int .i64 l, .int .i64 h, .bool false, .int .i64 (min (si + n) 1000000000), .int .i64 la, .int .i64 od]) ∧ Below w.heap.size w w' := by
  have hn' := hn
  simp only [inB, Bool.and_eq_true, decide_eq_true_eq] at hn'
  obtain ⟨hn0, hn1⟩ := hn'
  have wr : IntKind.i64.wrap (si + n) = si + n := by rw [IntKind.wrap_i64]; omega
  go_enter Tryd.func80, Tryd.ntmps80
  go_wp2_with fail
  refine region_last (afC w s j m g o q l h false si la od) 7 rfl (by kernel_rfl) (by kernel_rfl) (by kernel_rfl) ?_ ?_
  · refine ⟨?_, ?_, ?_, ?_, ?_, ?_, ?_, ?_, ?_, ?_, ?_, ?_, ?_, ?_, ?_, ?_, ?_, ?_, ?_, ?_, ?_, ?_, ?_, ?_, ?_, ?_, ?_, ?_, ?_, ?_, Below.drew (nbAlloc (nbAlloc (nbAlloc (Below.refl _ _) _) _) _)⟩ <;> go_simp
  apply Exists.intro
  refine ⟨fun hN => ?_, fun w9 h9 => ?_⟩
  · simp only [List.set_cons_succ, List.set_cons_zero, idle]
    have k0 : ∀ d : Kept (afC w s j m g o q l h false si la od), d.w.cell? ⟨w.heap.size, 0, none⟩ = some (.int .i64 s) := fun d => d.h.1
    have k1 : ∀ d : Kept (afC w s j m g o q l h false si la od), d.w.cell? ⟨w.heap.size, 1, none⟩ = some (.int .i64 j) := fun d => d.h.2.1
    have k2 : ∀ d : Kept (afC w s j m g o q l h false si la od), d.w.cell? ⟨w.heap.size, 2, none⟩ = some (.int .i64 m) := fun d => d.h.2.2.1
    have k3 : ∀ d : Kept (afC w s j m g o q l h false si la od), d.w.cell? ⟨w.heap.size, 3, none⟩ = some (.int .i64 g) := fun d => d.h.2.2.2.1
    have k4 : ∀ d : Kept (afC w s j m g o q l h false si la od), d.w.cell? ⟨w.heap.size, 4, none⟩ = some (.int .i64 o) := fun d => d.h.2.2.2.2.1
    have k5 : ∀ d : Kept (afC w s j m g o q l h false si la od), d.w.cell? ⟨w.heap.size, 5, none⟩ = some (.map (some q)) := fun d => d.h.2.2.2.2.2.1
    have k6 : ∀ d : Kept (afC w s j m g o q l h false si la od), d.w.cell? ⟨w.heap.size + 1, 0, none⟩ = some (.int .i64 l) := fun d => d.h.2.2.2.2.2.2.1
    have k7 : ∀ d : Kept (afC w s j m g o q l h false si la od), d.w.cell? ⟨w.heap.size + 1, 1, none⟩ = some (.int .i64 h) := fun d => d.h.2.2.2.2.2.2.2.1
    have k8 : ∀ d : Kept (afC w s j m g o q l h false si la od), d.w.cell? ⟨w.heap.size + 1, 2, none⟩ = some (.bool false) := fun d => d.h.2.2.2.2.2.2.2.2.1
    have k9 : ∀ d : Kept (afC w s j m g o q l h false si la od), d.w.cell? ⟨w.heap.size + 1, 3, none⟩ = some (.int .i64 si) := fun d => d.h.2.2.2.2.2.2.2.2.2.1
    have k10 : ∀ d : Kept (afC w s j m g o q l h false si la od), d.w.cell? ⟨w.heap.size + 1, 4, none⟩ = some (.int .i64 la) := fun d => d.h.2.2.2.2.2.2.2.2.2.2.1
    have k11 : ∀ d : Kept (afC w s j m g o q l h false si la od), d.w.cell? ⟨w.heap.size + 1, 5, none⟩ = some (.int .i64 od) := fun d => d.h.2.2.2.2.2.2.2.2.2.2.2.1
    have k12 : ∀ d : Kept (afC w s j m g o q l h false si la od), d.w.cell? ⟨w.heap.size + 1 + 1, 0, none⟩ = some (.int .i64 0) := fun d => d.h.2.2.2.2.2.2.2.2.2.2.2.2.1
    have k13 : ∀ d : Kept (afC w s j m g o q l h false si la od), d.w.cell? ⟨w.heap.size + 1 + 1, 1, none⟩ = some (.int .i64 0) := fun d => d.h.2.2.2.2.2.2.2.2.2.2.2.2.2.1
    have k14 : ∀ d : Kept (afC w s j m g o q l h false si la od), d.w.cell? ⟨w.heap.size + 1 + 1, 2, none⟩ = some (.bool false) := fun d => d.h.2.2.2.2.2.2.2.2.2.2.2.2.2.2.1
    have k15 : ∀ d : Kept (afC w s j m g o q l h false si la od), d.w.cell? ⟨w.heap.size + 1 + 1, 3, none⟩ = some (.int .i64 0) := fun d => d.h.2.2.2.2.2.2.2.2.2.2.2.2.2.2.2.1
    have k16 : ∀ d : Kept (afC w s j m g o q l h false si la od), d.w.cell? ⟨w.heap.size + 1 + 1, 4, none⟩ = some (.int .i64 0) := fun d => d.h.2.2.2.2.2.2.2.2.2.2.2.2.2.2.2.2.1
    have k17 : ∀ d : Kept (afC w s j m g o q l h false si la od), d.w.cell? ⟨w.heap.size + 1 + 1, 5, none⟩ = some (.int .i64 0) := fun d => d.h.2.2.2.2.2.2.2.2.2.2.2.2.2.2.2.2.2.1
    repeat (go_big_quiet_step (first | (go_at_call 53; exact call_kept _ afC_on (upTo_c _ _)) | (go_at_call 62; exact call_kept _ afC_on (nearestT _ _ (by omega)))))
    exact wpQuiet_nil rfl
  have c0 : w9.cell? ⟨w.heap.size, 0, none⟩ = some (.int .i64 s) := h9.1
  have c1 : w9.cell? ⟨w.heap.size, 1, none⟩ = some (.int .i64 j) := h9.2.1
  have c2 : w9.cell? ⟨w.heap.size, 2, none⟩ = some (.int .i64 m) := h9.2.2.1
  have c3 : w9.cell? ⟨w.heap.size, 3, none⟩ = some (.int .i64 g) := h9.2.2.2.1
  have c4 : w9.cell? ⟨w.heap.size, 4, none⟩ = some (.int .i64 o) := h9.2.2.2.2.1
  have c5 : w9.cell? ⟨w.heap.size, 5, none⟩ = some (.map (some q)) := h9.2.2.2.2.2.1
  have c6 : w9.cell? ⟨w.heap.size + 1, 0, none⟩ = some (.int .i64 l) := h9.2.2.2.2.2.2.1
  have c7 : w9.cell? ⟨w.heap.size + 1, 1, none⟩ = some (.int .i64 h) := h9.2.2.2.2.2.2.2.1
  have c8 : w9.cell? ⟨w.heap.size + 1, 2, none⟩ = some (.bool false) := h9.2.2.2.2.2.2.2.2.1
  have c9 : w9.cell? ⟨w.heap.size + 1, 3, none⟩ = some (.int .i64 si) := h9.2.2.2.2.2.2.2.2.2.1
  have c10 : w9.cell? ⟨w.heap.size + 1, 4, none⟩ = some (.int .i64 la) := h9.2.2.2.2.2.2.2.2.2.2.1
  have c11 : w9.cell? ⟨w.heap.size + 1, 5, none⟩ = some (.int .i64 od) := h9.2.2.2.2.2.2.2.2.2.2.2.1
  have c12 : w9.cell? ⟨w.heap.size + 1 + 1, 0, none⟩ = some (.int .i64 0) := h9.2.2.2.2.2.2.2.2.2.2.2.2.1
  have c13 : w9.cell? ⟨w.heap.size + 1 + 1, 1, none⟩ = some (.int .i64 0) := h9.2.2.2.2.2.2.2.2.2.2.2.2.2.1
  have c14 : w9.cell? ⟨w.heap.size + 1 + 1, 2, none⟩ = some (.bool false) := h9.2.2.2.2.2.2.2.2.2.2.2.2.2.2.1
  have c15 : w9.cell? ⟨w.heap.size + 1 + 1, 3, none⟩ = some (.int .i64 0) := h9.2.2.2.2.2.2.2.2.2.2.2.2.2.2.2.1
  have c16 : w9.cell? ⟨w.heap.size + 1 + 1, 4, none⟩ = some (.int .i64 0) := h9.2.2.2.2.2.2.2.2.2.2.2.2.2.2.2.2.1
  have c17 : w9.cell? ⟨w.heap.size + 1 + 1, 5, none⟩ = some (.int .i64 0) := h9.2.2.2.2.2.2.2.2.2.2.2.2.2.2.2.2.2.1
  have c18 : w9.frozen? ⟨w.heap.size + 1, 0, none⟩ = false := h9.2.2.2.2.2.2.2.2.2.2.2.2.2.2.2.2.2.2.1
  have c19 : w9.frozen? ⟨w.heap.size + 1, 1, none⟩ = false := h9.2.2.2.2.2.2.2.2.2.2.2.2.2.2.2.2.2.2.2.1
  have c20 : w9.frozen? ⟨w.heap.size + 1, 2, none⟩ = false := h9.2.2.2.2.2.2.2.2.2.2.2.2.2.2.2.2.2.2.2.2.1
  have c21 : w9.frozen? ⟨w.heap.size + 1, 3, none⟩ = false := h9.2.2.2.2.2.2.2.2.2.2.2.2.2.2.2.2.2.2.2.2.2.1
  have c22 : w9.frozen? ⟨w.heap.size + 1, 4, none⟩ = false := h9.2.2.2.2.2.2.2.2.2.2.2.2.2.2.2.2.2.2.2.2.2.2.1
  have c23 : w9.frozen? ⟨w.heap.size + 1, 5, none⟩ = false := h9.2.2.2.2.2.2.2.2.2.2.2.2.2.2.2.2.2.2.2.2.2.2.2.1
  have c24 : w9.frozen? ⟨w.heap.size + 1 + 1, 0, none⟩ = false := h9.2.2.2.2.2.2.2.2.2.2.2.2.2.2.2.2.2.2.2.2.2.2.2.2.1
  have c25 : w9.frozen? ⟨w.heap.size + 1 + 1, 1, none⟩ = false := h9.2.2.2.2.2.2.2.2.2.2.2.2.2.2.2.2.2.2.2.2.2.2.2.2.2.1
  have c26 : w9.frozen? ⟨w.heap.size + 1 + 1, 2, none⟩ = false := h9.2.2.2.2.2.2.2.2.2.2.2.2.2.2.2.2.2.2.2.2.2.2.2.2.2.2.1
  have c27 : w9.frozen? ⟨w.heap.size + 1 + 1, 3, none⟩ = false := h9.2.2.2.2.2.2.2.2.2.2.2.2.2.2.2.2.2.2.2.2.2.2.2.2.2.2.2.1
  have c28 : w9.frozen? ⟨w.heap.size + 1 + 1, 4, none⟩ = false := h9.2.2.2.2.2.2.2.2.2.2.2.2.2.2.2.2.2.2.2.2.2.2.2.2.2.2.2.2.1
  have c29 : w9.frozen? ⟨w.heap.size + 1 + 1, 5, none⟩ = false := h9.2.2.2.2.2.2.2.2.2.2.2.2.2.2.2.2.2.2.2.2.2.2.2.2.2.2.2.2.2.1
  have c30 : Below w.heap.size w w9 := h9.2.2.2.2.2.2.2.2.2.2.2.2.2.2.2.2.2.2.2.2.2.2.2.2.2.2.2.2.2.2
  go_simp
  have hC := afC_si h9 (min (si + n) 1000000000)
  clear c0 c1 c2 c3 c4 c5 c6 c7 c8 c9 c10 c11 c12 c13 c14 c15 c16 c17 c18 c19 c20 c21 c22 c23 c24 c25 c26 c27 c28 c29 c30 h9
  generalize w9.setCell ⟨w.heap.size + 1, 3, none⟩ (.int .i64 (min (si + n) 1000000000)) = w2 at *
  have c0 : w2.cell? ⟨w.heap.size, 0, none⟩ = some (.int .i64 s) := hC.1
  have c1 : w2.cell? ⟨w.heap.size, 1, none⟩ = some (.int .i64 j) := hC.2.1
  have c2 : w2.cell? ⟨w.heap.size, 2, none⟩ = some (.int .i64 m) := hC.2.2.1
  have c3 : w2.cell? ⟨w.heap.size, 3, none⟩ = some (.int .i64 g) := hC.2.2.2.1
  have c4 : w2.cell? ⟨w.heap.size, 4, none⟩ = some (.int .i64 o) := hC.2.2.2.2.1
  have c5 : w2.cell? ⟨w.heap.size, 5, none⟩ = some (.map (some q)) := hC.2.2.2.2.2.1
  have c6 : w2.cell? ⟨w.heap.size + 1, 0, none⟩ = some (.int .i64 l) := hC.2.2.2.2.2.2.1
  have c7 : w2.cell? ⟨w.heap.size + 1, 1, none⟩ = some (.int .i64 h) := hC.2.2.2.2.2.2.2.1
  have c8 : w2.cell? ⟨w.heap.size + 1, 2, none⟩ = some (.bool false) := hC.2.2.2.2.2.2.2.2.1
  have c9 : w2.cell? ⟨w.heap.size + 1, 3, none⟩ = some (.int .i64 (min (si + n) 1000000000)) := hC.2.2.2.2.2.2.2.2.2.1
  have c10 : w2.cell? ⟨w.heap.size + 1, 4, none⟩ = some (.int .i64 la) := hC.2.2.2.2.2.2.2.2.2.2.1
  have c11 : w2.cell? ⟨w.heap.size + 1, 5, none⟩ = some (.int .i64 od) := hC.2.2.2.2.2.2.2.2.2.2.2.1
  have c12 : w2.cell? ⟨w.heap.size + 1 + 1, 0, none⟩ = some (.int .i64 0) := hC.2.2.2.2.2.2.2.2.2.2.2.2.1
  have c13 : w2.cell? ⟨w.heap.size + 1 + 1, 1, none⟩ = some (.int .i64 0) := hC.2.2.2.2.2.2.2.2.2.2.2.2.2.1
  have c14 : w2.cell? ⟨w.heap.size + 1 + 1, 2, none⟩ = some (.bool false) := hC.2.2.2.2.2.2.2.2.2.2.2.2.2.2.1
  have c15 : w2.cell? ⟨w.heap.size + 1 + 1, 3, none⟩ = some (.int .i64 0) := hC.2.2.2.2.2.2.2.2.2.2.2.2.2.2.2.1
  have c16 : w2.cell? ⟨w.heap.size + 1 + 1, 4, none⟩ = some (.int .i64 0) := hC.2.2.2.2.2.2.2.2.2.2.2.2.2.2.2.2.1
  have c17 : w2.cell? ⟨w.heap.size + 1 + 1, 5, none⟩ = some (.int .i64 0) := hC.2.2.2.2.2.2.2.2.2.2.2.2.2.2.2.2.2.1
  have c18 : w2.frozen? ⟨w.heap.size + 1, 0, none⟩ = false := hC.2.2.2.2.2.2.2.2.2.2.2.2.2.2.2.2.2.2.1
  have c19 : w2.frozen? ⟨w.heap.size + 1, 1, none⟩ = false := hC.2.2.2.2.2.2.2.2.2.2.2.2.2.2.2.2.2.2.2.1
  have c20 : w2.frozen? ⟨w.heap.size + 1, 2, none⟩ = false := hC.2.2.2.2.2.2.2.2.2.2.2.2.2.2.2.2.2.2.2.2.1
  have c21 : w2.frozen? ⟨w.heap.size + 1, 3, none⟩ = false := hC.2.2.2.2.2.2.2.2.2.2.2.2.2.2.2.2.2.2.2.2.2.1
  have c22 : w2.frozen? ⟨w.heap.size + 1, 4, none⟩ = false := hC.2.2.2.2.2.2.2.2.2.2.2.2.2.2.2.2.2.2.2.2.2.2.1
  have c23 : w2.frozen? ⟨w.heap.size + 1, 5, none⟩ = false := hC.2.2.2.2.2.2.2.2.2.2.2.2.2.2.2.2.2.2.2.2.2.2.2.1
  have c24 : w2.frozen? ⟨w.heap.size + 1 + 1, 0, none⟩ = false := hC.2.2.2.2.2.2.2.2.2.2.2.2.2.2.2.2.2.2.2.2.2.2.2.2.1
  have c25 : w2.frozen? ⟨w.heap.size + 1 + 1, 1, none⟩ = false := hC.2.2.2.2.2.2.2.2.2.2.2.2.2.2.2.2.2.2.2.2.2.2.2.2.2.1
  have c26 : w2.frozen? ⟨w.heap.size + 1 + 1, 2, none⟩ = false := hC.2.2.2.2.2.2.2.2.2.2.2.2.2.2.2.2.2.2.2.2.2.2.2.2.2.2.1
  have c27 : w2.frozen? ⟨w.heap.size + 1 + 1, 3, none⟩ = false := hC.2.2.2.2.2.2.2.2.2.2.2.2.2.2.2.2.2.2.2.2.2.2.2.2.2.2.2.1
  have c28 : w2.frozen? ⟨w.heap.size + 1 + 1, 4, none⟩ = false := hC.2.2.2.2.2.2.2.2.2.2.2.2.2.2.2.2.2.2.2.2.2.2.2.2.2.2.2.2.1
  have c29 : w2.frozen? ⟨w.heap.size + 1 + 1, 5, none⟩ = false := hC.2.2.2.2.2.2.2.2.2.2.2.2.2.2.2.2.2.2.2.2.2.2.2.2.2.2.2.2.2.1
  have c30 : Below w.heap.size w w2 := hC.2.2.2.2.2.2.2.2.2.2.2.2.2.2.2.2.2.2.2.2.2.2.2.2.2.2.2.2.2.2
  have hq1 : w.heap.size ≤ w.heap.size + 1 := by omega
  have hq2 : w.heap.size ≤ w.heap.size + 1 + 1 := by omega
  go_wp2_with fail
  exact bodyPost_ret (v := .agg #[.int .i64 l, .int .i64 h, .bool false, .int .i64 (min (si + n) 1000000000), .int .i64 la, .int .i64 od]) (by simp [results, Tryd.results80, go_sem, *]) rfl ⟨rfl, (nbSetX (nbSetX (nbSetX (nbSetX (nbSetX (nbSetX c30 hq2) hq2) hq2) hq2) hq2) hq2)⟩

set_option maxHeartbeats 1000000 in
theorem afterWheels_true (s j m g o : Int) (q : Nat) (l h si la od n : Int) (w : World) (h0 : 0 ≤ si) (h1 : si ≤ 1000000000) (hn : inB n 0 100000 = true) (hr : rOk s j m g o = true) (hbk : bOk l h = true) :
    Calls Tryd.prog 80 #[.agg #[.int .i64 s, .int .i64 j, .int .i64 m, .int .i64 g, .int .i64 o, .map (some q)], .agg #[.int .i64 l, .int .i64 h, .bool true, .int .i64 si, .int .i64 la, .int .i64 od], .int .i64 n] w fun e w' => e = .returned (.agg #[.int .i64 (min (l + lst s j n) 100000000), .int .i64 (min (h + mst s j n) 100000000), .bool true, .int .i64 (min (si + n) 1000000000), .int .i64 la, .int .i64 od]) ∧ Below w.heap.size w w' := by
  have hn' := hn
  simp only [inB, Bool.and_eq_true, decide_eq_true_eq] at hn'
  obtain ⟨hn0, hn1⟩ := hn'
  have wr : IntKind.i64.wrap (si + n) = si + n := by rw [IntKind.wrap_i64]; omega
  go_enter Tryd.func80, Tryd.ntmps80
  go_wp2_with fail
  refine region_last (afC w s j m g o q l h true si la od) 7 rfl (by kernel_rfl) (by kernel_rfl) (by kernel_rfl) ?_ ?_
  · refine ⟨?_, ?_, ?_, ?_, ?_, ?_, ?_, ?_, ?_, ?_, ?_, ?_, ?_, ?_, ?_, ?_, ?_, ?_, ?_, ?_, ?_, ?_, ?_, ?_, ?_, ?_, ?_, ?_, ?_, ?_, Below.drew (nbAlloc (nbAlloc (nbAlloc (Below.refl _ _) _) _) _)⟩ <;> go_simp
  apply Exists.intro
  refine ⟨fun hN => ?_, fun w9 h9 => ?_⟩
  · simp only [List.set_cons_succ, List.set_cons_zero, idle]
    have k0 : ∀ d : Kept (afC w s j m g o q l h true si la od), d.w.cell? ⟨w.heap.size, 0, none⟩ = some (.int .i64 s) := fun d => d.h.1
    have k1 : ∀ d : Kept (afC w s j m g o q l h true si la od), d.w.cell? ⟨w.heap.size, 1, none⟩ = some (.int .i64 j) := fun d => d.h.2.1
    have k2 : ∀ d : Kept (afC w s j m g o q l h true si la od), d.w.cell? ⟨w.heap.size, 2, none⟩ = some (.int .i64 m) := fun d => d.h.2.2.1
    have k3 : ∀ d : Kept (afC w s j m g o q l h true si la od), d.w.cell? ⟨w.heap.size, 3, none⟩ = some (.int .i64 g) := fun d => d.h.2.2.2.1
    have k4 : ∀ d : Kept (afC w s j m g o q l h true si la od), d.w.cell? ⟨w.heap.size, 4, none⟩ = some (.int .i64 o) := fun d => d.h.2.2.2.2.1
    have k5 : ∀ d : Kept (afC w s j m g o q l h true si la od), d.w.cell? ⟨w.heap.size, 5, none⟩ = some (.map (some q)) := fun d => d.h.2.2.2.2.2.1
    have k6 : ∀ d : Kept (afC w s j m g o q l h true si la od), d.w.cell? ⟨w.heap.size + 1, 0, none⟩ = some (.int .i64 l) := fun d => d.h.2.2.2.2.2.2.1
    have k7 : ∀ d : Kept (afC w s j m g o q l h true si la od), d.w.cell? ⟨w.heap.size + 1, 1, none⟩ = some (.int .i64 h) := fun d => d.h.2.2.2.2.2.2.2.1
    have k8 : ∀ d : Kept (afC w s j m g o q l h true si la od), d.w.cell? ⟨w.heap.size + 1, 2, none⟩ = some (.bool true) := fun d => d.h.2.2.2.2.2.2.2.2.1
    have k9 : ∀ d : Kept (afC w s j m g o q l h true si la od), d.w.cell? ⟨w.heap.size + 1, 3, none⟩ = some (.int .i64 si) := fun d => d.h.2.2.2.2.2.2.2.2.2.1
    have k10 : ∀ d : Kept (afC w s j m g o q l h true si la od), d.w.cell? ⟨w.heap.size + 1, 4, none⟩ = some (.int .i64 la) := fun d => d.h.2.2.2.2.2.2.2.2.2.2.1
    have k11 : ∀ d : Kept (afC w s j m g o q l h true si la od), d.w.cell? ⟨w.heap.size + 1, 5, none⟩ = some (.int .i64 od) := fun d => d.h.2.2.2.2.2.2.2.2.2.2.2.1
    have k12 : ∀ d : Kept (afC w s j m g o q l h true si la od), d.w.cell? ⟨w.heap.size + 1 + 1, 0, none⟩ = some (.int .i64 0) := fun d => d.h.2.2.2.2.2.2.2.2.2.2.2.2.1
    have k13 : ∀ d : Kept (afC w s j m g o q l h true si la od), d.w.cell? ⟨w.heap.size + 1 + 1, 1, none⟩ = some (.int .i64 0) := fun d => d.h.2.2.2.2.2.2.2.2.2.2.2.2.2.1
    have k14 : ∀ d : Kept (afC w s j m g o q l h true si la od), d.w.cell? ⟨w.heap.size + 1 + 1, 2, none⟩ = some (.bool false) := fun d => d.h.2.2.2.2.2.2.2.2.2.2.2.2.2.2.1
    have k15 : ∀ d : Kept (afC w s j m g o q l h true si la od), d.w.cell? ⟨w.heap.size + 1 + 1, 3, none⟩ = some (.int .i64 0) := fun d => d.h.2.2.2.2.2.2.2.2.2.2.2.2.2.2.2.1
    have k16 : ∀ d : Kept (afC w s j m g o q l h true si la od), d.w.cell? ⟨w.heap.size + 1 + 1, 4, none⟩ = some (.int .i64 0) := fun d => d.h.2.2.2.2.2.2.2.2.2.2.2.2.2.2.2.2.1
    have k17 : ∀ d : Kept (afC w s j m g o q l h true si la od), d.w.cell? ⟨w.heap.size + 1 + 1, 5, none⟩ = some (.int .i64 0) := fun d => d.h.2.2.2.2.2.2.2.2.2.2.2.2.2.2.2.2.2.1
    repeat (go_big_quiet_step (first | (go_at_call 53; exact call_kept _ afC_on (upTo_c _ _)) | (go_at_call 62; exact call_kept _ afC_on (nearestT _ _ (by omega)))))
    exact wpQuiet_nil rfl
  have c0 : w9.cell? ⟨w.heap.size, 0, none⟩ = some (.int .i64 s) := h9.1
  have c1 : w9.cell? ⟨w.heap.size, 1, none⟩ = some (.int .i64 j) := h9.2.1
  have c2 : w9.cell? ⟨w.heap.size, 2, none⟩ = some (.int .i64 m) := h9.2.2.1
  have c3 : w9.cell? ⟨w.heap.size, 3, none⟩ = some (.int .i64 g) := h9.2.2.2.1
  have c4 : w9.cell? ⟨w.heap.size, 4, none⟩ = some (.int .i64 o) := h9.2.2.2.2.1
  have c5 : w9.cell? ⟨w.heap.size, 5, none⟩ = some (.map (some q)) := h9.2.2.2.2.2.1
  have c6 : w9.cell? ⟨w.heap.size + 1, 0, none⟩ = some (.int .i64 l) := h9.2.2.2.2.2.2.1
  have c7 : w9.cell? ⟨w.heap.size + 1, 1, none⟩ = some (.int .i64 h) := h9.2.2.2.2.2.2.2.1
  have c8 : w9.cell? ⟨w.heap.size + 1, 2, none⟩ = some (.bool true) := h9.2.2.2.2.2.2.2.2.1
  have c9 : w9.cell? ⟨w.heap.size + 1, 3, none⟩ = some (.int .i64 si) := h9.2.2.2.2.2.2.2.2.2.1
  have c10 : w9.cell? ⟨w.heap.size + 1, 4, none⟩ = some (.int .i64 la) := h9.2.2.2.2.2.2.2.2.2.2.1
  have c11 : w9.cell? ⟨w.heap.size + 1, 5, none⟩ = some (.int .i64 od) := h9.2.2.2.2.2.2.2.2.2.2.2.1
  have c12 : w9.cell? ⟨w.heap.size + 1 + 1, 0, none⟩ = some (.int .i64 0) := h9.2.2.2.2.2.2.2.2.2.2.2.2.1
  have c13 : w9.cell? ⟨w.heap.size + 1 + 1, 1, none⟩ = some (.int .i64 0) := h9.2.2.2.2.2.2.2.2.2.2.2.2.2.1
  have c14 : w9.cell? ⟨w.heap.size + 1 + 1, 2, none⟩ = some (.bool false) := h9.2.2.2.2.2.2.2.2.2.2.2.2.2.2.1
  have c15 : w9.cell? ⟨w.heap.size + 1 + 1, 3, none⟩ = some (.int .i64 0) := h9.2.2.2.2.2.2.2.2.2.2.2.2.2.2.2.1
  have c16 : w9.cell? ⟨w.heap.size + 1 + 1, 4, none⟩ = some (.int .i64 0) := h9.2.2.2.2.2.2.2.2.2.2.2.2.2.2.2.2.1
  have c17 : w9.cell? ⟨w.heap.size + 1 + 1, 5, none⟩ = some (.int .i64 0) := h9.2.2.2.2.2.2.2.2.2.2.2.2.2.2.2.2.2.1
  have c18 : w9.frozen? ⟨w.heap.size + 1, 0, none⟩ = false := h9.2.2.2.2.2.2.2.2.2.2.2.2.2.2.2.2.2.2.1
  have c19 : w9.frozen? ⟨w.heap.size + 1, 1, none⟩ = false := h9.2.2.2.2.2.2.2.2.2.2.2.2.2.2.2.2.2.2.2.1
  have c20 : w9.frozen? ⟨w.heap.size + 1, 2, none⟩ = false := h9.2.2.2.2.2.2.2.2.2.2.2.2.2.2.2.2.2.2.2.2.1
  have c21 : w9.frozen? ⟨w.heap.size + 1, 3, none⟩ = false := h9.2.2.2.2.2.2.2.2.2.2.2.2.2.2.2.2.2.2.2.2.2.1
  have c22 : w9.frozen? ⟨w.heap.size + 1, 4, none⟩ = false := h9.2.2.2.2.2.2.2.2.2.2.2.2.2.2.2.2.2.2.2.2.2.2.1
  have c23 : w9.frozen? ⟨w.heap.size + 1, 5, none⟩ = false := h9.2.2.2.2.2.2.2.2.2.2.2.2.2.2.2.2.2.2.2.2.2.2.2.1
  have c24 : w9.frozen? ⟨w.heap.size + 1 + 1, 0, none⟩ = false := h9.2.2.2.2.2.2.2.2.2.2.2.2.2.2.2.2.2.2.2.2.2.2.2.2.1
  have c25 : w9.frozen? ⟨w.heap.size + 1 + 1, 1, none⟩ = false := h9.2.2.2.2.2.2.2.2.2.2.2.2.2.2.2.2.2.2.2.2.2.2.2.2.2.1
  have c26 : w9.frozen? ⟨w.heap.size + 1 + 1, 2, none⟩ = false := h9.2.2.2.2.2.2.2.2.2.2.2.2.2.2.2.2.2.2.2.2.2.2.2.2.2.2.1
  have c27 : w9.frozen? ⟨w.heap.size + 1 + 1, 3, none⟩ = false := h9.2.2.2.2.2.2.2.2.2.2.2.2.2.2.2.2.2.2.2.2.2.2.2.2.2.2.2.1
  have c28 : w9.frozen? ⟨w.heap.size + 1 + 1, 4, none⟩ = false := h9.2.2.2.2.2.2.2.2.2.2.2.2.2.2.2.2.2.2.2.2.2.2.2.2.2.2.2.2.1
  have c29 : w9.frozen? ⟨w.heap.size + 1 + 1, 5, none⟩ = false := h9.2.2.2.2.2.2.2.2.2.2.2.2.2.2.2.2.2.2.2.2.2.2.2.2.2.2.2.2.2.1
  have c30 : Below w.heap.size w w9 := h9.2.2.2.2.2.2.2.2.2.2.2.2.2.2.2.2.2.2.2.2.2.2.2.2.2.2.2.2.2.2
  go_simp
  have hC := afC_si h9 (min (si + n) 1000000000)
  clear c0 c1 c2 c3 c4 c5 c6 c7 c8 c9 c10 c11 c12 c13 c14 c15 c16 c17 c18 c19 c20 c21 c22 c23 c24 c25 c26 c27 c28 c29 c30 h9
  generalize w9.setCell ⟨w.heap.size + 1, 3, none⟩ (.int .i64 (min (si + n) 1000000000)) = w2 at *
  have c0 : w2.cell? ⟨w.heap.size, 0, none⟩ = some (.int .i64 s) := hC.1
  have c1 : w2.cell? ⟨w.heap.size, 1, none⟩ = some (.int .i64 j) := hC.2.1
  have c2 : w2.cell? ⟨w.heap.size, 2, none⟩ = some (.int .i64 m) := hC.2.2.1
  have c3 : w2.cell? ⟨w.heap.size, 3, none⟩ = some (.int .i64 g) := hC.2.2.2.1
  have c4 : w2.cell? ⟨w.heap.size, 4, none⟩ = some (.int .i64 o) := hC.2.2.2.2.1
  have c5 : w2.cell? ⟨w.heap.size, 5, none⟩ = some (.map (some q)) := hC.2.2.2.2.2.1
  have c6 : w2.cell? ⟨w.heap.size + 1, 0, none⟩ = some (.int .i64 l) := hC.2.2.2.2.2.2.1
  have c7 : w2.cell? ⟨w.heap.size + 1, 1, none⟩ = some (.int .i64 h) := hC.2.2.2.2.2.2.2.1
  have c8 : w2.cell? ⟨w.heap.size + 1, 2, none⟩ = some (.bool true) := hC.2.2.2.2.2.2.2.2.1
  have c9 : w2.cell? ⟨w.heap.size + 1, 3, none⟩ = some (.int .i64 (min (si + n) 1000000000)) := hC.2.2.2.2.2.2.2.2.2.1
  have c10 : w2.cell? ⟨w.heap.size + 1, 4, none⟩ = some (.int .i64 la) := hC.2.2.2.2.2.2.2.2.2.2.1
  have c11 : w2.cell? ⟨w.heap.size + 1, 5, none⟩ = some (.int .i64 od) := hC.2.2.2.2.2.2.2.2.2.2.2.1
  have c12 : w2.cell? ⟨w.heap.size + 1 + 1, 0, none⟩ = some (.int .i64 0) := hC.2.2.2.2.2.2.2.2.2.2.2.2.1
  have c13 : w2.cell? ⟨w.heap.size + 1 + 1, 1, none⟩ = some (.int .i64 0) := hC.2.2.2.2.2.2.2.2.2.2.2.2.2.1
  have c14 : w2.cell? ⟨w.heap.size + 1 + 1, 2, none⟩ = some (.bool false) := hC.2.2.2.2.2.2.2.2.2.2.2.2.2.2.1
  have c15 : w2.cell? ⟨w.heap.size + 1 + 1, 3, none⟩ = some (.int .i64 0) := hC.2.2.2.2.2.2.2.2.2.2.2.2.2.2.2.1
  have c16 : w2.cell? ⟨w.heap.size + 1 + 1, 4, none⟩ = some (.int .i64 0) := hC.2.2.2.2.2.2.2.2.2.2.2.2.2.2.2.2.1
  have c17 : w2.cell? ⟨w.heap.size + 1 + 1, 5, none⟩ = some (.int .i64 0) := hC.2.2.2.2.2.2.2.2.2.2.2.2.2.2.2.2.2.1
  have c18 : w2.frozen? ⟨w.heap.size + 1, 0, none⟩ = false := hC.2.2.2.2.2.2.2.2.2.2.2.2.2.2.2.2.2.2.1
  have c19 : w2.frozen? ⟨w.heap.size + 1, 1, none⟩ = false := hC.2.2.2.2.2.2.2.2.2.2.2.2.2.2.2.2.2.2.2.1
  have c20 : w2.frozen? ⟨w.heap.size + 1, 2, none⟩ = false := hC.2.2.2.2.2.2.2.2.2.2.2.2.2.2.2.2.2.2.2.2.1
  have c21 : w2.frozen? ⟨w.heap.size + 1, 3, none⟩ = false := hC.2.2.2.2.2.2.2.2.2.2.2.2.2.2.2.2.2.2.2.2.2.1
  have c22 : w2.frozen? ⟨w.heap.size + 1, 4, none⟩ = false := hC.2.2.2.2.2.2.2.2.2.2.2.2.2.2.2.2.2.2.2.2.2.2.1
  have c23 : w2.frozen? ⟨w.heap.size + 1, 5, none⟩ = false := hC.2.2.2.2.2.2.2.2.2.2.2.2.2.2.2.2.2.2.2.2.2.2.2.1
  have c24 : w2.frozen? ⟨w.heap.size + 1 + 1, 0, none⟩ = false := hC.2.2.2.2.2.2.2.2.2.2.2.2.2.2.2.2.2.2.2.2.2.2.2.2.1
  have c25 : w2.frozen? ⟨w.heap.size + 1 + 1, 1, none⟩ = false := hC.2.2.2.2.2.2.2.2.2.2.2.2.2.2.2.2.2.2.2.2.2.2.2.2.2.1
  have c26 : w2.frozen? ⟨w.heap.size + 1 + 1, 2, none⟩ = false := hC.2.2.2.2.2.2.2.2.2.2.2.2.2.2.2.2.2.2.2.2.2.2.2.2.2.2.1
  have c27 : w2.frozen? ⟨w.heap.size + 1 + 1, 3, none⟩ = false := hC.2.2.2.2.2.2.2.2.2.2.2.2.2.2.2.2.2.2.2.2.2.2.2.2.2.2.2.1
  have c28 : w2.frozen? ⟨w.heap.size + 1 + 1, 4, none⟩ = false := hC.2.2.2.2.2.2.2.2.2.2.2.2.2.2.2.2.2.2.2.2.2.2.2.2.2.2.2.2.1
  have c29 : w2.frozen? ⟨w.heap.size + 1 + 1, 5, none⟩ = false := hC.2.2.2.2.2.2.2.2.2.2.2.2.2.2.2.2.2.2.2.2.2.2.2.2.2.2.2.2.2.1
  have c30 : Below w.heap.size w w2 := hC.2.2.2.2.2.2.2.2.2.2.2.2.2.2.2.2.2.2.2.2.2.2.2.2.2.2.2.2.2.2
  have hq1 : w.heap.size ≤ w.heap.size + 1 := by omega
  have hq2 : w.heap.size ≤ w.heap.size + 1 + 1 := by omega
  go_wp2_with fail
  refine (implWheel_ok _ _ _ _ _ _ _ _ _ hr hbk hn).mono ?_
  rintro e w3 ⟨rfl, hb3⟩
  have hC3 := afC_on hC hb3
  clear c0 c1 c2 c3 c4 c5 c6 c7 c8 c9 c10 c11 c12 c13 c14 c15 c16 c17 c18 c19 c20 c21 c22 c23 c24 c25 c26 c27 c28 c29 c30 hC
  have c0 : w3.cell? ⟨w.heap.size, 0, none⟩ = some (.int .i64 s) := hC3.1
  have c1 : w3.cell? ⟨w.heap.size, 1, none⟩ = some (.int .i64 j) := hC3.2.1
  have c2 : w3.cell? ⟨w.heap.size, 2, none⟩ = some (.int .i64 m) := hC3.2.2.1
  have c3 : w3.cell? ⟨w.heap.size, 3, none⟩ = some (.int .i64 g) := hC3.2.2.2.1
  have c4 : w3.cell? ⟨w.heap.size, 4, none⟩ = some (.int .i64 o) := hC3.2.2.2.2.1
  have c5 : w3.cell? ⟨w.heap.size, 5, none⟩ = some (.map (some q)) := hC3.2.2.2.2.2.1
  have c6 : w3.cell? ⟨w.heap.size + 1, 0, none⟩ = some (.int .i64 l) := hC3.2.2.2.2.2.2.1
  have c7 : w3.cell? ⟨w.heap.size + 1, 1, none⟩ = some (.int .i64 h) := hC3.2.2.2.2.2.2.2.1
  have c8 : w3.cell? ⟨w.heap.size + 1, 2, none⟩ = some (.bool true) := hC3.2.2.2.2.2.2.2.2.1
  have c9 : w3.cell? ⟨w.heap.size + 1, 3, none⟩ = some (.int .i64 (min (si + n) 1000000000)) := hC3.2.2.2.2.2.2.2.2.2.1
  have c10 : w3.cell? ⟨w.heap.size + 1, 4, none⟩ = some (.int .i64 la) := hC3.2.2.2.2.2.2.2.2.2.2.1
  have c11 : w3.cell? ⟨w.heap.size + 1, 5, none⟩ = some (.int .i64 od) := hC3.2.2.2.2.2.2.2.2.2.2.2.1
  have c12 : w3.cell? ⟨w.heap.size + 1 + 1, 0, none⟩ = some (.int .i64 0) := hC3.2.2.2.2.2.2.2.2.2.2.2.2.1
  have c13 : w3.cell? ⟨w.heap.size + 1 + 1, 1, none⟩ = some (.int .i64 0) := hC3.2.2.2.2.2.2.2.2.2.2.2.2.2.1
  have c14 : w3.cell? ⟨w.heap.size + 1 + 1, 2, none⟩ = some (.bool false) := hC3.2.2.2.2.2.2.2.2.2.2.2.2.2.2.1
  have c15 : w3.cell? ⟨w.heap.size + 1 + 1, 3, none⟩ = some (.int .i64 0) := hC3.2.2.2.2.2.2.2.2.2.2.2.2.2.2.2.1
  have c16 : w3.cell? ⟨w.heap.size + 1 + 1, 4, none⟩ = some (.int .i64 0) := hC3.2.2.2.2.2.2.2.2.2.2.2.2.2.2.2.2.1
  have c17 : w3.cell? ⟨w.heap.size + 1 + 1, 5, none⟩ = some (.int .i64 0) := hC3.2.2.2.2.2.2.2.2.2.2.2.2.2.2.2.2.2.1
  have c18 : w3.frozen? ⟨w.heap.size + 1, 0, none⟩ = false := hC3.2.2.2.2.2.2.2.2.2.2.2.2.2.2.2.2.2.2.1
  have c19 : w3.frozen? ⟨w.heap.size + 1, 1, none⟩ = false := hC3.2.2.2.2.2.2.2.2.2.2.2.2.2.2.2.2.2.2.2.1
  have c20 : w3.frozen? ⟨w.heap.size + 1, 2, none⟩ = false := hC3.2.2.2.2.2.2.2.2.2.2.2.2.2.2.2.2.2.2.2.2.1
  have c21 : w3.frozen? ⟨w.heap.size + 1, 3, none⟩ = false := hC3.2.2.2.2.2.2.2.2.2.2.2.2.2.2.2.2.2.2.2.2.2.1
  have c22 : w3.frozen? ⟨w.heap.size + 1, 4, none⟩ = false := hC3.2.2.2.2.2.2.2.2.2.2.2.2.2.2.2.2.2.2.2.2.2.2.1
  have c23 : w3.frozen? ⟨w.heap.size + 1, 5, none⟩ = false := hC3.2.2.2.2.2.2.2.2.2.2.2.2.2.2.2.2.2.2.2.2.2.2.2.1
  have c24 : w3.frozen? ⟨w.heap.size + 1 + 1, 0, none⟩ = false := hC3.2.2.2.2.2.2.2.2.2.2.2.2.2.2.2.2.2.2.2.2.2.2.2.2.1
  have c25 : w3.frozen? ⟨w.heap.size + 1 + 1, 1, none⟩ = false := hC3.2.2.2.2.2.2.2.2.2.2.2.2.2.2.2.2.2.2.2.2.2.2.2.2.2.1
  have c26 : w3.frozen? ⟨w.heap.size + 1 + 1, 2, none⟩ = false := hC3.2.2.2.2.2.2.2.2.2.2.2.2.2.2.2.2.2.2.2.2.2.2.2.2.2.2.1
  have c27 : w3.frozen? ⟨w.heap.size + 1 + 1, 3, none⟩ = false := hC3.2.2.2.2.2.2.2.2.2.2.2.2.2.2.2.2.2.2.2.2.2.2.2.2.2.2.2.1
  have c28 : w3.frozen? ⟨w.heap.size + 1 + 1, 4, none⟩ = false := hC3.2.2.2.2.2.2.2.2.2.2.2.2.2.2.2.2.2.2.2.2.2.2.2.2.2.2.2.2.1
  have c29 : w3.frozen? ⟨w.heap.size + 1 + 1, 5, none⟩ = false := hC3.2.2.2.2.2.2.2.2.2.2.2.2.2.2.2.2.2.2.2.2.2.2.2.2.2.2.2.2.2.1
  have c30 : Below w.heap.size w w3 := hC3.2.2.2.2.2.2.2.2.2.2.2.2.2.2.2.2.2.2.2.2.2.2.2.2.2.2.2.2.2.2
  go_wp2_with fail
  exact bodyPost_ret (v := .agg #[.int .i64 (min (l + lst s j n) 100000000), .int .i64 (min (h + mst s j n) 100000000), .bool true, .int .i64 (min (si + n) 1000000000), .int .i64 la, .int .i64 od]) (by simp [results, Tryd.results80, go_sem, *]) rfl ⟨rfl, (nbSetX (nbSetX (nbSetX (nbSetX (nbSetX (nbSetX (nbSetX (nbSetX c30 hq1) hq1) hq2) hq2) hq2) hq2) hq2) hq2)⟩

end Go.Proofs.YtmhppadblddjoaaDoor

