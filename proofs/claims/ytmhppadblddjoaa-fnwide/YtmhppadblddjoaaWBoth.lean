import Derived.Test.YtmhppadblddjoaaW1
namespace Go.Proofs.Ytmhppadblddjoaa
open Go.RowKit

set_option maxHeartbeats 400000 in
theorem boundOf_c (l h : Int) (w : World) :
    Calls Try.prog 67 #[.agg #[.int .i64 l, .int .i64 h]] w fun e w' => e = .returned (.agg #[.int .i64 l, .int .i64 h]) ∧ Below w.heap.size w w' := by
  go_enter Try.func67, Try.ntmps67
  go_wp2
  exact bodyPost_ret (v := .agg #[.int .i64 l, .int .i64 h]) (by simp [results, Try.results67, go_sem]) rfl ⟨rfl, nbAlloc (nbAlloc (Below.refl _ _) _) _⟩

set_option maxHeartbeats 400000 in
theorem shared_c (al ah bl bh : Int) (w : World) :
    Calls Try.prog 78 #[.agg #[.int .i64 al, .int .i64 ah], .agg #[.int .i64 bl, .int .i64 bh]] w fun e w' => e = .returned (.agg #[.int .i64 (max al bl), .int .i64 (min ah bh)]) ∧ Below w.heap.size w w' := by
  by_cases h1 : al < bl <;> by_cases h2 : bh < ah
  · rw [show max al bl = bl by omega, show min ah bh = bh by omega]
    go_enter Try.func78, Try.ntmps78
    go_wp2
    exact bodyPost_ret (v := .agg #[.int .i64 bl, .int .i64 bh]) (by simp [results, Try.results78, go_sem]) rfl ⟨rfl, nbAlloc (nbAlloc (nbAlloc (Below.refl _ _) _) _) _⟩
  · rw [show max al bl = bl by omega, show min ah bh = ah by omega]
    go_enter Try.func78, Try.ntmps78
    go_wp2
    exact bodyPost_ret (v := .agg #[.int .i64 bl, .int .i64 ah]) (by simp [results, Try.results78, go_sem]) rfl ⟨rfl, nbAlloc (nbAlloc (nbAlloc (Below.refl _ _) _) _) _⟩
  · rw [show max al bl = al by omega, show min ah bh = bh by omega]
    go_enter Try.func78, Try.ntmps78
    go_wp2
    exact bodyPost_ret (v := .agg #[.int .i64 al, .int .i64 bh]) (by simp [results, Try.results78, go_sem]) rfl ⟨rfl, nbAlloc (nbAlloc (nbAlloc (Below.refl _ _) _) _) _⟩
  · rw [show max al bl = al by omega, show min ah bh = ah by omega]
    go_enter Try.func78, Try.ntmps78
    go_wp2
    exact bodyPost_ret (v := .agg #[.int .i64 al, .int .i64 ah]) (by simp [results, Try.results78, go_sem]) rfl ⟨rfl, nbAlloc (nbAlloc (nbAlloc (Below.refl _ _) _) _) _⟩

def bC (w : World) (al ah bl bh : Int) : World → Prop := fun w' => w'.cell? ⟨w.heap.size, 0, none⟩ = some (.int .i64 al) ∧ w'.cell? ⟨w.heap.size, 1, none⟩ = some (.int .i64 ah) ∧ w'.cell? ⟨w.heap.size + 1, 0, none⟩ = some (.int .i64 bl) ∧ w'.cell? ⟨w.heap.size + 1, 1, none⟩ = some (.int .i64 bh) ∧ w'.cell? ⟨w.heap.size + 1 + 1, 0, none⟩ = some (.int .i64 0) ∧ w'.cell? ⟨w.heap.size + 1 + 1, 1, none⟩ = some (.int .i64 0) ∧ w'.frozen? ⟨w.heap.size + 1 + 1, 0, none⟩ = false ∧ w'.frozen? ⟨w.heap.size + 1 + 1, 1, none⟩ = false ∧ w'.frozen? ⟨w.heap.size, 0, none⟩ = false ∧ w'.frozen? ⟨w.heap.size, 1, none⟩ = false ∧ Below w.heap.size w w'
theorem bC_on {w : World} {al ah bl bh : Int} {w1 w2 : World} (hh : bC w al ah bl bh w1) (hb : Below w1.heap.size w1 w2) : bC w al ah bl bh w2 :=
  ⟨cellOn hb hh.1, cellOn hb hh.2.1, cellOn hb hh.2.2.1, cellOn hb hh.2.2.2.1, cellOn hb hh.2.2.2.2.1, cellOn hb hh.2.2.2.2.2.1, frozenOn hb hh.2.2.2.2.1 hh.2.2.2.2.2.2.1, frozenOn hb hh.2.2.2.2.2.1 hh.2.2.2.2.2.2.2.1, frozenOn hb hh.1 hh.2.2.2.2.2.2.2.2.1, frozenOn hb hh.2.1 hh.2.2.2.2.2.2.2.2.2.1, nbTrans hh.2.2.2.2.2.2.2.2.2.2 hb⟩

set_option maxHeartbeats 1000000 in
theorem specBoth_no (al ah bl bh : Int) (w : World) (hm : mB al ah bl bh = false) :
    Calls Try.prog 64 #[.agg #[.int .i64 al, .int .i64 ah], .agg #[.int .i64 bl, .int .i64 bh]] w fun e w' => e = .returned (.agg #[.int .i64 0, .int .i64 0]) ∧ Below w.heap.size w w' := by
  go_enter Try.func64, Try.ntmps64
  go_wp2_with fail
  refine (specMeets_c _ _ _ _ _).mono ?_
  rintro e w1 ⟨rfl, hb1⟩
  have hC : bC w al ah bl bh w1 := ⟨cellOn hb1 (by go_simp), cellOn hb1 (by go_simp), cellOn hb1 (by go_simp), cellOn hb1 (by go_simp), cellOn hb1 (by go_simp), cellOn hb1 (by go_simp), frozenOn hb1 (v := .int .i64 0) (by go_simp) (by go_simp), frozenOn hb1 (v := .int .i64 0) (by go_simp) (by go_simp), frozenOn hb1 (v := .int .i64 al) (by go_simp) (by go_simp), frozenOn hb1 (v := .int .i64 ah) (by go_simp) (by go_simp), nbTrans (nbAlloc (nbAlloc (nbAlloc (Below.refl _ _) _) _) _) hb1⟩
  have c0 : w1.cell? ⟨w.heap.size, 0, none⟩ = some (.int .i64 al) := hC.1
  have c1 : w1.cell? ⟨w.heap.size, 1, none⟩ = some (.int .i64 ah) := hC.2.1
  have c2 : w1.cell? ⟨w.heap.size + 1, 0, none⟩ = some (.int .i64 bl) := hC.2.2.1
  have c3 : w1.cell? ⟨w.heap.size + 1, 1, none⟩ = some (.int .i64 bh) := hC.2.2.2.1
  have c4 : w1.cell? ⟨w.heap.size + 1 + 1, 0, none⟩ = some (.int .i64 0) := hC.2.2.2.2.1
  have c5 : w1.cell? ⟨w.heap.size + 1 + 1, 1, none⟩ = some (.int .i64 0) := hC.2.2.2.2.2.1
  have c6 : w1.frozen? ⟨w.heap.size + 1 + 1, 0, none⟩ = false := hC.2.2.2.2.2.2.1
  have c7 : w1.frozen? ⟨w.heap.size + 1 + 1, 1, none⟩ = false := hC.2.2.2.2.2.2.2.1
  have c8 : w1.frozen? ⟨w.heap.size, 0, none⟩ = false := hC.2.2.2.2.2.2.2.2.1
  have c9 : w1.frozen? ⟨w.heap.size, 1, none⟩ = false := hC.2.2.2.2.2.2.2.2.2.1
  have c10 : Below w.heap.size w w1 := hC.2.2.2.2.2.2.2.2.2.2
  go_wp2_with fail
  exact bodyPost_ret (v := .agg #[.int .i64 0, .int .i64 0]) (by simp [results, Try.results64, go_sem, c4, c5]) rfl ⟨rfl, nbSet2 c10 (by omega)⟩

set_option maxHeartbeats 1000000 in
theorem specBoth_yes (al ah bl bh : Int) (w : World) (hm : mB al ah bl bh = true) :
    Calls Try.prog 64 #[.agg #[.int .i64 al, .int .i64 ah], .agg #[.int .i64 bl, .int .i64 bh]] w fun e w' => e = .returned (.agg #[.int .i64 (max al bl), .int .i64 (min ah bh)]) ∧ Below w.heap.size w w' := by
  by_cases h1 : al < bl <;> by_cases h2 : bh < ah
  · rw [show max al bl = bl by omega, show min ah bh = bh by omega]
    go_enter Try.func64, Try.ntmps64
    go_wp2_with fail
    refine (specMeets_c _ _ _ _ _).mono ?_
    rintro e w1 ⟨rfl, hb1⟩
    have hC : bC w al ah bl bh w1 := ⟨cellOn hb1 (by go_simp), cellOn hb1 (by go_simp), cellOn hb1 (by go_simp), cellOn hb1 (by go_simp), cellOn hb1 (by go_simp), cellOn hb1 (by go_simp), frozenOn hb1 (v := .int .i64 0) (by go_simp) (by go_simp), frozenOn hb1 (v := .int .i64 0) (by go_simp) (by go_simp), frozenOn hb1 (v := .int .i64 al) (by go_simp) (by go_simp), frozenOn hb1 (v := .int .i64 ah) (by go_simp) (by go_simp), nbTrans (nbAlloc (nbAlloc (nbAlloc (Below.refl _ _) _) _) _) hb1⟩
    have c0 : w1.cell? ⟨w.heap.size, 0, none⟩ = some (.int .i64 al) := hC.1
    have c1 : w1.cell? ⟨w.heap.size, 1, none⟩ = some (.int .i64 ah) := hC.2.1
    have c2 : w1.cell? ⟨w.heap.size + 1, 0, none⟩ = some (.int .i64 bl) := hC.2.2.1
    have c3 : w1.cell? ⟨w.heap.size + 1, 1, none⟩ = some (.int .i64 bh) := hC.2.2.2.1
    have c4 : w1.cell? ⟨w.heap.size + 1 + 1, 0, none⟩ = some (.int .i64 0) := hC.2.2.2.2.1
    have c5 : w1.cell? ⟨w.heap.size + 1 + 1, 1, none⟩ = some (.int .i64 0) := hC.2.2.2.2.2.1
    have c6 : w1.frozen? ⟨w.heap.size + 1 + 1, 0, none⟩ = false := hC.2.2.2.2.2.2.1
    have c7 : w1.frozen? ⟨w.heap.size + 1 + 1, 1, none⟩ = false := hC.2.2.2.2.2.2.2.1
    have c8 : w1.frozen? ⟨w.heap.size, 0, none⟩ = false := hC.2.2.2.2.2.2.2.2.1
    have c9 : w1.frozen? ⟨w.heap.size, 1, none⟩ = false := hC.2.2.2.2.2.2.2.2.2.1
    have c10 : Below w.heap.size w w1 := hC.2.2.2.2.2.2.2.2.2.2
    go_wp2_with fail
    refine bodyPost_ret (v := .agg #[.int .i64 bl, .int .i64 bh]) (by simp [results, Try.results64, go_sem, *]) rfl ⟨rfl, ?_⟩
    repeat (first | exact c10 | refine Below.setCell ?_ (by simp; try omega) _)
  · rw [show max al bl = bl by omega, show min ah bh = ah by omega]
    go_enter Try.func64, Try.ntmps64
    go_wp2_with fail
    refine (specMeets_c _ _ _ _ _).mono ?_
    rintro e w1 ⟨rfl, hb1⟩
    have hC : bC w al ah bl bh w1 := ⟨cellOn hb1 (by go_simp), cellOn hb1 (by go_simp), cellOn hb1 (by go_simp), cellOn hb1 (by go_simp), cellOn hb1 (by go_simp), cellOn hb1 (by go_simp), frozenOn hb1 (v := .int .i64 0) (by go_simp) (by go_simp), frozenOn hb1 (v := .int .i64 0) (by go_simp) (by go_simp), frozenOn hb1 (v := .int .i64 al) (by go_simp) (by go_simp), frozenOn hb1 (v := .int .i64 ah) (by go_simp) (by go_simp), nbTrans (nbAlloc (nbAlloc (nbAlloc (Below.refl _ _) _) _) _) hb1⟩
    have c0 : w1.cell? ⟨w.heap.size, 0, none⟩ = some (.int .i64 al) := hC.1
    have c1 : w1.cell? ⟨w.heap.size, 1, none⟩ = some (.int .i64 ah) := hC.2.1
    have c2 : w1.cell? ⟨w.heap.size + 1, 0, none⟩ = some (.int .i64 bl) := hC.2.2.1
    have c3 : w1.cell? ⟨w.heap.size + 1, 1, none⟩ = some (.int .i64 bh) := hC.2.2.2.1
    have c4 : w1.cell? ⟨w.heap.size + 1 + 1, 0, none⟩ = some (.int .i64 0) := hC.2.2.2.2.1
    have c5 : w1.cell? ⟨w.heap.size + 1 + 1, 1, none⟩ = some (.int .i64 0) := hC.2.2.2.2.2.1
    have c6 : w1.frozen? ⟨w.heap.size + 1 + 1, 0, none⟩ = false := hC.2.2.2.2.2.2.1
    have c7 : w1.frozen? ⟨w.heap.size + 1 + 1, 1, none⟩ = false := hC.2.2.2.2.2.2.2.1
    have c8 : w1.frozen? ⟨w.heap.size, 0, none⟩ = false := hC.2.2.2.2.2.2.2.2.1
    have c9 : w1.frozen? ⟨w.heap.size, 1, none⟩ = false := hC.2.2.2.2.2.2.2.2.2.1
    have c10 : Below w.heap.size w w1 := hC.2.2.2.2.2.2.2.2.2.2
    go_wp2_with fail
    refine bodyPost_ret (v := .agg #[.int .i64 bl, .int .i64 ah]) (by simp [results, Try.results64, go_sem, *]) rfl ⟨rfl, ?_⟩
    repeat (first | exact c10 | refine Below.setCell ?_ (by simp; try omega) _)
  · rw [show max al bl = al by omega, show min ah bh = bh by omega]
    go_enter Try.func64, Try.ntmps64
    go_wp2_with fail
    refine (specMeets_c _ _ _ _ _).mono ?_
    rintro e w1 ⟨rfl, hb1⟩
    have hC : bC w al ah bl bh w1 := ⟨cellOn hb1 (by go_simp), cellOn hb1 (by go_simp), cellOn hb1 (by go_simp), cellOn hb1 (by go_simp), cellOn hb1 (by go_simp), cellOn hb1 (by go_simp), frozenOn hb1 (v := .int .i64 0) (by go_simp) (by go_simp), frozenOn hb1 (v := .int .i64 0) (by go_simp) (by go_simp), frozenOn hb1 (v := .int .i64 al) (by go_simp) (by go_simp), frozenOn hb1 (v := .int .i64 ah) (by go_simp) (by go_simp), nbTrans (nbAlloc (nbAlloc (nbAlloc (Below.refl _ _) _) _) _) hb1⟩
    have c0 : w1.cell? ⟨w.heap.size, 0, none⟩ = some (.int .i64 al) := hC.1
    have c1 : w1.cell? ⟨w.heap.size, 1, none⟩ = some (.int .i64 ah) := hC.2.1
    have c2 : w1.cell? ⟨w.heap.size + 1, 0, none⟩ = some (.int .i64 bl) := hC.2.2.1
    have c3 : w1.cell? ⟨w.heap.size + 1, 1, none⟩ = some (.int .i64 bh) := hC.2.2.2.1
    have c4 : w1.cell? ⟨w.heap.size + 1 + 1, 0, none⟩ = some (.int .i64 0) := hC.2.2.2.2.1
    have c5 : w1.cell? ⟨w.heap.size + 1 + 1, 1, none⟩ = some (.int .i64 0) := hC.2.2.2.2.2.1
    have c6 : w1.frozen? ⟨w.heap.size + 1 + 1, 0, none⟩ = false := hC.2.2.2.2.2.2.1
    have c7 : w1.frozen? ⟨w.heap.size + 1 + 1, 1, none⟩ = false := hC.2.2.2.2.2.2.2.1
    have c8 : w1.frozen? ⟨w.heap.size, 0, none⟩ = false := hC.2.2.2.2.2.2.2.2.1
    have c9 : w1.frozen? ⟨w.heap.size, 1, none⟩ = false := hC.2.2.2.2.2.2.2.2.2.1
    have c10 : Below w.heap.size w w1 := hC.2.2.2.2.2.2.2.2.2.2
    go_wp2_with fail
    refine bodyPost_ret (v := .agg #[.int .i64 al, .int .i64 bh]) (by simp [results, Try.results64, go_sem, *]) rfl ⟨rfl, ?_⟩
    repeat (first | exact c10 | refine Below.setCell ?_ (by simp; try omega) _)
  · rw [show max al bl = al by omega, show min ah bh = ah by omega]
    go_enter Try.func64, Try.ntmps64
    go_wp2_with fail
    refine (specMeets_c _ _ _ _ _).mono ?_
    rintro e w1 ⟨rfl, hb1⟩
    have hC : bC w al ah bl bh w1 := ⟨cellOn hb1 (by go_simp), cellOn hb1 (by go_simp), cellOn hb1 (by go_simp), cellOn hb1 (by go_simp), cellOn hb1 (by go_simp), cellOn hb1 (by go_simp), frozenOn hb1 (v := .int .i64 0) (by go_simp) (by go_simp), frozenOn hb1 (v := .int .i64 0) (by go_simp) (by go_simp), frozenOn hb1 (v := .int .i64 al) (by go_simp) (by go_simp), frozenOn hb1 (v := .int .i64 ah) (by go_simp) (by go_simp), nbTrans (nbAlloc (nbAlloc (nbAlloc (Below.refl _ _) _) _) _) hb1⟩
    have c0 : w1.cell? ⟨w.heap.size, 0, none⟩ = some (.int .i64 al) := hC.1
    have c1 : w1.cell? ⟨w.heap.size, 1, none⟩ = some (.int .i64 ah) := hC.2.1
    have c2 : w1.cell? ⟨w.heap.size + 1, 0, none⟩ = some (.int .i64 bl) := hC.2.2.1
    have c3 : w1.cell? ⟨w.heap.size + 1, 1, none⟩ = some (.int .i64 bh) := hC.2.2.2.1
    have c4 : w1.cell? ⟨w.heap.size + 1 + 1, 0, none⟩ = some (.int .i64 0) := hC.2.2.2.2.1
    have c5 : w1.cell? ⟨w.heap.size + 1 + 1, 1, none⟩ = some (.int .i64 0) := hC.2.2.2.2.2.1
    have c6 : w1.frozen? ⟨w.heap.size + 1 + 1, 0, none⟩ = false := hC.2.2.2.2.2.2.1
    have c7 : w1.frozen? ⟨w.heap.size + 1 + 1, 1, none⟩ = false := hC.2.2.2.2.2.2.2.1
    have c8 : w1.frozen? ⟨w.heap.size, 0, none⟩ = false := hC.2.2.2.2.2.2.2.2.1
    have c9 : w1.frozen? ⟨w.heap.size, 1, none⟩ = false := hC.2.2.2.2.2.2.2.2.2.1
    have c10 : Below w.heap.size w w1 := hC.2.2.2.2.2.2.2.2.2.2
    go_wp2_with fail
    refine bodyPost_ret (v := .agg #[.int .i64 al, .int .i64 ah]) (by simp [results, Try.results64, go_sem, *]) rfl ⟨rfl, ?_⟩
    repeat (first | exact c10 | refine Below.setCell ?_ (by simp; try omega) _)

set_option maxHeartbeats 1000000 in
theorem implBoth_no (al ah bl bh : Int) (w : World) (hm : mB al ah bl bh = false) :
    Calls Try.prog 66 #[.agg #[.int .i64 al, .int .i64 ah], .agg #[.int .i64 bl, .int .i64 bh]] w fun e w' => e = .returned (.agg #[.int .i64 0, .int .i64 0]) ∧ Below w.heap.size w w' := by
  go_enter Try.func66, Try.ntmps66
  go_wp2_with fail
  refine (implMeets_c _ _ _ _ _).mono ?_
  rintro e w1 ⟨rfl, hb1⟩
  have hC : bC w al ah bl bh w1 := ⟨cellOn hb1 (by go_simp), cellOn hb1 (by go_simp), cellOn hb1 (by go_simp), cellOn hb1 (by go_simp), cellOn hb1 (by go_simp), cellOn hb1 (by go_simp), frozenOn hb1 (v := .int .i64 0) (by go_simp) (by go_simp), frozenOn hb1 (v := .int .i64 0) (by go_simp) (by go_simp), frozenOn hb1 (v := .int .i64 al) (by go_simp) (by go_simp), frozenOn hb1 (v := .int .i64 ah) (by go_simp) (by go_simp), nbTrans (nbAlloc (nbAlloc (nbAlloc (Below.refl _ _) _) _) _) hb1⟩
  have c0 : w1.cell? ⟨w.heap.size, 0, none⟩ = some (.int .i64 al) := hC.1
  have c1 : w1.cell? ⟨w.heap.size, 1, none⟩ = some (.int .i64 ah) := hC.2.1
  have c2 : w1.cell? ⟨w.heap.size + 1, 0, none⟩ = some (.int .i64 bl) := hC.2.2.1
  have c3 : w1.cell? ⟨w.heap.size + 1, 1, none⟩ = some (.int .i64 bh) := hC.2.2.2.1
  have c4 : w1.cell? ⟨w.heap.size + 1 + 1, 0, none⟩ = some (.int .i64 0) := hC.2.2.2.2.1
  have c5 : w1.cell? ⟨w.heap.size + 1 + 1, 1, none⟩ = some (.int .i64 0) := hC.2.2.2.2.2.1
  have c6 : w1.frozen? ⟨w.heap.size + 1 + 1, 0, none⟩ = false := hC.2.2.2.2.2.2.1
  have c7 : w1.frozen? ⟨w.heap.size + 1 + 1, 1, none⟩ = false := hC.2.2.2.2.2.2.2.1
  have c8 : w1.frozen? ⟨w.heap.size, 0, none⟩ = false := hC.2.2.2.2.2.2.2.2.1
  have c9 : w1.frozen? ⟨w.heap.size, 1, none⟩ = false := hC.2.2.2.2.2.2.2.2.2.1
  have c10 : Below w.heap.size w w1 := hC.2.2.2.2.2.2.2.2.2.2
  go_wp2_with fail
  exact bodyPost_ret (v := .agg #[.int .i64 0, .int .i64 0]) (by simp [results, Try.results66, go_sem, c4, c5]) rfl ⟨rfl, nbSet2 c10 (by omega)⟩

set_option maxHeartbeats 1000000 in
theorem implBoth_yes (al ah bl bh : Int) (w : World) (hm : mB al ah bl bh = true) :
    Calls Try.prog 66 #[.agg #[.int .i64 al, .int .i64 ah], .agg #[.int .i64 bl, .int .i64 bh]] w fun e w' => e = .returned (.agg #[.int .i64 (max al bl), .int .i64 (min ah bh)]) ∧ Below w.heap.size w w' := by
  go_enter Try.func66, Try.ntmps66
  go_wp2_with fail
  refine (implMeets_c _ _ _ _ _).mono ?_
  rintro e w1 ⟨rfl, hb1⟩
  have hC : bC w al ah bl bh w1 := ⟨cellOn hb1 (by go_simp), cellOn hb1 (by go_simp), cellOn hb1 (by go_simp), cellOn hb1 (by go_simp), cellOn hb1 (by go_simp), cellOn hb1 (by go_simp), frozenOn hb1 (v := .int .i64 0) (by go_simp) (by go_simp), frozenOn hb1 (v := .int .i64 0) (by go_simp) (by go_simp), frozenOn hb1 (v := .int .i64 al) (by go_simp) (by go_simp), frozenOn hb1 (v := .int .i64 ah) (by go_simp) (by go_simp), nbTrans (nbAlloc (nbAlloc (nbAlloc (Below.refl _ _) _) _) _) hb1⟩
  go_wp2_with fail
  refine region_last (bC w al ah bl bh) 6 rfl (by kernel_rfl) (by kernel_rfl) (by kernel_rfl) ?_ ?_
  · obtain ⟨q0, q1, q2, q3, q4, q5, q6, q7, q8, q9, q10⟩ := hC
    exact ⟨q0, q1, q2, q3, q4, q5, q6, q7, q8, q9, q10.drew⟩
  apply Exists.intro
  refine ⟨fun hN => ?_, fun w9 h9 => ?_⟩
  · simp only [List.set_cons_succ, List.set_cons_zero, idle]
    have k0 : ∀ d : Kept (bC w al ah bl bh), d.w.cell? ⟨w.heap.size, 0, none⟩ = some (.int .i64 al) := fun d => d.h.1
    have k1 : ∀ d : Kept (bC w al ah bl bh), d.w.cell? ⟨w.heap.size, 1, none⟩ = some (.int .i64 ah) := fun d => d.h.2.1
    have k2 : ∀ d : Kept (bC w al ah bl bh), d.w.cell? ⟨w.heap.size + 1, 0, none⟩ = some (.int .i64 bl) := fun d => d.h.2.2.1
    have k3 : ∀ d : Kept (bC w al ah bl bh), d.w.cell? ⟨w.heap.size + 1, 1, none⟩ = some (.int .i64 bh) := fun d => d.h.2.2.2.1
    have k4 : ∀ d : Kept (bC w al ah bl bh), d.w.cell? ⟨w.heap.size + 1 + 1, 0, none⟩ = some (.int .i64 0) := fun d => d.h.2.2.2.2.1
    have k5 : ∀ d : Kept (bC w al ah bl bh), d.w.cell? ⟨w.heap.size + 1 + 1, 1, none⟩ = some (.int .i64 0) := fun d => d.h.2.2.2.2.2.1
    repeat (go_big_quiet_step (first | (go_at_call 68; exact call_kept _ bC_on (intervalOf_c _ _ _)) | (go_at_call 78; exact call_kept _ bC_on (shared_c _ _ _ _ _)) | (go_at_call 67; exact call_kept _ bC_on (boundOf_c _ _ _))))
    exact wpQuiet_nil rfl
  have c0 : w9.cell? ⟨w.heap.size, 0, none⟩ = some (.int .i64 al) := h9.1
  have c1 : w9.cell? ⟨w.heap.size, 1, none⟩ = some (.int .i64 ah) := h9.2.1
  have c2 : w9.cell? ⟨w.heap.size + 1, 0, none⟩ = some (.int .i64 bl) := h9.2.2.1
  have c3 : w9.cell? ⟨w.heap.size + 1, 1, none⟩ = some (.int .i64 bh) := h9.2.2.2.1
  have c4 : w9.cell? ⟨w.heap.size + 1 + 1, 0, none⟩ = some (.int .i64 0) := h9.2.2.2.2.1
  have c5 : w9.cell? ⟨w.heap.size + 1 + 1, 1, none⟩ = some (.int .i64 0) := h9.2.2.2.2.2.1
  have c6 : w9.frozen? ⟨w.heap.size + 1 + 1, 0, none⟩ = false := h9.2.2.2.2.2.2.1
  have c7 : w9.frozen? ⟨w.heap.size + 1 + 1, 1, none⟩ = false := h9.2.2.2.2.2.2.2.1
  have c8 : w9.frozen? ⟨w.heap.size, 0, none⟩ = false := h9.2.2.2.2.2.2.2.2.1
  have c9 : w9.frozen? ⟨w.heap.size, 1, none⟩ = false := h9.2.2.2.2.2.2.2.2.2.1
  have c10 : Below w.heap.size w w9 := h9.2.2.2.2.2.2.2.2.2.2
  go_simp
  go_wp2
  exact bodyPost_ret (v := .agg #[.int .i64 (max al bl), .int .i64 (min ah bh)]) (by simp [results, Try.results66, go_sem, c4, c5]) rfl ⟨rfl, nbSet2 c10 (by omega)⟩

theorem specBoth_c (al ah bl bh : Int) (w : World) :
    Calls Try.prog 64 #[.agg #[.int .i64 al, .int .i64 ah], .agg #[.int .i64 bl, .int .i64 bh]] w fun e w' => e = .returned (.agg #[.int .i64 (if mB al ah bl bh then max al bl else 0), .int .i64 (if mB al ah bl bh then min ah bh else 0)]) ∧ Below w.heap.size w w' := by
  cases hm : mB al ah bl bh
  · exact specBoth_no al ah bl bh w hm
  · exact specBoth_yes al ah bl bh w hm
theorem implBoth_c (al ah bl bh : Int) (w : World) :
    Calls Try.prog 66 #[.agg #[.int .i64 al, .int .i64 ah], .agg #[.int .i64 bl, .int .i64 bh]] w fun e w' => e = .returned (.agg #[.int .i64 (if mB al ah bl bh then max al bl else 0), .int .i64 (if mB al ah bl bh then min ah bh else 0)]) ∧ Below w.heap.size w w' := by
  cases hm : mB al ah bl bh
  · exact implBoth_no al ah bl bh w hm
  · exact implBoth_yes al ah bl bh w hm

end Go.Proofs.Ytmhppadblddjoaa
