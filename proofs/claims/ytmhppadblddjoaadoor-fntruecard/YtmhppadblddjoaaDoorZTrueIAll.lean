import Derived.Test.YtmhppadblddjoaaDoorZTrueIAm
import Derived.Test.YtmhppadblddjoaaDoorZTrueMkOk
/- The program's step from event to event. -/
namespace Go.Proofs.YtmhppadblddjoaaDoor
open Go.RowKit Go.Maps

theorem as11 (v : Value) (w : World) : (Instr.typeAssert (.iface 126 v) 79 126 true).run Tryd.prog w = .ok (.tuple #[v, .bool true]) w := by kernel_rfl
theorem as21 (v : Value) (w : World) : (Instr.typeAssert (.iface 128 v) 79 126 true).run Tryd.prog w = .ok (.tuple #[.int .i64 0, .bool false]) w := by kernel_rfl
theorem as22 (v : Value) (w : World) : (Instr.typeAssert (.iface 128 v) 79 128 true).run Tryd.prog w = .ok (.tuple #[v, .bool true]) w := by kernel_rfl
theorem as31 (v : Value) (w : World) : (Instr.typeAssert (.iface 131 v) 79 126 true).run Tryd.prog w = .ok (.tuple #[.int .i64 0, .bool false]) w := by kernel_rfl
theorem as32 (v : Value) (w : World) : (Instr.typeAssert (.iface 131 v) 79 128 true).run Tryd.prog w = .ok (.tuple #[.int .i64 0, .bool false]) w := by kernel_rfl
theorem as34 (v : Value) (w : World) : (Instr.typeAssert (.iface 131 v) 79 129 true).run Tryd.prog w = .ok (.tuple #[.int .i64 0, .bool false]) w := by kernel_rfl
theorem as41 (v : Value) (w : World) : (Instr.typeAssert (.iface 129 v) 79 126 true).run Tryd.prog w = .ok (.tuple #[.int .i64 0, .bool false]) w := by kernel_rfl
theorem as42 (v : Value) (w : World) : (Instr.typeAssert (.iface 129 v) 79 128 true).run Tryd.prog w = .ok (.tuple #[.int .i64 0, .bool false]) w := by kernel_rfl
theorem as44 (v : Value) (w : World) : (Instr.typeAssert (.iface 129 v) 79 129 true).run Tryd.prog w = .ok (.tuple #[v, .bool true]) w := by kernel_rfl

set_option maxHeartbeats 1000000 in
theorem after_1 (s j m g o : Int) (q : Nat) (l h : Int) (kn : Bool) (si la od : Int) (z : Int) (w : World) (l' h' : Int) (kn' : Bool) (si' la' od' : Int) (hc : Hid (∀ w', Below w.heap.size w w' → Calls Tryd.prog 80 #[.agg #[.int .i64 s, .int .i64 j, .int .i64 m, .int .i64 g, .int .i64 o, .map (some q)], .agg #[.int .i64 l, .int .i64 h, .bool kn, .int .i64 si, .int .i64 la, .int .i64 od], .int .i64 z] w' fun e w'' => e = .returned (.agg #[.int .i64 l', .int .i64 h', .bool kn', .int .i64 si', .int .i64 la', .int .i64 od']) ∧ Below w'.heap.size w' w'')) :
    Calls Tryd.prog 38 #[.agg #[.int .i64 s, .int .i64 j, .int .i64 m, .int .i64 g, .int .i64 o, .map (some q)], .agg #[.int .i64 l, .int .i64 h, .bool kn, .int .i64 si, .int .i64 la, .int .i64 od], .iface 126 (.int .i64 z)] w fun e w' => e = .returned (.agg #[.int .i64 l', .int .i64 h', .bool kn', .int .i64 si', .int .i64 la', .int .i64 od']) ∧ Below w.heap.size w w' := by
  have q11 := as11 (.int .i64 z)
  go_enter Tryd.func38, Tryd.ntmps38
  go_wp2_with fail
  refine (hc.out _ (nbAlloc (nbAlloc (nbAlloc (Below.refl _ _) _) _) _)).mono ?_
  rintro e w1 ⟨rfl, hb1⟩
  have hC1 : afC w s j m g o q l h kn si la od w1 := ⟨cellOn hb1 (by go_simp), cellOn hb1 (by go_simp), cellOn hb1 (by go_simp), cellOn hb1 (by go_simp), cellOn hb1 (by go_simp), cellOn hb1 (by go_simp), cellOn hb1 (by go_simp), cellOn hb1 (by go_simp), cellOn hb1 (by go_simp), cellOn hb1 (by go_simp), cellOn hb1 (by go_simp), cellOn hb1 (by go_simp), cellOn hb1 (by go_simp), cellOn hb1 (by go_simp), cellOn hb1 (by go_simp), cellOn hb1 (by go_simp), cellOn hb1 (by go_simp), cellOn hb1 (by go_simp), frozenOn hb1 (v := .int .i64 l) (by go_simp) (by go_simp), frozenOn hb1 (v := .int .i64 h) (by go_simp) (by go_simp), frozenOn hb1 (v := .bool kn) (by go_simp) (by go_simp), frozenOn hb1 (v := .int .i64 si) (by go_simp) (by go_simp), frozenOn hb1 (v := .int .i64 la) (by go_simp) (by go_simp), frozenOn hb1 (v := .int .i64 od) (by go_simp) (by go_simp), frozenOn hb1 (v := .int .i64 0) (by go_simp) (by go_simp), frozenOn hb1 (v := .int .i64 0) (by go_simp) (by go_simp), frozenOn hb1 (v := .bool false) (by go_simp) (by go_simp), frozenOn hb1 (v := .int .i64 0) (by go_simp) (by go_simp), frozenOn hb1 (v := .int .i64 0) (by go_simp) (by go_simp), frozenOn hb1 (v := .int .i64 0) (by go_simp) (by go_simp), nbTrans (nbAlloc (nbAlloc (nbAlloc (Below.refl _ _) _) _) _) hb1⟩
  have c0 : w1.cell? ⟨w.heap.size, 0, none⟩ = some (.int .i64 s) := hC1.1
  have c1 : w1.cell? ⟨w.heap.size, 1, none⟩ = some (.int .i64 j) := hC1.2.1
  have c2 : w1.cell? ⟨w.heap.size, 2, none⟩ = some (.int .i64 m) := hC1.2.2.1
  have c3 : w1.cell? ⟨w.heap.size, 3, none⟩ = some (.int .i64 g) := hC1.2.2.2.1
  have c4 : w1.cell? ⟨w.heap.size, 4, none⟩ = some (.int .i64 o) := hC1.2.2.2.2.1
  have c5 : w1.cell? ⟨w.heap.size, 5, none⟩ = some (.map (some q)) := hC1.2.2.2.2.2.1
  have c6 : w1.cell? ⟨w.heap.size + 1, 0, none⟩ = some (.int .i64 l) := hC1.2.2.2.2.2.2.1
  have c7 : w1.cell? ⟨w.heap.size + 1, 1, none⟩ = some (.int .i64 h) := hC1.2.2.2.2.2.2.2.1
  have c8 : w1.cell? ⟨w.heap.size + 1, 2, none⟩ = some (.bool kn) := hC1.2.2.2.2.2.2.2.2.1
  have c9 : w1.cell? ⟨w.heap.size + 1, 3, none⟩ = some (.int .i64 si) := hC1.2.2.2.2.2.2.2.2.2.1
  have c10 : w1.cell? ⟨w.heap.size + 1, 4, none⟩ = some (.int .i64 la) := hC1.2.2.2.2.2.2.2.2.2.2.1
  have c11 : w1.cell? ⟨w.heap.size + 1, 5, none⟩ = some (.int .i64 od) := hC1.2.2.2.2.2.2.2.2.2.2.2.1
  have c12 : w1.cell? ⟨w.heap.size + 1 + 1, 0, none⟩ = some (.int .i64 0) := hC1.2.2.2.2.2.2.2.2.2.2.2.2.1
  have c13 : w1.cell? ⟨w.heap.size + 1 + 1, 1, none⟩ = some (.int .i64 0) := hC1.2.2.2.2.2.2.2.2.2.2.2.2.2.1
  have c14 : w1.cell? ⟨w.heap.size + 1 + 1, 2, none⟩ = some (.bool false) := hC1.2.2.2.2.2.2.2.2.2.2.2.2.2.2.1
  have c15 : w1.cell? ⟨w.heap.size + 1 + 1, 3, none⟩ = some (.int .i64 0) := hC1.2.2.2.2.2.2.2.2.2.2.2.2.2.2.2.1
  have c16 : w1.cell? ⟨w.heap.size + 1 + 1, 4, none⟩ = some (.int .i64 0) := hC1.2.2.2.2.2.2.2.2.2.2.2.2.2.2.2.2.1
  have c17 : w1.cell? ⟨w.heap.size + 1 + 1, 5, none⟩ = some (.int .i64 0) := hC1.2.2.2.2.2.2.2.2.2.2.2.2.2.2.2.2.2.1
  have c18 : w1.frozen? ⟨w.heap.size + 1, 0, none⟩ = false := hC1.2.2.2.2.2.2.2.2.2.2.2.2.2.2.2.2.2.2.1
  have c19 : w1.frozen? ⟨w.heap.size + 1, 1, none⟩ = false := hC1.2.2.2.2.2.2.2.2.2.2.2.2.2.2.2.2.2.2.2.1
  have c20 : w1.frozen? ⟨w.heap.size + 1, 2, none⟩ = false := hC1.2.2.2.2.2.2.2.2.2.2.2.2.2.2.2.2.2.2.2.2.1
  have c21 : w1.frozen? ⟨w.heap.size + 1, 3, none⟩ = false := hC1.2.2.2.2.2.2.2.2.2.2.2.2.2.2.2.2.2.2.2.2.2.1
  have c22 : w1.frozen? ⟨w.heap.size + 1, 4, none⟩ = false := hC1.2.2.2.2.2.2.2.2.2.2.2.2.2.2.2.2.2.2.2.2.2.2.1
  have c23 : w1.frozen? ⟨w.heap.size + 1, 5, none⟩ = false := hC1.2.2.2.2.2.2.2.2.2.2.2.2.2.2.2.2.2.2.2.2.2.2.2.1
  have c24 : w1.frozen? ⟨w.heap.size + 1 + 1, 0, none⟩ = false := hC1.2.2.2.2.2.2.2.2.2.2.2.2.2.2.2.2.2.2.2.2.2.2.2.2.1
  have c25 : w1.frozen? ⟨w.heap.size + 1 + 1, 1, none⟩ = false := hC1.2.2.2.2.2.2.2.2.2.2.2.2.2.2.2.2.2.2.2.2.2.2.2.2.2.1
  have c26 : w1.frozen? ⟨w.heap.size + 1 + 1, 2, none⟩ = false := hC1.2.2.2.2.2.2.2.2.2.2.2.2.2.2.2.2.2.2.2.2.2.2.2.2.2.2.1
  have c27 : w1.frozen? ⟨w.heap.size + 1 + 1, 3, none⟩ = false := hC1.2.2.2.2.2.2.2.2.2.2.2.2.2.2.2.2.2.2.2.2.2.2.2.2.2.2.2.1
  have c28 : w1.frozen? ⟨w.heap.size + 1 + 1, 4, none⟩ = false := hC1.2.2.2.2.2.2.2.2.2.2.2.2.2.2.2.2.2.2.2.2.2.2.2.2.2.2.2.2.1
  have c29 : w1.frozen? ⟨w.heap.size + 1 + 1, 5, none⟩ = false := hC1.2.2.2.2.2.2.2.2.2.2.2.2.2.2.2.2.2.2.2.2.2.2.2.2.2.2.2.2.2.1
  have c30 : Below w.heap.size w w1 := hC1.2.2.2.2.2.2.2.2.2.2.2.2.2.2.2.2.2.2.2.2.2.2.2.2.2.2.2.2.2.2
  have hq2 : w.heap.size ≤ w.heap.size + 1 + 1 := by omega
  go_wp2_with fail
  exact bodyPost_ret (v := .agg #[.int .i64 l', .int .i64 h', .bool kn', .int .i64 si', .int .i64 la', .int .i64 od']) (by simp [results, Tryd.results38, go_sem, *]) rfl ⟨rfl, (nbSetX (nbSetX (nbSetX (nbSetX (nbSetX (nbSetX c30 hq2) hq2) hq2) hq2) hq2) hq2)⟩

set_option maxHeartbeats 1000000 in
theorem after_2 (s j m g o : Int) (q : Nat) (l h : Int) (kn : Bool) (si la od : Int) (z : Int) (w : World) (l' h' : Int) (kn' : Bool) (si' la' od' : Int) (hc : Hid (∀ w', Below w.heap.size w w' → Calls Tryd.prog 81 #[.agg #[.int .i64 s, .int .i64 j, .int .i64 m, .int .i64 g, .int .i64 o, .map (some q)], .agg #[.int .i64 l, .int .i64 h, .bool kn, .int .i64 si, .int .i64 la, .int .i64 od], .int .i64 z] w' fun e w'' => e = .returned (.agg #[.int .i64 l', .int .i64 h', .bool kn', .int .i64 si', .int .i64 la', .int .i64 od']) ∧ Below w'.heap.size w' w'')) :
    Calls Tryd.prog 38 #[.agg #[.int .i64 s, .int .i64 j, .int .i64 m, .int .i64 g, .int .i64 o, .map (some q)], .agg #[.int .i64 l, .int .i64 h, .bool kn, .int .i64 si, .int .i64 la, .int .i64 od], .iface 128 (.int .i64 z)] w fun e w' => e = .returned (.agg #[.int .i64 l', .int .i64 h', .bool kn', .int .i64 si', .int .i64 la', .int .i64 od']) ∧ Below w.heap.size w w' := by
  have q21 := as21 (.int .i64 z)
  have q22 := as22 (.int .i64 z)
  go_enter Tryd.func38, Tryd.ntmps38
  go_wp2_with fail
  refine (hc.out _ (nbAlloc (nbAlloc (nbAlloc (Below.refl _ _) _) _) _)).mono ?_
  rintro e w1 ⟨rfl, hb1⟩
  have hC1 : afC w s j m g o q l h kn si la od w1 := ⟨cellOn hb1 (by go_simp), cellOn hb1 (by go_simp), cellOn hb1 (by go_simp), cellOn hb1 (by go_simp), cellOn hb1 (by go_simp), cellOn hb1 (by go_simp), cellOn hb1 (by go_simp), cellOn hb1 (by go_simp), cellOn hb1 (by go_simp), cellOn hb1 (by go_simp), cellOn hb1 (by go_simp), cellOn hb1 (by go_simp), cellOn hb1 (by go_simp), cellOn hb1 (by go_simp), cellOn hb1 (by go_simp), cellOn hb1 (by go_simp), cellOn hb1 (by go_simp), cellOn hb1 (by go_simp), frozenOn hb1 (v := .int .i64 l) (by go_simp) (by go_simp), frozenOn hb1 (v := .int .i64 h) (by go_simp) (by go_simp), frozenOn hb1 (v := .bool kn) (by go_simp) (by go_simp), frozenOn hb1 (v := .int .i64 si) (by go_simp) (by go_simp), frozenOn hb1 (v := .int .i64 la) (by go_simp) (by go_simp), frozenOn hb1 (v := .int .i64 od) (by go_simp) (by go_simp), frozenOn hb1 (v := .int .i64 0) (by go_simp) (by go_simp), frozenOn hb1 (v := .int .i64 0) (by go_simp) (by go_simp), frozenOn hb1 (v := .bool false) (by go_simp) (by go_simp), frozenOn hb1 (v := .int .i64 0) (by go_simp) (by go_simp), frozenOn hb1 (v := .int .i64 0) (by go_simp) (by go_simp), frozenOn hb1 (v := .int .i64 0) (by go_simp) (by go_simp), nbTrans (nbAlloc (nbAlloc (nbAlloc (Below.refl _ _) _) _) _) hb1⟩
  have c0 : w1.cell? ⟨w.heap.size, 0, none⟩ = some (.int .i64 s) := hC1.1
  have c1 : w1.cell? ⟨w.heap.size, 1, none⟩ = some (.int .i64 j) := hC1.2.1
  have c2 : w1.cell? ⟨w.heap.size, 2, none⟩ = some (.int .i64 m) := hC1.2.2.1
  have c3 : w1.cell? ⟨w.heap.size, 3, none⟩ = some (.int .i64 g) := hC1.2.2.2.1
  have c4 : w1.cell? ⟨w.heap.size, 4, none⟩ = some (.int .i64 o) := hC1.2.2.2.2.1
  have c5 : w1.cell? ⟨w.heap.size, 5, none⟩ = some (.map (some q)) := hC1.2.2.2.2.2.1
  have c6 : w1.cell? ⟨w.heap.size + 1, 0, none⟩ = some (.int .i64 l) := hC1.2.2.2.2.2.2.1
  have c7 : w1.cell? ⟨w.heap.size + 1, 1, none⟩ = some (.int .i64 h) := hC1.2.2.2.2.2.2.2.1
  have c8 : w1.cell? ⟨w.heap.size + 1, 2, none⟩ = some (.bool kn) := hC1.2.2.2.2.2.2.2.2.1
  have c9 : w1.cell? ⟨w.heap.size + 1, 3, none⟩ = some (.int .i64 si) := hC1.2.2.2.2.2.2.2.2.2.1
  have c10 : w1.cell? ⟨w.heap.size + 1, 4, none⟩ = some (.int .i64 la) := hC1.2.2.2.2.2.2.2.2.2.2.1
  have c11 : w1.cell? ⟨w.heap.size + 1, 5, none⟩ = some (.int .i64 od) := hC1.2.2.2.2.2.2.2.2.2.2.2.1
  have c12 : w1.cell? ⟨w.heap.size + 1 + 1, 0, none⟩ = some (.int .i64 0) := hC1.2.2.2.2.2.2.2.2.2.2.2.2.1
  have c13 : w1.cell? ⟨w.heap.size + 1 + 1, 1, none⟩ = some (.int .i64 0) := hC1.2.2.2.2.2.2.2.2.2.2.2.2.2.1
  have c14 : w1.cell? ⟨w.heap.size + 1 + 1, 2, none⟩ = some (.bool false) := hC1.2.2.2.2.2.2.2.2.2.2.2.2.2.2.1
  have c15 : w1.cell? ⟨w.heap.size + 1 + 1, 3, none⟩ = some (.int .i64 0) := hC1.2.2.2.2.2.2.2.2.2.2.2.2.2.2.2.1
  have c16 : w1.cell? ⟨w.heap.size + 1 + 1, 4, none⟩ = some (.int .i64 0) := hC1.2.2.2.2.2.2.2.2.2.2.2.2.2.2.2.2.1
  have c17 : w1.cell? ⟨w.heap.size + 1 + 1, 5, none⟩ = some (.int .i64 0) := hC1.2.2.2.2.2.2.2.2.2.2.2.2.2.2.2.2.2.1
  have c18 : w1.frozen? ⟨w.heap.size + 1, 0, none⟩ = false := hC1.2.2.2.2.2.2.2.2.2.2.2.2.2.2.2.2.2.2.1
  have c19 : w1.frozen? ⟨w.heap.size + 1, 1, none⟩ = false := hC1.2.2.2.2.2.2.2.2.2.2.2.2.2.2.2.2.2.2.2.1
  have c20 : w1.frozen? ⟨w.heap.size + 1, 2, none⟩ = false := hC1.2.2.2.2.2.2.2.2.2.2.2.2.2.2.2.2.2.2.2.2.1
  have c21 : w1.frozen? ⟨w.heap.size + 1, 3, none⟩ = false := hC1.2.2.2.2.2.2.2.2.2.2.2.2.2.2.2.2.2.2.2.2.2.1
  have c22 : w1.frozen? ⟨w.heap.size + 1, 4, none⟩ = false := hC1.2.2.2.2.2.2.2.2.2.2.2.2.2.2.2.2.2.2.2.2.2.2.1
  have c23 : w1.frozen? ⟨w.heap.size + 1, 5, none⟩ = false := hC1.2.2.2.2.2.2.2.2.2.2.2.2.2.2.2.2.2.2.2.2.2.2.2.1
  have c24 : w1.frozen? ⟨w.heap.size + 1 + 1, 0, none⟩ = false := hC1.2.2.2.2.2.2.2.2.2.2.2.2.2.2.2.2.2.2.2.2.2.2.2.2.1
  have c25 : w1.frozen? ⟨w.heap.size + 1 + 1, 1, none⟩ = false := hC1.2.2.2.2.2.2.2.2.2.2.2.2.2.2.2.2.2.2.2.2.2.2.2.2.2.1
  have c26 : w1.frozen? ⟨w.heap.size + 1 + 1, 2, none⟩ = false := hC1.2.2.2.2.2.2.2.2.2.2.2.2.2.2.2.2.2.2.2.2.2.2.2.2.2.2.1
  have c27 : w1.frozen? ⟨w.heap.size + 1 + 1, 3, none⟩ = false := hC1.2.2.2.2.2.2.2.2.2.2.2.2.2.2.2.2.2.2.2.2.2.2.2.2.2.2.2.1
  have c28 : w1.frozen? ⟨w.heap.size + 1 + 1, 4, none⟩ = false := hC1.2.2.2.2.2.2.2.2.2.2.2.2.2.2.2.2.2.2.2.2.2.2.2.2.2.2.2.2.1
  have c29 : w1.frozen? ⟨w.heap.size + 1 + 1, 5, none⟩ = false := hC1.2.2.2.2.2.2.2.2.2.2.2.2.2.2.2.2.2.2.2.2.2.2.2.2.2.2.2.2.2.1
  have c30 : Below w.heap.size w w1 := hC1.2.2.2.2.2.2.2.2.2.2.2.2.2.2.2.2.2.2.2.2.2.2.2.2.2.2.2.2.2.2
  have hq2 : w.heap.size ≤ w.heap.size + 1 + 1 := by omega
  go_wp2_with fail
  exact bodyPost_ret (v := .agg #[.int .i64 l', .int .i64 h', .bool kn', .int .i64 si', .int .i64 la', .int .i64 od']) (by simp [results, Tryd.results38, go_sem, *]) rfl ⟨rfl, (nbSetX (nbSetX (nbSetX (nbSetX (nbSetX (nbSetX c30 hq2) hq2) hq2) hq2) hq2) hq2)⟩

set_option maxHeartbeats 1000000 in
theorem after_4 (s j m g o : Int) (q : Nat) (l h : Int) (kn : Bool) (si la od : Int) (z : Int) (w : World) (l' h' : Int) (kn' : Bool) (si' la' od' : Int) (hc : Hid (∀ w', Below w.heap.size w w' → Calls Tryd.prog 82 #[.agg #[.int .i64 l, .int .i64 h, .bool kn, .int .i64 si, .int .i64 la, .int .i64 od]] w' fun e w'' => e = .returned (.agg #[.int .i64 l', .int .i64 h', .bool kn', .int .i64 si', .int .i64 la', .int .i64 od']) ∧ Below w'.heap.size w' w'')) :
    Calls Tryd.prog 38 #[.agg #[.int .i64 s, .int .i64 j, .int .i64 m, .int .i64 g, .int .i64 o, .map (some q)], .agg #[.int .i64 l, .int .i64 h, .bool kn, .int .i64 si, .int .i64 la, .int .i64 od], .iface 129 (.int .i64 z)] w fun e w' => e = .returned (.agg #[.int .i64 l', .int .i64 h', .bool kn', .int .i64 si', .int .i64 la', .int .i64 od']) ∧ Below w.heap.size w w' := by
  have q41 := as41 (.int .i64 z)
  have q42 := as42 (.int .i64 z)
  have q44 := as44 (.int .i64 z)
  go_enter Tryd.func38, Tryd.ntmps38
  go_wp2_with fail
  refine (hc.out _ (nbAlloc (nbAlloc (nbAlloc (Below.refl _ _) _) _) _)).mono ?_
  rintro e w1 ⟨rfl, hb1⟩
  have hC1 : afC w s j m g o q l h kn si la od w1 := ⟨cellOn hb1 (by go_simp), cellOn hb1 (by go_simp), cellOn hb1 (by go_simp), cellOn hb1 (by go_simp), cellOn hb1 (by go_simp), cellOn hb1 (by go_simp), cellOn hb1 (by go_simp), cellOn hb1 (by go_simp), cellOn hb1 (by go_simp), cellOn hb1 (by go_simp), cellOn hb1 (by go_simp), cellOn hb1 (by go_simp), cellOn hb1 (by go_simp), cellOn hb1 (by go_simp), cellOn hb1 (by go_simp), cellOn hb1 (by go_simp), cellOn hb1 (by go_simp), cellOn hb1 (by go_simp), frozenOn hb1 (v := .int .i64 l) (by go_simp) (by go_simp), frozenOn hb1 (v := .int .i64 h) (by go_simp) (by go_simp), frozenOn hb1 (v := .bool kn) (by go_simp) (by go_simp), frozenOn hb1 (v := .int .i64 si) (by go_simp) (by go_simp), frozenOn hb1 (v := .int .i64 la) (by go_simp) (by go_simp), frozenOn hb1 (v := .int .i64 od) (by go_simp) (by go_simp), frozenOn hb1 (v := .int .i64 0) (by go_simp) (by go_simp), frozenOn hb1 (v := .int .i64 0) (by go_simp) (by go_simp), frozenOn hb1 (v := .bool false) (by go_simp) (by go_simp), frozenOn hb1 (v := .int .i64 0) (by go_simp) (by go_simp), frozenOn hb1 (v := .int .i64 0) (by go_simp) (by go_simp), frozenOn hb1 (v := .int .i64 0) (by go_simp) (by go_simp), nbTrans (nbAlloc (nbAlloc (nbAlloc (Below.refl _ _) _) _) _) hb1⟩
  have c0 : w1.cell? ⟨w.heap.size, 0, none⟩ = some (.int .i64 s) := hC1.1
  have c1 : w1.cell? ⟨w.heap.size, 1, none⟩ = some (.int .i64 j) := hC1.2.1
  have c2 : w1.cell? ⟨w.heap.size, 2, none⟩ = some (.int .i64 m) := hC1.2.2.1
  have c3 : w1.cell? ⟨w.heap.size, 3, none⟩ = some (.int .i64 g) := hC1.2.2.2.1
  have c4 : w1.cell? ⟨w.heap.size, 4, none⟩ = some (.int .i64 o) := hC1.2.2.2.2.1
  have c5 : w1.cell? ⟨w.heap.size, 5, none⟩ = some (.map (some q)) := hC1.2.2.2.2.2.1
  have c6 : w1.cell? ⟨w.heap.size + 1, 0, none⟩ = some (.int .i64 l) := hC1.2.2.2.2.2.2.1
  have c7 : w1.cell? ⟨w.heap.size + 1, 1, none⟩ = some (.int .i64 h) := hC1.2.2.2.2.2.2.2.1
  have c8 : w1.cell? ⟨w.heap.size + 1, 2, none⟩ = some (.bool kn) := hC1.2.2.2.2.2.2.2.2.1
  have c9 : w1.cell? ⟨w.heap.size + 1, 3, none⟩ = some (.int .i64 si) := hC1.2.2.2.2.2.2.2.2.2.1
  have c10 : w1.cell? ⟨w.heap.size + 1, 4, none⟩ = some (.int .i64 la) := hC1.2.2.2.2.2.2.2.2.2.2.1
  have c11 : w1.cell? ⟨w.heap.size + 1, 5, none⟩ = some (.int .i64 od) := hC1.2.2.2.2.2.2.2.2.2.2.2.1
  have c12 : w1.cell? ⟨w.heap.size + 1 + 1, 0, none⟩ = some (.int .i64 0) := hC1.2.2.2.2.2.2.2.2.2.2.2.2.1
  have c13 : w1.cell? ⟨w.heap.size + 1 + 1, 1, none⟩ = some (.int .i64 0) := hC1.2.2.2.2.2.2.2.2.2.2.2.2.2.1
  have c14 : w1.cell? ⟨w.heap.size + 1 + 1, 2, none⟩ = some (.bool false) := hC1.2.2.2.2.2.2.2.2.2.2.2.2.2.2.1
  have c15 : w1.cell? ⟨w.heap.size + 1 + 1, 3, none⟩ = some (.int .i64 0) := hC1.2.2.2.2.2.2.2.2.2.2.2.2.2.2.2.1
  have c16 : w1.cell? ⟨w.heap.size + 1 + 1, 4, none⟩ = some (.int .i64 0) := hC1.2.2.2.2.2.2.2.2.2.2.2.2.2.2.2.2.1
  have c17 : w1.cell? ⟨w.heap.size + 1 + 1, 5, none⟩ = some (.int .i64 0) := hC1.2.2.2.2.2.2.2.2.2.2.2.2.2.2.2.2.2.1
  have c18 : w1.frozen? ⟨w.heap.size + 1, 0, none⟩ = false := hC1.2.2.2.2.2.2.2.2.2.2.2.2.2.2.2.2.2.2.1
  have c19 : w1.frozen? ⟨w.heap.size + 1, 1, none⟩ = false := hC1.2.2.2.2.2.2.2.2.2.2.2.2.2.2.2.2.2.2.2.1
  have c20 : w1.frozen? ⟨w.heap.size + 1, 2, none⟩ = false := hC1.2.2.2.2.2.2.2.2.2.2.2.2.2.2.2.2.2.2.2.2.1
  have c21 : w1.frozen? ⟨w.heap.size + 1, 3, none⟩ = false := hC1.2.2.2.2.2.2.2.2.2.2.2.2.2.2.2.2.2.2.2.2.2.1
  have c22 : w1.frozen? ⟨w.heap.size + 1, 4, none⟩ = false := hC1.2.2.2.2.2.2.2.2.2.2.2.2.2.2.2.2.2.2.2.2.2.2.1
  have c23 : w1.frozen? ⟨w.heap.size + 1, 5, none⟩ = false := hC1.2.2.2.2.2.2.2.2.2.2.2.2.2.2.2.2.2.2.2.2.2.2.2.1
  have c24 : w1.frozen? ⟨w.heap.size + 1 + 1, 0, none⟩ = false := hC1.2.2.2.2.2.2.2.2.2.2.2.2.2.2.2.2.2.2.2.2.2.2.2.2.1
  have c25 : w1.frozen? ⟨w.heap.size + 1 + 1, 1, none⟩ = false := hC1.2.2.2.2.2.2.2.2.2.2.2.2.2.2.2.2.2.2.2.2.2.2.2.2.2.1
  have c26 : w1.frozen? ⟨w.heap.size + 1 + 1, 2, none⟩ = false := hC1.2.2.2.2.2.2.2.2.2.2.2.2.2.2.2.2.2.2.2.2.2.2.2.2.2.2.1
  have c27 : w1.frozen? ⟨w.heap.size + 1 + 1, 3, none⟩ = false := hC1.2.2.2.2.2.2.2.2.2.2.2.2.2.2.2.2.2.2.2.2.2.2.2.2.2.2.2.1
  have c28 : w1.frozen? ⟨w.heap.size + 1 + 1, 4, none⟩ = false := hC1.2.2.2.2.2.2.2.2.2.2.2.2.2.2.2.2.2.2.2.2.2.2.2.2.2.2.2.2.1
  have c29 : w1.frozen? ⟨w.heap.size + 1 + 1, 5, none⟩ = false := hC1.2.2.2.2.2.2.2.2.2.2.2.2.2.2.2.2.2.2.2.2.2.2.2.2.2.2.2.2.2.1
  have c30 : Below w.heap.size w w1 := hC1.2.2.2.2.2.2.2.2.2.2.2.2.2.2.2.2.2.2.2.2.2.2.2.2.2.2.2.2.2.2
  have hq2 : w.heap.size ≤ w.heap.size + 1 + 1 := by omega
  go_wp2_with fail
  exact bodyPost_ret (v := .agg #[.int .i64 l', .int .i64 h', .bool kn', .int .i64 si', .int .i64 la', .int .i64 od']) (by simp [results, Tryd.results38, go_sem, *]) rfl ⟨rfl, (nbSetX (nbSetX (nbSetX (nbSetX (nbSetX (nbSetX c30 hq2) hq2) hq2) hq2) hq2) hq2)⟩

set_option maxHeartbeats 1000000 in
theorem after_3 (s j m g o : Int) (q : Nat) (l h : Int) (kn : Bool) (si la od : Int) (z : Int) (w : World) :
    Calls Tryd.prog 38 #[.agg #[.int .i64 s, .int .i64 j, .int .i64 m, .int .i64 g, .int .i64 o, .map (some q)], .agg #[.int .i64 l, .int .i64 h, .bool kn, .int .i64 si, .int .i64 la, .int .i64 od], .iface 131 (.int .i64 z)] w fun e w' => e = .returned (.agg #[.int .i64 l, .int .i64 h, .bool kn, .int .i64 si, .int .i64 la, .int .i64 od]) ∧ Below w.heap.size w w' := by
  have q31 := as31 (.int .i64 z)
  have q32 := as32 (.int .i64 z)
  have q34 := as34 (.int .i64 z)
  go_enter Tryd.func38, Tryd.ntmps38
  go_wp2_with fail
  exact bodyPost_ret (v := .agg #[.int .i64 l, .int .i64 h, .bool kn, .int .i64 si, .int .i64 la, .int .i64 od]) (by simp [results, Tryd.results38, go_sem]) rfl ⟨rfl, nbAlloc (nbAlloc (nbAlloc (Below.refl _ _) _) _) _⟩

theorem evB_n1 {op n : Int} (h : evB op n = true) (h1 : (op == 1) = true) : inB n 0 100000 = true := by simpa [evB, h1] using h
theorem evB_n2 {op n : Int} (h : evB op n = true) (h1 : (op == 1) = false) (h2 : (op == 2) = true) : inB n 1 1000000000 = true := by simpa [evB, h1, h2] using h
theorem mk_place {f a : Nat → Int} {n k : Nat} (h : marksB f a n = true) (hk : k < n) : inB (a k) 0 100000000 = true := by
  unfold marksB marksTo at h
  rw [Bool.and_eq_true, List.all_eq_true] at h
  have := h.1 k (by simpa using hk)
  unfold stepB at this
  simp only [Bool.and_eq_true] at this
  exact this.1.1.1
theorem ev_op {op n : Int} (h : evB op n = true) : (op == 1) = true ∨ (op == 2) = true ∨ (op == 3) = true ∨ (op == 4) = true := by
  unfold evB at h
  cases h1 : (op == 1)
  · cases h2 : (op == 2)
    · cases h3 : (op == 3)
      · cases h4 : (op == 4)
        · simp [h1, h2, h3, h4] at h
        · simp
      · simp
    · simp
  · simp
theorem calls_eq {f : FuncId} {args : Array Value} {w : World} {v u : Value} (h : v = u) (hc : Calls Tryd.prog f args w fun e w' => e = .returned v ∧ Below w.heap.size w w') :
    Calls Tryd.prog f args w fun e w' => e = .returned u ∧ Below w.heap.size w w' := by rw [← h]; exact hc

/-- What a right state says of its parts. -/
theorem st_parts {mk : Bool} {len : Nat} {t : St} (h : stB mk len t.kn t.l t.h t.si t.la t.od = true) : mk = true ∧ 0 ≤ t.si ∧ t.si ≤ 1000000000 ∧ 0 ≤ t.od ∧ t.od ≤ 1000000000 ∧ (t.kn = true → bOk t.l t.h = true) := by
  simp only [stB, inB, Bool.and_eq_true, decide_eq_true_eq] at h
  obtain ⟨⟨⟨⟨hmk, -, -⟩, hsi0, hsi1⟩, hod0, hod1⟩, hbd⟩ := h
  exact ⟨hmk, hsi0, hsi1, hod0, hod1, fun hk => by rw [hk] at hbd; simpa using hbd⟩

theorem after_c (s j m g o : Int) (q len : Nat) (f a : Nat → Int) (t : St) (op n : Int) (w : World) (hM : MapAt w q len f a) (hr : rOk s j m g o = true) (hst : stB (marksB f a len) len t.kn t.l t.h t.si t.la t.od = true) (hev : evB op n = true) :
    Calls Tryd.prog 38 #[.agg #[.int .i64 s, .int .i64 j, .int .i64 m, .int .i64 g, .int .i64 o, .map (some q)], t.b, hapV op n] w fun e w' => e = .returned (doM s j m len f a t op n).b ∧ Below w.heap.size w w' := by
  obtain ⟨hmk, hsi0, hsi1, hod0, hod1, hbk⟩ := st_parts hst
  obtain ⟨kn, l, h, si, la, od⟩ := t
  simp only at hsi0 hsi1 hod0 hod1 hbk
  rcases ev_op hev with hop | hop | hop | hop
  · have hn := evB_n1 hev hop
    rw [show hapV op n = .iface 126 (.int .i64 n) by simp [hapV, hop]]
    cases kn
    · refine calls_eq ?_ (after_1 s j m g o q l h false si la od n w l h false (min (si + n) 1000000000) la od (fun w' _ => afterWheels_false s j m g o q l h si la od n w' hsi0 hsi1 hn))
      simp [doM, hop, St.b]
    · refine calls_eq ?_ (after_1 s j m g o q l h true si la od n w _ _ true (min (si + n) 1000000000) la od (fun w' _ => afterWheels_true s j m g o q l h si la od n w' hsi0 hsi1 hn hr (hbk rfl)))
      simp [doM, hop, St.b]
  · have h1 : (op == 1) = false := by rw [eq_of_beq hop]; rfl
    have hn := evB_n2 hev h1 hop
    rw [show hapV op n = .iface 128 (.int .i64 n) by simp [hapV, h1, hop]]
    rcases lastIx_cases f n len with ⟨hK, -⟩ | ⟨kk, hK, hkk, -⟩
    · refine calls_eq ?_ (after_2 s j m g o q l h kn si la od n w l h kn si la (min (od + 1) 1000000000) (fun w' hb => afterMark_none s j m g o q l h kn si la od n len f a w' (hM.on hb) hn hod0 hod1 hK))
      simp [doM, hop, h1, hK, St.b]
    · have hz := mk_place hmk hkk
      have hlt : ¬ ((kk : Int) < 0) := by omega
      cases kn
      · refine calls_eq ?_ (after_2 s j m g o q l h false si la od n w _ _ true 0 kk od (fun w' hb => afterMark_new s j m g o q l h si la od n len f a w' (hM.on hb) hn hod0 hod1 kk hK (a kk) rfl hz hr _ _ rfl rfl))
        simp [doM, hop, h1, hK, St.b, hlt]
      · cases hmt : mB l h (min (a kk - m) 100000000) (min (a kk + m) 100000000)
        · refine calls_eq ?_ (after_2 s j m g o q l h true si la od n w _ _ true 0 kk (min (od + 1) 1000000000) (fun w' hb => afterMark_odd s j m g o q l h si la od n len f a w' (hM.on hb) hn hod0 hod1 kk hK (a kk) rfl hz hr _ _ rfl rfl (hbk rfl) hmt))
          simp [doM, hop, h1, hK, St.b, hlt, hmt]
        · refine calls_eq ?_ (after_2 s j m g o q l h true si la od n w _ _ true 0 kk od (fun w' hb => afterMark_fits s j m g o q l h si la od n len f a w' (hM.on hb) hn hod0 hod1 kk hK (a kk) rfl hz hr _ _ rfl rfl (hbk rfl) hmt))
          simp [doM, hop, h1, hK, St.b, hlt, hmt]
  · have h1 : (op == 1) = false := by rw [eq_of_beq hop]; rfl
    have h2 : (op == 2) = false := by rw [eq_of_beq hop]; rfl
    have h4 : (op == 4) = false := by rw [eq_of_beq hop]; rfl
    rw [show hapV op n = .iface 131 (.int .i64 n) by simp [hapV, h1, h2, hop]]
    refine calls_eq ?_ (after_3 s j m g o q l h kn si la od n w)
    simp [doM, h1, h2, h4, St.b]
  · have h1 : (op == 1) = false := by rw [eq_of_beq hop]; rfl
    have h2 : (op == 2) = false := by rw [eq_of_beq hop]; rfl
    have h3 : (op == 3) = false := by rw [eq_of_beq hop]; rfl
    rw [show hapV op n = .iface 129 (.int .i64 n) by simp [hapV, h1, h2, h3, hop]]
    refine calls_eq ?_ (after_4 s j m g o q l h kn si la od n w 0 0 false 0 (-1) od (fun w' _ => lost_c ⟨kn, l, h, si, la, od⟩ w'))
    simp [doM, h1, h2, hop, St.b]

end Go.Proofs.YtmhppadblddjoaaDoor

