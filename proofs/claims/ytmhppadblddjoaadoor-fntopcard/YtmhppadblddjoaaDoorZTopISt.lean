import Derived.Test.YtmhppadblddjoaaDoorZTopIMap
import Derived.Test.YtmhppadblddjoaaDoorZTopMkOk
import Derived.Test.YtmhppadblddjoaaDoorZTopW7
/- The program's belief, and its StateOk. -/
namespace Go.Proofs.YtmhppadblddjoaaDoor
open Go.RowKit

/-- A state as the program holds it. -/
def St.b (t : St) : Value := .agg #[.int .i64 t.l, .int .i64 t.h, .bool t.kn, .int .i64 t.si, .int .i64 t.la, .int .i64 t.od]

set_option maxHeartbeats 400000 in
theorem beliefOf_c (t : St) (w : World) :
    Calls Tryd.prog 45 #[t.v] w fun e w' => e = .returned t.b ∧ Below w.heap.size w w' := by
  obtain ⟨kn, l, h, si, la, od⟩ := t
  simp only [St.v, St.b]
  go_enter Tryd.func45, Tryd.ntmps45
  go_wp2
  exact bodyPost_ret (v := .agg #[.int .i64 l, .int .i64 h, .bool kn, .int .i64 si, .int .i64 la, .int .i64 od]) (by simp [results, Tryd.results45, go_sem]) rfl ⟨rfl, nbAlloc (nbAlloc (Below.refl _ _) _) _⟩

set_option maxHeartbeats 400000 in
theorem stateOf_c (t : St) (w : World) :
    Calls Tryd.prog 40 #[t.b] w fun e w' => e = .returned t.v ∧ Below w.heap.size w w' := by
  obtain ⟨kn, l, h, si, la, od⟩ := t
  simp only [St.v, St.b]
  go_enter Tryd.func40, Tryd.ntmps40
  go_wp2
  exact bodyPost_ret (v := .agg #[.bool kn, .int .i64 l, .int .i64 h, .int .i64 si, .int .i64 la, .int .i64 od]) (by simp [results, Tryd.results40, go_sem]) rfl ⟨rfl, nbAlloc (nbAlloc (Below.refl _ _) _) _⟩

set_option maxHeartbeats 400000 in
theorem lost_c (t : St) (w : World) :
    Calls Tryd.prog 82 #[t.b] w fun e w' => e = .returned (St.b ⟨false, 0, 0, 0, -1, t.od⟩) ∧ Below w.heap.size w w' := by
  obtain ⟨kn, l, h, si, la, od⟩ := t
  simp only [St.b]
  go_enter Tryd.func82, Tryd.ntmps82
  go_wp2
  exact bodyPost_ret (v := .agg #[.int .i64 0, .int .i64 0, .bool false, .int .i64 0, .int .i64 (-1), .int .i64 od]) (by simp [results, Tryd.results82, go_sem]) rfl ⟨rfl, nbAlloc (nbAlloc (Below.refl _ _) _) _⟩

set_option maxHeartbeats 400000 in
theorem firstBelief_c (l h : Int) (w : World) :
    Calls Tryd.prog 37 #[.agg #[.int .i64 l, .int .i64 h]] w fun e w' => e = .returned (St.b ⟨true, l, h, 0, -1, 0⟩) ∧ Below w.heap.size w w' := by
  simp only [St.b]
  go_enter Tryd.func37, Tryd.ntmps37
  go_wp2
  exact bodyPost_ret (v := .agg #[.int .i64 l, .int .i64 h, .bool true, .int .i64 0, .int .i64 (-1), .int .i64 0]) (by simp [results, Tryd.results37, go_sem]) rfl ⟨rfl, nbAlloc (nbAlloc (Below.refl _ _) _) _⟩

def rtB (len : Nat) (kn : Bool) (l h si la od : Int) : Bool := inB si 0 1000000000 && inB od 0 1000000000 && inB la (-1) ((len : Int) - 1) && bOk l h && (kn || (l == 0 && h == 0 && la == -1))
theorem rtB_st (mk : Bool) (len : Nat) (kn : Bool) (l h si la od : Int) : (mk && rtB len kn l h si la od) = stB mk len kn l h si la od := by
  unfold rtB stB
  cases mk
  · rfl
  cases inB la (-1) ((len : Int) - 1)
  · simp
  cases inB si 0 1000000000
  · simp
  cases inB od 0 1000000000
  · simp
  cases kn
  · rw [Bool.eq_iff_iff]
    simp [bOk]
    omega
  · simp

def rbC (w : World) (kn : Bool) (l h si la od : Int) : World → Prop := fun w' => w'.cell? ⟨w.heap.size, 0, none⟩ = some (.int .i64 l) ∧ w'.cell? ⟨w.heap.size, 1, none⟩ = some (.int .i64 h) ∧ w'.cell? ⟨w.heap.size, 2, none⟩ = some (.bool kn) ∧ w'.cell? ⟨w.heap.size, 3, none⟩ = some (.int .i64 si) ∧ w'.cell? ⟨w.heap.size, 4, none⟩ = some (.int .i64 la) ∧ w'.cell? ⟨w.heap.size, 5, none⟩ = some (.int .i64 od) ∧ Below w.heap.size w w'
def rtC (w : World) (kn : Bool) (l h si la od : Int) (len p : Nat) : World → Prop := fun w' => w'.cell? ⟨w.heap.size, 0, none⟩ = some (.int .i64 l) ∧ w'.cell? ⟨w.heap.size, 1, none⟩ = some (.int .i64 h) ∧ w'.cell? ⟨w.heap.size, 2, none⟩ = some (.bool kn) ∧ w'.cell? ⟨w.heap.size, 3, none⟩ = some (.int .i64 si) ∧ w'.cell? ⟨w.heap.size, 4, none⟩ = some (.int .i64 la) ∧ w'.cell? ⟨w.heap.size, 5, none⟩ = some (.int .i64 od) ∧ w'.cell? ⟨p, 0, none⟩ = some (.int .i64 0) ∧ w'.cell? ⟨p, 1, none⟩ = some (.int .i64 1000000000) ∧ w'.cell? ⟨p + 1, 0, none⟩ = some (.int .i64 (-1)) ∧ w'.cell? ⟨p + 1, 1, none⟩ = some (.int .i64 ((len : Int) - 1)) ∧ Below w.heap.size w w'
theorem rtC_on {w : World} {kn : Bool} {l h si la od : Int} {len p : Nat} {w1 w2 : World} (hh : rtC w kn l h si la od len p w1) (hb : Below w1.heap.size w1 w2) : rtC w kn l h si la od len p w2 :=
  ⟨cellOn hb hh.1, cellOn hb hh.2.1, cellOn hb hh.2.2.1, cellOn hb hh.2.2.2.1, cellOn hb hh.2.2.2.2.1, cellOn hb hh.2.2.2.2.2.1, cellOn hb hh.2.2.2.2.2.2.1, cellOn hb hh.2.2.2.2.2.2.2.1, cellOn hb hh.2.2.2.2.2.2.2.2.1, cellOn hb hh.2.2.2.2.2.2.2.2.2.1, nbTrans hh.2.2.2.2.2.2.2.2.2.2 hb⟩

set_option maxHeartbeats 2000000 in
theorem right_c (len : Nat) (kn : Bool) (l h si la od : Int) (w : World) (hl : len ≤ 1048576) :
    Calls Tryd.prog 46 #[.agg #[.int .i64 l, .int .i64 h, .bool kn, .int .i64 si, .int .i64 la, .int .i64 od], .int .i64 len] w fun e w' => e = .returned (.bool (rtB len kn l h si la od)) ∧ Below w.heap.size w w' := by
  have wr : IntKind.i64.wrap ((len : Int) - 1) = (len : Int) - 1 := wrapS (by omega) (by omega)
  cases h2 : inB si 0 1000000000
  case false =>
    go_enter Tryd.func46, Tryd.ntmps46
    go_wp2_with fail
    refine (upTo_c _ _).mono ?_
    rintro e w1 ⟨rfl, hb1⟩
    have hC1 : rbC w kn l h si la od w1 := ⟨cellOn hb1 (by go_simp), cellOn hb1 (by go_simp), cellOn hb1 (by go_simp), cellOn hb1 (by go_simp), cellOn hb1 (by go_simp), cellOn hb1 (by go_simp), nbTrans (nbAlloc (Below.refl _ _) _) hb1⟩
    have c0 : w1.cell? ⟨w.heap.size, 0, none⟩ = some (.int .i64 l) := hC1.1
    have c1 : w1.cell? ⟨w.heap.size, 1, none⟩ = some (.int .i64 h) := hC1.2.1
    have c2 : w1.cell? ⟨w.heap.size, 2, none⟩ = some (.bool kn) := hC1.2.2.1
    have c3 : w1.cell? ⟨w.heap.size, 3, none⟩ = some (.int .i64 si) := hC1.2.2.2.1
    have c4 : w1.cell? ⟨w.heap.size, 4, none⟩ = some (.int .i64 la) := hC1.2.2.2.2.1
    have c5 : w1.cell? ⟨w.heap.size, 5, none⟩ = some (.int .i64 od) := hC1.2.2.2.2.2.1
    have c6 : Below w.heap.size w w1 := hC1.2.2.2.2.2.2
    clear hC1
    have e0 : ((w1.alloc (.cells #[.int .i64 0, .int .i64 1000000000] 105)).alloc (.cells #[.int .i64 (-1), .int .i64 ((len : Int) - 1)] 105)).cell? ⟨w.heap.size, 0, none⟩ = some (.int .i64 l) := cellNew (cellNew c0 _) _
    have e1 : ((w1.alloc (.cells #[.int .i64 0, .int .i64 1000000000] 105)).alloc (.cells #[.int .i64 (-1), .int .i64 ((len : Int) - 1)] 105)).cell? ⟨w.heap.size, 1, none⟩ = some (.int .i64 h) := cellNew (cellNew c1 _) _
    have e2 : ((w1.alloc (.cells #[.int .i64 0, .int .i64 1000000000] 105)).alloc (.cells #[.int .i64 (-1), .int .i64 ((len : Int) - 1)] 105)).cell? ⟨w.heap.size, 2, none⟩ = some (.bool kn) := cellNew (cellNew c2 _) _
    have e3 : ((w1.alloc (.cells #[.int .i64 0, .int .i64 1000000000] 105)).alloc (.cells #[.int .i64 (-1), .int .i64 ((len : Int) - 1)] 105)).cell? ⟨w.heap.size, 3, none⟩ = some (.int .i64 si) := cellNew (cellNew c3 _) _
    have e4 : ((w1.alloc (.cells #[.int .i64 0, .int .i64 1000000000] 105)).alloc (.cells #[.int .i64 (-1), .int .i64 ((len : Int) - 1)] 105)).cell? ⟨w.heap.size, 4, none⟩ = some (.int .i64 la) := cellNew (cellNew c4 _) _
    have e5 : ((w1.alloc (.cells #[.int .i64 0, .int .i64 1000000000] 105)).alloc (.cells #[.int .i64 (-1), .int .i64 ((len : Int) - 1)] 105)).cell? ⟨w.heap.size, 5, none⟩ = some (.int .i64 od) := cellNew (cellNew c5 _) _
    go_wp2_with fail
    refine (has_c _ _ _ _).mono ?_
    rintro e w2 ⟨rfl, hb2⟩
    have hC2 : rtC w kn l h si la od len w1.heap.size w2 := ⟨cellOn hb2 (by go_simp), cellOn hb2 (by go_simp), cellOn hb2 (by go_simp), cellOn hb2 (by go_simp), cellOn hb2 (by go_simp), cellOn hb2 (by go_simp), cellOn hb2 (by go_simp), cellOn hb2 (by go_simp), cellOn hb2 (by go_simp), cellOn hb2 (by go_simp), nbTrans (nbAlloc (nbAlloc c6 _) _) hb2⟩
    clear c0 c1 c2 c3 c4 c5 c6 e0 e1 e2 e3 e4 e5 hb1 hb2
    generalize w1.heap.size = p at *
    have c0 : w2.cell? ⟨w.heap.size, 0, none⟩ = some (.int .i64 l) := hC2.1
    have c1 : w2.cell? ⟨w.heap.size, 1, none⟩ = some (.int .i64 h) := hC2.2.1
    have c2 : w2.cell? ⟨w.heap.size, 2, none⟩ = some (.bool kn) := hC2.2.2.1
    have c3 : w2.cell? ⟨w.heap.size, 3, none⟩ = some (.int .i64 si) := hC2.2.2.2.1
    have c4 : w2.cell? ⟨w.heap.size, 4, none⟩ = some (.int .i64 la) := hC2.2.2.2.2.1
    have c5 : w2.cell? ⟨w.heap.size, 5, none⟩ = some (.int .i64 od) := hC2.2.2.2.2.2.1
    have c6 : w2.cell? ⟨p, 0, none⟩ = some (.int .i64 0) := hC2.2.2.2.2.2.2.1
    have c7 : w2.cell? ⟨p, 1, none⟩ = some (.int .i64 1000000000) := hC2.2.2.2.2.2.2.2.1
    have c8 : w2.cell? ⟨p + 1, 0, none⟩ = some (.int .i64 (-1)) := hC2.2.2.2.2.2.2.2.2.1
    have c9 : w2.cell? ⟨p + 1, 1, none⟩ = some (.int .i64 ((len : Int) - 1)) := hC2.2.2.2.2.2.2.2.2.2.1
    have c10 : Below w.heap.size w w2 := hC2.2.2.2.2.2.2.2.2.2.2
    go_wp2_with fail
    go_ret
    exact ⟨retB (by simp [rtB, h2]), c10⟩
  cases h3 : inB od 0 1000000000
  case false =>
    go_enter Tryd.func46, Tryd.ntmps46
    go_wp2_with fail
    refine (upTo_c _ _).mono ?_
    rintro e w1 ⟨rfl, hb1⟩
    have hC1 : rbC w kn l h si la od w1 := ⟨cellOn hb1 (by go_simp), cellOn hb1 (by go_simp), cellOn hb1 (by go_simp), cellOn hb1 (by go_simp), cellOn hb1 (by go_simp), cellOn hb1 (by go_simp), nbTrans (nbAlloc (Below.refl _ _) _) hb1⟩
    have c0 : w1.cell? ⟨w.heap.size, 0, none⟩ = some (.int .i64 l) := hC1.1
    have c1 : w1.cell? ⟨w.heap.size, 1, none⟩ = some (.int .i64 h) := hC1.2.1
    have c2 : w1.cell? ⟨w.heap.size, 2, none⟩ = some (.bool kn) := hC1.2.2.1
    have c3 : w1.cell? ⟨w.heap.size, 3, none⟩ = some (.int .i64 si) := hC1.2.2.2.1
    have c4 : w1.cell? ⟨w.heap.size, 4, none⟩ = some (.int .i64 la) := hC1.2.2.2.2.1
    have c5 : w1.cell? ⟨w.heap.size, 5, none⟩ = some (.int .i64 od) := hC1.2.2.2.2.2.1
    have c6 : Below w.heap.size w w1 := hC1.2.2.2.2.2.2
    clear hC1
    have e0 : ((w1.alloc (.cells #[.int .i64 0, .int .i64 1000000000] 105)).alloc (.cells #[.int .i64 (-1), .int .i64 ((len : Int) - 1)] 105)).cell? ⟨w.heap.size, 0, none⟩ = some (.int .i64 l) := cellNew (cellNew c0 _) _
    have e1 : ((w1.alloc (.cells #[.int .i64 0, .int .i64 1000000000] 105)).alloc (.cells #[.int .i64 (-1), .int .i64 ((len : Int) - 1)] 105)).cell? ⟨w.heap.size, 1, none⟩ = some (.int .i64 h) := cellNew (cellNew c1 _) _
    have e2 : ((w1.alloc (.cells #[.int .i64 0, .int .i64 1000000000] 105)).alloc (.cells #[.int .i64 (-1), .int .i64 ((len : Int) - 1)] 105)).cell? ⟨w.heap.size, 2, none⟩ = some (.bool kn) := cellNew (cellNew c2 _) _
    have e3 : ((w1.alloc (.cells #[.int .i64 0, .int .i64 1000000000] 105)).alloc (.cells #[.int .i64 (-1), .int .i64 ((len : Int) - 1)] 105)).cell? ⟨w.heap.size, 3, none⟩ = some (.int .i64 si) := cellNew (cellNew c3 _) _
    have e4 : ((w1.alloc (.cells #[.int .i64 0, .int .i64 1000000000] 105)).alloc (.cells #[.int .i64 (-1), .int .i64 ((len : Int) - 1)] 105)).cell? ⟨w.heap.size, 4, none⟩ = some (.int .i64 la) := cellNew (cellNew c4 _) _
    have e5 : ((w1.alloc (.cells #[.int .i64 0, .int .i64 1000000000] 105)).alloc (.cells #[.int .i64 (-1), .int .i64 ((len : Int) - 1)] 105)).cell? ⟨w.heap.size, 5, none⟩ = some (.int .i64 od) := cellNew (cellNew c5 _) _
    go_wp2_with fail
    refine (has_c _ _ _ _).mono ?_
    rintro e w2 ⟨rfl, hb2⟩
    have hC2 : rtC w kn l h si la od len w1.heap.size w2 := ⟨cellOn hb2 (by go_simp), cellOn hb2 (by go_simp), cellOn hb2 (by go_simp), cellOn hb2 (by go_simp), cellOn hb2 (by go_simp), cellOn hb2 (by go_simp), cellOn hb2 (by go_simp), cellOn hb2 (by go_simp), cellOn hb2 (by go_simp), cellOn hb2 (by go_simp), nbTrans (nbAlloc (nbAlloc c6 _) _) hb2⟩
    clear c0 c1 c2 c3 c4 c5 c6 e0 e1 e2 e3 e4 e5 hb1 hb2
    generalize w1.heap.size = p at *
    have c0 : w2.cell? ⟨w.heap.size, 0, none⟩ = some (.int .i64 l) := hC2.1
    have c1 : w2.cell? ⟨w.heap.size, 1, none⟩ = some (.int .i64 h) := hC2.2.1
    have c2 : w2.cell? ⟨w.heap.size, 2, none⟩ = some (.bool kn) := hC2.2.2.1
    have c3 : w2.cell? ⟨w.heap.size, 3, none⟩ = some (.int .i64 si) := hC2.2.2.2.1
    have c4 : w2.cell? ⟨w.heap.size, 4, none⟩ = some (.int .i64 la) := hC2.2.2.2.2.1
    have c5 : w2.cell? ⟨w.heap.size, 5, none⟩ = some (.int .i64 od) := hC2.2.2.2.2.2.1
    have c6 : w2.cell? ⟨p, 0, none⟩ = some (.int .i64 0) := hC2.2.2.2.2.2.2.1
    have c7 : w2.cell? ⟨p, 1, none⟩ = some (.int .i64 1000000000) := hC2.2.2.2.2.2.2.2.1
    have c8 : w2.cell? ⟨p + 1, 0, none⟩ = some (.int .i64 (-1)) := hC2.2.2.2.2.2.2.2.2.1
    have c9 : w2.cell? ⟨p + 1, 1, none⟩ = some (.int .i64 ((len : Int) - 1)) := hC2.2.2.2.2.2.2.2.2.2.1
    have c10 : Below w.heap.size w w2 := hC2.2.2.2.2.2.2.2.2.2.2
    go_wp2_with fail
    refine (has_c _ _ _ _).mono ?_
    rintro e w3 ⟨rfl, hb3⟩
    have hC3 := rtC_on hC2 hb3
    clear c0 c1 c2 c3 c4 c5 c6 c7 c8 c9 c10
    have c0 : w3.cell? ⟨w.heap.size, 0, none⟩ = some (.int .i64 l) := hC3.1
    have c1 : w3.cell? ⟨w.heap.size, 1, none⟩ = some (.int .i64 h) := hC3.2.1
    have c2 : w3.cell? ⟨w.heap.size, 2, none⟩ = some (.bool kn) := hC3.2.2.1
    have c3 : w3.cell? ⟨w.heap.size, 3, none⟩ = some (.int .i64 si) := hC3.2.2.2.1
    have c4 : w3.cell? ⟨w.heap.size, 4, none⟩ = some (.int .i64 la) := hC3.2.2.2.2.1
    have c5 : w3.cell? ⟨w.heap.size, 5, none⟩ = some (.int .i64 od) := hC3.2.2.2.2.2.1
    have c6 : w3.cell? ⟨p, 0, none⟩ = some (.int .i64 0) := hC3.2.2.2.2.2.2.1
    have c7 : w3.cell? ⟨p, 1, none⟩ = some (.int .i64 1000000000) := hC3.2.2.2.2.2.2.2.1
    have c8 : w3.cell? ⟨p + 1, 0, none⟩ = some (.int .i64 (-1)) := hC3.2.2.2.2.2.2.2.2.1
    have c9 : w3.cell? ⟨p + 1, 1, none⟩ = some (.int .i64 ((len : Int) - 1)) := hC3.2.2.2.2.2.2.2.2.2.1
    have c10 : Below w.heap.size w w3 := hC3.2.2.2.2.2.2.2.2.2.2
    go_wp2_with fail
    go_ret
    exact ⟨retB (by simp [rtB, h2, h3]), c10⟩
  cases h1 : inB la (-1) ((len : Int) - 1)
  case false =>
    go_enter Tryd.func46, Tryd.ntmps46
    go_wp2_with fail
    refine (upTo_c _ _).mono ?_
    rintro e w1 ⟨rfl, hb1⟩
    have hC1 : rbC w kn l h si la od w1 := ⟨cellOn hb1 (by go_simp), cellOn hb1 (by go_simp), cellOn hb1 (by go_simp), cellOn hb1 (by go_simp), cellOn hb1 (by go_simp), cellOn hb1 (by go_simp), nbTrans (nbAlloc (Below.refl _ _) _) hb1⟩
    have c0 : w1.cell? ⟨w.heap.size, 0, none⟩ = some (.int .i64 l) := hC1.1
    have c1 : w1.cell? ⟨w.heap.size, 1, none⟩ = some (.int .i64 h) := hC1.2.1
    have c2 : w1.cell? ⟨w.heap.size, 2, none⟩ = some (.bool kn) := hC1.2.2.1
    have c3 : w1.cell? ⟨w.heap.size, 3, none⟩ = some (.int .i64 si) := hC1.2.2.2.1
    have c4 : w1.cell? ⟨w.heap.size, 4, none⟩ = some (.int .i64 la) := hC1.2.2.2.2.1
    have c5 : w1.cell? ⟨w.heap.size, 5, none⟩ = some (.int .i64 od) := hC1.2.2.2.2.2.1
    have c6 : Below w.heap.size w w1 := hC1.2.2.2.2.2.2
    clear hC1
    have e0 : ((w1.alloc (.cells #[.int .i64 0, .int .i64 1000000000] 105)).alloc (.cells #[.int .i64 (-1), .int .i64 ((len : Int) - 1)] 105)).cell? ⟨w.heap.size, 0, none⟩ = some (.int .i64 l) := cellNew (cellNew c0 _) _
    have e1 : ((w1.alloc (.cells #[.int .i64 0, .int .i64 1000000000] 105)).alloc (.cells #[.int .i64 (-1), .int .i64 ((len : Int) - 1)] 105)).cell? ⟨w.heap.size, 1, none⟩ = some (.int .i64 h) := cellNew (cellNew c1 _) _
    have e2 : ((w1.alloc (.cells #[.int .i64 0, .int .i64 1000000000] 105)).alloc (.cells #[.int .i64 (-1), .int .i64 ((len : Int) - 1)] 105)).cell? ⟨w.heap.size, 2, none⟩ = some (.bool kn) := cellNew (cellNew c2 _) _
    have e3 : ((w1.alloc (.cells #[.int .i64 0, .int .i64 1000000000] 105)).alloc (.cells #[.int .i64 (-1), .int .i64 ((len : Int) - 1)] 105)).cell? ⟨w.heap.size, 3, none⟩ = some (.int .i64 si) := cellNew (cellNew c3 _) _
    have e4 : ((w1.alloc (.cells #[.int .i64 0, .int .i64 1000000000] 105)).alloc (.cells #[.int .i64 (-1), .int .i64 ((len : Int) - 1)] 105)).cell? ⟨w.heap.size, 4, none⟩ = some (.int .i64 la) := cellNew (cellNew c4 _) _
    have e5 : ((w1.alloc (.cells #[.int .i64 0, .int .i64 1000000000] 105)).alloc (.cells #[.int .i64 (-1), .int .i64 ((len : Int) - 1)] 105)).cell? ⟨w.heap.size, 5, none⟩ = some (.int .i64 od) := cellNew (cellNew c5 _) _
    go_wp2_with fail
    refine (has_c _ _ _ _).mono ?_
    rintro e w2 ⟨rfl, hb2⟩
    have hC2 : rtC w kn l h si la od len w1.heap.size w2 := ⟨cellOn hb2 (by go_simp), cellOn hb2 (by go_simp), cellOn hb2 (by go_simp), cellOn hb2 (by go_simp), cellOn hb2 (by go_simp), cellOn hb2 (by go_simp), cellOn hb2 (by go_simp), cellOn hb2 (by go_simp), cellOn hb2 (by go_simp), cellOn hb2 (by go_simp), nbTrans (nbAlloc (nbAlloc c6 _) _) hb2⟩
    clear c0 c1 c2 c3 c4 c5 c6 e0 e1 e2 e3 e4 e5 hb1 hb2
    generalize w1.heap.size = p at *
    have c0 : w2.cell? ⟨w.heap.size, 0, none⟩ = some (.int .i64 l) := hC2.1
    have c1 : w2.cell? ⟨w.heap.size, 1, none⟩ = some (.int .i64 h) := hC2.2.1
    have c2 : w2.cell? ⟨w.heap.size, 2, none⟩ = some (.bool kn) := hC2.2.2.1
    have c3 : w2.cell? ⟨w.heap.size, 3, none⟩ = some (.int .i64 si) := hC2.2.2.2.1
    have c4 : w2.cell? ⟨w.heap.size, 4, none⟩ = some (.int .i64 la) := hC2.2.2.2.2.1
    have c5 : w2.cell? ⟨w.heap.size, 5, none⟩ = some (.int .i64 od) := hC2.2.2.2.2.2.1
    have c6 : w2.cell? ⟨p, 0, none⟩ = some (.int .i64 0) := hC2.2.2.2.2.2.2.1
    have c7 : w2.cell? ⟨p, 1, none⟩ = some (.int .i64 1000000000) := hC2.2.2.2.2.2.2.2.1
    have c8 : w2.cell? ⟨p + 1, 0, none⟩ = some (.int .i64 (-1)) := hC2.2.2.2.2.2.2.2.2.1
    have c9 : w2.cell? ⟨p + 1, 1, none⟩ = some (.int .i64 ((len : Int) - 1)) := hC2.2.2.2.2.2.2.2.2.2.1
    have c10 : Below w.heap.size w w2 := hC2.2.2.2.2.2.2.2.2.2.2
    go_wp2_with fail
    refine (has_c _ _ _ _).mono ?_
    rintro e w3 ⟨rfl, hb3⟩
    have hC3 := rtC_on hC2 hb3
    clear c0 c1 c2 c3 c4 c5 c6 c7 c8 c9 c10
    have c0 : w3.cell? ⟨w.heap.size, 0, none⟩ = some (.int .i64 l) := hC3.1
    have c1 : w3.cell? ⟨w.heap.size, 1, none⟩ = some (.int .i64 h) := hC3.2.1
    have c2 : w3.cell? ⟨w.heap.size, 2, none⟩ = some (.bool kn) := hC3.2.2.1
    have c3 : w3.cell? ⟨w.heap.size, 3, none⟩ = some (.int .i64 si) := hC3.2.2.2.1
    have c4 : w3.cell? ⟨w.heap.size, 4, none⟩ = some (.int .i64 la) := hC3.2.2.2.2.1
    have c5 : w3.cell? ⟨w.heap.size, 5, none⟩ = some (.int .i64 od) := hC3.2.2.2.2.2.1
    have c6 : w3.cell? ⟨p, 0, none⟩ = some (.int .i64 0) := hC3.2.2.2.2.2.2.1
    have c7 : w3.cell? ⟨p, 1, none⟩ = some (.int .i64 1000000000) := hC3.2.2.2.2.2.2.2.1
    have c8 : w3.cell? ⟨p + 1, 0, none⟩ = some (.int .i64 (-1)) := hC3.2.2.2.2.2.2.2.2.1
    have c9 : w3.cell? ⟨p + 1, 1, none⟩ = some (.int .i64 ((len : Int) - 1)) := hC3.2.2.2.2.2.2.2.2.2.1
    have c10 : Below w.heap.size w w3 := hC3.2.2.2.2.2.2.2.2.2.2
    go_wp2_with fail
    refine (has_c _ _ _ _).mono ?_
    rintro e w4 ⟨rfl, hb4⟩
    have hC4 := rtC_on hC3 hb4
    clear c0 c1 c2 c3 c4 c5 c6 c7 c8 c9 c10
    have c0 : w4.cell? ⟨w.heap.size, 0, none⟩ = some (.int .i64 l) := hC4.1
    have c1 : w4.cell? ⟨w.heap.size, 1, none⟩ = some (.int .i64 h) := hC4.2.1
    have c2 : w4.cell? ⟨w.heap.size, 2, none⟩ = some (.bool kn) := hC4.2.2.1
    have c3 : w4.cell? ⟨w.heap.size, 3, none⟩ = some (.int .i64 si) := hC4.2.2.2.1
    have c4 : w4.cell? ⟨w.heap.size, 4, none⟩ = some (.int .i64 la) := hC4.2.2.2.2.1
    have c5 : w4.cell? ⟨w.heap.size, 5, none⟩ = some (.int .i64 od) := hC4.2.2.2.2.2.1
    have c6 : w4.cell? ⟨p, 0, none⟩ = some (.int .i64 0) := hC4.2.2.2.2.2.2.1
    have c7 : w4.cell? ⟨p, 1, none⟩ = some (.int .i64 1000000000) := hC4.2.2.2.2.2.2.2.1
    have c8 : w4.cell? ⟨p + 1, 0, none⟩ = some (.int .i64 (-1)) := hC4.2.2.2.2.2.2.2.2.1
    have c9 : w4.cell? ⟨p + 1, 1, none⟩ = some (.int .i64 ((len : Int) - 1)) := hC4.2.2.2.2.2.2.2.2.2.1
    have c10 : Below w.heap.size w w4 := hC4.2.2.2.2.2.2.2.2.2.2
    go_wp2_with fail
    go_ret
    exact ⟨retB (by simp [rtB, h1, h2, h3]), c10⟩
  cases h0 : bOk l h
  case false =>
    go_enter Tryd.func46, Tryd.ntmps46
    go_wp2_with fail
    refine (upTo_c _ _).mono ?_
    rintro e w1 ⟨rfl, hb1⟩
    have hC1 : rbC w kn l h si la od w1 := ⟨cellOn hb1 (by go_simp), cellOn hb1 (by go_simp), cellOn hb1 (by go_simp), cellOn hb1 (by go_simp), cellOn hb1 (by go_simp), cellOn hb1 (by go_simp), nbTrans (nbAlloc (Below.refl _ _) _) hb1⟩
    have c0 : w1.cell? ⟨w.heap.size, 0, none⟩ = some (.int .i64 l) := hC1.1
    have c1 : w1.cell? ⟨w.heap.size, 1, none⟩ = some (.int .i64 h) := hC1.2.1
    have c2 : w1.cell? ⟨w.heap.size, 2, none⟩ = some (.bool kn) := hC1.2.2.1
    have c3 : w1.cell? ⟨w.heap.size, 3, none⟩ = some (.int .i64 si) := hC1.2.2.2.1
    have c4 : w1.cell? ⟨w.heap.size, 4, none⟩ = some (.int .i64 la) := hC1.2.2.2.2.1
    have c5 : w1.cell? ⟨w.heap.size, 5, none⟩ = some (.int .i64 od) := hC1.2.2.2.2.2.1
    have c6 : Below w.heap.size w w1 := hC1.2.2.2.2.2.2
    clear hC1
    have e0 : ((w1.alloc (.cells #[.int .i64 0, .int .i64 1000000000] 105)).alloc (.cells #[.int .i64 (-1), .int .i64 ((len : Int) - 1)] 105)).cell? ⟨w.heap.size, 0, none⟩ = some (.int .i64 l) := cellNew (cellNew c0 _) _
    have e1 : ((w1.alloc (.cells #[.int .i64 0, .int .i64 1000000000] 105)).alloc (.cells #[.int .i64 (-1), .int .i64 ((len : Int) - 1)] 105)).cell? ⟨w.heap.size, 1, none⟩ = some (.int .i64 h) := cellNew (cellNew c1 _) _
    have e2 : ((w1.alloc (.cells #[.int .i64 0, .int .i64 1000000000] 105)).alloc (.cells #[.int .i64 (-1), .int .i64 ((len : Int) - 1)] 105)).cell? ⟨w.heap.size, 2, none⟩ = some (.bool kn) := cellNew (cellNew c2 _) _
    have e3 : ((w1.alloc (.cells #[.int .i64 0, .int .i64 1000000000] 105)).alloc (.cells #[.int .i64 (-1), .int .i64 ((len : Int) - 1)] 105)).cell? ⟨w.heap.size, 3, none⟩ = some (.int .i64 si) := cellNew (cellNew c3 _) _
    have e4 : ((w1.alloc (.cells #[.int .i64 0, .int .i64 1000000000] 105)).alloc (.cells #[.int .i64 (-1), .int .i64 ((len : Int) - 1)] 105)).cell? ⟨w.heap.size, 4, none⟩ = some (.int .i64 la) := cellNew (cellNew c4 _) _
    have e5 : ((w1.alloc (.cells #[.int .i64 0, .int .i64 1000000000] 105)).alloc (.cells #[.int .i64 (-1), .int .i64 ((len : Int) - 1)] 105)).cell? ⟨w.heap.size, 5, none⟩ = some (.int .i64 od) := cellNew (cellNew c5 _) _
    go_wp2_with fail
    refine (has_c _ _ _ _).mono ?_
    rintro e w2 ⟨rfl, hb2⟩
    have hC2 : rtC w kn l h si la od len w1.heap.size w2 := ⟨cellOn hb2 (by go_simp), cellOn hb2 (by go_simp), cellOn hb2 (by go_simp), cellOn hb2 (by go_simp), cellOn hb2 (by go_simp), cellOn hb2 (by go_simp), cellOn hb2 (by go_simp), cellOn hb2 (by go_simp), cellOn hb2 (by go_simp), cellOn hb2 (by go_simp), nbTrans (nbAlloc (nbAlloc c6 _) _) hb2⟩
    clear c0 c1 c2 c3 c4 c5 c6 e0 e1 e2 e3 e4 e5 hb1 hb2
    generalize w1.heap.size = p at *
    have c0 : w2.cell? ⟨w.heap.size, 0, none⟩ = some (.int .i64 l) := hC2.1
    have c1 : w2.cell? ⟨w.heap.size, 1, none⟩ = some (.int .i64 h) := hC2.2.1
    have c2 : w2.cell? ⟨w.heap.size, 2, none⟩ = some (.bool kn) := hC2.2.2.1
    have c3 : w2.cell? ⟨w.heap.size, 3, none⟩ = some (.int .i64 si) := hC2.2.2.2.1
    have c4 : w2.cell? ⟨w.heap.size, 4, none⟩ = some (.int .i64 la) := hC2.2.2.2.2.1
    have c5 : w2.cell? ⟨w.heap.size, 5, none⟩ = some (.int .i64 od) := hC2.2.2.2.2.2.1
    have c6 : w2.cell? ⟨p, 0, none⟩ = some (.int .i64 0) := hC2.2.2.2.2.2.2.1
    have c7 : w2.cell? ⟨p, 1, none⟩ = some (.int .i64 1000000000) := hC2.2.2.2.2.2.2.2.1
    have c8 : w2.cell? ⟨p + 1, 0, none⟩ = some (.int .i64 (-1)) := hC2.2.2.2.2.2.2.2.2.1
    have c9 : w2.cell? ⟨p + 1, 1, none⟩ = some (.int .i64 ((len : Int) - 1)) := hC2.2.2.2.2.2.2.2.2.2.1
    have c10 : Below w.heap.size w w2 := hC2.2.2.2.2.2.2.2.2.2.2
    go_wp2_with fail
    refine (has_c _ _ _ _).mono ?_
    rintro e w3 ⟨rfl, hb3⟩
    have hC3 := rtC_on hC2 hb3
    clear c0 c1 c2 c3 c4 c5 c6 c7 c8 c9 c10
    have c0 : w3.cell? ⟨w.heap.size, 0, none⟩ = some (.int .i64 l) := hC3.1
    have c1 : w3.cell? ⟨w.heap.size, 1, none⟩ = some (.int .i64 h) := hC3.2.1
    have c2 : w3.cell? ⟨w.heap.size, 2, none⟩ = some (.bool kn) := hC3.2.2.1
    have c3 : w3.cell? ⟨w.heap.size, 3, none⟩ = some (.int .i64 si) := hC3.2.2.2.1
    have c4 : w3.cell? ⟨w.heap.size, 4, none⟩ = some (.int .i64 la) := hC3.2.2.2.2.1
    have c5 : w3.cell? ⟨w.heap.size, 5, none⟩ = some (.int .i64 od) := hC3.2.2.2.2.2.1
    have c6 : w3.cell? ⟨p, 0, none⟩ = some (.int .i64 0) := hC3.2.2.2.2.2.2.1
    have c7 : w3.cell? ⟨p, 1, none⟩ = some (.int .i64 1000000000) := hC3.2.2.2.2.2.2.2.1
    have c8 : w3.cell? ⟨p + 1, 0, none⟩ = some (.int .i64 (-1)) := hC3.2.2.2.2.2.2.2.2.1
    have c9 : w3.cell? ⟨p + 1, 1, none⟩ = some (.int .i64 ((len : Int) - 1)) := hC3.2.2.2.2.2.2.2.2.2.1
    have c10 : Below w.heap.size w w3 := hC3.2.2.2.2.2.2.2.2.2.2
    go_wp2_with fail
    refine (has_c _ _ _ _).mono ?_
    rintro e w4 ⟨rfl, hb4⟩
    have hC4 := rtC_on hC3 hb4
    clear c0 c1 c2 c3 c4 c5 c6 c7 c8 c9 c10
    have c0 : w4.cell? ⟨w.heap.size, 0, none⟩ = some (.int .i64 l) := hC4.1
    have c1 : w4.cell? ⟨w.heap.size, 1, none⟩ = some (.int .i64 h) := hC4.2.1
    have c2 : w4.cell? ⟨w.heap.size, 2, none⟩ = some (.bool kn) := hC4.2.2.1
    have c3 : w4.cell? ⟨w.heap.size, 3, none⟩ = some (.int .i64 si) := hC4.2.2.2.1
    have c4 : w4.cell? ⟨w.heap.size, 4, none⟩ = some (.int .i64 la) := hC4.2.2.2.2.1
    have c5 : w4.cell? ⟨w.heap.size, 5, none⟩ = some (.int .i64 od) := hC4.2.2.2.2.2.1
    have c6 : w4.cell? ⟨p, 0, none⟩ = some (.int .i64 0) := hC4.2.2.2.2.2.2.1
    have c7 : w4.cell? ⟨p, 1, none⟩ = some (.int .i64 1000000000) := hC4.2.2.2.2.2.2.2.1
    have c8 : w4.cell? ⟨p + 1, 0, none⟩ = some (.int .i64 (-1)) := hC4.2.2.2.2.2.2.2.2.1
    have c9 : w4.cell? ⟨p + 1, 1, none⟩ = some (.int .i64 ((len : Int) - 1)) := hC4.2.2.2.2.2.2.2.2.2.1
    have c10 : Below w.heap.size w w4 := hC4.2.2.2.2.2.2.2.2.2.2
    go_wp2_with fail
    refine (implBoundOk_c _ _ _).mono ?_
    rintro e w5 ⟨rfl, hb5⟩
    have hC5 := rtC_on hC4 hb5
    clear c0 c1 c2 c3 c4 c5 c6 c7 c8 c9 c10
    have c0 : w5.cell? ⟨w.heap.size, 0, none⟩ = some (.int .i64 l) := hC5.1
    have c1 : w5.cell? ⟨w.heap.size, 1, none⟩ = some (.int .i64 h) := hC5.2.1
    have c2 : w5.cell? ⟨w.heap.size, 2, none⟩ = some (.bool kn) := hC5.2.2.1
    have c3 : w5.cell? ⟨w.heap.size, 3, none⟩ = some (.int .i64 si) := hC5.2.2.2.1
    have c4 : w5.cell? ⟨w.heap.size, 4, none⟩ = some (.int .i64 la) := hC5.2.2.2.2.1
    have c5 : w5.cell? ⟨w.heap.size, 5, none⟩ = some (.int .i64 od) := hC5.2.2.2.2.2.1
    have c6 : w5.cell? ⟨p, 0, none⟩ = some (.int .i64 0) := hC5.2.2.2.2.2.2.1
    have c7 : w5.cell? ⟨p, 1, none⟩ = some (.int .i64 1000000000) := hC5.2.2.2.2.2.2.2.1
    have c8 : w5.cell? ⟨p + 1, 0, none⟩ = some (.int .i64 (-1)) := hC5.2.2.2.2.2.2.2.2.1
    have c9 : w5.cell? ⟨p + 1, 1, none⟩ = some (.int .i64 ((len : Int) - 1)) := hC5.2.2.2.2.2.2.2.2.2.1
    have c10 : Below w.heap.size w w5 := hC5.2.2.2.2.2.2.2.2.2.2
    go_wp2_with fail
    go_ret
    exact ⟨retB (by simp [rtB, h0, h1, h2, h3]), c10⟩
  cases kn
  case true =>
    go_enter Tryd.func46, Tryd.ntmps46
    go_wp2_with fail
    refine (upTo_c _ _).mono ?_
    rintro e w1 ⟨rfl, hb1⟩
    have hC1 : rbC w true l h si la od w1 := ⟨cellOn hb1 (by go_simp), cellOn hb1 (by go_simp), cellOn hb1 (by go_simp), cellOn hb1 (by go_simp), cellOn hb1 (by go_simp), cellOn hb1 (by go_simp), nbTrans (nbAlloc (Below.refl _ _) _) hb1⟩
    have c0 : w1.cell? ⟨w.heap.size, 0, none⟩ = some (.int .i64 l) := hC1.1
    have c1 : w1.cell? ⟨w.heap.size, 1, none⟩ = some (.int .i64 h) := hC1.2.1
    have c2 : w1.cell? ⟨w.heap.size, 2, none⟩ = some (.bool true) := hC1.2.2.1
    have c3 : w1.cell? ⟨w.heap.size, 3, none⟩ = some (.int .i64 si) := hC1.2.2.2.1
    have c4 : w1.cell? ⟨w.heap.size, 4, none⟩ = some (.int .i64 la) := hC1.2.2.2.2.1
    have c5 : w1.cell? ⟨w.heap.size, 5, none⟩ = some (.int .i64 od) := hC1.2.2.2.2.2.1
    have c6 : Below w.heap.size w w1 := hC1.2.2.2.2.2.2
    clear hC1
    have e0 : ((w1.alloc (.cells #[.int .i64 0, .int .i64 1000000000] 105)).alloc (.cells #[.int .i64 (-1), .int .i64 ((len : Int) - 1)] 105)).cell? ⟨w.heap.size, 0, none⟩ = some (.int .i64 l) := cellNew (cellNew c0 _) _
    have e1 : ((w1.alloc (.cells #[.int .i64 0, .int .i64 1000000000] 105)).alloc (.cells #[.int .i64 (-1), .int .i64 ((len : Int) - 1)] 105)).cell? ⟨w.heap.size, 1, none⟩ = some (.int .i64 h) := cellNew (cellNew c1 _) _
    have e2 : ((w1.alloc (.cells #[.int .i64 0, .int .i64 1000000000] 105)).alloc (.cells #[.int .i64 (-1), .int .i64 ((len : Int) - 1)] 105)).cell? ⟨w.heap.size, 2, none⟩ = some (.bool true) := cellNew (cellNew c2 _) _
    have e3 : ((w1.alloc (.cells #[.int .i64 0, .int .i64 1000000000] 105)).alloc (.cells #[.int .i64 (-1), .int .i64 ((len : Int) - 1)] 105)).cell? ⟨w.heap.size, 3, none⟩ = some (.int .i64 si) := cellNew (cellNew c3 _) _
    have e4 : ((w1.alloc (.cells #[.int .i64 0, .int .i64 1000000000] 105)).alloc (.cells #[.int .i64 (-1), .int .i64 ((len : Int) - 1)] 105)).cell? ⟨w.heap.size, 4, none⟩ = some (.int .i64 la) := cellNew (cellNew c4 _) _
    have e5 : ((w1.alloc (.cells #[.int .i64 0, .int .i64 1000000000] 105)).alloc (.cells #[.int .i64 (-1), .int .i64 ((len : Int) - 1)] 105)).cell? ⟨w.heap.size, 5, none⟩ = some (.int .i64 od) := cellNew (cellNew c5 _) _
    go_wp2_with fail
    refine (has_c _ _ _ _).mono ?_
    rintro e w2 ⟨rfl, hb2⟩
    have hC2 : rtC w true l h si la od len w1.heap.size w2 := ⟨cellOn hb2 (by go_simp), cellOn hb2 (by go_simp), cellOn hb2 (by go_simp), cellOn hb2 (by go_simp), cellOn hb2 (by go_simp), cellOn hb2 (by go_simp), cellOn hb2 (by go_simp), cellOn hb2 (by go_simp), cellOn hb2 (by go_simp), cellOn hb2 (by go_simp), nbTrans (nbAlloc (nbAlloc c6 _) _) hb2⟩
    clear c0 c1 c2 c3 c4 c5 c6 e0 e1 e2 e3 e4 e5 hb1 hb2
    generalize w1.heap.size = p at *
    have c0 : w2.cell? ⟨w.heap.size, 0, none⟩ = some (.int .i64 l) := hC2.1
    have c1 : w2.cell? ⟨w.heap.size, 1, none⟩ = some (.int .i64 h) := hC2.2.1
    have c2 : w2.cell? ⟨w.heap.size, 2, none⟩ = some (.bool true) := hC2.2.2.1
    have c3 : w2.cell? ⟨w.heap.size, 3, none⟩ = some (.int .i64 si) := hC2.2.2.2.1
    have c4 : w2.cell? ⟨w.heap.size, 4, none⟩ = some (.int .i64 la) := hC2.2.2.2.2.1
    have c5 : w2.cell? ⟨w.heap.size, 5, none⟩ = some (.int .i64 od) := hC2.2.2.2.2.2.1
    have c6 : w2.cell? ⟨p, 0, none⟩ = some (.int .i64 0) := hC2.2.2.2.2.2.2.1
    have c7 : w2.cell? ⟨p, 1, none⟩ = some (.int .i64 1000000000) := hC2.2.2.2.2.2.2.2.1
    have c8 : w2.cell? ⟨p + 1, 0, none⟩ = some (.int .i64 (-1)) := hC2.2.2.2.2.2.2.2.2.1
    have c9 : w2.cell? ⟨p + 1, 1, none⟩ = some (.int .i64 ((len : Int) - 1)) := hC2.2.2.2.2.2.2.2.2.2.1
    have c10 : Below w.heap.size w w2 := hC2.2.2.2.2.2.2.2.2.2.2
    go_wp2_with fail
    refine (has_c _ _ _ _).mono ?_
    rintro e w3 ⟨rfl, hb3⟩
    have hC3 := rtC_on hC2 hb3
    clear c0 c1 c2 c3 c4 c5 c6 c7 c8 c9 c10
    have c0 : w3.cell? ⟨w.heap.size, 0, none⟩ = some (.int .i64 l) := hC3.1
    have c1 : w3.cell? ⟨w.heap.size, 1, none⟩ = some (.int .i64 h) := hC3.2.1
    have c2 : w3.cell? ⟨w.heap.size, 2, none⟩ = some (.bool true) := hC3.2.2.1
    have c3 : w3.cell? ⟨w.heap.size, 3, none⟩ = some (.int .i64 si) := hC3.2.2.2.1
    have c4 : w3.cell? ⟨w.heap.size, 4, none⟩ = some (.int .i64 la) := hC3.2.2.2.2.1
    have c5 : w3.cell? ⟨w.heap.size, 5, none⟩ = some (.int .i64 od) := hC3.2.2.2.2.2.1
    have c6 : w3.cell? ⟨p, 0, none⟩ = some (.int .i64 0) := hC3.2.2.2.2.2.2.1
    have c7 : w3.cell? ⟨p, 1, none⟩ = some (.int .i64 1000000000) := hC3.2.2.2.2.2.2.2.1
    have c8 : w3.cell? ⟨p + 1, 0, none⟩ = some (.int .i64 (-1)) := hC3.2.2.2.2.2.2.2.2.1
    have c9 : w3.cell? ⟨p + 1, 1, none⟩ = some (.int .i64 ((len : Int) - 1)) := hC3.2.2.2.2.2.2.2.2.2.1
    have c10 : Below w.heap.size w w3 := hC3.2.2.2.2.2.2.2.2.2.2
    go_wp2_with fail
    refine (has_c _ _ _ _).mono ?_
    rintro e w4 ⟨rfl, hb4⟩
    have hC4 := rtC_on hC3 hb4
    clear c0 c1 c2 c3 c4 c5 c6 c7 c8 c9 c10
    have c0 : w4.cell? ⟨w.heap.size, 0, none⟩ = some (.int .i64 l) := hC4.1
    have c1 : w4.cell? ⟨w.heap.size, 1, none⟩ = some (.int .i64 h) := hC4.2.1
    have c2 : w4.cell? ⟨w.heap.size, 2, none⟩ = some (.bool true) := hC4.2.2.1
    have c3 : w4.cell? ⟨w.heap.size, 3, none⟩ = some (.int .i64 si) := hC4.2.2.2.1
    have c4 : w4.cell? ⟨w.heap.size, 4, none⟩ = some (.int .i64 la) := hC4.2.2.2.2.1
    have c5 : w4.cell? ⟨w.heap.size, 5, none⟩ = some (.int .i64 od) := hC4.2.2.2.2.2.1
    have c6 : w4.cell? ⟨p, 0, none⟩ = some (.int .i64 0) := hC4.2.2.2.2.2.2.1
    have c7 : w4.cell? ⟨p, 1, none⟩ = some (.int .i64 1000000000) := hC4.2.2.2.2.2.2.2.1
    have c8 : w4.cell? ⟨p + 1, 0, none⟩ = some (.int .i64 (-1)) := hC4.2.2.2.2.2.2.2.2.1
    have c9 : w4.cell? ⟨p + 1, 1, none⟩ = some (.int .i64 ((len : Int) - 1)) := hC4.2.2.2.2.2.2.2.2.2.1
    have c10 : Below w.heap.size w w4 := hC4.2.2.2.2.2.2.2.2.2.2
    go_wp2_with fail
    refine (implBoundOk_c _ _ _).mono ?_
    rintro e w5 ⟨rfl, hb5⟩
    have hC5 := rtC_on hC4 hb5
    clear c0 c1 c2 c3 c4 c5 c6 c7 c8 c9 c10
    have c0 : w5.cell? ⟨w.heap.size, 0, none⟩ = some (.int .i64 l) := hC5.1
    have c1 : w5.cell? ⟨w.heap.size, 1, none⟩ = some (.int .i64 h) := hC5.2.1
    have c2 : w5.cell? ⟨w.heap.size, 2, none⟩ = some (.bool true) := hC5.2.2.1
    have c3 : w5.cell? ⟨w.heap.size, 3, none⟩ = some (.int .i64 si) := hC5.2.2.2.1
    have c4 : w5.cell? ⟨w.heap.size, 4, none⟩ = some (.int .i64 la) := hC5.2.2.2.2.1
    have c5 : w5.cell? ⟨w.heap.size, 5, none⟩ = some (.int .i64 od) := hC5.2.2.2.2.2.1
    have c6 : w5.cell? ⟨p, 0, none⟩ = some (.int .i64 0) := hC5.2.2.2.2.2.2.1
    have c7 : w5.cell? ⟨p, 1, none⟩ = some (.int .i64 1000000000) := hC5.2.2.2.2.2.2.2.1
    have c8 : w5.cell? ⟨p + 1, 0, none⟩ = some (.int .i64 (-1)) := hC5.2.2.2.2.2.2.2.2.1
    have c9 : w5.cell? ⟨p + 1, 1, none⟩ = some (.int .i64 ((len : Int) - 1)) := hC5.2.2.2.2.2.2.2.2.2.1
    have c10 : Below w.heap.size w w5 := hC5.2.2.2.2.2.2.2.2.2.2
    go_wp2_with fail
    go_ret
    exact ⟨retB (by simp [rtB, h0, h1, h2, h3]), c10⟩
  cases h4 : (l == 0)
  case false =>
    go_enter Tryd.func46, Tryd.ntmps46
    go_wp2_with fail
    refine (upTo_c _ _).mono ?_
    rintro e w1 ⟨rfl, hb1⟩
    have hC1 : rbC w false l h si la od w1 := ⟨cellOn hb1 (by go_simp), cellOn hb1 (by go_simp), cellOn hb1 (by go_simp), cellOn hb1 (by go_simp), cellOn hb1 (by go_simp), cellOn hb1 (by go_simp), nbTrans (nbAlloc (Below.refl _ _) _) hb1⟩
    have c0 : w1.cell? ⟨w.heap.size, 0, none⟩ = some (.int .i64 l) := hC1.1
    have c1 : w1.cell? ⟨w.heap.size, 1, none⟩ = some (.int .i64 h) := hC1.2.1
    have c2 : w1.cell? ⟨w.heap.size, 2, none⟩ = some (.bool false) := hC1.2.2.1
    have c3 : w1.cell? ⟨w.heap.size, 3, none⟩ = some (.int .i64 si) := hC1.2.2.2.1
    have c4 : w1.cell? ⟨w.heap.size, 4, none⟩ = some (.int .i64 la) := hC1.2.2.2.2.1
    have c5 : w1.cell? ⟨w.heap.size, 5, none⟩ = some (.int .i64 od) := hC1.2.2.2.2.2.1
    have c6 : Below w.heap.size w w1 := hC1.2.2.2.2.2.2
    clear hC1
    have e0 : ((w1.alloc (.cells #[.int .i64 0, .int .i64 1000000000] 105)).alloc (.cells #[.int .i64 (-1), .int .i64 ((len : Int) - 1)] 105)).cell? ⟨w.heap.size, 0, none⟩ = some (.int .i64 l) := cellNew (cellNew c0 _) _
    have e1 : ((w1.alloc (.cells #[.int .i64 0, .int .i64 1000000000] 105)).alloc (.cells #[.int .i64 (-1), .int .i64 ((len : Int) - 1)] 105)).cell? ⟨w.heap.size, 1, none⟩ = some (.int .i64 h) := cellNew (cellNew c1 _) _
    have e2 : ((w1.alloc (.cells #[.int .i64 0, .int .i64 1000000000] 105)).alloc (.cells #[.int .i64 (-1), .int .i64 ((len : Int) - 1)] 105)).cell? ⟨w.heap.size, 2, none⟩ = some (.bool false) := cellNew (cellNew c2 _) _
    have e3 : ((w1.alloc (.cells #[.int .i64 0, .int .i64 1000000000] 105)).alloc (.cells #[.int .i64 (-1), .int .i64 ((len : Int) - 1)] 105)).cell? ⟨w.heap.size, 3, none⟩ = some (.int .i64 si) := cellNew (cellNew c3 _) _
    have e4 : ((w1.alloc (.cells #[.int .i64 0, .int .i64 1000000000] 105)).alloc (.cells #[.int .i64 (-1), .int .i64 ((len : Int) - 1)] 105)).cell? ⟨w.heap.size, 4, none⟩ = some (.int .i64 la) := cellNew (cellNew c4 _) _
    have e5 : ((w1.alloc (.cells #[.int .i64 0, .int .i64 1000000000] 105)).alloc (.cells #[.int .i64 (-1), .int .i64 ((len : Int) - 1)] 105)).cell? ⟨w.heap.size, 5, none⟩ = some (.int .i64 od) := cellNew (cellNew c5 _) _
    go_wp2_with fail
    refine (has_c _ _ _ _).mono ?_
    rintro e w2 ⟨rfl, hb2⟩
    have hC2 : rtC w false l h si la od len w1.heap.size w2 := ⟨cellOn hb2 (by go_simp), cellOn hb2 (by go_simp), cellOn hb2 (by go_simp), cellOn hb2 (by go_simp), cellOn hb2 (by go_simp), cellOn hb2 (by go_simp), cellOn hb2 (by go_simp), cellOn hb2 (by go_simp), cellOn hb2 (by go_simp), cellOn hb2 (by go_simp), nbTrans (nbAlloc (nbAlloc c6 _) _) hb2⟩
    clear c0 c1 c2 c3 c4 c5 c6 e0 e1 e2 e3 e4 e5 hb1 hb2
    generalize w1.heap.size = p at *
    have c0 : w2.cell? ⟨w.heap.size, 0, none⟩ = some (.int .i64 l) := hC2.1
    have c1 : w2.cell? ⟨w.heap.size, 1, none⟩ = some (.int .i64 h) := hC2.2.1
    have c2 : w2.cell? ⟨w.heap.size, 2, none⟩ = some (.bool false) := hC2.2.2.1
    have c3 : w2.cell? ⟨w.heap.size, 3, none⟩ = some (.int .i64 si) := hC2.2.2.2.1
    have c4 : w2.cell? ⟨w.heap.size, 4, none⟩ = some (.int .i64 la) := hC2.2.2.2.2.1
    have c5 : w2.cell? ⟨w.heap.size, 5, none⟩ = some (.int .i64 od) := hC2.2.2.2.2.2.1
    have c6 : w2.cell? ⟨p, 0, none⟩ = some (.int .i64 0) := hC2.2.2.2.2.2.2.1
    have c7 : w2.cell? ⟨p, 1, none⟩ = some (.int .i64 1000000000) := hC2.2.2.2.2.2.2.2.1
    have c8 : w2.cell? ⟨p + 1, 0, none⟩ = some (.int .i64 (-1)) := hC2.2.2.2.2.2.2.2.2.1
    have c9 : w2.cell? ⟨p + 1, 1, none⟩ = some (.int .i64 ((len : Int) - 1)) := hC2.2.2.2.2.2.2.2.2.2.1
    have c10 : Below w.heap.size w w2 := hC2.2.2.2.2.2.2.2.2.2.2
    go_wp2_with fail
    refine (has_c _ _ _ _).mono ?_
    rintro e w3 ⟨rfl, hb3⟩
    have hC3 := rtC_on hC2 hb3
    clear c0 c1 c2 c3 c4 c5 c6 c7 c8 c9 c10
    have c0 : w3.cell? ⟨w.heap.size, 0, none⟩ = some (.int .i64 l) := hC3.1
    have c1 : w3.cell? ⟨w.heap.size, 1, none⟩ = some (.int .i64 h) := hC3.2.1
    have c2 : w3.cell? ⟨w.heap.size, 2, none⟩ = some (.bool false) := hC3.2.2.1
    have c3 : w3.cell? ⟨w.heap.size, 3, none⟩ = some (.int .i64 si) := hC3.2.2.2.1
    have c4 : w3.cell? ⟨w.heap.size, 4, none⟩ = some (.int .i64 la) := hC3.2.2.2.2.1
    have c5 : w3.cell? ⟨w.heap.size, 5, none⟩ = some (.int .i64 od) := hC3.2.2.2.2.2.1
    have c6 : w3.cell? ⟨p, 0, none⟩ = some (.int .i64 0) := hC3.2.2.2.2.2.2.1
    have c7 : w3.cell? ⟨p, 1, none⟩ = some (.int .i64 1000000000) := hC3.2.2.2.2.2.2.2.1
    have c8 : w3.cell? ⟨p + 1, 0, none⟩ = some (.int .i64 (-1)) := hC3.2.2.2.2.2.2.2.2.1
    have c9 : w3.cell? ⟨p + 1, 1, none⟩ = some (.int .i64 ((len : Int) - 1)) := hC3.2.2.2.2.2.2.2.2.2.1
    have c10 : Below w.heap.size w w3 := hC3.2.2.2.2.2.2.2.2.2.2
    go_wp2_with fail
    refine (has_c _ _ _ _).mono ?_
    rintro e w4 ⟨rfl, hb4⟩
    have hC4 := rtC_on hC3 hb4
    clear c0 c1 c2 c3 c4 c5 c6 c7 c8 c9 c10
    have c0 : w4.cell? ⟨w.heap.size, 0, none⟩ = some (.int .i64 l) := hC4.1
    have c1 : w4.cell? ⟨w.heap.size, 1, none⟩ = some (.int .i64 h) := hC4.2.1
    have c2 : w4.cell? ⟨w.heap.size, 2, none⟩ = some (.bool false) := hC4.2.2.1
    have c3 : w4.cell? ⟨w.heap.size, 3, none⟩ = some (.int .i64 si) := hC4.2.2.2.1
    have c4 : w4.cell? ⟨w.heap.size, 4, none⟩ = some (.int .i64 la) := hC4.2.2.2.2.1
    have c5 : w4.cell? ⟨w.heap.size, 5, none⟩ = some (.int .i64 od) := hC4.2.2.2.2.2.1
    have c6 : w4.cell? ⟨p, 0, none⟩ = some (.int .i64 0) := hC4.2.2.2.2.2.2.1
    have c7 : w4.cell? ⟨p, 1, none⟩ = some (.int .i64 1000000000) := hC4.2.2.2.2.2.2.2.1
    have c8 : w4.cell? ⟨p + 1, 0, none⟩ = some (.int .i64 (-1)) := hC4.2.2.2.2.2.2.2.2.1
    have c9 : w4.cell? ⟨p + 1, 1, none⟩ = some (.int .i64 ((len : Int) - 1)) := hC4.2.2.2.2.2.2.2.2.2.1
    have c10 : Below w.heap.size w w4 := hC4.2.2.2.2.2.2.2.2.2.2
    go_wp2_with fail
    refine (implBoundOk_c _ _ _).mono ?_
    rintro e w5 ⟨rfl, hb5⟩
    have hC5 := rtC_on hC4 hb5
    clear c0 c1 c2 c3 c4 c5 c6 c7 c8 c9 c10
    have c0 : w5.cell? ⟨w.heap.size, 0, none⟩ = some (.int .i64 l) := hC5.1
    have c1 : w5.cell? ⟨w.heap.size, 1, none⟩ = some (.int .i64 h) := hC5.2.1
    have c2 : w5.cell? ⟨w.heap.size, 2, none⟩ = some (.bool false) := hC5.2.2.1
    have c3 : w5.cell? ⟨w.heap.size, 3, none⟩ = some (.int .i64 si) := hC5.2.2.2.1
    have c4 : w5.cell? ⟨w.heap.size, 4, none⟩ = some (.int .i64 la) := hC5.2.2.2.2.1
    have c5 : w5.cell? ⟨w.heap.size, 5, none⟩ = some (.int .i64 od) := hC5.2.2.2.2.2.1
    have c6 : w5.cell? ⟨p, 0, none⟩ = some (.int .i64 0) := hC5.2.2.2.2.2.2.1
    have c7 : w5.cell? ⟨p, 1, none⟩ = some (.int .i64 1000000000) := hC5.2.2.2.2.2.2.2.1
    have c8 : w5.cell? ⟨p + 1, 0, none⟩ = some (.int .i64 (-1)) := hC5.2.2.2.2.2.2.2.2.1
    have c9 : w5.cell? ⟨p + 1, 1, none⟩ = some (.int .i64 ((len : Int) - 1)) := hC5.2.2.2.2.2.2.2.2.2.1
    have c10 : Below w.heap.size w w5 := hC5.2.2.2.2.2.2.2.2.2.2
    go_wp2_with fail
    go_ret
    exact ⟨retB (by simp [rtB, h4]), c10⟩
  cases h5 : (h == 0)
  case false =>
    go_enter Tryd.func46, Tryd.ntmps46
    go_wp2_with fail
    refine (upTo_c _ _).mono ?_
    rintro e w1 ⟨rfl, hb1⟩
    have hC1 : rbC w false l h si la od w1 := ⟨cellOn hb1 (by go_simp), cellOn hb1 (by go_simp), cellOn hb1 (by go_simp), cellOn hb1 (by go_simp), cellOn hb1 (by go_simp), cellOn hb1 (by go_simp), nbTrans (nbAlloc (Below.refl _ _) _) hb1⟩
    have c0 : w1.cell? ⟨w.heap.size, 0, none⟩ = some (.int .i64 l) := hC1.1
    have c1 : w1.cell? ⟨w.heap.size, 1, none⟩ = some (.int .i64 h) := hC1.2.1
    have c2 : w1.cell? ⟨w.heap.size, 2, none⟩ = some (.bool false) := hC1.2.2.1
    have c3 : w1.cell? ⟨w.heap.size, 3, none⟩ = some (.int .i64 si) := hC1.2.2.2.1
    have c4 : w1.cell? ⟨w.heap.size, 4, none⟩ = some (.int .i64 la) := hC1.2.2.2.2.1
    have c5 : w1.cell? ⟨w.heap.size, 5, none⟩ = some (.int .i64 od) := hC1.2.2.2.2.2.1
    have c6 : Below w.heap.size w w1 := hC1.2.2.2.2.2.2
    clear hC1
    have e0 : ((w1.alloc (.cells #[.int .i64 0, .int .i64 1000000000] 105)).alloc (.cells #[.int .i64 (-1), .int .i64 ((len : Int) - 1)] 105)).cell? ⟨w.heap.size, 0, none⟩ = some (.int .i64 l) := cellNew (cellNew c0 _) _
    have e1 : ((w1.alloc (.cells #[.int .i64 0, .int .i64 1000000000] 105)).alloc (.cells #[.int .i64 (-1), .int .i64 ((len : Int) - 1)] 105)).cell? ⟨w.heap.size, 1, none⟩ = some (.int .i64 h) := cellNew (cellNew c1 _) _
    have e2 : ((w1.alloc (.cells #[.int .i64 0, .int .i64 1000000000] 105)).alloc (.cells #[.int .i64 (-1), .int .i64 ((len : Int) - 1)] 105)).cell? ⟨w.heap.size, 2, none⟩ = some (.bool false) := cellNew (cellNew c2 _) _
    have e3 : ((w1.alloc (.cells #[.int .i64 0, .int .i64 1000000000] 105)).alloc (.cells #[.int .i64 (-1), .int .i64 ((len : Int) - 1)] 105)).cell? ⟨w.heap.size, 3, none⟩ = some (.int .i64 si) := cellNew (cellNew c3 _) _
    have e4 : ((w1.alloc (.cells #[.int .i64 0, .int .i64 1000000000] 105)).alloc (.cells #[.int .i64 (-1), .int .i64 ((len : Int) - 1)] 105)).cell? ⟨w.heap.size, 4, none⟩ = some (.int .i64 la) := cellNew (cellNew c4 _) _
    have e5 : ((w1.alloc (.cells #[.int .i64 0, .int .i64 1000000000] 105)).alloc (.cells #[.int .i64 (-1), .int .i64 ((len : Int) - 1)] 105)).cell? ⟨w.heap.size, 5, none⟩ = some (.int .i64 od) := cellNew (cellNew c5 _) _
    go_wp2_with fail
    refine (has_c _ _ _ _).mono ?_
    rintro e w2 ⟨rfl, hb2⟩
    have hC2 : rtC w false l h si la od len w1.heap.size w2 := ⟨cellOn hb2 (by go_simp), cellOn hb2 (by go_simp), cellOn hb2 (by go_simp), cellOn hb2 (by go_simp), cellOn hb2 (by go_simp), cellOn hb2 (by go_simp), cellOn hb2 (by go_simp), cellOn hb2 (by go_simp), cellOn hb2 (by go_simp), cellOn hb2 (by go_simp), nbTrans (nbAlloc (nbAlloc c6 _) _) hb2⟩
    clear c0 c1 c2 c3 c4 c5 c6 e0 e1 e2 e3 e4 e5 hb1 hb2
    generalize w1.heap.size = p at *
    have c0 : w2.cell? ⟨w.heap.size, 0, none⟩ = some (.int .i64 l) := hC2.1
    have c1 : w2.cell? ⟨w.heap.size, 1, none⟩ = some (.int .i64 h) := hC2.2.1
    have c2 : w2.cell? ⟨w.heap.size, 2, none⟩ = some (.bool false) := hC2.2.2.1
    have c3 : w2.cell? ⟨w.heap.size, 3, none⟩ = some (.int .i64 si) := hC2.2.2.2.1
    have c4 : w2.cell? ⟨w.heap.size, 4, none⟩ = some (.int .i64 la) := hC2.2.2.2.2.1
    have c5 : w2.cell? ⟨w.heap.size, 5, none⟩ = some (.int .i64 od) := hC2.2.2.2.2.2.1
    have c6 : w2.cell? ⟨p, 0, none⟩ = some (.int .i64 0) := hC2.2.2.2.2.2.2.1
    have c7 : w2.cell? ⟨p, 1, none⟩ = some (.int .i64 1000000000) := hC2.2.2.2.2.2.2.2.1
    have c8 : w2.cell? ⟨p + 1, 0, none⟩ = some (.int .i64 (-1)) := hC2.2.2.2.2.2.2.2.2.1
    have c9 : w2.cell? ⟨p + 1, 1, none⟩ = some (.int .i64 ((len : Int) - 1)) := hC2.2.2.2.2.2.2.2.2.2.1
    have c10 : Below w.heap.size w w2 := hC2.2.2.2.2.2.2.2.2.2.2
    go_wp2_with fail
    refine (has_c _ _ _ _).mono ?_
    rintro e w3 ⟨rfl, hb3⟩
    have hC3 := rtC_on hC2 hb3
    clear c0 c1 c2 c3 c4 c5 c6 c7 c8 c9 c10
    have c0 : w3.cell? ⟨w.heap.size, 0, none⟩ = some (.int .i64 l) := hC3.1
    have c1 : w3.cell? ⟨w.heap.size, 1, none⟩ = some (.int .i64 h) := hC3.2.1
    have c2 : w3.cell? ⟨w.heap.size, 2, none⟩ = some (.bool false) := hC3.2.2.1
    have c3 : w3.cell? ⟨w.heap.size, 3, none⟩ = some (.int .i64 si) := hC3.2.2.2.1
    have c4 : w3.cell? ⟨w.heap.size, 4, none⟩ = some (.int .i64 la) := hC3.2.2.2.2.1
    have c5 : w3.cell? ⟨w.heap.size, 5, none⟩ = some (.int .i64 od) := hC3.2.2.2.2.2.1
    have c6 : w3.cell? ⟨p, 0, none⟩ = some (.int .i64 0) := hC3.2.2.2.2.2.2.1
    have c7 : w3.cell? ⟨p, 1, none⟩ = some (.int .i64 1000000000) := hC3.2.2.2.2.2.2.2.1
    have c8 : w3.cell? ⟨p + 1, 0, none⟩ = some (.int .i64 (-1)) := hC3.2.2.2.2.2.2.2.2.1
    have c9 : w3.cell? ⟨p + 1, 1, none⟩ = some (.int .i64 ((len : Int) - 1)) := hC3.2.2.2.2.2.2.2.2.2.1
    have c10 : Below w.heap.size w w3 := hC3.2.2.2.2.2.2.2.2.2.2
    go_wp2_with fail
    refine (has_c _ _ _ _).mono ?_
    rintro e w4 ⟨rfl, hb4⟩
    have hC4 := rtC_on hC3 hb4
    clear c0 c1 c2 c3 c4 c5 c6 c7 c8 c9 c10
    have c0 : w4.cell? ⟨w.heap.size, 0, none⟩ = some (.int .i64 l) := hC4.1
    have c1 : w4.cell? ⟨w.heap.size, 1, none⟩ = some (.int .i64 h) := hC4.2.1
    have c2 : w4.cell? ⟨w.heap.size, 2, none⟩ = some (.bool false) := hC4.2.2.1
    have c3 : w4.cell? ⟨w.heap.size, 3, none⟩ = some (.int .i64 si) := hC4.2.2.2.1
    have c4 : w4.cell? ⟨w.heap.size, 4, none⟩ = some (.int .i64 la) := hC4.2.2.2.2.1
    have c5 : w4.cell? ⟨w.heap.size, 5, none⟩ = some (.int .i64 od) := hC4.2.2.2.2.2.1
    have c6 : w4.cell? ⟨p, 0, none⟩ = some (.int .i64 0) := hC4.2.2.2.2.2.2.1
    have c7 : w4.cell? ⟨p, 1, none⟩ = some (.int .i64 1000000000) := hC4.2.2.2.2.2.2.2.1
    have c8 : w4.cell? ⟨p + 1, 0, none⟩ = some (.int .i64 (-1)) := hC4.2.2.2.2.2.2.2.2.1
    have c9 : w4.cell? ⟨p + 1, 1, none⟩ = some (.int .i64 ((len : Int) - 1)) := hC4.2.2.2.2.2.2.2.2.2.1
    have c10 : Below w.heap.size w w4 := hC4.2.2.2.2.2.2.2.2.2.2
    go_wp2_with fail
    refine (implBoundOk_c _ _ _).mono ?_
    rintro e w5 ⟨rfl, hb5⟩
    have hC5 := rtC_on hC4 hb5
    clear c0 c1 c2 c3 c4 c5 c6 c7 c8 c9 c10
    have c0 : w5.cell? ⟨w.heap.size, 0, none⟩ = some (.int .i64 l) := hC5.1
    have c1 : w5.cell? ⟨w.heap.size, 1, none⟩ = some (.int .i64 h) := hC5.2.1
    have c2 : w5.cell? ⟨w.heap.size, 2, none⟩ = some (.bool false) := hC5.2.2.1
    have c3 : w5.cell? ⟨w.heap.size, 3, none⟩ = some (.int .i64 si) := hC5.2.2.2.1
    have c4 : w5.cell? ⟨w.heap.size, 4, none⟩ = some (.int .i64 la) := hC5.2.2.2.2.1
    have c5 : w5.cell? ⟨w.heap.size, 5, none⟩ = some (.int .i64 od) := hC5.2.2.2.2.2.1
    have c6 : w5.cell? ⟨p, 0, none⟩ = some (.int .i64 0) := hC5.2.2.2.2.2.2.1
    have c7 : w5.cell? ⟨p, 1, none⟩ = some (.int .i64 1000000000) := hC5.2.2.2.2.2.2.2.1
    have c8 : w5.cell? ⟨p + 1, 0, none⟩ = some (.int .i64 (-1)) := hC5.2.2.2.2.2.2.2.2.1
    have c9 : w5.cell? ⟨p + 1, 1, none⟩ = some (.int .i64 ((len : Int) - 1)) := hC5.2.2.2.2.2.2.2.2.2.1
    have c10 : Below w.heap.size w w5 := hC5.2.2.2.2.2.2.2.2.2.2
    go_wp2_with fail
    go_ret
    exact ⟨retB (by simp [rtB, h5]), c10⟩
  cases h6 : (la == -1)
  case false =>
    go_enter Tryd.func46, Tryd.ntmps46
    go_wp2_with fail
    refine (upTo_c _ _).mono ?_
    rintro e w1 ⟨rfl, hb1⟩
    have hC1 : rbC w false l h si la od w1 := ⟨cellOn hb1 (by go_simp), cellOn hb1 (by go_simp), cellOn hb1 (by go_simp), cellOn hb1 (by go_simp), cellOn hb1 (by go_simp), cellOn hb1 (by go_simp), nbTrans (nbAlloc (Below.refl _ _) _) hb1⟩
    have c0 : w1.cell? ⟨w.heap.size, 0, none⟩ = some (.int .i64 l) := hC1.1
    have c1 : w1.cell? ⟨w.heap.size, 1, none⟩ = some (.int .i64 h) := hC1.2.1
    have c2 : w1.cell? ⟨w.heap.size, 2, none⟩ = some (.bool false) := hC1.2.2.1
    have c3 : w1.cell? ⟨w.heap.size, 3, none⟩ = some (.int .i64 si) := hC1.2.2.2.1
    have c4 : w1.cell? ⟨w.heap.size, 4, none⟩ = some (.int .i64 la) := hC1.2.2.2.2.1
    have c5 : w1.cell? ⟨w.heap.size, 5, none⟩ = some (.int .i64 od) := hC1.2.2.2.2.2.1
    have c6 : Below w.heap.size w w1 := hC1.2.2.2.2.2.2
    clear hC1
    have e0 : ((w1.alloc (.cells #[.int .i64 0, .int .i64 1000000000] 105)).alloc (.cells #[.int .i64 (-1), .int .i64 ((len : Int) - 1)] 105)).cell? ⟨w.heap.size, 0, none⟩ = some (.int .i64 l) := cellNew (cellNew c0 _) _
    have e1 : ((w1.alloc (.cells #[.int .i64 0, .int .i64 1000000000] 105)).alloc (.cells #[.int .i64 (-1), .int .i64 ((len : Int) - 1)] 105)).cell? ⟨w.heap.size, 1, none⟩ = some (.int .i64 h) := cellNew (cellNew c1 _) _
    have e2 : ((w1.alloc (.cells #[.int .i64 0, .int .i64 1000000000] 105)).alloc (.cells #[.int .i64 (-1), .int .i64 ((len : Int) - 1)] 105)).cell? ⟨w.heap.size, 2, none⟩ = some (.bool false) := cellNew (cellNew c2 _) _
    have e3 : ((w1.alloc (.cells #[.int .i64 0, .int .i64 1000000000] 105)).alloc (.cells #[.int .i64 (-1), .int .i64 ((len : Int) - 1)] 105)).cell? ⟨w.heap.size, 3, none⟩ = some (.int .i64 si) := cellNew (cellNew c3 _) _
    have e4 : ((w1.alloc (.cells #[.int .i64 0, .int .i64 1000000000] 105)).alloc (.cells #[.int .i64 (-1), .int .i64 ((len : Int) - 1)] 105)).cell? ⟨w.heap.size, 4, none⟩ = some (.int .i64 la) := cellNew (cellNew c4 _) _
    have e5 : ((w1.alloc (.cells #[.int .i64 0, .int .i64 1000000000] 105)).alloc (.cells #[.int .i64 (-1), .int .i64 ((len : Int) - 1)] 105)).cell? ⟨w.heap.size, 5, none⟩ = some (.int .i64 od) := cellNew (cellNew c5 _) _
    go_wp2_with fail
    refine (has_c _ _ _ _).mono ?_
    rintro e w2 ⟨rfl, hb2⟩
    have hC2 : rtC w false l h si la od len w1.heap.size w2 := ⟨cellOn hb2 (by go_simp), cellOn hb2 (by go_simp), cellOn hb2 (by go_simp), cellOn hb2 (by go_simp), cellOn hb2 (by go_simp), cellOn hb2 (by go_simp), cellOn hb2 (by go_simp), cellOn hb2 (by go_simp), cellOn hb2 (by go_simp), cellOn hb2 (by go_simp), nbTrans (nbAlloc (nbAlloc c6 _) _) hb2⟩
    clear c0 c1 c2 c3 c4 c5 c6 e0 e1 e2 e3 e4 e5 hb1 hb2
    generalize w1.heap.size = p at *
    have c0 : w2.cell? ⟨w.heap.size, 0, none⟩ = some (.int .i64 l) := hC2.1
    have c1 : w2.cell? ⟨w.heap.size, 1, none⟩ = some (.int .i64 h) := hC2.2.1
    have c2 : w2.cell? ⟨w.heap.size, 2, none⟩ = some (.bool false) := hC2.2.2.1
    have c3 : w2.cell? ⟨w.heap.size, 3, none⟩ = some (.int .i64 si) := hC2.2.2.2.1
    have c4 : w2.cell? ⟨w.heap.size, 4, none⟩ = some (.int .i64 la) := hC2.2.2.2.2.1
    have c5 : w2.cell? ⟨w.heap.size, 5, none⟩ = some (.int .i64 od) := hC2.2.2.2.2.2.1
    have c6 : w2.cell? ⟨p, 0, none⟩ = some (.int .i64 0) := hC2.2.2.2.2.2.2.1
    have c7 : w2.cell? ⟨p, 1, none⟩ = some (.int .i64 1000000000) := hC2.2.2.2.2.2.2.2.1
    have c8 : w2.cell? ⟨p + 1, 0, none⟩ = some (.int .i64 (-1)) := hC2.2.2.2.2.2.2.2.2.1
    have c9 : w2.cell? ⟨p + 1, 1, none⟩ = some (.int .i64 ((len : Int) - 1)) := hC2.2.2.2.2.2.2.2.2.2.1
    have c10 : Below w.heap.size w w2 := hC2.2.2.2.2.2.2.2.2.2.2
    go_wp2_with fail
    refine (has_c _ _ _ _).mono ?_
    rintro e w3 ⟨rfl, hb3⟩
    have hC3 := rtC_on hC2 hb3
    clear c0 c1 c2 c3 c4 c5 c6 c7 c8 c9 c10
    have c0 : w3.cell? ⟨w.heap.size, 0, none⟩ = some (.int .i64 l) := hC3.1
    have c1 : w3.cell? ⟨w.heap.size, 1, none⟩ = some (.int .i64 h) := hC3.2.1
    have c2 : w3.cell? ⟨w.heap.size, 2, none⟩ = some (.bool false) := hC3.2.2.1
    have c3 : w3.cell? ⟨w.heap.size, 3, none⟩ = some (.int .i64 si) := hC3.2.2.2.1
    have c4 : w3.cell? ⟨w.heap.size, 4, none⟩ = some (.int .i64 la) := hC3.2.2.2.2.1
    have c5 : w3.cell? ⟨w.heap.size, 5, none⟩ = some (.int .i64 od) := hC3.2.2.2.2.2.1
    have c6 : w3.cell? ⟨p, 0, none⟩ = some (.int .i64 0) := hC3.2.2.2.2.2.2.1
    have c7 : w3.cell? ⟨p, 1, none⟩ = some (.int .i64 1000000000) := hC3.2.2.2.2.2.2.2.1
    have c8 : w3.cell? ⟨p + 1, 0, none⟩ = some (.int .i64 (-1)) := hC3.2.2.2.2.2.2.2.2.1
    have c9 : w3.cell? ⟨p + 1, 1, none⟩ = some (.int .i64 ((len : Int) - 1)) := hC3.2.2.2.2.2.2.2.2.2.1
    have c10 : Below w.heap.size w w3 := hC3.2.2.2.2.2.2.2.2.2.2
    go_wp2_with fail
    refine (has_c _ _ _ _).mono ?_
    rintro e w4 ⟨rfl, hb4⟩
    have hC4 := rtC_on hC3 hb4
    clear c0 c1 c2 c3 c4 c5 c6 c7 c8 c9 c10
    have c0 : w4.cell? ⟨w.heap.size, 0, none⟩ = some (.int .i64 l) := hC4.1
    have c1 : w4.cell? ⟨w.heap.size, 1, none⟩ = some (.int .i64 h) := hC4.2.1
    have c2 : w4.cell? ⟨w.heap.size, 2, none⟩ = some (.bool false) := hC4.2.2.1
    have c3 : w4.cell? ⟨w.heap.size, 3, none⟩ = some (.int .i64 si) := hC4.2.2.2.1
    have c4 : w4.cell? ⟨w.heap.size, 4, none⟩ = some (.int .i64 la) := hC4.2.2.2.2.1
    have c5 : w4.cell? ⟨w.heap.size, 5, none⟩ = some (.int .i64 od) := hC4.2.2.2.2.2.1
    have c6 : w4.cell? ⟨p, 0, none⟩ = some (.int .i64 0) := hC4.2.2.2.2.2.2.1
    have c7 : w4.cell? ⟨p, 1, none⟩ = some (.int .i64 1000000000) := hC4.2.2.2.2.2.2.2.1
    have c8 : w4.cell? ⟨p + 1, 0, none⟩ = some (.int .i64 (-1)) := hC4.2.2.2.2.2.2.2.2.1
    have c9 : w4.cell? ⟨p + 1, 1, none⟩ = some (.int .i64 ((len : Int) - 1)) := hC4.2.2.2.2.2.2.2.2.2.1
    have c10 : Below w.heap.size w w4 := hC4.2.2.2.2.2.2.2.2.2.2
    go_wp2_with fail
    refine (implBoundOk_c _ _ _).mono ?_
    rintro e w5 ⟨rfl, hb5⟩
    have hC5 := rtC_on hC4 hb5
    clear c0 c1 c2 c3 c4 c5 c6 c7 c8 c9 c10
    have c0 : w5.cell? ⟨w.heap.size, 0, none⟩ = some (.int .i64 l) := hC5.1
    have c1 : w5.cell? ⟨w.heap.size, 1, none⟩ = some (.int .i64 h) := hC5.2.1
    have c2 : w5.cell? ⟨w.heap.size, 2, none⟩ = some (.bool false) := hC5.2.2.1
    have c3 : w5.cell? ⟨w.heap.size, 3, none⟩ = some (.int .i64 si) := hC5.2.2.2.1
    have c4 : w5.cell? ⟨w.heap.size, 4, none⟩ = some (.int .i64 la) := hC5.2.2.2.2.1
    have c5 : w5.cell? ⟨w.heap.size, 5, none⟩ = some (.int .i64 od) := hC5.2.2.2.2.2.1
    have c6 : w5.cell? ⟨p, 0, none⟩ = some (.int .i64 0) := hC5.2.2.2.2.2.2.1
    have c7 : w5.cell? ⟨p, 1, none⟩ = some (.int .i64 1000000000) := hC5.2.2.2.2.2.2.2.1
    have c8 : w5.cell? ⟨p + 1, 0, none⟩ = some (.int .i64 (-1)) := hC5.2.2.2.2.2.2.2.2.1
    have c9 : w5.cell? ⟨p + 1, 1, none⟩ = some (.int .i64 ((len : Int) - 1)) := hC5.2.2.2.2.2.2.2.2.2.1
    have c10 : Below w.heap.size w w5 := hC5.2.2.2.2.2.2.2.2.2.2
    go_wp2_with fail
    go_ret
    exact ⟨retB (by simp [rtB, h6]), c10⟩
  go_enter Tryd.func46, Tryd.ntmps46
  go_wp2_with fail
  refine (upTo_c _ _).mono ?_
  rintro e w1 ⟨rfl, hb1⟩
  have hC1 : rbC w false l h si la od w1 := ⟨cellOn hb1 (by go_simp), cellOn hb1 (by go_simp), cellOn hb1 (by go_simp), cellOn hb1 (by go_simp), cellOn hb1 (by go_simp), cellOn hb1 (by go_simp), nbTrans (nbAlloc (Below.refl _ _) _) hb1⟩
  have c0 : w1.cell? ⟨w.heap.size, 0, none⟩ = some (.int .i64 l) := hC1.1
  have c1 : w1.cell? ⟨w.heap.size, 1, none⟩ = some (.int .i64 h) := hC1.2.1
  have c2 : w1.cell? ⟨w.heap.size, 2, none⟩ = some (.bool false) := hC1.2.2.1
  have c3 : w1.cell? ⟨w.heap.size, 3, none⟩ = some (.int .i64 si) := hC1.2.2.2.1
  have c4 : w1.cell? ⟨w.heap.size, 4, none⟩ = some (.int .i64 la) := hC1.2.2.2.2.1
  have c5 : w1.cell? ⟨w.heap.size, 5, none⟩ = some (.int .i64 od) := hC1.2.2.2.2.2.1
  have c6 : Below w.heap.size w w1 := hC1.2.2.2.2.2.2
  clear hC1
  have e0 : ((w1.alloc (.cells #[.int .i64 0, .int .i64 1000000000] 105)).alloc (.cells #[.int .i64 (-1), .int .i64 ((len : Int) - 1)] 105)).cell? ⟨w.heap.size, 0, none⟩ = some (.int .i64 l) := cellNew (cellNew c0 _) _
  have e1 : ((w1.alloc (.cells #[.int .i64 0, .int .i64 1000000000] 105)).alloc (.cells #[.int .i64 (-1), .int .i64 ((len : Int) - 1)] 105)).cell? ⟨w.heap.size, 1, none⟩ = some (.int .i64 h) := cellNew (cellNew c1 _) _
  have e2 : ((w1.alloc (.cells #[.int .i64 0, .int .i64 1000000000] 105)).alloc (.cells #[.int .i64 (-1), .int .i64 ((len : Int) - 1)] 105)).cell? ⟨w.heap.size, 2, none⟩ = some (.bool false) := cellNew (cellNew c2 _) _
  have e3 : ((w1.alloc (.cells #[.int .i64 0, .int .i64 1000000000] 105)).alloc (.cells #[.int .i64 (-1), .int .i64 ((len : Int) - 1)] 105)).cell? ⟨w.heap.size, 3, none⟩ = some (.int .i64 si) := cellNew (cellNew c3 _) _
  have e4 : ((w1.alloc (.cells #[.int .i64 0, .int .i64 1000000000] 105)).alloc (.cells #[.int .i64 (-1), .int .i64 ((len : Int) - 1)] 105)).cell? ⟨w.heap.size, 4, none⟩ = some (.int .i64 la) := cellNew (cellNew c4 _) _
  have e5 : ((w1.alloc (.cells #[.int .i64 0, .int .i64 1000000000] 105)).alloc (.cells #[.int .i64 (-1), .int .i64 ((len : Int) - 1)] 105)).cell? ⟨w.heap.size, 5, none⟩ = some (.int .i64 od) := cellNew (cellNew c5 _) _
  go_wp2_with fail
  refine (has_c _ _ _ _).mono ?_
  rintro e w2 ⟨rfl, hb2⟩
  have hC2 : rtC w false l h si la od len w1.heap.size w2 := ⟨cellOn hb2 (by go_simp), cellOn hb2 (by go_simp), cellOn hb2 (by go_simp), cellOn hb2 (by go_simp), cellOn hb2 (by go_simp), cellOn hb2 (by go_simp), cellOn hb2 (by go_simp), cellOn hb2 (by go_simp), cellOn hb2 (by go_simp), cellOn hb2 (by go_simp), nbTrans (nbAlloc (nbAlloc c6 _) _) hb2⟩
  clear c0 c1 c2 c3 c4 c5 c6 e0 e1 e2 e3 e4 e5 hb1 hb2
  generalize w1.heap.size = p at *
  have c0 : w2.cell? ⟨w.heap.size, 0, none⟩ = some (.int .i64 l) := hC2.1
  have c1 : w2.cell? ⟨w.heap.size, 1, none⟩ = some (.int .i64 h) := hC2.2.1
  have c2 : w2.cell? ⟨w.heap.size, 2, none⟩ = some (.bool false) := hC2.2.2.1
  have c3 : w2.cell? ⟨w.heap.size, 3, none⟩ = some (.int .i64 si) := hC2.2.2.2.1
  have c4 : w2.cell? ⟨w.heap.size, 4, none⟩ = some (.int .i64 la) := hC2.2.2.2.2.1
  have c5 : w2.cell? ⟨w.heap.size, 5, none⟩ = some (.int .i64 od) := hC2.2.2.2.2.2.1
  have c6 : w2.cell? ⟨p, 0, none⟩ = some (.int .i64 0) := hC2.2.2.2.2.2.2.1
  have c7 : w2.cell? ⟨p, 1, none⟩ = some (.int .i64 1000000000) := hC2.2.2.2.2.2.2.2.1
  have c8 : w2.cell? ⟨p + 1, 0, none⟩ = some (.int .i64 (-1)) := hC2.2.2.2.2.2.2.2.2.1
  have c9 : w2.cell? ⟨p + 1, 1, none⟩ = some (.int .i64 ((len : Int) - 1)) := hC2.2.2.2.2.2.2.2.2.2.1
  have c10 : Below w.heap.size w w2 := hC2.2.2.2.2.2.2.2.2.2.2
  go_wp2_with fail
  refine (has_c _ _ _ _).mono ?_
  rintro e w3 ⟨rfl, hb3⟩
  have hC3 := rtC_on hC2 hb3
  clear c0 c1 c2 c3 c4 c5 c6 c7 c8 c9 c10
  have c0 : w3.cell? ⟨w.heap.size, 0, none⟩ = some (.int .i64 l) := hC3.1
  have c1 : w3.cell? ⟨w.heap.size, 1, none⟩ = some (.int .i64 h) := hC3.2.1
  have c2 : w3.cell? ⟨w.heap.size, 2, none⟩ = some (.bool false) := hC3.2.2.1
  have c3 : w3.cell? ⟨w.heap.size, 3, none⟩ = some (.int .i64 si) := hC3.2.2.2.1
  have c4 : w3.cell? ⟨w.heap.size, 4, none⟩ = some (.int .i64 la) := hC3.2.2.2.2.1
  have c5 : w3.cell? ⟨w.heap.size, 5, none⟩ = some (.int .i64 od) := hC3.2.2.2.2.2.1
  have c6 : w3.cell? ⟨p, 0, none⟩ = some (.int .i64 0) := hC3.2.2.2.2.2.2.1
  have c7 : w3.cell? ⟨p, 1, none⟩ = some (.int .i64 1000000000) := hC3.2.2.2.2.2.2.2.1
  have c8 : w3.cell? ⟨p + 1, 0, none⟩ = some (.int .i64 (-1)) := hC3.2.2.2.2.2.2.2.2.1
  have c9 : w3.cell? ⟨p + 1, 1, none⟩ = some (.int .i64 ((len : Int) - 1)) := hC3.2.2.2.2.2.2.2.2.2.1
  have c10 : Below w.heap.size w w3 := hC3.2.2.2.2.2.2.2.2.2.2
  go_wp2_with fail
  refine (has_c _ _ _ _).mono ?_
  rintro e w4 ⟨rfl, hb4⟩
  have hC4 := rtC_on hC3 hb4
  clear c0 c1 c2 c3 c4 c5 c6 c7 c8 c9 c10
  have c0 : w4.cell? ⟨w.heap.size, 0, none⟩ = some (.int .i64 l) := hC4.1
  have c1 : w4.cell? ⟨w.heap.size, 1, none⟩ = some (.int .i64 h) := hC4.2.1
  have c2 : w4.cell? ⟨w.heap.size, 2, none⟩ = some (.bool false) := hC4.2.2.1
  have c3 : w4.cell? ⟨w.heap.size, 3, none⟩ = some (.int .i64 si) := hC4.2.2.2.1
  have c4 : w4.cell? ⟨w.heap.size, 4, none⟩ = some (.int .i64 la) := hC4.2.2.2.2.1
  have c5 : w4.cell? ⟨w.heap.size, 5, none⟩ = some (.int .i64 od) := hC4.2.2.2.2.2.1
  have c6 : w4.cell? ⟨p, 0, none⟩ = some (.int .i64 0) := hC4.2.2.2.2.2.2.1
  have c7 : w4.cell? ⟨p, 1, none⟩ = some (.int .i64 1000000000) := hC4.2.2.2.2.2.2.2.1
  have c8 : w4.cell? ⟨p + 1, 0, none⟩ = some (.int .i64 (-1)) := hC4.2.2.2.2.2.2.2.2.1
  have c9 : w4.cell? ⟨p + 1, 1, none⟩ = some (.int .i64 ((len : Int) - 1)) := hC4.2.2.2.2.2.2.2.2.2.1
  have c10 : Below w.heap.size w w4 := hC4.2.2.2.2.2.2.2.2.2.2
  go_wp2_with fail
  refine (implBoundOk_c _ _ _).mono ?_
  rintro e w5 ⟨rfl, hb5⟩
  have hC5 := rtC_on hC4 hb5
  clear c0 c1 c2 c3 c4 c5 c6 c7 c8 c9 c10
  have c0 : w5.cell? ⟨w.heap.size, 0, none⟩ = some (.int .i64 l) := hC5.1
  have c1 : w5.cell? ⟨w.heap.size, 1, none⟩ = some (.int .i64 h) := hC5.2.1
  have c2 : w5.cell? ⟨w.heap.size, 2, none⟩ = some (.bool false) := hC5.2.2.1
  have c3 : w5.cell? ⟨w.heap.size, 3, none⟩ = some (.int .i64 si) := hC5.2.2.2.1
  have c4 : w5.cell? ⟨w.heap.size, 4, none⟩ = some (.int .i64 la) := hC5.2.2.2.2.1
  have c5 : w5.cell? ⟨w.heap.size, 5, none⟩ = some (.int .i64 od) := hC5.2.2.2.2.2.1
  have c6 : w5.cell? ⟨p, 0, none⟩ = some (.int .i64 0) := hC5.2.2.2.2.2.2.1
  have c7 : w5.cell? ⟨p, 1, none⟩ = some (.int .i64 1000000000) := hC5.2.2.2.2.2.2.2.1
  have c8 : w5.cell? ⟨p + 1, 0, none⟩ = some (.int .i64 (-1)) := hC5.2.2.2.2.2.2.2.2.1
  have c9 : w5.cell? ⟨p + 1, 1, none⟩ = some (.int .i64 ((len : Int) - 1)) := hC5.2.2.2.2.2.2.2.2.2.1
  have c10 : Below w.heap.size w w5 := hC5.2.2.2.2.2.2.2.2.2.2
  go_wp2_with fail
  go_ret
  exact ⟨retB (by simp [rtB, h0, h1, h2, h3, h4, h5, h6]), c10⟩

def isC (w : World) (kn : Bool) (l h si la od : Int) : World → Prop := fun w' => w'.cell? ⟨w.heap.size, 0, none⟩ = some (.bool kn) ∧ w'.cell? ⟨w.heap.size, 1, none⟩ = some (.int .i64 l) ∧ w'.cell? ⟨w.heap.size, 2, none⟩ = some (.int .i64 h) ∧ w'.cell? ⟨w.heap.size, 3, none⟩ = some (.int .i64 si) ∧ w'.cell? ⟨w.heap.size, 4, none⟩ = some (.int .i64 la) ∧ w'.cell? ⟨w.heap.size, 5, none⟩ = some (.int .i64 od) ∧ Below w.heap.size w w'
set_option maxHeartbeats 1000000 in
theorem implStateOk_c (a : Option Addr) (len cap : Nat) (mk : Bool) (kn : Bool) (l h si la od : Int) (w : World) (hl : len ≤ 1048576)
    (HM : Hid (∀ w', Below w.heap.size w w' → Calls Tryd.prog 33 #[.slice a len cap] w' fun e w'' => e = .returned (.bool mk) ∧ Below w'.heap.size w' w'')) :
    Calls Tryd.prog 12 #[.slice a len cap, .agg #[.bool kn, .int .i64 l, .int .i64 h, .int .i64 si, .int .i64 la, .int .i64 od]] w fun e w' => e = .returned (.bool (stB mk len kn l h si la od)) ∧ Below w.heap.size w w' := by
  cases mk
  · go_enter Tryd.func12, Tryd.ntmps12
    go_wp2_with fail
    refine (HM.out _ (nbAlloc (Below.refl _ _) _)).mono ?_
    rintro e w1 ⟨rfl, hb1⟩
    go_wp2_with fail
    go_ret
    exact ⟨retB (by simp [stB]), nbTrans (nbAlloc (Below.refl _ _) _) hb1⟩
  · go_enter Tryd.func12, Tryd.ntmps12
    go_wp2_with fail
    refine (HM.out _ (nbAlloc (Below.refl _ _) _)).mono ?_
    rintro e w1 ⟨rfl, hb1⟩
    have hC1 : isC w kn l h si la od w1 := ⟨cellOn hb1 (by go_simp), cellOn hb1 (by go_simp), cellOn hb1 (by go_simp), cellOn hb1 (by go_simp), cellOn hb1 (by go_simp), cellOn hb1 (by go_simp), nbTrans (nbAlloc (Below.refl _ _) _) hb1⟩
    have c0 : w1.cell? ⟨w.heap.size, 0, none⟩ = some (.bool kn) := hC1.1
    have c1 : w1.cell? ⟨w.heap.size, 1, none⟩ = some (.int .i64 l) := hC1.2.1
    have c2 : w1.cell? ⟨w.heap.size, 2, none⟩ = some (.int .i64 h) := hC1.2.2.1
    have c3 : w1.cell? ⟨w.heap.size, 3, none⟩ = some (.int .i64 si) := hC1.2.2.2.1
    have c4 : w1.cell? ⟨w.heap.size, 4, none⟩ = some (.int .i64 la) := hC1.2.2.2.2.1
    have c5 : w1.cell? ⟨w.heap.size, 5, none⟩ = some (.int .i64 od) := hC1.2.2.2.2.2.1
    have c6 : Below w.heap.size w w1 := hC1.2.2.2.2.2.2
    go_wp2_with fail
    refine (beliefOf_c ⟨kn, l, h, si, la, od⟩ _).mono ?_
    rintro e w2 ⟨rfl, hb2⟩
    simp only [St.b]
    go_wp2_with fail
    refine (right_c len kn l h si la od _ hl).mono ?_
    rintro e w3 ⟨rfl, hb3⟩
    go_wp2_with fail
    go_ret
    exact ⟨retB (by rw [← rtB_st]; simp), nbTrans (nbTrans c6 hb2) hb3⟩

end Go.Proofs.YtmhppadblddjoaaDoor

