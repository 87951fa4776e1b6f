import Derived.Test.YtmhppadblddjoaaMkOk
namespace Go.Proofs.Ytmhppadblddjoaa
open Go.RowKit

theorem nbSetX {w w' : World} {n o : Nat} {v : Value} (h : Below w.heap.size w w') (hn : w.heap.size ≤ n) : Below w.heap.size w (w'.setCell ⟨n, o, none⟩ v) := h.setCell (p := ⟨n, o, none⟩) hn v

def evB (op n : Int) : Bool := if op == 1 then inB n 0 100000 else if op == 2 then inB n 1 1000000000 else if op == 3 then n == 0 else if op == 4 then n == 0 else false
def stB (mk : Bool) (len : Nat) (kn : Bool) (l h si la od : Int) : Bool := mk && inB la (-1) ((len : Int) - 1) && inB si 0 1000000000 && inB od 0 1000000000 && (if kn then bOk l h else l == 0 && h == 0 && la == -1)

set_option maxHeartbeats 1000000 in
theorem specEventOk_c (op n : Int) (w : World) :
    Calls Try.prog 44 #[.agg #[.int .i64 op, .int .i64 n]] w fun e w' => e = .returned (.bool (evB op n)) ∧ Below w.heap.size w w' := by
  cases h1 : (op == 1)
  case true =>
    go_enter Try.func44, Try.ntmps44
    go_wp2_with (go_at_call 54; refine (l1in_c _ _ _ _).mono ?_; rintro e w' ⟨rfl, rfl⟩)
    go_ret
    exact ⟨retB (by simp [evB, h1]), nbAlloc (Below.refl _ _) _⟩
  cases h2 : (op == 2)
  case true =>
    go_enter Try.func44, Try.ntmps44
    go_wp2_with (go_at_call 54; refine (l1in_c _ _ _ _).mono ?_; rintro e w' ⟨rfl, rfl⟩)
    go_ret
    exact ⟨retB (by simp [evB, h1, h2]), nbAlloc (Below.refl _ _) _⟩
  cases h3 : (op == 3)
  case true =>
    go_enter Try.func44, Try.ntmps44
    go_wp2
    go_ret
    exact ⟨retB (by simp [evB, h1, h2, h3]), nbAlloc (Below.refl _ _) _⟩
  cases h4 : (op == 4)
  case true =>
    go_enter Try.func44, Try.ntmps44
    go_wp2
    go_ret
    exact ⟨retB (by simp [evB, h1, h2, h3, h4]), nbAlloc (Below.refl _ _) _⟩
  go_enter Try.func44, Try.ntmps44
  go_wp2
  go_ret
  exact ⟨retB (by simp [evB, h1, h2, h3, h4]), nbAlloc (Below.refl _ _) _⟩

def tsC (w : World) (kn : Bool) (l h si la od : Int) : World → Prop := fun w' => w'.cell? ⟨w.heap.size, 0, none⟩ = some (.bool kn) ∧ w'.cell? ⟨w.heap.size, 1, none⟩ = some (.int .i64 l) ∧ w'.cell? ⟨w.heap.size, 2, none⟩ = some (.int .i64 h) ∧ w'.cell? ⟨w.heap.size, 3, none⟩ = some (.int .i64 si) ∧ w'.cell? ⟨w.heap.size, 4, none⟩ = some (.int .i64 la) ∧ w'.cell? ⟨w.heap.size, 5, none⟩ = some (.int .i64 od) ∧ w'.cell? ⟨w.heap.size + 1 + 1, 0, none⟩ = some (.bool kn) ∧ w'.cell? ⟨w.heap.size + 1 + 1, 1, none⟩ = some (.int .i64 0) ∧ w'.cell? ⟨w.heap.size + 1 + 1, 2, none⟩ = some (.int .i64 0) ∧ w'.cell? ⟨w.heap.size + 1 + 1, 3, none⟩ = some (.int .i64 0) ∧ w'.cell? ⟨w.heap.size + 1 + 1, 4, none⟩ = some (.int .i64 0) ∧ w'.cell? ⟨w.heap.size + 1 + 1, 5, none⟩ = some (.int .i64 0) ∧ w'.cell? ⟨w.heap.size + 1, 0, none⟩ = some (.bool false) ∧ w'.cell? ⟨w.heap.size + 1, 1, none⟩ = some (.int .i64 0) ∧ w'.cell? ⟨w.heap.size + 1, 2, none⟩ = some (.int .i64 0) ∧ w'.cell? ⟨w.heap.size + 1, 3, none⟩ = some (.int .i64 0) ∧ w'.cell? ⟨w.heap.size + 1, 4, none⟩ = some (.int .i64 0) ∧ w'.cell? ⟨w.heap.size + 1, 5, none⟩ = some (.int .i64 0) ∧ w'.frozen? ⟨w.heap.size + 1 + 1, 0, none⟩ = false ∧ w'.frozen? ⟨w.heap.size + 1 + 1, 1, none⟩ = false ∧ w'.frozen? ⟨w.heap.size + 1 + 1, 2, none⟩ = false ∧ w'.frozen? ⟨w.heap.size + 1 + 1, 3, none⟩ = false ∧ w'.frozen? ⟨w.heap.size + 1 + 1, 4, none⟩ = false ∧ w'.frozen? ⟨w.heap.size + 1 + 1, 5, none⟩ = false ∧ w'.frozen? ⟨w.heap.size + 1, 0, none⟩ = false ∧ w'.frozen? ⟨w.heap.size + 1, 1, none⟩ = false ∧ w'.frozen? ⟨w.heap.size + 1, 2, none⟩ = false ∧ w'.frozen? ⟨w.heap.size + 1, 3, none⟩ = false ∧ w'.frozen? ⟨w.heap.size + 1, 4, none⟩ = false ∧ w'.frozen? ⟨w.heap.size + 1, 5, none⟩ = false ∧ Below w.heap.size w w'
theorem tsC_on {w : World} {kn : Bool} {l h si la od : Int} {w1 w2 : World} (hh : tsC w kn l h si la od w1) (hb : Below w1.heap.size w1 w2) : tsC w kn l h si la od w2 :=
  ⟨cellOn hb hh.1, cellOn hb hh.2.1, cellOn hb hh.2.2.1, cellOn hb hh.2.2.2.1, cellOn hb hh.2.2.2.2.1, cellOn hb hh.2.2.2.2.2.1, cellOn hb hh.2.2.2.2.2.2.1, cellOn hb hh.2.2.2.2.2.2.2.1, cellOn hb hh.2.2.2.2.2.2.2.2.1, cellOn hb hh.2.2.2.2.2.2.2.2.2.1, cellOn hb hh.2.2.2.2.2.2.2.2.2.2.1, cellOn hb hh.2.2.2.2.2.2.2.2.2.2.2.1, cellOn hb hh.2.2.2.2.2.2.2.2.2.2.2.2.1, cellOn hb hh.2.2.2.2.2.2.2.2.2.2.2.2.2.1, cellOn hb hh.2.2.2.2.2.2.2.2.2.2.2.2.2.2.1, cellOn hb hh.2.2.2.2.2.2.2.2.2.2.2.2.2.2.2.1, cellOn hb hh.2.2.2.2.2.2.2.2.2.2.2.2.2.2.2.2.1, cellOn hb hh.2.2.2.2.2.2.2.2.2.2.2.2.2.2.2.2.2.1, frozenOn hb hh.2.2.2.2.2.2.1 hh.2.2.2.2.2.2.2.2.2.2.2.2.2.2.2.2.2.2.1, frozenOn hb hh.2.2.2.2.2.2.2.1 hh.2.2.2.2.2.2.2.2.2.2.2.2.2.2.2.2.2.2.2.1, frozenOn hb hh.2.2.2.2.2.2.2.2.1 hh.2.2.2.2.2.2.2.2.2.2.2.2.2.2.2.2.2.2.2.2.1, frozenOn hb hh.2.2.2.2.2.2.2.2.2.1 hh.2.2.2.2.2.2.2.2.2.2.2.2.2.2.2.2.2.2.2.2.2.1, frozenOn hb hh.2.2.2.2.2.2.2.2.2.2.1 hh.2.2.2.2.2.2.2.2.2.2.2.2.2.2.2.2.2.2.2.2.2.2.1, frozenOn hb hh.2.2.2.2.2.2.2.2.2.2.2.1 hh.2.2.2.2.2.2.2.2.2.2.2.2.2.2.2.2.2.2.2.2.2.2.2.1, frozenOn hb hh.2.2.2.2.2.2.2.2.2.2.2.2.1 hh.2.2.2.2.2.2.2.2.2.2.2.2.2.2.2.2.2.2.2.2.2.2.2.2.1, frozenOn hb hh.2.2.2.2.2.2.2.2.2.2.2.2.2.1 hh.2.2.2.2.2.2.2.2.2.2.2.2.2.2.2.2.2.2.2.2.2.2.2.2.2.1, frozenOn hb hh.2.2.2.2.2.2.2.2.2.2.2.2.2.2.1 hh.2.2.2.2.2.2.2.2.2.2.2.2.2.2.2.2.2.2.2.2.2.2.2.2.2.2.1, frozenOn hb hh.2.2.2.2.2.2.2.2.2.2.2.2.2.2.2.1 hh.2.2.2.2.2.2.2.2.2.2.2.2.2.2.2.2.2.2.2.2.2.2.2.2.2.2.2.1, frozenOn hb hh.2.2.2.2.2.2.2.2.2.2.2.2.2.2.2.2.1 hh.2.2.2.2.2.2.2.2.2.2.2.2.2.2.2.2.2.2.2.2.2.2.2.2.2.2.2.2.1, frozenOn hb hh.2.2.2.2.2.2.2.2.2.2.2.2.2.2.2.2.2.1 hh.2.2.2.2.2.2.2.2.2.2.2.2.2.2.2.2.2.2.2.2.2.2.2.2.2.2.2.2.2.1, nbTrans hh.2.2.2.2.2.2.2.2.2.2.2.2.2.2.2.2.2.2.2.2.2.2.2.2.2.2.2.2.2.2 hb⟩

def esC (w : World) (kn : Bool) (l h si la od : Int) : World → Prop := fun w' => w'.cell? ⟨w.heap.size, 0, none⟩ = some (.bool kn) ∧ w'.cell? ⟨w.heap.size, 1, none⟩ = some (.int .i64 l) ∧ w'.cell? ⟨w.heap.size, 2, none⟩ = some (.int .i64 h) ∧ w'.cell? ⟨w.heap.size, 3, none⟩ = some (.int .i64 si) ∧ w'.cell? ⟨w.heap.size, 4, none⟩ = some (.int .i64 la) ∧ w'.cell? ⟨w.heap.size, 5, none⟩ = some (.int .i64 od) ∧ w'.cell? ⟨w.heap.size + 1, 0, none⟩ = some (.bool kn) ∧ w'.cell? ⟨w.heap.size + 1, 1, none⟩ = some (.int .i64 l) ∧ w'.cell? ⟨w.heap.size + 1, 2, none⟩ = some (.int .i64 h) ∧ w'.cell? ⟨w.heap.size + 1, 3, none⟩ = some (.int .i64 si) ∧ w'.cell? ⟨w.heap.size + 1, 4, none⟩ = some (.int .i64 la) ∧ w'.cell? ⟨w.heap.size + 1, 5, none⟩ = some (.int .i64 od) ∧ Below w.heap.size w w'
theorem esC_on {w : World} {kn : Bool} {l h si la od : Int} {w1 w2 : World} (hh : esC w kn l h si la od w1) (hb : Below w1.heap.size w1 w2) : esC w kn l h si la od w2 :=
  ⟨cellOn hb hh.1, cellOn hb hh.2.1, cellOn hb hh.2.2.1, cellOn hb hh.2.2.2.1, cellOn hb hh.2.2.2.2.1, cellOn hb hh.2.2.2.2.2.1, cellOn hb hh.2.2.2.2.2.2.1, cellOn hb hh.2.2.2.2.2.2.2.1, cellOn hb hh.2.2.2.2.2.2.2.2.1, cellOn hb hh.2.2.2.2.2.2.2.2.2.1, cellOn hb hh.2.2.2.2.2.2.2.2.2.2.1, cellOn hb hh.2.2.2.2.2.2.2.2.2.2.2.1, nbTrans hh.2.2.2.2.2.2.2.2.2.2.2.2 hb⟩

def soC (w : World) (kn : Bool) (l h si la od : Int) : World → Prop := fun w' => w'.cell? ⟨w.heap.size, 0, none⟩ = some (.bool kn) ∧ w'.cell? ⟨w.heap.size, 1, none⟩ = some (.int .i64 l) ∧ w'.cell? ⟨w.heap.size, 2, none⟩ = some (.int .i64 h) ∧ w'.cell? ⟨w.heap.size, 3, none⟩ = some (.int .i64 si) ∧ w'.cell? ⟨w.heap.size, 4, none⟩ = some (.int .i64 la) ∧ w'.cell? ⟨w.heap.size, 5, none⟩ = some (.int .i64 od) ∧ Below w.heap.size w w'
theorem soC_on {w : World} {kn : Bool} {l h si la od : Int} {w1 w2 : World} (hh : soC w kn l h si la od w1) (hb : Below w1.heap.size w1 w2) : soC w kn l h si la od w2 :=
  ⟨cellOn hb hh.1, cellOn hb hh.2.1, cellOn hb hh.2.2.1, cellOn hb hh.2.2.2.1, cellOn hb hh.2.2.2.2.1, cellOn hb hh.2.2.2.2.2.1, nbTrans hh.2.2.2.2.2.2 hb⟩

set_option maxHeartbeats 2000000 in
theorem specStateOk_c (a : Option Addr) (len cap : Nat) (mk : Bool) (kn : Bool) (l h si la od : Int) (w : World) (hl : len ≤ 1048576)
    (HM : Hid (∀ w', Below w.heap.size w w' → Calls Try.prog 58 #[.slice a len cap] w' fun e w'' => e = .returned (.bool mk) ∧ Below w'.heap.size w' w'')) :
    Calls Try.prog 43 #[.slice a len cap, .agg #[.bool kn, .int .i64 l, .int .i64 h, .int .i64 si, .int .i64 la, .int .i64 od]] w fun e w' => e = .returned (.bool (stB mk len kn l h si la od)) ∧ Below w.heap.size w w' := by
  have wr : IntKind.i64.wrap ((len : Int) - 1) = (len : Int) - 1 := wrapS (by omega) (by omega)
  cases mk
  case false =>
    go_enter Try.func43, Try.ntmps43
    go_wp2_with fail
    refine (HM.out _ (nbAlloc (Below.refl _ _) _)).mono ?_
    rintro e w1 ⟨rfl, hb1⟩
    have hC : soC w kn l h si la od w1 := ⟨cellOn hb1 (by go_simp), cellOn hb1 (by go_simp), cellOn hb1 (by go_simp), cellOn hb1 (by go_simp), cellOn hb1 (by go_simp), cellOn hb1 (by go_simp), nbTrans (nbAlloc (Below.refl _ _) _) hb1⟩
    have c0 : w1.cell? ⟨w.heap.size, 0, none⟩ = some (.bool kn) := hC.1
    have c1 : w1.cell? ⟨w.heap.size, 1, none⟩ = some (.int .i64 l) := hC.2.1
    have c2 : w1.cell? ⟨w.heap.size, 2, none⟩ = some (.int .i64 h) := hC.2.2.1
    have c3 : w1.cell? ⟨w.heap.size, 3, none⟩ = some (.int .i64 si) := hC.2.2.2.1
    have c4 : w1.cell? ⟨w.heap.size, 4, none⟩ = some (.int .i64 la) := hC.2.2.2.2.1
    have c5 : w1.cell? ⟨w.heap.size, 5, none⟩ = some (.int .i64 od) := hC.2.2.2.2.2.1
    have c6 : Below w.heap.size w w1 := hC.2.2.2.2.2.2
    clear hC
    go_wp2
    go_ret
    exact ⟨retB (by simp [stB]), (by assumption)⟩
  cases h1 : inB la (-1) ((len : Int) - 1)
  case false =>
    go_enter Try.func43, Try.ntmps43
    go_wp2_with fail
    refine (HM.out _ (nbAlloc (Below.refl _ _) _)).mono ?_
    rintro e w1 ⟨rfl, hb1⟩
    have hC : soC w kn l h si la od w1 := ⟨cellOn hb1 (by go_simp), cellOn hb1 (by go_simp), cellOn hb1 (by go_simp), cellOn hb1 (by go_simp), cellOn hb1 (by go_simp), cellOn hb1 (by go_simp), nbTrans (nbAlloc (Below.refl _ _) _) hb1⟩
    have c0 : w1.cell? ⟨w.heap.size, 0, none⟩ = some (.bool kn) := hC.1
    have c1 : w1.cell? ⟨w.heap.size, 1, none⟩ = some (.int .i64 l) := hC.2.1
    have c2 : w1.cell? ⟨w.heap.size, 2, none⟩ = some (.int .i64 h) := hC.2.2.1
    have c3 : w1.cell? ⟨w.heap.size, 3, none⟩ = some (.int .i64 si) := hC.2.2.2.1
    have c4 : w1.cell? ⟨w.heap.size, 4, none⟩ = some (.int .i64 la) := hC.2.2.2.2.1
    have c5 : w1.cell? ⟨w.heap.size, 5, none⟩ = some (.int .i64 od) := hC.2.2.2.2.2.1
    have c6 : Below w.heap.size w w1 := hC.2.2.2.2.2.2
    clear hC
    go_wp2_with (go_at_call 54; refine (l1in_c _ _ _ _).mono ?_; rintro e w' ⟨rfl, rfl⟩)
    go_ret
    exact ⟨retB (by simp [stB, h1]), (by assumption)⟩
  cases h2 : inB si 0 1000000000
  case false =>
    go_enter Try.func43, Try.ntmps43
    go_wp2_with fail
    refine (HM.out _ (nbAlloc (Below.refl _ _) _)).mono ?_
    rintro e w1 ⟨rfl, hb1⟩
    have hC : soC w kn l h si la od w1 := ⟨cellOn hb1 (by go_simp), cellOn hb1 (by go_simp), cellOn hb1 (by go_simp), cellOn hb1 (by go_simp), cellOn hb1 (by go_simp), cellOn hb1 (by go_simp), nbTrans (nbAlloc (Below.refl _ _) _) hb1⟩
    have c0 : w1.cell? ⟨w.heap.size, 0, none⟩ = some (.bool kn) := hC.1
    have c1 : w1.cell? ⟨w.heap.size, 1, none⟩ = some (.int .i64 l) := hC.2.1
    have c2 : w1.cell? ⟨w.heap.size, 2, none⟩ = some (.int .i64 h) := hC.2.2.1
    have c3 : w1.cell? ⟨w.heap.size, 3, none⟩ = some (.int .i64 si) := hC.2.2.2.1
    have c4 : w1.cell? ⟨w.heap.size, 4, none⟩ = some (.int .i64 la) := hC.2.2.2.2.1
    have c5 : w1.cell? ⟨w.heap.size, 5, none⟩ = some (.int .i64 od) := hC.2.2.2.2.2.1
    have c6 : Below w.heap.size w w1 := hC.2.2.2.2.2.2
    clear hC
    go_wp2_with (go_at_call 54; refine (l1in_c _ _ _ _).mono ?_; rintro e w' ⟨rfl, rfl⟩)
    go_ret
    exact ⟨retB (by simp [stB, h2]), (by assumption)⟩
  cases h3 : inB od 0 1000000000
  case false =>
    go_enter Try.func43, Try.ntmps43
    go_wp2_with fail
    refine (HM.out _ (nbAlloc (Below.refl _ _) _)).mono ?_
    rintro e w1 ⟨rfl, hb1⟩
    have hC : soC w kn l h si la od w1 := ⟨cellOn hb1 (by go_simp), cellOn hb1 (by go_simp), cellOn hb1 (by go_simp), cellOn hb1 (by go_simp), cellOn hb1 (by go_simp), cellOn hb1 (by go_simp), nbTrans (nbAlloc (Below.refl _ _) _) hb1⟩
    have c0 : w1.cell? ⟨w.heap.size, 0, none⟩ = some (.bool kn) := hC.1
    have c1 : w1.cell? ⟨w.heap.size, 1, none⟩ = some (.int .i64 l) := hC.2.1
    have c2 : w1.cell? ⟨w.heap.size, 2, none⟩ = some (.int .i64 h) := hC.2.2.1
    have c3 : w1.cell? ⟨w.heap.size, 3, none⟩ = some (.int .i64 si) := hC.2.2.2.1
    have c4 : w1.cell? ⟨w.heap.size, 4, none⟩ = some (.int .i64 la) := hC.2.2.2.2.1
    have c5 : w1.cell? ⟨w.heap.size, 5, none⟩ = some (.int .i64 od) := hC.2.2.2.2.2.1
    have c6 : Below w.heap.size w w1 := hC.2.2.2.2.2.2
    clear hC
    go_wp2_with (go_at_call 54; refine (l1in_c _ _ _ _).mono ?_; rintro e w' ⟨rfl, rfl⟩)
    go_ret
    exact ⟨retB (by simp [stB, h3]), (by assumption)⟩
  cases kn
  case true =>
    go_enter Try.func43, Try.ntmps43
    go_wp2_with fail
    refine (HM.out _ (nbAlloc (Below.refl _ _) _)).mono ?_
    rintro e w1 ⟨rfl, hb1⟩
    have hC : soC w true l h si la od w1 := ⟨cellOn hb1 (by go_simp), cellOn hb1 (by go_simp), cellOn hb1 (by go_simp), cellOn hb1 (by go_simp), cellOn hb1 (by go_simp), cellOn hb1 (by go_simp), nbTrans (nbAlloc (Below.refl _ _) _) hb1⟩
    have c0 : w1.cell? ⟨w.heap.size, 0, none⟩ = some (.bool true) := hC.1
    have c1 : w1.cell? ⟨w.heap.size, 1, none⟩ = some (.int .i64 l) := hC.2.1
    have c2 : w1.cell? ⟨w.heap.size, 2, none⟩ = some (.int .i64 h) := hC.2.2.1
    have c3 : w1.cell? ⟨w.heap.size, 3, none⟩ = some (.int .i64 si) := hC.2.2.2.1
    have c4 : w1.cell? ⟨w.heap.size, 4, none⟩ = some (.int .i64 la) := hC.2.2.2.2.1
    have c5 : w1.cell? ⟨w.heap.size, 5, none⟩ = some (.int .i64 od) := hC.2.2.2.2.2.1
    have c6 : Below w.heap.size w w1 := hC.2.2.2.2.2.2
    clear hC
    go_wp2_with (first | (go_at_call 54; refine (l1in_c _ _ _ _).mono ?_; rintro e w' ⟨rfl, rfl⟩))
    refine (specBoundOk_c _ _ _).mono ?_
    rintro e w2 ⟨rfl, hb2⟩
    go_wp2_with fail
    go_ret
    exact ⟨retB (by simp [stB, h1, h2, h3]), nbTrans (by assumption) hb2⟩
  cases h4 : (l == 0)
  case false =>
    go_enter Try.func43, Try.ntmps43
    go_wp2_with fail
    refine (HM.out _ (nbAlloc (Below.refl _ _) _)).mono ?_
    rintro e w1 ⟨rfl, hb1⟩
    have hC : soC w false l h si la od w1 := ⟨cellOn hb1 (by go_simp), cellOn hb1 (by go_simp), cellOn hb1 (by go_simp), cellOn hb1 (by go_simp), cellOn hb1 (by go_simp), cellOn hb1 (by go_simp), nbTrans (nbAlloc (Below.refl _ _) _) hb1⟩
    have c0 : w1.cell? ⟨w.heap.size, 0, none⟩ = some (.bool false) := hC.1
    have c1 : w1.cell? ⟨w.heap.size, 1, none⟩ = some (.int .i64 l) := hC.2.1
    have c2 : w1.cell? ⟨w.heap.size, 2, none⟩ = some (.int .i64 h) := hC.2.2.1
    have c3 : w1.cell? ⟨w.heap.size, 3, none⟩ = some (.int .i64 si) := hC.2.2.2.1
    have c4 : w1.cell? ⟨w.heap.size, 4, none⟩ = some (.int .i64 la) := hC.2.2.2.2.1
    have c5 : w1.cell? ⟨w.heap.size, 5, none⟩ = some (.int .i64 od) := hC.2.2.2.2.2.1
    have c6 : Below w.heap.size w w1 := hC.2.2.2.2.2.2
    clear hC
    go_wp2_with (go_at_call 54; refine (l1in_c _ _ _ _).mono ?_; rintro e w' ⟨rfl, rfl⟩)
    go_ret
    exact ⟨retB (by simp [stB, h4]), (by assumption)⟩
  cases h5 : (h == 0)
  case false =>
    go_enter Try.func43, Try.ntmps43
    go_wp2_with fail
    refine (HM.out _ (nbAlloc (Below.refl _ _) _)).mono ?_
    rintro e w1 ⟨rfl, hb1⟩
    have hC : soC w false l h si la od w1 := ⟨cellOn hb1 (by go_simp), cellOn hb1 (by go_simp), cellOn hb1 (by go_simp), cellOn hb1 (by go_simp), cellOn hb1 (by go_simp), cellOn hb1 (by go_simp), nbTrans (nbAlloc (Below.refl _ _) _) hb1⟩
    have c0 : w1.cell? ⟨w.heap.size, 0, none⟩ = some (.bool false) := hC.1
    have c1 : w1.cell? ⟨w.heap.size, 1, none⟩ = some (.int .i64 l) := hC.2.1
    have c2 : w1.cell? ⟨w.heap.size, 2, none⟩ = some (.int .i64 h) := hC.2.2.1
    have c3 : w1.cell? ⟨w.heap.size, 3, none⟩ = some (.int .i64 si) := hC.2.2.2.1
    have c4 : w1.cell? ⟨w.heap.size, 4, none⟩ = some (.int .i64 la) := hC.2.2.2.2.1
    have c5 : w1.cell? ⟨w.heap.size, 5, none⟩ = some (.int .i64 od) := hC.2.2.2.2.2.1
    have c6 : Below w.heap.size w w1 := hC.2.2.2.2.2.2
    clear hC
    go_wp2_with (go_at_call 54; refine (l1in_c _ _ _ _).mono ?_; rintro e w' ⟨rfl, rfl⟩)
    go_ret
    exact ⟨retB (by simp [stB, h5]), (by assumption)⟩
  cases h6 : (la == -1)
  case false =>
    go_enter Try.func43, Try.ntmps43
    go_wp2_with fail
    refine (HM.out _ (nbAlloc (Below.refl _ _) _)).mono ?_
    rintro e w1 ⟨rfl, hb1⟩
    have hC : soC w false l h si la od w1 := ⟨cellOn hb1 (by go_simp), cellOn hb1 (by go_simp), cellOn hb1 (by go_simp), cellOn hb1 (by go_simp), cellOn hb1 (by go_simp), cellOn hb1 (by go_simp), nbTrans (nbAlloc (Below.refl _ _) _) hb1⟩
    have c0 : w1.cell? ⟨w.heap.size, 0, none⟩ = some (.bool false) := hC.1
    have c1 : w1.cell? ⟨w.heap.size, 1, none⟩ = some (.int .i64 l) := hC.2.1
    have c2 : w1.cell? ⟨w.heap.size, 2, none⟩ = some (.int .i64 h) := hC.2.2.1
    have c3 : w1.cell? ⟨w.heap.size, 3, none⟩ = some (.int .i64 si) := hC.2.2.2.1
    have c4 : w1.cell? ⟨w.heap.size, 4, none⟩ = some (.int .i64 la) := hC.2.2.2.2.1
    have c5 : w1.cell? ⟨w.heap.size, 5, none⟩ = some (.int .i64 od) := hC.2.2.2.2.2.1
    have c6 : Below w.heap.size w w1 := hC.2.2.2.2.2.2
    clear hC
    go_wp2_with (go_at_call 54; refine (l1in_c _ _ _ _).mono ?_; rintro e w' ⟨rfl, rfl⟩)
    go_ret
    exact ⟨retB (by simp [stB, h6]), (by assumption)⟩
  go_enter Try.func43, Try.ntmps43
  go_wp2_with fail
  refine (HM.out _ (nbAlloc (Below.refl _ _) _)).mono ?_
  rintro e w1 ⟨rfl, hb1⟩
  have hC : soC w false l h si la od w1 := ⟨cellOn hb1 (by go_simp), cellOn hb1 (by go_simp), cellOn hb1 (by go_simp), cellOn hb1 (by go_simp), cellOn hb1 (by go_simp), cellOn hb1 (by go_simp), nbTrans (nbAlloc (Below.refl _ _) _) hb1⟩
  have c0 : w1.cell? ⟨w.heap.size, 0, none⟩ = some (.bool false) := hC.1
  have c1 : w1.cell? ⟨w.heap.size, 1, none⟩ = some (.int .i64 l) := hC.2.1
  have c2 : w1.cell? ⟨w.heap.size, 2, none⟩ = some (.int .i64 h) := hC.2.2.1
  have c3 : w1.cell? ⟨w.heap.size, 3, none⟩ = some (.int .i64 si) := hC.2.2.2.1
  have c4 : w1.cell? ⟨w.heap.size, 4, none⟩ = some (.int .i64 la) := hC.2.2.2.2.1
  have c5 : w1.cell? ⟨w.heap.size, 5, none⟩ = some (.int .i64 od) := hC.2.2.2.2.2.1
  have c6 : Below w.heap.size w w1 := hC.2.2.2.2.2.2
  clear hC
  go_wp2_with (go_at_call 54; refine (l1in_c _ _ _ _).mono ?_; rintro e w' ⟨rfl, rfl⟩)
  go_ret
  exact ⟨retB (by simp [stB, h1, h2, h3, h4, h5, h6]), (by assumption)⟩

end Go.Proofs.Ytmhppadblddjoaa
