/- Chapter 3 of the specification: the body. -/
import Derived.Test.YtmhppadblddjoaaEv
import Derived.Test.YtmhppadblddjoaaW4
import Derived.Test.YtmhppadblddjoaaW7
namespace Go.Proofs.Ytmhppadblddjoaa
open Go.RowKit

/-- What is believed can be asked of a body. -/
def q3 (s j m g o : Int) (kn : Bool) (l h : Int) : Bool := rOk s j m g o && kn && bOk l h

def s3I (w : World) (s j m g o : Int) (kn : Bool) (l h si la od : Int) : World → Prop := fun w' => w'.cell? ⟨w.heap.size, 0, none⟩ = some (.int .i64 s) ∧ w'.cell? ⟨w.heap.size, 1, none⟩ = some (.int .i64 j) ∧ w'.cell? ⟨w.heap.size, 2, none⟩ = some (.int .i64 m) ∧ w'.cell? ⟨w.heap.size, 3, none⟩ = some (.int .i64 g) ∧ w'.cell? ⟨w.heap.size, 4, none⟩ = some (.int .i64 o) ∧ w'.cell? ⟨w.heap.size + 1, 0, none⟩ = some (.bool kn) ∧ w'.cell? ⟨w.heap.size + 1, 1, none⟩ = some (.int .i64 l) ∧ w'.cell? ⟨w.heap.size + 1, 2, none⟩ = some (.int .i64 h) ∧ w'.cell? ⟨w.heap.size + 1, 3, none⟩ = some (.int .i64 si) ∧ w'.cell? ⟨w.heap.size + 1, 4, none⟩ = some (.int .i64 la) ∧ w'.cell? ⟨w.heap.size + 1, 5, none⟩ = some (.int .i64 od) ∧ Below w.heap.size w w'
theorem s3I_on {w : World} {s j m g o : Int} {kn : Bool} {l h si la od : Int} {w1 w2 : World} (hh : s3I w s j m g o kn l h si la od w1) (hb : Below w1.heap.size w1 w2) : s3I w s j m g o kn l h si la od w2 :=
  ⟨cellOn hb hh.1, cellOn hb hh.2.1, cellOn hb hh.2.2.1, cellOn hb hh.2.2.2.1, cellOn hb hh.2.2.2.2.1, cellOn hb hh.2.2.2.2.2.1, cellOn hb hh.2.2.2.2.2.2.1, cellOn hb hh.2.2.2.2.2.2.2.1, cellOn hb hh.2.2.2.2.2.2.2.2.1, cellOn hb hh.2.2.2.2.2.2.2.2.2.1, cellOn hb hh.2.2.2.2.2.2.2.2.2.2.1, nbTrans hh.2.2.2.2.2.2.2.2.2.2.2 hb⟩

def s3B (w : World) (s j m g o : Int) (kn : Bool) (l h si la od : Int) : World → Prop := fun w' => w'.cell? ⟨w.heap.size, 0, none⟩ = some (.int .i64 s) ∧ w'.cell? ⟨w.heap.size, 1, none⟩ = some (.int .i64 j) ∧ w'.cell? ⟨w.heap.size, 2, none⟩ = some (.int .i64 m) ∧ w'.cell? ⟨w.heap.size, 3, none⟩ = some (.int .i64 g) ∧ w'.cell? ⟨w.heap.size, 4, none⟩ = some (.int .i64 o) ∧ w'.cell? ⟨w.heap.size + 1, 0, none⟩ = some (.bool kn) ∧ w'.cell? ⟨w.heap.size + 1, 1, none⟩ = some (.int .i64 l) ∧ w'.cell? ⟨w.heap.size + 1, 2, none⟩ = some (.int .i64 h) ∧ w'.cell? ⟨w.heap.size + 1, 3, none⟩ = some (.int .i64 si) ∧ w'.cell? ⟨w.heap.size + 1, 4, none⟩ = some (.int .i64 la) ∧ w'.cell? ⟨w.heap.size + 1, 5, none⟩ = some (.int .i64 od) ∧ w'.cell? ⟨w.heap.size + 1 + 1, 0, none⟩ = some (.int .i64 0) ∧ w'.cell? ⟨w.heap.size + 1 + 1, 1, none⟩ = some (.int .i64 0) ∧ w'.frozen? ⟨w.heap.size + 1 + 1, 0, none⟩ = false ∧ w'.frozen? ⟨w.heap.size + 1 + 1, 1, none⟩ = false ∧ Below w.heap.size w w'
theorem s3B_on {w : World} {s j m g o : Int} {kn : Bool} {l h si la od : Int} {w1 w2 : World} (hh : s3B w s j m g o kn l h si la od w1) (hb : Below w1.heap.size w1 w2) : s3B w s j m g o kn l h si la od w2 :=
  ⟨cellOn hb hh.1, cellOn hb hh.2.1, cellOn hb hh.2.2.1, cellOn hb hh.2.2.2.1, cellOn hb hh.2.2.2.2.1, cellOn hb hh.2.2.2.2.2.1, cellOn hb hh.2.2.2.2.2.2.1, cellOn hb hh.2.2.2.2.2.2.2.1, cellOn hb hh.2.2.2.2.2.2.2.2.1, cellOn hb hh.2.2.2.2.2.2.2.2.2.1, cellOn hb hh.2.2.2.2.2.2.2.2.2.2.1, cellOn hb hh.2.2.2.2.2.2.2.2.2.2.2.1, cellOn hb hh.2.2.2.2.2.2.2.2.2.2.2.2.1, frozenOn hb hh.2.2.2.2.2.2.2.2.2.2.2.1 hh.2.2.2.2.2.2.2.2.2.2.2.2.2.1, frozenOn hb hh.2.2.2.2.2.2.2.2.2.2.2.2.1 hh.2.2.2.2.2.2.2.2.2.2.2.2.2.2.1, nbTrans hh.2.2.2.2.2.2.2.2.2.2.2.2.2.2.2 hb⟩

theorem q3_parts {s j m g o : Int} {kn : Bool} {l h : Int} (hq : q3 s j m g o kn l h = true) : 1 ≤ g ∧ g ≤ 1000000 ∧ 0 ≤ o ∧ o ≤ 10000 ∧ -100000000 ≤ l ∧ l ≤ h ∧ h ≤ 100000000 := by
  simp only [q3, rOk, bOk, inB, Bool.and_eq_true, decide_eq_true_eq] at hq
  omega

def holdsA (s j m g o : Int) (kn : Bool) (l h : Int) : Int × Int := if q3 s j m g o kn l h then (l - g - o, h) else (1, 0)
def pastA (s j m g o : Int) (kn : Bool) (l h c : Int) : Int := if q3 s j m g o kn l h && inB c (-100000000) 100000000 then (if h < c then -1 else if c < l - g - o then 1 else 0) else 0
def roomA (s j m g o : Int) (kn : Bool) (l h c : Int) : Int := if q3 s j m g o kn l h && inB c (-100000000) 100000000 && decide (h ≤ c) then c - h else -1

def s3N (w : World) (kn : Bool) (l h si la od : Int) : World → Prop := fun w' => w'.cell? ⟨w.heap.size, 0, none⟩ = some (.bool kn) ∧ w'.cell? ⟨w.heap.size, 1, none⟩ = some (.int .i64 l) ∧ w'.cell? ⟨w.heap.size, 2, none⟩ = some (.int .i64 h) ∧ w'.cell? ⟨w.heap.size, 3, none⟩ = some (.int .i64 si) ∧ w'.cell? ⟨w.heap.size, 4, none⟩ = some (.int .i64 la) ∧ w'.cell? ⟨w.heap.size, 5, none⟩ = some (.int .i64 od) ∧ Below w.heap.size w w'
theorem s3N_on {w : World} {kn : Bool} {l h si la od : Int} {w1 w2 : World} (hh : s3N w kn l h si la od w1) (hb : Below w1.heap.size w1 w2) : s3N w kn l h si la od w2 :=
  ⟨cellOn hb hh.1, cellOn hb hh.2.1, cellOn hb hh.2.2.1, cellOn hb hh.2.2.2.1, cellOn hb hh.2.2.2.2.1, cellOn hb hh.2.2.2.2.2.1, nbTrans hh.2.2.2.2.2.2 hb⟩

def nxt (a : Nat → Int) (l : Int) : Nat → Nat → Int
  | _, 0 => -1
  | k, n + 1 => if l < a k then (k : Int) else nxt a l (k + 1) n
theorem nxt_step {a : Nat → Int} {l : Int} {k len : Nat} (hk : k < len) : nxt a l k (len - k) = if l < a k then (k : Int) else nxt a l (k + 1) (len - (k + 1)) := by
  rw [show len - k = (len - (k + 1)) + 1 by omega, nxt]
def nextA (f a : Nat → Int) (len : Nat) (kn : Bool) (l h : Int) : Int := if marksB f a len && kn && bOk l h then nxt a l 0 len else -1

def s3W (w : World) (s j m g o : Int) : World → Prop := fun w' => w'.cell? ⟨w.heap.size, 0, none⟩ = some (.int .i64 s) ∧ w'.cell? ⟨w.heap.size, 1, none⟩ = some (.int .i64 j) ∧ w'.cell? ⟨w.heap.size, 2, none⟩ = some (.int .i64 m) ∧ w'.cell? ⟨w.heap.size, 3, none⟩ = some (.int .i64 g) ∧ w'.cell? ⟨w.heap.size, 4, none⟩ = some (.int .i64 o) ∧ Below w.heap.size w w'
theorem s3W_on {w : World} {s j m g o : Int} {w1 w2 : World} (hh : s3W w s j m g o w1) (hb : Below w1.heap.size w1 w2) : s3W w s j m g o w2 :=
  ⟨cellOn hb hh.1, cellOn hb hh.2.1, cellOn hb hh.2.2.1, cellOn hb hh.2.2.2.1, cellOn hb hh.2.2.2.2.1, nbTrans hh.2.2.2.2.2 hb⟩

def wideA (s j m g o : Int) (f a : Nat → Int) (len : Nat) (c : Int) : Int := if rOk s j m g o && marksB f a len && inB c 0 100000 then 2 * m + mst s j c - lst s j c else -1
set_option maxHeartbeats 2000000 in
theorem specWide_m (ad : Option Addr) (len cap : Nat) (f a : Nat → Int) (s j m g o c : Int) (w : World) (HM : Hid (∀ w', Below w.heap.size w w' → Calls Try.prog 58 #[.slice ad len cap] w' fun e w'' => e = .returned (.bool (marksB f a len)) ∧ Below w'.heap.size w' w'')) :
    Calls Try.prog 19 #[.agg #[.int .i64 s, .int .i64 j, .int .i64 m, .int .i64 g, .int .i64 o], .slice ad len cap, .int .i64 c] w fun e w' => e = .returned (.int .i64 (wideA s j m g o f a len c)) ∧ Below w.heap.size w w' := by
  cases hr : rOk s j m g o
  case false =>
    go_enter Try.func19, Try.ntmps19
    go_wp2_with fail
    refine (specRulesOk_c _ _ _ _ _ _).mono ?_
    rintro e w1 ⟨rfl, hb1⟩
    have hC1 : s3W w s j m g o w1 := ⟨cellOn hb1 (by go_simp), cellOn hb1 (by go_simp), cellOn hb1 (by go_simp), cellOn hb1 (by go_simp), cellOn hb1 (by go_simp), nbTrans (nbAlloc (Below.refl _ _) _) hb1⟩
    have hB1 : Below w.heap.size w w1 := hC1.2.2.2.2.2
    have c0 : w1.cell? ⟨w.heap.size, 0, none⟩ = some (.int .i64 s) := hC1.1
    have c1 : w1.cell? ⟨w.heap.size, 1, none⟩ = some (.int .i64 j) := hC1.2.1
    have c2 : w1.cell? ⟨w.heap.size, 2, none⟩ = some (.int .i64 m) := hC1.2.2.1
    have c3 : w1.cell? ⟨w.heap.size, 3, none⟩ = some (.int .i64 g) := hC1.2.2.2.1
    have c4 : w1.cell? ⟨w.heap.size, 4, none⟩ = some (.int .i64 o) := hC1.2.2.2.2.1
    have c5 : Below w.heap.size w w1 := hC1.2.2.2.2.2
    go_wp2_with fail
    go_ret
    exact ⟨retI (by simp [wideA, hr]), c5⟩
  cases hm : marksB f a len
  case false =>
    go_enter Try.func19, Try.ntmps19
    go_wp2_with fail
    refine (specRulesOk_c _ _ _ _ _ _).mono ?_
    rintro e w1 ⟨rfl, hb1⟩
    have hC1 : s3W w s j m g o w1 := ⟨cellOn hb1 (by go_simp), cellOn hb1 (by go_simp), cellOn hb1 (by go_simp), cellOn hb1 (by go_simp), cellOn hb1 (by go_simp), nbTrans (nbAlloc (Below.refl _ _) _) hb1⟩
    have hB1 : Below w.heap.size w w1 := hC1.2.2.2.2.2
    have c0 : w1.cell? ⟨w.heap.size, 0, none⟩ = some (.int .i64 s) := hC1.1
    have c1 : w1.cell? ⟨w.heap.size, 1, none⟩ = some (.int .i64 j) := hC1.2.1
    have c2 : w1.cell? ⟨w.heap.size, 2, none⟩ = some (.int .i64 m) := hC1.2.2.1
    have c3 : w1.cell? ⟨w.heap.size, 3, none⟩ = some (.int .i64 g) := hC1.2.2.2.1
    have c4 : w1.cell? ⟨w.heap.size, 4, none⟩ = some (.int .i64 o) := hC1.2.2.2.2.1
    have c5 : Below w.heap.size w w1 := hC1.2.2.2.2.2
    go_wp2_with fail
    refine (HM.out _ hB1).mono ?_
    rintro e w2 ⟨rfl, hb2⟩
    have hC2 := s3W_on hC1 hb2
    clear hC1 c0 c1 c2 c3 c4 c5
    have c0 : w2.cell? ⟨w.heap.size, 0, none⟩ = some (.int .i64 s) := hC2.1
    have c1 : w2.cell? ⟨w.heap.size, 1, none⟩ = some (.int .i64 j) := hC2.2.1
    have c2 : w2.cell? ⟨w.heap.size, 2, none⟩ = some (.int .i64 m) := hC2.2.2.1
    have c3 : w2.cell? ⟨w.heap.size, 3, none⟩ = some (.int .i64 g) := hC2.2.2.2.1
    have c4 : w2.cell? ⟨w.heap.size, 4, none⟩ = some (.int .i64 o) := hC2.2.2.2.2.1
    have c5 : Below w.heap.size w w2 := hC2.2.2.2.2.2
    go_wp2_with fail
    go_ret
    exact ⟨retI (by simp [wideA, hm]), c5⟩
  cases hc : inB c 0 100000
  case false =>
    go_enter Try.func19, Try.ntmps19
    go_wp2_with fail
    refine (specRulesOk_c _ _ _ _ _ _).mono ?_
    rintro e w1 ⟨rfl, hb1⟩
    have hC1 : s3W w s j m g o w1 := ⟨cellOn hb1 (by go_simp), cellOn hb1 (by go_simp), cellOn hb1 (by go_simp), cellOn hb1 (by go_simp), cellOn hb1 (by go_simp), nbTrans (nbAlloc (Below.refl _ _) _) hb1⟩
    have hB1 : Below w.heap.size w w1 := hC1.2.2.2.2.2
    have c0 : w1.cell? ⟨w.heap.size, 0, none⟩ = some (.int .i64 s) := hC1.1
    have c1 : w1.cell? ⟨w.heap.size, 1, none⟩ = some (.int .i64 j) := hC1.2.1
    have c2 : w1.cell? ⟨w.heap.size, 2, none⟩ = some (.int .i64 m) := hC1.2.2.1
    have c3 : w1.cell? ⟨w.heap.size, 3, none⟩ = some (.int .i64 g) := hC1.2.2.2.1
    have c4 : w1.cell? ⟨w.heap.size, 4, none⟩ = some (.int .i64 o) := hC1.2.2.2.2.1
    have c5 : Below w.heap.size w w1 := hC1.2.2.2.2.2
    go_wp2_with fail
    refine (HM.out _ hB1).mono ?_
    rintro e w2 ⟨rfl, hb2⟩
    have hC2 := s3W_on hC1 hb2
    clear hC1 c0 c1 c2 c3 c4 c5
    have c0 : w2.cell? ⟨w.heap.size, 0, none⟩ = some (.int .i64 s) := hC2.1
    have c1 : w2.cell? ⟨w.heap.size, 1, none⟩ = some (.int .i64 j) := hC2.2.1
    have c2 : w2.cell? ⟨w.heap.size, 2, none⟩ = some (.int .i64 m) := hC2.2.2.1
    have c3 : w2.cell? ⟨w.heap.size, 3, none⟩ = some (.int .i64 g) := hC2.2.2.2.1
    have c4 : w2.cell? ⟨w.heap.size, 4, none⟩ = some (.int .i64 o) := hC2.2.2.2.2.1
    have c5 : Below w.heap.size w w2 := hC2.2.2.2.2.2
    go_wp2_with fail
    refine (l1in_c _ _ _ _).mono ?_
    rintro e w' ⟨rfl, rfl⟩
    go_wp2_with fail
    go_ret
    exact ⟨retI (by simp [wideA, hc]), c5⟩
  have HA : Hid (wideA s j m g o f a len c = 2 * m + mst s j c - lst s j c) := by unfold Hid; simp [wideA, hr, hm, hc]
  have hr' := hr
  simp only [rOk, inB, Bool.and_eq_true, decide_eq_true_eq] at hr'
  have hc' := hc
  simp only [inB, Bool.and_eq_true, decide_eq_true_eq] at hc'
  have l0 := lst_nonneg (s := s) (j := j) (c := c) (by omega)
  have l1 := lst_le (s := s) (j := j) (c := c) (by omega) (by omega) hc'.1
  have l2 := mst_ge (s := s) (j := j) (c := c) (by omega) (by omega) (by omega) hc'.1
  have l3 := mst_le (s := s) (j := j) (c := c) (by omega) (by omega) (by omega) hc'.2
  have wr1 : IntKind.i64.wrap (2 * m) = 2 * m := wrapS (by omega) (by omega)
  have wr2 : IntKind.i64.wrap (2 * m + mst s j c) = 2 * m + mst s j c := wrapS (by omega) (by omega)
  have wr3 : IntKind.i64.wrap (2 * m + mst s j c - lst s j c) = 2 * m + mst s j c - lst s j c := wrapS (by omega) (by omega)
  rw [HA.out]
  go_enter Try.func19, Try.ntmps19
  go_wp2_with fail
  refine (specRulesOk_c _ _ _ _ _ _).mono ?_
  rintro e w1 ⟨rfl, hb1⟩
  have hC1 : s3W w s j m g o w1 := ⟨cellOn hb1 (by go_simp), cellOn hb1 (by go_simp), cellOn hb1 (by go_simp), cellOn hb1 (by go_simp), cellOn hb1 (by go_simp), nbTrans (nbAlloc (Below.refl _ _) _) hb1⟩
  have hB1 : Below w.heap.size w w1 := hC1.2.2.2.2.2
  have c0 : w1.cell? ⟨w.heap.size, 0, none⟩ = some (.int .i64 s) := hC1.1
  have c1 : w1.cell? ⟨w.heap.size, 1, none⟩ = some (.int .i64 j) := hC1.2.1
  have c2 : w1.cell? ⟨w.heap.size, 2, none⟩ = some (.int .i64 m) := hC1.2.2.1
  have c3 : w1.cell? ⟨w.heap.size, 3, none⟩ = some (.int .i64 g) := hC1.2.2.2.1
  have c4 : w1.cell? ⟨w.heap.size, 4, none⟩ = some (.int .i64 o) := hC1.2.2.2.2.1
  have c5 : Below w.heap.size w w1 := hC1.2.2.2.2.2
  go_wp2_with fail
  refine (HM.out _ hB1).mono ?_
  rintro e w2 ⟨rfl, hb2⟩
  have hC2 := s3W_on hC1 hb2
  clear hC1 c0 c1 c2 c3 c4 c5
  have c0 : w2.cell? ⟨w.heap.size, 0, none⟩ = some (.int .i64 s) := hC2.1
  have c1 : w2.cell? ⟨w.heap.size, 1, none⟩ = some (.int .i64 j) := hC2.2.1
  have c2 : w2.cell? ⟨w.heap.size, 2, none⟩ = some (.int .i64 m) := hC2.2.2.1
  have c3 : w2.cell? ⟨w.heap.size, 3, none⟩ = some (.int .i64 g) := hC2.2.2.2.1
  have c4 : w2.cell? ⟨w.heap.size, 4, none⟩ = some (.int .i64 o) := hC2.2.2.2.2.1
  have c5 : Below w.heap.size w w2 := hC2.2.2.2.2.2
  go_wp2_with fail
  refine (l1in_c _ _ _ _).mono ?_
  rintro e w' ⟨rfl, rfl⟩
  go_wp2_with fail
  clear c0 c1 c2 c3 c4 c5
  refine region_kept (s3W w s j m g o) (by kernel_rfl) (by kernel_rfl) (s3W_on hC2 (Below.drew (Below.refl _ _))) ?_
  intro hN_
  have k0 : ∀ d : Kept (s3W w s j m g o), d.w.cell? ⟨w.heap.size, 0, none⟩ = some (.int .i64 s) := fun d => d.h.1
  have k1 : ∀ d : Kept (s3W w s j m g o), d.w.cell? ⟨w.heap.size, 1, none⟩ = some (.int .i64 j) := fun d => d.h.2.1
  have k2 : ∀ d : Kept (s3W w s j m g o), d.w.cell? ⟨w.heap.size, 2, none⟩ = some (.int .i64 m) := fun d => d.h.2.2.1
  have k3 : ∀ d : Kept (s3W w s j m g o), d.w.cell? ⟨w.heap.size, 3, none⟩ = some (.int .i64 g) := fun d => d.h.2.2.2.1
  have k4 : ∀ d : Kept (s3W w s j m g o), d.w.cell? ⟨w.heap.size, 4, none⟩ = some (.int .i64 o) := fun d => d.h.2.2.2.2.1
  repeat (go_big_quiet_step (first | (go_at_call 56; exact call_kept _ s3W_on (l1most_c _ _ _ _ _ _ _ (by omega) (by omega) (by omega) (by omega) (by omega) (by omega))) | (go_at_call 55; exact call_kept _ s3W_on (l1least_c _ _ _ _ _ _ _ (by omega) (by omega) (by omega) (by omega) (by omega) (by omega))) | exact rfl))
  refine wpQuiet_nil ?_
  rintro w6 ⟨d, hd2⟩
  have hd := d.h
  rw [← hd2] at hd
  clear hd2 k0 k1 k2 k3 k4
  go_wp2_with fail
  go_ret
  exact ⟨rfl, hd.2.2.2.2.2⟩

theorem specWide_c (b off len cap : Nat) (f a : Nat → Int) (s j m g o c : Int) (w : World) (hl : len ≤ 1048576) (hrow : Row2 w b off len f a) :
    Calls Try.prog 19 #[.agg #[.int .i64 s, .int .i64 j, .int .i64 m, .int .i64 g, .int .i64 o], .slice (some ⟨b, off, none⟩) len cap, .int .i64 c] w fun e w' => e = .returned (.int .i64 (wideA s j m g o f a len c)) ∧ Below w.heap.size w w' :=
  specWide_m (some ⟨b, off, none⟩) len cap f a s j m g o c w (fun w' hb => specMarksOk_c b off len cap f a w' hl (hrow.on hb))

set_option maxHeartbeats 400000 in
theorem specMarksOk_0 (ad : Option Addr) (cap : Nat) (f a : Nat → Int) (w : World) :
    Calls Try.prog 58 #[.slice ad 0 cap] w fun e w' => e = .returned (.bool (marksB f a 0)) ∧ Below w.heap.size w w' := by
  go_enter Try.func58, Try.ntmps58
  go_wp2_with fail
  refine wp_loop_rounds 1 ?_
  rw [rounds_succ]
  go_wp2_with fail
  go_ret
  exact ⟨rfl, Below.refl _ _⟩

theorem specWide_s (ad : Option Addr) (len cap : Nat) (f a : Nat → Int) (s j m g o c : Int) (w : World) (hl : len ≤ 1048576) (hrow : SRow w ad len f a) :
    Calls Try.prog 19 #[.agg #[.int .i64 s, .int .i64 j, .int .i64 m, .int .i64 g, .int .i64 o], .slice ad len cap, .int .i64 c] w fun e w' => e = .returned (.int .i64 (wideA s j m g o f a len c)) ∧ Below w.heap.size w w' := by
  rcases hrow with rfl | ⟨b, off, rfl, h⟩
  · exact specWide_m ad 0 cap f a s j m g o c w (fun w' _ => specMarksOk_0 ad cap f a w')
  · exact specWide_c b off len cap f a s j m g o c w hl h

def surelyA (s j m g o : Int) (kn : Bool) (l h : Int) : Int × Int := if q3 s j m g o kn l h then (let lo := if g < o then h else h - g + o; if l < lo then (1, 0) else (lo, l)) else (1, 0)
end Go.Proofs.Ytmhppadblddjoaa
