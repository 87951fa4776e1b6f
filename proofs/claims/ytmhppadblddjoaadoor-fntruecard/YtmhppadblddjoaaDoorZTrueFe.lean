import Derived.Test.YtmhppadblddjoaaDoorZTrueMkOk
import Derived.Test.YtmhppadblddjoaaDoorZTrueSet6
import Derived.Test.YtmhppadblddjoaaDoorZTrueW2
/- Chapter 4 of the specification: what a train feels. -/
namespace Go.Proofs.YtmhppadblddjoaaDoor
open Go.RowKit

/-- A row of ints, as the walk reads it. -/
def Row1 (w : World) (b off len : Nat) (f : Nat → Int) : Prop := ∀ i, i < len → w.cell? ⟨b, off + i, none⟩ = some (.int .i64 (f i))
theorem Row1.on {w w' : World} {b off len : Nat} {f : Nat → Int} (h : Row1 w b off len f) (hb : Below w.heap.size w w') : Row1 w' b off len f := fun i hi => cellOn hb (h i hi)
/-- The same, whatever the slice's address is when it is empty. -/
def At2 (w : World) (ad : Option Addr) (len : Nat) (f a : Nat → Int) (b off : Nat) : Prop := (0 < len → ad = some ⟨b, off, none⟩) ∧ Row2 w b off len f a
def At1 (w : World) (ad : Option Addr) (len : Nat) (f : Nat → Int) (b off : Nat) : Prop := (0 < len → ad = some ⟨b, off, none⟩) ∧ Row1 w b off len f
theorem SRow.at {w : World} {ad : Option Addr} {len : Nat} {f a : Nat → Int} (h : SRow w ad len f a) : ∃ b off, At2 w ad len f a b off := by
  rcases h with rfl | ⟨b, off, rfl, h⟩
  · exact ⟨0, 0, fun h => absurd h (by omega), fun i hi => absurd hi (by omega)⟩
  · exact ⟨b, off, fun _ => rfl, h⟩
theorem At2.row {w : World} {ad : Option Addr} {len : Nat} {f a : Nat → Int} {b off : Nat} (h : At2 w ad len f a b off) : SRow w ad len f a := by
  by_cases hl : len = 0
  · exact Or.inl hl
  · exact Or.inr ⟨b, off, h.1 (by omega), h.2⟩
def SRow1 (w : World) (ad : Option Addr) (len : Nat) (f : Nat → Int) : Prop := len = 0 ∨ ∃ b off, ad = some ⟨b, off, none⟩ ∧ Row1 w b off len f
theorem SRow1.on {w w' : World} {ad : Option Addr} {len : Nat} {f : Nat → Int} (h : SRow1 w ad len f) (hb : Below w.heap.size w w') : SRow1 w' ad len f := by
  rcases h with h | ⟨b, off, e, h⟩
  · exact Or.inl h
  · exact Or.inr ⟨b, off, e, h.on hb⟩
theorem SRow1.at {w : World} {ad : Option Addr} {len : Nat} {f : Nat → Int} (h : SRow1 w ad len f) : ∃ b off, At1 w ad len f b off := by
  rcases h with rfl | ⟨b, off, rfl, h⟩
  · exact ⟨0, 0, fun h => absurd h (by omega), fun i hi => absurd hi (by omega)⟩
  · exact ⟨b, off, fun _ => rfl, h⟩

set_option maxHeartbeats 400000 in
theorem specMarksOk_e (ad : Option Addr) (cap : Nat) (f a : Nat → Int) (w : World) :
    Calls Tryd.prog 29 #[.slice ad 0 cap] w fun e w' => e = .returned (.bool (marksB f a 0)) ∧ Below w.heap.size w w' := by
  go_enter Tryd.func29, Tryd.ntmps29
  go_wp2_with fail
  refine wp_loop_rounds 1 ?_
  rw [rounds_succ]
  go_wp2_with fail
  go_ret
  exact ⟨rfl, Below.refl _ _⟩
theorem specMarksOk_s (ad : Option Addr) (len cap : Nat) (f a : Nat → Int) (w : World) (hl : len ≤ 1048576) (hr : SRow w ad len f a) :
    Calls Tryd.prog 29 #[.slice ad len cap] w fun e w' => e = .returned (.bool (marksB f a len)) ∧ Below w.heap.size w w' := by
  rcases hr with rfl | ⟨b, off, rfl, h⟩
  · exact specMarksOk_e ad cap f a w
  · exact specMarksOk_c b off len cap f a w hl h
theorem marks_at {f a : Nat → Int} {n k : Nat} (h : marksB f a n = true) (hk : k < n) : 0 ≤ a k ∧ a k ≤ 100000000 := by
  unfold marksB marksTo at h
  rw [Bool.and_eq_true, List.all_eq_true] at h
  have := h.1 k (by simpa using hk)
  unfold stepB inB at this
  simp only [Bool.and_eq_true, decide_eq_true_eq] at this
  exact this.1.1.1
theorem marks_len {f a : Nat → Int} {n : Nat} (h : marksB f a n = true) : n ≤ 100 := by
  unfold marksB at h
  rw [Bool.and_eq_true, decide_eq_true_eq] at h
  exact h.2

/-- Events as cells. -/
def cells2 (xs : List (Int × Int)) : List Value := xs.flatMap fun e => [.int .i64 e.1, .int .i64 e.2]
theorem cells2_snoc (xs : List (Int × Int)) (x y : Int) : cells2 (xs ++ [(x, y)]) = cells2 xs ++ [.int .i64 x, .int .i64 y] := by simp [cells2]
def pos (x0 : Int) (tf : Nat → Int) : Nat → Int
  | 0 => x0
  | i + 1 => pos x0 tf i + tf i
def hitB (r x m y : Int) : Bool := r == 1 && inB x (y - m) (y + m)
def mkHit (f a : Nat → Int) (m r x : Int) : Nat → List (Int × Int)
  | 0 => []
  | k + 1 => mkHit f a m r x k ++ (if hitB r x m (a k) then [(2, f k)] else [])
theorem mkHit_yes {f a : Nat → Int} {m r x : Int} {k : Nat} (h : hitB r x m (a k) = true) : mkHit f a m r x (k + 1) = mkHit f a m r x k ++ [(2, f k)] := by simp [mkHit, h]
theorem mkHit_no {f a : Nat → Int} {m r x : Int} {k : Nat} (h : hitB r x m (a k) = false) : mkHit f a m r x (k + 1) = mkHit f a m r x k := by simp [mkHit, h]
def feltE (m : Int) (f a : Nat → Int) (len : Nat) (x0 : Int) (tf tc rd : Nat → Int) : Nat → List (Int × Int)
  | 0 => []
  | i + 1 => feltE m f a len x0 tf tc rd i ++ [(1, tc i)] ++ mkHit f a m (rd i) (pos x0 tf (i + 1)) len
def feltT (x0 : Int) (tf tc : Nat → Int) (i : Nat) : Bool := numB (tf i) (tc i) && decide (pos x0 tf (i + 1) ≤ 100000000)
def feltTo (x0 : Int) (tf tc : Nat → Int) (k : Nat) : Bool := (List.range k).all fun i => feltT x0 tf tc i
theorem feltTo_snoc {x0 : Int} {tf tc : Nat → Int} {k : Nat} (h : feltTo x0 tf tc k = true) (hk : feltT x0 tf tc k = true) : feltTo x0 tf tc (k + 1) = true := by
  unfold feltTo at *
  rw [List.range_succ, List.all_append, h]
  simpa using hk
theorem feltTo_no {x0 : Int} {tf tc : Nat → Int} {k n : Nat} (hk : k < n) (h : feltT x0 tf tc k = false) : feltTo x0 tf tc n = false := by
  unfold feltTo
  rw [List.all_eq_false]
  exact ⟨k, by simpa using hk, by simp [h]⟩
def feltOk (s j m g o : Int) (f a : Nat → Int) (len : Nat) (x0 : Int) (tf tc rd : Nat → Int) (n rn : Nat) : Bool :=
  rOk s j m g o && marksB f a len && inB x0 0 100000000 && decide (n ≤ 2000) && decide (rn = n) && feltTo x0 tf tc n && decide ((feltE m f a len x0 tf tc rd n).length ≤ 2000)
def feltA (s j m g o : Int) (f a : Nat → Int) (len : Nat) (x0 : Int) (tf tc rd : Nat → Int) (n rn : Nat) : List (Int × Int) := if feltOk s j m g o f a len x0 tf tc rd n rn then feltE m f a len x0 tf tc rd n else []
/-- What a call that feels ends with. -/
def Felts (w : World) (xs : List (Int × Int)) (v : Value) (w' : World) : Prop := w'.ownsRow w.heap.size 48 2 v xs.length (cells2 xs) ∧ Below w.heap.size w w'

theorem feltA_no {s j m g o : Int} {f a : Nat → Int} {len : Nat} {x0 : Int} {tf tc rd : Nat → Int} {n rn : Nat} (h : feltOk s j m g o f a len x0 tf tc rd n rn = false) : feltA s j m g o f a len x0 tf tc rd n rn = [] := by simp [feltA, h]

set_option maxHeartbeats 2000000 in
theorem specFelt_bad (ad : Option Addr) (len cap : Nat) (f a : Nat → Int) (x0 : Int) (at2 : Option Addr) (n nc : Nat) (tf tc : Nat → Int) (ar : Option Addr) (rn rc : Nat) (rd : Nat → Int) (s j m g o : Int) (w : World) (hl : len ≤ 1048576) (_ : n ≤ 1048576) (_ : rn ≤ 1048576) (hrow : SRow w ad len f a) (_ : SRow w at2 n tf tc) (_ : SRow1 w ar rn rd) (hbad : (rOk s j m g o && marksB f a len && inB x0 0 100000000 && decide (n ≤ 2000) && decide (rn = n)) = false) :
    Calls Tryd.prog 18 #[.agg #[.int .i64 s, .int .i64 j, .int .i64 m, .int .i64 g, .int .i64 o], .slice ad len cap, .int .i64 x0, .slice at2 n nc, .slice ar rn rc] w fun e w' => ∃ v, e = .returned v ∧ Felts w (feltA s j m g o f a len x0 tf tc rd n rn) v w' := by
  cases hr : rOk s j m g o
  case false =>
    go_enter Tryd.func18, Tryd.ntmps18
    go_wp2_with fail
    refine (specRulesOk_c _ _ _ _ _ _).mono ?_
    rintro e w1 ⟨rfl, hb1⟩
    simp only [hr]
    have hC1 : f4C w s j m g o w1 := ⟨cellOn hb1 (by go_simp), cellOn hb1 (by go_simp), cellOn hb1 (by go_simp), cellOn hb1 (by go_simp), cellOn hb1 (by go_simp), nbTrans (nbAlloc (Below.refl _ _) _) hb1⟩
    have c0 : w1.cell? ⟨w.heap.size, 0, none⟩ = some (.int .i64 s) := hC1.1
    have c1 : w1.cell? ⟨w.heap.size, 1, none⟩ = some (.int .i64 j) := hC1.2.1
    have c2 : w1.cell? ⟨w.heap.size, 2, none⟩ = some (.int .i64 m) := hC1.2.2.1
    have c3 : w1.cell? ⟨w.heap.size, 3, none⟩ = some (.int .i64 g) := hC1.2.2.2.1
    have c4 : w1.cell? ⟨w.heap.size, 4, none⟩ = some (.int .i64 o) := hC1.2.2.2.2.1
    have c5 : Below w.heap.size w w1 := hC1.2.2.2.2.2
    go_wp2_with fail
    go_ret
    exact ⟨_, rfl, by rw [feltA_no (by simp [feltOk, hr])]; exact World.ownsRow_nil _ _ _ _, c5⟩

  cases hm : marksB f a len
  case false =>
    go_enter Tryd.func18, Tryd.ntmps18
    go_wp2_with fail
    refine (specRulesOk_c _ _ _ _ _ _).mono ?_
    rintro e w1 ⟨rfl, hb1⟩
    simp only [hr]
    have hC1 : f4C w s j m g o w1 := ⟨cellOn hb1 (by go_simp), cellOn hb1 (by go_simp), cellOn hb1 (by go_simp), cellOn hb1 (by go_simp), cellOn hb1 (by go_simp), nbTrans (nbAlloc (Below.refl _ _) _) hb1⟩
    have c0 : w1.cell? ⟨w.heap.size, 0, none⟩ = some (.int .i64 s) := hC1.1
    have c1 : w1.cell? ⟨w.heap.size, 1, none⟩ = some (.int .i64 j) := hC1.2.1
    have c2 : w1.cell? ⟨w.heap.size, 2, none⟩ = some (.int .i64 m) := hC1.2.2.1
    have c3 : w1.cell? ⟨w.heap.size, 3, none⟩ = some (.int .i64 g) := hC1.2.2.2.1
    have c4 : w1.cell? ⟨w.heap.size, 4, none⟩ = some (.int .i64 o) := hC1.2.2.2.2.1
    have c5 : Below w.heap.size w w1 := hC1.2.2.2.2.2
    go_wp2_with fail
    refine (specMarksOk_s ad len cap f a w1 hl (hrow.on c5)).mono ?_
    rintro e w2 ⟨rfl, hb2⟩
    simp only [hm]
    have hC2 := f4C_on hC1 hb2
    clear c0 c1 c2 c3 c4 c5
    have c0 : w2.cell? ⟨w.heap.size, 0, none⟩ = some (.int .i64 s) := hC2.1
    have c1 : w2.cell? ⟨w.heap.size, 1, none⟩ = some (.int .i64 j) := hC2.2.1
    have c2 : w2.cell? ⟨w.heap.size, 2, none⟩ = some (.int .i64 m) := hC2.2.2.1
    have c3 : w2.cell? ⟨w.heap.size, 3, none⟩ = some (.int .i64 g) := hC2.2.2.2.1
    have c4 : w2.cell? ⟨w.heap.size, 4, none⟩ = some (.int .i64 o) := hC2.2.2.2.2.1
    have c5 : Below w.heap.size w w2 := hC2.2.2.2.2.2
    go_wp2_with fail
    go_ret
    exact ⟨_, rfl, by rw [feltA_no (by simp [feltOk, hm])]; exact World.ownsRow_nil _ _ _ _, c5⟩

  cases hx : inB x0 0 100000000
  case false =>
    go_enter Tryd.func18, Tryd.ntmps18
    go_wp2_with fail
    refine (specRulesOk_c _ _ _ _ _ _).mono ?_
    rintro e w1 ⟨rfl, hb1⟩
    simp only [hr]
    have hC1 : f4C w s j m g o w1 := ⟨cellOn hb1 (by go_simp), cellOn hb1 (by go_simp), cellOn hb1 (by go_simp), cellOn hb1 (by go_simp), cellOn hb1 (by go_simp), nbTrans (nbAlloc (Below.refl _ _) _) hb1⟩
    have c0 : w1.cell? ⟨w.heap.size, 0, none⟩ = some (.int .i64 s) := hC1.1
    have c1 : w1.cell? ⟨w.heap.size, 1, none⟩ = some (.int .i64 j) := hC1.2.1
    have c2 : w1.cell? ⟨w.heap.size, 2, none⟩ = some (.int .i64 m) := hC1.2.2.1
    have c3 : w1.cell? ⟨w.heap.size, 3, none⟩ = some (.int .i64 g) := hC1.2.2.2.1
    have c4 : w1.cell? ⟨w.heap.size, 4, none⟩ = some (.int .i64 o) := hC1.2.2.2.2.1
    have c5 : Below w.heap.size w w1 := hC1.2.2.2.2.2
    go_wp2_with fail
    refine (specMarksOk_s ad len cap f a w1 hl (hrow.on c5)).mono ?_
    rintro e w2 ⟨rfl, hb2⟩
    simp only [hm]
    have hC2 := f4C_on hC1 hb2
    clear c0 c1 c2 c3 c4 c5
    have c0 : w2.cell? ⟨w.heap.size, 0, none⟩ = some (.int .i64 s) := hC2.1
    have c1 : w2.cell? ⟨w.heap.size, 1, none⟩ = some (.int .i64 j) := hC2.2.1
    have c2 : w2.cell? ⟨w.heap.size, 2, none⟩ = some (.int .i64 m) := hC2.2.2.1
    have c3 : w2.cell? ⟨w.heap.size, 3, none⟩ = some (.int .i64 g) := hC2.2.2.2.1
    have c4 : w2.cell? ⟨w.heap.size, 4, none⟩ = some (.int .i64 o) := hC2.2.2.2.2.1
    have c5 : Below w.heap.size w w2 := hC2.2.2.2.2.2
    go_wp2_with fail
    refine (l1in_c _ _ _ _).mono ?_
    rintro e w' ⟨rfl, rfl⟩
    simp only [hx]
    go_wp2_with fail
    go_ret
    exact ⟨_, rfl, by rw [feltA_no (by simp [feltOk, hx])]; exact World.ownsRow_nil _ _ _ _, c5⟩

  by_cases h2 : (2000 : Int) < (n : Int)
  · have h2' : ¬ n ≤ 2000 := by omega
    go_enter Tryd.func18, Tryd.ntmps18
    go_wp2_with fail
    refine (specRulesOk_c _ _ _ _ _ _).mono ?_
    rintro e w1 ⟨rfl, hb1⟩
    simp only [hr]
    have hC1 : f4C w s j m g o w1 := ⟨cellOn hb1 (by go_simp), cellOn hb1 (by go_simp), cellOn hb1 (by go_simp), cellOn hb1 (by go_simp), cellOn hb1 (by go_simp), nbTrans (nbAlloc (Below.refl _ _) _) hb1⟩
    have c0 : w1.cell? ⟨w.heap.size, 0, none⟩ = some (.int .i64 s) := hC1.1
    have c1 : w1.cell? ⟨w.heap.size, 1, none⟩ = some (.int .i64 j) := hC1.2.1
    have c2 : w1.cell? ⟨w.heap.size, 2, none⟩ = some (.int .i64 m) := hC1.2.2.1
    have c3 : w1.cell? ⟨w.heap.size, 3, none⟩ = some (.int .i64 g) := hC1.2.2.2.1
    have c4 : w1.cell? ⟨w.heap.size, 4, none⟩ = some (.int .i64 o) := hC1.2.2.2.2.1
    have c5 : Below w.heap.size w w1 := hC1.2.2.2.2.2
    go_wp2_with fail
    refine (specMarksOk_s ad len cap f a w1 hl (hrow.on c5)).mono ?_
    rintro e w2 ⟨rfl, hb2⟩
    simp only [hm]
    have hC2 := f4C_on hC1 hb2
    clear c0 c1 c2 c3 c4 c5
    have c0 : w2.cell? ⟨w.heap.size, 0, none⟩ = some (.int .i64 s) := hC2.1
    have c1 : w2.cell? ⟨w.heap.size, 1, none⟩ = some (.int .i64 j) := hC2.2.1
    have c2 : w2.cell? ⟨w.heap.size, 2, none⟩ = some (.int .i64 m) := hC2.2.2.1
    have c3 : w2.cell? ⟨w.heap.size, 3, none⟩ = some (.int .i64 g) := hC2.2.2.2.1
    have c4 : w2.cell? ⟨w.heap.size, 4, none⟩ = some (.int .i64 o) := hC2.2.2.2.2.1
    have c5 : Below w.heap.size w w2 := hC2.2.2.2.2.2
    go_wp2_with fail
    refine (l1in_c _ _ _ _).mono ?_
    rintro e w' ⟨rfl, rfl⟩
    simp only [hx]
    go_wp2_with fail
    go_ret
    exact ⟨_, rfl, by rw [feltA_no (by simp [feltOk, h2'])]; exact World.ownsRow_nil _ _ _ _, c5⟩

  · have h3 : ¬ rn = n := by
      intro e
      have : n ≤ 2000 := by omega
      simp [hr, hm, hx, this, e] at hbad
    have h3' : ((rn : Int) != (n : Int)) = true := by simp; omega
    go_enter Tryd.func18, Tryd.ntmps18
    go_wp2_with fail
    refine (specRulesOk_c _ _ _ _ _ _).mono ?_
    rintro e w1 ⟨rfl, hb1⟩
    simp only [hr]
    have hC1 : f4C w s j m g o w1 := ⟨cellOn hb1 (by go_simp), cellOn hb1 (by go_simp), cellOn hb1 (by go_simp), cellOn hb1 (by go_simp), cellOn hb1 (by go_simp), nbTrans (nbAlloc (Below.refl _ _) _) hb1⟩
    have c0 : w1.cell? ⟨w.heap.size, 0, none⟩ = some (.int .i64 s) := hC1.1
    have c1 : w1.cell? ⟨w.heap.size, 1, none⟩ = some (.int .i64 j) := hC1.2.1
    have c2 : w1.cell? ⟨w.heap.size, 2, none⟩ = some (.int .i64 m) := hC1.2.2.1
    have c3 : w1.cell? ⟨w.heap.size, 3, none⟩ = some (.int .i64 g) := hC1.2.2.2.1
    have c4 : w1.cell? ⟨w.heap.size, 4, none⟩ = some (.int .i64 o) := hC1.2.2.2.2.1
    have c5 : Below w.heap.size w w1 := hC1.2.2.2.2.2
    go_wp2_with fail
    refine (specMarksOk_s ad len cap f a w1 hl (hrow.on c5)).mono ?_
    rintro e w2 ⟨rfl, hb2⟩
    simp only [hm]
    have hC2 := f4C_on hC1 hb2
    clear c0 c1 c2 c3 c4 c5
    have c0 : w2.cell? ⟨w.heap.size, 0, none⟩ = some (.int .i64 s) := hC2.1
    have c1 : w2.cell? ⟨w.heap.size, 1, none⟩ = some (.int .i64 j) := hC2.2.1
    have c2 : w2.cell? ⟨w.heap.size, 2, none⟩ = some (.int .i64 m) := hC2.2.2.1
    have c3 : w2.cell? ⟨w.heap.size, 3, none⟩ = some (.int .i64 g) := hC2.2.2.2.1
    have c4 : w2.cell? ⟨w.heap.size, 4, none⟩ = some (.int .i64 o) := hC2.2.2.2.2.1
    have c5 : Below w.heap.size w w2 := hC2.2.2.2.2.2
    go_wp2_with fail
    refine (l1in_c _ _ _ _).mono ?_
    rintro e w' ⟨rfl, rfl⟩
    simp only [hx]
    go_wp2_with fail
    go_ret
    exact ⟨_, rfl, by rw [feltA_no (by simp [feltOk, h3])]; exact World.ownsRow_nil _ _ _ _, c5⟩

theorem f4C_low {w : World} {s j m g o : Int} {w1 w2 : World} (hh : f4C w s j m g o w1) (hb : Below (w.heap.size + 1) w1 w2) : f4C w s j m g o w2 :=
  ⟨lowCell hb (by omega) hh.1, lowCell hb (by omega) hh.2.1, lowCell hb (by omega) hh.2.2.1, lowCell hb (by omega) hh.2.2.2.1, lowCell hb (by omega) hh.2.2.2.2.1, hh.2.2.2.2.2.trans (hb.mono (by omega))⟩

theorem owns_shape {w : World} {base : Nat} {e : TypeId} {size n : Nat} {v : Value} {xs : List Value} (h : w.ownsRow base e size v n xs) : ∃ ad cap, v = .slice ad n cap := by
  obtain ⟨h1, h2⟩ := h
  rcases h2 with ⟨rfl, rfl⟩ | ⟨q, cap, cur, rfl, hg, hh, hn, hm, hs, htk⟩
  · exact ⟨none, 0, rfl⟩
  · exact ⟨some ⟨q, 0, none⟩, cap, rfl⟩

set_option maxRecDepth 100000 in
set_option maxHeartbeats 4000000 in
theorem specFelt_ok (ad : Option Addr) (len cap : Nat) (f a : Nat → Int) (x0 : Int) (at2 : Option Addr) (n nc : Nat) (tf tc : Nat → Int) (ar : Option Addr) (rc : Nat) (rd : Nat → Int) (s j m g o : Int) (w : World) (hl : len ≤ 1048576) (hrow : SRow w ad len f a) (htk : SRow w at2 n tf tc) (hrd : SRow1 w ar n rd) (hr : rOk s j m g o = true) (hm : marksB f a len = true) (hx : inB x0 0 100000000 = true) (hn2 : n ≤ 2000) :
    Calls Tryd.prog 18 #[.agg #[.int .i64 s, .int .i64 j, .int .i64 m, .int .i64 g, .int .i64 o], .slice ad len cap, .int .i64 x0, .slice at2 n nc, .slice ar n rc] w fun e w' => ∃ v, e = .returned v ∧ Felts w (feltA s j m g o f a len x0 tf tc rd n n) v w' := by
  have i2 : ¬ (2000 : Int) < (n : Int) := by omega
  obtain ⟨bm, om, hA2⟩ := hrow.at
  obtain ⟨bt, ot, hT1⟩ := htk.at
  obtain ⟨br, orr, hR1⟩ := hrd.at
  have hM : Hid (marksB f a len = true) := hm
  have hml := marks_len hm
  have hm0 : 0 ≤ m ∧ m ≤ 10000 := by
    simp only [rOk, inB, Bool.and_eq_true, decide_eq_true_eq] at hr
    omega
  have hx0 : 0 ≤ x0 ∧ x0 ≤ 100000000 := by
    simpa only [inB, Bool.and_eq_true, decide_eq_true_eq] using hx
  obtain ⟨B, hBB, hB0, hB1⟩ : ∃ B, Hid (B = w.heap.size + 1) ∧ w.heap.size + 1 ≤ B ∧ B ≤ w.heap.size + 1 := ⟨_, rfl, Nat.le_refl _, Nat.le_refl _⟩
  go_enter Tryd.func18, Tryd.ntmps18
  go_wp2_with fail
  refine (specRulesOk_c _ _ _ _ _ _).mono ?_
  rintro e w1 ⟨rfl, hb1⟩
  simp only [hr]
  have hC1 : f4C w s j m g o w1 := ⟨cellOn hb1 (by go_simp), cellOn hb1 (by go_simp), cellOn hb1 (by go_simp), cellOn hb1 (by go_simp), cellOn hb1 (by go_simp), nbTrans (nbAlloc (Below.refl _ _) _) hb1⟩
  have c0 : w1.cell? ⟨w.heap.size, 0, none⟩ = some (.int .i64 s) := hC1.1
  have c1 : w1.cell? ⟨w.heap.size, 1, none⟩ = some (.int .i64 j) := hC1.2.1
  have c2 : w1.cell? ⟨w.heap.size, 2, none⟩ = some (.int .i64 m) := hC1.2.2.1
  have c3 : w1.cell? ⟨w.heap.size, 3, none⟩ = some (.int .i64 g) := hC1.2.2.2.1
  have c4 : w1.cell? ⟨w.heap.size, 4, none⟩ = some (.int .i64 o) := hC1.2.2.2.2.1
  have c5 : Below w.heap.size w w1 := hC1.2.2.2.2.2
  go_wp2_with fail
  refine (specMarksOk_s ad len cap f a w1 hl (hrow.on c5)).mono ?_
  rintro e w2 ⟨rfl, hb2⟩
  simp only [hm]
  have hC2 := f4C_on hC1 hb2
  clear c0 c1 c2 c3 c4 c5
  have c0 : w2.cell? ⟨w.heap.size, 0, none⟩ = some (.int .i64 s) := hC2.1
  have c1 : w2.cell? ⟨w.heap.size, 1, none⟩ = some (.int .i64 j) := hC2.2.1
  have c2 : w2.cell? ⟨w.heap.size, 2, none⟩ = some (.int .i64 m) := hC2.2.2.1
  have c3 : w2.cell? ⟨w.heap.size, 3, none⟩ = some (.int .i64 g) := hC2.2.2.2.1
  have c4 : w2.cell? ⟨w.heap.size, 4, none⟩ = some (.int .i64 o) := hC2.2.2.2.2.1
  have c5 : Below w.heap.size w w2 := hC2.2.2.2.2.2
  go_wp2_with fail
  refine (l1in_c _ _ _ _).mono ?_
  rintro e w' ⟨rfl, rfl⟩
  simp only [hx]
  go_wp2_with fail
  clear c0 c1 c2 c3 c4 c5 hC1
  have hsz2 : B ≤ w'.heap.size := by have := ltCell hC2.1; omega
  go_loopw [2, 11, 43] (fun xv v iv wr => ∃ k : Nat, ∃ x : Int, ∃ E : List (Int × Int), iv = .int .i64 k ∧ xv = .int .i64 x ∧ k ≤ n ∧ Hid (x = pos x0 tf k) ∧ 0 ≤ x ∧ x ≤ 100000000 ∧ Hid (E = feltE m f a len x0 tf tc rd k) ∧ E.length ≤ 101 * k ∧ Hid (feltTo x0 tf tc k = true) ∧ wr.ownsRow B 48 2 v E.length (cells2 E) ∧ f4C w s j m g o wr ∧ B ≤ wr.heap.size) (fun _ _ iv _ => n - (intOf iv).toNat)
  case atStart => exact ⟨0, x0, [], rfl, rfl, by omega, rfl, hx0.1, hx0.2, rfl, by simp, rfl, World.ownsRow_nil _ _ _ _, hC2, hsz2⟩
  case round =>
    clear hC2 hsz2
    obtain ⟨k, x, E, rfl, rfl, hk, hX, x00, x01, hE, hEl, hT, hown, hC, hsz⟩ := hrel
    by_cases hlt : k < n
    · have i0 : (0 : Int) ≤ (k : Int) := by omega
      have i1 : (k : Int) < (n : Int) := by omega
      have et := hT1.1 (by omega)
      subst et
      have d0 := cellOn hC.2.2.2.2.2 (hT1.2 k hlt).1
      have d1 := cellOn hC.2.2.2.2.2 (hT1.2 k hlt).2
      have hC2 := f4C_on hC (nbAlloc (Below.refl wr.heap.size wr) (.cells #[.int .i64 (tf k), .int .i64 (tc k)] 50))
      have hown2 := hown.alloc (.cells #[.int .i64 (tf k), .int .i64 (tc k)] 50)
      cases hnb : numB (tf k) (tc k)
      · go_wp2_with fail
        refine (l4true_c _ _ _).mono ?_
        rintro e w3 ⟨rfl, hb3⟩
        simp only [hnb]
        have hC3 := f4C_on hC2 hb3
        have hno : feltTo x0 tf tc n = false := feltTo_no hlt (by simp [feltT, hnb])
        go_wp2_with fail
        go_ret
        exact ⟨_, rfl, by rw [feltA_no (by simp [feltOk, hno])]; exact World.ownsRow_nil _ _ _ _, hC3.2.2.2.2.2⟩

      · have hnb' := hnb
        simp only [numB, inB, Bool.and_eq_true, decide_eq_true_eq] at hnb'
        have wr1 : IntKind.i64.wrap (x + tf k) = x + tf k := wrapS (by omega) (by omega)
        go_wp2_with fail
        refine (l4true_c _ _ _).mono ?_
        rintro e w3 ⟨rfl, hb3⟩
        simp only [hnb]
        have hC3 := f4C_on hC2 hb3
        have hown3 := owns_on hown2 hb3
        have e0 := cellOn hb3 (show (wr.alloc (.cells #[.int .i64 (tf k), .int .i64 (tc k)] 50)).cell? ⟨wr.heap.size, 0, none⟩ = some (.int .i64 (tf k)) by go_simp)
        have e1 := cellOn hb3 (show (wr.alloc (.cells #[.int .i64 (tf k), .int .i64 (tc k)] 50)).cell? ⟨wr.heap.size, 1, none⟩ = some (.int .i64 (tc k)) by go_simp)
        have hsz3 : B ≤ w3.heap.size := by have h6 : (wr.heap.push _).size ≤ _ := hb3.size; rw [Array.size_push] at h6; omega
        clear d0 d1 hown2 hC2 hC hb3
        have c0 : w3.cell? ⟨w.heap.size, 0, none⟩ = some (.int .i64 s) := hC3.1
        have c1 : w3.cell? ⟨w.heap.size, 1, none⟩ = some (.int .i64 j) := hC3.2.1
        have c2 : w3.cell? ⟨w.heap.size, 2, none⟩ = some (.int .i64 m) := hC3.2.2.1
        have c3 : w3.cell? ⟨w.heap.size, 3, none⟩ = some (.int .i64 g) := hC3.2.2.2.1
        have c4 : w3.cell? ⟨w.heap.size, 4, none⟩ = some (.int .i64 o) := hC3.2.2.2.2.1
        have c5 : Below w.heap.size w w3 := hC3.2.2.2.2.2
        by_cases hbig : 100000000 < x + tf k
        · have hno : feltTo x0 tf tc n = false := feltTo_no hlt (by simp only [feltT, Bool.and_eq_false_iff, decide_eq_false_iff_not]; right; rw [pos, ← hX.out]; omega)
          go_wp2_with fail
          go_ret
          exact ⟨_, rfl, by rw [feltA_no (by simp [feltOk, hno])]; exact World.ownsRow_nil _ _ _ _, hC3.2.2.2.2.2⟩

        · obtain ⟨i0', hi, hz0, hz1, hz2⟩ := info_parts infoEv
          go_wp2_with (at_builtin; refine wpList_append_own _ rfl _ _ 28 rfl B 48 i0' (.agg #[.int .i64 0, .int .i64 0]) 2 16 Tryd.underlying28 hi hz0 hz1 hz2 rfl (by decide) _ _ _ rfl (hown3.alloc _) ⟨w3.heap.size, 0, none⟩ 1 1 [.int .i64 1, .int .i64 (tc k)] rfl rfl ?c1a ?c2a ?c3a ?c4a ?c5a ?_)
          try (case c1a =>
            intro j u hj
            match j, hj with
            | 0, hj => simp at hj; subst hj; simp [Addr.add]
            | 1, hj => simp at hj; subst hj; simp [Addr.add])
          case c2a => first | exact ⟨rfl, rfl⟩ | (intro u hu; simp at hu; rcases hu with rfl | rfl <;> rfl)
          case c3a => unfold maxLen; omega
          case c4a => omega
          case c5a => first | omega | (show B ≤ (Array.push _ _).size; rw [Array.size_push]; omega)
          intro v' w8 hown8 hgrow _
          have hlow := grown_low (hown3.alloc _) (by show B ≤ (Array.push _ _).size; rw [Array.size_push]; omega) hgrow
          have hC8 := f4C_low (f4C_on hC3 (nbAlloc (Below.refl _ _) _)) (hBB.out ▸ hlow)
          have hsz8 : B ≤ w8.heap.size := by
            have h9 : (Array.push _ _).size ≤ _ := hlow.size
            rw [Array.size_push] at h9; omega
          clear hgrow hlow hi hz0 hz1 hz2 hown3 hsz3 e0 e1
          go_wp2_with fail
          clear hC3 c0 c1 c2 c3 c4 c5
          go_loopw [11, 65] (fun v iv wr => ∃ q : Nat, ∃ E : List (Int × Int), iv = .int .i64 q ∧ q ≤ len ∧ Hid (E = feltE m f a len x0 tf tc rd k ++ [(1, tc k)] ++ mkHit f a m (rd k) (x + tf k) q) ∧ E.length ≤ 101 * k + 1 + q ∧ wr.ownsRow B 48 2 v E.length (cells2 E) ∧ f4C w s j m g o wr ∧ B ≤ wr.heap.size) (fun _ iv _ => len - (intOf iv).toNat)
          case atStart => exact ⟨0, E ++ [(1, tc k)], rfl, by omega, by unfold Hid; rw [hE.out]; simp [mkHit], by simp; omega, by rw [cells2_snoc, List.length_append]; exact hown8, hC8, hsz8⟩
          case round =>
            clear hown8 hC8 hsz8 hown hE hEl E
            obtain ⟨q, E, rfl, hq, hE, hEl, hown, hC, hsz⟩ := hrel
            by_cases hlq : q < len
            · have j0 : (0 : Int) ≤ (q : Int) := by omega
              have j1 : (q : Int) < (len : Int) := by omega
              have ea := hA2.1 (by omega)
              subst ea
              have er := hR1.1 (by omega)
              subst er
              have d0 := cellOn hC.2.2.2.2.2 (hA2.2 q hlq).1
              have d1 := cellOn hC.2.2.2.2.2 (hA2.2 q hlq).2
              have d2 := cellNew (cellOn hC.2.2.2.2.2 (hR1.2 k hlt)) (.cells #[.int .i64 (f q), .int .i64 (a q)] 111)
              have hC2 := f4C_on hC (nbAlloc (Below.refl wr.heap.size wr) (.cells #[.int .i64 (f q), .int .i64 (a q)] 111))
              have hown2 := hown.alloc (.cells #[.int .i64 (f q), .int .i64 (a q)] 111)
              have ha := marks_at hM.out hlq
              have wr1 : IntKind.i64.wrap (a q - m) = a q - m := wrapS (by omega) (by omega)
              have wr2 : IntKind.i64.wrap (a q + m) = a q + m := wrapS (by omega) (by omega)
              have c0 : (wr.alloc (.cells #[.int .i64 (f q), .int .i64 (a q)] 111)).cell? ⟨w.heap.size, 0, none⟩ = some (.int .i64 s) := hC2.1
              have c1 : (wr.alloc (.cells #[.int .i64 (f q), .int .i64 (a q)] 111)).cell? ⟨w.heap.size, 1, none⟩ = some (.int .i64 j) := hC2.2.1
              have c2 : (wr.alloc (.cells #[.int .i64 (f q), .int .i64 (a q)] 111)).cell? ⟨w.heap.size, 2, none⟩ = some (.int .i64 m) := hC2.2.2.1
              have c3 : (wr.alloc (.cells #[.int .i64 (f q), .int .i64 (a q)] 111)).cell? ⟨w.heap.size, 3, none⟩ = some (.int .i64 g) := hC2.2.2.2.1
              have c4 : (wr.alloc (.cells #[.int .i64 (f q), .int .i64 (a q)] 111)).cell? ⟨w.heap.size, 4, none⟩ = some (.int .i64 o) := hC2.2.2.2.2.1
              have c5 : Below w.heap.size w (wr.alloc (.cells #[.int .i64 (f q), .int .i64 (a q)] 111)) := hC2.2.2.2.2.2
              by_cases h1 : rd k = 1
              · cases hh : inB (x + tf k) (a q - m) (a q + m)
                · have hE2 : Hid (E = feltE m f a len x0 tf tc rd k ++ [(1, tc k)] ++ mkHit f a m (rd k) (x + tf k) (q + 1)) := by
                    unfold Hid
                    rw [mkHit_no (by simp [hitB, hh])]
                    exact hE.out
                  clear hE
                  go_wp2_with fail
                  refine (l1in_c _ _ _ _).mono ?_
                  rintro e w' ⟨rfl, rfl⟩
                  simp only [hh]
                  go_wp2_with fail
                  go_roundw
                  case rel => exact ⟨q + 1, E, by go_num, by omega, hE2, by omega, hown2, hC2, by show B ≤ (Array.push _ _).size; rw [Array.size_push]; omega⟩
                  case measure => simp [intOf]; omega
                · have hE2 : Hid (E ++ [(2, f q)] = feltE m f a len x0 tf tc rd k ++ [(1, tc k)] ++ mkHit f a m (rd k) (x + tf k) (q + 1)) := by
                    unfold Hid
                    rw [mkHit_yes (by simp [hitB, hh, h1]), hE.out, List.append_assoc]
                  clear hE
                  have e0 : (wr.alloc (.cells #[.int .i64 (f q), .int .i64 (a q)] 111)).cell? ⟨wr.heap.size, 0, none⟩ = some (.int .i64 (f q)) := by go_simp
                  have hszm : B ≤ (wr.alloc (.cells #[.int .i64 (f q), .int .i64 (a q)] 111)).heap.size := by show B ≤ (Array.push _ _).size; rw [Array.size_push]; omega
                  go_wp2_with fail
                  refine (l1in_c _ _ _ _).mono ?_
                  rintro e w' ⟨rfl, rfl⟩
                  simp only [hh]
                  clear d0 d1 d2
                  generalize wr.alloc (.cells #[.int .i64 (f q), .int .i64 (a q)] 111) = wm at *
                  obtain ⟨i0', hi, hz0, hz1, hz2⟩ := info_parts infoEv
                  go_wp2_with (at_builtin; refine wpList_append_own _ rfl _ _ 28 rfl B 48 i0' (.agg #[.int .i64 0, .int .i64 0]) 2 16 Tryd.underlying28 hi hz0 hz1 hz2 rfl (by decide) _ _ _ rfl (hown2.alloc _) ⟨wm.heap.size, 0, none⟩ 1 1 [.int .i64 2, .int .i64 (f q)] rfl rfl ?c1b ?c2b ?c3b ?c4b ?c5b ?_)
                  try (case c1b =>
                    intro j u hj
                    match j, hj with
                    | 0, hj => simp at hj; subst hj; simp [Addr.add]
                    | 1, hj => simp at hj; subst hj; simp [Addr.add])
                  case c2b => first | exact ⟨rfl, rfl⟩ | (intro u hu; simp at hu; rcases hu with rfl | rfl <;> rfl)
                  case c3b => unfold maxLen; omega
                  case c4b => omega
                  case c5b => first | omega | (show B ≤ (Array.push _ _).size; rw [Array.size_push]; omega)
                  intro v' w8 hown8 hgrow _
                  have hlow := grown_low (hown2.alloc _) (by show B ≤ (Array.push _ _).size; rw [Array.size_push]; omega) hgrow
                  have hC8 := f4C_low (f4C_on hC2 (nbAlloc (Below.refl _ _) _)) (hBB.out ▸ hlow)
                  have hsz8 : B ≤ w8.heap.size := by
                    have h9 : (Array.push _ _).size ≤ _ := hlow.size
                    rw [Array.size_push] at h9; omega
                  clear hgrow hlow hi hz0 hz1 hz2 hown2 hC2 hszm e0 c0 c1 c2 c3 c4 c5
                  go_wp2_with fail
                  go_roundw
                  case rel => exact ⟨q + 1, E ++ [(2, f q)], by go_num, by omega, hE2, by simp; omega, by rw [cells2_snoc, List.length_append]; exact hown8, hC8, hsz8⟩
                  case measure => simp [intOf]; omega
              · have hE2 : Hid (E = feltE m f a len x0 tf tc rd k ++ [(1, tc k)] ++ mkHit f a m (rd k) (x + tf k) (q + 1)) := by
                  unfold Hid
                  rw [mkHit_no (by simp [hitB, h1])]
                  exact hE.out
                clear hE
                go_wp2_with fail
                go_roundw
                case rel => exact ⟨q + 1, E, by go_num, by omega, hE2, by omega, hown2, hC2, by show B ≤ (Array.push _ _).size; rw [Array.size_push]; omega⟩
                case measure => simp [intOf]; omega
            · have hql : q = len := by omega
              subst hql
              have hX2 : Hid (x + tf k = pos x0 tf (k + 1)) := by unfold Hid; rw [hX.out]; rfl
              have hE2 : Hid (E = feltE m f a q x0 tf tc rd (k + 1)) := by
                unfold Hid
                rw [hE.out, hX2.out]
                rfl
              have hT2 : Hid (feltTo x0 tf tc (k + 1) = true) := feltTo_snoc hT.out (by simp only [feltT, hnb, Bool.true_and, decide_eq_true_eq, ← hX2.out]; omega)
              clear hE hX hT
              go_wp2_with fail
              go_roundw
              case rel => exact ⟨k + 1, x + tf k, E, by go_num, rfl, by omega, hX2, by omega, by omega, hE2, by omega, hT2, hown, hC, hsz⟩
              case measure => simp [intOf]; omega

    · have hkl : k = n := by omega
      subst hkl
      obtain ⟨qa, qc, rfl⟩ := owns_shape hown
      by_cases h2k : 2000 < E.length
      · have h2k' : (2000 : Int) < (E.length : Int) := by omega
        go_wp2_with fail
        go_ret
        exact ⟨_, rfl, by rw [feltA_no (by rw [feltOk, ← hE.out]; simp; omega)]; exact World.ownsRow_nil _ _ _ _, hC.2.2.2.2.2⟩
      · have h2k' : ¬ (2000 : Int) < (E.length : Int) := by omega
        have hF : Hid (feltA s j m g o f a len x0 tf tc rd k k = E) := by
          unfold Hid
          have : E.length ≤ 2000 := by omega
          rw [feltA, feltOk, ← hE.out, hr, hm, hx, hT.out]
          simp [hn2, this]
        go_wp2_with fail
        go_ret
        exact ⟨_, rfl, by rw [hF.out]; exact owns_base hown (by omega), hC.2.2.2.2.2⟩

theorem specFelt_s (ad : Option Addr) (len cap : Nat) (f a : Nat → Int) (x0 : Int) (at2 : Option Addr) (n nc : Nat) (tf tc : Nat → Int) (ar : Option Addr) (rn rc : Nat) (rd : Nat → Int) (s j m g o : Int) (w : World) (hl : len ≤ 1048576) (hn : n ≤ 1048576) (hrn : rn ≤ 1048576) (hrow : SRow w ad len f a) (htk : SRow w at2 n tf tc) (hrd : SRow1 w ar rn rd) :
    Calls Tryd.prog 18 #[.agg #[.int .i64 s, .int .i64 j, .int .i64 m, .int .i64 g, .int .i64 o], .slice ad len cap, .int .i64 x0, .slice at2 n nc, .slice ar rn rc] w fun e w' => ∃ v, e = .returned v ∧ Felts w (feltA s j m g o f a len x0 tf tc rd n rn) v w' := by
  by_cases hgood : (rOk s j m g o && marksB f a len && inB x0 0 100000000 && decide (n ≤ 2000) && decide (rn = n)) = true
  · simp only [Bool.and_eq_true, decide_eq_true_eq] at hgood
    obtain ⟨⟨⟨⟨hr, hm⟩, hx⟩, h2⟩, rfl⟩ := hgood
    exact specFelt_ok ad len cap f a x0 at2 rn nc tf tc ar rc rd s j m g o w hl hrow htk hrd hr hm hx h2
  · exact specFelt_bad ad len cap f a x0 at2 n nc tf tc ar rn rc rd s j m g o w hl hn hrn hrow htk hrd (by simpa using hgood)

end Go.Proofs.YtmhppadblddjoaaDoor

