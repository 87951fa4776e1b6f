import Derived.Test.YtmhppadblddjoacDoorDoAll
import Derived.Test.YtmhppadblddjoacDoorSet6
namespace Go.Proofs.YtmhppadblddjoacDoor
open Go.RowKit

theorem infoSt : (Tryd.prog.info? 94).map (fun i => (i.zero, i.size, i.bytes)) = some (some (.agg #[.bool false, .int .i64 0, .int .i64 0, .int .i64 0, .int .i64 0, .int .i64 0]), 6, 48) := by kernel_rfl

def St.cs (t : St) : List Value := [.bool t.kn, .int .i64 t.l, .int .i64 t.h, .int .i64 t.si, .int .i64 t.la, .int .i64 t.od]
def evTo (fe ge : Nat → Int) (k : Nat) : Bool := (List.range k).all fun i => evB (fe i) (ge i)
theorem evTo_snoc {fe ge : Nat → Int} {k : Nat} (h : evTo fe ge k = true) (hk : evB (fe k) (ge k) = true) : evTo fe ge (k + 1) = true := by
  unfold evTo at *
  rw [List.range_succ, List.all_append, h]
  simpa using hk
theorem evTo_at {fe ge : Nat → Int} {k n : Nat} (h : evTo fe ge n = true) (hk : k < n) : evB (fe k) (ge k) = true := by
  unfold evTo at h
  rw [List.all_eq_true] at h
  exact h k (by simpa using hk)

section
variable (s j m g o : Int) (len : Nat) (f a : Nat → Int) (l h : Int) (fe ge : Nat → Int)
def runSt : Nat → St
  | 0 => ⟨true, l, h, 0, -1, 0⟩
  | k + 1 => doA s j m g o len f a (runSt k) (fe k) (ge k)
def runCs : Nat → List Value
  | 0 => []
  | k + 1 => runCs k ++ (runSt s j m g o len f a l h fe ge (k + 1)).cs
def runOk (el : Nat) : Bool := rOk s j m g o && bOk l h && marksB f a len && decide (el ≤ 2000) && evTo fe ge el
end

theorem lowCell {B : Nat} {W w1 : World} (hb : Below B W w1) {b o : Nat} (hlt : b < B) {v : Value} (h : W.cell? ⟨b, o, none⟩ = some v) : w1.cell? ⟨b, o, none⟩ = some v := by
  rw [hb.cell (p := ⟨b, o, none⟩) hlt]; exact h
theorem lowFrozen {B : Nat} {W w1 : World} (hb : Below B W w1) {b o : Nat} (hlt : b < B) (h : W.frozen? ⟨b, o, none⟩ = false) : w1.frozen? ⟨b, o, none⟩ = false := by
  rw [hb.frozen (p := ⟨b, o, none⟩) hlt]; exact h
theorem owns_of {w w' : World} {base : Nat} {e : TypeId} {size n : Nat} {v : Value} {xs : List Value} (h : w.ownsRow base e size v n xs) (hs : ∀ k, base ≤ k → k < w.heap.size → w'.heap[k]? = w.heap[k]?) : w'.ownsRow base e size v n xs := by
  obtain ⟨h1, h2⟩ := h
  refine ⟨h1, ?_⟩
  rcases h2 with h2 | ⟨g, cap, cur, hv, hg, hh, r⟩
  · exact Or.inl h2
  · refine Or.inr ⟨g, cap, cur, hv, hg, (hs g hg ?_).trans hh, r⟩
    rcases Nat.lt_or_ge g w.heap.size with h' | h'
    · exact h'
    · rw [Array.getElem?_eq_none h'] at hh; cases hh
theorem owns_base {w : World} {base base' : Nat} {e : TypeId} {size n : Nat} {v : Value} {xs : List Value} (h : w.ownsRow base e size v n xs) (hb : base' ≤ base) : w.ownsRow base' e size v n xs := by
  obtain ⟨h1, h2⟩ := h
  refine ⟨h1, ?_⟩
  rcases h2 with h2 | ⟨g, cap, cur, hv, hg, r⟩
  · exact Or.inl h2
  · exact Or.inr ⟨g, cap, cur, hv, by omega, r⟩
theorem owns_on {w w' : World} {base : Nat} {e : TypeId} {size n : Nat} {v : Value} {xs : List Value} (h : w.ownsRow base e size v n xs) (hb : Below w.heap.size w w') : w'.ownsRow base e size v n xs :=
  owns_of h fun k _ hk => hb.block k hk
theorem owns_set {w : World} {base q o : Nat} {u : Value} {e : TypeId} {size n : Nat} {v : Value} {xs : List Value} (h : w.ownsRow base e size v n xs) (hq : q < base) : (w.setCell ⟨q, o, none⟩ u).ownsRow base e size v n xs :=
  owns_of h fun k hk _ => Below.heap_setCell w ⟨q, o, none⟩ u k (by show k ≠ q; omega)
theorem grown_low {w w' : World} {base : Nat} {e : TypeId} {size n : Nat} {v : Value} {xs : List Value} (hown : w.ownsRow base e size v n xs) (hb : base ≤ w.heap.size) (hg : w.grownBy w' v.ownBlock) : Below base w w' := by
  refine ⟨hg.os, hg.tape, hg.output, hg.size, fun k hk => ?_⟩
  rw [hg.block k (by omega) ?_]
  obtain ⟨_, h2⟩ := hown
  rcases h2 with ⟨rfl, _⟩ | ⟨g, cap, cur, rfl, hg2, _⟩
  · simp [Value.ownBlock]
  · simp [Value.ownBlock]; omega

def r1C (w : World) (s j m g o l h : Int) : World → Prop := fun w' => w'.cell? ⟨w.heap.size, 0, none⟩ = some (.int .i64 s) ∧ w'.cell? ⟨w.heap.size, 1, none⟩ = some (.int .i64 j) ∧ w'.cell? ⟨w.heap.size, 2, none⟩ = some (.int .i64 m) ∧ w'.cell? ⟨w.heap.size, 3, none⟩ = some (.int .i64 g) ∧ w'.cell? ⟨w.heap.size, 4, none⟩ = some (.int .i64 o) ∧ w'.cell? ⟨w.heap.size + 1, 0, none⟩ = some (.int .i64 l) ∧ w'.cell? ⟨w.heap.size + 1, 1, none⟩ = some (.int .i64 h) ∧ Below w.heap.size w w'
theorem r1C_on {w : World} {s j m g o l h : Int} {w1 w2 : World} (hh : r1C w s j m g o l h w1) (hb : Below w1.heap.size w1 w2) : r1C w s j m g o l h w2 :=
  ⟨cellOn hb hh.1, cellOn hb hh.2.1, cellOn hb hh.2.2.1, cellOn hb hh.2.2.2.1, cellOn hb hh.2.2.2.2.1, cellOn hb hh.2.2.2.2.2.1, cellOn hb hh.2.2.2.2.2.2.1, nbTrans hh.2.2.2.2.2.2.2 hb⟩

def r2C (w : World) (ps : Nat) (s j m g o : Int) (t : St) : World → Prop := fun w' => w'.cell? ⟨w.heap.size, 0, none⟩ = some (.int .i64 s) ∧ w'.cell? ⟨w.heap.size, 1, none⟩ = some (.int .i64 j) ∧ w'.cell? ⟨w.heap.size, 2, none⟩ = some (.int .i64 m) ∧ w'.cell? ⟨w.heap.size, 3, none⟩ = some (.int .i64 g) ∧ w'.cell? ⟨w.heap.size, 4, none⟩ = some (.int .i64 o) ∧ w'.cell? ⟨ps, 0, none⟩ = some (.bool t.kn) ∧ w'.cell? ⟨ps, 1, none⟩ = some (.int .i64 t.l) ∧ w'.cell? ⟨ps, 2, none⟩ = some (.int .i64 t.h) ∧ w'.cell? ⟨ps, 3, none⟩ = some (.int .i64 t.si) ∧ w'.cell? ⟨ps, 4, none⟩ = some (.int .i64 t.la) ∧ w'.cell? ⟨ps, 5, none⟩ = some (.int .i64 t.od) ∧ w'.frozen? ⟨ps, 0, none⟩ = false ∧ w'.frozen? ⟨ps, 1, none⟩ = false ∧ w'.frozen? ⟨ps, 2, none⟩ = false ∧ w'.frozen? ⟨ps, 3, none⟩ = false ∧ w'.frozen? ⟨ps, 4, none⟩ = false ∧ w'.frozen? ⟨ps, 5, none⟩ = false ∧ Below w.heap.size w w'
theorem r2C_on {w : World} {ps : Nat} {s j m g o : Int} {t : St} {w1 w2 : World} (hh : r2C w ps s j m g o t w1) (hb : Below w1.heap.size w1 w2) : r2C w ps s j m g o t w2 :=
  ⟨cellOn hb hh.1, cellOn hb hh.2.1, cellOn hb hh.2.2.1, cellOn hb hh.2.2.2.1, cellOn hb hh.2.2.2.2.1, cellOn hb hh.2.2.2.2.2.1, cellOn hb hh.2.2.2.2.2.2.1, cellOn hb hh.2.2.2.2.2.2.2.1, cellOn hb hh.2.2.2.2.2.2.2.2.1, cellOn hb hh.2.2.2.2.2.2.2.2.2.1, cellOn hb hh.2.2.2.2.2.2.2.2.2.2.1, frozenOn hb hh.2.2.2.2.2.1 hh.2.2.2.2.2.2.2.2.2.2.2.1, frozenOn hb hh.2.2.2.2.2.2.1 hh.2.2.2.2.2.2.2.2.2.2.2.2.1, frozenOn hb hh.2.2.2.2.2.2.2.1 hh.2.2.2.2.2.2.2.2.2.2.2.2.2.1, frozenOn hb hh.2.2.2.2.2.2.2.2.1 hh.2.2.2.2.2.2.2.2.2.2.2.2.2.2.1, frozenOn hb hh.2.2.2.2.2.2.2.2.2.1 hh.2.2.2.2.2.2.2.2.2.2.2.2.2.2.2.1, frozenOn hb hh.2.2.2.2.2.2.2.2.2.2.1 hh.2.2.2.2.2.2.2.2.2.2.2.2.2.2.2.2.1, nbTrans hh.2.2.2.2.2.2.2.2.2.2.2.2.2.2.2.2.2 hb⟩

theorem r2C_low {w : World} {ps : Nat} {s j m g o : Int} {t : St} {w1 w2 : World} (hh : r2C w ps s j m g o t w1) (hp : w.heap.size < ps) (hb : Below (ps + 1) w1 w2) : r2C w ps s j m g o t w2 :=
  ⟨lowCell hb (by omega) hh.1, lowCell hb (by omega) hh.2.1, lowCell hb (by omega) hh.2.2.1, lowCell hb (by omega) hh.2.2.2.1, lowCell hb (by omega) hh.2.2.2.2.1, lowCell hb (by omega) hh.2.2.2.2.2.1, lowCell hb (by omega) hh.2.2.2.2.2.2.1, lowCell hb (by omega) hh.2.2.2.2.2.2.2.1, lowCell hb (by omega) hh.2.2.2.2.2.2.2.2.1, lowCell hb (by omega) hh.2.2.2.2.2.2.2.2.2.1, lowCell hb (by omega) hh.2.2.2.2.2.2.2.2.2.2.1, lowFrozen hb (by omega) hh.2.2.2.2.2.2.2.2.2.2.2.1, lowFrozen hb (by omega) hh.2.2.2.2.2.2.2.2.2.2.2.2.1, lowFrozen hb (by omega) hh.2.2.2.2.2.2.2.2.2.2.2.2.2.1, lowFrozen hb (by omega) hh.2.2.2.2.2.2.2.2.2.2.2.2.2.2.1, lowFrozen hb (by omega) hh.2.2.2.2.2.2.2.2.2.2.2.2.2.2.2.1, lowFrozen hb (by omega) hh.2.2.2.2.2.2.2.2.2.2.2.2.2.2.2.2.1, hh.2.2.2.2.2.2.2.2.2.2.2.2.2.2.2.2.2.trans (hb.mono (by omega))⟩

set_option maxHeartbeats 2000000 in
theorem specRun_bad (b off len cap : Nat) (f a : Nat → Int) (eb eo el ec : Nat) (fe ge : Nat → Int) (s j m g o l h : Int) (w : World) (hl : len ≤ 1048576) (hrow : Row2 w b off len f a) (hel : el ≤ 1048576) (hev : Row2 w eb eo el fe ge) (hbad : runOk s j m g o len f a l h fe ge el = false) :
    Calls Tryd.prog 47 #[.agg #[.int .i64 s, .int .i64 j, .int .i64 m, .int .i64 g, .int .i64 o], .slice (some ⟨b, off, none⟩) len cap, .agg #[.int .i64 l, .int .i64 h], .slice (some ⟨eb, eo, none⟩) el ec] w fun e w' => e = .returned (.slice none 0 0) ∧ Below w.heap.size w w' := by
  unfold runOk at hbad
  cases hg : (rOk s j m g o && bOk l h)
  · clear hbad
    go_enter Tryd.func47, Tryd.ntmps47
    go_wp2_with fail
    refine (l1good_c _ _ _ _ _ _ _ _).mono ?_
    rintro e w1 ⟨rfl, hb1⟩
    have hC1 : r1C w s j m g o l h w1 := ⟨cellOn hb1 (by go_simp), cellOn hb1 (by go_simp), cellOn hb1 (by go_simp), cellOn hb1 (by go_simp), cellOn hb1 (by go_simp), cellOn hb1 (by go_simp), cellOn hb1 (by go_simp), nbTrans (nbAlloc (nbAlloc (Below.refl _ _) _) _) hb1⟩
    have c0 : w1.cell? ⟨w.heap.size, 0, none⟩ = some (.int .i64 s) := hC1.1
    have c1 : w1.cell? ⟨w.heap.size, 1, none⟩ = some (.int .i64 j) := hC1.2.1
    have c2 : w1.cell? ⟨w.heap.size, 2, none⟩ = some (.int .i64 m) := hC1.2.2.1
    have c3 : w1.cell? ⟨w.heap.size, 3, none⟩ = some (.int .i64 g) := hC1.2.2.2.1
    have c4 : w1.cell? ⟨w.heap.size, 4, none⟩ = some (.int .i64 o) := hC1.2.2.2.2.1
    have c5 : w1.cell? ⟨w.heap.size + 1, 0, none⟩ = some (.int .i64 l) := hC1.2.2.2.2.2.1
    have c6 : w1.cell? ⟨w.heap.size + 1, 1, none⟩ = some (.int .i64 h) := hC1.2.2.2.2.2.2.1
    have c7 : Below w.heap.size w w1 := hC1.2.2.2.2.2.2.2
    go_wp2_with fail
    go_ret
    exact ⟨rfl, c7⟩
  cases hmk : marksB f a len
  · clear hbad
    go_enter Tryd.func47, Tryd.ntmps47
    go_wp2_with fail
    refine (l1good_c _ _ _ _ _ _ _ _).mono ?_
    rintro e w1 ⟨rfl, hb1⟩
    have hC1 : r1C w s j m g o l h w1 := ⟨cellOn hb1 (by go_simp), cellOn hb1 (by go_simp), cellOn hb1 (by go_simp), cellOn hb1 (by go_simp), cellOn hb1 (by go_simp), cellOn hb1 (by go_simp), cellOn hb1 (by go_simp), nbTrans (nbAlloc (nbAlloc (Below.refl _ _) _) _) hb1⟩
    have c0 : w1.cell? ⟨w.heap.size, 0, none⟩ = some (.int .i64 s) := hC1.1
    have c1 : w1.cell? ⟨w.heap.size, 1, none⟩ = some (.int .i64 j) := hC1.2.1
    have c2 : w1.cell? ⟨w.heap.size, 2, none⟩ = some (.int .i64 m) := hC1.2.2.1
    have c3 : w1.cell? ⟨w.heap.size, 3, none⟩ = some (.int .i64 g) := hC1.2.2.2.1
    have c4 : w1.cell? ⟨w.heap.size, 4, none⟩ = some (.int .i64 o) := hC1.2.2.2.2.1
    have c5 : w1.cell? ⟨w.heap.size + 1, 0, none⟩ = some (.int .i64 l) := hC1.2.2.2.2.2.1
    have c6 : w1.cell? ⟨w.heap.size + 1, 1, none⟩ = some (.int .i64 h) := hC1.2.2.2.2.2.2.1
    have c7 : Below w.heap.size w w1 := hC1.2.2.2.2.2.2.2
    go_wp2_with fail
    clear c0 c1 c2 c3 c4 c5 c6 c7
    have hB1 : Below w.heap.size w w1 := hC1.2.2.2.2.2.2.2
    refine (specMarksOk_c b off len cap f a w1 hl (hrow.on hB1)).mono ?_
    rintro e w2 ⟨rfl, hb2⟩
    have hC2 := r1C_on hC1 hb2
    have c0 : w2.cell? ⟨w.heap.size, 0, none⟩ = some (.int .i64 s) := hC2.1
    have c1 : w2.cell? ⟨w.heap.size, 1, none⟩ = some (.int .i64 j) := hC2.2.1
    have c2 : w2.cell? ⟨w.heap.size, 2, none⟩ = some (.int .i64 m) := hC2.2.2.1
    have c3 : w2.cell? ⟨w.heap.size, 3, none⟩ = some (.int .i64 g) := hC2.2.2.2.1
    have c4 : w2.cell? ⟨w.heap.size, 4, none⟩ = some (.int .i64 o) := hC2.2.2.2.2.1
    have c5 : w2.cell? ⟨w.heap.size + 1, 0, none⟩ = some (.int .i64 l) := hC2.2.2.2.2.2.1
    have c6 : w2.cell? ⟨w.heap.size + 1, 1, none⟩ = some (.int .i64 h) := hC2.2.2.2.2.2.2.1
    have c7 : Below w.heap.size w w2 := hC2.2.2.2.2.2.2.2
    go_wp2_with fail
    go_ret
    exact ⟨rfl, c7⟩
  by_cases h2k : 2000 < el
  · clear hbad
    have i2 : (2000 : Int) < (el : Int) := by omega
    go_enter Tryd.func47, Tryd.ntmps47
    go_wp2_with fail
    refine (l1good_c _ _ _ _ _ _ _ _).mono ?_
    rintro e w1 ⟨rfl, hb1⟩
    have hC1 : r1C w s j m g o l h w1 := ⟨cellOn hb1 (by go_simp), cellOn hb1 (by go_simp), cellOn hb1 (by go_simp), cellOn hb1 (by go_simp), cellOn hb1 (by go_simp), cellOn hb1 (by go_simp), cellOn hb1 (by go_simp), nbTrans (nbAlloc (nbAlloc (Below.refl _ _) _) _) hb1⟩
    have c0 : w1.cell? ⟨w.heap.size, 0, none⟩ = some (.int .i64 s) := hC1.1
    have c1 : w1.cell? ⟨w.heap.size, 1, none⟩ = some (.int .i64 j) := hC1.2.1
    have c2 : w1.cell? ⟨w.heap.size, 2, none⟩ = some (.int .i64 m) := hC1.2.2.1
    have c3 : w1.cell? ⟨w.heap.size, 3, none⟩ = some (.int .i64 g) := hC1.2.2.2.1
    have c4 : w1.cell? ⟨w.heap.size, 4, none⟩ = some (.int .i64 o) := hC1.2.2.2.2.1
    have c5 : w1.cell? ⟨w.heap.size + 1, 0, none⟩ = some (.int .i64 l) := hC1.2.2.2.2.2.1
    have c6 : w1.cell? ⟨w.heap.size + 1, 1, none⟩ = some (.int .i64 h) := hC1.2.2.2.2.2.2.1
    have c7 : Below w.heap.size w w1 := hC1.2.2.2.2.2.2.2
    go_wp2_with fail
    clear c0 c1 c2 c3 c4 c5 c6 c7
    have hB1 : Below w.heap.size w w1 := hC1.2.2.2.2.2.2.2
    refine (specMarksOk_c b off len cap f a w1 hl (hrow.on hB1)).mono ?_
    rintro e w2 ⟨rfl, hb2⟩
    have hC2 := r1C_on hC1 hb2
    have c0 : w2.cell? ⟨w.heap.size, 0, none⟩ = some (.int .i64 s) := hC2.1
    have c1 : w2.cell? ⟨w.heap.size, 1, none⟩ = some (.int .i64 j) := hC2.2.1
    have c2 : w2.cell? ⟨w.heap.size, 2, none⟩ = some (.int .i64 m) := hC2.2.2.1
    have c3 : w2.cell? ⟨w.heap.size, 3, none⟩ = some (.int .i64 g) := hC2.2.2.2.1
    have c4 : w2.cell? ⟨w.heap.size, 4, none⟩ = some (.int .i64 o) := hC2.2.2.2.2.1
    have c5 : w2.cell? ⟨w.heap.size + 1, 0, none⟩ = some (.int .i64 l) := hC2.2.2.2.2.2.1
    have c6 : w2.cell? ⟨w.heap.size + 1, 1, none⟩ = some (.int .i64 h) := hC2.2.2.2.2.2.2.1
    have c7 : Below w.heap.size w w2 := hC2.2.2.2.2.2.2.2
    go_wp2_with fail
    go_ret
    exact ⟨rfl, c7⟩
  have i2 : ¬ (2000 : Int) < (el : Int) := by omega
  have hto : Hid (evTo fe ge el = false) := by show evTo fe ge el = false; simpa [hg, hmk, show el ≤ 2000 by omega] using hbad
  clear hbad
  go_enter Tryd.func47, Tryd.ntmps47
  go_wp2_with fail
  refine (l1good_c _ _ _ _ _ _ _ _).mono ?_
  rintro e w1 ⟨rfl, hb1⟩
  have hC1 : r1C w s j m g o l h w1 := ⟨cellOn hb1 (by go_simp), cellOn hb1 (by go_simp), cellOn hb1 (by go_simp), cellOn hb1 (by go_simp), cellOn hb1 (by go_simp), cellOn hb1 (by go_simp), cellOn hb1 (by go_simp), nbTrans (nbAlloc (nbAlloc (Below.refl _ _) _) _) hb1⟩
  have c0 : w1.cell? ⟨w.heap.size, 0, none⟩ = some (.int .i64 s) := hC1.1
  have c1 : w1.cell? ⟨w.heap.size, 1, none⟩ = some (.int .i64 j) := hC1.2.1
  have c2 : w1.cell? ⟨w.heap.size, 2, none⟩ = some (.int .i64 m) := hC1.2.2.1
  have c3 : w1.cell? ⟨w.heap.size, 3, none⟩ = some (.int .i64 g) := hC1.2.2.2.1
  have c4 : w1.cell? ⟨w.heap.size, 4, none⟩ = some (.int .i64 o) := hC1.2.2.2.2.1
  have c5 : w1.cell? ⟨w.heap.size + 1, 0, none⟩ = some (.int .i64 l) := hC1.2.2.2.2.2.1
  have c6 : w1.cell? ⟨w.heap.size + 1, 1, none⟩ = some (.int .i64 h) := hC1.2.2.2.2.2.2.1
  have c7 : Below w.heap.size w w1 := hC1.2.2.2.2.2.2.2
  go_wp2_with fail
  clear c0 c1 c2 c3 c4 c5 c6 c7
  have hB1 : Below w.heap.size w w1 := hC1.2.2.2.2.2.2.2
  refine (specMarksOk_c b off len cap f a w1 hl (hrow.on hB1)).mono ?_
  rintro e w2 ⟨rfl, hb2⟩
  have hC2 := r1C_on hC1 hb2
  have c0 : w2.cell? ⟨w.heap.size, 0, none⟩ = some (.int .i64 s) := hC2.1
  have c1 : w2.cell? ⟨w.heap.size, 1, none⟩ = some (.int .i64 j) := hC2.2.1
  have c2 : w2.cell? ⟨w.heap.size, 2, none⟩ = some (.int .i64 m) := hC2.2.2.1
  have c3 : w2.cell? ⟨w.heap.size, 3, none⟩ = some (.int .i64 g) := hC2.2.2.2.1
  have c4 : w2.cell? ⟨w.heap.size, 4, none⟩ = some (.int .i64 o) := hC2.2.2.2.2.1
  have c5 : w2.cell? ⟨w.heap.size + 1, 0, none⟩ = some (.int .i64 l) := hC2.2.2.2.2.2.1
  have c6 : w2.cell? ⟨w.heap.size + 1, 1, none⟩ = some (.int .i64 h) := hC2.2.2.2.2.2.2.1
  have c7 : Below w.heap.size w w2 := hC2.2.2.2.2.2.2.2
  go_wp2_with fail
  clear c0 c1 c2 c3 c4 c5 c6 c7
  go_loopw [31] (fun iv wr => ∃ k : Nat, iv = .int .i64 k ∧ k ≤ el ∧ evTo fe ge k = true ∧ r1C w s j m g o l h wr) (fun iv _ => el - (intOf iv).toNat)
  case atStart => exact ⟨0, rfl, by omega, rfl, hC2⟩
  case round =>
    obtain ⟨k, rfl, hk, hto, hC⟩ := hrel
    have HTO : Hid (evTo fe ge k = true) := hto
    clear hto
    have c0 : wr.cell? ⟨w.heap.size, 0, none⟩ = some (.int .i64 s) := hC.1
    have c1 : wr.cell? ⟨w.heap.size, 1, none⟩ = some (.int .i64 j) := hC.2.1
    have c2 : wr.cell? ⟨w.heap.size, 2, none⟩ = some (.int .i64 m) := hC.2.2.1
    have c3 : wr.cell? ⟨w.heap.size, 3, none⟩ = some (.int .i64 g) := hC.2.2.2.1
    have c4 : wr.cell? ⟨w.heap.size, 4, none⟩ = some (.int .i64 o) := hC.2.2.2.2.1
    have c5 : wr.cell? ⟨w.heap.size + 1, 0, none⟩ = some (.int .i64 l) := hC.2.2.2.2.2.1
    have c6 : wr.cell? ⟨w.heap.size + 1, 1, none⟩ = some (.int .i64 h) := hC.2.2.2.2.2.2.1
    have c7 : Below w.heap.size w wr := hC.2.2.2.2.2.2.2
    by_cases hlt : k < el
    · have i0 : (0 : Int) ≤ (k : Int) := by omega
      have i1 : (k : Int) < (el : Int) := by omega
      have d0 := cellOn c7 (hev k hlt).1
      have d1 := cellOn c7 (hev k hlt).2
      go_wp2_with fail
      refine (specEventOk_c _ _ _).mono ?_
      rintro e w3 ⟨rfl, hb3⟩
      have hC3 := r1C_on (r1C_on hC (nbAlloc (Below.refl _ _) _)) hb3
      cases hE : evB (fe k) (ge k)
      · go_wp2_with fail
        go_ret
        exact ⟨rfl, hC3.2.2.2.2.2.2.2⟩
      · go_wp2_with fail
        go_roundw
        case rel => exact ⟨k + 1, by go_num, by omega, evTo_snoc HTO.out hE, hC3⟩
        case measure => simp [intOf]; omega
    · have hkl : el = k := by omega
      subst hkl
      exact absurd (HTO.out.symm.trans hto.out) (by simp)

set_option maxHeartbeats 4000000 in
theorem specRun_ok (b off len cap : Nat) (f a : Nat → Int) (eb eo el ec : Nat) (fe ge : Nat → Int) (s j m g o l h : Int) (w : World) (hl : len ≤ 1048576) (hrow : Row2 w b off len f a) (hel : el ≤ 1048576) (hev : Row2 w eb eo el fe ge) (hok : runOk s j m g o len f a l h fe ge el = true) :
    Calls Tryd.prog 47 #[.agg #[.int .i64 s, .int .i64 j, .int .i64 m, .int .i64 g, .int .i64 o], .slice (some ⟨b, off, none⟩) len cap, .agg #[.int .i64 l, .int .i64 h], .slice (some ⟨eb, eo, none⟩) el ec] w fun e w' => ∃ v, e = .returned v ∧ w'.ownsRow w.heap.size 94 6 v el (runCs s j m g o len f a l h fe ge el) ∧ Below w.heap.size w w' := by
  unfold runOk at hok
  simp only [Bool.and_eq_true, decide_eq_true_eq] at hok
  obtain ⟨⟨⟨⟨hr, hbk⟩, hmk⟩, h2k⟩, hto⟩ := hok
  have HTA : Hid (evTo fe ge el = true) := hto
  clear hto
  have i2 : ¬ (2000 : Int) < (el : Int) := by omega
  have HG : (rOk s j m g o && bOk l h) = true := by rw [hr, hbk]; rfl
  clear h2k hr hbk
  go_enter Tryd.func47, Tryd.ntmps47
  go_wp2_with fail
  refine (l1good_c _ _ _ _ _ _ _ _).mono ?_
  rintro e w1 ⟨rfl, hb1⟩
  have hC1 : r1C w s j m g o l h w1 := ⟨cellOn hb1 (by go_simp), cellOn hb1 (by go_simp), cellOn hb1 (by go_simp), cellOn hb1 (by go_simp), cellOn hb1 (by go_simp), cellOn hb1 (by go_simp), cellOn hb1 (by go_simp), nbTrans (nbAlloc (nbAlloc (Below.refl _ _) _) _) hb1⟩
  have c0 : w1.cell? ⟨w.heap.size, 0, none⟩ = some (.int .i64 s) := hC1.1
  have c1 : w1.cell? ⟨w.heap.size, 1, none⟩ = some (.int .i64 j) := hC1.2.1
  have c2 : w1.cell? ⟨w.heap.size, 2, none⟩ = some (.int .i64 m) := hC1.2.2.1
  have c3 : w1.cell? ⟨w.heap.size, 3, none⟩ = some (.int .i64 g) := hC1.2.2.2.1
  have c4 : w1.cell? ⟨w.heap.size, 4, none⟩ = some (.int .i64 o) := hC1.2.2.2.2.1
  have c5 : w1.cell? ⟨w.heap.size + 1, 0, none⟩ = some (.int .i64 l) := hC1.2.2.2.2.2.1
  have c6 : w1.cell? ⟨w.heap.size + 1, 1, none⟩ = some (.int .i64 h) := hC1.2.2.2.2.2.2.1
  have c7 : Below w.heap.size w w1 := hC1.2.2.2.2.2.2.2
  go_wp2_with fail
  clear c0 c1 c2 c3 c4 c5 c6 c7
  have hB1 : Below w.heap.size w w1 := hC1.2.2.2.2.2.2.2
  refine (specMarksOk_c b off len cap f a w1 hl (hrow.on hB1)).mono ?_
  rintro e w2 ⟨rfl, hb2⟩
  have hC2 := r1C_on hC1 hb2
  have c0 : w2.cell? ⟨w.heap.size, 0, none⟩ = some (.int .i64 s) := hC2.1
  have c1 : w2.cell? ⟨w.heap.size, 1, none⟩ = some (.int .i64 j) := hC2.2.1
  have c2 : w2.cell? ⟨w.heap.size, 2, none⟩ = some (.int .i64 m) := hC2.2.2.1
  have c3 : w2.cell? ⟨w.heap.size, 3, none⟩ = some (.int .i64 g) := hC2.2.2.2.1
  have c4 : w2.cell? ⟨w.heap.size, 4, none⟩ = some (.int .i64 o) := hC2.2.2.2.2.1
  have c5 : w2.cell? ⟨w.heap.size + 1, 0, none⟩ = some (.int .i64 l) := hC2.2.2.2.2.2.1
  have c6 : w2.cell? ⟨w.heap.size + 1, 1, none⟩ = some (.int .i64 h) := hC2.2.2.2.2.2.2.1
  have c7 : Below w.heap.size w w2 := hC2.2.2.2.2.2.2.2
  go_wp2_with fail
  clear c0 c1 c2 c3 c4 c5 c6 c7
  go_loopw [31] (fun iv wr => ∃ k : Nat, iv = .int .i64 k ∧ k ≤ el ∧ evTo fe ge k = true ∧ r1C w s j m g o l h wr) (fun iv _ => el - (intOf iv).toNat)
  case atStart => exact ⟨0, rfl, by omega, rfl, hC2⟩
  case round =>
    obtain ⟨k, rfl, hk, hto, hC⟩ := hrel
    have HTO : Hid (evTo fe ge k = true) := hto
    clear hto
    have c0 : wr.cell? ⟨w.heap.size, 0, none⟩ = some (.int .i64 s) := hC.1
    have c1 : wr.cell? ⟨w.heap.size, 1, none⟩ = some (.int .i64 j) := hC.2.1
    have c2 : wr.cell? ⟨w.heap.size, 2, none⟩ = some (.int .i64 m) := hC.2.2.1
    have c3 : wr.cell? ⟨w.heap.size, 3, none⟩ = some (.int .i64 g) := hC.2.2.2.1
    have c4 : wr.cell? ⟨w.heap.size, 4, none⟩ = some (.int .i64 o) := hC.2.2.2.2.1
    have c5 : wr.cell? ⟨w.heap.size + 1, 0, none⟩ = some (.int .i64 l) := hC.2.2.2.2.2.1
    have c6 : wr.cell? ⟨w.heap.size + 1, 1, none⟩ = some (.int .i64 h) := hC.2.2.2.2.2.2.1
    have c7 : Below w.heap.size w wr := hC.2.2.2.2.2.2.2
    by_cases hlt : k < el
    · have i0 : (0 : Int) ≤ (k : Int) := by omega
      have i1 : (k : Int) < (el : Int) := by omega
      have d0 := cellOn c7 (hev k hlt).1
      have d1 := cellOn c7 (hev k hlt).2
      go_wp2_with fail
      refine (specEventOk_c _ _ _).mono ?_
      rintro e w3 ⟨rfl, hb3⟩
      have hC3 := r1C_on (r1C_on hC (nbAlloc (Below.refl _ _) _)) hb3
      have hE : evB (fe k) (ge k) = true := evTo_at HTA.out hlt
      go_wp2_with fail
      go_roundw
      case rel => exact ⟨k + 1, by go_num, by omega, evTo_snoc HTO.out hE, hC3⟩
      case measure => simp [intOf]; omega
    · have hkl : el = k := by omega
      subst hkl
      go_wp2_with fail
      have hps : w.heap.size + 1 < wr.heap.size := ltCell c5
      generalize hpq : wr.heap.size = ps at *
      have hC4 : r2C w ps s j m g o (runSt s j m g o len f a l h fe ge 0) (wr.alloc (.cells #[.bool true, .int .i64 l, .int .i64 h, .int .i64 0, .int .i64 (-1), .int .i64 0] 94)) := ⟨cellNew c0 _, cellNew c1 _, cellNew c2 _, cellNew c3 _, cellNew c4 _, by rw [Joins.cell_of_block (newBlkD _ _ hpq.symm)]; rfl, by rw [Joins.cell_of_block (newBlkD _ _ hpq.symm)]; rfl, by rw [Joins.cell_of_block (newBlkD _ _ hpq.symm)]; rfl, by rw [Joins.cell_of_block (newBlkD _ _ hpq.symm)]; rfl, by rw [Joins.cell_of_block (newBlkD _ _ hpq.symm)]; rfl, by rw [Joins.cell_of_block (newBlkD _ _ hpq.symm)]; rfl, Joins.unfrozen_of_block (newBlkD _ _ hpq.symm) 0, Joins.unfrozen_of_block (newBlkD _ _ hpq.symm) 1, Joins.unfrozen_of_block (newBlkD _ _ hpq.symm) 2, Joins.unfrozen_of_block (newBlkD _ _ hpq.symm) 3, Joins.unfrozen_of_block (newBlkD _ _ hpq.symm) 4, Joins.unfrozen_of_block (newBlkD _ _ hpq.symm) 5, nbAlloc c7 _⟩
      have hsz0 : ps + 1 ≤ (wr.alloc (.cells #[.bool true, .int .i64 l, .int .i64 h, .int .i64 0, .int .i64 (-1), .int .i64 0] 94)).heap.size := by show ps + 1 ≤ (wr.heap.push _).size; rw [Array.size_push]; omega
      generalize wr.alloc (.cells #[.bool true, .int .i64 l, .int .i64 h, .int .i64 0, .int .i64 (-1), .int .i64 0] 94) = w4 at *
      clear c0 c1 c2 c3 c4 c5 c6 c7
      clear hpq hC hC2 hC1
      go_loopw [12, 43] (fun v iv wr => ∃ k : Nat, iv = .int .i64 k ∧ k ≤ el ∧ wr.ownsRow (ps + 1) 94 6 v k (runCs s j m g o len f a l h fe ge k) ∧ r2C w ps s j m g o (runSt s j m g o len f a l h fe ge k) wr ∧ ps + 1 ≤ wr.heap.size) (fun _ iv _ => el - (intOf iv).toNat)
      case atStart => exact ⟨0, rfl, by omega, World.ownsRow_nil _ _ _ _, hC4, hsz0⟩
      case round =>
        clear hC4 hsz0
        obtain ⟨k, rfl, hk, hown, hC, hsz⟩ := hrel
        by_cases hlt : k < el
        · have i0 : (0 : Int) ≤ (k : Int) := by omega
          have i1 : (k : Int) < (el : Int) := by omega
          have HT : Hid (doA s j m g o len f a (runSt s j m g o len f a l h fe ge k) (fe k) (ge k) = runSt s j m g o len f a l h fe ge (k + 1)) := rfl
          have HS : Hid (runCs s j m g o len f a l h fe ge k ++ (runSt s j m g o len f a l h fe ge (k + 1)).cs = runCs s j m g o len f a l h fe ge (k + 1)) := rfl
          generalize runSt s j m g o len f a l h fe ge k = t at *
          generalize hT2 : runSt s j m g o len f a l h fe ge (k + 1) = t2 at *
          have HT2 : Hid (runSt s j m g o len f a l h fe ge (k + 1) = t2) := hT2
          clear hT2
          have c0 : wr.cell? ⟨w.heap.size, 0, none⟩ = some (.int .i64 s) := hC.1
          have c1 : wr.cell? ⟨w.heap.size, 1, none⟩ = some (.int .i64 j) := hC.2.1
          have c2 : wr.cell? ⟨w.heap.size, 2, none⟩ = some (.int .i64 m) := hC.2.2.1
          have c3 : wr.cell? ⟨w.heap.size, 3, none⟩ = some (.int .i64 g) := hC.2.2.2.1
          have c4 : wr.cell? ⟨w.heap.size, 4, none⟩ = some (.int .i64 o) := hC.2.2.2.2.1
          have c5 : wr.cell? ⟨ps, 0, none⟩ = some (.bool t.kn) := hC.2.2.2.2.2.1
          have c6 : wr.cell? ⟨ps, 1, none⟩ = some (.int .i64 t.l) := hC.2.2.2.2.2.2.1
          have c7 : wr.cell? ⟨ps, 2, none⟩ = some (.int .i64 t.h) := hC.2.2.2.2.2.2.2.1
          have c8 : wr.cell? ⟨ps, 3, none⟩ = some (.int .i64 t.si) := hC.2.2.2.2.2.2.2.2.1
          have c9 : wr.cell? ⟨ps, 4, none⟩ = some (.int .i64 t.la) := hC.2.2.2.2.2.2.2.2.2.1
          have c10 : wr.cell? ⟨ps, 5, none⟩ = some (.int .i64 t.od) := hC.2.2.2.2.2.2.2.2.2.2.1
          have c11 : wr.frozen? ⟨ps, 0, none⟩ = false := hC.2.2.2.2.2.2.2.2.2.2.2.1
          have c12 : wr.frozen? ⟨ps, 1, none⟩ = false := hC.2.2.2.2.2.2.2.2.2.2.2.2.1
          have c13 : wr.frozen? ⟨ps, 2, none⟩ = false := hC.2.2.2.2.2.2.2.2.2.2.2.2.2.1
          have c14 : wr.frozen? ⟨ps, 3, none⟩ = false := hC.2.2.2.2.2.2.2.2.2.2.2.2.2.2.1
          have c15 : wr.frozen? ⟨ps, 4, none⟩ = false := hC.2.2.2.2.2.2.2.2.2.2.2.2.2.2.2.1
          have c16 : wr.frozen? ⟨ps, 5, none⟩ = false := hC.2.2.2.2.2.2.2.2.2.2.2.2.2.2.2.2.1
          have c17 : Below w.heap.size w wr := hC.2.2.2.2.2.2.2.2.2.2.2.2.2.2.2.2.2
          have d0 := cellOn c17 (hev k hlt).1
          have d1 := cellOn c17 (hev k hlt).2
          have e0 := cellNew c0
          have e1 := cellNew c1
          have e2 := cellNew c2
          have e3 := cellNew c3
          have e4 := cellNew c4
          have e5 := cellNew c5
          have e6 := cellNew c6
          have e7 := cellNew c7
          have e8 := cellNew c8
          have e9 := cellNew c9
          have e10 := cellNew c10
          go_wp2_with fail
          have hC5 := r2C_on hC (nbAlloc (Below.refl wr.heap.size wr) (.cells #[.int .i64 (fe k), .int .i64 (ge k)] 78))
          have hown5 := hown.alloc (.cells #[.int .i64 (fe k), .int .i64 (ge k)] 78)
          have hB5 : Below w.heap.size w (wr.alloc (.cells #[.int .i64 (fe k), .int .i64 (ge k)] 78)) := hC5.2.2.2.2.2.2.2.2.2.2.2.2.2.2.2.2.2
          refine (specDo_c b off len cap f a s j m g o t _ _ _ hl (hrow.on hB5)).mono ?_
          rintro e w6 ⟨rfl, hb6⟩
          rw [HT.out]
          have hC6 := r2C_on hC5 hb6
          have hown6 := owns_on hown5 hb6
          have hsz6 : ps + 1 ≤ w6.heap.size := by have h6 : (wr.heap.push _).size ≤ _ := hb6.size; rw [Array.size_push] at h6; omega
          clear c0 c1 c2 c3 c4 c5 c6 c7 c8 c9 c10 c11 c12 c13 c14 c15 c16 c17 e0 e1 e2 e3 e4 e5 e6 e7 e8 e9 e10
          clear d0 d1 hC5 hown5 hB5 hb6 hC hown hsz
          have c0 : w6.cell? ⟨w.heap.size, 0, none⟩ = some (.int .i64 s) := hC6.1
          have c1 : w6.cell? ⟨w.heap.size, 1, none⟩ = some (.int .i64 j) := hC6.2.1
          have c2 : w6.cell? ⟨w.heap.size, 2, none⟩ = some (.int .i64 m) := hC6.2.2.1
          have c3 : w6.cell? ⟨w.heap.size, 3, none⟩ = some (.int .i64 g) := hC6.2.2.2.1
          have c4 : w6.cell? ⟨w.heap.size, 4, none⟩ = some (.int .i64 o) := hC6.2.2.2.2.1
          have c5 : w6.cell? ⟨ps, 0, none⟩ = some (.bool t.kn) := hC6.2.2.2.2.2.1
          have c6 : w6.cell? ⟨ps, 1, none⟩ = some (.int .i64 t.l) := hC6.2.2.2.2.2.2.1
          have c7 : w6.cell? ⟨ps, 2, none⟩ = some (.int .i64 t.h) := hC6.2.2.2.2.2.2.2.1
          have c8 : w6.cell? ⟨ps, 3, none⟩ = some (.int .i64 t.si) := hC6.2.2.2.2.2.2.2.2.1
          have c9 : w6.cell? ⟨ps, 4, none⟩ = some (.int .i64 t.la) := hC6.2.2.2.2.2.2.2.2.2.1
          have c10 : w6.cell? ⟨ps, 5, none⟩ = some (.int .i64 t.od) := hC6.2.2.2.2.2.2.2.2.2.2.1
          have c11 : w6.frozen? ⟨ps, 0, none⟩ = false := hC6.2.2.2.2.2.2.2.2.2.2.2.1
          have c12 : w6.frozen? ⟨ps, 1, none⟩ = false := hC6.2.2.2.2.2.2.2.2.2.2.2.2.1
          have c13 : w6.frozen? ⟨ps, 2, none⟩ = false := hC6.2.2.2.2.2.2.2.2.2.2.2.2.2.1
          have c14 : w6.frozen? ⟨ps, 3, none⟩ = false := hC6.2.2.2.2.2.2.2.2.2.2.2.2.2.2.1
          have c15 : w6.frozen? ⟨ps, 4, none⟩ = false := hC6.2.2.2.2.2.2.2.2.2.2.2.2.2.2.2.1
          have c16 : w6.frozen? ⟨ps, 5, none⟩ = false := hC6.2.2.2.2.2.2.2.2.2.2.2.2.2.2.2.2.1
          have c17 : Below w.heap.size w w6 := hC6.2.2.2.2.2.2.2.2.2.2.2.2.2.2.2.2.2
          simp only [St.v]
          have hown7 : ((((((w6.setCell ⟨ps, 0, none⟩ (.bool t2.kn)).setCell ⟨ps, 1, none⟩ (.int .i64 t2.l)).setCell ⟨ps, 2, none⟩ (.int .i64 t2.h)).setCell ⟨ps, 3, none⟩ (.int .i64 t2.si)).setCell ⟨ps, 4, none⟩ (.int .i64 t2.la)).setCell ⟨ps, 5, none⟩ (.int .i64 t2.od)).ownsRow (ps + 1) 94 6 _ k (runCs s j m g o len f a l h fe ge k) := (owns_set (owns_set (owns_set (owns_set (owns_set (owns_set hown6 (by omega)) (by omega)) (by omega)) (by omega)) (by omega)) (by omega))
          obtain ⟨i0', hi, hz0, hz1, hz2⟩ := info_parts infoSt
          go_wp2_with (at_builtin; refine wpList_append_own _ rfl _ _ 91 rfl (ps + 1) 94 i0' _ 6 48 Tryd.underlying91 hi hz0 hz1 hz2 rfl (by decide) _ _ _ rfl (hown7.alloc _) ⟨w6.heap.size, 0, none⟩ 1 1 [.bool t2.kn, .int .i64 t2.l, .int .i64 t2.h, .int .i64 t2.si, .int .i64 t2.la, .int .i64 t2.od] rfl rfl ?c1 ?c2 ?c3 ?c4 ?c5 ?_)
          case c1 =>
            intro j u hj
            match j, hj with
            | 0, hj => simp at hj; subst hj; simp [Addr.add]; exact (Joins.cell_of_block (newBlkD _ _ (by simp)) _).trans rfl
            | 1, hj => simp at hj; subst hj; simp [Addr.add]; exact (Joins.cell_of_block (newBlkD _ _ (by simp)) _).trans rfl
            | 2, hj => simp at hj; subst hj; simp [Addr.add]; exact (Joins.cell_of_block (newBlkD _ _ (by simp)) _).trans rfl
            | 3, hj => simp at hj; subst hj; simp [Addr.add]; exact (Joins.cell_of_block (newBlkD _ _ (by simp)) _).trans rfl
            | 4, hj => simp at hj; subst hj; simp [Addr.add]; exact (Joins.cell_of_block (newBlkD _ _ (by simp)) _).trans rfl
            | 5, hj => simp at hj; subst hj; simp [Addr.add]; exact (Joins.cell_of_block (newBlkD _ _ (by simp)) _).trans rfl
          case c2 => intro u hu; simp at hu; rcases hu with rfl | rfl | rfl | rfl | rfl | rfl <;> rfl
          case c3 => unfold maxLen; omega
          case c4 => omega
          case c5 => show ps + 1 ≤ (Array.push _ _).size; rw [Array.size_push]; simp; omega
          intro v' w8 hown8 hgrow _
          have S6 := set6 (v0 := .bool t2.kn) (v1 := .int .i64 t2.l) (v2 := .int .i64 t2.h) (v3 := .int .i64 t2.si) (v4 := .int .i64 t2.la) (v5 := .int .i64 t2.od) c5 c6 c7 c8 c9 c10
          have hC7 : r2C w ps s j m g o t2 ((((((w6.setCell ⟨ps, 0, none⟩ (.bool t2.kn)).setCell ⟨ps, 1, none⟩ (.int .i64 t2.l)).setCell ⟨ps, 2, none⟩ (.int .i64 t2.h)).setCell ⟨ps, 3, none⟩ (.int .i64 t2.si)).setCell ⟨ps, 4, none⟩ (.int .i64 t2.la)).setCell ⟨ps, 5, none⟩ (.int .i64 t2.od)) := ⟨cellFar (by omega) (cellFar (by omega) (cellFar (by omega) (cellFar (by omega) (cellFar (by omega) (cellFar (by omega) (c0)))))), cellFar (by omega) (cellFar (by omega) (cellFar (by omega) (cellFar (by omega) (cellFar (by omega) (cellFar (by omega) (c1)))))), cellFar (by omega) (cellFar (by omega) (cellFar (by omega) (cellFar (by omega) (cellFar (by omega) (cellFar (by omega) (c2)))))), cellFar (by omega) (cellFar (by omega) (cellFar (by omega) (cellFar (by omega) (cellFar (by omega) (cellFar (by omega) (c3)))))), cellFar (by omega) (cellFar (by omega) (cellFar (by omega) (cellFar (by omega) (cellFar (by omega) (cellFar (by omega) (c4)))))), S6.1, S6.2.1, S6.2.2.1, S6.2.2.2.1, S6.2.2.2.2.1, S6.2.2.2.2.2, (World.frozen?_setCell _ _ _ _).trans ((World.frozen?_setCell _ _ _ _).trans ((World.frozen?_setCell _ _ _ _).trans ((World.frozen?_setCell _ _ _ _).trans ((World.frozen?_setCell _ _ _ _).trans ((World.frozen?_setCell _ _ _ _).trans (c11)))))), (World.frozen?_setCell _ _ _ _).trans ((World.frozen?_setCell _ _ _ _).trans ((World.frozen?_setCell _ _ _ _).trans ((World.frozen?_setCell _ _ _ _).trans ((World.frozen?_setCell _ _ _ _).trans ((World.frozen?_setCell _ _ _ _).trans (c12)))))), (World.frozen?_setCell _ _ _ _).trans ((World.frozen?_setCell _ _ _ _).trans ((World.frozen?_setCell _ _ _ _).trans ((World.frozen?_setCell _ _ _ _).trans ((World.frozen?_setCell _ _ _ _).trans ((World.frozen?_setCell _ _ _ _).trans (c13)))))), (World.frozen?_setCell _ _ _ _).trans ((World.frozen?_setCell _ _ _ _).trans ((World.frozen?_setCell _ _ _ _).trans ((World.frozen?_setCell _ _ _ _).trans ((World.frozen?_setCell _ _ _ _).trans ((World.frozen?_setCell _ _ _ _).trans (c14)))))), (World.frozen?_setCell _ _ _ _).trans ((World.frozen?_setCell _ _ _ _).trans ((World.frozen?_setCell _ _ _ _).trans ((World.frozen?_setCell _ _ _ _).trans ((World.frozen?_setCell _ _ _ _).trans ((World.frozen?_setCell _ _ _ _).trans (c15)))))), (World.frozen?_setCell _ _ _ _).trans ((World.frozen?_setCell _ _ _ _).trans ((World.frozen?_setCell _ _ _ _).trans ((World.frozen?_setCell _ _ _ _).trans ((World.frozen?_setCell _ _ _ _).trans ((World.frozen?_setCell _ _ _ _).trans (c16)))))), nbSetX (nbSetX (nbSetX (nbSetX (nbSetX (nbSetX (c17) (by omega)) (by omega)) (by omega)) (by omega)) (by omega)) (by omega)⟩
          have hsz7 : ps + 1 ≤ ((((((w6.setCell ⟨ps, 0, none⟩ (.bool t2.kn)).setCell ⟨ps, 1, none⟩ (.int .i64 t2.l)).setCell ⟨ps, 2, none⟩ (.int .i64 t2.h)).setCell ⟨ps, 3, none⟩ (.int .i64 t2.si)).setCell ⟨ps, 4, none⟩ (.int .i64 t2.la)).setCell ⟨ps, 5, none⟩ (.int .i64 t2.od)).heap.size := by simp; omega
          have hlow := grown_low (hown7.alloc _) (by show ps + 1 ≤ (Array.push _ _).size; rw [Array.size_push]; omega) hgrow
          have hC8 := r2C_low (r2C_on hC7 (nbAlloc (Below.refl _ _) _)) (by omega) hlow
          have hsz8 := hlow.size
          have hsz9 : ps + 1 ≤ w8.heap.size := by
            have h9 : (Array.push _ _).size ≤ _ := hsz8
            rw [Array.size_push] at h9; omega
          clear hgrow hown7 hlow S6 hsz8 hsz7 hC7 hi hz0 hz1 hz2
          clear c0 c1 c2 c3 c4 c5 c6 c7 c8 c9 c10 c11 c12 c13 c14 c15 c16 c17
          go_wp2_with fail
          go_roundw
          case rel => exact ⟨k + 1, by go_num, by omega, (by rw [← HS.out]; exact hown8), (by rw [HT2.out]; exact hC8), hsz9⟩
          case measure => simp [intOf]; omega
        · have hkl : el = k := by omega
          subst hkl
          go_wp2_with fail
          go_ret
          exact ⟨_, rfl, owns_base hown (by omega), hC.2.2.2.2.2.2.2.2.2.2.2.2.2.2.2.2.2⟩

end Go.Proofs.YtmhppadblddjoacDoor
