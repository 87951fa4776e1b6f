import Derived.Maps.OwnSet
import Derived.Maps.OwnOps
import Derived.Test.YtmhppadblddjoaaDoorZTrueMkOk
import Derived.Test.YtmhppadblddjoaaDoorZTrueW2
/- The program's map of marks by their names. -/
namespace Go.Proofs.YtmhppadblddjoaaDoor
open Go.RowKit Go.Maps

/-- How an element reads: a struct of two ints. -/
def spotElem : Value → Option (DataW Unit × List MemPlace)
  | .agg cs => match cs.toList with
    | [.int .i64 x, .int .i64 y] => some (.agg [.lit (.int .i64 x), .lit (.int .i64 y)], [])
    | _ => none
  | _ => none
theorem spotElem_inv {v : Value} {z : DataW Unit × List MemPlace} (h : spotElem v = some z) : ∃ x y : Int, v = .agg #[.int .i64 x, .int .i64 y] ∧ z = (.agg [.lit (.int .i64 x), .lit (.int .i64 y)], []) := by
  unfold spotElem at h
  split at h
  · rename_i cs
    split at h
    · rename_i x y hc
      simp at h
      have : cs = #[.int .i64 x, .int .i64 y] := by cases cs; simp at hc; subst hc; rfl
      subst this
      exact ⟨x, y, rfl, h.symm⟩
    · cases h
  · cases h
theorem keyLit (x : Int) : WideAt.IsKeyLit (.int .i64 x) := trivial

theorem lawInt : Keyed Tryd.prog 3 := int_keyed Tryd.underlying3
theorem zeroSpot (w : World) : (zeroValue 125).run Tryd.prog w = .ok (.agg #[.int .i64 0, .int .i64 0]) w := by kernel_rfl
theorem wfName {x : Int} (h : inB x 1 1000000000 = true) : (Lit.int .i64 x).wf = true := by
  simp only [inB, Bool.and_eq_true, decide_eq_true_eq] at h
  exact WalkArith.wf_i64 (by omega)

def spot (k : Nat) (y : Int) : DataW Unit := .agg [.lit (.int .i64 k), .lit (.int .i64 y)]
/-- What the map reads as behind k marks. -/
def spots (f a : Nat → Int) : Nat → DataW Unit
  | 0 => .map []
  | k + 1 => (spots f a k).put (.int .i64 (f k)) (spot k (a k))

theorem spots_map (f a : Nat → Int) : ∀ k, IsMap (spots f a k)
  | 0 => isMap_empty
  | k + 1 => (spots_map f a k).put _ _
theorem spots_tidy (f a : Nat → Int) : ∀ k, Tidy (spots f a k)
  | 0 => tidy_empty
  | k + 1 => (spots_tidy f a k).put (keyLit _) _

theorem litNe {x y : Int} (h : x ≠ y) : (Lit.int .i64 x) ≠ .int .i64 y := fun e => h (by cases e; rfl)

theorem spots_has (f a : Nat → Int) (x : Int) : ∀ k, has (spots f a k) (.int .i64 x) = decide (0 ≤ lastIx f x k)
  | 0 => by simp [spots, has, lastIx]
  | k + 1 => by
    cases hk : (f k == x)
    · rw [lastIx_no hk, ← spots_has f a x k]
      exact has_put_other (litNe (by simpa using fun e => (by simpa using hk : ¬ f k = x) e.symm)) _
    · rw [lastIx_yes hk]
      have : f k = x := by simpa using hk
      subst this
      rw [spots, has_put_same (spots_map f a k) (keyLit _)]
      simp

theorem spots_at (f a : Nat → Int) (x : Int) (z : DataW Unit) : ∀ k i, lastIx f x k = (i : Nat) → (spots f a k).atKey (.int .i64 x) z = spot i (a i)
  | 0, i, h => by simp only [lastIx] at h; omega
  | k + 1, i, h => by
    cases hk : (f k == x)
    · rw [lastIx_no hk] at h
      rw [spots, atKey_put_other (litNe (by simpa using fun e => (by simpa using hk : ¬ f k = x) e.symm))]
      exact spots_at f a x z k i h
    · rw [lastIx_yes hk] at h
      have hi : k = i := by omega
      have : f k = x := by simpa using hk
      subst this hi
      rw [spots, atKey_put_same (spots_map f a k) (keyLit _)]

theorem spots_fresh (f a : Nat → Int) (k : Nat) : has (spots f a k) (.int .i64 (f k)) = !freshB f k k := by
  rw [spots_has]
  rcases lastIx_cases f (f k) k with ⟨h1, h2⟩ | ⟨i, h1, h2, h3⟩
  · have : freshB f k k = true := by
      unfold freshB
      rw [List.all_eq_true]
      intro j hj
      simpa using h2 j (by simpa using hj)
    rw [h1, this]; rfl
  · have : freshB f k k = false := fresh_no h2 (by simpa using h3)
    rw [h1, this]; simp

theorem spots_size (f a : Nat → Int) : ∀ k, Maps.size (spots f a k) ≤ k ∧ (Maps.size (spots f a k) = k ↔ ∀ i, i < k → freshB f i i = true)
  | 0 => ⟨by simp [spots, Maps.size], by simp [spots, Maps.size]⟩
  | k + 1 => by
    obtain ⟨h1, h2⟩ := spots_size f a k
    have hs := size_put (k := .int .i64 (f k)) (spots_tidy f a k) (spot k (a k))
    rw [spots_fresh] at hs
    rw [spots]
    cases hf : freshB f k k
    · simp [hf] at hs
      rw [hs]
      refine ⟨by omega, ⟨fun h => by omega, fun h => ?_⟩⟩
      have := h k (by omega)
      rw [hf] at this; cases this
    · simp [hf] at hs
      rw [hs]
      refine ⟨by omega, ⟨fun h i hi => ?_, fun h => ?_⟩⟩
      · by_cases hik : i = k
        · subst hik; exact hf
        · exact h2.1 (by omega) i (by omega)
      · have := h2.2 (fun i hi => h i (by omega))
        omega

/-- Block b is the map of these marks. -/
def MapAt (w : World) (b len : Nat) (f a : Nat → Int) : Prop := w.ownsMap Tryd.prog 3 spotElem b len (spots f a len)
theorem MapAt.on {w w' : World} {b len : Nat} {f a : Nat → Int} (h : MapAt w b len f a) (hb : Below w.heap.size w w') : MapAt w' b len f a := by
  have hlt := h.lt
  obtain ⟨es, clock, hb0, F, hs, hD⟩ := h
  exact ⟨es, clock, (hb.block b hlt).trans hb0, F, hs, hD⟩
theorem MapAt.setCell {w : World} {b len : Nat} {f a : Nat → Int} (h : MapAt w b len f a) {q : Addr} (hq : b ≠ q.block) (v : Value) : MapAt (w.setCell q v) b len f a := World.ownsMap.setCell h hq v

set_option maxHeartbeats 1000000 in
theorem spotsByName_c (b off len cap : Nat) (f a : Nat → Int) (w : World) (hl : len ≤ 1048576) (hr : Row2 w b off len f a) (hn : Hid (∀ i, i < len → inB (f i) 1 1000000000 = true)) :
    Calls Tryd.prog 36 #[.slice (some ⟨b, off, none⟩) len cap] w fun e w' => e = .returned (.map (some w.heap.size)) ∧ MapAt w' w.heap.size len f a ∧ Below w.heap.size w w' := by
  have hmm : ∀ (n : Int) (w : World), (Instr.makeMap 70 (some (.int .i64 n))).run Tryd.prog w = .ok (.map (some w.heap.size)) (w.alloc (.map #[] 0)) := fun n w => by
    simp [Instr.makeMap, run_underlying Tryd.underlying70]
    rfl
  go_enter Tryd.func36, Tryd.ntmps36
  go_wp2_with fail
  go_loopw [11] (fun iv wr => ∃ k : Nat, iv = .int .i64 k ∧ k ≤ len ∧ MapAt wr w.heap.size k f a ∧ Below w.heap.size w wr) (fun iv _ => len - (intOf iv).toNat)
  case atStart => exact ⟨0, rfl, by omega, World.ownsMap_made _ _ _ _, (Below.refl _ _).alloc (Nat.le_refl _) _⟩
  case round =>
    obtain ⟨k, rfl, hk, hM, hB⟩ := hrel
    by_cases hlt : k < len
    · have i0 : (0 : Int) ≤ (k : Int) := by omega
      have i1 : (k : Int) < (len : Int) := by omega
      have d0 := cellOn hB (hr k hlt).1
      have d1 := cellOn hB (hr k hlt).2
      have hkey : keyOf Tryd.prog 3 (.int .i64 (f k)) = some (.int .i64 (f k)) := keyOf_int_mk Tryd.underlying3 (wfName (hn.out k hlt))
      go_wp2_with (first
        | (at_mapUpdate; refine wpList_mapUpdate_own _ rfl _ _ _ 70 rfl 3 125 lawInt Tryd.underlying70 spotElem w.heap.size k (spots f a k) rfl (World.ownsMap.alloc hM _) (by unfold maxLen; omega) _ _ _ rfl rfl hkey (spot k (a k)) [] rfl ?_; intro w1 hown1 hgrow1)
        | fail)
      go_roundw
      case rel => exact ⟨k + 1, by go_num, by omega, hown1, (nbAlloc hB _).grown hgrow1 (nbAlloc hB _).size (fun j hj => by cases hj; exact Nat.le_refl _)⟩
      case measure => simp [intOf]; omega
    · have hkl : k = len := by omega
      subst hkl
      go_wp2_with fail
      go_ret
      exact ⟨rfl, hM, hB⟩

end Go.Proofs.YtmhppadblddjoaaDoor

/- The program's MarksOk. -/
namespace Go.Proofs.YtmhppadblddjoaaDoor
open Go.RowKit Go.Maps

def stepN (f g : Nat → Int) (i : Nat) : Bool := inB (f i) 1 1000000000 && inB (g i) 0 100000000 && (i == 0 || decide (g (i - 1) < g i))
theorem stepN_no {f g : Nat → Int} {k n : Nat} (hk : k < n) (h : stepN f g k = false) : marksB f g n = false := by
  refine marksB_no hk ?_
  cases hs : stepB f g k
  · rfl
  · simp only [stepB, Bool.and_eq_true] at hs
    obtain ⟨⟨⟨h1, h2⟩, h3⟩, h4⟩ := hs
    simp only [stepN, h1, h2, h3] at h
    cases h
theorem marksB_iff {f g : Nat → Int} {n : Nat} (hn : n ≤ 100) (h : ∀ i, i < n → stepN f g i = true) : marksB f g n = true ↔ ∀ i, i < n → freshB f i i = true := by
  unfold marksB marksTo
  simp only [hn, decide_true, Bool.and_true, List.all_eq_true]
  constructor
  · intro hs i hi
    have := hs i (by simpa using hi)
    simp only [stepB, Bool.and_eq_true] at this
    exact this.2
  · intro hs i hi
    have hi' : i < n := by simpa using hi
    have h1 := h i hi'
    simp only [stepN, Bool.and_eq_true] at h1
    simp only [stepB, Bool.and_eq_true]
    exact ⟨⟨⟨h1.1.2, h1.2⟩, h1.1.1⟩, hs i hi'⟩
theorem marks_size {f g : Nat → Int} {n : Nat} (hn : n ≤ 100) (h : ∀ i, i < n → stepN f g i = true) : ((Maps.size (spots f g n) : Int) == (n : Int)) = marksB f g n := by
  rw [Bool.eq_iff_iff, marksB_iff hn h, ← (spots_size f g n).2]
  simp only [beq_iff_eq]
  omega
theorem stepN_mk {f g : Nat → Int} {k : Nat} (h1 : inB (f k) 1 1000000000 = true) (h2 : inB (g k) 0 100000000 = true) (h3 : k = 0 ∨ g (k - 1) < g k) : stepN f g k = true := by
  simp only [stepN, h1, h2, Bool.true_and, Bool.or_eq_true, beq_iff_eq, decide_eq_true_eq]
  exact h3
theorem step_snoc {f g : Nat → Int} {k : Nat} (h : ∀ i, i < k → stepN f g i = true) (hk : stepN f g k = true) : ∀ i, i < k + 1 → stepN f g i = true := fun i hi => by
  by_cases hik : i = k
  · rw [hik]; exact hk
  · exact h i (by omega)
theorem step_names {f g : Nat → Int} {n : Nat} (h : ∀ i, i < n → stepN f g i = true) : ∀ i, i < n → inB (f i) 1 1000000000 = true := fun i hi => by
  have := h i hi
  simp only [stepN, Bool.and_eq_true] at this
  exact this.1.1

def imC (w : World) (pn pp p b o : Nat) (x y z : Int) : World → Prop := fun w' => w'.cell? ⟨pn, 0, none⟩ = some (.int .i64 1) ∧ w'.cell? ⟨pn, 1, none⟩ = some (.int .i64 1000000000) ∧ w'.cell? ⟨pp, 0, none⟩ = some (.int .i64 0) ∧ w'.cell? ⟨pp, 1, none⟩ = some (.int .i64 100000000) ∧ w'.cell? ⟨p, 0, none⟩ = some (.int .i64 x) ∧ w'.cell? ⟨p, 1, none⟩ = some (.int .i64 y) ∧ w'.cell? ⟨b, o, none⟩ = some (.int .i64 z) ∧ Below w.heap.size w w'
theorem imC_on {w : World} {pn pp p b o : Nat} {x y z : Int} {w1 w2 : World} (hh : imC w pn pp p b o x y z w1) (hb : Below w1.heap.size w1 w2) : imC w pn pp p b o x y z w2 :=
  ⟨cellOn hb hh.1, cellOn hb hh.2.1, cellOn hb hh.2.2.1, cellOn hb hh.2.2.2.1, cellOn hb hh.2.2.2.2.1, cellOn hb hh.2.2.2.2.2.1, cellOn hb hh.2.2.2.2.2.2.1, nbTrans hh.2.2.2.2.2.2.2 hb⟩

set_option maxHeartbeats 4000000 in
theorem implMarksOk_c (b off len cap : Nat) (f g : Nat → Int) (w : World) (hl : len ≤ 1048576) (hr : Row2 w b off len f g) :
    Calls Tryd.prog 33 #[.slice (some ⟨b, off, none⟩) len cap] w fun e w' => e = .returned (.bool (marksB f g len)) ∧ Below w.heap.size w w' := by
  by_cases hbig : 100 < len
  · have hb2 : (100 : Int) < (len : Int) := by omega
    go_enter Tryd.func33, Tryd.ntmps33
    go_wp2_with fail
    go_ret
    exact ⟨retB (by simp [marksB]; omega), Below.refl _ _⟩
  have hb2 : decide ((100 : Int) < (len : Int)) = false := by simp; omega
  have HB : Hid (len ≤ 100) := by unfold Hid; omega
  clear hbig
  go_enter Tryd.func33, Tryd.ntmps33
  go_wp2_with fail
  refine (upTo_c _ _).mono ?_
  rintro e w1 ⟨rfl, hb1⟩
  go_wp2_with fail
  have n0 : ((w1.alloc (.cells #[.int .i64 1, .int .i64 1000000000] 105)).alloc (.cells #[.int .i64 0, .int .i64 100000000] 105)).cell? ⟨w1.heap.size, 0, none⟩ = some (.int .i64 1) := by go_simp
  have n1 : ((w1.alloc (.cells #[.int .i64 1, .int .i64 1000000000] 105)).alloc (.cells #[.int .i64 0, .int .i64 100000000] 105)).cell? ⟨w1.heap.size, 1, none⟩ = some (.int .i64 1000000000) := by go_simp
  have n2 : ((w1.alloc (.cells #[.int .i64 1, .int .i64 1000000000] 105)).alloc (.cells #[.int .i64 0, .int .i64 100000000] 105)).cell? ⟨w1.heap.size + 1, 0, none⟩ = some (.int .i64 0) := by go_simp
  have n3 : ((w1.alloc (.cells #[.int .i64 1, .int .i64 1000000000] 105)).alloc (.cells #[.int .i64 0, .int .i64 100000000] 105)).cell? ⟨w1.heap.size + 1, 1, none⟩ = some (.int .i64 100000000) := by go_simp
  have hB0 : Below w.heap.size w ((w1.alloc (.cells #[.int .i64 1, .int .i64 1000000000] 105)).alloc (.cells #[.int .i64 0, .int .i64 100000000] 105)) := nbAlloc (nbAlloc hb1 _) _
  generalize (w1.alloc (.cells #[.int .i64 1, .int .i64 1000000000] 105)).alloc (.cells #[.int .i64 0, .int .i64 100000000] 105) = w0 at *
  generalize hpp : w1.heap.size + 1 = pp at *
  generalize w1.heap.size = pn at *
  clear hpp hb1
  have hr0 : Row2 w0 b off len f g := hr.on hB0
  go_loopw [14] (fun iv wr => ∃ k : Nat, iv = .int .i64 k ∧ k ≤ len ∧ (∀ i, i < k → stepN f g i = true) ∧ Below w0.heap.size w0 wr) (fun iv _ => len - (intOf iv).toNat)
  case atStart => exact ⟨0, rfl, by omega, fun i hi => by omega, Below.refl _ _⟩
  case round =>
    obtain ⟨k, rfl, hk, hm, hB⟩ := hrel
    have HM : Hid (∀ i, i < k → stepN f g i = true) := hm
    clear hm
    by_cases hlt : k < len
    · have i0 : (0 : Int) ≤ (k : Int) := by omega
      have i1 : (k : Int) < (len : Int) := by omega
      have d0 := cellOn hB (hr0 k hlt).1
      have d1 := cellOn hB (hr0 k hlt).2
      go_wp2_with fail
      have x0 : (wr.alloc (.cells #[.int .i64 (f k), .int .i64 (g k)] 111)).cell? ⟨wr.heap.size, 0, none⟩ = some (.int .i64 (f k)) := by go_simp
      have x1 : (wr.alloc (.cells #[.int .i64 (f k), .int .i64 (g k)] 111)).cell? ⟨wr.heap.size, 1, none⟩ = some (.int .i64 (g k)) := by go_simp
      have x3 : Below w0.heap.size w0 (wr.alloc (.cells #[.int .i64 (f k), .int .i64 (g k)] 111)) := nbAlloc hB _
      generalize wr.alloc (.cells #[.int .i64 (f k), .int .i64 (g k)] 111) = w3 at *
      generalize wr.heap.size = pm at *
      clear d0 d1 hB
      replace n0 := cellOn x3 n0
      replace n1 := cellOn x3 n1
      replace n2 := cellOn x3 n2
      replace n3 := cellOn x3 n3
      have x2 := cellOn x3 (hr0 k hlt).2
      cases hN1 : inB (f k) 1 1000000000
      · refine region_kept (imC w0 pn pp pm b (off + k * 2 + 1) (f k) (g k) (g k)) (by kernel_rfl) (by kernel_rfl) ⟨n0, n1, n2, n3, x0, x1, x2, x3.drew⟩ ?_
        intro hN
        have k0 : ∀ d : Kept (imC w0 pn pp pm b (off + k * 2 + 1) (f k) (g k) (g k)), d.w.cell? ⟨pn, 0, none⟩ = some (.int .i64 1) := fun d => d.h.1
        have k1 : ∀ d : Kept (imC w0 pn pp pm b (off + k * 2 + 1) (f k) (g k) (g k)), d.w.cell? ⟨pn, 1, none⟩ = some (.int .i64 1000000000) := fun d => d.h.2.1
        have k2 : ∀ d : Kept (imC w0 pn pp pm b (off + k * 2 + 1) (f k) (g k) (g k)), d.w.cell? ⟨pp, 0, none⟩ = some (.int .i64 0) := fun d => d.h.2.2.1
        have k3 : ∀ d : Kept (imC w0 pn pp pm b (off + k * 2 + 1) (f k) (g k) (g k)), d.w.cell? ⟨pp, 1, none⟩ = some (.int .i64 100000000) := fun d => d.h.2.2.2.1
        have k4 : ∀ d : Kept (imC w0 pn pp pm b (off + k * 2 + 1) (f k) (g k) (g k)), d.w.cell? ⟨pm, 0, none⟩ = some (.int .i64 (f k)) := fun d => d.h.2.2.2.2.1
        have k5 : ∀ d : Kept (imC w0 pn pp pm b (off + k * 2 + 1) (f k) (g k) (g k)), d.w.cell? ⟨pm, 1, none⟩ = some (.int .i64 (g k)) := fun d => d.h.2.2.2.2.2.1
        have k6 : ∀ d : Kept (imC w0 pn pp pm b (off + k * 2 + 1) (f k) (g k) (g k)), d.w.cell? ⟨b, (off + k * 2 + 1), none⟩ = some (.int .i64 (g k)) := fun d => d.h.2.2.2.2.2.2.1
        repeat (go_big_quiet_step (first | (go_at_call 54; exact call_kept _ imC_on (has_t _ _ _ _ (by assumption))) | (go_at_call 54; exact call_kept _ imC_on (has_f _ _ _ _ (by assumption)))))
        refine wpQuiet_nil ?_
        rintro w2 ⟨d, hd2⟩
        have hd := d.h
        rw [← hd2] at hd
        clear hd2 k0 k1 k2 k3 k4 k5 k6
        go_wp2_with fail
        go_ret
        exact ⟨retB (stepN_no hlt (by simp [stepN, hN1])).symm, nbTrans hB0 hd.2.2.2.2.2.2.2⟩
      cases hA : inB (g k) 0 100000000
      · refine region_kept (imC w0 pn pp pm b (off + k * 2 + 1) (f k) (g k) (g k)) (by kernel_rfl) (by kernel_rfl) ⟨n0, n1, n2, n3, x0, x1, x2, x3.drew⟩ ?_
        intro hN
        have k0 : ∀ d : Kept (imC w0 pn pp pm b (off + k * 2 + 1) (f k) (g k) (g k)), d.w.cell? ⟨pn, 0, none⟩ = some (.int .i64 1) := fun d => d.h.1
        have k1 : ∀ d : Kept (imC w0 pn pp pm b (off + k * 2 + 1) (f k) (g k) (g k)), d.w.cell? ⟨pn, 1, none⟩ = some (.int .i64 1000000000) := fun d => d.h.2.1
        have k2 : ∀ d : Kept (imC w0 pn pp pm b (off + k * 2 + 1) (f k) (g k) (g k)), d.w.cell? ⟨pp, 0, none⟩ = some (.int .i64 0) := fun d => d.h.2.2.1
        have k3 : ∀ d : Kept (imC w0 pn pp pm b (off + k * 2 + 1) (f k) (g k) (g k)), d.w.cell? ⟨pp, 1, none⟩ = some (.int .i64 100000000) := fun d => d.h.2.2.2.1
        have k4 : ∀ d : Kept (imC w0 pn pp pm b (off + k * 2 + 1) (f k) (g k) (g k)), d.w.cell? ⟨pm, 0, none⟩ = some (.int .i64 (f k)) := fun d => d.h.2.2.2.2.1
        have k5 : ∀ d : Kept (imC w0 pn pp pm b (off + k * 2 + 1) (f k) (g k) (g k)), d.w.cell? ⟨pm, 1, none⟩ = some (.int .i64 (g k)) := fun d => d.h.2.2.2.2.2.1
        have k6 : ∀ d : Kept (imC w0 pn pp pm b (off + k * 2 + 1) (f k) (g k) (g k)), d.w.cell? ⟨b, (off + k * 2 + 1), none⟩ = some (.int .i64 (g k)) := fun d => d.h.2.2.2.2.2.2.1
        repeat (go_big_quiet_step (first | (go_at_call 54; exact call_kept _ imC_on (has_t _ _ _ _ (by assumption))) | (go_at_call 54; exact call_kept _ imC_on (has_f _ _ _ _ (by assumption)))))
        refine wpQuiet_nil ?_
        rintro w2 ⟨d, hd2⟩
        have hd := d.h
        rw [← hd2] at hd
        clear hd2 k0 k1 k2 k3 k4 k5 k6
        go_wp2_with fail
        go_ret
        exact ⟨retB (stepN_no hlt (by simp [stepN, hN1, hA])).symm, nbTrans hB0 hd.2.2.2.2.2.2.2⟩
      by_cases hk0 : k = 0
      · have hkp : decide ((0 : Int) < (k : Int)) = false := by simp; omega
        have hkn : decide (0 < k) = false := by simp; omega
        have HK0 : Hid (k = 0) := hk0
        clear hk0
        refine region_kept (imC w0 pn pp pm b (off + k * 2 + 1) (f k) (g k) (g k)) (by kernel_rfl) (by kernel_rfl) ⟨n0, n1, n2, n3, x0, x1, x2, x3.drew⟩ ?_
        intro hN
        have k0 : ∀ d : Kept (imC w0 pn pp pm b (off + k * 2 + 1) (f k) (g k) (g k)), d.w.cell? ⟨pn, 0, none⟩ = some (.int .i64 1) := fun d => d.h.1
        have k1 : ∀ d : Kept (imC w0 pn pp pm b (off + k * 2 + 1) (f k) (g k) (g k)), d.w.cell? ⟨pn, 1, none⟩ = some (.int .i64 1000000000) := fun d => d.h.2.1
        have k2 : ∀ d : Kept (imC w0 pn pp pm b (off + k * 2 + 1) (f k) (g k) (g k)), d.w.cell? ⟨pp, 0, none⟩ = some (.int .i64 0) := fun d => d.h.2.2.1
        have k3 : ∀ d : Kept (imC w0 pn pp pm b (off + k * 2 + 1) (f k) (g k) (g k)), d.w.cell? ⟨pp, 1, none⟩ = some (.int .i64 100000000) := fun d => d.h.2.2.2.1
        have k4 : ∀ d : Kept (imC w0 pn pp pm b (off + k * 2 + 1) (f k) (g k) (g k)), d.w.cell? ⟨pm, 0, none⟩ = some (.int .i64 (f k)) := fun d => d.h.2.2.2.2.1
        have k5 : ∀ d : Kept (imC w0 pn pp pm b (off + k * 2 + 1) (f k) (g k) (g k)), d.w.cell? ⟨pm, 1, none⟩ = some (.int .i64 (g k)) := fun d => d.h.2.2.2.2.2.1
        have k6 : ∀ d : Kept (imC w0 pn pp pm b (off + k * 2 + 1) (f k) (g k) (g k)), d.w.cell? ⟨b, (off + k * 2 + 1), none⟩ = some (.int .i64 (g k)) := fun d => d.h.2.2.2.2.2.2.1
        repeat (go_big_quiet_step (first | (go_at_call 54; exact call_kept _ imC_on (has_t _ _ _ _ (by assumption))) | (go_at_call 54; exact call_kept _ imC_on (has_f _ _ _ _ (by assumption)))))
        refine wpQuiet_nil ?_
        rintro w2 ⟨d, hd2⟩
        have hd := d.h
        rw [← hd2] at hd
        clear hd2 k0 k1 k2 k3 k4 k5 k6
        go_wp2_with fail
        go_roundw
        case rel => exact ⟨k + 1, by go_num, by omega, step_snoc HM.out (stepN_mk hN1 hA (.inl HK0.out)), hd.2.2.2.2.2.2.2⟩
        case measure => simp [intOf]; omega
      · have HK0 : Hid (¬ k = 0) := hk0
        have x4 : w3.cell? ⟨b, off + (k - 1) * 2 + 1, none⟩ = some (.int .i64 (g (k - 1))) := cellOn x3 (hr0 (k - 1) (by omega)).2
        clear x2
        have x2 := x4
        clear x4
        have hkp : (0 : Int) < (k : Int) := by omega
        have hkn : 0 < k := by omega
        have wr1 : IntKind.i64.wrap ((k : Int) - 1) = (k : Int) - 1 := wrapS (by omega) (by omega)
        have q0 : (0 : Int) ≤ (k : Int) - 1 := by omega
        have q1 : (k : Int) - 1 < (len : Int) := by omega
        clear hk0
        by_cases hgt : g k ≤ g (k - 1)
        · refine region_kept (imC w0 pn pp pm b (off + (k - 1) * 2 + 1) (f k) (g k) (g (k - 1))) (by kernel_rfl) (by kernel_rfl) ⟨n0, n1, n2, n3, x0, x1, x2, x3.drew⟩ ?_
          intro hN
          have k0 : ∀ d : Kept (imC w0 pn pp pm b (off + (k - 1) * 2 + 1) (f k) (g k) (g (k - 1))), d.w.cell? ⟨pn, 0, none⟩ = some (.int .i64 1) := fun d => d.h.1
          have k1 : ∀ d : Kept (imC w0 pn pp pm b (off + (k - 1) * 2 + 1) (f k) (g k) (g (k - 1))), d.w.cell? ⟨pn, 1, none⟩ = some (.int .i64 1000000000) := fun d => d.h.2.1
          have k2 : ∀ d : Kept (imC w0 pn pp pm b (off + (k - 1) * 2 + 1) (f k) (g k) (g (k - 1))), d.w.cell? ⟨pp, 0, none⟩ = some (.int .i64 0) := fun d => d.h.2.2.1
          have k3 : ∀ d : Kept (imC w0 pn pp pm b (off + (k - 1) * 2 + 1) (f k) (g k) (g (k - 1))), d.w.cell? ⟨pp, 1, none⟩ = some (.int .i64 100000000) := fun d => d.h.2.2.2.1
          have k4 : ∀ d : Kept (imC w0 pn pp pm b (off + (k - 1) * 2 + 1) (f k) (g k) (g (k - 1))), d.w.cell? ⟨pm, 0, none⟩ = some (.int .i64 (f k)) := fun d => d.h.2.2.2.2.1
          have k5 : ∀ d : Kept (imC w0 pn pp pm b (off + (k - 1) * 2 + 1) (f k) (g k) (g (k - 1))), d.w.cell? ⟨pm, 1, none⟩ = some (.int .i64 (g k)) := fun d => d.h.2.2.2.2.2.1
          have k6 : ∀ d : Kept (imC w0 pn pp pm b (off + (k - 1) * 2 + 1) (f k) (g k) (g (k - 1))), d.w.cell? ⟨b, (off + (k - 1) * 2 + 1), none⟩ = some (.int .i64 (g (k - 1))) := fun d => d.h.2.2.2.2.2.2.1
          repeat (go_big_quiet_step (first | (go_at_call 54; exact call_kept _ imC_on (has_t _ _ _ _ (by assumption))) | (go_at_call 54; exact call_kept _ imC_on (has_f _ _ _ _ (by assumption)))))
          refine wpQuiet_nil ?_
          rintro w2 ⟨d, hd2⟩
          have hd := d.h
          rw [← hd2] at hd
          clear hd2 k0 k1 k2 k3 k4 k5 k6
          go_wp2_with fail
          go_ret
          exact ⟨retB (stepN_no hlt (by simp [stepN, HK0.out]; intro _ h3; omega)).symm, nbTrans hB0 hd.2.2.2.2.2.2.2⟩
        · have hgt2 : decide (g k ≤ g (k - 1)) = false := by simpa using hgt
          refine region_kept (imC w0 pn pp pm b (off + (k - 1) * 2 + 1) (f k) (g k) (g (k - 1))) (by kernel_rfl) (by kernel_rfl) ⟨n0, n1, n2, n3, x0, x1, x2, x3.drew⟩ ?_
          intro hN
          have k0 : ∀ d : Kept (imC w0 pn pp pm b (off + (k - 1) * 2 + 1) (f k) (g k) (g (k - 1))), d.w.cell? ⟨pn, 0, none⟩ = some (.int .i64 1) := fun d => d.h.1
          have k1 : ∀ d : Kept (imC w0 pn pp pm b (off + (k - 1) * 2 + 1) (f k) (g k) (g (k - 1))), d.w.cell? ⟨pn, 1, none⟩ = some (.int .i64 1000000000) := fun d => d.h.2.1
          have k2 : ∀ d : Kept (imC w0 pn pp pm b (off + (k - 1) * 2 + 1) (f k) (g k) (g (k - 1))), d.w.cell? ⟨pp, 0, none⟩ = some (.int .i64 0) := fun d => d.h.2.2.1
          have k3 : ∀ d : Kept (imC w0 pn pp pm b (off + (k - 1) * 2 + 1) (f k) (g k) (g (k - 1))), d.w.cell? ⟨pp, 1, none⟩ = some (.int .i64 100000000) := fun d => d.h.2.2.2.1
          have k4 : ∀ d : Kept (imC w0 pn pp pm b (off + (k - 1) * 2 + 1) (f k) (g k) (g (k - 1))), d.w.cell? ⟨pm, 0, none⟩ = some (.int .i64 (f k)) := fun d => d.h.2.2.2.2.1
          have k5 : ∀ d : Kept (imC w0 pn pp pm b (off + (k - 1) * 2 + 1) (f k) (g k) (g (k - 1))), d.w.cell? ⟨pm, 1, none⟩ = some (.int .i64 (g k)) := fun d => d.h.2.2.2.2.2.1
          have k6 : ∀ d : Kept (imC w0 pn pp pm b (off + (k - 1) * 2 + 1) (f k) (g k) (g (k - 1))), d.w.cell? ⟨b, (off + (k - 1) * 2 + 1), none⟩ = some (.int .i64 (g (k - 1))) := fun d => d.h.2.2.2.2.2.2.1
          repeat (go_big_quiet_step (first | (go_at_call 54; exact call_kept _ imC_on (has_t _ _ _ _ (by assumption))) | (go_at_call 54; exact call_kept _ imC_on (has_f _ _ _ _ (by assumption)))))
          refine wpQuiet_nil ?_
          rintro w2 ⟨d, hd2⟩
          have hd := d.h
          rw [← hd2] at hd
          clear hd2 k0 k1 k2 k3 k4 k5 k6
          go_wp2_with fail
          go_roundw
          case rel => exact ⟨k + 1, by go_num, by omega, step_snoc HM.out (stepN_mk hN1 hA (.inr (by omega))), hd.2.2.2.2.2.2.2⟩
          case measure => simp [intOf]; omega
    · have hkl : k = len := by omega
      subst hkl
      have hrw := hr0.on hB
      have hBw := nbTrans hB0 hB
      clear n0 n1 n2 n3 hr0
      go_wp2_with fail
      refine (spotsByName_c b off k cap f g wr hl hrw (step_names HM.out)).mono ?_
      rintro e w5 ⟨rfl, hM5, hb5⟩
      go_wp2_with (first | (at_len; refine wpList_len_own _ rfl _ 70 rfl 3 125 Tryd.underlying70 spotElem wr.heap.size k (spots f g k) rfl hM5 ?_) | fail)
      go_ret
      exact ⟨retB (marks_size HB.out HM.out), nbTrans hBw hb5⟩

end Go.Proofs.YtmhppadblddjoaaDoor

