/- The program's map of marks by their names. -/
import Derived.Test.YtmhppadblddjoaaLast
import Derived.Maps.OwnSet
import Derived.Maps.OwnOps
namespace Go.Proofs.Ytmhppadblddjoaa
open Go.RowKit Go.Maps

/-- How an element reads: a struct of two ints. -/
def spotElem : Value → Option (DataW Unit × List MemPlace)
  | .agg cs => match cs.toList with
    | [.int .i64 x, .int .i64 y] => some (.agg [.lit (.int .i64 x), .lit (.int .i64 y)], [])
    | _ => none
  | _ => none
theorem spotElem_inv {v : Value} {z : DataW Unit × List MemPlace} (h : spotElem v = some z) : ∃ x y : Int, v = .agg #[.int .i64 x, .int .i64 y] ∧ z = (.agg [.lit (.int .i64 x), .lit (.int .i64 y)], []) := by
  unfold spotElem at h
  split at h
  · rename_i cs
    split at h
    · rename_i x y hc
      simp at h
      have : cs = #[.int .i64 x, .int .i64 y] := by cases cs; simp at hc; subst hc; rfl
      subst this
      exact ⟨x, y, rfl, h.symm⟩
    · cases h
  · cases h
theorem keyLit (x : Int) : WideAt.IsKeyLit (.int .i64 x) := trivial

theorem lawInt : Keyed Try.prog 3 := int_keyed Try.underlying3
theorem zeroSpot (w : World) : (zeroValue 99).run Try.prog w = .ok (.agg #[.int .i64 0, .int .i64 0]) w := by kernel_rfl
theorem wfName {x : Int} (h : inB x 1 1000000000 = true) : (Lit.int .i64 x).wf = true := by
  simp only [inB, Bool.and_eq_true, decide_eq_true_eq] at h
  exact WalkArith.wf_i64 (by omega)

def spot (k : Nat) (y : Int) : DataW Unit := .agg [.lit (.int .i64 k), .lit (.int .i64 y)]
/-- What the map reads as behind k marks. -/
def spots (f a : Nat → Int) : Nat → DataW Unit
  | 0 => .map []
  | k + 1 => (spots f a k).put (.int .i64 (f k)) (spot k (a k))

theorem spots_map (f a : Nat → Int) : ∀ k, IsMap (spots f a k)
  | 0 => isMap_empty
  | k + 1 => (spots_map f a k).put _ _
theorem spots_tidy (f a : Nat → Int) : ∀ k, Tidy (spots f a k)
  | 0 => tidy_empty
  | k + 1 => (spots_tidy f a k).put (keyLit _) _

theorem litNe {x y : Int} (h : x ≠ y) : (Lit.int .i64 x) ≠ .int .i64 y := fun e => h (by cases e; rfl)

theorem spots_has (f a : Nat → Int) (x : Int) : ∀ k, has (spots f a k) (.int .i64 x) = decide (0 ≤ lastIx f x k)
  | 0 => by simp [spots, has, lastIx]
  | k + 1 => by
    cases hk : (f k == x)
    · rw [lastIx_no hk, ← spots_has f a x k]
      exact has_put_other (litNe (by simpa using fun e => (by simpa using hk : ¬ f k = x) e.symm)) _
    · rw [lastIx_yes hk]
      have : f k = x := by simpa using hk
      subst this
      rw [spots, has_put_same (spots_map f a k) (keyLit _)]
      simp

theorem spots_at (f a : Nat → Int) (x : Int) (z : DataW Unit) : ∀ k i, lastIx f x k = (i : Nat) → (spots f a k).atKey (.int .i64 x) z = spot i (a i)
  | 0, i, h => by simp only [lastIx] at h; omega
  | k + 1, i, h => by
    cases hk : (f k == x)
    · rw [lastIx_no hk] at h
      rw [spots, atKey_put_other (litNe (by simpa using fun e => (by simpa using hk : ¬ f k = x) e.symm))]
      exact spots_at f a x z k i h
    · rw [lastIx_yes hk] at h
      have hi : k = i := by omega
      have : f k = x := by simpa using hk
      subst this hi
      rw [spots, atKey_put_same (spots_map f a k) (keyLit _)]

theorem spots_fresh (f a : Nat → Int) (k : Nat) : has (spots f a k) (.int .i64 (f k)) = !freshB f k k := by
  rw [spots_has]
  rcases lastIx_cases f (f k) k with ⟨h1, h2⟩ | ⟨i, h1, h2, h3⟩
  · have : freshB f k k = true := by
      unfold freshB
      rw [List.all_eq_true]
      intro j hj
      simpa using h2 j (by simpa using hj)
    rw [h1, this]; rfl
  · have : freshB f k k = false := fresh_no h2 (by simpa using h3)
    rw [h1, this]; simp

theorem spots_size (f a : Nat → Int) : ∀ k, Maps.size (spots f a k) ≤ k ∧ (Maps.size (spots f a k) = k ↔ ∀ i, i < k → freshB f i i = true)
  | 0 => ⟨by simp [spots, Maps.size], by simp [spots, Maps.size]⟩
  | k + 1 => by
    obtain ⟨h1, h2⟩ := spots_size f a k
    have hs := size_put (k := .int .i64 (f k)) (spots_tidy f a k) (spot k (a k))
    rw [spots_fresh] at hs
    rw [spots]
    cases hf : freshB f k k
    · simp [hf] at hs
      rw [hs]
      refine ⟨by omega, ⟨fun h => by omega, fun h => ?_⟩⟩
      have := h k (by omega)
      rw [hf] at this; cases this
    · simp [hf] at hs
      rw [hs]
      refine ⟨by omega, ⟨fun h i hi => ?_, fun h => ?_⟩⟩
      · by_cases hik : i = k
        · subst hik; exact hf
        · exact h2.1 (by omega) i (by omega)
      · have := h2.2 (fun i hi => h i (by omega))
        omega

/-- Block b is the map of these marks. -/
def MapAt (w : World) (b len : Nat) (f a : Nat → Int) : Prop := w.ownsMap Try.prog 3 spotElem b len (spots f a len)
theorem MapAt.on {w w' : World} {b len : Nat} {f a : Nat → Int} (h : MapAt w b len f a) (hb : Below w.heap.size w w') : MapAt w' b len f a := by
  have hlt := h.lt
  obtain ⟨es, clock, hb0, F, hs, hD⟩ := h
  exact ⟨es, clock, (hb.block b hlt).trans hb0, F, hs, hD⟩
theorem MapAt.setCell {w : World} {b len : Nat} {f a : Nat → Int} (h : MapAt w b len f a) {q : Addr} (hq : b ≠ q.block) (v : Value) : MapAt (w.setCell q v) b len f a := World.ownsMap.setCell h hq v

set_option maxHeartbeats 1000000 in
theorem spotsByName_c (b off len cap : Nat) (f a : Nat → Int) (w : World) (hl : len ≤ 1048576) (hr : Row2 w b off len f a) (hn : Hid (∀ i, i < len → inB (f i) 1 1000000000 = true)) :
    Calls Try.prog 38 #[.slice (some ⟨b, off, none⟩) len cap] w fun e w' => e = .returned (.map (some w.heap.size)) ∧ MapAt w' w.heap.size len f a ∧ Below w.heap.size w w' := by
  have hmm : ∀ (n : Int) (w : World), (Instr.makeMap 63 (some (.int .i64 n))).run Try.prog w = .ok (.map (some w.heap.size)) (w.alloc (.map #[] 0)) := fun n w => by
    simp [Instr.makeMap, run_underlying Try.underlying63]
    rfl
  go_enter Try.func38, Try.ntmps38
  go_wp2_with fail
  go_loopw [11] (fun iv wr => ∃ k : Nat, iv = .int .i64 k ∧ k ≤ len ∧ MapAt wr w.heap.size k f a ∧ Below w.heap.size w wr) (fun iv _ => len - (intOf iv).toNat)
  case atStart => exact ⟨0, rfl, by omega, World.ownsMap_made _ _ _ _, (Below.refl _ _).alloc (Nat.le_refl _) _⟩
  case round =>
    obtain ⟨k, rfl, hk, hM, hB⟩ := hrel
    by_cases hlt : k < len
    · have i0 : (0 : Int) ≤ (k : Int) := by omega
      have i1 : (k : Int) < (len : Int) := by omega
      have d0 := cellOn hB (hr k hlt).1
      have d1 := cellOn hB (hr k hlt).2
      have hkey : keyOf Try.prog 3 (.int .i64 (f k)) = some (.int .i64 (f k)) := keyOf_int_mk Try.underlying3 (wfName (hn.out k hlt))
      go_wp2_with (first
        | (at_mapUpdate; refine wpList_mapUpdate_own _ rfl _ _ _ 63 rfl 3 99 lawInt Try.underlying63 spotElem w.heap.size k (spots f a k) rfl (World.ownsMap.alloc hM _) (by unfold maxLen; omega) _ _ _ rfl rfl hkey (spot k (a k)) [] rfl ?_; intro w1 hown1 hgrow1)
        | fail)
      go_roundw
      case rel => exact ⟨k + 1, by go_num, by omega, hown1, (nbAlloc hB _).grown hgrow1 (nbAlloc hB _).size (fun j hj => by cases hj; exact Nat.le_refl _)⟩
      case measure => simp [intOf]; omega
    · have hkl : k = len := by omega
      subst hkl
      go_wp2_with fail
      go_ret
      exact ⟨rfl, hM, hB⟩

end Go.Proofs.Ytmhppadblddjoaa
