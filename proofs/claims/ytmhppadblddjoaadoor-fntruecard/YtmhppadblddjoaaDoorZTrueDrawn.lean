import Derived.Test.YtmhppadblddjoaaDoorRows
import Derived.WalkKit
import Derived.Deep.QuietTactic
import Derived.BigQuiet
import Derived.WalkSpells
import Derived.WalkLawsBesides
import Derived.Deep.RegionHeld3
import Derived.Lib.SmallJoins
/- Regions that draw their order, whose last operation is a store: what comes ahead of it reads or calls and keeps a class of worlds. No Go program in it. -/
namespace Go.Proofs.YtmhppadblddjoaaDoor
open Go.RowKit

/-- The idle operation in another one's place: it waits for the same ones. -/
def idle (o : Oper) : Oper := { o with dst := none, op := .move (.const undef), guard := none }

section
variable {P : Program} {Q : Exit → Act → World → Prop} {ops ops' : Array Oper} {C : World → Prop} {aF : Act}

theorem ready_eq (hsz : ops'.size = ops.size) (haf : ∀ j : Nat, (ops'[j]?).map (·.after) = (ops[j]?).map (·.after)) (listed : Array Bool) :
    Region.ready .any ops' listed = Region.ready .any ops listed := by
  unfold Region.ready
  rw [hsz]
  refine List.filter_congr fun i _ => ?_
  have h := haf i
  cases h1 : ops'[i]? <;> cases h2 : ops[i]? <;> simp_all

theorem yielded_eq {t : Array Value} {j : Nat} (h : ops'[j]? = ops[j]?) : yielded ops' t j = yielded ops t j := by unfold yielded; rw [h]

theorem wanted_eq {o : Oper} {t : Array Value} (h : ∀ g b, o.guard = some (g, b) → ops'[g]? = ops[g]?) : Region.wanted o (yielded ops' t) = Region.wanted o (yielded ops t) := by
  unfold Region.wanted
  cases hg : o.guard with
  | none => rfl
  | some x => obtain ⟨g, b⟩ := x; simp only [yielded_eq (h g b hg)]

/-- One operation ahead of the store, met in a frame that differs in slots it does not look at. -/
theorem step_quiet {i : Nat} {o : Oper} {v : Value} {a a2 : Act} {w : World} {K : Act → World → Prop} (hi : ops[i]? = some o)
    (hg : ∀ g b, o.guard = some (g, b) → ops'[g]? = ops[g]?) (hex : execOp a2.eval o = execOp a.eval o) (hwt : Region.wanted o (yielded ops a2.tmps) = Region.wanted o (yielded ops a.tmps))
    (hy : YieldsIn P ops' C o v a) (hw : C w) (hK : ∀ w', C w' → K (a2.put o.dst v) w') : wpOp P ops Q i K a2 w := by
  unfold wpOp
  simp only [hi, hwt]
  rcases hy with ⟨h1, h2⟩ | ⟨h1, rfl⟩
  · rw [wanted_eq hg] at h1
    rw [if_pos h1]
    refine .inl (Oper.wp_of_quiet (C := C) (K := fun a' => a' = a2.put o.dst v) hw (fun a' w' h3 h4 => by subst h4; exact hK w' h3) ⟨v, fun w' h3 => ?_, rfl⟩)
    have := h2 w' h3
    unfold Oper.quietAt at *
    rw [hex]; exact this
  · rw [wanted_eq hg] at h1
    rw [if_neg (by rw [h1]; exact Bool.false_ne_true)]
    exact hK w hw

theorem getD_true_of_set {listed : Array Bool} {i : Nat} : (listed.setIfInBounds i true).getD i true = true := by
  rcases Nat.lt_or_ge i listed.size with h | h
  · simp [h]
  · simp [h]

theorem getD_ff {listed : Array Bool} {i : Nat} (h : listed.getD i true = false) : listed.getD i false = false := by
  rcases Nat.lt_or_ge i listed.size with h' | h'
  · simp [h'] at h ⊢; exact h
  · simp [h'] at h

theorem getD_tt {listed : Array Bool} {i : Nat} (h : listed.getD i false = true) : listed.getD i true = true := by
  rcases Nat.lt_or_ge i listed.size with h' | h'
  · simp [h'] at h ⊢; exact h
  · simp [h']

/-- Where one is left, one may come up: each waits for earlier ones alone. -/
theorem ready_ne (back : ∀ (j : Nat) (o : Oper) (e : Edge), ops[j]? = some o → e ∈ o.after → e.on < j) {listed : Array Bool} :
    ∀ (n j : Nat), j ≤ n → j < ops.size → listed.size = ops.size → listed.getD j true = false → Region.ready .any ops listed ≠ []
  | n, j, hn, hj, hsz, hl, h0 => by
    have hm : j ∉ Region.ready .any ops listed := by rw [h0]; simp
    rw [mem_ready] at hm
    have hoj : ops[j]? = some ops[j] := by simp [hj]
    have : ∃ e ∈ ops[j].after, listed.getD e.on false ≠ true := by
      refine Classical.byContradiction fun hc => hm ⟨hl, _, hoj, fun e he _ => Classical.byContradiction fun h1 => hc ⟨e, he, h1⟩⟩
    obtain ⟨e, he, h1⟩ := this
    have hlt := back j _ e hoj he
    match n with
    | 0 => omega
    | n + 1 =>
      refine ready_ne back n e.on (by omega) (by omega) hsz ?_ h0
      have hb : e.on < listed.size := by omega
      simp [hb] at h1 ⊢
      exact h1

/-- What the kernel looks at: the store is the last and waits for all; each waits for earlier ones alone; no other one's guard is the store's. -/
structure LastOk (ops ops' : Array Oper) (iS : Nat) (oS : Oper) : Prop where
  size : ops'.size = ops.size
  same : ∀ j, j ≠ iS → ops'[j]? = ops[j]?
  atS : ops[iS]? = some oS
  atS' : ops'[iS]? = some (idle oS)
  guards : ∀ (j : Nat) (o : Oper) g b, j ≠ iS → ops[j]? = some o → o.guard = some (g, b) → g ≠ iS
  last : ∀ j, j < ops.size → j ≠ iS → ∃ e ∈ oS.after, Region.binds .any e = true ∧ e.on = j
  back : ∀ (j : Nat) (o : Oper) (e : Edge), ops[j]? = some o → e ∈ o.after → e.on < j

theorem LastOk.after {iS : Nat} {oS : Oper} (k : LastOk ops ops' iS oS) (j : Nat) : (ops'[j]?).map (·.after) = (ops[j]?).map (·.after) := by
  by_cases h : j = iS
  · subst h; rw [k.atS, k.atS']; rfl
  · rw [k.same j h]

theorem LastOk.all {iS : Nat} {oS : Oper} (k : LastOk ops ops' iS oS) {listed : Array Bool} (hr : iS ∈ Region.ready .any ops listed) :
    Region.ready .any ops (listed.setIfInBounds iS true) = [] := by
  obtain ⟨_, o, ho, hall⟩ := mem_ready.1 hr
  rw [k.atS] at ho
  cases ho
  refine List.eq_nil_iff_forall_not_mem.2 fun j hj => ?_
  obtain ⟨h1, oj, hoj, _⟩ := mem_ready.1 hj
  by_cases hji : j = iS
  · subst hji; rw [getD_true_of_set] at h1; cases h1
  · obtain ⟨e, he, hb, rfl⟩ := k.last j (Array.getElem?_eq_some_iff.1 hoj).1 hji
    have := getD_tt (hall e he hb)
    rw [getD_set_ne true (Ne.symm hji), this] at h1
    cases h1

theorem last_any {iS : Nat} {oS : Oper} (k : LastOk ops ops' iS oS)
    (hend : ∀ w', C w' → wpOp P ops Q iS (fun a'' w'' => Q .normal a'' w'') aF w') :
    ∀ (fuel : Nat) (listed : Array Bool) (a : Act) (w : World), wpAnyQ P .any ops' C (fun a' => a' = aF) fuel listed a → listed.size = ops.size → listed.getD iS true = false → C w →
      wpAny P .any ops Q fuel listed a w := by
  have hre := ready_eq k.size k.after
  have hiS : iS < ops.size := (Array.getElem?_eq_some_iff.1 k.atS).1
  intro fuel
  induction fuel with
  | zero =>
    intro listed a w h hsz hl hw
    exact absurd (hre listed ▸ h.1) (ready_ne k.back iS iS (Nat.le_refl _) hiS hsz hl)
  | succ fuel ih =>
    intro listed a w h hsz hl hw
    refine ⟨fun h0 => absurd h0 (ready_ne k.back iS iS (Nat.le_refl _) hiS hsz hl), fun i hi => ?_⟩
    have hq := h.2 i (hre listed ▸ hi)
    by_cases his : i = iS
    · subst his
      obtain ⟨v, _, hK⟩ := yieldsIn_of_qOp k.atS' hq
      have hr0 := k.all hi
      have ha : a = aF := by
        have hK' : wpAnyQ P .any ops' C (fun a' => a' = aF) fuel (listed.setIfInBounds i true) a := hK
        cases fuel with
        | zero => exact hK'.2
        | succ _ => exact hK'.1 ((hre _).trans hr0)
      subst ha
      exact wpOp_mono (fun a'' w'' h2 => wpAny_done hr0 h2 fuel) (hend w hw)
    · obtain ⟨_, o, ho, _⟩ := mem_ready.1 hi
      have ho' : ops'[i]? = some o := by rw [k.same i his]; exact ho
      obtain ⟨v, hy, hK⟩ := yieldsIn_of_qOp ho' hq
      refine step_quiet (ops' := ops') (C := C) ho (fun g b hgb => k.same g (k.guards i o g b his ho hgb)) rfl rfl hy hw (fun w' hw' => ?_)
      exact ih _ _ w' hK (by simpa using hsz) (by rw [getD_set_ne true his]; exact hl) hw'

/-- A world with what is kept of it. -/
structure Kept (C0 : World → Prop) where
  w : World
  h : C0 w

/-- A region that draws its order, whose own operations read alone and whose calls keep C0: one walk in the text's order. -/
theorem region_kept {id : Nat} {a : Act} {w : World} {l : List Oper} (C0 : World → Prop) (hm : P.follows .mixedOrders = true) (hB : Region.lexB .any l.toArray = true) (h0 : C0 w.drew)
    (h : Nonempty (Kept C0) → wpQuiet P l.toArray (fun w' => ∃ d : Kept C0, w' = d.w) (fun a' => ∀ w', (∃ d : Kept C0, w' = d.w) → Q .normal a' w') l a) : (Code.region id l.toArray true).wp P Q a w :=
  wp_region_quiet (C := fun w' => ∃ d : Kept C0, w' = d.w) hm hB ⟨⟨_, h0⟩, rfl⟩ (by simpa using h ⟨⟨_, h0⟩⟩)

def lastB (l : List Oper) (iS : Nat) (oS : Oper) : Bool :=
  (l.zipIdx.all fun x => x.2 == iS || match x.1.guard with | some (g, _) => g != iS | none => true) &&
  ((List.range l.length).all fun j => j == iS || oS.after.any fun e => Region.binds .any e && e.on == j) &&
  (l.zipIdx.all fun x => x.1.after.all fun e => decide (e.on < x.2)) && oS.guard.isNone

theorem lastOk_of {l : List Oper} {iS : Nat} {oS : Oper} (hS : l[iS]? = some oS) (h : lastB l iS oS = true) : LastOk l.toArray (l.set iS (idle oS)).toArray iS oS := by
  have hlt : iS < l.length := (List.getElem?_eq_some_iff.1 hS).1
  simp only [lastB, Bool.and_eq_true, List.all_eq_true] at h
  obtain ⟨⟨⟨h1, h2⟩, h3⟩, -⟩ := h
  have hz : ∀ (j : Nat) (o : Oper), l[j]? = some o → (o, j) ∈ l.zipIdx := fun j o ho => by
    rw [List.mem_zipIdx_iff_getElem?]; simpa using ho
  refine ⟨by simp, fun j hj => by simp [List.getElem?_set_ne (Ne.symm hj)], by simpa using hS, by simp [hlt], fun j o g b hj ho hg => ?_, fun j hj hne => ?_, fun j o e ho he => ?_⟩
  · have := h1 _ (hz j o (by simpa using ho))
    simp only [hg, Bool.or_eq_true, beq_iff_eq, bne_iff_ne] at this
    exact this.resolve_left hj
  · have := h2 j (by simpa using hj)
    simp only [Bool.or_eq_true, beq_iff_eq, hne, false_or] at this
    obtain ⟨e, he, hb⟩ := Array.any_eq_true'.1 this
    simp only [Bool.and_eq_true, beq_iff_eq] at hb
    exact ⟨e, he, hb.1, hb.2⟩
  · have := h3 _ (hz j o (by simpa using ho))
    have h4 := Array.all_eq_true_iff_forall_mem.1 this e he
    simpa using h4

theorem wpAnyQ_of_lex {l : List Oper} {a : Act} {R : Act → Prop} (hB : Region.lexB .any l.toArray = true) (h : wpQuiet P l.toArray C R l a) : wpAnyQ P .any l.toArray C R l.length (Array.replicate l.length false) a := by
  simp only [Region.lexB, Bool.and_eq_true] at hB
  exact wpAnyQ_lex (C := C) (md := .any) hB.1 l 0 (Array.replicate l.length false) a (by simp) (by simpa using hB.2) h

/-- **A region that draws its order and ends in one store**: all ahead of it in one walk, then the store. -/
theorem region_last {id : Nat} {a : Act} {w : World} {l : List Oper} (C0 : World → Prop) (iS : Nat) {oS : Oper} (hS : l[iS]? = some oS) (hm : P.follows .mixedOrders = true) (hchk : lastB l iS oS = true)
    (hB : Region.lexB .any (l.set iS (idle oS)).toArray = true) (h0 : C0 w.drew)
    (hx : ∃ aF, (Nonempty (Kept C0) → wpQuiet P (l.set iS (idle oS)).toArray (fun w' => ∃ d : Kept C0, w' = d.w) (fun a' => a' = aF) (l.set iS (idle oS)) a) ∧
      (∀ w', C0 w' → oS.wp P aF w' (fun a'' w'' => Q .normal a'' w'') Q)) : (Code.region id l.toArray true).wp P Q a w := by
  obtain ⟨aF, hw, he⟩ := hx
  have hlt : iS < l.length := (List.getElem?_eq_some_iff.1 hS).1
  have hg : oS.guard = none := by simp only [lastB, Bool.and_eq_true] at hchk; simpa using hchk.2
  refine wp_region_any hm (last_any (aF := aF) (C := fun w' => ∃ d : Kept C0, w' = d.w) (lastOk_of hS hchk) ?_ _ _ a _ ?_ (by simp) (by simp [hlt]) ⟨⟨_, h0⟩, rfl⟩)
  · rintro w' ⟨d, rfl⟩
    unfold wpOp
    have : l.toArray[iS]? = some oS := by simpa using hS
    simp only [this, Region.wanted, hg, if_true]
    exact .inl (he d.w d.h)
  · have := wpAnyQ_of_lex hB (hw ⟨⟨_, h0⟩⟩)
    simpa using this

/-! ### A new block beside it: 'x := f(..)' of a struct: the block may be made at any time ahead of the store -/

structure NewOk (ops ops' : Array Oper) (iA iS : Nat) (tA : Tmp) (oA oS : Oper) : Prop where
  size : ops'.size = ops.size
  ne : iA ≠ iS
  same : ∀ j, j ≠ iA → j ≠ iS → ops'[j]? = ops[j]?
  atA : ops[iA]? = some oA
  atS : ops[iS]? = some oS
  atA' : ops'[iA]? = some (idle oA)
  atS' : ops'[iS]? = some (idle oS)
  dstA : oA.dst = some tA
  guardA : oA.guard = none
  afterA : oA.after = #[]
  others : ∀ (j : Nat) (o : Oper), j ≠ iA → j ≠ iS → ops[j]? = some o → tA ∉ o.looksAt ops ∧ o.dst ≠ some tA ∧ (∀ g b, o.guard = some (g, b) → g ≠ iA ∧ g ≠ iS) ∧ ∀ cs b, o.op ≠ .select cs b
  dist : ∀ (j k : Nat) (o o' : Oper) d, j ≠ k → ops'[j]? = some o → ops'[k]? = some o' → o.dst = some d → o'.dst ≠ some d
  last : ∀ j, j < ops.size → j ≠ iS → ∃ e ∈ oS.after, Region.binds .any e = true ∧ e.on = j
  back : ∀ (j : Nat) (o : Oper) (e : Edge), ops[j]? = some o → e ∈ o.after → e.on < j

variable {iA iS : Nat} {tA : Tmp} {oA oS : Oper}

theorem NewOk.after (k : NewOk ops ops' iA iS tA oA oS) (j : Nat) : (ops'[j]?).map (·.after) = (ops[j]?).map (·.after) := by
  by_cases h : j = iS
  · subst h; rw [k.atS, k.atS']; rfl
  · by_cases h2 : j = iA
    · subst h2; rw [k.atA, k.atA']; rfl
    · rw [k.same j h2 h]

theorem NewOk.all (k : NewOk ops ops' iA iS tA oA oS) {listed : Array Bool} (hr : iS ∈ Region.ready .any ops listed) :
    Region.ready .any ops (listed.setIfInBounds iS true) = [] := by
  obtain ⟨_, o, ho, hall⟩ := mem_ready.1 hr
  rw [k.atS] at ho
  cases ho
  refine List.eq_nil_iff_forall_not_mem.2 fun j hj => ?_
  obtain ⟨h1, oj, hoj, _⟩ := mem_ready.1 hj
  by_cases hji : j = iS
  · subst hji; rw [getD_true_of_set] at h1; cases h1
  · obtain ⟨e, he, hb, rfl⟩ := k.last j (Array.getElem?_eq_some_iff.1 hoj).1 hji
    have := getD_tt (hall e he hb)
    rw [getD_set_ne true (Ne.symm hji), this] at h1
    cases h1

/-- A call whose contract makes memory alone, in the walk of a region. -/
theorem call_kept {f : FuncId} {args : Array Value} {v : Value} {C0 : World → Prop} (d : Kept C0) (hcl : ∀ {w1 w2 : World}, C0 w1 → Below w1.heap.size w1 w2 → C0 w2)
    (h : Calls P f args d.w fun e w' => e = .returned v ∧ Below d.w.heap.size d.w w') : Calls P f args d.w fun e w'' => e = .returned v ∧ ∃ d' : Kept C0, w'' = d'.w :=
  h.mono fun _ w' hh => ⟨hh.1, ⟨w', hcl d.h hh.2⟩, rfl⟩
end

/-! ### Small laws on worlds -/

theorem nbTrans {w w1 w2 : World} (h : Below w.heap.size w w1) (k : Below w1.heap.size w1 w2) : Below w.heap.size w w2 := h.trans (k.mono h.size)
theorem nbAlloc {w w1 : World} (h : Below w.heap.size w w1) (o : Obj) : Below w.heap.size w (w1.alloc o) := h.alloc h.size o
theorem nbDrewN {w w1 : World} (n : Nat) (h : Below w.heap.size w w1) : Below w.heap.size w (w1.drewN n) := h.trans ⟨rfl, rfl, rfl, Nat.le_refl _, fun _ _ => rfl⟩
/-- A cell that lay there reads on behind a call that makes memory alone. -/
theorem cellOn {W w1 : World} (hb : Below W.heap.size W w1) {b o : Nat} {v : Value} (h : W.cell? ⟨b, o, none⟩ = some v) : w1.cell? ⟨b, o, none⟩ = some v := by
  rw [hb.cell (p := ⟨b, o, none⟩) ?_]
  · exact h
  · show b < W.heap.size
    simp only [World.cell?] at h
    rcases Nat.lt_or_ge b W.heap.size with h' | h'
    · exact h'
    · rw [Array.getElem?_eq_none h'] at h; cases h

theorem retI {a b : Int} (h : a = b) : Ending.returned (.int .i64 a) = .returned (.int .i64 b) := by rw [h]
theorem retB {a b : Bool} (h : a = b) : Ending.returned (.bool a) = .returned (.bool b) := by rw [h]
theorem frozenOn {W w1 : World} (hb : Below W.heap.size W w1) {b o : Nat} {v : Value} (h : W.cell? ⟨b, o, none⟩ = some v) (hf : W.frozen? ⟨b, o, none⟩ = false) : w1.frozen? ⟨b, o, none⟩ = false := by
  rw [hb.frozen (p := ⟨b, o, none⟩) ?_]
  · exact hf
  · show b < W.heap.size
    simp only [World.cell?] at h
    rcases Nat.lt_or_ge b W.heap.size with h' | h'
    · exact h'
    · rw [Array.getElem?_eq_none h'] at h; cases h

theorem wrapS {x : Int} (h1 : -1000000000 ≤ x) (h2 : x ≤ 1000000000) : IntKind.i64.wrap x = x := by
  rw [IntKind.wrap_i64]; omega
theorem nbSet2 {w w' : World} {n o1 o2 : Nat} {v1 v2 : Value} (h : Below w.heap.size w w') (hn : w.heap.size ≤ n) : Below w.heap.size w ((w'.setCell ⟨n, o1, none⟩ v1).setCell ⟨n, o2, none⟩ v2) :=
  (h.setCell (p := ⟨n, o1, none⟩) hn v1).setCell (p := ⟨n, o2, none⟩) hn v2

theorem cellFar {w' : World} {n o1 b o : Nat} {v1 v : Value} (hb : b ≠ n) (h : w'.cell? ⟨b, o, none⟩ = some v) : (w'.setCell ⟨n, o1, none⟩ v1).cell? ⟨b, o, none⟩ = some v := by
  rw [World.cell?_of_block (w := w') (Below.heap_setCell w' ⟨n, o1, none⟩ v1 b hb)]; exact h
theorem ltCell {w : World} {b o : Nat} {v : Value} (h : w.cell? ⟨b, o, none⟩ = some v) : b < w.heap.size := by
  simp only [World.cell?] at h
  rcases Nat.lt_or_ge b w.heap.size with h' | h'
  · exact h'
  · rw [Array.getElem?_eq_none h'] at h; cases h
end Go.Proofs.YtmhppadblddjoaaDoor

