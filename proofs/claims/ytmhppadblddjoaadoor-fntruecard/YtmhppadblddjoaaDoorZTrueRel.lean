import Derived.Test.YtmhppadblddjoaaDoorZTrueDrawn
/- A region that draws its order, whose operations yield values that hang on the world (a new block's address): each operation's value is known by a predicate that lasts. No Go program in it. -/
namespace Go.Proofs.YtmhppadblddjoaaDoor
open Go.RowKit

section
variable {P : Program} {Q : Exit → Act → World → Prop}

def stepOut (P : Program) (R : Value → World → Prop) : Result Next → Prop
  | .ok (.value v) w' => R v w'
  | .ok .skip w' => R undef w'
  | .ok (.enter f args) w' => Calls P f args w' fun e w'' => ∃ v, e = .returned v ∧ R v w''
  | _ => False

theorem stepOut.upon {o : Oper} {b : Act} {K : Act → World → Prop} {R : Value → World → Prop} {r : Result Next} (h : stepOut P R r) (hK : ∀ v w', R v w' → K (b.put o.dst v) w') : o.upon P b K Q r := by
  unfold stepOut at h
  split at h
  · exact hK _ _ h
  · exact hK _ _ h
  · refine Calls.mono h ?_
    rintro e w'' ⟨v, rfl, hR⟩
    exact hK _ _ hR
  · exact h.elim

/-- The frame behind those operations that are listed, in the text's order. -/
def mix (vs : Nat → Value) (L : Nat → Bool) : List Oper → Nat → Act → Act
  | [], _, a => a
  | o :: l, j, a => mix vs L l (j + 1) (if L j then a.put o.dst (vs j) else a)

theorem mix_put (vs : Nat → Value) (L : Nat → Bool) {dst : Option Tmp} {v : Value} : ∀ (l : List Oper) (j : Nat) (a : Act), (∀ o ∈ l, ∀ d, dst = some d → o.dst ≠ some d) → mix vs L l j (a.put dst v) = (mix vs L l j a).put dst v
  | [], _, _, _ => rfl
  | o :: l, j, a, h => by
    have h1 := h o (by simp)
    have h2 : ∀ o ∈ l, ∀ d, dst = some d → o.dst ≠ some d := fun o' ho => h o' (by simp [ho])
    unfold mix
    cases L j
    · exact mix_put vs L l (j + 1) a h2
    · simp only [if_true]
      rw [Act.put_comm a v (vs j) h1]
      exact mix_put vs L l (j + 1) _ h2

theorem mix_congr {vs vs' : Nat → Value} {L L' : Nat → Bool} : ∀ (l : List Oper) (j : Nat) (a : Act), (∀ k, j ≤ k → k < j + l.length → L k = L' k ∧ (L k = true → vs k = vs' k)) → mix vs L l j a = mix vs' L' l j a
  | [], _, _, _ => rfl
  | o :: l, j, a, h => by
    unfold mix
    obtain ⟨h1, h2⟩ := h j (Nat.le_refl _) (by simp)
    have ih := fun a => mix_congr (vs := vs) (vs' := vs') (L := L) (L' := L') l (j + 1) a (fun k hk hk2 => h k (by omega) (by simp; omega))
    rw [ih, ← h1]
    cases hL : L j
    · rfl
    · rw [h2 hL]

theorem mix_set {vs : Nat → Value} {L : Nat → Bool} {v : Value} : ∀ (l : List Oper) (j : Nat) (a : Act) (i : Nat) (o : Oper), l[i]? = some o → L (j + i) = false →
    l.Pairwise (fun x y => ∀ d, x.dst = some d → y.dst ≠ some d) →
    (mix vs L l j a).put o.dst v = mix (fun k => if k = j + i then v else vs k) (fun k => if k = j + i then true else L k) l j a
  | [], _, _, _, _, h, _, _ => by simp at h
  | o' :: l, j, a, 0, o, h, hL, hp => by
    simp at h
    subst h
    rw [List.pairwise_cons] at hp
    unfold mix
    simp only [Nat.add_zero] at hL
    simp only [hL, Nat.add_zero, if_true]
    rw [if_neg (by simp)]
    rw [← mix_put _ _ _ _ _ (fun o2 h2 => hp.1 o2 h2)]
    exact mix_congr _ _ _ fun k hk _ => by rw [if_neg (by omega), if_neg (by omega)]; exact ⟨rfl, fun _ => rfl⟩
  | o' :: l, j, a, i + 1, o, h, hL, hp => by
    rw [List.pairwise_cons] at hp
    unfold mix
    rw [if_neg (by omega : ¬ j = j + (i + 1)), if_neg (by omega : ¬ j = j + (i + 1))]
    have := mix_set (vs := vs) (L := L) (v := v) l (j + 1) (if L j then a.put o'.dst (vs j) else a) i o (by simpa using h) (by rw [show j + 1 + i = j + (i + 1) by omega]; exact hL) hp.2
    rw [show j + 1 + i = j + (i + 1) by omega] at this
    exact this

theorem mix_slot {vs : Nat → Value} {L L' : Nat → Bool} (t : Tmp) : ∀ (l : List Oper) (j : Nat) (a a' : Act), a.tmps.size = a'.tmps.size → a.tmps[t]? = a'.tmps[t]? →
    (∀ (k : Nat) (o : Oper), l[k]? = some o → o.dst = some t → L (j + k) = L' (j + k)) → (mix vs L l j a).tmps[t]? = (mix vs L' l j a').tmps[t]?
  | [], _, _, _, _, h, _ => h
  | o :: l, j, a, a', hs, h, hd => by
    unfold mix
    have key : ∀ (b : Act) (v : Value), (b.put o.dst v).tmps.size = b.tmps.size ∧ (o.dst ≠ some t → (b.put o.dst v).tmps[t]? = b.tmps[t]?) := fun b v => by
      cases ho : o.dst with
      | none => exact ⟨rfl, fun _ => rfl⟩
      | some d => exact ⟨by simp [Act.put], fun hne => by simp [Act.put, Array.getElem?_setIfInBounds_ne (show d ≠ t from fun e => hne (by rw [e]))]⟩
    refine mix_slot t l (j + 1) _ _ ?_ ?_ (fun k o' ho' hd' => by have := hd (k + 1) o' (by simpa using ho') hd'; rwa [show j + (k + 1) = j + 1 + k by omega] at this)
    · cases L j <;> cases L' j <;> simp [(key _ _).1, hs]
    · by_cases hdt : o.dst = some t
      · have := hd 0 o (by simp) hdt
        simp only [Nat.add_zero] at this
        rw [this]
        cases L' j
        · exact h
        · simp only [if_true, hdt, Act.put]
          by_cases hb : t < a.tmps.size
          · have hb' : t < a'.tmps.size := hs ▸ hb
            simp [hb, hb']
          · have hb' : ¬ t < a'.tmps.size := fun h' => hb (hs ▸ h')
            simp [Array.setIfInBounds, hb, hb']
      · cases L j <;> cases L' j <;> simp [(key _ _).2 hdt, h]

/-- What the kernel looks at. -/
def relB (l : List Oper) : Bool :=
  (l.all fun o => o.guard.isNone && (match o.op with | .select .. => false | _ => true)) &&
  (l.zipIdx.all fun x => l.zipIdx.all fun y => x.2 == y.2 || x.1.dst.isNone || x.1.dst != y.1.dst) &&
  (l.zipIdx.all fun x => x.1.op.operands.toList.all fun p => match p with | .tmp t => l.zipIdx.all fun y => y.1.dst != some t || (decide (y.2 < x.2) && x.1.after.any fun e => Region.binds .any e && e.on == y.2) | _ => true) &&
  (l.zipIdx.all fun x => x.1.after.all fun e => decide (e.on < x.2))

structure RelOk (l : List Oper) : Prop where
  guards : ∀ (i : Nat) (o : Oper), l[i]? = some o → o.guard = none
  nosel : ∀ (i : Nat) (o : Oper), l[i]? = some o → ∀ cs b, o.op ≠ .select cs b
  dist : l.Pairwise (fun x y => ∀ d, x.dst = some d → y.dst ≠ some d)
  looks : ∀ (i : Nat) (o : Oper) (t : Tmp), l[i]? = some o → Operand.tmp t ∈ o.op.operands → ∀ (k : Nat) (o' : Oper), l[k]? = some o' → o'.dst = some t → k < i ∧ ∃ e ∈ o.after, Region.binds .any e = true ∧ e.on = k
  back : ∀ (j : Nat) (o : Oper) (e : Edge), l.toArray[j]? = some o → e ∈ o.after → e.on < j

theorem relOk_of {l : List Oper} (h : relB l = true) : RelOk l := by
  simp only [relB, Bool.and_eq_true] at h
  obtain ⟨⟨⟨h1, h2⟩, h3⟩, h4⟩ := h
  rw [List.all_eq_true] at h1 h2 h3 h4
  have hz : ∀ (j : Nat) (o : Oper), l[j]? = some o → (o, j) ∈ l.zipIdx := fun j o ho => by
    rw [List.mem_zipIdx_iff_getElem?]; simpa using ho
  have hmem : ∀ (j : Nat) (o : Oper), l[j]? = some o → o ∈ l := fun j o ho => List.mem_of_getElem? ho
  refine ⟨fun i o ho => ?_, fun i o ho cs b hc => ?_, ?_, fun i o t ho ht k o' ho' hd => ?_, fun j o e ho he => ?_⟩
  · have := h1 o (hmem i o ho)
    simp only [Bool.and_eq_true] at this
    simpa using this.1
  · have := h1 o (hmem i o ho)
    rw [hc] at this
    simp at this
  · rw [List.pairwise_iff_getElem]
    intro i k hi hk hik d hd hd'
    have a1 := h2 _ (hz i l[i] (by simp [hi]))
    rw [List.all_eq_true] at a1
    have a2 := a1 _ (hz k l[k] (by simp [hk]))
    simp [hd, hd'] at a2
    omega
  · have a1 := h3 _ (hz i o ho)
    rw [List.all_eq_true] at a1
    have a2 := a1 _ (by simpa using ht)
    simp only [List.all_eq_true] at a2
    have a3 := a2 _ (hz k o' ho')
    simp only [hd, bne_self_eq_false, Bool.false_or, Bool.and_eq_true, decide_eq_true_eq] at a3
    obtain ⟨b1, b2⟩ := a3
    obtain ⟨e, he, hb⟩ := Array.any_eq_true'.1 b2
    simp only [Bool.and_eq_true, beq_iff_eq] at hb
    exact ⟨b1, e, he, hb.1, hb.2⟩
  · have := h4 _ (hz j o (by simpa using ho))
    have h5 := Array.all_eq_true_iff_forall_mem.1 this e he
    simpa using h5

theorem count_set : ∀ (l : List Bool) (i : Nat), l[i]? = some false → (l.set i true).count false + 1 = l.count false
  | [], _, h => by simp at h
  | b :: l, 0, h => by simp at h; subst h; simp
  | b :: l, i + 1, h => by
    have := count_set l i (by simpa using h)
    simp only [List.set_cons_succ, List.count_cons]
    omega

/-- Those that an operation waits for. -/
def waits (o : Oper) (k : Nat) : Prop := ∃ e ∈ o.after, Region.binds .any e = true ∧ e.on = k

/-- .. by itself, or by one that it waits for. -/
def reach (l : List Oper) (o : Oper) (j : Nat) : Prop := waits o j ∨ ∃ (k : Nat) (o' : Oper), l[k]? = some o' ∧ waits o k ∧ waits o' j

theorem waits_of {o : Oper} {k : Nat} (h : (o.after.any fun e => Region.binds .any e && e.on == k) = true) : waits o k := by
  obtain ⟨e, he, hb⟩ := Array.any_eq_true'.1 h
  simp only [Bool.and_eq_true, beq_iff_eq] at hb
  exact ⟨e, he, hb.1, hb.2⟩

theorem rel_any {l : List Oper} (k : RelOk l) {C0 : World → Prop} {Y : Nat → Value → World → Prop} {a0 : Act} (iS : Nat)
    (hcl : ∀ w w', C0 w → Below w.heap.size w w' → C0 w') (hY : ∀ j v w w', Y j v w → Below w.heap.size w w' → Y j v w')
    (hlast : ∀ oS, l[iS]? = some oS → oS.dst = none ∧ ∀ j, j < l.length → j ≠ iS → reach l oS j)
    (hstep : ∀ (j : Nat) (o : Oper), l[j]? = some o → j ≠ iS → ∀ (vs : Nat → Value) w1, C0 w1 → (∀ k, waits o k → Y k (vs k) w1) →
      stepOut P (fun v w2 => Y j v w2 ∧ Below w1.heap.size w1 w2) ((execOp (mix vs (fun k => decide (k < j)) l 0 a0).eval o).run P w1))
    (hend : ∀ (vs : Nat → Value) w1, C0 w1 → (∀ j, j < l.length → j ≠ iS → Y j (vs j) w1) →
      match l[iS]? with
      | none => Q .normal (mix vs (fun _ => true) l 0 a0) w1
      | some oS => oS.wp P (mix vs (fun _ => true) l 0 a0) w1 (fun a2 w2 => Q .normal a2 w2) Q) :
    ∀ (fuel : Nat) (listed : Array Bool) (vs : Nat → Value) (w : World), listed.size = l.length → listed.toList.count false ≤ fuel → C0 w → (∀ oS, l[iS]? = some oS → listed.getD iS false = false) →
      (∀ j, j < l.length → listed.getD j false = true → Y j (vs j) w) → (∀ (j : Nat) (o : Oper), l[j]? = some o → listed.getD j false = true → ∀ k, waits o k → listed.getD k false = true) → wpAny P .any l.toArray Q fuel listed (mix vs (fun j => listed.getD j false) l 0 a0) w := by
  have done : ∀ (listed : Array Bool) (vs : Nat → Value) (w : World), listed.size = l.length → C0 w → (∀ oS, l[iS]? = some oS → listed.getD iS false = false) → (∀ j, j < l.length → listed.getD j false = true → Y j (vs j) w) →
      Region.ready .any l.toArray listed = [] → Q .normal (mix vs (fun j => listed.getD j false) l 0 a0) w := fun listed vs w hsz hC hS hy hr => by
    have all : ∀ j, j < l.length → listed.getD j false = true := fun j hj => by
      cases hb : listed.getD j false
      · have hb' : listed.getD j true = false := by
          have : j < listed.size := by omega
          simp [this] at hb ⊢; exact hb
        exact absurd hr (ready_ne k.back j j (Nat.le_refl _) (by simpa using hj) (by simpa using hsz) hb')
      · rfl
    have hnS : l[iS]? = none := by
      cases hS1 : l[iS]? with
      | none => rfl
      | some oS =>
        have h1 := hS oS hS1
        rw [all iS (List.getElem?_eq_some_iff.1 hS1).1] at h1
        cases h1
    have := hend vs w hC (fun j hj _ => hy j hj (all j hj))
    rw [hnS] at this
    rw [mix_congr (vs' := vs) (L' := fun _ => true) l 0 a0 (fun k _ hk => ⟨all k (by omega), fun _ => rfl⟩)]
    exact this
  intro fuel
  induction fuel with
  | zero =>
    intro listed vs w hsz hcnt hC hS hy _
    have hr : Region.ready .any l.toArray listed = [] := List.eq_nil_iff_forall_not_mem.2 fun j hj => by
      obtain ⟨h1, o, ho, _⟩ := mem_ready.1 hj
      have hlt : j < listed.size := by
        have := (Array.getElem?_eq_some_iff.1 ho).1
        simp at this; omega
      simp [hlt] at h1
      have : false ∈ listed.toList := by rw [← h1]; simp
      have := List.count_pos_iff.2 this
      omega
    exact ⟨hr, done listed vs w hsz hC hS hy hr⟩
  | succ fuel ih =>
    intro listed vs w hsz hcnt hC hS hy hcl2
    refine ⟨done listed vs w hsz hC hS hy, fun i hi => ?_⟩
    obtain ⟨h1, o, ho, hall⟩ := mem_ready.1 hi
    have ho' : l[i]? = some o := by simpa using ho
    have hli : i < l.length := (List.getElem?_eq_some_iff.1 ho').1
    have hlt : i < listed.size := by omega
    have hfi : listed.getD i false = false := getD_ff h1
    have hwt : ∀ k, waits o k → listed.getD k false = true := fun k ⟨e, he, hb, hek⟩ => hek ▸ hall e he hb
    have hwr : ∀ j, reach l o j → listed.getD j false = true := fun j hh => hh.elim (hwt j) (fun ⟨k2, o', hk2, h1, h2⟩ => hcl2 k2 o' hk2 (hwt k2 h1) j h2)
    unfold wpOp
    simp only [ho, Region.wanted, k.guards i o ho', if_true]
    refine .inl ?_
    by_cases hiS : i = iS
    · subst hiS
      obtain ⟨hdst, hw⟩ := hlast o ho'
      have hend' := hend vs w hC (fun j hj hne => hy j hj (hwr j (hw j hj hne)))
      rw [ho'] at hend'
      have hm : mix vs (fun j => listed.getD j false) l 0 a0 = mix vs (fun _ => true) l 0 a0 := by
        have h2 := mix_set (vs := vs) (L := fun j => listed.getD j false) (v := vs i) l 0 a0 i o ho' (by simpa using hfi) k.dist
        rw [hdst] at h2
        refine h2.trans (mix_congr l 0 a0 fun k2 _ hk2 => ?_)
        by_cases hki : k2 = 0 + i
        · simp [hki]
        · simp only [hki, if_false]
          exact ⟨hwr k2 (hw k2 (by omega) (by omega)), fun _ => by first | rfl | trivial⟩
      rw [hm]
      refine Oper.wp_mono (fun a2 w2 h2 => wpAny_done ?_ h2 fuel) hend'
      refine List.eq_nil_iff_forall_not_mem.2 fun j hj => ?_
      obtain ⟨g1, oj, goj, _⟩ := mem_ready.1 hj
      by_cases hji : i = j
      · subst hji; rw [getD_true_of_set] at g1; cases g1
      · rw [getD_set_ne true hji] at g1
        have := hwr j (hw j (by have := (Array.getElem?_eq_some_iff.1 goj).1; simpa using this) (Ne.symm hji))
        rw [getD_tt this] at g1
        cases g1
    · have hs := hstep i o ho' hiS vs w hC (fun k2 hk2 => hy k2 (by
        obtain ⟨e, he, _, hek⟩ := hk2
        have := k.back i o e ho he
        omega) (hwt k2 hk2))
      have hex : execOp (mix vs (fun j => listed.getD j false) l 0 a0).eval o = execOp (mix vs (fun k => decide (k < i)) l 0 a0).eval o := by
        refine execOp_congr o (k.nosel i o ho') fun x hx => ?_
        cases x with
        | tmp t =>
          have := mix_slot (vs := vs) (L := fun j => listed.getD j false) (L' := fun k => decide (k < i)) t l 0 a0 a0 rfl rfl (fun k2 o2 h2 hd2 => by
            obtain ⟨b1, b2⟩ := k.looks i o t ho' hx k2 o2 h2 hd2
            simp only [Nat.zero_add]
            rw [hwt k2 b2]
            simp [b1])
          show (mix vs (fun j => listed.getD j false) l 0 a0).tmps.getD t undef = (mix vs (fun k => decide (k < i)) l 0 a0).tmps.getD t undef
          rw [Array.getD_eq_getD_getElem?, Array.getD_eq_getD_getElem?, this]
        | _ => rfl
      unfold Oper.wp
      rw [hex]
      refine stepOut.upon hs ?_
      rintro v w' ⟨hv, hb⟩
      rw [mix_set (vs := vs) (L := fun j => listed.getD j false) (v := v) l 0 a0 i o ho' (by simpa using hfi) k.dist]
      have ih' := ih (listed.setIfInBounds i true) (fun k => if k = 0 + i then v else vs k) w' (by simpa using hsz) ?_ (hcl _ _ hC hb) (fun oS hS1 => ?_) (fun j hj hl => ?_) (fun j o2 ho2 hl2 k2 hk2 => ?_)
      · refine Eq.mp ?_ ih'
        congr 1
        refine mix_congr l 0 a0 fun k2 _ _ => ⟨?_, fun _ => rfl⟩
        by_cases hk : k2 = i
        · subst hk; simp [hlt]
        · simp [hk, Array.getD_eq_getD_getElem?, Array.getElem?_setIfInBounds_ne (Ne.symm hk)]
      · have hfl : listed.toList[i]? = some false := by
          simp [hlt] at hfi
          simp [hlt, hfi]
        have hcs := count_set _ _ hfl
        have hls : (listed.setIfInBounds i true).toList = listed.toList.set i true := by simp
        rw [hls]
        omega
      · rw [getD_set_ne false hiS]; exact hS oS hS1
      · by_cases hji : j = i
        · subst hji; simpa using hv
        · simp only [Nat.zero_add, hji, if_false]
          rw [getD_set_ne false (Ne.symm hji)] at hl
          exact hY _ _ _ _ (hy j hj hl) hb
      · have hk3 : listed.getD k2 false = true := by
          by_cases hji : j = i
          · subst hji
            rw [ho'] at ho2
            cases ho2
            exact hwt k2 hk2
          · rw [getD_set_ne false (Ne.symm hji)] at hl2
            exact hcl2 j o2 ho2 hl2 k2 hk2
        by_cases hki : k2 = i
        · subst hki; rw [hfi] at hk3; cases hk3
        · rw [getD_set_ne false (Ne.symm hki)]; exact hk3

theorem mix_none {vs : Nat → Value} {L : Nat → Bool} (hL : ∀ k, L k = false) : ∀ (l : List Oper) (j : Nat) (a : Act), mix vs L l j a = a
  | [], _, _ => rfl
  | o :: l, j, a => by unfold mix; rw [hL j]; exact mix_none hL l (j + 1) a

/-- The store at iS, if there is one, waits for all others. -/
def storeB (l : List Oper) (iS : Nat) : Bool :=
  match l[iS]? with
  | none => true
  | some oS => oS.dst.isNone && (List.range l.length).all fun j => j == iS || (oS.after.any fun e => Region.binds .any e && e.on == j) || l.zipIdx.any fun x => (oS.after.any fun e => Region.binds .any e && e.on == x.2) && x.1.after.any fun e => Region.binds .any e && e.on == j

/-- **A region that draws its order**: each operation by itself, at the frame of the text's order, its value known by Y; a store, if there is one (iS), comes last. -/
theorem region_rel {id : Nat} {a : Act} {w : World} {l : List Oper} (C0 : World → Prop) (Y : Nat → Value → World → Prop) (iS : Nat)
    (hcl : ∀ w w', C0 w → Below w.heap.size w w' → C0 w') (hY : ∀ j v w w', Y j v w → Below w.heap.size w w' → Y j v w')
    (hm : P.follows .mixedOrders = true) (hchk : relB l = true) (hst : storeB l iS = true) (h0 : C0 w.drew)
    (hstep : ∀ (j : Nat) (o : Oper), l[j]? = some o → j ≠ iS → ∀ (vs : Nat → Value) w1, C0 w1 → (∀ k, waits o k → Y k (vs k) w1) →
      stepOut P (fun v w2 => Y j v w2 ∧ Below w1.heap.size w1 w2) ((execOp (mix vs (fun k => decide (k < j)) l 0 a).eval o).run P w1))
    (hend : ∀ (vs : Nat → Value) w1, C0 w1 → (∀ j, j < l.length → j ≠ iS → Y j (vs j) w1) →
      match l[iS]? with
      | none => Q .normal (mix vs (fun _ => true) l 0 a) w1
      | some oS => oS.wp P (mix vs (fun _ => true) l 0 a) w1 (fun a2 w2 => Q .normal a2 w2) Q) :
    (Code.region id l.toArray true).wp P Q a w := by
  refine wp_region_any hm ?_
  have hf : ∀ j, (Array.replicate l.length false).getD j false = false := fun j => by
    by_cases hj : j < l.length <;> simp [Array.getD_eq_getD_getElem?, hj]
  have := rel_any (Q := Q) (relOk_of hchk) iS hcl hY (fun oS hS => ?_) hstep hend l.length (Array.replicate l.length false) (fun _ => undef) w.drew (by simp) (by simp) h0 (fun _ _ => hf iS) (fun j _ hj => by rw [hf j] at hj; cases hj) (fun j _ _ hj => by rw [hf j] at hj; cases hj)
  · rw [mix_none hf] at this
    simpa using this
  · unfold storeB at hst
    rw [hS] at hst
    simp only [Bool.and_eq_true, List.all_eq_true] at hst
    refine ⟨by simpa using hst.1, fun j hj hne => ?_⟩
    have := hst.2 j (by simpa using hj)
    simp only [Bool.or_eq_true, beq_iff_eq, hne, false_or] at this
    rcases this with this | this
    · exact .inl (waits_of this)
    · obtain ⟨x, hx, hb⟩ := List.any_eq_true.1 this
      rw [Bool.and_eq_true] at hb
      rw [List.mem_zipIdx_iff_getElem?] at hx
      exact .inr ⟨x.2, x.1, by simpa using hx, waits_of hb.1, waits_of hb.2⟩

/-- A goal that is not looked into yet: a tactic that opens a hypothesis would reckon it out. -/
structure Later (p : Prop) : Prop where
  now : p

/-- The same, with the end's goal shut. -/
theorem region_relL {id : Nat} {a : Act} {w : World} {l : List Oper} (C0 : World → Prop) (Y : Nat → Value → World → Prop) (iS : Nat)
    (hcl : ∀ w w', C0 w → Below w.heap.size w w' → C0 w') (hY : ∀ j v w w', Y j v w → Below w.heap.size w w' → Y j v w')
    (hm : P.follows .mixedOrders = true) (hchk : relB l = true) (hst : storeB l iS = true) (h0 : C0 w.drew)
    (hstep : ∀ (j : Nat) (o : Oper), l[j]? = some o → j ≠ iS → ∀ (vs : Nat → Value) w1, C0 w1 → (∀ k, waits o k → Y k (vs k) w1) →
      stepOut P (fun v w2 => Y j v w2 ∧ Below w1.heap.size w1 w2) ((execOp (mix vs (fun k => decide (k < j)) l 0 a).eval o).run P w1))
    (hend : ∀ (vs : Nat → Value) w1, C0 w1 → (∀ j, j < l.length → j ≠ iS → Y j (vs j) w1) →
      Later (match l[iS]? with
      | none => Q .normal (mix vs (fun _ => true) l 0 a) w1
      | some oS => oS.wp P (mix vs (fun _ => true) l 0 a) w1 (fun a2 w2 => Q .normal a2 w2) Q)) :
    (Code.region id l.toArray true).wp P Q a w := region_rel C0 Y iS hcl hY hm hchk hst h0 hstep (fun vs w1 h1 h2 => (hend vs w1 h1 h2).now)

end
end Go.Proofs.YtmhppadblddjoaaDoor

