import Derived.OrdersIn
import Derived.RangeFuncCalls
import Derived.TacticsIn
import Derived.Laws.OwnMore
import Derived.Test.YtmhppadblddjoaaDoorZTrueRel
/- A region that draws its order and ends in two operations that turn memory (an append and the store of what it gives); and a drawn region inside a round of a range over a function. No Go program in it. -/
namespace Go.Proofs.YtmhppadblddjoaaDoor
open Go.RowKit

section
variable {P : Program} {Q : Exit → Act → World → Prop}

/-- Those that an operation waits for, by whatever way. -/
def reachB (l : List Oper) : Nat → Oper → Nat → Bool
  | 0, _, _ => false
  | d + 1, o, j => o.after.any fun e => Region.binds .any e && (e.on == j || match l[e.on]? with | some o' => reachB l d o' j | none => false)
theorem reachB_at {l : List Oper} {ok : Nat → Prop} (hcl : ∀ (j : Nat) (o : Oper), l[j]? = some o → ok j → ∀ k, waits o k → ok k) : ∀ (d : Nat) (o : Oper) (j : Nat), reachB l d o j = true → (∀ k, waits o k → ok k) → ok j
  | 0, _, _, h, _ => by cases h
  | d + 1, o, j, h, hw => by
    unfold reachB at h
    obtain ⟨e, he, hb⟩ := Array.any_eq_true'.1 h
    rw [Bool.and_eq_true, Bool.or_eq_true] at hb
    have hk : ok e.on := hw e.on ⟨e, he, hb.1, rfl⟩
    rcases hb.2 with h1 | h1
    · rw [← eq_of_beq h1]; exact hk
    · split at h1
      · rename_i o' ho'
        exact reachB_at hcl d o' j h1 (hcl e.on o' ho' hk)
      · cases h1

theorem rel2_any {l : List Oper} (k : RelOk l) {C0 : World → Prop} {Y : Nat → Value → World → Prop} {a0 : Act} (iS : Nat) {oS oT : Oper} (hS : l[iS]? = some oS) (hT : l[iS + 1]? = some oT) (hlen : l.length = iS + 2)
    (hcl : ∀ w w', C0 w → Below w.heap.size w w' → C0 w') (hY : ∀ j v w w', Y j v w → Below w.heap.size w w' → Y j v w')
    (hlast : ∀ j, j < iS → reachB l iS oS j = true) (htail : waits oT iS)
    (hstep : ∀ (j : Nat) (o : Oper), l[j]? = some o → j < iS → ∀ (vs : Nat → Value) w1, C0 w1 → (∀ k, waits o k → Y k (vs k) w1) →
      stepOut P (fun v w2 => Y j v w2 ∧ Below w1.heap.size w1 w2) ((execOp (mix vs (fun k => decide (k < j)) l 0 a0).eval o).run P w1))
    (hend : ∀ (vs : Nat → Value) w1, C0 w1 → (∀ j, j < iS → Y j (vs j) w1) →
      oS.wp P (mix vs (fun k => decide (k < iS)) l 0 a0) w1 (fun a2 w2 => oT.wp P a2 w2 (fun a3 w3 => Q .normal a3 w3) Q) Q) :
    ∀ (fuel : Nat) (listed : Array Bool) (vs : Nat → Value) (w : World), listed.size = l.length → listed.toList.count false ≤ fuel → C0 w → listed.getD iS false = false → listed.getD (iS + 1) false = false →
      (∀ j, j < l.length → listed.getD j false = true → Y j (vs j) w) → (∀ (j : Nat) (o : Oper), l[j]? = some o → listed.getD j false = true → ∀ k, waits o k → listed.getD k false = true) → wpAny P .any l.toArray Q fuel listed (mix vs (fun j => listed.getD j false) l 0 a0) w := by
  have cnt : ∀ (listed : Array Bool) (i : Nat), listed.size = l.length → i < l.length → listed.getD i false = false → 0 < listed.toList.count false := fun listed i hsz hi h1 => by
    have hlt : i < listed.size := by omega
    simp [hlt] at h1
    have : false ∈ listed.toList := by rw [← h1]; simp
    exact List.count_pos_iff.2 this
  have nee : ∀ (listed : Array Bool) (i : Nat), listed.size = l.length → i < l.length → listed.getD i false = false → Region.ready .any l.toArray listed ≠ [] := fun listed i hsz hi h1 => by
    have hb' : listed.getD i true = false := by
      have : i < listed.size := by omega
      simp [this] at h1 ⊢; exact h1
    exact ready_ne k.back i i (Nat.le_refl _) (by simpa using hi) (by simpa using hsz) hb'
  intro fuel
  induction fuel with
  | zero =>
    intro listed vs w hsz hcnt hC hnS _ hy _
    have := cnt listed iS hsz (by omega) hnS
    omega
  | succ fuel ih =>
    intro listed vs w hsz hcnt hC hnS hnT hy hcl2
    refine ⟨fun hr => absurd hr (nee listed iS hsz (by omega) hnS), fun i hi => ?_⟩
    obtain ⟨h1, o, ho, hall⟩ := mem_ready.1 hi
    have ho' : l[i]? = some o := by simpa using ho
    have hli : i < l.length := (List.getElem?_eq_some_iff.1 ho').1
    have hlt : i < listed.size := by omega
    have hfi : listed.getD i false = false := getD_ff h1
    have hwt : ∀ k, waits o k → listed.getD k false = true := fun k ⟨e, he, hb, hek⟩ => hek ▸ hall e he hb
    have hwr : ∀ j, reachB l iS o j = true → listed.getD j false = true := fun j hh => reachB_at hcl2 iS o j hh hwt
    have hfl : listed.toList[i]? = some false := by
      simp [hlt] at hfi
      simp [hlt, hfi]
    have hcs := count_set _ _ hfl
    have hls : (listed.setIfInBounds i true).toList = listed.toList.set i true := by simp
    unfold wpOp
    simp only [ho, Region.wanted, k.guards i o ho', if_true]
    refine .inl ?_
    by_cases hiT : i = iS + 1
    · subst hiT
      rw [hT] at ho'
      cases ho'
      rw [hwt iS htail] at hnS
      cases hnS
    by_cases hiS : i = iS
    · subst hiS
      rw [hS] at ho'
      cases ho'
      have hend' := hend vs w hC (fun j hj => hy j (by omega) (hwr j (hlast j hj)))
      have hm : mix vs (fun j => listed.getD j false) l 0 a0 = mix vs (fun k => decide (k < i)) l 0 a0 := by
        refine mix_congr l 0 a0 fun k2 _ hk2 => ⟨?_, fun _ => rfl⟩
        by_cases h3 : k2 < i
        · rw [hwr k2 (hlast k2 h3)]; simp [h3]
        · have : k2 = i ∨ k2 = i + 1 := by omega
          rcases this with rfl | rfl
          · rw [hnS]; simp
          · rw [hnT]; simp
      rw [hm]
      have hT2 : (listed.setIfInBounds i true).getD (i + 1) false = false := by rw [getD_set_ne false (by omega)]; exact hnT
      have hz2 : (listed.setIfInBounds i true).size = l.length := by simpa using hsz
      refine Oper.wp_mono (fun a2 w2 h2 => ?_) hend'
      obtain ⟨f2, rfl⟩ : ∃ f2, fuel = f2 + 1 := by
        cases fuel with
        | zero =>
          have := cnt _ (i + 1) hz2 (by omega) hT2
          rw [hls] at this
          omega
        | succ f => exact ⟨f, rfl⟩
      refine ⟨fun hr => absurd hr (nee _ (i + 1) hz2 (by omega) hT2), fun q hq => ?_⟩
      obtain ⟨g1, oq, goq, _⟩ := mem_ready.1 hq
      have goq' : l[q]? = some oq := by simpa using goq
      have hlq : q < l.length := (List.getElem?_eq_some_iff.1 goq').1
      have hq2 : q = i + 1 := by
        by_cases hqi : i = q
        · subst hqi; rw [getD_true_of_set] at g1; cases g1
        · rw [getD_set_ne true hqi] at g1
          by_cases h3 : q < i
          · rw [getD_tt (hwr q (hlast q h3))] at g1; cases g1
          · omega
      subst hq2
      rw [hT] at goq'
      cases goq'
      unfold wpOp
      simp only [goq, Region.wanted, k.guards _ _ hT, if_true]
      refine .inl (Oper.wp_mono (fun a3 w3 h3 => wpAny_done ?_ h3 f2) h2)
      refine List.eq_nil_iff_forall_not_mem.2 fun r hr => ?_
      obtain ⟨g2, or, gor, _⟩ := mem_ready.1 hr
      have hlr : r < l.length := by have := (Array.getElem?_eq_some_iff.1 gor).1; simpa using this
      by_cases hr1 : i + 1 = r
      · subst hr1; rw [getD_true_of_set] at g2; cases g2
      · rw [getD_set_ne true hr1] at g2
        by_cases hr2 : i = r
        · subst hr2; rw [getD_true_of_set] at g2; cases g2
        · rw [getD_set_ne true hr2] at g2
          rw [getD_tt (hwr r (hlast r (by omega)))] at g2
          cases g2
    · have hiL : i < iS := by omega
      have hs := hstep i o ho' hiL vs w hC (fun k2 hk2 => hy k2 (by
        obtain ⟨e, he, _, hek⟩ := hk2
        have := k.back i o e ho he
        omega) (hwt k2 hk2))
      have hex : execOp (mix vs (fun j => listed.getD j false) l 0 a0).eval o = execOp (mix vs (fun k => decide (k < i)) l 0 a0).eval o := by
        refine execOp_congr o (k.nosel i o ho') fun x hx => ?_
        cases x with
        | tmp t =>
          have := mix_slot (vs := vs) (L := fun j => listed.getD j false) (L' := fun k => decide (k < i)) t l 0 a0 a0 rfl rfl (fun k2 o2 h2 hd2 => by
            obtain ⟨b1, b2⟩ := k.looks i o t ho' hx k2 o2 h2 hd2
            simp only [Nat.zero_add]
            rw [hwt k2 b2]
            simp [b1])
          show (mix vs (fun j => listed.getD j false) l 0 a0).tmps.getD t undef = (mix vs (fun k => decide (k < i)) l 0 a0).tmps.getD t undef
          rw [Array.getD_eq_getD_getElem?, Array.getD_eq_getD_getElem?, this]
        | _ => rfl
      unfold Oper.wp
      rw [hex]
      refine stepOut.upon hs ?_
      rintro v w' ⟨hv, hb⟩
      rw [mix_set (vs := vs) (L := fun j => listed.getD j false) (v := v) l 0 a0 i o ho' (by simpa using hfi) k.dist]
      have ih' := ih (listed.setIfInBounds i true) (fun k => if k = 0 + i then v else vs k) w' (by simpa using hsz) (by rw [hls]; omega) (hcl _ _ hC hb) (by rw [getD_set_ne false hiS]; exact hnS) (by rw [getD_set_ne false hiT]; exact hnT) (fun j hj hl => ?_) (fun j o2 ho2 hl2 k2 hk2 => ?_)
      · refine Eq.mp ?_ ih'
        congr 1
        refine mix_congr l 0 a0 fun k2 _ _ => ⟨?_, fun _ => rfl⟩
        by_cases hk : k2 = i
        · subst hk; simp [hlt]
        · simp [hk, Array.getD_eq_getD_getElem?, Array.getElem?_setIfInBounds_ne (Ne.symm hk)]
      · by_cases hji : j = i
        · subst hji; simpa using hv
        · simp only [Nat.zero_add, hji, if_false]
          rw [getD_set_ne false (Ne.symm hji)] at hl
          exact hY _ _ _ _ (hy j hj hl) hb
      · have hk3 : listed.getD k2 false = true := by
          by_cases hji : j = i
          · subst hji
            rw [ho'] at ho2
            cases ho2
            exact hwt k2 hk2
          · rw [getD_set_ne false (Ne.symm hji)] at hl2
            exact hcl2 j o2 ho2 hl2 k2 hk2
        by_cases hki : k2 = i
        · subst hki; rw [hfi] at hk3; cases hk3
        · rw [getD_set_ne false (Ne.symm hki)]; exact hk3

/-- The operation at iS waits for all ahead of it, the last for iS. -/
def tailB (l : List Oper) (iS : Nat) : Bool :=
  match l[iS]?, l[iS + 1]? with
  | some oS, some oT => decide (l.length = iS + 2) && ((List.range iS).all fun j => reachB l iS oS j) && (oT.after.any fun e => Region.binds .any e && e.on == iS)
  | _, _ => false

theorem wpOp_round {ops : Array Oper} {n r i : Nat} {K : Act → World → Prop} {a : Act} {w : World} (hd : ∀ (i : Nat) (o : Oper), ops[i]? = some o → ∀ c, o.op ≠ .defer c) (hLO : ¬ LetsOut Q)
    (h : wpOp P ops Q i K a w) : wpOpIn (Fence.wide.inRound r) n P ops Q i K a w := by
  unfold wpOp at h
  unfold wpOpIn
  cases ho : ops[i]? with
  | none => simpa [ho] using h
  | some o =>
    simp only [ho] at h ⊢
    split
    · rename_i hw
      simp only [hw, if_true] at h
      rcases h with h | h
      · unfold Oper.wp at h
        unfold Oper.wpIn
        refine ⟨fun _ _ => trivial, ?_⟩
        rw [show (Fence.wide.inRound r).round = some r from rfl, Oper.semAt_some r _ o (hd i o ho)]
        generalize (execOp a.eval o).run P w = res at *
        cases res with
        | ok x w' =>
          cases x <;> simp only [Oper.upon, Oper.uponIn] at h ⊢
          case value => exact h
          case skip => exact h
          case defer => exact h
          case enter => exact ⟨fun h => by (cases h), CallsIn.inRound r (callsIn_wide.2 h)⟩
          case row => exact ⟨fun h => by (cases h), fun c cs _ => let ⟨v, w2, r2, s2⟩ := h c cs; ⟨v, w2, r2, stepsIn_wide.2 s2⟩⟩
        | halt x w' => cases x <;> simp only [Oper.upon, Oper.uponIn] at h ⊢ <;> exact h
      · exact absurd h.2 hLO
    · rename_i hw
      simp only [hw] at h
      exact ⟨fun _ _ => trivial, h⟩

theorem any_round {ops : Array Oper} {md : Region.Mode} {n r : Nat} (hd : ∀ (i : Nat) (o : Oper), ops[i]? = some o → ∀ c, o.op ≠ .defer c) (hLO : ¬ LetsOut Q) :
    ∀ (fuel : Nat) (listed : Array Bool) (a : Act) (w : World), wpAny P md ops Q fuel listed a w → wpAnyIn (Fence.wide.inRound r) n P md ops Q fuel listed a w
  | 0, _, _, _, h => h
  | fuel + 1, _, _, _, h => ⟨h.1, fun i hi => wpOpIn_mono (fun a2 w2 h2 => any_round hd hLO fuel _ a2 w2 h2) (wpOp_round hd hLO (h.2 i hi))⟩

def noDefer (l : List Oper) : Bool := l.all fun o => match o.op with | .defer _ => false | _ => true
theorem noDefer_at {l : List Oper} (h : noDefer l = true) : ∀ (i : Nat) (o : Oper), l.toArray[i]? = some o → ∀ c, o.op ≠ .defer c := fun i o ho c hc => by
  have := List.all_eq_true.1 h o (List.mem_of_getElem? (by simpa using ho))
  rw [hc] at this
  cases this

/-- **A drawn region inside a round**: its last two operations turn memory, those ahead of them make memory alone. -/
theorem region_tail {id n r : Nat} {a : Act} {w : World} {l : List Oper} (C0 : World → Prop) (Y : Nat → Value → World → Prop) (iS : Nat) {oS oT : Oper} (hS : l[iS]? = some oS) (hT : l[iS + 1]? = some oT)
    (hcl : ∀ w w', C0 w → Below w.heap.size w w' → C0 w') (hY : ∀ j v w w', Y j v w → Below w.heap.size w w' → Y j v w')
    (hm : P.follows .mixedOrders = true) (hchk : relB l = true) (hst : tailB l iS = true) (hdf : noDefer l = true) (hLO : ¬ LetsOut Q) (h0 : C0 w.drew)
    (hstep : ∀ (j : Nat) (o : Oper), l[j]? = some o → j < iS → ∀ (vs : Nat → Value) w1, C0 w1 → (∀ k, waits o k → Y k (vs k) w1) →
      stepOut P (fun v w2 => Y j v w2 ∧ Below w1.heap.size w1 w2) ((execOp (mix vs (fun k => decide (k < j)) l 0 a).eval o).run P w1))
    (hend : ∀ (vs : Nat → Value) w1, C0 w1 → (∀ j, j < iS → Y j (vs j) w1) →
      Later (oS.wp P (mix vs (fun k => decide (k < iS)) l 0 a) w1 (fun a2 w2 => oT.wp P a2 w2 (fun a3 w3 => Q .normal a3 w3) Q) Q)) :
    (Code.region id l.toArray true).wpIn (Fence.wide.inRound r) n P Q a w := by
  refine wpIn_region_any hm (any_round (noDefer_at hdf) hLO _ _ _ _ ?_)
  have hf : ∀ j, (Array.replicate l.length false).getD j false = false := fun j => by
    by_cases hj : j < l.length <;> simp [Array.getD_eq_getD_getElem?, hj]
  unfold tailB at hst
  rw [hS, hT] at hst
  simp only [Bool.and_eq_true, decide_eq_true_eq, List.all_eq_true] at hst
  have := rel2_any (Q := Q) (relOk_of hchk) iS hS hT hst.1.1 hcl hY (fun j hj => hst.1.2 j (by simpa using hj)) (waits_of hst.2) hstep (fun vs w1 h1 h2 => (hend vs w1 h1 h2).now) l.length (Array.replicate l.length false) (fun _ => undef) w.drew (by simp) (by simp) h0 (hf _) (hf _) (fun j _ hj => by rw [hf j] at hj; cases hj) (fun j _ _ hj => by rw [hf j] at hj; cases hj)
  rw [mix_none hf] at this
  simpa using this

/-- An append to a slice that the call owns. -/
theorem wp_append (w : World) {o : Oper} {a : Act} {K : Act → World → Prop} (s x : Operand) (t : TypeId) (hop : o.op = Op.call { callee := Callee.builtin Builtin.append, args := #[s, x], argTypes := #[t, t] })
    (base : Nat) (e : TypeId) (i : TypeInfo) (z : Value) (size bytes : Nat) (h1 : P.underlying t = some (.slice e)) (h2 : P.info? e = some i) (h3 : i.zero = some z) (h4 : i.size = size) (h5 : i.bytes = bytes) (h6 : z.cells.size = size) (h7 : 0 < size)
    (v : Value) (k : Nat) (xs : List Value) (hs : a.eval s = v) (hown : w.ownsRow base e size v k xs) (ad : Addr) (m c : Nat) (news : List Value) (hx : a.eval x = .slice (some ad) m c) (hn : news.length = m * size)
    (hc : ∀ j u, news[j]? = some u → w.cell? (ad.add j) = some u) (h1c : ∀ u ∈ news, u.oneCell' = true) (b1 : k + m ≤ maxLen) (b2 : (k + m) * bytes ≤ 140737488355328) (b3 : base ≤ w.heap.size)
    (hK : ∀ v' w', w'.ownsRow base e size v' (k + m) (xs ++ news) → w.grownBy w' v.ownBlock → (v' = .slice none 0 0 ↔ v = .slice none 0 0 ∧ m = 0) → Later (K (a.put o.dst v') w')) : o.wp P a w K Q := by
  obtain ⟨v', w', hrun, r1, r2, r3⟩ := run_append_own (P := P) w base t o.type e i z size bytes h1 h2 h3 h4 h5 h6 h7 v k xs hown ad m c news hn hc h1c b1 b2 b3
  unfold Oper.wp
  simp [execOp, hop, resolve, invoke, builtin, hs, hx, hrun, Result.andThen, Oper.upon]
  exact (hK v' w' r1 r2 r3).now

/-- .. of nothing. -/
theorem wp_append_none (w : World) {o : Oper} {a : Act} {K : Act → World → Prop} (s x : Operand) (t : TypeId) (hop : o.op = Op.call { callee := Callee.builtin Builtin.append, args := #[s, x], argTypes := #[t, t] })
    (base : Nat) (e : TypeId) (i : TypeInfo) (size : Nat) (h1 : P.underlying t = some (.slice e)) (h2 : P.info? e = some i)
    (v : Value) (k : Nat) (xs : List Value) (hs : a.eval s = v) (hown : w.ownsRow base e size v k xs) (hx : a.eval x = .slice none 0 0) (hK : Later (K (a.put o.dst v) w)) : o.wp P a w K Q := by
  have hrun := run_append_owned_none (P := P) w base t o.type e i size h1 h2 v k xs hown
  unfold Oper.wp
  simp [execOp, hop, resolve, invoke, builtin, hs, hx, hrun, Result.andThen, Oper.upon]
  exact hK.now

end
end Go.Proofs.YtmhppadblddjoaaDoor

