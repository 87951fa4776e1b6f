import Derived.Test.YtmhppadblddjoaaDoorZTrueMo
/- Chapter 4 of the program: Fair. -/
namespace Go.Proofs.YtmhppadblddjoaaDoor
open Go.RowKit Go.Shelf
attribute [local go_sem] Oper.semAt_some

theorem KpR_t {n₀ rb : Nat} {A B C : World} (h1 : KpR n₀ rb A B) (h2 : KpR n₀ rb B C) : KpR n₀ rb A C := ⟨h1.1.trans h2.1, h2.2.trans h1.2⟩
theorem KpR_b {w : World} {n₀ rb : Nat} (hn : n₀ ≤ w.heap.size) (hr : rb < w.heap.size) (W : World) (l : Nat) (o o' : Obj) (hl : w.heap.size ≤ l) (h1 : W.heap[l]? = some o) (h2 : o.isCells = false) (h3 : o.isWalk = false) : KpR n₀ rb W (W.putObj l o') :=
  ⟨belowK_b hn W l o o' hl h1 h2 h3, (grownBy_putObj' W l o').block rb (by have := (Array.getElem?_eq_some_iff.1 h1).1; omega) (by intro e; cases e; omega)⟩

theorem moments_stops (d n₀ xb tb rb bt ot n c : Nat) (ad : Option Addr) (s j m g o x0 : Int) (tf tc : Nat → Int) (w : World) (hr : rOk s j m g o = true) (hn : n ≤ 2000) (hx0 : 0 ≤ x0) (hx1 : x0 ≤ 100000000) (hrb : rb < w.heap.size) (hn₀ : n₀ ≤ w.heap.size)
    (hxb : w.cell? ⟨xb, 0, none⟩ = some (.int .i64 x0)) (htb : w.cell? ⟨tb, 0, none⟩ = some (.slice ad n c)) (hRb : w.heap[rb]? = some (.cells #[.int .i64 s, .int .i64 j, .int .i64 m, .int .i64 g, .int .i64 o] 24))
    (hT : At2 w ad n tf tc bt ot) (hbt : 0 < n → bt < n₀) :
    SeqStopsK Fence.wide d Tryd.prog 85 #[.pointer (some ⟨xb, 0, none⟩), .pointer (some ⟨tb, 0, none⟩), .pointer (some ⟨rb, 0, none⟩)] (fun x : Fin n => #[.agg #[.int .i64 (momI tf tc x.1), .int .i64 (momF x0 tf tc x.1)], erT s j x0 tf tc x.1]) (KpR n₀ rb)
      (fun ys => ∃ k, k ≤ n ∧ ys = up n k ∧ (k = n ∨ ∃ i ∈ ys, numB (tf i.1) (tc i.1) = false)) (fun pre => ∃ k, k ≤ n ∧ pre = up n k) n w := fun l J Jx W hW hJ _ hY h0 =>
  momentsC_in d l n₀ xb tb rb bt ot n c ad s j m g o x0 tf tc hr hn hx0 hx1 J Jx W hJ (Nat.lt_of_lt_of_le hrb hW.size) (Nat.le_trans hn₀ hW.size) hY (cellOn hW hxb) (cellOn hW htb) ((hW.block rb hrb).trans hRb) ⟨hT.1, hT.2.on hW⟩ hbt h0

theorem tick_all {s j : Int} {f a : Nat → Int} {n : Nat} (h : ∀ i, i < n → tickB s j (f i) (a i) = true) : tickTo s j f a n = true := by
  unfold tickTo
  rw [List.all_eq_true]
  intro i hi
  exact h i (by simpa using hi)
theorem fd_fair (s j x0 : Int) (tf tc : Nat → Int) (i : Nat) : (if fdT s j x0 tf tc i = 0 then false else hasB (fdT s j x0 tf tc i) 3) = !tickB s j (tf i) (tc i) := by
  unfold fdT fdOf tickB
  cases numB (tf i) (tc i)
  · kernel_rfl
  · cases fairB s j (tf i) (tc i) <;> by_cases h : 100000000 < pos x0 tf (i + 1) <;> simp [h] <;> kernel_rfl
theorem hasFault_f (s j x0 : Int) (tf tc : Nat → Int) (i : Nat) (w : World) (hV : Vars w) :
    Calls Tryd.prog 52 #[erT s j x0 tf tc i, .int .i64 3] w fun e w' => e = .returned (.bool (!tickB s j (tf i) (tc i))) ∧ Below w.heap.size w w' := by
  rw [← fd_fair s j x0 tf tc i]
  exact hasFault_c _ _ _ _ hV
theorem keepsOfBelow {W W' : World} (h : Below W.heap.size W W') : KeepsOthers W W' := KeepsOthers.of_grownBy (row := none) ⟨h.os, h.tape, h.output, h.size, fun i hi _ => h.block i hi⟩ (fun _ _ e => by cases e)
theorem up_all (n : Nat) : up n n = List.finRange n := List.take_of_length_le (by simp)

set_option maxRecDepth 100000 in
set_option maxHeartbeats 4000000 in
theorem implFair_ok (ad : Option Addr) (len cap : Nat) (f a : Nat → Int) (s j m g o : Int) (w : World) (hrow : SRow w ad len f a) (hV : Vars w) (hr : rOk s j m g o = true) (hn : len ≤ 2000) :
    Calls Tryd.prog 14 #[.agg #[.int .i64 s, .int .i64 j, .int .i64 m, .int .i64 g, .int .i64 o], .slice ad len cap] w fun e w' => e = .returned (.bool (tickTo s j f a len)) ∧ Below w.heap.size w w' := by
  have i2 : ¬ (2000 : Int) < (len : Int) := by omega
  refine (callsIn_wide (n := 3)).1 ?_
  refine callsIn_of_wp_marks Tryd.func14 rfl trivial ?_ rfl
  simp only [Tryd.ntmps14, List.size_toArray, List.length_cons, List.length_nil, Nat.reduceAdd, Nat.reduceSub, Array.replicate_succ, Array.replicate_zero, List.push_toArray, List.append_toArray, List.nil_append, List.cons_append]
  gi_wp2_with fail
  refine ⟨trivial, (callsIn_wide.2 (implRulesOk_c _ _ _ _ _ _)).mono ?_⟩
  rintro e w1 ⟨rfl, hb1⟩
  simp only [hr]
  have c0 := cellOn hb1 (show ((w.alloc (.cells #[.int .i64 s, .int .i64 j, .int .i64 m, .int .i64 g, .int .i64 o] 24)).alloc (.cells #[.bool false] 4)).cell? ⟨w.heap.size, 0, none⟩ = some (.int .i64 s) by go_simp)
  have c1 := cellOn hb1 (show ((w.alloc (.cells #[.int .i64 s, .int .i64 j, .int .i64 m, .int .i64 g, .int .i64 o] 24)).alloc (.cells #[.bool false] 4)).cell? ⟨w.heap.size, 1, none⟩ = some (.int .i64 j) by go_simp)
  have c2 := cellOn hb1 (show ((w.alloc (.cells #[.int .i64 s, .int .i64 j, .int .i64 m, .int .i64 g, .int .i64 o] 24)).alloc (.cells #[.bool false] 4)).cell? ⟨w.heap.size, 2, none⟩ = some (.int .i64 m) by go_simp)
  have c3 := cellOn hb1 (show ((w.alloc (.cells #[.int .i64 s, .int .i64 j, .int .i64 m, .int .i64 g, .int .i64 o] 24)).alloc (.cells #[.bool false] 4)).cell? ⟨w.heap.size, 3, none⟩ = some (.int .i64 g) by go_simp)
  have c4 := cellOn hb1 (show ((w.alloc (.cells #[.int .i64 s, .int .i64 j, .int .i64 m, .int .i64 g, .int .i64 o] 24)).alloc (.cells #[.bool false] 4)).cell? ⟨w.heap.size, 4, none⟩ = some (.int .i64 o) by go_simp)
  gi_wp2_with fail
  refine ⟨trivial, (callsIn_wide.2 (moments_c _ _ _ _ _ _ _ _ _ _)).mono ?_⟩
  rintro e w2 ⟨rfl, rfl⟩
  gi_wp2_with fail
  obtain ⟨bt, ot, hT1⟩ := hrow.at
  have hbt : 0 < len → bt < w.heap.size := fun h => ltCell (hT1.2 0 h).1
  have hBa : Below w.heap.size w w1 := nbTrans (nbAlloc (nbAlloc (Below.refl _ _) _) _) hb1
  have hs1 : w.heap.size + 1 + 1 ≤ w1.heap.size := by have h9 : (Array.push (Array.push _ _) _).size ≤ _ := hb1.size; rw [Array.size_push, Array.size_push] at h9; exact h9
  have r0 := cellOn hb1 (show ((w.alloc (.cells #[.int .i64 s, .int .i64 j, .int .i64 m, .int .i64 g, .int .i64 o] 24)).alloc (.cells #[.bool false] 4)).cell? ⟨w.heap.size + 1, 0, none⟩ = some (.bool false) by go_simp)
  have r1 := frozenOn hb1 (show ((w.alloc (.cells #[.int .i64 s, .int .i64 j, .int .i64 m, .int .i64 g, .int .i64 o] 24)).alloc (.cells #[.bool false] 4)).cell? ⟨w.heap.size + 1, 0, none⟩ = some (.bool false) by go_simp) (by go_simp)
  clear c0 c1 c2 c3 c4 hb1
  have x0c : (((w1.alloc (.cells #[.int .i64 s, .int .i64 j, .int .i64 m, .int .i64 g, .int .i64 o] 24)).alloc (.cells #[.int .i64 0] 3)).alloc (.cells #[.slice ad len cap] 39)).cell? ⟨w1.heap.size + 1, 0, none⟩ = some (.int .i64 0) := by go_simp
  have tbc : (((w1.alloc (.cells #[.int .i64 s, .int .i64 j, .int .i64 m, .int .i64 g, .int .i64 o] 24)).alloc (.cells #[.int .i64 0] 3)).alloc (.cells #[.slice ad len cap] 39)).cell? ⟨w1.heap.size + 1 + 1, 0, none⟩ = some (.slice ad len cap) := by go_simp
  obtain ⟨W0, hW0⟩ : ∃ W0, ((w1.alloc (.cells #[.int .i64 s, .int .i64 j, .int .i64 m, .int .i64 g, .int .i64 o] 24)).alloc (.cells #[.int .i64 0] 3)).alloc (.cells #[.slice ad len cap] 39) = W0 := ⟨_, rfl⟩
  have hB1 : Below w1.heap.size w1 W0 := by rw [← hW0]; exact nbAlloc (nbAlloc (nbAlloc (Below.refl _ _) _) _) _
  have hz : W0.heap.size = w1.heap.size + 1 + 1 + 1 := by rw [← hW0]; simp
  rw [hW0] at x0c tbc
  have rbc : W0.heap[w1.heap.size]? = some (.cells #[.int .i64 s, .int .i64 j, .int .i64 m, .int .i64 g, .int .i64 o] 24) := by
    rw [← hW0]
    exact ((nbAlloc (nbAlloc (Below.refl (w1.alloc (.cells #[.int .i64 s, .int .i64 j, .int .i64 m, .int .i64 g, .int .i64 o] 24)).heap.size _) _) _).block w1.heap.size (by simp)).trans (newBlkD _ _ rfl)
  have hB0 : Below w.heap.size w W0 := nbTrans hBa hB1
  have q0 := cellOn hB1 r0
  have q1 := frozenOn hB1 r0 r1
  rw [hW0]
  clear hW0 r0 r1
  refine wpIn_rangeFunc_ownG (F := Fence.wide) rfl (by omega) (gf := 85) (lb := #[.pointer (some ⟨w1.heap.size + 1, 0, none⟩), .pointer (some ⟨w1.heap.size + 1 + 1, 0, none⟩), .pointer (some ⟨w1.heap.size, 0, none⟩)]) rfl trivial (enters_of Tryd.func85 (by kernel_rfl) rfl)
    (moments_stops _ w.heap.size (w1.heap.size + 1) (w1.heap.size + 1 + 1) w1.heap.size bt ot len cap ad s j m g o 0 f a W0 hr hn (by omega) (by omega) (by omega) (by omega) x0c tbc rbc ⟨hT1.1, hT1.2.on hB0⟩ hbt)
    KpR_t (KpR_b (by omega) (by omega)) (Below.refl _ _) (fun _ => rfl)
    (fun pre W => ((∀ i ∈ pre, tickB s j (f i.1) (a i.1) = true) ∧ W.cell? ⟨w.heap.size + 1, 0, none⟩ = some (.bool false) ∧ W.frozen? ⟨w.heap.size + 1, 0, none⟩ = false ∧ w1.heap.size < W.heap.size) ∧ Below w.heap.size w W)
    (fun c pre W => (c = .ret ∧ (∃ i ∈ pre, tickB s j (f i.1) (a i.1) = false) ∧ W.cell? ⟨w.heap.size + 1, 0, none⟩ = some (.bool false)) ∧ Below w.heap.size w W)
    (OwnFrom.and (Own.from (fun s A B row hs hg hr => ⟨hs.1, cell_kept hs.2.1 hg hr, (frozen_kept hs.2.1 hg hr).trans hs.2.2.1, Nat.lt_of_lt_of_le hs.2.2.2 hg.size⟩) _) (ownFrom_below (Nat.le_refl _) (by omega)))
    (fun c => OwnFrom.and (Own.from (fun s A B row hs hg hr => ⟨hs.1, hs.2.1, cell_kept hs.2.2 hg hr⟩) _) (ownFrom_below (Nat.le_refl _) (by omega)))
    ⟨⟨by simp, q0, q1, by omega⟩, hB0⟩
    (fun x => { tmps := #[.agg #[.int .i64 s, .int .i64 j, .int .i64 m, .int .i64 g, .int .i64 o], .slice ad len cap, .pointer (some ⟨w.heap.size, 0, none⟩), undef, .pointer (some ⟨w.heap.size + 1, 0, none⟩), undef, erT s j 0 f a x.1, .agg #[.int .i64 s, .int .i64 j, .int .i64 m, .int .i64 g, .int .i64 o], .bool true, .bool false, .bool false, .slice ad len cap, .int .i64 len, .bool (decide (2000 < (len : Int))), .bool (decide (2000 < (len : Int))), .agg #[.int .i64 s, .int .i64 j, .int .i64 m, .int .i64 g, .int .i64 o], .slice ad len cap, .func (.func 85) #[] #[.pointer (some ⟨w1.heap.size + 1, 0, none⟩), .pointer (some ⟨w1.heap.size + 1 + 1, 0, none⟩), .pointer (some ⟨w1.heap.size, 0, none⟩)], (.agg #[.int .i64 (momI f a x.1), .int .i64 (momF 0 f a x.1)]), erT s j 0 f a x.1, undef, undef], defers := [] }) ?assign ?body ?done ?stop
  case assign =>
    intro l x W K hK
    gi_wp2
    exact hK
  case body =>
    rintro l pre x W ⟨⟨hp, hcr, hfr, hsz⟩, hB⟩ _
    have HF := hasFault_f s j 0 f a x.1 W (hV.on hB)
    cases ht : tickB s j (f x.1) (a x.1)
    · rw [ht] at HF
      gi_wp2_with fail
      refine ⟨trivial, (CallsIn.inRound l (callsIn_wide.2 HF)).mono ?_⟩
      rintro e w3 ⟨rfl, hb3⟩
      simp only [Bool.not_false]
      have hB3 := nbTrans hB hb3
      have z0 := cellOn hb3 hcr
      have z1 := frozenOn hb3 hcr hfr
      gi_wp2
      exact ⟨(KeepsOthers.trans (keepsOfBelow hb3) (KeepsOthers.setCell _ _ _)).from _, ⟨rfl, ⟨x, by simp, ht⟩, World.cell?_setCell_same' _ _ _ (by rw [z0]; rfl)⟩, hB3.setCell (p := ⟨w.heap.size + 1, 0, none⟩) (by simp) _⟩
    · rw [ht] at HF
      gi_wp2_with fail
      refine ⟨trivial, (CallsIn.inRound l (callsIn_wide.2 HF)).mono ?_⟩
      rintro e w3 ⟨rfl, hb3⟩
      simp only [Bool.not_true]
      have hB3 := nbTrans hB hb3
      have z0 := cellOn hb3 hcr
      have z1 := frozenOn hb3 hcr hfr
      gi_wp2
      exact ⟨(keepsOfBelow hb3).from _, ⟨hb3.mono hB.size, hb3.block _ hsz⟩, ⟨fun i hi => (List.mem_append.1 hi).elim (hp i) (fun e => by simp at e; subst e; exact ht), z0, z1, by have := hb3.size; omega⟩, hB3⟩
  case done =>
    rintro D ys W hD ⟨k, hk, rfl, hS⟩ ⟨⟨hne, hcr, hfr, _⟩, hB⟩ hK
    gi_wp2
    have hK' := (KeepsOthers.setCell W ⟨w.heap.size + 1, 0, none⟩ (.bool true)).same D _ hK rfl
    refine ⟨by simp, .inl ⟨_, _, rfl, run_takeDeferred hK', ?_⟩⟩
    have hc5 := cell_kept (World.cell?_setCell_same' W ⟨w.heap.size + 1, 0, none⟩ (.bool true) (by rw [hcr]; rfl)) (grownBy_putObj' _ D (.deferred none)) (fun r e => by cases e; exact ⟨_, hK', rfl⟩)
    refine ⟨.bool true, ?_, ?_, (hB.setCell (p := ⟨w.heap.size + 1, 0, none⟩) (by simp) _).trans (belowK_b (w := w) (Nat.le_refl _) _ D _ _ (by have := hB1.size; omega) hK' rfl rfl)⟩
    · simp [results, Tryd.f14, go_sem, hc5]
    · rw [tick_all (fun i hi => ?_)]
      rcases hS with rfl | ⟨i2, h1, h2⟩
      · exact hne ⟨i, hi⟩ (by rw [up_all]; exact List.mem_finRange _)
      · have := hne i2 h1
        simp [tickB, h2] at this
  case stop =>
    rintro D c pre W hD ⟨k, hk, rfl⟩ ⟨⟨rfl, ⟨i, hi, hbad⟩, hcr⟩, hB⟩ hK
    gi_wp2
    refine ⟨by simp, .inl ⟨_, _, rfl, run_takeDeferred hK, ?_⟩⟩
    have hc5 := cell_kept hcr (grownBy_putObj' _ D (.deferred none)) (fun r e => by cases e; exact ⟨_, hK, rfl⟩)
    refine ⟨.bool false, ?_, by rw [tickTo_no i.2 hbad], hB.trans (belowK_b (w := w) (Nat.le_refl _) W D _ _ (by have := hB1.size; omega) hK rfl rfl)⟩
    simp [results, Tryd.f14, go_sem, hc5]

set_option maxRecDepth 100000 in
set_option maxHeartbeats 2000000 in
theorem implFair_bad (ad : Option Addr) (len cap : Nat) (s j m g o : Int) (w : World) (hbad : (rOk s j m g o && decide (len ≤ 2000)) = false) :
    Calls Tryd.prog 14 #[.agg #[.int .i64 s, .int .i64 j, .int .i64 m, .int .i64 g, .int .i64 o], .slice ad len cap] w fun e w' => e = .returned (.bool false) ∧ Below w.heap.size w w' := by
  cases hr : rOk s j m g o
  · go_enter Tryd.func14, Tryd.ntmps14
    go_wp2_with fail
    refine (implRulesOk_c _ _ _ _ _ _).mono ?_
    rintro e w1 ⟨rfl, hb1⟩
    simp only [hr]
    have r0 := cellOn hb1 (show ((w.alloc (.cells #[.int .i64 s, .int .i64 j, .int .i64 m, .int .i64 g, .int .i64 o] 24)).alloc (.cells #[.bool false] 4)).cell? ⟨w.heap.size + 1, 0, none⟩ = some (.bool false) by go_simp)
    have r1 := frozenOn hb1 (show ((w.alloc (.cells #[.int .i64 s, .int .i64 j, .int .i64 m, .int .i64 g, .int .i64 o] 24)).alloc (.cells #[.bool false] 4)).cell? ⟨w.heap.size + 1, 0, none⟩ = some (.bool false) by go_simp) (by go_simp)
    go_wp2_with fail
    have hc5 := World.cell?_setCell_same' w1 ⟨w.heap.size + 1, 0, none⟩ (.bool false) (by rw [r0]; rfl)
    exact bodyPost_ret (v := .bool false) (by simp [results, Tryd.f14, go_sem, hc5]) rfl ⟨rfl, (nbTrans (nbAlloc (nbAlloc (Below.refl _ _) _) _) hb1).setCell (p := ⟨w.heap.size + 1, 0, none⟩) (by simp) _⟩
  · have h2 : (2000 : Int) < (len : Int) := by simp [hr] at hbad; omega
    go_enter Tryd.func14, Tryd.ntmps14
    go_wp2_with fail
    refine (implRulesOk_c _ _ _ _ _ _).mono ?_
    rintro e w1 ⟨rfl, hb1⟩
    simp only [hr]
    have r0 := cellOn hb1 (show ((w.alloc (.cells #[.int .i64 s, .int .i64 j, .int .i64 m, .int .i64 g, .int .i64 o] 24)).alloc (.cells #[.bool false] 4)).cell? ⟨w.heap.size + 1, 0, none⟩ = some (.bool false) by go_simp)
    have r1 := frozenOn hb1 (show ((w.alloc (.cells #[.int .i64 s, .int .i64 j, .int .i64 m, .int .i64 g, .int .i64 o] 24)).alloc (.cells #[.bool false] 4)).cell? ⟨w.heap.size + 1, 0, none⟩ = some (.bool false) by go_simp) (by go_simp)
    go_wp2_with fail
    have hc5 := World.cell?_setCell_same' w1 ⟨w.heap.size + 1, 0, none⟩ (.bool false) (by rw [r0]; rfl)
    exact bodyPost_ret (v := .bool false) (by simp [results, Tryd.f14, go_sem, hc5]) rfl ⟨rfl, (nbTrans (nbAlloc (nbAlloc (Below.refl _ _) _) _) hb1).setCell (p := ⟨w.heap.size + 1, 0, none⟩) (by simp) _⟩

theorem implFair_s (ad : Option Addr) (len cap : Nat) (f a : Nat → Int) (s j m g o : Int) (w : World) (_ : len ≤ 1048576) (hrow : SRow w ad len f a) (hV : Vars w) :
    Calls Tryd.prog 14 #[.agg #[.int .i64 s, .int .i64 j, .int .i64 m, .int .i64 g, .int .i64 o], .slice ad len cap] w fun e w' => e = .returned (.bool (fairA s j m g o f a len)) ∧ Below w.heap.size w w' := by
  unfold fairA
  cases hb : rOk s j m g o && decide (len ≤ 2000)
  · exact implFair_bad ad len cap s j m g o w hb
  · rw [Bool.and_eq_true, decide_eq_true_eq] at hb
    exact implFair_ok ad len cap f a s j m g o w hrow hV hb.1 hb.2

end Go.Proofs.YtmhppadblddjoaaDoor

