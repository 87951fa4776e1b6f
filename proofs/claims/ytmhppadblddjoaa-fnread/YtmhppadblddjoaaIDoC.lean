/- The program's Do at every slice of marks, nil among them. -/
import Derived.Test.YtmhppadblddjoaaIDo
namespace Go.Proofs.Ytmhppadblddjoaa
open Go.RowKit Go.Maps

set_option maxHeartbeats 400000 in
theorem spotsByName_0 (ad : Option Addr) (cap : Nat) (f a : Nat → Int) (w : World) :
    Calls Try.prog 38 #[.slice ad 0 cap] w fun e w' => e = .returned (.map (some w.heap.size)) ∧ MapAt w' w.heap.size 0 f a ∧ Below w.heap.size w w' := by
  have hmm : ∀ (n : Int) (w : World), (Instr.makeMap 63 (some (.int .i64 n))).run Try.prog w = .ok (.map (some w.heap.size)) (w.alloc (.map #[] 0)) := fun n w => by
    simp [Instr.makeMap, run_underlying Try.underlying63]
    rfl
  go_enter Try.func38, Try.ntmps38
  go_wp2_with fail
  refine wp_loop_rounds 1 ?_
  rw [rounds_succ]
  go_wp2_with fail
  go_ret
  exact ⟨rfl, World.ownsMap_made _ _ _ _, (Below.refl _ _).alloc (Nat.le_refl _) _⟩

theorem spotsByName_e (ad : Option Addr) (cap : Nat) (f a : Nat → Int) (w : World) :
    Calls Try.prog 38 #[.slice ad 0 cap] w fun e w' => ∃ q, e = .returned (.map (some q)) ∧ MapAt w' q 0 f a ∧ Below w.heap.size w w' :=
  (spotsByName_0 ad cap f a w).mono fun _ _ h => ⟨_, h⟩

set_option maxHeartbeats 400000 in
theorem implMarksOk_0 (ad : Option Addr) (cap : Nat) (f a : Nat → Int) (w : World) :
    Calls Try.prog 57 #[.slice ad 0 cap] w fun e w' => e = .returned (.bool (marksB f a 0)) ∧ Below w.heap.size w w' := by
  go_enter Try.func57, Try.ntmps57
  go_wp2_with fail
  refine (upTo_c _ _).mono ?_
  rintro e w1 ⟨rfl, hb1⟩
  go_wp2_with fail
  refine wp_loop_rounds 1 ?_
  rw [rounds_succ]
  go_wp2_with fail
  refine (spotsByName_e ad cap f a _).mono ?_
  rintro e w5 ⟨q, rfl, hM5, hb5⟩
  go_wp2_with (first | (at_len; refine wpList_len_own _ rfl _ 63 rfl 3 99 Try.underlying63 spotElem q 0 (spots f a 0) rfl hM5 ?_) | fail)
  go_ret
  exact ⟨retB rfl, nbTrans (nbAlloc (nbAlloc hb1 _) _) hb5⟩

theorem implMarksOk_s (ad : Option Addr) (len cap : Nat) (f a : Nat → Int) (w : World) (hl : len ≤ 1048576) (hr : SRow w ad len f a) :
    Calls Try.prog 57 #[.slice ad len cap] w fun e w' => e = .returned (.bool (marksB f a len)) ∧ Below w.heap.size w w' := by
  rcases hr with rfl | ⟨b, off, rfl, h⟩
  · exact implMarksOk_0 ad cap f a w
  · exact implMarksOk_c b off len cap f a w hl h
theorem spotsByName_s (ad : Option Addr) (len cap : Nat) (f a : Nat → Int) (w : World) (hl : len ≤ 1048576) (hr : SRow w ad len f a) (hn : Hid (∀ i, i < len → inB (f i) 1 1000000000 = true)) :
    Calls Try.prog 38 #[.slice ad len cap] w fun e w' => e = .returned (.map (some w.heap.size)) ∧ MapAt w' w.heap.size len f a ∧ Below w.heap.size w w' := by
  rcases hr with rfl | ⟨b, off, rfl, h⟩
  · exact spotsByName_0 ad cap f a w
  · exact spotsByName_c b off len cap f a w hl h hn

theorem mk_name {f a : Nat → Int} {n k : Nat} (h : marksB f a n = true) (hk : k < n) : inB (f k) 1 1000000000 = true := by
  unfold marksB marksTo at h
  rw [Bool.and_eq_true, List.all_eq_true] at h
  have := h.1 k (by simpa using hk)
  unfold stepB at this
  simp only [Bool.and_eq_true] at this
  exact this.1.2

theorem implDo_s (ad : Option Addr) (len cap : Nat) (f a : Nat → Int) (s j m g o : Int) (t : St) (op n : Int) (w : World) (hl : len ≤ 1048576) (hrow : SRow w ad len f a) :
    Calls Try.prog 13 #[.agg #[.int .i64 s, .int .i64 j, .int .i64 m, .int .i64 g, .int .i64 o], .slice ad len cap, t.v, .agg #[.int .i64 op, .int .i64 n]] w fun e w' => e = .returned (doA s j m g o len f a t op n).v ∧ Below w.heap.size w w' := by
  cases hall : (rOk s j m g o && stB (marksB f a len) len t.kn t.l t.h t.si t.la t.od && evB op n)
  · refine calls_eq ?_ (implDo_bad ad len cap f a s j m g o t.kn t.l t.h t.si t.la t.od op n w hl (fun w' hb => implMarksOk_s ad len cap f a w' hl (hrow.on hb)) hall)
    simp [doA, hall, St.v]
  · have hA : doA s j m g o len f a t op n = doM s j m len f a t op n := by simp [doA, hall]
    rw [hA]
    simp only [Bool.and_eq_true] at hall
    obtain ⟨⟨hr, hst⟩, hev⟩ := hall
    have hmk := (st_parts hst).1
    exact implDo_ok ad len cap f a s j m g o t.kn t.l t.h t.si t.la t.od op n w hl (fun w' hb => implMarksOk_s ad len cap f a w' hl (hrow.on hb)) hr hst hev (fun w' hb => spotsByName_s ad len cap f a w' hl (hrow.on hb) (fun i hi => mk_name hmk hi)) (doM s j m len f a t op n) (fun q w hM => after_c s j m g o q len f a t op n w hM hr hst hev)

end Go.Proofs.Ytmhppadblddjoaa
