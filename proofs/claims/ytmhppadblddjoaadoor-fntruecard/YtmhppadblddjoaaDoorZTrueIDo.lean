import Derived.Test.YtmhppadblddjoaaDoorZTrueIAll
import Derived.Test.YtmhppadblddjoaaDoorZTrueRel
import Derived.Test.YtmhppadblddjoaaDoorZTrueSet6
/- The program's Do. -/
namespace Go.Proofs.YtmhppadblddjoaaDoor
open Go.RowKit Go.Maps

theorem MapAt.turns {w w' : World} {q p len : Nat} {f a : Nat → Int} (h : MapAt w q len f a) (hT : Turns p w w') (hn : q ≠ p) : MapAt w' q len f a := by
  have hlt := h.lt
  obtain ⟨es, clock, hb0, F, hs, hD⟩ := h
  exact ⟨es, clock, (hT.block q hlt hn).trans hb0, F, hs, hD⟩
theorem MapAt.ne {w : World} {q p len : Nat} {f a : Nat → Int} {zs : Array Value} {T : TypeId} (h : MapAt w q len f a) (hp : w.heap[p]? = some (.cells zs T)) : q ≠ p := by
  obtain ⟨es, clock, hb0, -⟩ := h
  rintro rfl
  rw [hp] at hb0
  cases hb0

def idY (B : Nat) (s j m g o : Int) (mv : Value) (len : Nat) (f a : Nat → Int) : Nat → Value → World → Prop
  | 0, v, _ => v = .agg #[.int .i64 s, .int .i64 j, .int .i64 m, .int .i64 g, .int .i64 o]
  | 1, v, _ => v = mv
  | 2, v, w => ∃ q, v = .map (some q) ∧ MapAt w q len f a
  | 3, v, w => ∃ q, v = .agg #[.int .i64 s, .int .i64 j, .int .i64 m, .int .i64 g, .int .i64 o, .map (some q)] ∧ MapAt w q len f a
  | 4, v, w => ∃ p, v = .pointer (some ⟨p, 0, none⟩) ∧ B ≤ p ∧ w.heap[p]? = some (.cells #[.int .i64 0, .int .i64 0, .int .i64 0, .int .i64 0, .int .i64 0, .map none] 73)
  | _, _, _ => True
theorem idY_on {B : Nat} {s j m g o : Int} {mv : Value} {len : Nat} {f a : Nat → Int} : ∀ jj v w w', idY B s j m g o mv len f a jj v w → Below w.heap.size w w' → idY B s j m g o mv len f a jj v w'
  | 0, _, _, _, h, _ => h
  | 1, _, _, _, h, _ => h
  | 2, _, _, _, ⟨q, h1, h2⟩, hb => ⟨q, h1, h2.on hb⟩
  | 3, _, _, _, ⟨q, h1, h2⟩, hb => ⟨q, h1, h2.on hb⟩
  | 4, _, _, _, ⟨p, h1, h2, h3⟩, hb => ⟨p, h1, h2, by rw [hb.block p (Array.getElem?_eq_some_iff.1 h3).1]; exact h3⟩
  | _ + 5, _, _, _, _, _ => trivial
theorem idY_2 {B : Nat} {s j m g o : Int} {mv : Value} {len : Nat} {f a : Nat → Int} {v : Value} {w : World} (h : idY B s j m g o mv len f a 2 v w) : ∃ q, v = .map (some q) ∧ MapAt w q len f a := h
theorem idY_3 {B : Nat} {s j m g o : Int} {mv : Value} {len : Nat} {f a : Nat → Int} {v : Value} {w : World} (h : idY B s j m g o mv len f a 3 v w) : ∃ q, v = .agg #[.int .i64 s, .int .i64 j, .int .i64 m, .int .i64 g, .int .i64 o, .map (some q)] ∧ MapAt w q len f a := h
theorem idY_4 {B : Nat} {s j m g o : Int} {mv : Value} {len : Nat} {f a : Nat → Int} {v : Value} {w : World} (h : idY B s j m g o mv len f a 4 v w) : ∃ p, v = .pointer (some ⟨p, 0, none⟩) ∧ B ≤ p ∧ w.heap[p]? = some (.cells #[.int .i64 0, .int .i64 0, .int .i64 0, .int .i64 0, .int .i64 0, .map none] 73) := h

end Go.Proofs.YtmhppadblddjoaaDoor

/- The program's Do at every slice of marks, nil among them. -/
namespace Go.Proofs.YtmhppadblddjoaaDoor
open Go.RowKit Go.Maps

set_option maxHeartbeats 400000 in
theorem spotsByName_0 (ad : Option Addr) (cap : Nat) (f a : Nat → Int) (w : World) :
    Calls Tryd.prog 36 #[.slice ad 0 cap] w fun e w' => e = .returned (.map (some w.heap.size)) ∧ MapAt w' w.heap.size 0 f a ∧ Below w.heap.size w w' := by
  have hmm : ∀ (n : Int) (w : World), (Instr.makeMap 70 (some (.int .i64 n))).run Tryd.prog w = .ok (.map (some w.heap.size)) (w.alloc (.map #[] 0)) := fun n w => by
    simp [Instr.makeMap, run_underlying Tryd.underlying70]
    rfl
  go_enter Tryd.func36, Tryd.ntmps36
  go_wp2_with fail
  refine wp_loop_rounds 1 ?_
  rw [rounds_succ]
  go_wp2_with fail
  go_ret
  exact ⟨rfl, World.ownsMap_made _ _ _ _, (Below.refl _ _).alloc (Nat.le_refl _) _⟩

theorem spotsByName_e (ad : Option Addr) (cap : Nat) (f a : Nat → Int) (w : World) :
    Calls Tryd.prog 36 #[.slice ad 0 cap] w fun e w' => ∃ q, e = .returned (.map (some q)) ∧ MapAt w' q 0 f a ∧ Below w.heap.size w w' :=
  (spotsByName_0 ad cap f a w).mono fun _ _ h => ⟨_, h⟩

set_option maxHeartbeats 400000 in
theorem implMarksOk_0 (ad : Option Addr) (cap : Nat) (f a : Nat → Int) (w : World) :
    Calls Tryd.prog 33 #[.slice ad 0 cap] w fun e w' => e = .returned (.bool (marksB f a 0)) ∧ Below w.heap.size w w' := by
  go_enter Tryd.func33, Tryd.ntmps33
  go_wp2_with fail
  refine (upTo_c _ _).mono ?_
  rintro e w1 ⟨rfl, hb1⟩
  go_wp2_with fail
  refine wp_loop_rounds 1 ?_
  rw [rounds_succ]
  go_wp2_with fail
  refine (spotsByName_e ad cap f a _).mono ?_
  rintro e w5 ⟨q, rfl, hM5, hb5⟩
  go_wp2_with (first | (at_len; refine wpList_len_own _ rfl _ 70 rfl 3 125 Tryd.underlying70 spotElem q 0 (spots f a 0) rfl hM5 ?_) | fail)
  go_ret
  exact ⟨retB rfl, nbTrans (nbAlloc (nbAlloc hb1 _) _) hb5⟩

theorem implMarksOk_s (ad : Option Addr) (len cap : Nat) (f a : Nat → Int) (w : World) (hl : len ≤ 1048576) (hr : SRow w ad len f a) :
    Calls Tryd.prog 33 #[.slice ad len cap] w fun e w' => e = .returned (.bool (marksB f a len)) ∧ Below w.heap.size w w' := by
  rcases hr with rfl | ⟨b, off, rfl, h⟩
  · exact implMarksOk_0 ad cap f a w
  · exact implMarksOk_c b off len cap f a w hl h
theorem spotsByName_s (ad : Option Addr) (len cap : Nat) (f a : Nat → Int) (w : World) (hl : len ≤ 1048576) (hr : SRow w ad len f a) (hn : Hid (∀ i, i < len → inB (f i) 1 1000000000 = true)) :
    Calls Tryd.prog 36 #[.slice ad len cap] w fun e w' => e = .returned (.map (some w.heap.size)) ∧ MapAt w' w.heap.size len f a ∧ Below w.heap.size w w' := by
  rcases hr with rfl | ⟨b, off, rfl, h⟩
  · exact spotsByName_0 ad cap f a w
  · exact spotsByName_c b off len cap f a w hl h hn

end Go.Proofs.YtmhppadblddjoaaDoor

