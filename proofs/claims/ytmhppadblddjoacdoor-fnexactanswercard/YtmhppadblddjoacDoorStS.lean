import Derived.Test.YtmhppadblddjoacDoorRun
import Derived.Test.YtmhppadblddjoacDoorTurn
namespace Go.Proofs.YtmhppadblddjoacDoor
open Go.RowKit

/-- A row of states, as the walk reads it. -/
def Row6 (w : World) (q n : Nat) (t : Nat → St) : Prop :=
  ∀ i, i < n → w.cell? ⟨q, i * 6, none⟩ = some (.bool (t i).kn) ∧ w.cell? ⟨q, i * 6 + 1, none⟩ = some (.int .i64 (t i).l) ∧ w.cell? ⟨q, i * 6 + 2, none⟩ = some (.int .i64 (t i).h) ∧ w.cell? ⟨q, i * 6 + 3, none⟩ = some (.int .i64 (t i).si) ∧ w.cell? ⟨q, i * 6 + 4, none⟩ = some (.int .i64 (t i).la) ∧ w.cell? ⟨q, i * 6 + 5, none⟩ = some (.int .i64 (t i).od)
theorem Row6.on {w w' : World} {q n : Nat} {t : Nat → St} (h : Row6 w q n t) (hb : Below w.heap.size w w') : Row6 w' q n t :=
  fun i hi => ⟨cellOn hb (h i hi).1, cellOn hb (h i hi).2.1, cellOn hb (h i hi).2.2.1, cellOn hb (h i hi).2.2.2.1, cellOn hb (h i hi).2.2.2.2.1, cellOn hb (h i hi).2.2.2.2.2⟩

theorem runCs_len (s j m g o : Int) (len : Nat) (f a : Nat → Int) (l h : Int) (fe ge : Nat → Int) : ∀ n, (runCs s j m g o len f a l h fe ge n).length = n * 6
  | 0 => rfl
  | n + 1 => by rw [runCs, List.length_append, runCs_len]; simp [St.cs]; omega
theorem runCs_get (s j m g o : Int) (len : Nat) (f a : Nat → Int) (l h : Int) (fe ge : Nat → Int) (c : Nat) (hc : c < 6) : ∀ n i, i < n → (runCs s j m g o len f a l h fe ge n)[i * 6 + c]? = (runSt s j m g o len f a l h fe ge (i + 1)).cs[c]?
  | 0, i, hi => by omega
  | n + 1, i, hi => by
    have hL := runCs_len s j m g o len f a l h fe ge n
    rw [runCs]
    by_cases hin : i < n
    · rw [List.getElem?_append_left (by omega)]
      exact runCs_get s j m g o len f a l h fe ge c hc n i hin
    · have : i = n := by omega
      subst this
      rw [List.getElem?_append_right (by omega), hL]
      congr 1
      omega

/-- A slice of states that owns its memory, or nil. -/
def StRow (w : World) (B : Nat) (v : Value) (n : Nat) (t : Nat → St) : Prop :=
  ∃ a cap, v = .slice a n cap ∧ (n = 0 ∨ ∃ q, a = some ⟨q, 0, none⟩ ∧ B ≤ q ∧ Row6 w q n t ∧ ∀ i, i < n * 6 → w.frozen? ⟨q, i, none⟩ = false)
theorem stRow_of {w : World} {B : Nat} {v : Value} {n : Nat} {s j m g o : Int} {len : Nat} {f a : Nat → Int} {l h : Int} {fe ge : Nat → Int} (hw : w.ownsRow B 94 6 v n (runCs s j m g o len f a l h fe ge n)) :
    StRow w B v n fun i => runSt s j m g o len f a l h fe ge (i + 1) := by
  obtain ⟨h1, h2⟩ := hw
  rcases h2 with ⟨rfl, rfl⟩ | ⟨q, cap, cur, rfl, hg, hh, hn, hm, hs, htk⟩
  · exact ⟨none, 0, rfl, .inl rfl⟩
  · refine ⟨some ⟨q, 0, none⟩, cap, rfl, .inr ⟨q, rfl, hg, ?_, fun i _ => Joins.unfrozen_of_block hh i⟩⟩
    have key : ∀ i c, i < n → c < 6 → w.cell? ⟨q, i * 6 + c, none⟩ = (runSt s j m g o len f a l h fe ge (i + 1)).cs[c]? := fun i c hi hc => by
      rw [Joins.cell_of_block hh, ← runCs_get s j m g o len f a l h fe ge c hc n i hi, ← htk, List.getElem?_take]
      rw [if_pos (by omega)]
      simp
    intro i hi
    exact ⟨(key i 0 hi (by omega)).trans rfl, (key i 1 hi (by omega)).trans rfl, (key i 2 hi (by omega)).trans rfl, (key i 3 hi (by omega)).trans rfl, (key i 4 hi (by omega)).trans rfl, (key i 5 hi (by omega)).trans rfl⟩

def e6C (w : World) (p q k : Nat) (t : St) : World → Prop := fun w' => w'.cell? ⟨p, k * 6, none⟩ = some (.bool t.kn) ∧ w'.cell? ⟨p, k * 6 + 1, none⟩ = some (.int .i64 t.l) ∧ w'.cell? ⟨p, k * 6 + 2, none⟩ = some (.int .i64 t.h) ∧ w'.cell? ⟨p, k * 6 + 3, none⟩ = some (.int .i64 t.si) ∧ w'.cell? ⟨p, k * 6 + 4, none⟩ = some (.int .i64 t.la) ∧ w'.cell? ⟨p, k * 6 + 5, none⟩ = some (.int .i64 t.od) ∧ w'.cell? ⟨q, k * 6, none⟩ = some (.bool t.kn) ∧ w'.cell? ⟨q, k * 6 + 1, none⟩ = some (.int .i64 t.l) ∧ w'.cell? ⟨q, k * 6 + 2, none⟩ = some (.int .i64 t.h) ∧ w'.cell? ⟨q, k * 6 + 3, none⟩ = some (.int .i64 t.si) ∧ w'.cell? ⟨q, k * 6 + 4, none⟩ = some (.int .i64 t.la) ∧ w'.cell? ⟨q, k * 6 + 5, none⟩ = some (.int .i64 t.od) ∧ Below w.heap.size w w'
theorem e6C_on {w : World} {p q k : Nat} {t : St} {w1 w2 : World} (hh : e6C w p q k t w1) (hb : Below w1.heap.size w1 w2) : e6C w p q k t w2 :=
  ⟨cellOn hb hh.1, cellOn hb hh.2.1, cellOn hb hh.2.2.1, cellOn hb hh.2.2.2.1, cellOn hb hh.2.2.2.2.1, cellOn hb hh.2.2.2.2.2.1, cellOn hb hh.2.2.2.2.2.2.1, cellOn hb hh.2.2.2.2.2.2.2.1, cellOn hb hh.2.2.2.2.2.2.2.2.1, cellOn hb hh.2.2.2.2.2.2.2.2.2.1, cellOn hb hh.2.2.2.2.2.2.2.2.2.2.1, cellOn hb hh.2.2.2.2.2.2.2.2.2.2.2.1, nbTrans hh.2.2.2.2.2.2.2.2.2.2.2.2 hb⟩

set_option maxHeartbeats 1000000 in
theorem markMarkS_c (q len c1 : Nat) (x : Int) (f g : Nat → Int) (w : World) (hl : len ≤ 1048576) (hx0 : 0 ≤ x) (hx1 : x ≤ 100000000) (hr : Row2 w q 0 len f g) (hf : ∀ i, i < len * 2 → w.frozen? ⟨q, i, none⟩ = false) :
    Calls Tryd.prog 20 #[.slice (some ⟨q, 0, none⟩) len c1, .int .i64 x] w fun e w' => e = .returned (.int .i64 (x + 2 * len)) ∧ Turns q w w' := by
  have hc0 : ∀ i, i < len * 2 → w.cell? ⟨q, i, none⟩ = some (rdCell w ⟨q, i, none⟩) := fun i hi => by
    have h2 := hr (i / 2) (by omega)
    rcases (by omega : i = 0 + i / 2 * 2 ∨ i = 0 + i / 2 * 2 + 1) with h | h
    · rw [h]; exact rdOf h2.1
    · rw [h]; exact rdOf h2.2
  go_enter Tryd.func20, Tryd.ntmps20
  go_wp2_with fail
  go_loopw [1, 5] (fun xv iv wr => ∃ k : Nat, iv = .int .i64 k ∧ xv = .int .i64 (x + 2 * k) ∧ k ≤ len ∧ (∀ i, i < len * 2 → wr.cell? ⟨q, i, none⟩ = some (rdCell wr ⟨q, i, none⟩)) ∧ (∀ i, i < len * 2 → wr.frozen? ⟨q, i, none⟩ = false) ∧ Turns q w wr) (fun _ iv _ => len - (intOf iv).toNat)
  case atStart => exact ⟨0, rfl, by simp, by omega, hc0, hf, Turns.refl _ _⟩
  case round =>
    obtain ⟨k, rfl, rfl, hk, h2, h3, hT⟩ := hrel
    by_cases hlt : k < len
    · have i0 : (0 : Int) ≤ (k : Int) := by omega
      have i1 : (k : Int) < (len : Int) := by omega
      have e0 := h2 (k * 2) (by omega)
      have e1 := h2 (k * 2 + 1) (by omega)
      have e2 := h3 (k * 2) (by omega)
      have e3 := h3 (k * 2 + 1) (by omega)
      have wr1 : IntKind.i64.wrap (x + 2 * k + 1) = x + 2 * k + 1 := wrapS (by omega) (by omega)
      have wr2 : IntKind.i64.wrap (x + 2 * k + 1 + 1) = x + 2 * k + 1 + 1 := wrapS (by omega) (by omega)
      have H2 : Hid (∀ i, i < len * 2 → wr.cell? ⟨q, i, none⟩ = some (rdCell wr ⟨q, i, none⟩)) := h2
      have H3 : Hid (∀ i, i < len * 2 → wr.frozen? ⟨q, i, none⟩ = false) := h3
      clear h2 h3
      go_wp2_with fail
      go_roundw
      case rel => exact ⟨k + 1, by go_num, (by congr 1; omega), by omega, fun i hi => rdSet2 (H2.out i hi), fun i hi => (World.frozen?_setCell _ _ _ _).trans ((World.frozen?_setCell _ _ _ _).trans (H3.out i hi)), (hT.setCell _ _).setCell _ _⟩
      case measure => simp [intOf]; omega
    · have hkl : len = k := by omega
      subst hkl
      go_wp2_with fail
      go_ret
      exact ⟨rfl, hT⟩

set_option maxHeartbeats 1000000 in
theorem markEventS_c (q len c1 : Nat) (x : Int) (f g : Nat → Int) (w : World) (hl : len ≤ 1048576) (hx0 : 0 ≤ x) (hx1 : x ≤ 100000000) (hr : Row2 w q 0 len f g) (hf : ∀ i, i < len * 2 → w.frozen? ⟨q, i, none⟩ = false) :
    Calls Tryd.prog 23 #[.slice (some ⟨q, 0, none⟩) len c1, .int .i64 x] w fun e w' => e = .returned (.int .i64 (x + 2 * len)) ∧ Turns q w w' := by
  have hc0 : ∀ i, i < len * 2 → w.cell? ⟨q, i, none⟩ = some (rdCell w ⟨q, i, none⟩) := fun i hi => by
    have h2 := hr (i / 2) (by omega)
    rcases (by omega : i = 0 + i / 2 * 2 ∨ i = 0 + i / 2 * 2 + 1) with h | h
    · rw [h]; exact rdOf h2.1
    · rw [h]; exact rdOf h2.2
  go_enter Tryd.func23, Tryd.ntmps23
  go_wp2_with fail
  go_loopw [1, 5] (fun xv iv wr => ∃ k : Nat, iv = .int .i64 k ∧ xv = .int .i64 (x + 2 * k) ∧ k ≤ len ∧ (∀ i, i < len * 2 → wr.cell? ⟨q, i, none⟩ = some (rdCell wr ⟨q, i, none⟩)) ∧ (∀ i, i < len * 2 → wr.frozen? ⟨q, i, none⟩ = false) ∧ Turns q w wr) (fun _ iv _ => len - (intOf iv).toNat)
  case atStart => exact ⟨0, rfl, by simp, by omega, hc0, hf, Turns.refl _ _⟩
  case round =>
    obtain ⟨k, rfl, rfl, hk, h2, h3, hT⟩ := hrel
    by_cases hlt : k < len
    · have i0 : (0 : Int) ≤ (k : Int) := by omega
      have i1 : (k : Int) < (len : Int) := by omega
      have e0 := h2 (k * 2) (by omega)
      have e1 := h2 (k * 2 + 1) (by omega)
      have e2 := h3 (k * 2) (by omega)
      have e3 := h3 (k * 2 + 1) (by omega)
      have wr1 : IntKind.i64.wrap (x + 2 * k + 1) = x + 2 * k + 1 := wrapS (by omega) (by omega)
      have wr2 : IntKind.i64.wrap (x + 2 * k + 1 + 1) = x + 2 * k + 1 + 1 := wrapS (by omega) (by omega)
      have H2 : Hid (∀ i, i < len * 2 → wr.cell? ⟨q, i, none⟩ = some (rdCell wr ⟨q, i, none⟩)) := h2
      have H3 : Hid (∀ i, i < len * 2 → wr.frozen? ⟨q, i, none⟩ = false) := h3
      clear h2 h3
      go_wp2_with fail
      go_roundw
      case rel => exact ⟨k + 1, by go_num, (by congr 1; omega), by omega, fun i hi => rdSet2 (H2.out i hi), fun i hi => (World.frozen?_setCell _ _ _ _).trans ((World.frozen?_setCell _ _ _ _).trans (H3.out i hi)), (hT.setCell _ _).setCell _ _⟩
      case measure => simp [intOf]; omega
    · have hkl : len = k := by omega
      subst hkl
      go_wp2_with fail
      go_ret
      exact ⟨rfl, hT⟩

end Go.Proofs.YtmhppadblddjoacDoor
