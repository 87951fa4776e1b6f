/- Chapter 4 of the program: Answer. -/
import Derived.Test.YtmhppadblddjoacDoorIAnL
namespace Go.Proofs.YtmhppadblddjoacDoor
open Go.RowKit

theorem cellSame {w w' : World} {q o : Nat} {v : Value} (hq : w'.heap[q]? = w.heap[q]?) (h : w.cell? ⟨q, o, none⟩ = some v) : w'.cell? ⟨q, o, none⟩ = some v := by
  rw [← h]
  simp [World.cell?, hq]
theorem Row6.same {w w' : World} {q n : Nat} {t : Nat → St} (h : Row6 w q n t) (hq : w'.heap[q]? = w.heap[q]?) : Row6 w' q n t :=
  fun i hi => ⟨cellSame hq (h i hi).1, cellSame hq (h i hi).2.1, cellSame hq (h i hi).2.2.1, cellSame hq (h i hi).2.2.2.1, cellSame hq (h i hi).2.2.2.2.1, cellSame hq (h i hi).2.2.2.2.2⟩
theorem ba_back (A : ByteArray) : (⟨A.data.toList.toArray⟩ : ByteArray) = A := by cases A; simp

set_option maxRecDepth 100000 in
set_option maxHeartbeats 4000000 in
theorem implAnswer_m (s j m g o : Int) (mv : Value) (l h : Int) (xv : Value) (n : Nat) (T : Nat → St) (w : World) (hn : n ≤ 2000) (hT : Hid (∀ i, i < n → StNum (T i)))
    (HR : Hid (∀ w', Below w.heap.size w w' → Calls Tryd.prog 50 #[.agg #[.int .i64 s, .int .i64 j, .int .i64 m, .int .i64 g, .int .i64 o], mv, .agg #[.int .i64 l, .int .i64 h], xv] w' fun e w'' => ∃ v, e = .returned v ∧ StRow w'' w'.heap.size v n T ∧ Below w'.heap.size w' w'')) (hTab : Tab w) :
    Calls Tryd.prog 29 #[.agg #[.int .i64 s, .int .i64 j, .int .i64 m, .int .i64 g, .int .i64 o], mv, .agg #[.int .i64 l, .int .i64 h], xv] w fun e w' => e = .returned (.string (ansB T n)) ∧ Below w.heap.size w w' := by
  have hTb := hTab
  clear hTab
  have bu0 : (((w.alloc (.cells #[.int .i64 s, .int .i64 j, .int .i64 m, .int .i64 g, .int .i64 o] 27)).alloc (.cells #[.int .i64 l, .int .i64 h] 54)).alloc (.cells #[.pointer none, .slice none 0 0] 100)).heap[w.heap.size + 1 + 1]? = some (.cells #[.pointer none, .slice none 0 0] 100) := newBlkD _ _ (by simp)
  go_enter Tryd.func29, Tryd.ntmps29
  go_wp2_with fail
  refine (HR.out _ (nbAlloc (nbAlloc (nbAlloc (Below.refl _ _) _) _) _)).mono ?_
  rintro e w1 ⟨v, rfl, hv, hb1⟩
  have hB1 : Below w.heap.size w w1 := nbTrans (nbAlloc (nbAlloc (nbAlloc (Below.refl _ _) _) _) _) hb1
  have bu1 : w1.heap[w.heap.size + 1 + 1]? = some (.cells #[.pointer none, .slice none 0 0] 100) := (hb1.block _ (Array.getElem?_eq_some_iff.1 bu0).1).trans bu0
  obtain ⟨q, hq0, hqB, ad, cap, rfl, hq⟩ : ∃ q, (0 < n → w.heap.size + 1 + 1 < q) ∧ (0 < n → q < w1.heap.size) ∧ ∃ ad cap, v = .slice ad n cap ∧ (0 < n → ad = some ⟨q, 0, none⟩) ∧ Row6 w1 q n T := by
    obtain ⟨q, hbq, h1⟩ := hv.at
    have hlt := h1.lt
    obtain ⟨a, cap, h2, h3⟩ := h1
    refine ⟨q, fun h => by simp at hbq; omega, hlt, a, cap, h2, ?_⟩
    rcases h3 with rfl | ⟨ha, h4, -⟩
    · exact ⟨fun h => absurd h (by omega), fun i hi => absurd hi (by omega)⟩
    · exact ⟨fun _ => ha, h4⟩
  have hqa := hq.1
  have hq1 := hq.2
  obtain ⟨B, hB0, hB2⟩ : ∃ B, w1.heap.size ≤ B ∧ B ≤ w1.heap.size := ⟨_, Nat.le_refl _, Nat.le_refl _⟩
  replace hqB : 0 < n → q < B := fun h => by have := hqB h; omega
  have hwB : w.heap.size + 1 + 1 < B := by have := (Array.getElem?_eq_some_iff.1 bu1).1; omega
  clear hv hb1 hq HR bu0
  go_wp2_with fail
  go_loopw [18] (fun iv wr => ∃ k : Nat, ∃ A : ByteArray, ∃ pp vv : Value, iv = .int .i64 k ∧ k ≤ n ∧ Hid (A = ansB T k) ∧ A.size ≤ 10000000100 * k ∧ wr.heap[w.heap.size + 1 + 1]? = some (.cells #[pp, vv] 100) ∧ (pp = .pointer none ∨ pp = .pointer (some ⟨w.heap.size + 1 + 1, 0, none⟩)) ∧ wr.ownsRow B 5 1 vv A.size (Lib.strCells A) ∧ Row6 wr q n T ∧ Below w.heap.size w wr ∧ B ≤ wr.heap.size) (fun iv _ => n - (intOf iv).toNat)
  case atStart => exact ⟨0, ⟨#[]⟩, _, _, rfl, by omega, rfl, Nat.zero_le _, bu1, .inl rfl, World.ownsRow_nil _ _ _ _, hq1, hB1, hB2⟩
  case round =>
    clear hB1 hq1 hB0 hB2 bu1
    obtain ⟨k, A, pp, vv, rfl, hk, hA, hAz, hbu, hpp, hown, hq1, hB, hsz⟩ := hrel
    by_cases hlt : k < n
    · have i0 : (0 : Int) ≤ (k : Int) := by omega
      have i1 : (k : Int) < (n : Int) := by omega
      have ea := hqa (by omega)
      subst ea
      obtain ⟨⟨kn, tl, th, tsi, tla, tod⟩, eT⟩ : ∃ t, Hid (t = T k) := ⟨_, rfl⟩
      have hN := hT.out k hlt
      have hr := hq1 k hlt
      rw [← eT.out] at hN hr
      have d0 : wr.cell? ⟨q, k * 6, none⟩ = some (.bool kn) := hr.1
      have d1 : wr.cell? ⟨q, k * 6 + 1, none⟩ = some (.int .i64 tl) := hr.2.1
      have d2 : wr.cell? ⟨q, k * 6 + 2, none⟩ = some (.int .i64 th) := hr.2.2.1
      have d3 : wr.cell? ⟨q, k * 6 + 3, none⟩ = some (.int .i64 tsi) := hr.2.2.2.1
      have d4 : wr.cell? ⟨q, k * 6 + 4, none⟩ = some (.int .i64 tla) := hr.2.2.2.2.1
      have d5 : wr.cell? ⟨q, k * 6 + 5, none⟩ = some (.int .i64 tod) := hr.2.2.2.2.2
      have hTw := hTb.on hB
      have hLB := lineB_size hN
      have hALm : Hid (ansB T (k + 1) = A ++ lineB ⟨kn, tl, th, tsi, tla, tod⟩) := by unfold Hid; rw [ansB, ← hA.out, ← eT.out]
      go_wp2_with fail
      refine (lineOf_c ⟨kn, tl, th, tsi, tla, tod⟩ _ (hTw.on (nbAlloc (Below.refl _ _) _)) hN).mono ?_
      rintro e w3 ⟨rfl, hb3⟩
      have hb3' : Below wr.heap.size wr w3 := nbTrans (nbAlloc (Below.refl _ _) _) hb3
      have hbu3 : w3.heap[w.heap.size + 1 + 1]? = some (.cells #[pp, vv] 100) := (hb3'.block _ (Array.getElem?_eq_some_iff.1 hbu).1).trans hbu
      have hown3 := owns_on hown hb3'
      have hq3 := hq1.on hb3'
      have hB3 : Below w.heap.size w w3 := nbTrans hB hb3'
      have hsz3 : B ≤ w3.heap.size := by have := hb3'.size; omega
      clear hb3 hb3' d0 d1 d2 d3 d4 d5 hr hown hq1 hB hbu hTw
      have hlc : (Lib.strCells A).length = A.size := Lib.strCells_length A
      generalize lineB ⟨kn, tl, th, tsi, tla, tod⟩ = ln at *
      go_wp2_with fail
      refine (write_c (w.heap.size + 1 + 1) B pp vv (Lib.strCells A) ln w3 hbu3 hpp (by rw [hlc]; exact hown3) (by rw [hlc]; omega) hsz3).mono ?_
      rintro e w4 ⟨rfl, v4, hbu4, hown4, hF4⟩
      have hB4 : Below w.heap.size w w4 := hB3.trans ((hF4.below (by omega)).mono (by omega))
      have hq4 : Row6 w4 q n T := hq3.same (hF4.block q (hqB (by omega)) (by have := hq0 (by omega); omega))
      have hsz4 : B ≤ w4.heap.size := Nat.le_trans hsz3 hF4.size
      have hown5 : w4.ownsRow B 5 1 v4 (A ++ ln).size (Lib.strCells (A ++ ln)) := by
        rw [strCells_append, ByteArray.size_append]
        rw [List.length_append, Lib.strCells_length, Lib.strCells_length] at hown4
        exact hown4
      clear hown4 hF4 hbu3 hown3 hq3 hB3 hsz3 hlc
      go_wp2_with fail
      go_roundw
      case rel => exact ⟨k + 1, A ++ ln, _, v4, by go_num, by omega, hALm.out.symm, by rw [ByteArray.size_append]; omega, hbu4, .inr rfl, hown5, hq4, hB4, hsz4⟩
      case measure => simp [intOf]; omega
    · have hkn : k = n := by omega
      subst hkn
      have hne := Lib.ownBlock_ne hown hbu (by decide)
      have hIs : Lib.IsBuilder 100 5 (w.heap.size + 1 + 1) (w.heap.size + 1 + 1) (Lib.byteCells A.data.toList) wr := by
        have hA2 : Lib.BuilderAt 100 5 (w.heap.size + 1 + 1) (w.heap.size + 1 + 1) pp (Lib.byteCells A.data.toList) wr := ⟨Nat.le_refl _, vv, hbu, by
          have e1 : (Lib.byteCells A.data.toList).length = A.size := by rw [Lib.byteCells_length, Array.length_toList]; rfl
          rw [e1]
          exact owns_base hown (by omega), hne⟩
        rcases hpp with rfl | rfl
        · exact .inl hA2
        · exact .inr hA2
      go_wp2_with fail
      refine (sh_Builder_String_any _ _ _ _ hIs (by omega)).mono ?_
      rintro e w5 ⟨rfl, hb5⟩
      go_wp2_with fail
      go_ret
      exact ⟨retStr (by rw [ba_back, hA.out]), hB.trans (hb5.mono (by omega))⟩

end Go.Proofs.YtmhppadblddjoacDoor
