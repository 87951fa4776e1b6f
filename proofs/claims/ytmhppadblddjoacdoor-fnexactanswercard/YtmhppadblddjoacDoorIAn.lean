/- Chapter 4 of the program: a line of the answer. -/
import Derived.Test.YtmhppadblddjoacDoorBu
import Derived.Test.YtmhppadblddjoacDoorShelf
import Derived.Test.YtmhppadblddjoacDoorRel
import Derived.Lib.AppendIntMem
namespace Go.Proofs.YtmhppadblddjoacDoor
open Go.RowKit

/-- What the listed table holds. -/
def Tab (w : World) : Prop := Lib.TabIs Tryd.prog w "internal/strconv.uint64pow10" .u64 Lib.pow10Tab
theorem Tab.on {w w' : World} (h : Tab w) (hb : Below w.heap.size w w') : Tab w' := Lib.tabBelow_of_tabIs h w' hb

theorem ba_one (x : UInt8) (l : List UInt8) : (⟨#[x]⟩ : ByteArray) ++ ⟨l.toArray⟩ = ⟨(x :: l).toArray⟩ := by
  apply ByteArray.ext
  simp
theorem digs_dec (n : Nat) : ∀ l : List UInt8, 0 < n → digs n ⟨l.toArray⟩ = ⟨(Lib.decDigits n ++ l).toArray⟩ := by
  induction n using Nat.strongRecOn with
  | _ n ih =>
    intro l hn
    rw [digs_s (by omega), ba_one]
    by_cases h : n < 10
    · rw [show n / 10 = 0 by omega, digs_0, Lib.decDigits_one h, show n % 10 = n by omega]
      rfl
    · rw [ih (n / 10) (by omega) _ (by omega)]
      conv => rhs; rw [Lib.decDigits, dif_neg h]
      simp
theorem decB_itoa (n : Int) : (⟨(Lib.itoa n).toArray⟩ : ByteArray) = decB n := by
  unfold decB Lib.itoa
  by_cases h0 : n = 0
  · subst h0
    simp [Lib.decDigits]
  · rw [if_neg h0]
    by_cases hn : n < 0
    · rw [if_pos hn, if_pos hn]
      have e : (⟨#[]⟩ : ByteArray) = ⟨([] : List UInt8).toArray⟩ := rfl
      rw [e, digs_dec _ _ (by omega), ba_one, show n.natAbs = (-n).toNat by omega]
      simp
    · rw [if_neg hn, if_neg hn]
      have e : (⟨#[]⟩ : ByteArray) = ⟨([] : List UInt8).toArray⟩ := rfl
      rw [e, digs_dec _ _ (by omega)]
      simp

theorem belowGrow (w : World) (k : Nat) (os : Array Obj) : Below w.heap.size w (Sort.grow (w.drewN k) os) := by
  refine ⟨rfl, rfl, rfl, ?_, fun i hi => ?_⟩
  · simp [Sort.grow, World.drewN]
  · simp [Sort.grow, World.drewN, Array.getElem?_append, hi]

theorem itoa_c (n : Int) (w : World) (hT : Tab w) (h0 : -1000000000 ≤ n) (h1 : n ≤ 2000000000) :
    Calls Tryd.prog 72 #[.int .i64 n] w fun e w' => e = .returned (.string (decB n)) ∧ Below w.heap.size w w' := by
  refine (sh_strconv_Itoa n (by omega) (by omega) w hT).mono ?_
  rintro e w' ⟨rfl, k, os, rfl⟩
  exact ⟨retStr (decB_itoa n), belowGrow _ _ _⟩

end Go.Proofs.YtmhppadblddjoacDoor
