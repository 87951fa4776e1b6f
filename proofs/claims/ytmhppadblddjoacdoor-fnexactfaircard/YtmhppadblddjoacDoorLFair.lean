/- The law of Fair: its walk, both functions as premises. -/
import Derived.Test.YtmhppadblddjoacDoorEv
import Derived.Test.YtmhppadblddjoacDoorTrS
import Derived.Test.YtmhppadblddjoacDoorRel
import Derived.Test.YtmhppadblddjoacDoorSet6
namespace Go.Proofs.YtmhppadblddjoacDoor
open Go.RowKit
set_option linter.unusedVariables false

def lFairC (w : World) (s j m g o : Int) : World → Prop := fun w' => w'.cell? ⟨w.heap.size, 0, none⟩ = some (.int .i64 s) ∧ w'.cell? ⟨w.heap.size, 1, none⟩ = some (.int .i64 j) ∧ w'.cell? ⟨w.heap.size, 2, none⟩ = some (.int .i64 m) ∧ w'.cell? ⟨w.heap.size, 3, none⟩ = some (.int .i64 g) ∧ w'.cell? ⟨w.heap.size, 4, none⟩ = some (.int .i64 o) ∧ Below w.heap.size w w'
theorem lFairC_on {w : World} {s j m g o : Int} {w1 w2 : World} (hh : lFairC w s j m g o w1) (hb : Below w1.heap.size w1 w2) : lFairC w s j m g o w2 :=
  ⟨cellOn hb hh.1, cellOn hb hh.2.1, cellOn hb hh.2.2.1, cellOn hb hh.2.2.2.1, cellOn hb hh.2.2.2.2.1, nbTrans hh.2.2.2.2.2 hb⟩

def lFairE (w : World) (s j m g o : Int) (q1 len : Nat) (f a : Nat → Int) (w6 : World) : World → Prop := fun w' => w'.cell? ⟨w.heap.size, 0, none⟩ = some (.int .i64 s) ∧ w'.cell? ⟨w.heap.size, 1, none⟩ = some (.int .i64 j) ∧ w'.cell? ⟨w.heap.size, 2, none⟩ = some (.int .i64 m) ∧ w'.cell? ⟨w.heap.size, 3, none⟩ = some (.int .i64 g) ∧ w'.cell? ⟨w.heap.size, 4, none⟩ = some (.int .i64 o) ∧ Row2 w' q1 0 len f a ∧ Below w6.heap.size w6 w' ∧ Below w.heap.size w w'
theorem lFairE_on {w : World} {s j m g o : Int} {q1 len : Nat} {f a : Nat → Int} {w6 : World} {w1 w2 : World} (hh : lFairE w s j m g o q1 len f a w6 w1) (hb : Below w1.heap.size w1 w2) : lFairE w s j m g o q1 len f a w6 w2 :=
  ⟨cellOn hb hh.1, cellOn hb hh.2.1, cellOn hb hh.2.2.1, cellOn hb hh.2.2.2.1, cellOn hb hh.2.2.2.2.1, hh.2.2.2.2.2.1.on hb, nbTrans hh.2.2.2.2.2.2.1 hb, nbTrans hh.2.2.2.2.2.2.2 hb⟩

def lFairY (B : Nat) (s j m g o : Int) (x : Bool) (ad : Option Addr) (len cap : Nat) (f a : Nat → Int) : Nat → Value → World → Prop
  | 0, v, _ => v = .agg #[.int .i64 s, .int .i64 j, .int .i64 m, .int .i64 g, .int .i64 o]
  | 1, v, _ => v = .agg #[.int .i64 s, .int .i64 j, .int .i64 m, .int .i64 g, .int .i64 o]
  | 2, v, _ => v = .slice ad len cap
  | 3, v, w => ∃ q, v = .slice (some ⟨q, 0, none⟩) len len ∧ Row2 w q 0 len f a
  | 4, v, _ => v = .bool x
  | 5, v, _ => v = .bool x
  | _, _, _ => True
theorem lFairY_on {B : Nat} {s j m g o : Int} {x : Bool} {ad : Option Addr} {len cap : Nat} {f a : Nat → Int} : ∀ jj v w w', lFairY B s j m g o x ad len cap f a jj v w → Below w.heap.size w w' → lFairY B s j m g o x ad len cap f a jj v w'
  | 0, _, _, _, h, _ => h
  | 1, _, _, _, h, _ => h
  | 2, _, _, _, h, _ => h
  | 3, _, _, _, ⟨q, h1, h2⟩, hb => ⟨q, h1, h2.on hb⟩
  | 4, _, _, _, h, _ => h
  | 5, _, _, _, h, _ => h
  | _ + 6, _, _, _, _, _ => trivial
theorem lFairY_3 {B : Nat} {s j m g o : Int} {x : Bool} {ad : Option Addr} {len cap : Nat} {f a : Nat → Int} {v : Value} {w : World} (h : lFairY B s j m g o x ad len cap f a 3 v w) : ∃ q, v = .slice (some ⟨q, 0, none⟩) len len ∧ Row2 w q 0 len f a := h

def lFairZ (B : Nat) (s j m g o : Int) (x : Bool) (q1 len : Nat) : Nat → Value → World → Prop
  | 0, v, _ => v = .agg #[.int .i64 s, .int .i64 j, .int .i64 m, .int .i64 g, .int .i64 o]
  | 1, v, _ => v = .agg #[.int .i64 s, .int .i64 j, .int .i64 m, .int .i64 g, .int .i64 o]
  | 2, v, _ => v = .slice (some ⟨q1, 0, none⟩) len len
  | 3, v, _ => v = .bool x
  | 4, v, _ => v = .bool x
  | _, _, _ => True
theorem lFairZ_on {B : Nat} {s j m g o : Int} {x : Bool} {q1 len : Nat} : ∀ jj v w w', lFairZ B s j m g o x q1 len jj v w → Below w.heap.size w w' → lFairZ B s j m g o x q1 len jj v w'
  | 0, _, _, _, h, _ => h
  | 1, _, _, _, h, _ => h
  | 2, _, _, _, h, _ => h
  | 3, _, _, _, h, _ => h
  | 4, _, _, _, h, _ => h
  | _ + 5, _, _, _, _, _ => trivial

set_option maxRecDepth 100000 in
set_option maxHeartbeats 4000000 in
theorem lawFair_c (ad : Option Addr) (len cap : Nat) (f a : Nat → Int) (s j m g o : Int) (x : Bool) (w : World) (hlen : len ≤ 9223372036854775807) (hrow : SRow w ad len f a)
    (hs : Hid (∀ q w, len ≤ 1048576 → Row2 w q 0 len f a → Calls Tryd.prog 7 #[.agg #[.int .i64 s, .int .i64 j, .int .i64 m, .int .i64 g, .int .i64 o], .slice (some ⟨q, 0, none⟩) len len] w fun e w' => e = .returned (.bool x) ∧ Below w.heap.size w w'))
    (hi : Hid (∀ q wz, Below w.heap.size w wz → len ≤ 1048576 → Row2 wz q 0 len f a → Calls Tryd.prog 10 #[.agg #[.int .i64 s, .int .i64 j, .int .i64 m, .int .i64 g, .int .i64 o], .slice (some ⟨q, 0, none⟩) len len] wz fun e w' => e = .returned (.bool x) ∧ Below wz.heap.size wz w')) :
    Calls Tryd.prog 3 #[.agg #[.int .i64 s, .int .i64 j, .int .i64 m, .int .i64 g, .int .i64 o], .slice ad len cap] w fun e w' => e = .returned (.bool true) ∧ Below w.heap.size w w' := by
  go_enter Tryd.func3, Tryd.ntmps3
  go_wp2_with fail
  refine (szTrueS_c _ _ _ _ _ (by omega) (by omega) hlen).mono ?_
  rintro e w1 ⟨rfl, rfl⟩
  by_cases hbig : (1048576 : Int) - (len : Int) < 0
  · rw [if_pos hbig]
    go_wp2_with fail
    go_ret
    exact ⟨rfl, nbAlloc (Below.refl _ _) _⟩
  rw [if_neg hbig]
  have hl : len ≤ 1048576 := by omega
  have HB : Hid (len ≤ 1048576) := hl
  have i0 : ¬ ((1048576 : Int) - (len : Int) < 0) := hbig
  clear hl hbig
  go_wp2_with fail
  refine (toRules_c _ _ _ _ _ _).mono ?_
  rintro e ws0 ⟨rfl, hbs0⟩
  have hs0 : lFairC w s j m g o ws0 := ⟨cellOn hbs0 (by go_simp), cellOn hbs0 (by go_simp), cellOn hbs0 (by go_simp), cellOn hbs0 (by go_simp), cellOn hbs0 (by go_simp), nbTrans (nbAlloc (Below.refl _ _) _) hbs0⟩
  have c0 : ws0.cell? ⟨w.heap.size, 0, none⟩ = some (.int .i64 s) := hs0.1
  have c1 : ws0.cell? ⟨w.heap.size, 1, none⟩ = some (.int .i64 j) := hs0.2.1
  have c2 : ws0.cell? ⟨w.heap.size, 2, none⟩ = some (.int .i64 m) := hs0.2.2.1
  have c3 : ws0.cell? ⟨w.heap.size, 3, none⟩ = some (.int .i64 g) := hs0.2.2.2.1
  have c4 : ws0.cell? ⟨w.heap.size, 4, none⟩ = some (.int .i64 o) := hs0.2.2.2.2.1
  go_wp2_with fail
  refine (toTrueS_any ad len cap f a _ HB.out (hrow.on hs0.2.2.2.2.2)).mono ?_
  rintro e ws1 ⟨q, rfl, hq_, hq, -, hbs1⟩
  have hs1 := lFairC_on hs0 hbs1
  clear c0 c1 c2 c3 c4
  have c0 : ws1.cell? ⟨w.heap.size, 0, none⟩ = some (.int .i64 s) := hs1.1
  have c1 : ws1.cell? ⟨w.heap.size, 1, none⟩ = some (.int .i64 j) := hs1.2.1
  have c2 : ws1.cell? ⟨w.heap.size, 2, none⟩ = some (.int .i64 m) := hs1.2.2.1
  have c3 : ws1.cell? ⟨w.heap.size, 3, none⟩ = some (.int .i64 g) := hs1.2.2.2.1
  have c4 : ws1.cell? ⟨w.heap.size, 4, none⟩ = some (.int .i64 o) := hs1.2.2.2.2.1
  go_wp2_with fail
  refine (hs.out q _ HB.out hq).mono ?_
  rintro e w5 ⟨rfl, hb5⟩
  have hJ := lFairC_on hs1 hb5
  clear c0 c1 c2 c3 c4
  clear hb5
  have hB5 : Below w.heap.size w w5 := hJ.2.2.2.2.2
  go_wp2_with fail
  refine (toTrueS_any ad len cap f a _ HB.out (hrow.on hB5)).mono ?_
  rintro e w6 ⟨q1, rfl, hq1, hr1, -, hb6⟩
  have hJ6 := lFairC_on hJ hb6
  clear hJ hB5 hb6
  have hE : lFairE w s j m g o q1 len f a w6 w6 := ⟨hJ6.1, hJ6.2.1, hJ6.2.2.1, hJ6.2.2.2.1, hJ6.2.2.2.2.1, hr1, Below.refl _ _, hJ6.2.2.2.2.2⟩
  clear hJ6
  have c0 : w6.cell? ⟨w.heap.size, 0, none⟩ = some (.int .i64 s) := hE.1
  have c1 : w6.cell? ⟨w.heap.size, 1, none⟩ = some (.int .i64 j) := hE.2.1
  have c2 : w6.cell? ⟨w.heap.size, 2, none⟩ = some (.int .i64 m) := hE.2.2.1
  have c3 : w6.cell? ⟨w.heap.size, 3, none⟩ = some (.int .i64 g) := hE.2.2.2.1
  have c4 : w6.cell? ⟨w.heap.size, 4, none⟩ = some (.int .i64 o) := hE.2.2.2.2.1
  go_wp2_with fail
  refine (toRules_c _ _ _ _ _ _).mono ?_
  rintro e wa0 ⟨rfl, hba0⟩
  have hE0 := lFairE_on hE hba0
  clear c0 c1 c2 c3 c4
  have c0 : wa0.cell? ⟨w.heap.size, 0, none⟩ = some (.int .i64 s) := hE0.1
  have c1 : wa0.cell? ⟨w.heap.size, 1, none⟩ = some (.int .i64 j) := hE0.2.1
  have c2 : wa0.cell? ⟨w.heap.size, 2, none⟩ = some (.int .i64 m) := hE0.2.2.1
  have c3 : wa0.cell? ⟨w.heap.size, 3, none⟩ = some (.int .i64 g) := hE0.2.2.2.1
  have c4 : wa0.cell? ⟨w.heap.size, 4, none⟩ = some (.int .i64 o) := hE0.2.2.2.2.1
  go_wp2_with fail
  refine (hi.out q1 _ hE0.2.2.2.2.2.2.2 HB.out hE0.2.2.2.2.2.1).mono ?_
  rintro e w4 ⟨rfl, hb4⟩
  have hC := lFairE_on hE0 hb4
  clear c0 c1 c2 c3 c4
  clear hb4
  have hr8 : Row2 w4 q1 0 len f a := hC.2.2.2.2.2.1
  have hB8 : Below w.heap.size w w4 := hC.2.2.2.2.2.2.2
  clear hC
  go_wp2_with fail
  refine (toTrueS_any ad len cap f a _ HB.out (hrow.on hB8)).mono ?_
  rintro e w9 ⟨q9, rfl, hq9, hr9, -, hb9⟩
  go_wp2_with fail
  refine (eqTrueS_c q1 q9 len len len f a _ HB.out (hr8.on hb9) hr9).mono ?_
  rintro e w10 ⟨rfl, hb10⟩
  go_wp2_with fail
  go_ret
  exact ⟨rfl, nbTrans (nbTrans hB8 hb9) hb10⟩

end Go.Proofs.YtmhppadblddjoacDoor
