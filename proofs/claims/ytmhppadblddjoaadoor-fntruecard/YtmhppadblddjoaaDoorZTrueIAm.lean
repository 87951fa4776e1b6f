import Derived.Test.YtmhppadblddjoaaDoorZTrueIAf
/- The program's belief behind a mark that was read. -/
namespace Go.Proofs.YtmhppadblddjoaaDoor
open Go.RowKit Go.Maps
set_option linter.unusedVariables false

section
variable (w : World) {ops : Array Oper} {rest : List Oper} {o : Oper} {b : Act} {Q : Exit → Act → World → Prop}

theorem wpList_spot_yes (hg : o.guard = none) (m x : Operand) (hop : o.op = Op.lookup 70 m x true) (q len : Nat) (f a : Nat → Int) (z : Int) (i : Nat)
    (hm : b.eval m = .map (some q)) (hM : MapAt w q len f a) (hx : b.eval x = .int .i64 z) (hz : inB z 1 1000000000 = true) (hi : Hid (lastIx f z len = (i : Int)))
    (hK : wpList Tryd.prog ops Q rest (b.put o.dst (.tuple #[.agg #[.int .i64 i, .int .i64 (a i)], .bool true])) w) : wpList Tryd.prog ops Q (o :: rest) b w :=
  wpList_lookup_own_ok w hg m x _ hop 3 125 lawInt Tryd.underlying70 spotElem (zeroSpot w) (.agg [.lit (.int .i64 0), .lit (.int .i64 0)]) [] rfl q len (spots f a len) hm hM _ (.int .i64 z) hx (keyOf_int_mk Tryd.underlying3 (wfName hz)) (fun v ps hv => by
    rw [spots_at f a z _ len i hi.out] at hv
    obtain ⟨x0, y0, rfl, he⟩ := spotElem_inv hv
    have : spots f a len |> fun D => has D (.int .i64 z) = true := by
      show has (spots f a len) (.int .i64 z) = true
      rw [spots_has, hi.out]; simp
    rw [show has (spots f a len) (.int .i64 z) = true from this]
    simp [spot] at he
    obtain ⟨⟨h1, h2⟩, -⟩ := he
    subst h1 h2
    exact hK)

theorem wpList_spot_no (hg : o.guard = none) (m x : Operand) (hop : o.op = Op.lookup 70 m x true) (q len : Nat) (f a : Nat → Int) (z : Int)
    (hm : b.eval m = .map (some q)) (hM : MapAt w q len f a) (hx : b.eval x = .int .i64 z) (hz : inB z 1 1000000000 = true) (hi : Hid (lastIx f z len = -1))
    (hK : wpList Tryd.prog ops Q rest (b.put o.dst (.tuple #[.agg #[.int .i64 0, .int .i64 0], .bool false])) w) : wpList Tryd.prog ops Q (o :: rest) b w :=
  wpList_lookup_own_ok w hg m x _ hop 3 125 lawInt Tryd.underlying70 spotElem (zeroSpot w) (.agg [.lit (.int .i64 0), .lit (.int .i64 0)]) [] rfl q len (spots f a len) hm hM _ (.int .i64 z) hx (keyOf_int_mk Tryd.underlying3 (wfName hz)) (fun v ps hv => by
    have hh : has (spots f a len) (.int .i64 z) = false := by rw [spots_has, hi.out]; rfl
    rw [atKey_of_not_has hh] at hv
    obtain ⟨x0, y0, rfl, he⟩ := spotElem_inv hv
    rw [hh]
    simp at he
    obtain ⟨⟨h1, h2⟩, -⟩ := he
    subst h1 h2
    exact hK)
end

set_option maxHeartbeats 1000000 in
theorem afterMark_none (s j m g o : Int) (q : Nat) (l h : Int) (kn : Bool) (si la od z : Int) (len : Nat) (f a : Nat → Int) (w : World) (hM : MapAt w q len f a) (hz : inB z 1 1000000000 = true) (ho0 : 0 ≤ od) (ho1 : od ≤ 1000000000) (hi : Hid (lastIx f z len = -1)) :
    Calls Tryd.prog 81 #[.agg #[.int .i64 s, .int .i64 j, .int .i64 m, .int .i64 g, .int .i64 o, .map (some q)], .agg #[.int .i64 l, .int .i64 h, .bool kn, .int .i64 si, .int .i64 la, .int .i64 od], .int .i64 z] w fun e w' => e = .returned (.agg #[.int .i64 l, .int .i64 h, .bool kn, .int .i64 si, .int .i64 la, .int .i64 (min (od + 1) 1000000000)]) ∧ Below w.heap.size w w' := by
  have hM3 := ((hM.on (nbAlloc (Below.refl _ _) (.cells #[.int .i64 s, .int .i64 j, .int .i64 m, .int .i64 g, .int .i64 o, .map (some q)] 73))).on (nbAlloc (Below.refl _ _) (.cells #[.int .i64 l, .int .i64 h, .bool kn, .int .i64 si, .int .i64 la, .int .i64 od] 75))).on (nbAlloc (Below.refl _ _) (.cells #[.int .i64 0, .int .i64 0, .bool false, .int .i64 0, .int .i64 0, .int .i64 0] 75))
  go_enter Tryd.func81, Tryd.ntmps81
  go_wp2_with (first | (at_lookup; refine wpList_spot_no _ rfl _ _ rfl q len f a z rfl hM3 rfl hz hi ?_) | fail)
  refine (odder_c _ _ _ _ _ _ _ ho0 ho1).mono ?_
  rintro e w1 ⟨rfl, hb1⟩
  have hC1 : afC w s j m g o q l h kn si la od w1 := ⟨cellOn hb1 (by go_simp), cellOn hb1 (by go_simp), cellOn hb1 (by go_simp), cellOn hb1 (by go_simp), cellOn hb1 (by go_simp), cellOn hb1 (by go_simp), cellOn hb1 (by go_simp), cellOn hb1 (by go_simp), cellOn hb1 (by go_simp), cellOn hb1 (by go_simp), cellOn hb1 (by go_simp), cellOn hb1 (by go_simp), cellOn hb1 (by go_simp), cellOn hb1 (by go_simp), cellOn hb1 (by go_simp), cellOn hb1 (by go_simp), cellOn hb1 (by go_simp), cellOn hb1 (by go_simp), frozenOn hb1 (v := .int .i64 l) (by go_simp) (by go_simp), frozenOn hb1 (v := .int .i64 h) (by go_simp) (by go_simp), frozenOn hb1 (v := .bool kn) (by go_simp) (by go_simp), frozenOn hb1 (v := .int .i64 si) (by go_simp) (by go_simp), frozenOn hb1 (v := .int .i64 la) (by go_simp) (by go_simp), frozenOn hb1 (v := .int .i64 od) (by go_simp) (by go_simp), frozenOn hb1 (v := .int .i64 0) (by go_simp) (by go_simp), frozenOn hb1 (v := .int .i64 0) (by go_simp) (by go_simp), frozenOn hb1 (v := .bool false) (by go_simp) (by go_simp), frozenOn hb1 (v := .int .i64 0) (by go_simp) (by go_simp), frozenOn hb1 (v := .int .i64 0) (by go_simp) (by go_simp), frozenOn hb1 (v := .int .i64 0) (by go_simp) (by go_simp), nbTrans (nbAlloc (nbAlloc (nbAlloc (nbAlloc (Below.refl _ _) _) _) _) _) hb1⟩
  have c0 : w1.cell? ⟨w.heap.size, 0, none⟩ = some (.int .i64 s) := hC1.1
  have c1 : w1.cell? ⟨w.heap.size, 1, none⟩ = some (.int .i64 j) := hC1.2.1
  have c2 : w1.cell? ⟨w.heap.size, 2, none⟩ = some (.int .i64 m) := hC1.2.2.1
  have c3 : w1.cell? ⟨w.heap.size, 3, none⟩ = some (.int .i64 g) := hC1.2.2.2.1
  have c4 : w1.cell? ⟨w.heap.size, 4, none⟩ = some (.int .i64 o) := hC1.2.2.2.2.1
  have c5 : w1.cell? ⟨w.heap.size, 5, none⟩ = some (.map (some q)) := hC1.2.2.2.2.2.1
  have c6 : w1.cell? ⟨w.heap.size + 1, 0, none⟩ = some (.int .i64 l) := hC1.2.2.2.2.2.2.1
  have c7 : w1.cell? ⟨w.heap.size + 1, 1, none⟩ = some (.int .i64 h) := hC1.2.2.2.2.2.2.2.1
  have c8 : w1.cell? ⟨w.heap.size + 1, 2, none⟩ = some (.bool kn) := hC1.2.2.2.2.2.2.2.2.1
  have c9 : w1.cell? ⟨w.heap.size + 1, 3, none⟩ = some (.int .i64 si) := hC1.2.2.2.2.2.2.2.2.2.1
  have c10 : w1.cell? ⟨w.heap.size + 1, 4, none⟩ = some (.int .i64 la) := hC1.2.2.2.2.2.2.2.2.2.2.1
  have c11 : w1.cell? ⟨w.heap.size + 1, 5, none⟩ = some (.int .i64 od) := hC1.2.2.2.2.2.2.2.2.2.2.2.1
  have c12 : w1.cell? ⟨w.heap.size + 1 + 1, 0, none⟩ = some (.int .i64 0) := hC1.2.2.2.2.2.2.2.2.2.2.2.2.1
  have c13 : w1.cell? ⟨w.heap.size + 1 + 1, 1, none⟩ = some (.int .i64 0) := hC1.2.2.2.2.2.2.2.2.2.2.2.2.2.1
  have c14 : w1.cell? ⟨w.heap.size + 1 + 1, 2, none⟩ = some (.bool false) := hC1.2.2.2.2.2.2.2.2.2.2.2.2.2.2.1
  have c15 : w1.cell? ⟨w.heap.size + 1 + 1, 3, none⟩ = some (.int .i64 0) := hC1.2.2.2.2.2.2.2.2.2.2.2.2.2.2.2.1
  have c16 : w1.cell? ⟨w.heap.size + 1 + 1, 4, none⟩ = some (.int .i64 0) := hC1.2.2.2.2.2.2.2.2.2.2.2.2.2.2.2.2.1
  have c17 : w1.cell? ⟨w.heap.size + 1 + 1, 5, none⟩ = some (.int .i64 0) := hC1.2.2.2.2.2.2.2.2.2.2.2.2.2.2.2.2.2.1
  have c18 : w1.frozen? ⟨w.heap.size + 1, 0, none⟩ = false := hC1.2.2.2.2.2.2.2.2.2.2.2.2.2.2.2.2.2.2.1
  have c19 : w1.frozen? ⟨w.heap.size + 1, 1, none⟩ = false := hC1.2.2.2.2.2.2.2.2.2.2.2.2.2.2.2.2.2.2.2.1
  have c20 : w1.frozen? ⟨w.heap.size + 1, 2, none⟩ = false := hC1.2.2.2.2.2.2.2.2.2.2.2.2.2.2.2.2.2.2.2.2.1
  have c21 : w1.frozen? ⟨w.heap.size + 1, 3, none⟩ = false := hC1.2.2.2.2.2.2.2.2.2.2.2.2.2.2.2.2.2.2.2.2.2.1
  have c22 : w1.frozen? ⟨w.heap.size + 1, 4, none⟩ = false := hC1.2.2.2.2.2.2.2.2.2.2.2.2.2.2.2.2.2.2.2.2.2.2.1
  have c23 : w1.frozen? ⟨w.heap.size + 1, 5, none⟩ = false := hC1.2.2.2.2.2.2.2.2.2.2.2.2.2.2.2.2.2.2.2.2.2.2.2.1
  have c24 : w1.frozen? ⟨w.heap.size + 1 + 1, 0, none⟩ = false := hC1.2.2.2.2.2.2.2.2.2.2.2.2.2.2.2.2.2.2.2.2.2.2.2.2.1
  have c25 : w1.frozen? ⟨w.heap.size + 1 + 1, 1, none⟩ = false := hC1.2.2.2.2.2.2.2.2.2.2.2.2.2.2.2.2.2.2.2.2.2.2.2.2.2.1
  have c26 : w1.frozen? ⟨w.heap.size + 1 + 1, 2, none⟩ = false := hC1.2.2.2.2.2.2.2.2.2.2.2.2.2.2.2.2.2.2.2.2.2.2.2.2.2.2.1
  have c27 : w1.frozen? ⟨w.heap.size + 1 + 1, 3, none⟩ = false := hC1.2.2.2.2.2.2.2.2.2.2.2.2.2.2.2.2.2.2.2.2.2.2.2.2.2.2.2.1
  have c28 : w1.frozen? ⟨w.heap.size + 1 + 1, 4, none⟩ = false := hC1.2.2.2.2.2.2.2.2.2.2.2.2.2.2.2.2.2.2.2.2.2.2.2.2.2.2.2.2.1
  have c29 : w1.frozen? ⟨w.heap.size + 1 + 1, 5, none⟩ = false := hC1.2.2.2.2.2.2.2.2.2.2.2.2.2.2.2.2.2.2.2.2.2.2.2.2.2.2.2.2.2.1
  have c30 : Below w.heap.size w w1 := hC1.2.2.2.2.2.2.2.2.2.2.2.2.2.2.2.2.2.2.2.2.2.2.2.2.2.2.2.2.2.2
  have hq2 : w.heap.size ≤ w.heap.size + 1 + 1 := by omega
  clear hM3
  go_wp2_with fail
  exact bodyPost_ret (v := .agg #[.int .i64 l, .int .i64 h, .bool kn, .int .i64 si, .int .i64 la, .int .i64 (min (od + 1) 1000000000)]) (by simp [results, Tryd.results81, go_sem, *]) rfl ⟨rfl, (nbSetX (nbSetX (nbSetX (nbSetX (nbSetX (nbSetX c30 hq2) hq2) hq2) hq2) hq2) hq2)⟩

def amC (w : World) (s j m g o : Int) (q : Nat) (l h : Int) (kn : Bool) (si la od : Int) (k z : Int) : World → Prop := fun w' => w'.cell? ⟨w.heap.size, 0, none⟩ = some (.int .i64 s) ∧ w'.cell? ⟨w.heap.size, 1, none⟩ = some (.int .i64 j) ∧ w'.cell? ⟨w.heap.size, 2, none⟩ = some (.int .i64 m) ∧ w'.cell? ⟨w.heap.size, 3, none⟩ = some (.int .i64 g) ∧ w'.cell? ⟨w.heap.size, 4, none⟩ = some (.int .i64 o) ∧ w'.cell? ⟨w.heap.size, 5, none⟩ = some (.map (some q)) ∧ w'.cell? ⟨w.heap.size + 1, 0, none⟩ = some (.int .i64 l) ∧ w'.cell? ⟨w.heap.size + 1, 1, none⟩ = some (.int .i64 h) ∧ w'.cell? ⟨w.heap.size + 1, 2, none⟩ = some (.bool kn) ∧ w'.cell? ⟨w.heap.size + 1, 3, none⟩ = some (.int .i64 si) ∧ w'.cell? ⟨w.heap.size + 1, 4, none⟩ = some (.int .i64 la) ∧ w'.cell? ⟨w.heap.size + 1, 5, none⟩ = some (.int .i64 od) ∧ w'.cell? ⟨w.heap.size + 1 + 1, 0, none⟩ = some (.int .i64 0) ∧ w'.cell? ⟨w.heap.size + 1 + 1, 1, none⟩ = some (.int .i64 0) ∧ w'.cell? ⟨w.heap.size + 1 + 1, 2, none⟩ = some (.bool false) ∧ w'.cell? ⟨w.heap.size + 1 + 1, 3, none⟩ = some (.int .i64 0) ∧ w'.cell? ⟨w.heap.size + 1 + 1, 4, none⟩ = some (.int .i64 0) ∧ w'.cell? ⟨w.heap.size + 1 + 1, 5, none⟩ = some (.int .i64 0) ∧ w'.frozen? ⟨w.heap.size + 1, 0, none⟩ = false ∧ w'.frozen? ⟨w.heap.size + 1, 1, none⟩ = false ∧ w'.frozen? ⟨w.heap.size + 1, 2, none⟩ = false ∧ w'.frozen? ⟨w.heap.size + 1, 3, none⟩ = false ∧ w'.frozen? ⟨w.heap.size + 1, 4, none⟩ = false ∧ w'.frozen? ⟨w.heap.size + 1, 5, none⟩ = false ∧ w'.frozen? ⟨w.heap.size + 1 + 1, 0, none⟩ = false ∧ w'.frozen? ⟨w.heap.size + 1 + 1, 1, none⟩ = false ∧ w'.frozen? ⟨w.heap.size + 1 + 1, 2, none⟩ = false ∧ w'.frozen? ⟨w.heap.size + 1 + 1, 3, none⟩ = false ∧ w'.frozen? ⟨w.heap.size + 1 + 1, 4, none⟩ = false ∧ w'.frozen? ⟨w.heap.size + 1 + 1, 5, none⟩ = false ∧ w'.cell? ⟨w.heap.size + 1 + 1 + 1, 0, none⟩ = some (.int .i64 k) ∧ w'.cell? ⟨w.heap.size + 1 + 1 + 1, 1, none⟩ = some (.int .i64 z) ∧ Below w.heap.size w w'
theorem amC_on {w : World} {s j m g o : Int} {q : Nat} {l h : Int} {kn : Bool} {si la od : Int} {k z : Int} {w1 w2 : World} (hh : amC w s j m g o q l h kn si la od k z w1) (hb : Below w1.heap.size w1 w2) : amC w s j m g o q l h kn si la od k z w2 :=
  ⟨cellOn hb hh.1, cellOn hb hh.2.1, cellOn hb hh.2.2.1, cellOn hb hh.2.2.2.1, cellOn hb hh.2.2.2.2.1, cellOn hb hh.2.2.2.2.2.1, cellOn hb hh.2.2.2.2.2.2.1, cellOn hb hh.2.2.2.2.2.2.2.1, cellOn hb hh.2.2.2.2.2.2.2.2.1, cellOn hb hh.2.2.2.2.2.2.2.2.2.1, cellOn hb hh.2.2.2.2.2.2.2.2.2.2.1, cellOn hb hh.2.2.2.2.2.2.2.2.2.2.2.1, cellOn hb hh.2.2.2.2.2.2.2.2.2.2.2.2.1, cellOn hb hh.2.2.2.2.2.2.2.2.2.2.2.2.2.1, cellOn hb hh.2.2.2.2.2.2.2.2.2.2.2.2.2.2.1, cellOn hb hh.2.2.2.2.2.2.2.2.2.2.2.2.2.2.2.1, cellOn hb hh.2.2.2.2.2.2.2.2.2.2.2.2.2.2.2.2.1, cellOn hb hh.2.2.2.2.2.2.2.2.2.2.2.2.2.2.2.2.2.1, frozenOn hb hh.2.2.2.2.2.2.1 hh.2.2.2.2.2.2.2.2.2.2.2.2.2.2.2.2.2.2.1, frozenOn hb hh.2.2.2.2.2.2.2.1 hh.2.2.2.2.2.2.2.2.2.2.2.2.2.2.2.2.2.2.2.1, frozenOn hb hh.2.2.2.2.2.2.2.2.1 hh.2.2.2.2.2.2.2.2.2.2.2.2.2.2.2.2.2.2.2.2.1, frozenOn hb hh.2.2.2.2.2.2.2.2.2.1 hh.2.2.2.2.2.2.2.2.2.2.2.2.2.2.2.2.2.2.2.2.2.1, frozenOn hb hh.2.2.2.2.2.2.2.2.2.2.1 hh.2.2.2.2.2.2.2.2.2.2.2.2.2.2.2.2.2.2.2.2.2.2.1, frozenOn hb hh.2.2.2.2.2.2.2.2.2.2.2.1 hh.2.2.2.2.2.2.2.2.2.2.2.2.2.2.2.2.2.2.2.2.2.2.2.1, frozenOn hb hh.2.2.2.2.2.2.2.2.2.2.2.2.1 hh.2.2.2.2.2.2.2.2.2.2.2.2.2.2.2.2.2.2.2.2.2.2.2.2.1, frozenOn hb hh.2.2.2.2.2.2.2.2.2.2.2.2.2.1 hh.2.2.2.2.2.2.2.2.2.2.2.2.2.2.2.2.2.2.2.2.2.2.2.2.2.1, frozenOn hb hh.2.2.2.2.2.2.2.2.2.2.2.2.2.2.1 hh.2.2.2.2.2.2.2.2.2.2.2.2.2.2.2.2.2.2.2.2.2.2.2.2.2.2.1, frozenOn hb hh.2.2.2.2.2.2.2.2.2.2.2.2.2.2.2.1 hh.2.2.2.2.2.2.2.2.2.2.2.2.2.2.2.2.2.2.2.2.2.2.2.2.2.2.2.1, frozenOn hb hh.2.2.2.2.2.2.2.2.2.2.2.2.2.2.2.2.1 hh.2.2.2.2.2.2.2.2.2.2.2.2.2.2.2.2.2.2.2.2.2.2.2.2.2.2.2.2.1, frozenOn hb hh.2.2.2.2.2.2.2.2.2.2.2.2.2.2.2.2.2.1 hh.2.2.2.2.2.2.2.2.2.2.2.2.2.2.2.2.2.2.2.2.2.2.2.2.2.2.2.2.2.1, cellOn hb hh.2.2.2.2.2.2.2.2.2.2.2.2.2.2.2.2.2.2.2.2.2.2.2.2.2.2.2.2.2.2.1, cellOn hb hh.2.2.2.2.2.2.2.2.2.2.2.2.2.2.2.2.2.2.2.2.2.2.2.2.2.2.2.2.2.2.2.1, nbTrans hh.2.2.2.2.2.2.2.2.2.2.2.2.2.2.2.2.2.2.2.2.2.2.2.2.2.2.2.2.2.2.2.2 hb⟩

def aoC (w : World) (s j m g o : Int) (q : Nat) (l h : Int) (kn : Bool) (si la od : Int) (k z : Int) (p : Nat) (x y : Int) : World → Prop := fun w' => w'.cell? ⟨w.heap.size, 0, none⟩ = some (.int .i64 s) ∧ w'.cell? ⟨w.heap.size, 1, none⟩ = some (.int .i64 j) ∧ w'.cell? ⟨w.heap.size, 2, none⟩ = some (.int .i64 m) ∧ w'.cell? ⟨w.heap.size, 3, none⟩ = some (.int .i64 g) ∧ w'.cell? ⟨w.heap.size, 4, none⟩ = some (.int .i64 o) ∧ w'.cell? ⟨w.heap.size, 5, none⟩ = some (.map (some q)) ∧ w'.cell? ⟨w.heap.size + 1, 0, none⟩ = some (.int .i64 l) ∧ w'.cell? ⟨w.heap.size + 1, 1, none⟩ = some (.int .i64 h) ∧ w'.cell? ⟨w.heap.size + 1, 2, none⟩ = some (.bool kn) ∧ w'.cell? ⟨w.heap.size + 1, 3, none⟩ = some (.int .i64 si) ∧ w'.cell? ⟨w.heap.size + 1, 4, none⟩ = some (.int .i64 la) ∧ w'.cell? ⟨w.heap.size + 1, 5, none⟩ = some (.int .i64 od) ∧ w'.cell? ⟨w.heap.size + 1 + 1, 0, none⟩ = some (.int .i64 0) ∧ w'.cell? ⟨w.heap.size + 1 + 1, 1, none⟩ = some (.int .i64 0) ∧ w'.cell? ⟨w.heap.size + 1 + 1, 2, none⟩ = some (.bool false) ∧ w'.cell? ⟨w.heap.size + 1 + 1, 3, none⟩ = some (.int .i64 0) ∧ w'.cell? ⟨w.heap.size + 1 + 1, 4, none⟩ = some (.int .i64 0) ∧ w'.cell? ⟨w.heap.size + 1 + 1, 5, none⟩ = some (.int .i64 0) ∧ w'.frozen? ⟨w.heap.size + 1, 0, none⟩ = false ∧ w'.frozen? ⟨w.heap.size + 1, 1, none⟩ = false ∧ w'.frozen? ⟨w.heap.size + 1, 2, none⟩ = false ∧ w'.frozen? ⟨w.heap.size + 1, 3, none⟩ = false ∧ w'.frozen? ⟨w.heap.size + 1, 4, none⟩ = false ∧ w'.frozen? ⟨w.heap.size + 1, 5, none⟩ = false ∧ w'.frozen? ⟨w.heap.size + 1 + 1, 0, none⟩ = false ∧ w'.frozen? ⟨w.heap.size + 1 + 1, 1, none⟩ = false ∧ w'.frozen? ⟨w.heap.size + 1 + 1, 2, none⟩ = false ∧ w'.frozen? ⟨w.heap.size + 1 + 1, 3, none⟩ = false ∧ w'.frozen? ⟨w.heap.size + 1 + 1, 4, none⟩ = false ∧ w'.frozen? ⟨w.heap.size + 1 + 1, 5, none⟩ = false ∧ w'.cell? ⟨w.heap.size + 1 + 1 + 1, 0, none⟩ = some (.int .i64 k) ∧ w'.cell? ⟨w.heap.size + 1 + 1 + 1, 1, none⟩ = some (.int .i64 z) ∧ w'.cell? ⟨p, 0, none⟩ = some (.int .i64 x) ∧ w'.cell? ⟨p, 1, none⟩ = some (.int .i64 y) ∧ Below w.heap.size w w'
theorem aoC_on {w : World} {s j m g o : Int} {q : Nat} {l h : Int} {kn : Bool} {si la od : Int} {k z : Int} {p : Nat} {x y : Int} {w1 w2 : World} (hh : aoC w s j m g o q l h kn si la od k z p x y w1) (hb : Below w1.heap.size w1 w2) : aoC w s j m g o q l h kn si la od k z p x y w2 :=
  ⟨cellOn hb hh.1, cellOn hb hh.2.1, cellOn hb hh.2.2.1, cellOn hb hh.2.2.2.1, cellOn hb hh.2.2.2.2.1, cellOn hb hh.2.2.2.2.2.1, cellOn hb hh.2.2.2.2.2.2.1, cellOn hb hh.2.2.2.2.2.2.2.1, cellOn hb hh.2.2.2.2.2.2.2.2.1, cellOn hb hh.2.2.2.2.2.2.2.2.2.1, cellOn hb hh.2.2.2.2.2.2.2.2.2.2.1, cellOn hb hh.2.2.2.2.2.2.2.2.2.2.2.1, cellOn hb hh.2.2.2.2.2.2.2.2.2.2.2.2.1, cellOn hb hh.2.2.2.2.2.2.2.2.2.2.2.2.2.1, cellOn hb hh.2.2.2.2.2.2.2.2.2.2.2.2.2.2.1, cellOn hb hh.2.2.2.2.2.2.2.2.2.2.2.2.2.2.2.1, cellOn hb hh.2.2.2.2.2.2.2.2.2.2.2.2.2.2.2.2.1, cellOn hb hh.2.2.2.2.2.2.2.2.2.2.2.2.2.2.2.2.2.1, frozenOn hb hh.2.2.2.2.2.2.1 hh.2.2.2.2.2.2.2.2.2.2.2.2.2.2.2.2.2.2.1, frozenOn hb hh.2.2.2.2.2.2.2.1 hh.2.2.2.2.2.2.2.2.2.2.2.2.2.2.2.2.2.2.2.1, frozenOn hb hh.2.2.2.2.2.2.2.2.1 hh.2.2.2.2.2.2.2.2.2.2.2.2.2.2.2.2.2.2.2.2.1, frozenOn hb hh.2.2.2.2.2.2.2.2.2.1 hh.2.2.2.2.2.2.2.2.2.2.2.2.2.2.2.2.2.2.2.2.2.1, frozenOn hb hh.2.2.2.2.2.2.2.2.2.2.1 hh.2.2.2.2.2.2.2.2.2.2.2.2.2.2.2.2.2.2.2.2.2.2.1, frozenOn hb hh.2.2.2.2.2.2.2.2.2.2.2.1 hh.2.2.2.2.2.2.2.2.2.2.2.2.2.2.2.2.2.2.2.2.2.2.2.1, frozenOn hb hh.2.2.2.2.2.2.2.2.2.2.2.2.1 hh.2.2.2.2.2.2.2.2.2.2.2.2.2.2.2.2.2.2.2.2.2.2.2.2.1, frozenOn hb hh.2.2.2.2.2.2.2.2.2.2.2.2.2.1 hh.2.2.2.2.2.2.2.2.2.2.2.2.2.2.2.2.2.2.2.2.2.2.2.2.2.1, frozenOn hb hh.2.2.2.2.2.2.2.2.2.2.2.2.2.2.1 hh.2.2.2.2.2.2.2.2.2.2.2.2.2.2.2.2.2.2.2.2.2.2.2.2.2.2.1, frozenOn hb hh.2.2.2.2.2.2.2.2.2.2.2.2.2.2.2.1 hh.2.2.2.2.2.2.2.2.2.2.2.2.2.2.2.2.2.2.2.2.2.2.2.2.2.2.2.1, frozenOn hb hh.2.2.2.2.2.2.2.2.2.2.2.2.2.2.2.2.1 hh.2.2.2.2.2.2.2.2.2.2.2.2.2.2.2.2.2.2.2.2.2.2.2.2.2.2.2.2.1, frozenOn hb hh.2.2.2.2.2.2.2.2.2.2.2.2.2.2.2.2.2.1 hh.2.2.2.2.2.2.2.2.2.2.2.2.2.2.2.2.2.2.2.2.2.2.2.2.2.2.2.2.2.1, cellOn hb hh.2.2.2.2.2.2.2.2.2.2.2.2.2.2.2.2.2.2.2.2.2.2.2.2.2.2.2.2.2.2.1, cellOn hb hh.2.2.2.2.2.2.2.2.2.2.2.2.2.2.2.2.2.2.2.2.2.2.2.2.2.2.2.2.2.2.2.1, cellOn hb hh.2.2.2.2.2.2.2.2.2.2.2.2.2.2.2.2.2.2.2.2.2.2.2.2.2.2.2.2.2.2.2.2.1, cellOn hb hh.2.2.2.2.2.2.2.2.2.2.2.2.2.2.2.2.2.2.2.2.2.2.2.2.2.2.2.2.2.2.2.2.2.1, nbTrans hh.2.2.2.2.2.2.2.2.2.2.2.2.2.2.2.2.2.2.2.2.2.2.2.2.2.2.2.2.2.2.2.2.2.2 hb⟩

theorem aoC_l {w : World} {s j m g o : Int} {q : Nat} {l h : Int} {kn : Bool} {si la od : Int} {k z : Int} {p : Nat} {x y : Int} {w1 : World} (hh : aoC w s j m g o q l h kn si la od k z p x y w1) (X : Int) (hp : p ≠ w.heap.size + 1) : aoC w s j m g o q X h kn si la od k z p x y (w1.setCell ⟨w.heap.size + 1, 0, none⟩ (.int .i64 X)) :=
  ⟨cellFar (by omega) hh.1,
   cellFar (by omega) hh.2.1,
   cellFar (by omega) hh.2.2.1,
   cellFar (by omega) hh.2.2.2.1,
   cellFar (by omega) hh.2.2.2.2.1,
   cellFar (by omega) hh.2.2.2.2.2.1,
   World.cell?_setCell_same _ _ _ hh.2.2.2.2.2.2.1,
   (World.cell?_setCell_other _ _ _ _ (by simp)).trans hh.2.2.2.2.2.2.2.1,
   (World.cell?_setCell_other _ _ _ _ (by simp)).trans hh.2.2.2.2.2.2.2.2.1,
   (World.cell?_setCell_other _ _ _ _ (by simp)).trans hh.2.2.2.2.2.2.2.2.2.1,
   (World.cell?_setCell_other _ _ _ _ (by simp)).trans hh.2.2.2.2.2.2.2.2.2.2.1,
   (World.cell?_setCell_other _ _ _ _ (by simp)).trans hh.2.2.2.2.2.2.2.2.2.2.2.1,
   cellFar (by omega) hh.2.2.2.2.2.2.2.2.2.2.2.2.1,
   cellFar (by omega) hh.2.2.2.2.2.2.2.2.2.2.2.2.2.1,
   cellFar (by omega) hh.2.2.2.2.2.2.2.2.2.2.2.2.2.2.1,
   cellFar (by omega) hh.2.2.2.2.2.2.2.2.2.2.2.2.2.2.2.1,
   cellFar (by omega) hh.2.2.2.2.2.2.2.2.2.2.2.2.2.2.2.2.1,
   cellFar (by omega) hh.2.2.2.2.2.2.2.2.2.2.2.2.2.2.2.2.2.1,
   (World.frozen?_setCell _ _ _ _).trans hh.2.2.2.2.2.2.2.2.2.2.2.2.2.2.2.2.2.2.1,
   (World.frozen?_setCell _ _ _ _).trans hh.2.2.2.2.2.2.2.2.2.2.2.2.2.2.2.2.2.2.2.1,
   (World.frozen?_setCell _ _ _ _).trans hh.2.2.2.2.2.2.2.2.2.2.2.2.2.2.2.2.2.2.2.2.1,
   (World.frozen?_setCell _ _ _ _).trans hh.2.2.2.2.2.2.2.2.2.2.2.2.2.2.2.2.2.2.2.2.2.1,
   (World.frozen?_setCell _ _ _ _).trans hh.2.2.2.2.2.2.2.2.2.2.2.2.2.2.2.2.2.2.2.2.2.2.1,
   (World.frozen?_setCell _ _ _ _).trans hh.2.2.2.2.2.2.2.2.2.2.2.2.2.2.2.2.2.2.2.2.2.2.2.1,
   (World.frozen?_setCell _ _ _ _).trans hh.2.2.2.2.2.2.2.2.2.2.2.2.2.2.2.2.2.2.2.2.2.2.2.2.1,
   (World.frozen?_setCell _ _ _ _).trans hh.2.2.2.2.2.2.2.2.2.2.2.2.2.2.2.2.2.2.2.2.2.2.2.2.2.1,
   (World.frozen?_setCell _ _ _ _).trans hh.2.2.2.2.2.2.2.2.2.2.2.2.2.2.2.2.2.2.2.2.2.2.2.2.2.2.1,
   (World.frozen?_setCell _ _ _ _).trans hh.2.2.2.2.2.2.2.2.2.2.2.2.2.2.2.2.2.2.2.2.2.2.2.2.2.2.2.1,
   (World.frozen?_setCell _ _ _ _).trans hh.2.2.2.2.2.2.2.2.2.2.2.2.2.2.2.2.2.2.2.2.2.2.2.2.2.2.2.2.1,
   (World.frozen?_setCell _ _ _ _).trans hh.2.2.2.2.2.2.2.2.2.2.2.2.2.2.2.2.2.2.2.2.2.2.2.2.2.2.2.2.2.1,
   cellFar (by omega) hh.2.2.2.2.2.2.2.2.2.2.2.2.2.2.2.2.2.2.2.2.2.2.2.2.2.2.2.2.2.2.1,
   cellFar (by omega) hh.2.2.2.2.2.2.2.2.2.2.2.2.2.2.2.2.2.2.2.2.2.2.2.2.2.2.2.2.2.2.2.1,
   cellFar (by omega) hh.2.2.2.2.2.2.2.2.2.2.2.2.2.2.2.2.2.2.2.2.2.2.2.2.2.2.2.2.2.2.2.2.1,
   cellFar (by omega) hh.2.2.2.2.2.2.2.2.2.2.2.2.2.2.2.2.2.2.2.2.2.2.2.2.2.2.2.2.2.2.2.2.2.1,
   nbSetX hh.2.2.2.2.2.2.2.2.2.2.2.2.2.2.2.2.2.2.2.2.2.2.2.2.2.2.2.2.2.2.2.2.2.2 (by omega)⟩

theorem aoC_h {w : World} {s j m g o : Int} {q : Nat} {l h : Int} {kn : Bool} {si la od : Int} {k z : Int} {p : Nat} {x y : Int} {w1 : World} (hh : aoC w s j m g o q l h kn si la od k z p x y w1) (X : Int) (hp : p ≠ w.heap.size + 1) : aoC w s j m g o q l X kn si la od k z p x y (w1.setCell ⟨w.heap.size + 1, 1, none⟩ (.int .i64 X)) :=
  ⟨cellFar (by omega) hh.1,
   cellFar (by omega) hh.2.1,
   cellFar (by omega) hh.2.2.1,
   cellFar (by omega) hh.2.2.2.1,
   cellFar (by omega) hh.2.2.2.2.1,
   cellFar (by omega) hh.2.2.2.2.2.1,
   (World.cell?_setCell_other _ _ _ _ (by simp)).trans hh.2.2.2.2.2.2.1,
   World.cell?_setCell_same _ _ _ hh.2.2.2.2.2.2.2.1,
   (World.cell?_setCell_other _ _ _ _ (by simp)).trans hh.2.2.2.2.2.2.2.2.1,
   (World.cell?_setCell_other _ _ _ _ (by simp)).trans hh.2.2.2.2.2.2.2.2.2.1,
   (World.cell?_setCell_other _ _ _ _ (by simp)).trans hh.2.2.2.2.2.2.2.2.2.2.1,
   (World.cell?_setCell_other _ _ _ _ (by simp)).trans hh.2.2.2.2.2.2.2.2.2.2.2.1,
   cellFar (by omega) hh.2.2.2.2.2.2.2.2.2.2.2.2.1,
   cellFar (by omega) hh.2.2.2.2.2.2.2.2.2.2.2.2.2.1,
   cellFar (by omega) hh.2.2.2.2.2.2.2.2.2.2.2.2.2.2.1,
   cellFar (by omega) hh.2.2.2.2.2.2.2.2.2.2.2.2.2.2.2.1,
   cellFar (by omega) hh.2.2.2.2.2.2.2.2.2.2.2.2.2.2.2.2.1,
   cellFar (by omega) hh.2.2.2.2.2.2.2.2.2.2.2.2.2.2.2.2.2.1,
   (World.frozen?_setCell _ _ _ _).trans hh.2.2.2.2.2.2.2.2.2.2.2.2.2.2.2.2.2.2.1,
   (World.frozen?_setCell _ _ _ _).trans hh.2.2.2.2.2.2.2.2.2.2.2.2.2.2.2.2.2.2.2.1,
   (World.frozen?_setCell _ _ _ _).trans hh.2.2.2.2.2.2.2.2.2.2.2.2.2.2.2.2.2.2.2.2.1,
   (World.frozen?_setCell _ _ _ _).trans hh.2.2.2.2.2.2.2.2.2.2.2.2.2.2.2.2.2.2.2.2.2.1,
   (World.frozen?_setCell _ _ _ _).trans hh.2.2.2.2.2.2.2.2.2.2.2.2.2.2.2.2.2.2.2.2.2.2.1,
   (World.frozen?_setCell _ _ _ _).trans hh.2.2.2.2.2.2.2.2.2.2.2.2.2.2.2.2.2.2.2.2.2.2.2.1,
   (World.frozen?_setCell _ _ _ _).trans hh.2.2.2.2.2.2.2.2.2.2.2.2.2.2.2.2.2.2.2.2.2.2.2.2.1,
   (World.frozen?_setCell _ _ _ _).trans hh.2.2.2.2.2.2.2.2.2.2.2.2.2.2.2.2.2.2.2.2.2.2.2.2.2.1,
   (World.frozen?_setCell _ _ _ _).trans hh.2.2.2.2.2.2.2.2.2.2.2.2.2.2.2.2.2.2.2.2.2.2.2.2.2.2.1,
   (World.frozen?_setCell _ _ _ _).trans hh.2.2.2.2.2.2.2.2.2.2.2.2.2.2.2.2.2.2.2.2.2.2.2.2.2.2.2.1,
   (World.frozen?_setCell _ _ _ _).trans hh.2.2.2.2.2.2.2.2.2.2.2.2.2.2.2.2.2.2.2.2.2.2.2.2.2.2.2.2.1,
   (World.frozen?_setCell _ _ _ _).trans hh.2.2.2.2.2.2.2.2.2.2.2.2.2.2.2.2.2.2.2.2.2.2.2.2.2.2.2.2.2.1,
   cellFar (by omega) hh.2.2.2.2.2.2.2.2.2.2.2.2.2.2.2.2.2.2.2.2.2.2.2.2.2.2.2.2.2.2.1,
   cellFar (by omega) hh.2.2.2.2.2.2.2.2.2.2.2.2.2.2.2.2.2.2.2.2.2.2.2.2.2.2.2.2.2.2.2.1,
   cellFar (by omega) hh.2.2.2.2.2.2.2.2.2.2.2.2.2.2.2.2.2.2.2.2.2.2.2.2.2.2.2.2.2.2.2.2.1,
   cellFar (by omega) hh.2.2.2.2.2.2.2.2.2.2.2.2.2.2.2.2.2.2.2.2.2.2.2.2.2.2.2.2.2.2.2.2.2.1,
   nbSetX hh.2.2.2.2.2.2.2.2.2.2.2.2.2.2.2.2.2.2.2.2.2.2.2.2.2.2.2.2.2.2.2.2.2.2 (by omega)⟩

theorem aoC_kn {w : World} {s j m g o : Int} {q : Nat} {l h : Int} {kn : Bool} {si la od : Int} {k z : Int} {p : Nat} {x y : Int} {w1 : World} (hh : aoC w s j m g o q l h kn si la od k z p x y w1) (X : Bool) (hp : p ≠ w.heap.size + 1) : aoC w s j m g o q l h X si la od k z p x y (w1.setCell ⟨w.heap.size + 1, 2, none⟩ (.bool X)) :=
  ⟨cellFar (by omega) hh.1,
   cellFar (by omega) hh.2.1,
   cellFar (by omega) hh.2.2.1,
   cellFar (by omega) hh.2.2.2.1,
   cellFar (by omega) hh.2.2.2.2.1,
   cellFar (by omega) hh.2.2.2.2.2.1,
   (World.cell?_setCell_other _ _ _ _ (by simp)).trans hh.2.2.2.2.2.2.1,
   (World.cell?_setCell_other _ _ _ _ (by simp)).trans hh.2.2.2.2.2.2.2.1,
   World.cell?_setCell_same _ _ _ hh.2.2.2.2.2.2.2.2.1,
   (World.cell?_setCell_other _ _ _ _ (by simp)).trans hh.2.2.2.2.2.2.2.2.2.1,
   (World.cell?_setCell_other _ _ _ _ (by simp)).trans hh.2.2.2.2.2.2.2.2.2.2.1,
   (World.cell?_setCell_other _ _ _ _ (by simp)).trans hh.2.2.2.2.2.2.2.2.2.2.2.1,
   cellFar (by omega) hh.2.2.2.2.2.2.2.2.2.2.2.2.1,
   cellFar (by omega) hh.2.2.2.2.2.2.2.2.2.2.2.2.2.1,
   cellFar (by omega) hh.2.2.2.2.2.2.2.2.2.2.2.2.2.2.1,
   cellFar (by omega) hh.2.2.2.2.2.2.2.2.2.2.2.2.2.2.2.1,
   cellFar (by omega) hh.2.2.2.2.2.2.2.2.2.2.2.2.2.2.2.2.1,
   cellFar (by omega) hh.2.2.2.2.2.2.2.2.2.2.2.2.2.2.2.2.2.1,
   (World.frozen?_setCell _ _ _ _).trans hh.2.2.2.2.2.2.2.2.2.2.2.2.2.2.2.2.2.2.1,
   (World.frozen?_setCell _ _ _ _).trans hh.2.2.2.2.2.2.2.2.2.2.2.2.2.2.2.2.2.2.2.1,
   (World.frozen?_setCell _ _ _ _).trans hh.2.2.2.2.2.2.2.2.2.2.2.2.2.2.2.2.2.2.2.2.1,
   (World.frozen?_setCell _ _ _ _).trans hh.2.2.2.2.2.2.2.2.2.2.2.2.2.2.2.2.2.2.2.2.2.1,
   (World.frozen?_setCell _ _ _ _).trans hh.2.2.2.2.2.2.2.2.2.2.2.2.2.2.2.2.2.2.2.2.2.2.1,
   (World.frozen?_setCell _ _ _ _).trans hh.2.2.2.2.2.2.2.2.2.2.2.2.2.2.2.2.2.2.2.2.2.2.2.1,
   (World.frozen?_setCell _ _ _ _).trans hh.2.2.2.2.2.2.2.2.2.2.2.2.2.2.2.2.2.2.2.2.2.2.2.2.1,
   (World.frozen?_setCell _ _ _ _).trans hh.2.2.2.2.2.2.2.2.2.2.2.2.2.2.2.2.2.2.2.2.2.2.2.2.2.1,
   (World.frozen?_setCell _ _ _ _).trans hh.2.2.2.2.2.2.2.2.2.2.2.2.2.2.2.2.2.2.2.2.2.2.2.2.2.2.1,
   (World.frozen?_setCell _ _ _ _).trans hh.2.2.2.2.2.2.2.2.2.2.2.2.2.2.2.2.2.2.2.2.2.2.2.2.2.2.2.1,
   (World.frozen?_setCell _ _ _ _).trans hh.2.2.2.2.2.2.2.2.2.2.2.2.2.2.2.2.2.2.2.2.2.2.2.2.2.2.2.2.1,
   (World.frozen?_setCell _ _ _ _).trans hh.2.2.2.2.2.2.2.2.2.2.2.2.2.2.2.2.2.2.2.2.2.2.2.2.2.2.2.2.2.1,
   cellFar (by omega) hh.2.2.2.2.2.2.2.2.2.2.2.2.2.2.2.2.2.2.2.2.2.2.2.2.2.2.2.2.2.2.1,
   cellFar (by omega) hh.2.2.2.2.2.2.2.2.2.2.2.2.2.2.2.2.2.2.2.2.2.2.2.2.2.2.2.2.2.2.2.1,
   cellFar (by omega) hh.2.2.2.2.2.2.2.2.2.2.2.2.2.2.2.2.2.2.2.2.2.2.2.2.2.2.2.2.2.2.2.2.1,
   cellFar (by omega) hh.2.2.2.2.2.2.2.2.2.2.2.2.2.2.2.2.2.2.2.2.2.2.2.2.2.2.2.2.2.2.2.2.2.1,
   nbSetX hh.2.2.2.2.2.2.2.2.2.2.2.2.2.2.2.2.2.2.2.2.2.2.2.2.2.2.2.2.2.2.2.2.2.2 (by omega)⟩

theorem aoC_si {w : World} {s j m g o : Int} {q : Nat} {l h : Int} {kn : Bool} {si la od : Int} {k z : Int} {p : Nat} {x y : Int} {w1 : World} (hh : aoC w s j m g o q l h kn si la od k z p x y w1) (X : Int) (hp : p ≠ w.heap.size + 1) : aoC w s j m g o q l h kn X la od k z p x y (w1.setCell ⟨w.heap.size + 1, 3, none⟩ (.int .i64 X)) :=
  ⟨cellFar (by omega) hh.1,
   cellFar (by omega) hh.2.1,
   cellFar (by omega) hh.2.2.1,
   cellFar (by omega) hh.2.2.2.1,
   cellFar (by omega) hh.2.2.2.2.1,
   cellFar (by omega) hh.2.2.2.2.2.1,
   (World.cell?_setCell_other _ _ _ _ (by simp)).trans hh.2.2.2.2.2.2.1,
   (World.cell?_setCell_other _ _ _ _ (by simp)).trans hh.2.2.2.2.2.2.2.1,
   (World.cell?_setCell_other _ _ _ _ (by simp)).trans hh.2.2.2.2.2.2.2.2.1,
   World.cell?_setCell_same _ _ _ hh.2.2.2.2.2.2.2.2.2.1,
   (World.cell?_setCell_other _ _ _ _ (by simp)).trans hh.2.2.2.2.2.2.2.2.2.2.1,
   (World.cell?_setCell_other _ _ _ _ (by simp)).trans hh.2.2.2.2.2.2.2.2.2.2.2.1,
   cellFar (by omega) hh.2.2.2.2.2.2.2.2.2.2.2.2.1,
   cellFar (by omega) hh.2.2.2.2.2.2.2.2.2.2.2.2.2.1,
   cellFar (by omega) hh.2.2.2.2.2.2.2.2.2.2.2.2.2.2.1,
   cellFar (by omega) hh.2.2.2.2.2.2.2.2.2.2.2.2.2.2.2.1,
   cellFar (by omega) hh.2.2.2.2.2.2.2.2.2.2.2.2.2.2.2.2.1,
   cellFar (by omega) hh.2.2.2.2.2.2.2.2.2.2.2.2.2.2.2.2.2.1,
   (World.frozen?_setCell _ _ _ _).trans hh.2.2.2.2.2.2.2.2.2.2.2.2.2.2.2.2.2.2.1,
   (World.frozen?_setCell _ _ _ _).trans hh.2.2.2.2.2.2.2.2.2.2.2.2.2.2.2.2.2.2.2.1,
   (World.frozen?_setCell _ _ _ _).trans hh.2.2.2.2.2.2.2.2.2.2.2.2.2.2.2.2.2.2.2.2.1,
   (World.frozen?_setCell _ _ _ _).trans hh.2.2.2.2.2.2.2.2.2.2.2.2.2.2.2.2.2.2.2.2.2.1,
   (World.frozen?_setCell _ _ _ _).trans hh.2.2.2.2.2.2.2.2.2.2.2.2.2.2.2.2.2.2.2.2.2.2.1,
   (World.frozen?_setCell _ _ _ _).trans hh.2.2.2.2.2.2.2.2.2.2.2.2.2.2.2.2.2.2.2.2.2.2.2.1,
   (World.frozen?_setCell _ _ _ _).trans hh.2.2.2.2.2.2.2.2.2.2.2.2.2.2.2.2.2.2.2.2.2.2.2.2.1,
   (World.frozen?_setCell _ _ _ _).trans hh.2.2.2.2.2.2.2.2.2.2.2.2.2.2.2.2.2.2.2.2.2.2.2.2.2.1,
   (World.frozen?_setCell _ _ _ _).trans hh.2.2.2.2.2.2.2.2.2.2.2.2.2.2.2.2.2.2.2.2.2.2.2.2.2.2.1,
   (World.frozen?_setCell _ _ _ _).trans hh.2.2.2.2.2.2.2.2.2.2.2.2.2.2.2.2.2.2.2.2.2.2.2.2.2.2.2.1,
   (World.frozen?_setCell _ _ _ _).trans hh.2.2.2.2.2.2.2.2.2.2.2.2.2.2.2.2.2.2.2.2.2.2.2.2.2.2.2.2.1,
   (World.frozen?_setCell _ _ _ _).trans hh.2.2.2.2.2.2.2.2.2.2.2.2.2.2.2.2.2.2.2.2.2.2.2.2.2.2.2.2.2.1,
   cellFar (by omega) hh.2.2.2.2.2.2.2.2.2.2.2.2.2.2.2.2.2.2.2.2.2.2.2.2.2.2.2.2.2.2.1,
   cellFar (by omega) hh.2.2.2.2.2.2.2.2.2.2.2.2.2.2.2.2.2.2.2.2.2.2.2.2.2.2.2.2.2.2.2.1,
   cellFar (by omega) hh.2.2.2.2.2.2.2.2.2.2.2.2.2.2.2.2.2.2.2.2.2.2.2.2.2.2.2.2.2.2.2.2.1,
   cellFar (by omega) hh.2.2.2.2.2.2.2.2.2.2.2.2.2.2.2.2.2.2.2.2.2.2.2.2.2.2.2.2.2.2.2.2.2.1,
   nbSetX hh.2.2.2.2.2.2.2.2.2.2.2.2.2.2.2.2.2.2.2.2.2.2.2.2.2.2.2.2.2.2.2.2.2.2 (by omega)⟩

theorem aoC_la {w : World} {s j m g o : Int} {q : Nat} {l h : Int} {kn : Bool} {si la od : Int} {k z : Int} {p : Nat} {x y : Int} {w1 : World} (hh : aoC w s j m g o q l h kn si la od k z p x y w1) (X : Int) (hp : p ≠ w.heap.size + 1) : aoC w s j m g o q l h kn si X od k z p x y (w1.setCell ⟨w.heap.size + 1, 4, none⟩ (.int .i64 X)) :=
  ⟨cellFar (by omega) hh.1,
   cellFar (by omega) hh.2.1,
   cellFar (by omega) hh.2.2.1,
   cellFar (by omega) hh.2.2.2.1,
   cellFar (by omega) hh.2.2.2.2.1,
   cellFar (by omega) hh.2.2.2.2.2.1,
   (World.cell?_setCell_other _ _ _ _ (by simp)).trans hh.2.2.2.2.2.2.1,
   (World.cell?_setCell_other _ _ _ _ (by simp)).trans hh.2.2.2.2.2.2.2.1,
   (World.cell?_setCell_other _ _ _ _ (by simp)).trans hh.2.2.2.2.2.2.2.2.1,
   (World.cell?_setCell_other _ _ _ _ (by simp)).trans hh.2.2.2.2.2.2.2.2.2.1,
   World.cell?_setCell_same _ _ _ hh.2.2.2.2.2.2.2.2.2.2.1,
   (World.cell?_setCell_other _ _ _ _ (by simp)).trans hh.2.2.2.2.2.2.2.2.2.2.2.1,
   cellFar (by omega) hh.2.2.2.2.2.2.2.2.2.2.2.2.1,
   cellFar (by omega) hh.2.2.2.2.2.2.2.2.2.2.2.2.2.1,
   cellFar (by omega) hh.2.2.2.2.2.2.2.2.2.2.2.2.2.2.1,
   cellFar (by omega) hh.2.2.2.2.2.2.2.2.2.2.2.2.2.2.2.1,
   cellFar (by omega) hh.2.2.2.2.2.2.2.2.2.2.2.2.2.2.2.2.1,
   cellFar (by omega) hh.2.2.2.2.2.2.2.2.2.2.2.2.2.2.2.2.2.1,
   (World.frozen?_setCell _ _ _ _).trans hh.2.2.2.2.2.2.2.2.2.2.2.2.2.2.2.2.2.2.1,
   (World.frozen?_setCell _ _ _ _).trans hh.2.2.2.2.2.2.2.2.2.2.2.2.2.2.2.2.2.2.2.1,
   (World.frozen?_setCell _ _ _ _).trans hh.2.2.2.2.2.2.2.2.2.2.2.2.2.2.2.2.2.2.2.2.1,
   (World.frozen?_setCell _ _ _ _).trans hh.2.2.2.2.2.2.2.2.2.2.2.2.2.2.2.2.2.2.2.2.2.1,
   (World.frozen?_setCell _ _ _ _).trans hh.2.2.2.2.2.2.2.2.2.2.2.2.2.2.2.2.2.2.2.2.2.2.1,
   (World.frozen?_setCell _ _ _ _).trans hh.2.2.2.2.2.2.2.2.2.2.2.2.2.2.2.2.2.2.2.2.2.2.2.1,
   (World.frozen?_setCell _ _ _ _).trans hh.2.2.2.2.2.2.2.2.2.2.2.2.2.2.2.2.2.2.2.2.2.2.2.2.1,
   (World.frozen?_setCell _ _ _ _).trans hh.2.2.2.2.2.2.2.2.2.2.2.2.2.2.2.2.2.2.2.2.2.2.2.2.2.1,
   (World.frozen?_setCell _ _ _ _).trans hh.2.2.2.2.2.2.2.2.2.2.2.2.2.2.2.2.2.2.2.2.2.2.2.2.2.2.1,
   (World.frozen?_setCell _ _ _ _).trans hh.2.2.2.2.2.2.2.2.2.2.2.2.2.2.2.2.2.2.2.2.2.2.2.2.2.2.2.1,
   (World.frozen?_setCell _ _ _ _).trans hh.2.2.2.2.2.2.2.2.2.2.2.2.2.2.2.2.2.2.2.2.2.2.2.2.2.2.2.2.1,
   (World.frozen?_setCell _ _ _ _).trans hh.2.2.2.2.2.2.2.2.2.2.2.2.2.2.2.2.2.2.2.2.2.2.2.2.2.2.2.2.2.1,
   cellFar (by omega) hh.2.2.2.2.2.2.2.2.2.2.2.2.2.2.2.2.2.2.2.2.2.2.2.2.2.2.2.2.2.2.1,
   cellFar (by omega) hh.2.2.2.2.2.2.2.2.2.2.2.2.2.2.2.2.2.2.2.2.2.2.2.2.2.2.2.2.2.2.2.1,
   cellFar (by omega) hh.2.2.2.2.2.2.2.2.2.2.2.2.2.2.2.2.2.2.2.2.2.2.2.2.2.2.2.2.2.2.2.2.1,
   cellFar (by omega) hh.2.2.2.2.2.2.2.2.2.2.2.2.2.2.2.2.2.2.2.2.2.2.2.2.2.2.2.2.2.2.2.2.2.1,
   nbSetX hh.2.2.2.2.2.2.2.2.2.2.2.2.2.2.2.2.2.2.2.2.2.2.2.2.2.2.2.2.2.2.2.2.2.2 (by omega)⟩

theorem aoC_od {w : World} {s j m g o : Int} {q : Nat} {l h : Int} {kn : Bool} {si la od : Int} {k z : Int} {p : Nat} {x y : Int} {w1 : World} (hh : aoC w s j m g o q l h kn si la od k z p x y w1) (X : Int) (hp : p ≠ w.heap.size + 1) : aoC w s j m g o q l h kn si la X k z p x y (w1.setCell ⟨w.heap.size + 1, 5, none⟩ (.int .i64 X)) :=
  ⟨cellFar (by omega) hh.1,
   cellFar (by omega) hh.2.1,
   cellFar (by omega) hh.2.2.1,
   cellFar (by omega) hh.2.2.2.1,
   cellFar (by omega) hh.2.2.2.2.1,
   cellFar (by omega) hh.2.2.2.2.2.1,
   (World.cell?_setCell_other _ _ _ _ (by simp)).trans hh.2.2.2.2.2.2.1,
   (World.cell?_setCell_other _ _ _ _ (by simp)).trans hh.2.2.2.2.2.2.2.1,
   (World.cell?_setCell_other _ _ _ _ (by simp)).trans hh.2.2.2.2.2.2.2.2.1,
   (World.cell?_setCell_other _ _ _ _ (by simp)).trans hh.2.2.2.2.2.2.2.2.2.1,
   (World.cell?_setCell_other _ _ _ _ (by simp)).trans hh.2.2.2.2.2.2.2.2.2.2.1,
   World.cell?_setCell_same _ _ _ hh.2.2.2.2.2.2.2.2.2.2.2.1,
   cellFar (by omega) hh.2.2.2.2.2.2.2.2.2.2.2.2.1,
   cellFar (by omega) hh.2.2.2.2.2.2.2.2.2.2.2.2.2.1,
   cellFar (by omega) hh.2.2.2.2.2.2.2.2.2.2.2.2.2.2.1,
   cellFar (by omega) hh.2.2.2.2.2.2.2.2.2.2.2.2.2.2.2.1,
   cellFar (by omega) hh.2.2.2.2.2.2.2.2.2.2.2.2.2.2.2.2.1,
   cellFar (by omega) hh.2.2.2.2.2.2.2.2.2.2.2.2.2.2.2.2.2.1,
   (World.frozen?_setCell _ _ _ _).trans hh.2.2.2.2.2.2.2.2.2.2.2.2.2.2.2.2.2.2.1,
   (World.frozen?_setCell _ _ _ _).trans hh.2.2.2.2.2.2.2.2.2.2.2.2.2.2.2.2.2.2.2.1,
   (World.frozen?_setCell _ _ _ _).trans hh.2.2.2.2.2.2.2.2.2.2.2.2.2.2.2.2.2.2.2.2.1,
   (World.frozen?_setCell _ _ _ _).trans hh.2.2.2.2.2.2.2.2.2.2.2.2.2.2.2.2.2.2.2.2.2.1,
   (World.frozen?_setCell _ _ _ _).trans hh.2.2.2.2.2.2.2.2.2.2.2.2.2.2.2.2.2.2.2.2.2.2.1,
   (World.frozen?_setCell _ _ _ _).trans hh.2.2.2.2.2.2.2.2.2.2.2.2.2.2.2.2.2.2.2.2.2.2.2.1,
   (World.frozen?_setCell _ _ _ _).trans hh.2.2.2.2.2.2.2.2.2.2.2.2.2.2.2.2.2.2.2.2.2.2.2.2.1,
   (World.frozen?_setCell _ _ _ _).trans hh.2.2.2.2.2.2.2.2.2.2.2.2.2.2.2.2.2.2.2.2.2.2.2.2.2.1,
   (World.frozen?_setCell _ _ _ _).trans hh.2.2.2.2.2.2.2.2.2.2.2.2.2.2.2.2.2.2.2.2.2.2.2.2.2.2.1,
   (World.frozen?_setCell _ _ _ _).trans hh.2.2.2.2.2.2.2.2.2.2.2.2.2.2.2.2.2.2.2.2.2.2.2.2.2.2.2.1,
   (World.frozen?_setCell _ _ _ _).trans hh.2.2.2.2.2.2.2.2.2.2.2.2.2.2.2.2.2.2.2.2.2.2.2.2.2.2.2.2.1,
   (World.frozen?_setCell _ _ _ _).trans hh.2.2.2.2.2.2.2.2.2.2.2.2.2.2.2.2.2.2.2.2.2.2.2.2.2.2.2.2.2.1,
   cellFar (by omega) hh.2.2.2.2.2.2.2.2.2.2.2.2.2.2.2.2.2.2.2.2.2.2.2.2.2.2.2.2.2.2.1,
   cellFar (by omega) hh.2.2.2.2.2.2.2.2.2.2.2.2.2.2.2.2.2.2.2.2.2.2.2.2.2.2.2.2.2.2.2.1,
   cellFar (by omega) hh.2.2.2.2.2.2.2.2.2.2.2.2.2.2.2.2.2.2.2.2.2.2.2.2.2.2.2.2.2.2.2.2.1,
   cellFar (by omega) hh.2.2.2.2.2.2.2.2.2.2.2.2.2.2.2.2.2.2.2.2.2.2.2.2.2.2.2.2.2.2.2.2.2.1,
   nbSetX hh.2.2.2.2.2.2.2.2.2.2.2.2.2.2.2.2.2.2.2.2.2.2.2.2.2.2.2.2.2.2.2.2.2.2 (by omega)⟩

theorem amC_si {w : World} {s j m g o : Int} {q : Nat} {l h : Int} {kn : Bool} {si la od : Int} {k z : Int} {w1 : World} (hh : amC w s j m g o q l h kn si la od k z w1) (X : Int) : amC w s j m g o q l h kn X la od k z (w1.setCell ⟨w.heap.size + 1, 3, none⟩ (.int .i64 X)) :=
  ⟨cellFar (by omega) hh.1,
   cellFar (by omega) hh.2.1,
   cellFar (by omega) hh.2.2.1,
   cellFar (by omega) hh.2.2.2.1,
   cellFar (by omega) hh.2.2.2.2.1,
   cellFar (by omega) hh.2.2.2.2.2.1,
   (World.cell?_setCell_other _ _ _ _ (by simp)).trans hh.2.2.2.2.2.2.1,
   (World.cell?_setCell_other _ _ _ _ (by simp)).trans hh.2.2.2.2.2.2.2.1,
   (World.cell?_setCell_other _ _ _ _ (by simp)).trans hh.2.2.2.2.2.2.2.2.1,
   World.cell?_setCell_same _ _ _ hh.2.2.2.2.2.2.2.2.2.1,
   (World.cell?_setCell_other _ _ _ _ (by simp)).trans hh.2.2.2.2.2.2.2.2.2.2.1,
   (World.cell?_setCell_other _ _ _ _ (by simp)).trans hh.2.2.2.2.2.2.2.2.2.2.2.1,
   cellFar (by omega) hh.2.2.2.2.2.2.2.2.2.2.2.2.1,
   cellFar (by omega) hh.2.2.2.2.2.2.2.2.2.2.2.2.2.1,
   cellFar (by omega) hh.2.2.2.2.2.2.2.2.2.2.2.2.2.2.1,
   cellFar (by omega) hh.2.2.2.2.2.2.2.2.2.2.2.2.2.2.2.1,
   cellFar (by omega) hh.2.2.2.2.2.2.2.2.2.2.2.2.2.2.2.2.1,
   cellFar (by omega) hh.2.2.2.2.2.2.2.2.2.2.2.2.2.2.2.2.2.1,
   (World.frozen?_setCell _ _ _ _).trans hh.2.2.2.2.2.2.2.2.2.2.2.2.2.2.2.2.2.2.1,
   (World.frozen?_setCell _ _ _ _).trans hh.2.2.2.2.2.2.2.2.2.2.2.2.2.2.2.2.2.2.2.1,
   (World.frozen?_setCell _ _ _ _).trans hh.2.2.2.2.2.2.2.2.2.2.2.2.2.2.2.2.2.2.2.2.1,
   (World.frozen?_setCell _ _ _ _).trans hh.2.2.2.2.2.2.2.2.2.2.2.2.2.2.2.2.2.2.2.2.2.1,
   (World.frozen?_setCell _ _ _ _).trans hh.2.2.2.2.2.2.2.2.2.2.2.2.2.2.2.2.2.2.2.2.2.2.1,
   (World.frozen?_setCell _ _ _ _).trans hh.2.2.2.2.2.2.2.2.2.2.2.2.2.2.2.2.2.2.2.2.2.2.2.1,
   (World.frozen?_setCell _ _ _ _).trans hh.2.2.2.2.2.2.2.2.2.2.2.2.2.2.2.2.2.2.2.2.2.2.2.2.1,
   (World.frozen?_setCell _ _ _ _).trans hh.2.2.2.2.2.2.2.2.2.2.2.2.2.2.2.2.2.2.2.2.2.2.2.2.2.1,
   (World.frozen?_setCell _ _ _ _).trans hh.2.2.2.2.2.2.2.2.2.2.2.2.2.2.2.2.2.2.2.2.2.2.2.2.2.2.1,
   (World.frozen?_setCell _ _ _ _).trans hh.2.2.2.2.2.2.2.2.2.2.2.2.2.2.2.2.2.2.2.2.2.2.2.2.2.2.2.1,
   (World.frozen?_setCell _ _ _ _).trans hh.2.2.2.2.2.2.2.2.2.2.2.2.2.2.2.2.2.2.2.2.2.2.2.2.2.2.2.2.1,
   (World.frozen?_setCell _ _ _ _).trans hh.2.2.2.2.2.2.2.2.2.2.2.2.2.2.2.2.2.2.2.2.2.2.2.2.2.2.2.2.2.1,
   cellFar (by omega) hh.2.2.2.2.2.2.2.2.2.2.2.2.2.2.2.2.2.2.2.2.2.2.2.2.2.2.2.2.2.2.1,
   cellFar (by omega) hh.2.2.2.2.2.2.2.2.2.2.2.2.2.2.2.2.2.2.2.2.2.2.2.2.2.2.2.2.2.2.2.1,
   nbSetX hh.2.2.2.2.2.2.2.2.2.2.2.2.2.2.2.2.2.2.2.2.2.2.2.2.2.2.2.2.2.2.2.2 (by omega)⟩

theorem amC_la {w : World} {s j m g o : Int} {q : Nat} {l h : Int} {kn : Bool} {si la od : Int} {k z : Int} {w1 : World} (hh : amC w s j m g o q l h kn si la od k z w1) (X : Int) : amC w s j m g o q l h kn si X od k z (w1.setCell ⟨w.heap.size + 1, 4, none⟩ (.int .i64 X)) :=
  ⟨cellFar (by omega) hh.1,
   cellFar (by omega) hh.2.1,
   cellFar (by omega) hh.2.2.1,
   cellFar (by omega) hh.2.2.2.1,
   cellFar (by omega) hh.2.2.2.2.1,
   cellFar (by omega) hh.2.2.2.2.2.1,
   (World.cell?_setCell_other _ _ _ _ (by simp)).trans hh.2.2.2.2.2.2.1,
   (World.cell?_setCell_other _ _ _ _ (by simp)).trans hh.2.2.2.2.2.2.2.1,
   (World.cell?_setCell_other _ _ _ _ (by simp)).trans hh.2.2.2.2.2.2.2.2.1,
   (World.cell?_setCell_other _ _ _ _ (by simp)).trans hh.2.2.2.2.2.2.2.2.2.1,
   World.cell?_setCell_same _ _ _ hh.2.2.2.2.2.2.2.2.2.2.1,
   (World.cell?_setCell_other _ _ _ _ (by simp)).trans hh.2.2.2.2.2.2.2.2.2.2.2.1,
   cellFar (by omega) hh.2.2.2.2.2.2.2.2.2.2.2.2.1,
   cellFar (by omega) hh.2.2.2.2.2.2.2.2.2.2.2.2.2.1,
   cellFar (by omega) hh.2.2.2.2.2.2.2.2.2.2.2.2.2.2.1,
   cellFar (by omega) hh.2.2.2.2.2.2.2.2.2.2.2.2.2.2.2.1,
   cellFar (by omega) hh.2.2.2.2.2.2.2.2.2.2.2.2.2.2.2.2.1,
   cellFar (by omega) hh.2.2.2.2.2.2.2.2.2.2.2.2.2.2.2.2.2.1,
   (World.frozen?_setCell _ _ _ _).trans hh.2.2.2.2.2.2.2.2.2.2.2.2.2.2.2.2.2.2.1,
   (World.frozen?_setCell _ _ _ _).trans hh.2.2.2.2.2.2.2.2.2.2.2.2.2.2.2.2.2.2.2.1,
   (World.frozen?_setCell _ _ _ _).trans hh.2.2.2.2.2.2.2.2.2.2.2.2.2.2.2.2.2.2.2.2.1,
   (World.frozen?_setCell _ _ _ _).trans hh.2.2.2.2.2.2.2.2.2.2.2.2.2.2.2.2.2.2.2.2.2.1,
   (World.frozen?_setCell _ _ _ _).trans hh.2.2.2.2.2.2.2.2.2.2.2.2.2.2.2.2.2.2.2.2.2.2.1,
   (World.frozen?_setCell _ _ _ _).trans hh.2.2.2.2.2.2.2.2.2.2.2.2.2.2.2.2.2.2.2.2.2.2.2.1,
   (World.frozen?_setCell _ _ _ _).trans hh.2.2.2.2.2.2.2.2.2.2.2.2.2.2.2.2.2.2.2.2.2.2.2.2.1,
   (World.frozen?_setCell _ _ _ _).trans hh.2.2.2.2.2.2.2.2.2.2.2.2.2.2.2.2.2.2.2.2.2.2.2.2.2.1,
   (World.frozen?_setCell _ _ _ _).trans hh.2.2.2.2.2.2.2.2.2.2.2.2.2.2.2.2.2.2.2.2.2.2.2.2.2.2.1,
   (World.frozen?_setCell _ _ _ _).trans hh.2.2.2.2.2.2.2.2.2.2.2.2.2.2.2.2.2.2.2.2.2.2.2.2.2.2.2.1,
   (World.frozen?_setCell _ _ _ _).trans hh.2.2.2.2.2.2.2.2.2.2.2.2.2.2.2.2.2.2.2.2.2.2.2.2.2.2.2.2.1,
   (World.frozen?_setCell _ _ _ _).trans hh.2.2.2.2.2.2.2.2.2.2.2.2.2.2.2.2.2.2.2.2.2.2.2.2.2.2.2.2.2.1,
   cellFar (by omega) hh.2.2.2.2.2.2.2.2.2.2.2.2.2.2.2.2.2.2.2.2.2.2.2.2.2.2.2.2.2.2.1,
   cellFar (by omega) hh.2.2.2.2.2.2.2.2.2.2.2.2.2.2.2.2.2.2.2.2.2.2.2.2.2.2.2.2.2.2.2.1,
   nbSetX hh.2.2.2.2.2.2.2.2.2.2.2.2.2.2.2.2.2.2.2.2.2.2.2.2.2.2.2.2.2.2.2.2 (by omega)⟩

set_option maxHeartbeats 2000000 in
theorem afterMark_new (s j m g o : Int) (q : Nat) (l h : Int) (si la od z : Int) (len : Nat) (f a : Nat → Int) (w : World) (hM : MapAt w q len f a) (hz : inB z 1 1000000000 = true) (ho0 : 0 ≤ od) (ho1 : od ≤ 1000000000) (i : Nat) (hi : Hid (lastIx f z len = (i : Int))) (c : Int) (hc : Hid (a i = c)) (hc0 : inB c 0 100000000 = true) (hr : rOk s j m g o = true) (x y : Int) (hx : Hid (x = min (c - m) 100000000)) (hy : Hid (y = min (c + m) 100000000)) :
    Calls Tryd.prog 81 #[.agg #[.int .i64 s, .int .i64 j, .int .i64 m, .int .i64 g, .int .i64 o, .map (some q)], .agg #[.int .i64 l, .int .i64 h, .bool false, .int .i64 si, .int .i64 la, .int .i64 od], .int .i64 z] w fun e w' => e = .returned (.agg #[.int .i64 x, .int .i64 y, .bool true, .int .i64 0, .int .i64 ((i : Int)), .int .i64 od]) ∧ Below w.heap.size w w' := by
  have hM3 := ((hM.on (nbAlloc (Below.refl _ _) (.cells #[.int .i64 s, .int .i64 j, .int .i64 m, .int .i64 g, .int .i64 o, .map (some q)] 73))).on (nbAlloc (Below.refl _ _) (.cells #[.int .i64 l, .int .i64 h, .bool false, .int .i64 si, .int .i64 la, .int .i64 od] 75))).on (nbAlloc (Below.refl _ _) (.cells #[.int .i64 0, .int .i64 0, .bool false, .int .i64 0, .int .i64 0, .int .i64 0] 75))
  have hm' := hr
  simp only [rOk, inB, Bool.and_eq_true, decide_eq_true_eq] at hm'
  have hm0 : 0 ≤ m := hm'.1.1.2.1
  have hm1 : m ≤ 10000 := hm'.1.1.2.2
  clear hm'
  have hc' := hc0
  simp only [inB, Bool.and_eq_true, decide_eq_true_eq] at hc'
  go_enter Tryd.func81, Tryd.ntmps81
  go_wp2_with (first | (at_lookup; refine wpList_spot_yes _ rfl _ _ rfl q len f a z i rfl hM3 rfl hz hi ?_) | fail)
  rw [hc.out]
  have hC0 : amC w s j m g o q l h false si la od i c ((((w.alloc (.cells #[.int .i64 s, .int .i64 j, .int .i64 m, .int .i64 g, .int .i64 o, .map (some q)] 73)).alloc (.cells #[.int .i64 l, .int .i64 h, .bool false, .int .i64 si, .int .i64 la, .int .i64 od] 75)).alloc (.cells #[.int .i64 0, .int .i64 0, .bool false, .int .i64 0, .int .i64 0, .int .i64 0] 75)).alloc (.cells #[.int .i64 i, .int .i64 c] 125)) := by
    refine ⟨?_, ?_, ?_, ?_, ?_, ?_, ?_, ?_, ?_, ?_, ?_, ?_, ?_, ?_, ?_, ?_, ?_, ?_, ?_, ?_, ?_, ?_, ?_, ?_, ?_, ?_, ?_, ?_, ?_, ?_, ?_, ?_, nbAlloc (nbAlloc (nbAlloc (nbAlloc (Below.refl _ _) _) _) _) _⟩ <;> go_simp
  clear hM3
  generalize (((w.alloc (.cells #[.int .i64 s, .int .i64 j, .int .i64 m, .int .i64 g, .int .i64 o, .map (some q)] 73)).alloc (.cells #[.int .i64 l, .int .i64 h, .bool false, .int .i64 si, .int .i64 la, .int .i64 od] 75)).alloc (.cells #[.int .i64 0, .int .i64 0, .bool false, .int .i64 0, .int .i64 0, .int .i64 0] 75)).alloc (.cells #[.int .i64 i, .int .i64 c] 125) = w4 at *
  have c0 : w4.cell? ⟨w.heap.size, 0, none⟩ = some (.int .i64 s) := hC0.1
  have c1 : w4.cell? ⟨w.heap.size, 1, none⟩ = some (.int .i64 j) := hC0.2.1
  have c2 : w4.cell? ⟨w.heap.size, 2, none⟩ = some (.int .i64 m) := hC0.2.2.1
  have c3 : w4.cell? ⟨w.heap.size, 3, none⟩ = some (.int .i64 g) := hC0.2.2.2.1
  have c4 : w4.cell? ⟨w.heap.size, 4, none⟩ = some (.int .i64 o) := hC0.2.2.2.2.1
  have c5 : w4.cell? ⟨w.heap.size, 5, none⟩ = some (.map (some q)) := hC0.2.2.2.2.2.1
  have c6 : w4.cell? ⟨w.heap.size + 1, 0, none⟩ = some (.int .i64 l) := hC0.2.2.2.2.2.2.1
  have c7 : w4.cell? ⟨w.heap.size + 1, 1, none⟩ = some (.int .i64 h) := hC0.2.2.2.2.2.2.2.1
  have c8 : w4.cell? ⟨w.heap.size + 1, 2, none⟩ = some (.bool false) := hC0.2.2.2.2.2.2.2.2.1
  have c9 : w4.cell? ⟨w.heap.size + 1, 3, none⟩ = some (.int .i64 si) := hC0.2.2.2.2.2.2.2.2.2.1
  have c10 : w4.cell? ⟨w.heap.size + 1, 4, none⟩ = some (.int .i64 la) := hC0.2.2.2.2.2.2.2.2.2.2.1
  have c11 : w4.cell? ⟨w.heap.size + 1, 5, none⟩ = some (.int .i64 od) := hC0.2.2.2.2.2.2.2.2.2.2.2.1
  have c12 : w4.cell? ⟨w.heap.size + 1 + 1, 0, none⟩ = some (.int .i64 0) := hC0.2.2.2.2.2.2.2.2.2.2.2.2.1
  have c13 : w4.cell? ⟨w.heap.size + 1 + 1, 1, none⟩ = some (.int .i64 0) := hC0.2.2.2.2.2.2.2.2.2.2.2.2.2.1
  have c14 : w4.cell? ⟨w.heap.size + 1 + 1, 2, none⟩ = some (.bool false) := hC0.2.2.2.2.2.2.2.2.2.2.2.2.2.2.1
  have c15 : w4.cell? ⟨w.heap.size + 1 + 1, 3, none⟩ = some (.int .i64 0) := hC0.2.2.2.2.2.2.2.2.2.2.2.2.2.2.2.1
  have c16 : w4.cell? ⟨w.heap.size + 1 + 1, 4, none⟩ = some (.int .i64 0) := hC0.2.2.2.2.2.2.2.2.2.2.2.2.2.2.2.2.1
  have c17 : w4.cell? ⟨w.heap.size + 1 + 1, 5, none⟩ = some (.int .i64 0) := hC0.2.2.2.2.2.2.2.2.2.2.2.2.2.2.2.2.2.1
  have c18 : w4.frozen? ⟨w.heap.size + 1, 0, none⟩ = false := hC0.2.2.2.2.2.2.2.2.2.2.2.2.2.2.2.2.2.2.1
  have c19 : w4.frozen? ⟨w.heap.size + 1, 1, none⟩ = false := hC0.2.2.2.2.2.2.2.2.2.2.2.2.2.2.2.2.2.2.2.1
  have c20 : w4.frozen? ⟨w.heap.size + 1, 2, none⟩ = false := hC0.2.2.2.2.2.2.2.2.2.2.2.2.2.2.2.2.2.2.2.2.1
  have c21 : w4.frozen? ⟨w.heap.size + 1, 3, none⟩ = false := hC0.2.2.2.2.2.2.2.2.2.2.2.2.2.2.2.2.2.2.2.2.2.1
  have c22 : w4.frozen? ⟨w.heap.size + 1, 4, none⟩ = false := hC0.2.2.2.2.2.2.2.2.2.2.2.2.2.2.2.2.2.2.2.2.2.2.1
  have c23 : w4.frozen? ⟨w.heap.size + 1, 5, none⟩ = false := hC0.2.2.2.2.2.2.2.2.2.2.2.2.2.2.2.2.2.2.2.2.2.2.2.1
  have c24 : w4.frozen? ⟨w.heap.size + 1 + 1, 0, none⟩ = false := hC0.2.2.2.2.2.2.2.2.2.2.2.2.2.2.2.2.2.2.2.2.2.2.2.2.1
  have c25 : w4.frozen? ⟨w.heap.size + 1 + 1, 1, none⟩ = false := hC0.2.2.2.2.2.2.2.2.2.2.2.2.2.2.2.2.2.2.2.2.2.2.2.2.2.1
  have c26 : w4.frozen? ⟨w.heap.size + 1 + 1, 2, none⟩ = false := hC0.2.2.2.2.2.2.2.2.2.2.2.2.2.2.2.2.2.2.2.2.2.2.2.2.2.2.1
  have c27 : w4.frozen? ⟨w.heap.size + 1 + 1, 3, none⟩ = false := hC0.2.2.2.2.2.2.2.2.2.2.2.2.2.2.2.2.2.2.2.2.2.2.2.2.2.2.2.1
  have c28 : w4.frozen? ⟨w.heap.size + 1 + 1, 4, none⟩ = false := hC0.2.2.2.2.2.2.2.2.2.2.2.2.2.2.2.2.2.2.2.2.2.2.2.2.2.2.2.2.1
  have c29 : w4.frozen? ⟨w.heap.size + 1 + 1, 5, none⟩ = false := hC0.2.2.2.2.2.2.2.2.2.2.2.2.2.2.2.2.2.2.2.2.2.2.2.2.2.2.2.2.2.1
  have c30 : w4.cell? ⟨w.heap.size + 1 + 1 + 1, 0, none⟩ = some (.int .i64 ((i : Int))) := hC0.2.2.2.2.2.2.2.2.2.2.2.2.2.2.2.2.2.2.2.2.2.2.2.2.2.2.2.2.2.2.1
  have c31 : w4.cell? ⟨w.heap.size + 1 + 1 + 1, 1, none⟩ = some (.int .i64 c) := hC0.2.2.2.2.2.2.2.2.2.2.2.2.2.2.2.2.2.2.2.2.2.2.2.2.2.2.2.2.2.2.2.1
  have c32 : Below w.heap.size w w4 := hC0.2.2.2.2.2.2.2.2.2.2.2.2.2.2.2.2.2.2.2.2.2.2.2.2.2.2.2.2.2.2.2.2
  go_region
  have hC5 : amC w s j m g o q l h false 0 i od i c (((w4.setCell ⟨w.heap.size + 1, 3, none⟩ (.int .i64 0)).setCell ⟨w.heap.size + 1, 4, none⟩ (.int .i64 (i : Int))).drew) := amC_on (amC_la (amC_si hC0 0) i) (Below.drew (Below.refl _ _))
  clear hC0 c0 c1 c2 c3 c4 c5 c6 c7 c8 c9 c10 c11 c12 c13 c14 c15 c16 c17 c18 c19 c20 c21 c22 c23 c24 c25 c26 c27 c28 c29 c30 c31 c32
  generalize ((w4.setCell ⟨w.heap.size + 1, 3, none⟩ (.int .i64 0)).setCell ⟨w.heap.size + 1, 4, none⟩ (.int .i64 (i : Int))).drew = w5 at *
  have c0 : w5.cell? ⟨w.heap.size, 0, none⟩ = some (.int .i64 s) := hC5.1
  have c1 : w5.cell? ⟨w.heap.size, 1, none⟩ = some (.int .i64 j) := hC5.2.1
  have c2 : w5.cell? ⟨w.heap.size, 2, none⟩ = some (.int .i64 m) := hC5.2.2.1
  have c3 : w5.cell? ⟨w.heap.size, 3, none⟩ = some (.int .i64 g) := hC5.2.2.2.1
  have c4 : w5.cell? ⟨w.heap.size, 4, none⟩ = some (.int .i64 o) := hC5.2.2.2.2.1
  have c5 : w5.cell? ⟨w.heap.size, 5, none⟩ = some (.map (some q)) := hC5.2.2.2.2.2.1
  have c6 : w5.cell? ⟨w.heap.size + 1, 0, none⟩ = some (.int .i64 l) := hC5.2.2.2.2.2.2.1
  have c7 : w5.cell? ⟨w.heap.size + 1, 1, none⟩ = some (.int .i64 h) := hC5.2.2.2.2.2.2.2.1
  have c8 : w5.cell? ⟨w.heap.size + 1, 2, none⟩ = some (.bool false) := hC5.2.2.2.2.2.2.2.2.1
  have c9 : w5.cell? ⟨w.heap.size + 1, 3, none⟩ = some (.int .i64 0) := hC5.2.2.2.2.2.2.2.2.2.1
  have c10 : w5.cell? ⟨w.heap.size + 1, 4, none⟩ = some (.int .i64 i) := hC5.2.2.2.2.2.2.2.2.2.2.1
  have c11 : w5.cell? ⟨w.heap.size + 1, 5, none⟩ = some (.int .i64 od) := hC5.2.2.2.2.2.2.2.2.2.2.2.1
  have c12 : w5.cell? ⟨w.heap.size + 1 + 1, 0, none⟩ = some (.int .i64 0) := hC5.2.2.2.2.2.2.2.2.2.2.2.2.1
  have c13 : w5.cell? ⟨w.heap.size + 1 + 1, 1, none⟩ = some (.int .i64 0) := hC5.2.2.2.2.2.2.2.2.2.2.2.2.2.1
  have c14 : w5.cell? ⟨w.heap.size + 1 + 1, 2, none⟩ = some (.bool false) := hC5.2.2.2.2.2.2.2.2.2.2.2.2.2.2.1
  have c15 : w5.cell? ⟨w.heap.size + 1 + 1, 3, none⟩ = some (.int .i64 0) := hC5.2.2.2.2.2.2.2.2.2.2.2.2.2.2.2.1
  have c16 : w5.cell? ⟨w.heap.size + 1 + 1, 4, none⟩ = some (.int .i64 0) := hC5.2.2.2.2.2.2.2.2.2.2.2.2.2.2.2.2.1
  have c17 : w5.cell? ⟨w.heap.size + 1 + 1, 5, none⟩ = some (.int .i64 0) := hC5.2.2.2.2.2.2.2.2.2.2.2.2.2.2.2.2.2.1
  have c18 : w5.frozen? ⟨w.heap.size + 1, 0, none⟩ = false := hC5.2.2.2.2.2.2.2.2.2.2.2.2.2.2.2.2.2.2.1
  have c19 : w5.frozen? ⟨w.heap.size + 1, 1, none⟩ = false := hC5.2.2.2.2.2.2.2.2.2.2.2.2.2.2.2.2.2.2.2.1
  have c20 : w5.frozen? ⟨w.heap.size + 1, 2, none⟩ = false := hC5.2.2.2.2.2.2.2.2.2.2.2.2.2.2.2.2.2.2.2.2.1
  have c21 : w5.frozen? ⟨w.heap.size + 1, 3, none⟩ = false := hC5.2.2.2.2.2.2.2.2.2.2.2.2.2.2.2.2.2.2.2.2.2.1
  have c22 : w5.frozen? ⟨w.heap.size + 1, 4, none⟩ = false := hC5.2.2.2.2.2.2.2.2.2.2.2.2.2.2.2.2.2.2.2.2.2.2.1
  have c23 : w5.frozen? ⟨w.heap.size + 1, 5, none⟩ = false := hC5.2.2.2.2.2.2.2.2.2.2.2.2.2.2.2.2.2.2.2.2.2.2.2.1
  have c24 : w5.frozen? ⟨w.heap.size + 1 + 1, 0, none⟩ = false := hC5.2.2.2.2.2.2.2.2.2.2.2.2.2.2.2.2.2.2.2.2.2.2.2.2.1
  have c25 : w5.frozen? ⟨w.heap.size + 1 + 1, 1, none⟩ = false := hC5.2.2.2.2.2.2.2.2.2.2.2.2.2.2.2.2.2.2.2.2.2.2.2.2.2.1
  have c26 : w5.frozen? ⟨w.heap.size + 1 + 1, 2, none⟩ = false := hC5.2.2.2.2.2.2.2.2.2.2.2.2.2.2.2.2.2.2.2.2.2.2.2.2.2.2.1
  have c27 : w5.frozen? ⟨w.heap.size + 1 + 1, 3, none⟩ = false := hC5.2.2.2.2.2.2.2.2.2.2.2.2.2.2.2.2.2.2.2.2.2.2.2.2.2.2.2.1
  have c28 : w5.frozen? ⟨w.heap.size + 1 + 1, 4, none⟩ = false := hC5.2.2.2.2.2.2.2.2.2.2.2.2.2.2.2.2.2.2.2.2.2.2.2.2.2.2.2.2.1
  have c29 : w5.frozen? ⟨w.heap.size + 1 + 1, 5, none⟩ = false := hC5.2.2.2.2.2.2.2.2.2.2.2.2.2.2.2.2.2.2.2.2.2.2.2.2.2.2.2.2.2.1
  have c30 : w5.cell? ⟨w.heap.size + 1 + 1 + 1, 0, none⟩ = some (.int .i64 i) := hC5.2.2.2.2.2.2.2.2.2.2.2.2.2.2.2.2.2.2.2.2.2.2.2.2.2.2.2.2.2.2.1
  have c31 : w5.cell? ⟨w.heap.size + 1 + 1 + 1, 1, none⟩ = some (.int .i64 c) := hC5.2.2.2.2.2.2.2.2.2.2.2.2.2.2.2.2.2.2.2.2.2.2.2.2.2.2.2.2.2.2.2.1
  have c32 : Below w.heap.size w w5 := hC5.2.2.2.2.2.2.2.2.2.2.2.2.2.2.2.2.2.2.2.2.2.2.2.2.2.2.2.2.2.2.2.2
  go_wp2_with fail
  refine (boundOfMark_c _ _ _ _ _ _ _ hm0 hm1 hc'.1 hc'.2).mono ?_
  rintro e w6 ⟨rfl, hb6⟩
  rw [← hx.out, ← hy.out]
  have hC6 := amC_on hC5 hb6
  clear hC5 c0 c1 c2 c3 c4 c5 c6 c7 c8 c9 c10 c11 c12 c13 c14 c15 c16 c17 c18 c19 c20 c21 c22 c23 c24 c25 c26 c27 c28 c29 c30 c31 c32
  have hO : aoC w s j m g o q l h false 0 i od i c w6.heap.size x y (w6.alloc (.cells #[.int .i64 x, .int .i64 y] 27)) := ⟨cellNew hC6.1 _, cellNew hC6.2.1 _, cellNew hC6.2.2.1 _, cellNew hC6.2.2.2.1 _, cellNew hC6.2.2.2.2.1 _, cellNew hC6.2.2.2.2.2.1 _, cellNew hC6.2.2.2.2.2.2.1 _, cellNew hC6.2.2.2.2.2.2.2.1 _, cellNew hC6.2.2.2.2.2.2.2.2.1 _, cellNew hC6.2.2.2.2.2.2.2.2.2.1 _, cellNew hC6.2.2.2.2.2.2.2.2.2.2.1 _, cellNew hC6.2.2.2.2.2.2.2.2.2.2.2.1 _, cellNew hC6.2.2.2.2.2.2.2.2.2.2.2.2.1 _, cellNew hC6.2.2.2.2.2.2.2.2.2.2.2.2.2.1 _, cellNew hC6.2.2.2.2.2.2.2.2.2.2.2.2.2.2.1 _, cellNew hC6.2.2.2.2.2.2.2.2.2.2.2.2.2.2.2.1 _, cellNew hC6.2.2.2.2.2.2.2.2.2.2.2.2.2.2.2.2.1 _, cellNew hC6.2.2.2.2.2.2.2.2.2.2.2.2.2.2.2.2.2.1 _, frozenNew hC6.2.2.2.2.2.2.1 hC6.2.2.2.2.2.2.2.2.2.2.2.2.2.2.2.2.2.2.1 _, frozenNew hC6.2.2.2.2.2.2.2.1 hC6.2.2.2.2.2.2.2.2.2.2.2.2.2.2.2.2.2.2.2.1 _, frozenNew hC6.2.2.2.2.2.2.2.2.1 hC6.2.2.2.2.2.2.2.2.2.2.2.2.2.2.2.2.2.2.2.2.1 _, frozenNew hC6.2.2.2.2.2.2.2.2.2.1 hC6.2.2.2.2.2.2.2.2.2.2.2.2.2.2.2.2.2.2.2.2.2.1 _, frozenNew hC6.2.2.2.2.2.2.2.2.2.2.1 hC6.2.2.2.2.2.2.2.2.2.2.2.2.2.2.2.2.2.2.2.2.2.2.1 _, frozenNew hC6.2.2.2.2.2.2.2.2.2.2.2.1 hC6.2.2.2.2.2.2.2.2.2.2.2.2.2.2.2.2.2.2.2.2.2.2.2.1 _, frozenNew hC6.2.2.2.2.2.2.2.2.2.2.2.2.1 hC6.2.2.2.2.2.2.2.2.2.2.2.2.2.2.2.2.2.2.2.2.2.2.2.2.1 _, frozenNew hC6.2.2.2.2.2.2.2.2.2.2.2.2.2.1 hC6.2.2.2.2.2.2.2.2.2.2.2.2.2.2.2.2.2.2.2.2.2.2.2.2.2.1 _, frozenNew hC6.2.2.2.2.2.2.2.2.2.2.2.2.2.2.1 hC6.2.2.2.2.2.2.2.2.2.2.2.2.2.2.2.2.2.2.2.2.2.2.2.2.2.2.1 _, frozenNew hC6.2.2.2.2.2.2.2.2.2.2.2.2.2.2.2.1 hC6.2.2.2.2.2.2.2.2.2.2.2.2.2.2.2.2.2.2.2.2.2.2.2.2.2.2.2.1 _, frozenNew hC6.2.2.2.2.2.2.2.2.2.2.2.2.2.2.2.2.1 hC6.2.2.2.2.2.2.2.2.2.2.2.2.2.2.2.2.2.2.2.2.2.2.2.2.2.2.2.2.1 _, frozenNew hC6.2.2.2.2.2.2.2.2.2.2.2.2.2.2.2.2.2.1 hC6.2.2.2.2.2.2.2.2.2.2.2.2.2.2.2.2.2.2.2.2.2.2.2.2.2.2.2.2.2.1 _, cellNew hC6.2.2.2.2.2.2.2.2.2.2.2.2.2.2.2.2.2.2.2.2.2.2.2.2.2.2.2.2.2.2.1 _, cellNew hC6.2.2.2.2.2.2.2.2.2.2.2.2.2.2.2.2.2.2.2.2.2.2.2.2.2.2.2.2.2.2.2.1 _, by go_simp, by go_simp, nbAlloc hC6.2.2.2.2.2.2.2.2.2.2.2.2.2.2.2.2.2.2.2.2.2.2.2.2.2.2.2.2.2.2.2.2 _⟩
  have hpn : w6.heap.size ≠ w.heap.size + 1 := by have := ltCell hC6.2.2.2.2.2.2.2.2.2.2.2.2.1; omega
  have hpq : w.heap.size ≤ w6.heap.size := hC6.2.2.2.2.2.2.2.2.2.2.2.2.2.2.2.2.2.2.2.2.2.2.2.2.2.2.2.2.2.2.2.2.size
  clear hC6
  have c0 : (w6.alloc (.cells #[.int .i64 x, .int .i64 y] 27)).cell? ⟨w.heap.size, 0, none⟩ = some (.int .i64 s) := hO.1
  have c1 : (w6.alloc (.cells #[.int .i64 x, .int .i64 y] 27)).cell? ⟨w.heap.size, 1, none⟩ = some (.int .i64 j) := hO.2.1
  have c2 : (w6.alloc (.cells #[.int .i64 x, .int .i64 y] 27)).cell? ⟨w.heap.size, 2, none⟩ = some (.int .i64 m) := hO.2.2.1
  have c3 : (w6.alloc (.cells #[.int .i64 x, .int .i64 y] 27)).cell? ⟨w.heap.size, 3, none⟩ = some (.int .i64 g) := hO.2.2.2.1
  have c4 : (w6.alloc (.cells #[.int .i64 x, .int .i64 y] 27)).cell? ⟨w.heap.size, 4, none⟩ = some (.int .i64 o) := hO.2.2.2.2.1
  have c5 : (w6.alloc (.cells #[.int .i64 x, .int .i64 y] 27)).cell? ⟨w.heap.size, 5, none⟩ = some (.map (some q)) := hO.2.2.2.2.2.1
  have c6 : (w6.alloc (.cells #[.int .i64 x, .int .i64 y] 27)).cell? ⟨w.heap.size + 1, 0, none⟩ = some (.int .i64 l) := hO.2.2.2.2.2.2.1
  have c7 : (w6.alloc (.cells #[.int .i64 x, .int .i64 y] 27)).cell? ⟨w.heap.size + 1, 1, none⟩ = some (.int .i64 h) := hO.2.2.2.2.2.2.2.1
  have c8 : (w6.alloc (.cells #[.int .i64 x, .int .i64 y] 27)).cell? ⟨w.heap.size + 1, 2, none⟩ = some (.bool false) := hO.2.2.2.2.2.2.2.2.1
  have c9 : (w6.alloc (.cells #[.int .i64 x, .int .i64 y] 27)).cell? ⟨w.heap.size + 1, 3, none⟩ = some (.int .i64 0) := hO.2.2.2.2.2.2.2.2.2.1
  have c10 : (w6.alloc (.cells #[.int .i64 x, .int .i64 y] 27)).cell? ⟨w.heap.size + 1, 4, none⟩ = some (.int .i64 i) := hO.2.2.2.2.2.2.2.2.2.2.1
  have c11 : (w6.alloc (.cells #[.int .i64 x, .int .i64 y] 27)).cell? ⟨w.heap.size + 1, 5, none⟩ = some (.int .i64 od) := hO.2.2.2.2.2.2.2.2.2.2.2.1
  have c12 : (w6.alloc (.cells #[.int .i64 x, .int .i64 y] 27)).cell? ⟨w.heap.size + 1 + 1, 0, none⟩ = some (.int .i64 0) := hO.2.2.2.2.2.2.2.2.2.2.2.2.1
  have c13 : (w6.alloc (.cells #[.int .i64 x, .int .i64 y] 27)).cell? ⟨w.heap.size + 1 + 1, 1, none⟩ = some (.int .i64 0) := hO.2.2.2.2.2.2.2.2.2.2.2.2.2.1
  have c14 : (w6.alloc (.cells #[.int .i64 x, .int .i64 y] 27)).cell? ⟨w.heap.size + 1 + 1, 2, none⟩ = some (.bool false) := hO.2.2.2.2.2.2.2.2.2.2.2.2.2.2.1
  have c15 : (w6.alloc (.cells #[.int .i64 x, .int .i64 y] 27)).cell? ⟨w.heap.size + 1 + 1, 3, none⟩ = some (.int .i64 0) := hO.2.2.2.2.2.2.2.2.2.2.2.2.2.2.2.1
  have c16 : (w6.alloc (.cells #[.int .i64 x, .int .i64 y] 27)).cell? ⟨w.heap.size + 1 + 1, 4, none⟩ = some (.int .i64 0) := hO.2.2.2.2.2.2.2.2.2.2.2.2.2.2.2.2.1
  have c17 : (w6.alloc (.cells #[.int .i64 x, .int .i64 y] 27)).cell? ⟨w.heap.size + 1 + 1, 5, none⟩ = some (.int .i64 0) := hO.2.2.2.2.2.2.2.2.2.2.2.2.2.2.2.2.2.1
  have c18 : (w6.alloc (.cells #[.int .i64 x, .int .i64 y] 27)).frozen? ⟨w.heap.size + 1, 0, none⟩ = false := hO.2.2.2.2.2.2.2.2.2.2.2.2.2.2.2.2.2.2.1
  have c19 : (w6.alloc (.cells #[.int .i64 x, .int .i64 y] 27)).frozen? ⟨w.heap.size + 1, 1, none⟩ = false := hO.2.2.2.2.2.2.2.2.2.2.2.2.2.2.2.2.2.2.2.1
  have c20 : (w6.alloc (.cells #[.int .i64 x, .int .i64 y] 27)).frozen? ⟨w.heap.size + 1, 2, none⟩ = false := hO.2.2.2.2.2.2.2.2.2.2.2.2.2.2.2.2.2.2.2.2.1
  have c21 : (w6.alloc (.cells #[.int .i64 x, .int .i64 y] 27)).frozen? ⟨w.heap.size + 1, 3, none⟩ = false := hO.2.2.2.2.2.2.2.2.2.2.2.2.2.2.2.2.2.2.2.2.2.1
  have c22 : (w6.alloc (.cells #[.int .i64 x, .int .i64 y] 27)).frozen? ⟨w.heap.size + 1, 4, none⟩ = false := hO.2.2.2.2.2.2.2.2.2.2.2.2.2.2.2.2.2.2.2.2.2.2.1
  have c23 : (w6.alloc (.cells #[.int .i64 x, .int .i64 y] 27)).frozen? ⟨w.heap.size + 1, 5, none⟩ = false := hO.2.2.2.2.2.2.2.2.2.2.2.2.2.2.2.2.2.2.2.2.2.2.2.1
  have c24 : (w6.alloc (.cells #[.int .i64 x, .int .i64 y] 27)).frozen? ⟨w.heap.size + 1 + 1, 0, none⟩ = false := hO.2.2.2.2.2.2.2.2.2.2.2.2.2.2.2.2.2.2.2.2.2.2.2.2.1
  have c25 : (w6.alloc (.cells #[.int .i64 x, .int .i64 y] 27)).frozen? ⟨w.heap.size + 1 + 1, 1, none⟩ = false := hO.2.2.2.2.2.2.2.2.2.2.2.2.2.2.2.2.2.2.2.2.2.2.2.2.2.1
  have c26 : (w6.alloc (.cells #[.int .i64 x, .int .i64 y] 27)).frozen? ⟨w.heap.size + 1 + 1, 2, none⟩ = false := hO.2.2.2.2.2.2.2.2.2.2.2.2.2.2.2.2.2.2.2.2.2.2.2.2.2.2.1
  have c27 : (w6.alloc (.cells #[.int .i64 x, .int .i64 y] 27)).frozen? ⟨w.heap.size + 1 + 1, 3, none⟩ = false := hO.2.2.2.2.2.2.2.2.2.2.2.2.2.2.2.2.2.2.2.2.2.2.2.2.2.2.2.1
  have c28 : (w6.alloc (.cells #[.int .i64 x, .int .i64 y] 27)).frozen? ⟨w.heap.size + 1 + 1, 4, none⟩ = false := hO.2.2.2.2.2.2.2.2.2.2.2.2.2.2.2.2.2.2.2.2.2.2.2.2.2.2.2.2.1
  have c29 : (w6.alloc (.cells #[.int .i64 x, .int .i64 y] 27)).frozen? ⟨w.heap.size + 1 + 1, 5, none⟩ = false := hO.2.2.2.2.2.2.2.2.2.2.2.2.2.2.2.2.2.2.2.2.2.2.2.2.2.2.2.2.2.1
  have c30 : (w6.alloc (.cells #[.int .i64 x, .int .i64 y] 27)).cell? ⟨w.heap.size + 1 + 1 + 1, 0, none⟩ = some (.int .i64 i) := hO.2.2.2.2.2.2.2.2.2.2.2.2.2.2.2.2.2.2.2.2.2.2.2.2.2.2.2.2.2.2.1
  have c31 : (w6.alloc (.cells #[.int .i64 x, .int .i64 y] 27)).cell? ⟨w.heap.size + 1 + 1 + 1, 1, none⟩ = some (.int .i64 c) := hO.2.2.2.2.2.2.2.2.2.2.2.2.2.2.2.2.2.2.2.2.2.2.2.2.2.2.2.2.2.2.2.1
  have c32 : (w6.alloc (.cells #[.int .i64 x, .int .i64 y] 27)).cell? ⟨w6.heap.size, 0, none⟩ = some (.int .i64 x) := hO.2.2.2.2.2.2.2.2.2.2.2.2.2.2.2.2.2.2.2.2.2.2.2.2.2.2.2.2.2.2.2.2.1
  have c33 : (w6.alloc (.cells #[.int .i64 x, .int .i64 y] 27)).cell? ⟨w6.heap.size, 1, none⟩ = some (.int .i64 y) := hO.2.2.2.2.2.2.2.2.2.2.2.2.2.2.2.2.2.2.2.2.2.2.2.2.2.2.2.2.2.2.2.2.2.1
  have c34 : Below w.heap.size w (w6.alloc (.cells #[.int .i64 x, .int .i64 y] 27)) := hO.2.2.2.2.2.2.2.2.2.2.2.2.2.2.2.2.2.2.2.2.2.2.2.2.2.2.2.2.2.2.2.2.2.2
  go_wp2_with fail
  go_region
  have h7 := aoC_on (aoC_h (aoC_l (aoC_kn hO true hpn) x hpn) y hpn) (Below.drew (Below.refl _ _))
  clear hO c0 c1 c2 c3 c4 c5 c6 c7 c8 c9 c10 c11 c12 c13 c14 c15 c16 c17 c18 c19 c20 c21 c22 c23 c24 c25 c26 c27 c28 c29 c30 c31 c32 c33 c34
  generalize ((((w6.alloc (.cells #[.int .i64 x, .int .i64 y] 27)).setCell ⟨w.heap.size + 1, 2, none⟩ (.bool true)).setCell ⟨w.heap.size + 1, 0, none⟩ (.int .i64 x)).setCell ⟨w.heap.size + 1, 1, none⟩ (.int .i64 y)).drew = w7 at *
  have c0 : w7.cell? ⟨w.heap.size, 0, none⟩ = some (.int .i64 s) := h7.1
  have c1 : w7.cell? ⟨w.heap.size, 1, none⟩ = some (.int .i64 j) := h7.2.1
  have c2 : w7.cell? ⟨w.heap.size, 2, none⟩ = some (.int .i64 m) := h7.2.2.1
  have c3 : w7.cell? ⟨w.heap.size, 3, none⟩ = some (.int .i64 g) := h7.2.2.2.1
  have c4 : w7.cell? ⟨w.heap.size, 4, none⟩ = some (.int .i64 o) := h7.2.2.2.2.1
  have c5 : w7.cell? ⟨w.heap.size, 5, none⟩ = some (.map (some q)) := h7.2.2.2.2.2.1
  have c6 : w7.cell? ⟨w.heap.size + 1, 0, none⟩ = some (.int .i64 x) := h7.2.2.2.2.2.2.1
  have c7 : w7.cell? ⟨w.heap.size + 1, 1, none⟩ = some (.int .i64 y) := h7.2.2.2.2.2.2.2.1
  have c8 : w7.cell? ⟨w.heap.size + 1, 2, none⟩ = some (.bool true) := h7.2.2.2.2.2.2.2.2.1
  have c9 : w7.cell? ⟨w.heap.size + 1, 3, none⟩ = some (.int .i64 0) := h7.2.2.2.2.2.2.2.2.2.1
  have c10 : w7.cell? ⟨w.heap.size + 1, 4, none⟩ = some (.int .i64 i) := h7.2.2.2.2.2.2.2.2.2.2.1
  have c11 : w7.cell? ⟨w.heap.size + 1, 5, none⟩ = some (.int .i64 od) := h7.2.2.2.2.2.2.2.2.2.2.2.1
  have c12 : w7.cell? ⟨w.heap.size + 1 + 1, 0, none⟩ = some (.int .i64 0) := h7.2.2.2.2.2.2.2.2.2.2.2.2.1
  have c13 : w7.cell? ⟨w.heap.size + 1 + 1, 1, none⟩ = some (.int .i64 0) := h7.2.2.2.2.2.2.2.2.2.2.2.2.2.1
  have c14 : w7.cell? ⟨w.heap.size + 1 + 1, 2, none⟩ = some (.bool false) := h7.2.2.2.2.2.2.2.2.2.2.2.2.2.2.1
  have c15 : w7.cell? ⟨w.heap.size + 1 + 1, 3, none⟩ = some (.int .i64 0) := h7.2.2.2.2.2.2.2.2.2.2.2.2.2.2.2.1
  have c16 : w7.cell? ⟨w.heap.size + 1 + 1, 4, none⟩ = some (.int .i64 0) := h7.2.2.2.2.2.2.2.2.2.2.2.2.2.2.2.2.1
  have c17 : w7.cell? ⟨w.heap.size + 1 + 1, 5, none⟩ = some (.int .i64 0) := h7.2.2.2.2.2.2.2.2.2.2.2.2.2.2.2.2.2.1
  have c18 : w7.frozen? ⟨w.heap.size + 1, 0, none⟩ = false := h7.2.2.2.2.2.2.2.2.2.2.2.2.2.2.2.2.2.2.1
  have c19 : w7.frozen? ⟨w.heap.size + 1, 1, none⟩ = false := h7.2.2.2.2.2.2.2.2.2.2.2.2.2.2.2.2.2.2.2.1
  have c20 : w7.frozen? ⟨w.heap.size + 1, 2, none⟩ = false := h7.2.2.2.2.2.2.2.2.2.2.2.2.2.2.2.2.2.2.2.2.1
  have c21 : w7.frozen? ⟨w.heap.size + 1, 3, none⟩ = false := h7.2.2.2.2.2.2.2.2.2.2.2.2.2.2.2.2.2.2.2.2.2.1
  have c22 : w7.frozen? ⟨w.heap.size + 1, 4, none⟩ = false := h7.2.2.2.2.2.2.2.2.2.2.2.2.2.2.2.2.2.2.2.2.2.2.1
  have c23 : w7.frozen? ⟨w.heap.size + 1, 5, none⟩ = false := h7.2.2.2.2.2.2.2.2.2.2.2.2.2.2.2.2.2.2.2.2.2.2.2.1
  have c24 : w7.frozen? ⟨w.heap.size + 1 + 1, 0, none⟩ = false := h7.2.2.2.2.2.2.2.2.2.2.2.2.2.2.2.2.2.2.2.2.2.2.2.2.1
  have c25 : w7.frozen? ⟨w.heap.size + 1 + 1, 1, none⟩ = false := h7.2.2.2.2.2.2.2.2.2.2.2.2.2.2.2.2.2.2.2.2.2.2.2.2.2.1
  have c26 : w7.frozen? ⟨w.heap.size + 1 + 1, 2, none⟩ = false := h7.2.2.2.2.2.2.2.2.2.2.2.2.2.2.2.2.2.2.2.2.2.2.2.2.2.2.1
  have c27 : w7.frozen? ⟨w.heap.size + 1 + 1, 3, none⟩ = false := h7.2.2.2.2.2.2.2.2.2.2.2.2.2.2.2.2.2.2.2.2.2.2.2.2.2.2.2.1
  have c28 : w7.frozen? ⟨w.heap.size + 1 + 1, 4, none⟩ = false := h7.2.2.2.2.2.2.2.2.2.2.2.2.2.2.2.2.2.2.2.2.2.2.2.2.2.2.2.2.1
  have c29 : w7.frozen? ⟨w.heap.size + 1 + 1, 5, none⟩ = false := h7.2.2.2.2.2.2.2.2.2.2.2.2.2.2.2.2.2.2.2.2.2.2.2.2.2.2.2.2.2.1
  have c30 : w7.cell? ⟨w.heap.size + 1 + 1 + 1, 0, none⟩ = some (.int .i64 i) := h7.2.2.2.2.2.2.2.2.2.2.2.2.2.2.2.2.2.2.2.2.2.2.2.2.2.2.2.2.2.2.1
  have c31 : w7.cell? ⟨w.heap.size + 1 + 1 + 1, 1, none⟩ = some (.int .i64 c) := h7.2.2.2.2.2.2.2.2.2.2.2.2.2.2.2.2.2.2.2.2.2.2.2.2.2.2.2.2.2.2.2.1
  have c32 : w7.cell? ⟨w6.heap.size, 0, none⟩ = some (.int .i64 x) := h7.2.2.2.2.2.2.2.2.2.2.2.2.2.2.2.2.2.2.2.2.2.2.2.2.2.2.2.2.2.2.2.2.1
  have c33 : w7.cell? ⟨w6.heap.size, 1, none⟩ = some (.int .i64 y) := h7.2.2.2.2.2.2.2.2.2.2.2.2.2.2.2.2.2.2.2.2.2.2.2.2.2.2.2.2.2.2.2.2.2.1
  have c34 : Below w.heap.size w w7 := h7.2.2.2.2.2.2.2.2.2.2.2.2.2.2.2.2.2.2.2.2.2.2.2.2.2.2.2.2.2.2.2.2.2.2
  have hq1 : w.heap.size ≤ w.heap.size + 1 := by omega
  have hq2 : w.heap.size ≤ w.heap.size + 1 + 1 := by omega
  go_wp2_with fail
  exact bodyPost_ret (v := .agg #[.int .i64 x, .int .i64 y, .bool true, .int .i64 0, .int .i64 ((i : Int)), .int .i64 od]) (by simp [results, Tryd.results81, go_sem, *]) rfl ⟨rfl, (nbSetX (nbSetX (nbSetX (nbSetX (nbSetX (nbSetX c34 hq2) hq2) hq2) hq2) hq2) hq2)⟩

set_option maxHeartbeats 2000000 in
theorem afterMark_fits (s j m g o : Int) (q : Nat) (l h : Int) (si la od z : Int) (len : Nat) (f a : Nat → Int) (w : World) (hM : MapAt w q len f a) (hz : inB z 1 1000000000 = true) (ho0 : 0 ≤ od) (ho1 : od ≤ 1000000000) (i : Nat) (hi : Hid (lastIx f z len = (i : Int))) (c : Int) (hc : Hid (a i = c)) (hc0 : inB c 0 100000000 = true) (hr : rOk s j m g o = true) (x y : Int) (hx : Hid (x = min (c - m) 100000000)) (hy : Hid (y = min (c + m) 100000000)) (hbk : bOk l h = true) (hmt : mB l h x y = true) :
    Calls Tryd.prog 81 #[.agg #[.int .i64 s, .int .i64 j, .int .i64 m, .int .i64 g, .int .i64 o, .map (some q)], .agg #[.int .i64 l, .int .i64 h, .bool true, .int .i64 si, .int .i64 la, .int .i64 od], .int .i64 z] w fun e w' => e = .returned (.agg #[.int .i64 (max l x), .int .i64 (min h y), .bool true, .int .i64 0, .int .i64 ((i : Int)), .int .i64 od]) ∧ Below w.heap.size w w' := by
  have hM3 := ((hM.on (nbAlloc (Below.refl _ _) (.cells #[.int .i64 s, .int .i64 j, .int .i64 m, .int .i64 g, .int .i64 o, .map (some q)] 73))).on (nbAlloc (Below.refl _ _) (.cells #[.int .i64 l, .int .i64 h, .bool true, .int .i64 si, .int .i64 la, .int .i64 od] 75))).on (nbAlloc (Below.refl _ _) (.cells #[.int .i64 0, .int .i64 0, .bool false, .int .i64 0, .int .i64 0, .int .i64 0] 75))
  have hm' := hr
  simp only [rOk, inB, Bool.and_eq_true, decide_eq_true_eq] at hm'
  have hm0 : 0 ≤ m := hm'.1.1.2.1
  have hm1 : m ≤ 10000 := hm'.1.1.2.2
  clear hm'
  have hc' := hc0
  simp only [inB, Bool.and_eq_true, decide_eq_true_eq] at hc'
  go_enter Tryd.func81, Tryd.ntmps81
  go_wp2_with (first | (at_lookup; refine wpList_spot_yes _ rfl _ _ rfl q len f a z i rfl hM3 rfl hz hi ?_) | fail)
  rw [hc.out]
  have hC0 : amC w s j m g o q l h true si la od i c ((((w.alloc (.cells #[.int .i64 s, .int .i64 j, .int .i64 m, .int .i64 g, .int .i64 o, .map (some q)] 73)).alloc (.cells #[.int .i64 l, .int .i64 h, .bool true, .int .i64 si, .int .i64 la, .int .i64 od] 75)).alloc (.cells #[.int .i64 0, .int .i64 0, .bool false, .int .i64 0, .int .i64 0, .int .i64 0] 75)).alloc (.cells #[.int .i64 i, .int .i64 c] 125)) := by
    refine ⟨?_, ?_, ?_, ?_, ?_, ?_, ?_, ?_, ?_, ?_, ?_, ?_, ?_, ?_, ?_, ?_, ?_, ?_, ?_, ?_, ?_, ?_, ?_, ?_, ?_, ?_, ?_, ?_, ?_, ?_, ?_, ?_, nbAlloc (nbAlloc (nbAlloc (nbAlloc (Below.refl _ _) _) _) _) _⟩ <;> go_simp
  clear hM3
  generalize (((w.alloc (.cells #[.int .i64 s, .int .i64 j, .int .i64 m, .int .i64 g, .int .i64 o, .map (some q)] 73)).alloc (.cells #[.int .i64 l, .int .i64 h, .bool true, .int .i64 si, .int .i64 la, .int .i64 od] 75)).alloc (.cells #[.int .i64 0, .int .i64 0, .bool false, .int .i64 0, .int .i64 0, .int .i64 0] 75)).alloc (.cells #[.int .i64 i, .int .i64 c] 125) = w4 at *
  have c0 : w4.cell? ⟨w.heap.size, 0, none⟩ = some (.int .i64 s) := hC0.1
  have c1 : w4.cell? ⟨w.heap.size, 1, none⟩ = some (.int .i64 j) := hC0.2.1
  have c2 : w4.cell? ⟨w.heap.size, 2, none⟩ = some (.int .i64 m) := hC0.2.2.1
  have c3 : w4.cell? ⟨w.heap.size, 3, none⟩ = some (.int .i64 g) := hC0.2.2.2.1
  have c4 : w4.cell? ⟨w.heap.size, 4, none⟩ = some (.int .i64 o) := hC0.2.2.2.2.1
  have c5 : w4.cell? ⟨w.heap.size, 5, none⟩ = some (.map (some q)) := hC0.2.2.2.2.2.1
  have c6 : w4.cell? ⟨w.heap.size + 1, 0, none⟩ = some (.int .i64 l) := hC0.2.2.2.2.2.2.1
  have c7 : w4.cell? ⟨w.heap.size + 1, 1, none⟩ = some (.int .i64 h) := hC0.2.2.2.2.2.2.2.1
  have c8 : w4.cell? ⟨w.heap.size + 1, 2, none⟩ = some (.bool true) := hC0.2.2.2.2.2.2.2.2.1
  have c9 : w4.cell? ⟨w.heap.size + 1, 3, none⟩ = some (.int .i64 si) := hC0.2.2.2.2.2.2.2.2.2.1
  have c10 : w4.cell? ⟨w.heap.size + 1, 4, none⟩ = some (.int .i64 la) := hC0.2.2.2.2.2.2.2.2.2.2.1
  have c11 : w4.cell? ⟨w.heap.size + 1, 5, none⟩ = some (.int .i64 od) := hC0.2.2.2.2.2.2.2.2.2.2.2.1
  have c12 : w4.cell? ⟨w.heap.size + 1 + 1, 0, none⟩ = some (.int .i64 0) := hC0.2.2.2.2.2.2.2.2.2.2.2.2.1
  have c13 : w4.cell? ⟨w.heap.size + 1 + 1, 1, none⟩ = some (.int .i64 0) := hC0.2.2.2.2.2.2.2.2.2.2.2.2.2.1
  have c14 : w4.cell? ⟨w.heap.size + 1 + 1, 2, none⟩ = some (.bool false) := hC0.2.2.2.2.2.2.2.2.2.2.2.2.2.2.1
  have c15 : w4.cell? ⟨w.heap.size + 1 + 1, 3, none⟩ = some (.int .i64 0) := hC0.2.2.2.2.2.2.2.2.2.2.2.2.2.2.2.1
  have c16 : w4.cell? ⟨w.heap.size + 1 + 1, 4, none⟩ = some (.int .i64 0) := hC0.2.2.2.2.2.2.2.2.2.2.2.2.2.2.2.2.1
  have c17 : w4.cell? ⟨w.heap.size + 1 + 1, 5, none⟩ = some (.int .i64 0) := hC0.2.2.2.2.2.2.2.2.2.2.2.2.2.2.2.2.2.1
  have c18 : w4.frozen? ⟨w.heap.size + 1, 0, none⟩ = false := hC0.2.2.2.2.2.2.2.2.2.2.2.2.2.2.2.2.2.2.1
  have c19 : w4.frozen? ⟨w.heap.size + 1, 1, none⟩ = false := hC0.2.2.2.2.2.2.2.2.2.2.2.2.2.2.2.2.2.2.2.1
  have c20 : w4.frozen? ⟨w.heap.size + 1, 2, none⟩ = false := hC0.2.2.2.2.2.2.2.2.2.2.2.2.2.2.2.2.2.2.2.2.1
  have c21 : w4.frozen? ⟨w.heap.size + 1, 3, none⟩ = false := hC0.2.2.2.2.2.2.2.2.2.2.2.2.2.2.2.2.2.2.2.2.2.1
  have c22 : w4.frozen? ⟨w.heap.size + 1, 4, none⟩ = false := hC0.2.2.2.2.2.2.2.2.2.2.2.2.2.2.2.2.2.2.2.2.2.2.1
  have c23 : w4.frozen? ⟨w.heap.size + 1, 5, none⟩ = false := hC0.2.2.2.2.2.2.2.2.2.2.2.2.2.2.2.2.2.2.2.2.2.2.2.1
  have c24 : w4.frozen? ⟨w.heap.size + 1 + 1, 0, none⟩ = false := hC0.2.2.2.2.2.2.2.2.2.2.2.2.2.2.2.2.2.2.2.2.2.2.2.2.1
  have c25 : w4.frozen? ⟨w.heap.size + 1 + 1, 1, none⟩ = false := hC0.2.2.2.2.2.2.2.2.2.2.2.2.2.2.2.2.2.2.2.2.2.2.2.2.2.1
  have c26 : w4.frozen? ⟨w.heap.size + 1 + 1, 2, none⟩ = false := hC0.2.2.2.2.2.2.2.2.2.2.2.2.2.2.2.2.2.2.2.2.2.2.2.2.2.2.1
  have c27 : w4.frozen? ⟨w.heap.size + 1 + 1, 3, none⟩ = false := hC0.2.2.2.2.2.2.2.2.2.2.2.2.2.2.2.2.2.2.2.2.2.2.2.2.2.2.2.1
  have c28 : w4.frozen? ⟨w.heap.size + 1 + 1, 4, none⟩ = false := hC0.2.2.2.2.2.2.2.2.2.2.2.2.2.2.2.2.2.2.2.2.2.2.2.2.2.2.2.2.1
  have c29 : w4.frozen? ⟨w.heap.size + 1 + 1, 5, none⟩ = false := hC0.2.2.2.2.2.2.2.2.2.2.2.2.2.2.2.2.2.2.2.2.2.2.2.2.2.2.2.2.2.1
  have c30 : w4.cell? ⟨w.heap.size + 1 + 1 + 1, 0, none⟩ = some (.int .i64 ((i : Int))) := hC0.2.2.2.2.2.2.2.2.2.2.2.2.2.2.2.2.2.2.2.2.2.2.2.2.2.2.2.2.2.2.1
  have c31 : w4.cell? ⟨w.heap.size + 1 + 1 + 1, 1, none⟩ = some (.int .i64 c) := hC0.2.2.2.2.2.2.2.2.2.2.2.2.2.2.2.2.2.2.2.2.2.2.2.2.2.2.2.2.2.2.2.1
  have c32 : Below w.heap.size w w4 := hC0.2.2.2.2.2.2.2.2.2.2.2.2.2.2.2.2.2.2.2.2.2.2.2.2.2.2.2.2.2.2.2.2
  go_region
  have hC5 : amC w s j m g o q l h true 0 i od i c (((w4.setCell ⟨w.heap.size + 1, 3, none⟩ (.int .i64 0)).setCell ⟨w.heap.size + 1, 4, none⟩ (.int .i64 (i : Int))).drew) := amC_on (amC_la (amC_si hC0 0) i) (Below.drew (Below.refl _ _))
  clear hC0 c0 c1 c2 c3 c4 c5 c6 c7 c8 c9 c10 c11 c12 c13 c14 c15 c16 c17 c18 c19 c20 c21 c22 c23 c24 c25 c26 c27 c28 c29 c30 c31 c32
  generalize ((w4.setCell ⟨w.heap.size + 1, 3, none⟩ (.int .i64 0)).setCell ⟨w.heap.size + 1, 4, none⟩ (.int .i64 (i : Int))).drew = w5 at *
  have c0 : w5.cell? ⟨w.heap.size, 0, none⟩ = some (.int .i64 s) := hC5.1
  have c1 : w5.cell? ⟨w.heap.size, 1, none⟩ = some (.int .i64 j) := hC5.2.1
  have c2 : w5.cell? ⟨w.heap.size, 2, none⟩ = some (.int .i64 m) := hC5.2.2.1
  have c3 : w5.cell? ⟨w.heap.size, 3, none⟩ = some (.int .i64 g) := hC5.2.2.2.1
  have c4 : w5.cell? ⟨w.heap.size, 4, none⟩ = some (.int .i64 o) := hC5.2.2.2.2.1
  have c5 : w5.cell? ⟨w.heap.size, 5, none⟩ = some (.map (some q)) := hC5.2.2.2.2.2.1
  have c6 : w5.cell? ⟨w.heap.size + 1, 0, none⟩ = some (.int .i64 l) := hC5.2.2.2.2.2.2.1
  have c7 : w5.cell? ⟨w.heap.size + 1, 1, none⟩ = some (.int .i64 h) := hC5.2.2.2.2.2.2.2.1
  have c8 : w5.cell? ⟨w.heap.size + 1, 2, none⟩ = some (.bool true) := hC5.2.2.2.2.2.2.2.2.1
  have c9 : w5.cell? ⟨w.heap.size + 1, 3, none⟩ = some (.int .i64 0) := hC5.2.2.2.2.2.2.2.2.2.1
  have c10 : w5.cell? ⟨w.heap.size + 1, 4, none⟩ = some (.int .i64 i) := hC5.2.2.2.2.2.2.2.2.2.2.1
  have c11 : w5.cell? ⟨w.heap.size + 1, 5, none⟩ = some (.int .i64 od) := hC5.2.2.2.2.2.2.2.2.2.2.2.1
  have c12 : w5.cell? ⟨w.heap.size + 1 + 1, 0, none⟩ = some (.int .i64 0) := hC5.2.2.2.2.2.2.2.2.2.2.2.2.1
  have c13 : w5.cell? ⟨w.heap.size + 1 + 1, 1, none⟩ = some (.int .i64 0) := hC5.2.2.2.2.2.2.2.2.2.2.2.2.2.1
  have c14 : w5.cell? ⟨w.heap.size + 1 + 1, 2, none⟩ = some (.bool false) := hC5.2.2.2.2.2.2.2.2.2.2.2.2.2.2.1
  have c15 : w5.cell? ⟨w.heap.size + 1 + 1, 3, none⟩ = some (.int .i64 0) := hC5.2.2.2.2.2.2.2.2.2.2.2.2.2.2.2.1
  have c16 : w5.cell? ⟨w.heap.size + 1 + 1, 4, none⟩ = some (.int .i64 0) := hC5.2.2.2.2.2.2.2.2.2.2.2.2.2.2.2.2.1
  have c17 : w5.cell? ⟨w.heap.size + 1 + 1, 5, none⟩ = some (.int .i64 0) := hC5.2.2.2.2.2.2.2.2.2.2.2.2.2.2.2.2.2.1
  have c18 : w5.frozen? ⟨w.heap.size + 1, 0, none⟩ = false := hC5.2.2.2.2.2.2.2.2.2.2.2.2.2.2.2.2.2.2.1
  have c19 : w5.frozen? ⟨w.heap.size + 1, 1, none⟩ = false := hC5.2.2.2.2.2.2.2.2.2.2.2.2.2.2.2.2.2.2.2.1
  have c20 : w5.frozen? ⟨w.heap.size + 1, 2, none⟩ = false := hC5.2.2.2.2.2.2.2.2.2.2.2.2.2.2.2.2.2.2.2.2.1
  have c21 : w5.frozen? ⟨w.heap.size + 1, 3, none⟩ = false := hC5.2.2.2.2.2.2.2.2.2.2.2.2.2.2.2.2.2.2.2.2.2.1
  have c22 : w5.frozen? ⟨w.heap.size + 1, 4, none⟩ = false := hC5.2.2.2.2.2.2.2.2.2.2.2.2.2.2.2.2.2.2.2.2.2.2.1
  have c23 : w5.frozen? ⟨w.heap.size + 1, 5, none⟩ = false := hC5.2.2.2.2.2.2.2.2.2.2.2.2.2.2.2.2.2.2.2.2.2.2.2.1
  have c24 : w5.frozen? ⟨w.heap.size + 1 + 1, 0, none⟩ = false := hC5.2.2.2.2.2.2.2.2.2.2.2.2.2.2.2.2.2.2.2.2.2.2.2.2.1
  have c25 : w5.frozen? ⟨w.heap.size + 1 + 1, 1, none⟩ = false := hC5.2.2.2.2.2.2.2.2.2.2.2.2.2.2.2.2.2.2.2.2.2.2.2.2.2.1
  have c26 : w5.frozen? ⟨w.heap.size + 1 + 1, 2, none⟩ = false := hC5.2.2.2.2.2.2.2.2.2.2.2.2.2.2.2.2.2.2.2.2.2.2.2.2.2.2.1
  have c27 : w5.frozen? ⟨w.heap.size + 1 + 1, 3, none⟩ = false := hC5.2.2.2.2.2.2.2.2.2.2.2.2.2.2.2.2.2.2.2.2.2.2.2.2.2.2.2.1
  have c28 : w5.frozen? ⟨w.heap.size + 1 + 1, 4, none⟩ = false := hC5.2.2.2.2.2.2.2.2.2.2.2.2.2.2.2.2.2.2.2.2.2.2.2.2.2.2.2.2.1
  have c29 : w5.frozen? ⟨w.heap.size + 1 + 1, 5, none⟩ = false := hC5.2.2.2.2.2.2.2.2.2.2.2.2.2.2.2.2.2.2.2.2.2.2.2.2.2.2.2.2.2.1
  have c30 : w5.cell? ⟨w.heap.size + 1 + 1 + 1, 0, none⟩ = some (.int .i64 i) := hC5.2.2.2.2.2.2.2.2.2.2.2.2.2.2.2.2.2.2.2.2.2.2.2.2.2.2.2.2.2.2.1
  have c31 : w5.cell? ⟨w.heap.size + 1 + 1 + 1, 1, none⟩ = some (.int .i64 c) := hC5.2.2.2.2.2.2.2.2.2.2.2.2.2.2.2.2.2.2.2.2.2.2.2.2.2.2.2.2.2.2.2.1
  have c32 : Below w.heap.size w w5 := hC5.2.2.2.2.2.2.2.2.2.2.2.2.2.2.2.2.2.2.2.2.2.2.2.2.2.2.2.2.2.2.2.2
  go_wp2_with fail
  refine (boundOfMark_c _ _ _ _ _ _ _ hm0 hm1 hc'.1 hc'.2).mono ?_
  rintro e w6 ⟨rfl, hb6⟩
  rw [← hx.out, ← hy.out]
  have hC6 := amC_on hC5 hb6
  clear hC5 c0 c1 c2 c3 c4 c5 c6 c7 c8 c9 c10 c11 c12 c13 c14 c15 c16 c17 c18 c19 c20 c21 c22 c23 c24 c25 c26 c27 c28 c29 c30 c31 c32
  have hO : aoC w s j m g o q l h true 0 i od i c w6.heap.size x y (w6.alloc (.cells #[.int .i64 x, .int .i64 y] 27)) := ⟨cellNew hC6.1 _, cellNew hC6.2.1 _, cellNew hC6.2.2.1 _, cellNew hC6.2.2.2.1 _, cellNew hC6.2.2.2.2.1 _, cellNew hC6.2.2.2.2.2.1 _, cellNew hC6.2.2.2.2.2.2.1 _, cellNew hC6.2.2.2.2.2.2.2.1 _, cellNew hC6.2.2.2.2.2.2.2.2.1 _, cellNew hC6.2.2.2.2.2.2.2.2.2.1 _, cellNew hC6.2.2.2.2.2.2.2.2.2.2.1 _, cellNew hC6.2.2.2.2.2.2.2.2.2.2.2.1 _, cellNew hC6.2.2.2.2.2.2.2.2.2.2.2.2.1 _, cellNew hC6.2.2.2.2.2.2.2.2.2.2.2.2.2.1 _, cellNew hC6.2.2.2.2.2.2.2.2.2.2.2.2.2.2.1 _, cellNew hC6.2.2.2.2.2.2.2.2.2.2.2.2.2.2.2.1 _, cellNew hC6.2.2.2.2.2.2.2.2.2.2.2.2.2.2.2.2.1 _, cellNew hC6.2.2.2.2.2.2.2.2.2.2.2.2.2.2.2.2.2.1 _, frozenNew hC6.2.2.2.2.2.2.1 hC6.2.2.2.2.2.2.2.2.2.2.2.2.2.2.2.2.2.2.1 _, frozenNew hC6.2.2.2.2.2.2.2.1 hC6.2.2.2.2.2.2.2.2.2.2.2.2.2.2.2.2.2.2.2.1 _, frozenNew hC6.2.2.2.2.2.2.2.2.1 hC6.2.2.2.2.2.2.2.2.2.2.2.2.2.2.2.2.2.2.2.2.1 _, frozenNew hC6.2.2.2.2.2.2.2.2.2.1 hC6.2.2.2.2.2.2.2.2.2.2.2.2.2.2.2.2.2.2.2.2.2.1 _, frozenNew hC6.2.2.2.2.2.2.2.2.2.2.1 hC6.2.2.2.2.2.2.2.2.2.2.2.2.2.2.2.2.2.2.2.2.2.2.1 _, frozenNew hC6.2.2.2.2.2.2.2.2.2.2.2.1 hC6.2.2.2.2.2.2.2.2.2.2.2.2.2.2.2.2.2.2.2.2.2.2.2.1 _, frozenNew hC6.2.2.2.2.2.2.2.2.2.2.2.2.1 hC6.2.2.2.2.2.2.2.2.2.2.2.2.2.2.2.2.2.2.2.2.2.2.2.2.1 _, frozenNew hC6.2.2.2.2.2.2.2.2.2.2.2.2.2.1 hC6.2.2.2.2.2.2.2.2.2.2.2.2.2.2.2.2.2.2.2.2.2.2.2.2.2.1 _, frozenNew hC6.2.2.2.2.2.2.2.2.2.2.2.2.2.2.1 hC6.2.2.2.2.2.2.2.2.2.2.2.2.2.2.2.2.2.2.2.2.2.2.2.2.2.2.1 _, frozenNew hC6.2.2.2.2.2.2.2.2.2.2.2.2.2.2.2.1 hC6.2.2.2.2.2.2.2.2.2.2.2.2.2.2.2.2.2.2.2.2.2.2.2.2.2.2.2.1 _, frozenNew hC6.2.2.2.2.2.2.2.2.2.2.2.2.2.2.2.2.1 hC6.2.2.2.2.2.2.2.2.2.2.2.2.2.2.2.2.2.2.2.2.2.2.2.2.2.2.2.2.1 _, frozenNew hC6.2.2.2.2.2.2.2.2.2.2.2.2.2.2.2.2.2.1 hC6.2.2.2.2.2.2.2.2.2.2.2.2.2.2.2.2.2.2.2.2.2.2.2.2.2.2.2.2.2.1 _, cellNew hC6.2.2.2.2.2.2.2.2.2.2.2.2.2.2.2.2.2.2.2.2.2.2.2.2.2.2.2.2.2.2.1 _, cellNew hC6.2.2.2.2.2.2.2.2.2.2.2.2.2.2.2.2.2.2.2.2.2.2.2.2.2.2.2.2.2.2.2.1 _, by go_simp, by go_simp, nbAlloc hC6.2.2.2.2.2.2.2.2.2.2.2.2.2.2.2.2.2.2.2.2.2.2.2.2.2.2.2.2.2.2.2.2 _⟩
  have hpn : w6.heap.size ≠ w.heap.size + 1 := by have := ltCell hC6.2.2.2.2.2.2.2.2.2.2.2.2.1; omega
  have hpq : w.heap.size ≤ w6.heap.size := hC6.2.2.2.2.2.2.2.2.2.2.2.2.2.2.2.2.2.2.2.2.2.2.2.2.2.2.2.2.2.2.2.2.size
  clear hC6
  have c0 : (w6.alloc (.cells #[.int .i64 x, .int .i64 y] 27)).cell? ⟨w.heap.size, 0, none⟩ = some (.int .i64 s) := hO.1
  have c1 : (w6.alloc (.cells #[.int .i64 x, .int .i64 y] 27)).cell? ⟨w.heap.size, 1, none⟩ = some (.int .i64 j) := hO.2.1
  have c2 : (w6.alloc (.cells #[.int .i64 x, .int .i64 y] 27)).cell? ⟨w.heap.size, 2, none⟩ = some (.int .i64 m) := hO.2.2.1
  have c3 : (w6.alloc (.cells #[.int .i64 x, .int .i64 y] 27)).cell? ⟨w.heap.size, 3, none⟩ = some (.int .i64 g) := hO.2.2.2.1
  have c4 : (w6.alloc (.cells #[.int .i64 x, .int .i64 y] 27)).cell? ⟨w.heap.size, 4, none⟩ = some (.int .i64 o) := hO.2.2.2.2.1
  have c5 : (w6.alloc (.cells #[.int .i64 x, .int .i64 y] 27)).cell? ⟨w.heap.size, 5, none⟩ = some (.map (some q)) := hO.2.2.2.2.2.1
  have c6 : (w6.alloc (.cells #[.int .i64 x, .int .i64 y] 27)).cell? ⟨w.heap.size + 1, 0, none⟩ = some (.int .i64 l) := hO.2.2.2.2.2.2.1
  have c7 : (w6.alloc (.cells #[.int .i64 x, .int .i64 y] 27)).cell? ⟨w.heap.size + 1, 1, none⟩ = some (.int .i64 h) := hO.2.2.2.2.2.2.2.1
  have c8 : (w6.alloc (.cells #[.int .i64 x, .int .i64 y] 27)).cell? ⟨w.heap.size + 1, 2, none⟩ = some (.bool true) := hO.2.2.2.2.2.2.2.2.1
  have c9 : (w6.alloc (.cells #[.int .i64 x, .int .i64 y] 27)).cell? ⟨w.heap.size + 1, 3, none⟩ = some (.int .i64 0) := hO.2.2.2.2.2.2.2.2.2.1
  have c10 : (w6.alloc (.cells #[.int .i64 x, .int .i64 y] 27)).cell? ⟨w.heap.size + 1, 4, none⟩ = some (.int .i64 i) := hO.2.2.2.2.2.2.2.2.2.2.1
  have c11 : (w6.alloc (.cells #[.int .i64 x, .int .i64 y] 27)).cell? ⟨w.heap.size + 1, 5, none⟩ = some (.int .i64 od) := hO.2.2.2.2.2.2.2.2.2.2.2.1
  have c12 : (w6.alloc (.cells #[.int .i64 x, .int .i64 y] 27)).cell? ⟨w.heap.size + 1 + 1, 0, none⟩ = some (.int .i64 0) := hO.2.2.2.2.2.2.2.2.2.2.2.2.1
  have c13 : (w6.alloc (.cells #[.int .i64 x, .int .i64 y] 27)).cell? ⟨w.heap.size + 1 + 1, 1, none⟩ = some (.int .i64 0) := hO.2.2.2.2.2.2.2.2.2.2.2.2.2.1
  have c14 : (w6.alloc (.cells #[.int .i64 x, .int .i64 y] 27)).cell? ⟨w.heap.size + 1 + 1, 2, none⟩ = some (.bool false) := hO.2.2.2.2.2.2.2.2.2.2.2.2.2.2.1
  have c15 : (w6.alloc (.cells #[.int .i64 x, .int .i64 y] 27)).cell? ⟨w.heap.size + 1 + 1, 3, none⟩ = some (.int .i64 0) := hO.2.2.2.2.2.2.2.2.2.2.2.2.2.2.2.1
  have c16 : (w6.alloc (.cells #[.int .i64 x, .int .i64 y] 27)).cell? ⟨w.heap.size + 1 + 1, 4, none⟩ = some (.int .i64 0) := hO.2.2.2.2.2.2.2.2.2.2.2.2.2.2.2.2.1
  have c17 : (w6.alloc (.cells #[.int .i64 x, .int .i64 y] 27)).cell? ⟨w.heap.size + 1 + 1, 5, none⟩ = some (.int .i64 0) := hO.2.2.2.2.2.2.2.2.2.2.2.2.2.2.2.2.2.1
  have c18 : (w6.alloc (.cells #[.int .i64 x, .int .i64 y] 27)).frozen? ⟨w.heap.size + 1, 0, none⟩ = false := hO.2.2.2.2.2.2.2.2.2.2.2.2.2.2.2.2.2.2.1
  have c19 : (w6.alloc (.cells #[.int .i64 x, .int .i64 y] 27)).frozen? ⟨w.heap.size + 1, 1, none⟩ = false := hO.2.2.2.2.2.2.2.2.2.2.2.2.2.2.2.2.2.2.2.1
  have c20 : (w6.alloc (.cells #[.int .i64 x, .int .i64 y] 27)).frozen? ⟨w.heap.size + 1, 2, none⟩ = false := hO.2.2.2.2.2.2.2.2.2.2.2.2.2.2.2.2.2.2.2.2.1
  have c21 : (w6.alloc (.cells #[.int .i64 x, .int .i64 y] 27)).frozen? ⟨w.heap.size + 1, 3, none⟩ = false := hO.2.2.2.2.2.2.2.2.2.2.2.2.2.2.2.2.2.2.2.2.2.1
  have c22 : (w6.alloc (.cells #[.int .i64 x, .int .i64 y] 27)).frozen? ⟨w.heap.size + 1, 4, none⟩ = false := hO.2.2.2.2.2.2.2.2.2.2.2.2.2.2.2.2.2.2.2.2.2.2.1
  have c23 : (w6.alloc (.cells #[.int .i64 x, .int .i64 y] 27)).frozen? ⟨w.heap.size + 1, 5, none⟩ = false := hO.2.2.2.2.2.2.2.2.2.2.2.2.2.2.2.2.2.2.2.2.2.2.2.1
  have c24 : (w6.alloc (.cells #[.int .i64 x, .int .i64 y] 27)).frozen? ⟨w.heap.size + 1 + 1, 0, none⟩ = false := hO.2.2.2.2.2.2.2.2.2.2.2.2.2.2.2.2.2.2.2.2.2.2.2.2.1
  have c25 : (w6.alloc (.cells #[.int .i64 x, .int .i64 y] 27)).frozen? ⟨w.heap.size + 1 + 1, 1, none⟩ = false := hO.2.2.2.2.2.2.2.2.2.2.2.2.2.2.2.2.2.2.2.2.2.2.2.2.2.1
  have c26 : (w6.alloc (.cells #[.int .i64 x, .int .i64 y] 27)).frozen? ⟨w.heap.size + 1 + 1, 2, none⟩ = false := hO.2.2.2.2.2.2.2.2.2.2.2.2.2.2.2.2.2.2.2.2.2.2.2.2.2.2.1
  have c27 : (w6.alloc (.cells #[.int .i64 x, .int .i64 y] 27)).frozen? ⟨w.heap.size + 1 + 1, 3, none⟩ = false := hO.2.2.2.2.2.2.2.2.2.2.2.2.2.2.2.2.2.2.2.2.2.2.2.2.2.2.2.1
  have c28 : (w6.alloc (.cells #[.int .i64 x, .int .i64 y] 27)).frozen? ⟨w.heap.size + 1 + 1, 4, none⟩ = false := hO.2.2.2.2.2.2.2.2.2.2.2.2.2.2.2.2.2.2.2.2.2.2.2.2.2.2.2.2.1
  have c29 : (w6.alloc (.cells #[.int .i64 x, .int .i64 y] 27)).frozen? ⟨w.heap.size + 1 + 1, 5, none⟩ = false := hO.2.2.2.2.2.2.2.2.2.2.2.2.2.2.2.2.2.2.2.2.2.2.2.2.2.2.2.2.2.1
  have c30 : (w6.alloc (.cells #[.int .i64 x, .int .i64 y] 27)).cell? ⟨w.heap.size + 1 + 1 + 1, 0, none⟩ = some (.int .i64 i) := hO.2.2.2.2.2.2.2.2.2.2.2.2.2.2.2.2.2.2.2.2.2.2.2.2.2.2.2.2.2.2.1
  have c31 : (w6.alloc (.cells #[.int .i64 x, .int .i64 y] 27)).cell? ⟨w.heap.size + 1 + 1 + 1, 1, none⟩ = some (.int .i64 c) := hO.2.2.2.2.2.2.2.2.2.2.2.2.2.2.2.2.2.2.2.2.2.2.2.2.2.2.2.2.2.2.2.1
  have c32 : (w6.alloc (.cells #[.int .i64 x, .int .i64 y] 27)).cell? ⟨w6.heap.size, 0, none⟩ = some (.int .i64 x) := hO.2.2.2.2.2.2.2.2.2.2.2.2.2.2.2.2.2.2.2.2.2.2.2.2.2.2.2.2.2.2.2.2.1
  have c33 : (w6.alloc (.cells #[.int .i64 x, .int .i64 y] 27)).cell? ⟨w6.heap.size, 1, none⟩ = some (.int .i64 y) := hO.2.2.2.2.2.2.2.2.2.2.2.2.2.2.2.2.2.2.2.2.2.2.2.2.2.2.2.2.2.2.2.2.2.1
  have c34 : Below w.heap.size w (w6.alloc (.cells #[.int .i64 x, .int .i64 y] 27)) := hO.2.2.2.2.2.2.2.2.2.2.2.2.2.2.2.2.2.2.2.2.2.2.2.2.2.2.2.2.2.2.2.2.2.2
  go_wp2_with fail
  refine (implMeets_c _ _ _ _ _).mono ?_
  rintro e w7 ⟨rfl, hb7⟩
  have h7 := aoC_on hO hb7
  clear hO c0 c1 c2 c3 c4 c5 c6 c7 c8 c9 c10 c11 c12 c13 c14 c15 c16 c17 c18 c19 c20 c21 c22 c23 c24 c25 c26 c27 c28 c29 c30 c31 c32 c33 c34
  have c0 : w7.cell? ⟨w.heap.size, 0, none⟩ = some (.int .i64 s) := h7.1
  have c1 : w7.cell? ⟨w.heap.size, 1, none⟩ = some (.int .i64 j) := h7.2.1
  have c2 : w7.cell? ⟨w.heap.size, 2, none⟩ = some (.int .i64 m) := h7.2.2.1
  have c3 : w7.cell? ⟨w.heap.size, 3, none⟩ = some (.int .i64 g) := h7.2.2.2.1
  have c4 : w7.cell? ⟨w.heap.size, 4, none⟩ = some (.int .i64 o) := h7.2.2.2.2.1
  have c5 : w7.cell? ⟨w.heap.size, 5, none⟩ = some (.map (some q)) := h7.2.2.2.2.2.1
  have c6 : w7.cell? ⟨w.heap.size + 1, 0, none⟩ = some (.int .i64 l) := h7.2.2.2.2.2.2.1
  have c7 : w7.cell? ⟨w.heap.size + 1, 1, none⟩ = some (.int .i64 h) := h7.2.2.2.2.2.2.2.1
  have c8 : w7.cell? ⟨w.heap.size + 1, 2, none⟩ = some (.bool true) := h7.2.2.2.2.2.2.2.2.1
  have c9 : w7.cell? ⟨w.heap.size + 1, 3, none⟩ = some (.int .i64 0) := h7.2.2.2.2.2.2.2.2.2.1
  have c10 : w7.cell? ⟨w.heap.size + 1, 4, none⟩ = some (.int .i64 i) := h7.2.2.2.2.2.2.2.2.2.2.1
  have c11 : w7.cell? ⟨w.heap.size + 1, 5, none⟩ = some (.int .i64 od) := h7.2.2.2.2.2.2.2.2.2.2.2.1
  have c12 : w7.cell? ⟨w.heap.size + 1 + 1, 0, none⟩ = some (.int .i64 0) := h7.2.2.2.2.2.2.2.2.2.2.2.2.1
  have c13 : w7.cell? ⟨w.heap.size + 1 + 1, 1, none⟩ = some (.int .i64 0) := h7.2.2.2.2.2.2.2.2.2.2.2.2.2.1
  have c14 : w7.cell? ⟨w.heap.size + 1 + 1, 2, none⟩ = some (.bool false) := h7.2.2.2.2.2.2.2.2.2.2.2.2.2.2.1
  have c15 : w7.cell? ⟨w.heap.size + 1 + 1, 3, none⟩ = some (.int .i64 0) := h7.2.2.2.2.2.2.2.2.2.2.2.2.2.2.2.1
  have c16 : w7.cell? ⟨w.heap.size + 1 + 1, 4, none⟩ = some (.int .i64 0) := h7.2.2.2.2.2.2.2.2.2.2.2.2.2.2.2.2.1
  have c17 : w7.cell? ⟨w.heap.size + 1 + 1, 5, none⟩ = some (.int .i64 0) := h7.2.2.2.2.2.2.2.2.2.2.2.2.2.2.2.2.2.1
  have c18 : w7.frozen? ⟨w.heap.size + 1, 0, none⟩ = false := h7.2.2.2.2.2.2.2.2.2.2.2.2.2.2.2.2.2.2.1
  have c19 : w7.frozen? ⟨w.heap.size + 1, 1, none⟩ = false := h7.2.2.2.2.2.2.2.2.2.2.2.2.2.2.2.2.2.2.2.1
  have c20 : w7.frozen? ⟨w.heap.size + 1, 2, none⟩ = false := h7.2.2.2.2.2.2.2.2.2.2.2.2.2.2.2.2.2.2.2.2.1
  have c21 : w7.frozen? ⟨w.heap.size + 1, 3, none⟩ = false := h7.2.2.2.2.2.2.2.2.2.2.2.2.2.2.2.2.2.2.2.2.2.1
  have c22 : w7.frozen? ⟨w.heap.size + 1, 4, none⟩ = false := h7.2.2.2.2.2.2.2.2.2.2.2.2.2.2.2.2.2.2.2.2.2.2.1
  have c23 : w7.frozen? ⟨w.heap.size + 1, 5, none⟩ = false := h7.2.2.2.2.2.2.2.2.2.2.2.2.2.2.2.2.2.2.2.2.2.2.2.1
  have c24 : w7.frozen? ⟨w.heap.size + 1 + 1, 0, none⟩ = false := h7.2.2.2.2.2.2.2.2.2.2.2.2.2.2.2.2.2.2.2.2.2.2.2.2.1
  have c25 : w7.frozen? ⟨w.heap.size + 1 + 1, 1, none⟩ = false := h7.2.2.2.2.2.2.2.2.2.2.2.2.2.2.2.2.2.2.2.2.2.2.2.2.2.1
  have c26 : w7.frozen? ⟨w.heap.size + 1 + 1, 2, none⟩ = false := h7.2.2.2.2.2.2.2.2.2.2.2.2.2.2.2.2.2.2.2.2.2.2.2.2.2.2.1
  have c27 : w7.frozen? ⟨w.heap.size + 1 + 1, 3, none⟩ = false := h7.2.2.2.2.2.2.2.2.2.2.2.2.2.2.2.2.2.2.2.2.2.2.2.2.2.2.2.1
  have c28 : w7.frozen? ⟨w.heap.size + 1 + 1, 4, none⟩ = false := h7.2.2.2.2.2.2.2.2.2.2.2.2.2.2.2.2.2.2.2.2.2.2.2.2.2.2.2.2.1
  have c29 : w7.frozen? ⟨w.heap.size + 1 + 1, 5, none⟩ = false := h7.2.2.2.2.2.2.2.2.2.2.2.2.2.2.2.2.2.2.2.2.2.2.2.2.2.2.2.2.2.1
  have c30 : w7.cell? ⟨w.heap.size + 1 + 1 + 1, 0, none⟩ = some (.int .i64 i) := h7.2.2.2.2.2.2.2.2.2.2.2.2.2.2.2.2.2.2.2.2.2.2.2.2.2.2.2.2.2.2.1
  have c31 : w7.cell? ⟨w.heap.size + 1 + 1 + 1, 1, none⟩ = some (.int .i64 c) := h7.2.2.2.2.2.2.2.2.2.2.2.2.2.2.2.2.2.2.2.2.2.2.2.2.2.2.2.2.2.2.2.1
  have c32 : w7.cell? ⟨w6.heap.size, 0, none⟩ = some (.int .i64 x) := h7.2.2.2.2.2.2.2.2.2.2.2.2.2.2.2.2.2.2.2.2.2.2.2.2.2.2.2.2.2.2.2.2.1
  have c33 : w7.cell? ⟨w6.heap.size, 1, none⟩ = some (.int .i64 y) := h7.2.2.2.2.2.2.2.2.2.2.2.2.2.2.2.2.2.2.2.2.2.2.2.2.2.2.2.2.2.2.2.2.2.1
  have c34 : Below w.heap.size w w7 := h7.2.2.2.2.2.2.2.2.2.2.2.2.2.2.2.2.2.2.2.2.2.2.2.2.2.2.2.2.2.2.2.2.2.2
  go_wp2_with fail
  refine (implRead_yes _ _ _ _ _ _ _ _ x y _ hr hbk hc0 hx hy hmt).mono ?_
  rintro e w8 ⟨rfl, hb8⟩
  have h8 := aoC_on h7 hb8
  clear h7 c0 c1 c2 c3 c4 c5 c6 c7 c8 c9 c10 c11 c12 c13 c14 c15 c16 c17 c18 c19 c20 c21 c22 c23 c24 c25 c26 c27 c28 c29 c30 c31 c32 c33 c34
  have c0 : w8.cell? ⟨w.heap.size, 0, none⟩ = some (.int .i64 s) := h8.1
  have c1 : w8.cell? ⟨w.heap.size, 1, none⟩ = some (.int .i64 j) := h8.2.1
  have c2 : w8.cell? ⟨w.heap.size, 2, none⟩ = some (.int .i64 m) := h8.2.2.1
  have c3 : w8.cell? ⟨w.heap.size, 3, none⟩ = some (.int .i64 g) := h8.2.2.2.1
  have c4 : w8.cell? ⟨w.heap.size, 4, none⟩ = some (.int .i64 o) := h8.2.2.2.2.1
  have c5 : w8.cell? ⟨w.heap.size, 5, none⟩ = some (.map (some q)) := h8.2.2.2.2.2.1
  have c6 : w8.cell? ⟨w.heap.size + 1, 0, none⟩ = some (.int .i64 l) := h8.2.2.2.2.2.2.1
  have c7 : w8.cell? ⟨w.heap.size + 1, 1, none⟩ = some (.int .i64 h) := h8.2.2.2.2.2.2.2.1
  have c8 : w8.cell? ⟨w.heap.size + 1, 2, none⟩ = some (.bool true) := h8.2.2.2.2.2.2.2.2.1
  have c9 : w8.cell? ⟨w.heap.size + 1, 3, none⟩ = some (.int .i64 0) := h8.2.2.2.2.2.2.2.2.2.1
  have c10 : w8.cell? ⟨w.heap.size + 1, 4, none⟩ = some (.int .i64 i) := h8.2.2.2.2.2.2.2.2.2.2.1
  have c11 : w8.cell? ⟨w.heap.size + 1, 5, none⟩ = some (.int .i64 od) := h8.2.2.2.2.2.2.2.2.2.2.2.1
  have c12 : w8.cell? ⟨w.heap.size + 1 + 1, 0, none⟩ = some (.int .i64 0) := h8.2.2.2.2.2.2.2.2.2.2.2.2.1
  have c13 : w8.cell? ⟨w.heap.size + 1 + 1, 1, none⟩ = some (.int .i64 0) := h8.2.2.2.2.2.2.2.2.2.2.2.2.2.1
  have c14 : w8.cell? ⟨w.heap.size + 1 + 1, 2, none⟩ = some (.bool false) := h8.2.2.2.2.2.2.2.2.2.2.2.2.2.2.1
  have c15 : w8.cell? ⟨w.heap.size + 1 + 1, 3, none⟩ = some (.int .i64 0) := h8.2.2.2.2.2.2.2.2.2.2.2.2.2.2.2.1
  have c16 : w8.cell? ⟨w.heap.size + 1 + 1, 4, none⟩ = some (.int .i64 0) := h8.2.2.2.2.2.2.2.2.2.2.2.2.2.2.2.2.1
  have c17 : w8.cell? ⟨w.heap.size + 1 + 1, 5, none⟩ = some (.int .i64 0) := h8.2.2.2.2.2.2.2.2.2.2.2.2.2.2.2.2.2.1
  have c18 : w8.frozen? ⟨w.heap.size + 1, 0, none⟩ = false := h8.2.2.2.2.2.2.2.2.2.2.2.2.2.2.2.2.2.2.1
  have c19 : w8.frozen? ⟨w.heap.size + 1, 1, none⟩ = false := h8.2.2.2.2.2.2.2.2.2.2.2.2.2.2.2.2.2.2.2.1
  have c20 : w8.frozen? ⟨w.heap.size + 1, 2, none⟩ = false := h8.2.2.2.2.2.2.2.2.2.2.2.2.2.2.2.2.2.2.2.2.1
  have c21 : w8.frozen? ⟨w.heap.size + 1, 3, none⟩ = false := h8.2.2.2.2.2.2.2.2.2.2.2.2.2.2.2.2.2.2.2.2.2.1
  have c22 : w8.frozen? ⟨w.heap.size + 1, 4, none⟩ = false := h8.2.2.2.2.2.2.2.2.2.2.2.2.2.2.2.2.2.2.2.2.2.2.1
  have c23 : w8.frozen? ⟨w.heap.size + 1, 5, none⟩ = false := h8.2.2.2.2.2.2.2.2.2.2.2.2.2.2.2.2.2.2.2.2.2.2.2.1
  have c24 : w8.frozen? ⟨w.heap.size + 1 + 1, 0, none⟩ = false := h8.2.2.2.2.2.2.2.2.2.2.2.2.2.2.2.2.2.2.2.2.2.2.2.2.1
  have c25 : w8.frozen? ⟨w.heap.size + 1 + 1, 1, none⟩ = false := h8.2.2.2.2.2.2.2.2.2.2.2.2.2.2.2.2.2.2.2.2.2.2.2.2.2.1
  have c26 : w8.frozen? ⟨w.heap.size + 1 + 1, 2, none⟩ = false := h8.2.2.2.2.2.2.2.2.2.2.2.2.2.2.2.2.2.2.2.2.2.2.2.2.2.2.1
  have c27 : w8.frozen? ⟨w.heap.size + 1 + 1, 3, none⟩ = false := h8.2.2.2.2.2.2.2.2.2.2.2.2.2.2.2.2.2.2.2.2.2.2.2.2.2.2.2.1
  have c28 : w8.frozen? ⟨w.heap.size + 1 + 1, 4, none⟩ = false := h8.2.2.2.2.2.2.2.2.2.2.2.2.2.2.2.2.2.2.2.2.2.2.2.2.2.2.2.2.1
  have c29 : w8.frozen? ⟨w.heap.size + 1 + 1, 5, none⟩ = false := h8.2.2.2.2.2.2.2.2.2.2.2.2.2.2.2.2.2.2.2.2.2.2.2.2.2.2.2.2.2.1
  have c30 : w8.cell? ⟨w.heap.size + 1 + 1 + 1, 0, none⟩ = some (.int .i64 i) := h8.2.2.2.2.2.2.2.2.2.2.2.2.2.2.2.2.2.2.2.2.2.2.2.2.2.2.2.2.2.2.1
  have c31 : w8.cell? ⟨w.heap.size + 1 + 1 + 1, 1, none⟩ = some (.int .i64 c) := h8.2.2.2.2.2.2.2.2.2.2.2.2.2.2.2.2.2.2.2.2.2.2.2.2.2.2.2.2.2.2.2.1
  have c32 : w8.cell? ⟨w6.heap.size, 0, none⟩ = some (.int .i64 x) := h8.2.2.2.2.2.2.2.2.2.2.2.2.2.2.2.2.2.2.2.2.2.2.2.2.2.2.2.2.2.2.2.2.1
  have c33 : w8.cell? ⟨w6.heap.size, 1, none⟩ = some (.int .i64 y) := h8.2.2.2.2.2.2.2.2.2.2.2.2.2.2.2.2.2.2.2.2.2.2.2.2.2.2.2.2.2.2.2.2.2.1
  have c34 : Below w.heap.size w w8 := h8.2.2.2.2.2.2.2.2.2.2.2.2.2.2.2.2.2.2.2.2.2.2.2.2.2.2.2.2.2.2.2.2.2.2
  have hq1 : w.heap.size ≤ w.heap.size + 1 := by omega
  have hq2 : w.heap.size ≤ w.heap.size + 1 + 1 := by omega
  go_wp2_with fail
  exact bodyPost_ret (v := .agg #[.int .i64 (max l x), .int .i64 (min h y), .bool true, .int .i64 0, .int .i64 ((i : Int)), .int .i64 od]) (by simp [results, Tryd.results81, go_sem, *]) rfl ⟨rfl, (nbSetX (nbSetX (nbSetX (nbSetX (nbSetX (nbSetX (nbSetX (nbSetX c34 hq1) hq1) hq2) hq2) hq2) hq2) hq2) hq2)⟩

set_option maxHeartbeats 2000000 in
theorem afterMark_odd (s j m g o : Int) (q : Nat) (l h : Int) (si la od z : Int) (len : Nat) (f a : Nat → Int) (w : World) (hM : MapAt w q len f a) (hz : inB z 1 1000000000 = true) (ho0 : 0 ≤ od) (ho1 : od ≤ 1000000000) (i : Nat) (hi : Hid (lastIx f z len = (i : Int))) (c : Int) (hc : Hid (a i = c)) (hc0 : inB c 0 100000000 = true) (hr : rOk s j m g o = true) (x y : Int) (hx : Hid (x = min (c - m) 100000000)) (hy : Hid (y = min (c + m) 100000000)) (hbk : bOk l h = true) (hmt : mB l h x y = false) :
    Calls Tryd.prog 81 #[.agg #[.int .i64 s, .int .i64 j, .int .i64 m, .int .i64 g, .int .i64 o, .map (some q)], .agg #[.int .i64 l, .int .i64 h, .bool true, .int .i64 si, .int .i64 la, .int .i64 od], .int .i64 z] w fun e w' => e = .returned (.agg #[.int .i64 (min l x), .int .i64 (max h y), .bool true, .int .i64 0, .int .i64 ((i : Int)), .int .i64 (min (od + 1) 1000000000)]) ∧ Below w.heap.size w w' := by
  have hM3 := ((hM.on (nbAlloc (Below.refl _ _) (.cells #[.int .i64 s, .int .i64 j, .int .i64 m, .int .i64 g, .int .i64 o, .map (some q)] 73))).on (nbAlloc (Below.refl _ _) (.cells #[.int .i64 l, .int .i64 h, .bool true, .int .i64 si, .int .i64 la, .int .i64 od] 75))).on (nbAlloc (Below.refl _ _) (.cells #[.int .i64 0, .int .i64 0, .bool false, .int .i64 0, .int .i64 0, .int .i64 0] 75))
  have hm' := hr
  simp only [rOk, inB, Bool.and_eq_true, decide_eq_true_eq] at hm'
  have hm0 : 0 ≤ m := hm'.1.1.2.1
  have hm1 : m ≤ 10000 := hm'.1.1.2.2
  clear hm'
  have hc' := hc0
  simp only [inB, Bool.and_eq_true, decide_eq_true_eq] at hc'
  go_enter Tryd.func81, Tryd.ntmps81
  go_wp2_with (first | (at_lookup; refine wpList_spot_yes _ rfl _ _ rfl q len f a z i rfl hM3 rfl hz hi ?_) | fail)
  rw [hc.out]
  have hC0 : amC w s j m g o q l h true si la od i c ((((w.alloc (.cells #[.int .i64 s, .int .i64 j, .int .i64 m, .int .i64 g, .int .i64 o, .map (some q)] 73)).alloc (.cells #[.int .i64 l, .int .i64 h, .bool true, .int .i64 si, .int .i64 la, .int .i64 od] 75)).alloc (.cells #[.int .i64 0, .int .i64 0, .bool false, .int .i64 0, .int .i64 0, .int .i64 0] 75)).alloc (.cells #[.int .i64 i, .int .i64 c] 125)) := by
    refine ⟨?_, ?_, ?_, ?_, ?_, ?_, ?_, ?_, ?_, ?_, ?_, ?_, ?_, ?_, ?_, ?_, ?_, ?_, ?_, ?_, ?_, ?_, ?_, ?_, ?_, ?_, ?_, ?_, ?_, ?_, ?_, ?_, nbAlloc (nbAlloc (nbAlloc (nbAlloc (Below.refl _ _) _) _) _) _⟩ <;> go_simp
  clear hM3
  generalize (((w.alloc (.cells #[.int .i64 s, .int .i64 j, .int .i64 m, .int .i64 g, .int .i64 o, .map (some q)] 73)).alloc (.cells #[.int .i64 l, .int .i64 h, .bool true, .int .i64 si, .int .i64 la, .int .i64 od] 75)).alloc (.cells #[.int .i64 0, .int .i64 0, .bool false, .int .i64 0, .int .i64 0, .int .i64 0] 75)).alloc (.cells #[.int .i64 i, .int .i64 c] 125) = w4 at *
  have c0 : w4.cell? ⟨w.heap.size, 0, none⟩ = some (.int .i64 s) := hC0.1
  have c1 : w4.cell? ⟨w.heap.size, 1, none⟩ = some (.int .i64 j) := hC0.2.1
  have c2 : w4.cell? ⟨w.heap.size, 2, none⟩ = some (.int .i64 m) := hC0.2.2.1
  have c3 : w4.cell? ⟨w.heap.size, 3, none⟩ = some (.int .i64 g) := hC0.2.2.2.1
  have c4 : w4.cell? ⟨w.heap.size, 4, none⟩ = some (.int .i64 o) := hC0.2.2.2.2.1
  have c5 : w4.cell? ⟨w.heap.size, 5, none⟩ = some (.map (some q)) := hC0.2.2.2.2.2.1
  have c6 : w4.cell? ⟨w.heap.size + 1, 0, none⟩ = some (.int .i64 l) := hC0.2.2.2.2.2.2.1
  have c7 : w4.cell? ⟨w.heap.size + 1, 1, none⟩ = some (.int .i64 h) := hC0.2.2.2.2.2.2.2.1
  have c8 : w4.cell? ⟨w.heap.size + 1, 2, none⟩ = some (.bool true) := hC0.2.2.2.2.2.2.2.2.1
  have c9 : w4.cell? ⟨w.heap.size + 1, 3, none⟩ = some (.int .i64 si) := hC0.2.2.2.2.2.2.2.2.2.1
  have c10 : w4.cell? ⟨w.heap.size + 1, 4, none⟩ = some (.int .i64 la) := hC0.2.2.2.2.2.2.2.2.2.2.1
  have c11 : w4.cell? ⟨w.heap.size + 1, 5, none⟩ = some (.int .i64 od) := hC0.2.2.2.2.2.2.2.2.2.2.2.1
  have c12 : w4.cell? ⟨w.heap.size + 1 + 1, 0, none⟩ = some (.int .i64 0) := hC0.2.2.2.2.2.2.2.2.2.2.2.2.1
  have c13 : w4.cell? ⟨w.heap.size + 1 + 1, 1, none⟩ = some (.int .i64 0) := hC0.2.2.2.2.2.2.2.2.2.2.2.2.2.1
  have c14 : w4.cell? ⟨w.heap.size + 1 + 1, 2, none⟩ = some (.bool false) := hC0.2.2.2.2.2.2.2.2.2.2.2.2.2.2.1
  have c15 : w4.cell? ⟨w.heap.size + 1 + 1, 3, none⟩ = some (.int .i64 0) := hC0.2.2.2.2.2.2.2.2.2.2.2.2.2.2.2.1
  have c16 : w4.cell? ⟨w.heap.size + 1 + 1, 4, none⟩ = some (.int .i64 0) := hC0.2.2.2.2.2.2.2.2.2.2.2.2.2.2.2.2.1
  have c17 : w4.cell? ⟨w.heap.size + 1 + 1, 5, none⟩ = some (.int .i64 0) := hC0.2.2.2.2.2.2.2.2.2.2.2.2.2.2.2.2.2.1
  have c18 : w4.frozen? ⟨w.heap.size + 1, 0, none⟩ = false := hC0.2.2.2.2.2.2.2.2.2.2.2.2.2.2.2.2.2.2.1
  have c19 : w4.frozen? ⟨w.heap.size + 1, 1, none⟩ = false := hC0.2.2.2.2.2.2.2.2.2.2.2.2.2.2.2.2.2.2.2.1
  have c20 : w4.frozen? ⟨w.heap.size + 1, 2, none⟩ = false := hC0.2.2.2.2.2.2.2.2.2.2.2.2.2.2.2.2.2.2.2.2.1
  have c21 : w4.frozen? ⟨w.heap.size + 1, 3, none⟩ = false := hC0.2.2.2.2.2.2.2.2.2.2.2.2.2.2.2.2.2.2.2.2.2.1
  have c22 : w4.frozen? ⟨w.heap.size + 1, 4, none⟩ = false := hC0.2.2.2.2.2.2.2.2.2.2.2.2.2.2.2.2.2.2.2.2.2.2.1
  have c23 : w4.frozen? ⟨w.heap.size + 1, 5, none⟩ = false := hC0.2.2.2.2.2.2.2.2.2.2.2.2.2.2.2.2.2.2.2.2.2.2.2.1
  have c24 : w4.frozen? ⟨w.heap.size + 1 + 1, 0, none⟩ = false := hC0.2.2.2.2.2.2.2.2.2.2.2.2.2.2.2.2.2.2.2.2.2.2.2.2.1
  have c25 : w4.frozen? ⟨w.heap.size + 1 + 1, 1, none⟩ = false := hC0.2.2.2.2.2.2.2.2.2.2.2.2.2.2.2.2.2.2.2.2.2.2.2.2.2.1
  have c26 : w4.frozen? ⟨w.heap.size + 1 + 1, 2, none⟩ = false := hC0.2.2.2.2.2.2.2.2.2.2.2.2.2.2.2.2.2.2.2.2.2.2.2.2.2.2.1
  have c27 : w4.frozen? ⟨w.heap.size + 1 + 1, 3, none⟩ = false := hC0.2.2.2.2.2.2.2.2.2.2.2.2.2.2.2.2.2.2.2.2.2.2.2.2.2.2.2.1
  have c28 : w4.frozen? ⟨w.heap.size + 1 + 1, 4, none⟩ = false := hC0.2.2.2.2.2.2.2.2.2.2.2.2.2.2.2.2.2.2.2.2.2.2.2.2.2.2.2.2.1
  have c29 : w4.frozen? ⟨w.heap.size + 1 + 1, 5, none⟩ = false := hC0.2.2.2.2.2.2.2.2.2.2.2.2.2.2.2.2.2.2.2.2.2.2.2.2.2.2.2.2.2.1
  have c30 : w4.cell? ⟨w.heap.size + 1 + 1 + 1, 0, none⟩ = some (.int .i64 ((i : Int))) := hC0.2.2.2.2.2.2.2.2.2.2.2.2.2.2.2.2.2.2.2.2.2.2.2.2.2.2.2.2.2.2.1
  have c31 : w4.cell? ⟨w.heap.size + 1 + 1 + 1, 1, none⟩ = some (.int .i64 c) := hC0.2.2.2.2.2.2.2.2.2.2.2.2.2.2.2.2.2.2.2.2.2.2.2.2.2.2.2.2.2.2.2.1
  have c32 : Below w.heap.size w w4 := hC0.2.2.2.2.2.2.2.2.2.2.2.2.2.2.2.2.2.2.2.2.2.2.2.2.2.2.2.2.2.2.2.2
  go_region
  have hC5 : amC w s j m g o q l h true 0 i od i c (((w4.setCell ⟨w.heap.size + 1, 3, none⟩ (.int .i64 0)).setCell ⟨w.heap.size + 1, 4, none⟩ (.int .i64 (i : Int))).drew) := amC_on (amC_la (amC_si hC0 0) i) (Below.drew (Below.refl _ _))
  clear hC0 c0 c1 c2 c3 c4 c5 c6 c7 c8 c9 c10 c11 c12 c13 c14 c15 c16 c17 c18 c19 c20 c21 c22 c23 c24 c25 c26 c27 c28 c29 c30 c31 c32
  generalize ((w4.setCell ⟨w.heap.size + 1, 3, none⟩ (.int .i64 0)).setCell ⟨w.heap.size + 1, 4, none⟩ (.int .i64 (i : Int))).drew = w5 at *
  have c0 : w5.cell? ⟨w.heap.size, 0, none⟩ = some (.int .i64 s) := hC5.1
  have c1 : w5.cell? ⟨w.heap.size, 1, none⟩ = some (.int .i64 j) := hC5.2.1
  have c2 : w5.cell? ⟨w.heap.size, 2, none⟩ = some (.int .i64 m) := hC5.2.2.1
  have c3 : w5.cell? ⟨w.heap.size, 3, none⟩ = some (.int .i64 g) := hC5.2.2.2.1
  have c4 : w5.cell? ⟨w.heap.size, 4, none⟩ = some (.int .i64 o) := hC5.2.2.2.2.1
  have c5 : w5.cell? ⟨w.heap.size, 5, none⟩ = some (.map (some q)) := hC5.2.2.2.2.2.1
  have c6 : w5.cell? ⟨w.heap.size + 1, 0, none⟩ = some (.int .i64 l) := hC5.2.2.2.2.2.2.1
  have c7 : w5.cell? ⟨w.heap.size + 1, 1, none⟩ = some (.int .i64 h) := hC5.2.2.2.2.2.2.2.1
  have c8 : w5.cell? ⟨w.heap.size + 1, 2, none⟩ = some (.bool true) := hC5.2.2.2.2.2.2.2.2.1
  have c9 : w5.cell? ⟨w.heap.size + 1, 3, none⟩ = some (.int .i64 0) := hC5.2.2.2.2.2.2.2.2.2.1
  have c10 : w5.cell? ⟨w.heap.size + 1, 4, none⟩ = some (.int .i64 i) := hC5.2.2.2.2.2.2.2.2.2.2.1
  have c11 : w5.cell? ⟨w.heap.size + 1, 5, none⟩ = some (.int .i64 od) := hC5.2.2.2.2.2.2.2.2.2.2.2.1
  have c12 : w5.cell? ⟨w.heap.size + 1 + 1, 0, none⟩ = some (.int .i64 0) := hC5.2.2.2.2.2.2.2.2.2.2.2.2.1
  have c13 : w5.cell? ⟨w.heap.size + 1 + 1, 1, none⟩ = some (.int .i64 0) := hC5.2.2.2.2.2.2.2.2.2.2.2.2.2.1
  have c14 : w5.cell? ⟨w.heap.size + 1 + 1, 2, none⟩ = some (.bool false) := hC5.2.2.2.2.2.2.2.2.2.2.2.2.2.2.1
  have c15 : w5.cell? ⟨w.heap.size + 1 + 1, 3, none⟩ = some (.int .i64 0) := hC5.2.2.2.2.2.2.2.2.2.2.2.2.2.2.2.1
  have c16 : w5.cell? ⟨w.heap.size + 1 + 1, 4, none⟩ = some (.int .i64 0) := hC5.2.2.2.2.2.2.2.2.2.2.2.2.2.2.2.2.1
  have c17 : w5.cell? ⟨w.heap.size + 1 + 1, 5, none⟩ = some (.int .i64 0) := hC5.2.2.2.2.2.2.2.2.2.2.2.2.2.2.2.2.2.1
  have c18 : w5.frozen? ⟨w.heap.size + 1, 0, none⟩ = false := hC5.2.2.2.2.2.2.2.2.2.2.2.2.2.2.2.2.2.2.1
  have c19 : w5.frozen? ⟨w.heap.size + 1, 1, none⟩ = false := hC5.2.2.2.2.2.2.2.2.2.2.2.2.2.2.2.2.2.2.2.1
  have c20 : w5.frozen? ⟨w.heap.size + 1, 2, none⟩ = false := hC5.2.2.2.2.2.2.2.2.2.2.2.2.2.2.2.2.2.2.2.2.1
  have c21 : w5.frozen? ⟨w.heap.size + 1, 3, none⟩ = false := hC5.2.2.2.2.2.2.2.2.2.2.2.2.2.2.2.2.2.2.2.2.2.1
  have c22 : w5.frozen? ⟨w.heap.size + 1, 4, none⟩ = false := hC5.2.2.2.2.2.2.2.2.2.2.2.2.2.2.2.2.2.2.2.2.2.2.1
  have c23 : w5.frozen? ⟨w.heap.size + 1, 5, none⟩ = false := hC5.2.2.2.2.2.2.2.2.2.2.2.2.2.2.2.2.2.2.2.2.2.2.2.1
  have c24 : w5.frozen? ⟨w.heap.size + 1 + 1, 0, none⟩ = false := hC5.2.2.2.2.2.2.2.2.2.2.2.2.2.2.2.2.2.2.2.2.2.2.2.2.1
  have c25 : w5.frozen? ⟨w.heap.size + 1 + 1, 1, none⟩ = false := hC5.2.2.2.2.2.2.2.2.2.2.2.2.2.2.2.2.2.2.2.2.2.2.2.2.2.1
  have c26 : w5.frozen? ⟨w.heap.size + 1 + 1, 2, none⟩ = false := hC5.2.2.2.2.2.2.2.2.2.2.2.2.2.2.2.2.2.2.2.2.2.2.2.2.2.2.1
  have c27 : w5.frozen? ⟨w.heap.size + 1 + 1, 3, none⟩ = false := hC5.2.2.2.2.2.2.2.2.2.2.2.2.2.2.2.2.2.2.2.2.2.2.2.2.2.2.2.1
  have c28 : w5.frozen? ⟨w.heap.size + 1 + 1, 4, none⟩ = false := hC5.2.2.2.2.2.2.2.2.2.2.2.2.2.2.2.2.2.2.2.2.2.2.2.2.2.2.2.2.1
  have c29 : w5.frozen? ⟨w.heap.size + 1 + 1, 5, none⟩ = false := hC5.2.2.2.2.2.2.2.2.2.2.2.2.2.2.2.2.2.2.2.2.2.2.2.2.2.2.2.2.2.1
  have c30 : w5.cell? ⟨w.heap.size + 1 + 1 + 1, 0, none⟩ = some (.int .i64 i) := hC5.2.2.2.2.2.2.2.2.2.2.2.2.2.2.2.2.2.2.2.2.2.2.2.2.2.2.2.2.2.2.1
  have c31 : w5.cell? ⟨w.heap.size + 1 + 1 + 1, 1, none⟩ = some (.int .i64 c) := hC5.2.2.2.2.2.2.2.2.2.2.2.2.2.2.2.2.2.2.2.2.2.2.2.2.2.2.2.2.2.2.2.1
  have c32 : Below w.heap.size w w5 := hC5.2.2.2.2.2.2.2.2.2.2.2.2.2.2.2.2.2.2.2.2.2.2.2.2.2.2.2.2.2.2.2.2
  go_wp2_with fail
  refine (boundOfMark_c _ _ _ _ _ _ _ hm0 hm1 hc'.1 hc'.2).mono ?_
  rintro e w6 ⟨rfl, hb6⟩
  rw [← hx.out, ← hy.out]
  have hC6 := amC_on hC5 hb6
  clear hC5 c0 c1 c2 c3 c4 c5 c6 c7 c8 c9 c10 c11 c12 c13 c14 c15 c16 c17 c18 c19 c20 c21 c22 c23 c24 c25 c26 c27 c28 c29 c30 c31 c32
  have hO : aoC w s j m g o q l h true 0 i od i c w6.heap.size x y (w6.alloc (.cells #[.int .i64 x, .int .i64 y] 27)) := ⟨cellNew hC6.1 _, cellNew hC6.2.1 _, cellNew hC6.2.2.1 _, cellNew hC6.2.2.2.1 _, cellNew hC6.2.2.2.2.1 _, cellNew hC6.2.2.2.2.2.1 _, cellNew hC6.2.2.2.2.2.2.1 _, cellNew hC6.2.2.2.2.2.2.2.1 _, cellNew hC6.2.2.2.2.2.2.2.2.1 _, cellNew hC6.2.2.2.2.2.2.2.2.2.1 _, cellNew hC6.2.2.2.2.2.2.2.2.2.2.1 _, cellNew hC6.2.2.2.2.2.2.2.2.2.2.2.1 _, cellNew hC6.2.2.2.2.2.2.2.2.2.2.2.2.1 _, cellNew hC6.2.2.2.2.2.2.2.2.2.2.2.2.2.1 _, cellNew hC6.2.2.2.2.2.2.2.2.2.2.2.2.2.2.1 _, cellNew hC6.2.2.2.2.2.2.2.2.2.2.2.2.2.2.2.1 _, cellNew hC6.2.2.2.2.2.2.2.2.2.2.2.2.2.2.2.2.1 _, cellNew hC6.2.2.2.2.2.2.2.2.2.2.2.2.2.2.2.2.2.1 _, frozenNew hC6.2.2.2.2.2.2.1 hC6.2.2.2.2.2.2.2.2.2.2.2.2.2.2.2.2.2.2.1 _, frozenNew hC6.2.2.2.2.2.2.2.1 hC6.2.2.2.2.2.2.2.2.2.2.2.2.2.2.2.2.2.2.2.1 _, frozenNew hC6.2.2.2.2.2.2.2.2.1 hC6.2.2.2.2.2.2.2.2.2.2.2.2.2.2.2.2.2.2.2.2.1 _, frozenNew hC6.2.2.2.2.2.2.2.2.2.1 hC6.2.2.2.2.2.2.2.2.2.2.2.2.2.2.2.2.2.2.2.2.2.1 _, frozenNew hC6.2.2.2.2.2.2.2.2.2.2.1 hC6.2.2.2.2.2.2.2.2.2.2.2.2.2.2.2.2.2.2.2.2.2.2.1 _, frozenNew hC6.2.2.2.2.2.2.2.2.2.2.2.1 hC6.2.2.2.2.2.2.2.2.2.2.2.2.2.2.2.2.2.2.2.2.2.2.2.1 _, frozenNew hC6.2.2.2.2.2.2.2.2.2.2.2.2.1 hC6.2.2.2.2.2.2.2.2.2.2.2.2.2.2.2.2.2.2.2.2.2.2.2.2.1 _, frozenNew hC6.2.2.2.2.2.2.2.2.2.2.2.2.2.1 hC6.2.2.2.2.2.2.2.2.2.2.2.2.2.2.2.2.2.2.2.2.2.2.2.2.2.1 _, frozenNew hC6.2.2.2.2.2.2.2.2.2.2.2.2.2.2.1 hC6.2.2.2.2.2.2.2.2.2.2.2.2.2.2.2.2.2.2.2.2.2.2.2.2.2.2.1 _, frozenNew hC6.2.2.2.2.2.2.2.2.2.2.2.2.2.2.2.1 hC6.2.2.2.2.2.2.2.2.2.2.2.2.2.2.2.2.2.2.2.2.2.2.2.2.2.2.2.1 _, frozenNew hC6.2.2.2.2.2.2.2.2.2.2.2.2.2.2.2.2.1 hC6.2.2.2.2.2.2.2.2.2.2.2.2.2.2.2.2.2.2.2.2.2.2.2.2.2.2.2.2.1 _, frozenNew hC6.2.2.2.2.2.2.2.2.2.2.2.2.2.2.2.2.2.1 hC6.2.2.2.2.2.2.2.2.2.2.2.2.2.2.2.2.2.2.2.2.2.2.2.2.2.2.2.2.2.1 _, cellNew hC6.2.2.2.2.2.2.2.2.2.2.2.2.2.2.2.2.2.2.2.2.2.2.2.2.2.2.2.2.2.2.1 _, cellNew hC6.2.2.2.2.2.2.2.2.2.2.2.2.2.2.2.2.2.2.2.2.2.2.2.2.2.2.2.2.2.2.2.1 _, by go_simp, by go_simp, nbAlloc hC6.2.2.2.2.2.2.2.2.2.2.2.2.2.2.2.2.2.2.2.2.2.2.2.2.2.2.2.2.2.2.2.2 _⟩
  have hpn : w6.heap.size ≠ w.heap.size + 1 := by have := ltCell hC6.2.2.2.2.2.2.2.2.2.2.2.2.1; omega
  have hpq : w.heap.size ≤ w6.heap.size := hC6.2.2.2.2.2.2.2.2.2.2.2.2.2.2.2.2.2.2.2.2.2.2.2.2.2.2.2.2.2.2.2.2.size
  clear hC6
  have c0 : (w6.alloc (.cells #[.int .i64 x, .int .i64 y] 27)).cell? ⟨w.heap.size, 0, none⟩ = some (.int .i64 s) := hO.1
  have c1 : (w6.alloc (.cells #[.int .i64 x, .int .i64 y] 27)).cell? ⟨w.heap.size, 1, none⟩ = some (.int .i64 j) := hO.2.1
  have c2 : (w6.alloc (.cells #[.int .i64 x, .int .i64 y] 27)).cell? ⟨w.heap.size, 2, none⟩ = some (.int .i64 m) := hO.2.2.1
  have c3 : (w6.alloc (.cells #[.int .i64 x, .int .i64 y] 27)).cell? ⟨w.heap.size, 3, none⟩ = some (.int .i64 g) := hO.2.2.2.1
  have c4 : (w6.alloc (.cells #[.int .i64 x, .int .i64 y] 27)).cell? ⟨w.heap.size, 4, none⟩ = some (.int .i64 o) := hO.2.2.2.2.1
  have c5 : (w6.alloc (.cells #[.int .i64 x, .int .i64 y] 27)).cell? ⟨w.heap.size, 5, none⟩ = some (.map (some q)) := hO.2.2.2.2.2.1
  have c6 : (w6.alloc (.cells #[.int .i64 x, .int .i64 y] 27)).cell? ⟨w.heap.size + 1, 0, none⟩ = some (.int .i64 l) := hO.2.2.2.2.2.2.1
  have c7 : (w6.alloc (.cells #[.int .i64 x, .int .i64 y] 27)).cell? ⟨w.heap.size + 1, 1, none⟩ = some (.int .i64 h) := hO.2.2.2.2.2.2.2.1
  have c8 : (w6.alloc (.cells #[.int .i64 x, .int .i64 y] 27)).cell? ⟨w.heap.size + 1, 2, none⟩ = some (.bool true) := hO.2.2.2.2.2.2.2.2.1
  have c9 : (w6.alloc (.cells #[.int .i64 x, .int .i64 y] 27)).cell? ⟨w.heap.size + 1, 3, none⟩ = some (.int .i64 0) := hO.2.2.2.2.2.2.2.2.2.1
  have c10 : (w6.alloc (.cells #[.int .i64 x, .int .i64 y] 27)).cell? ⟨w.heap.size + 1, 4, none⟩ = some (.int .i64 i) := hO.2.2.2.2.2.2.2.2.2.2.1
  have c11 : (w6.alloc (.cells #[.int .i64 x, .int .i64 y] 27)).cell? ⟨w.heap.size + 1, 5, none⟩ = some (.int .i64 od) := hO.2.2.2.2.2.2.2.2.2.2.2.1
  have c12 : (w6.alloc (.cells #[.int .i64 x, .int .i64 y] 27)).cell? ⟨w.heap.size + 1 + 1, 0, none⟩ = some (.int .i64 0) := hO.2.2.2.2.2.2.2.2.2.2.2.2.1
  have c13 : (w6.alloc (.cells #[.int .i64 x, .int .i64 y] 27)).cell? ⟨w.heap.size + 1 + 1, 1, none⟩ = some (.int .i64 0) := hO.2.2.2.2.2.2.2.2.2.2.2.2.2.1
  have c14 : (w6.alloc (.cells #[.int .i64 x, .int .i64 y] 27)).cell? ⟨w.heap.size + 1 + 1, 2, none⟩ = some (.bool false) := hO.2.2.2.2.2.2.2.2.2.2.2.2.2.2.1
  have c15 : (w6.alloc (.cells #[.int .i64 x, .int .i64 y] 27)).cell? ⟨w.heap.size + 1 + 1, 3, none⟩ = some (.int .i64 0) := hO.2.2.2.2.2.2.2.2.2.2.2.2.2.2.2.1
  have c16 : (w6.alloc (.cells #[.int .i64 x, .int .i64 y] 27)).cell? ⟨w.heap.size + 1 + 1, 4, none⟩ = some (.int .i64 0) := hO.2.2.2.2.2.2.2.2.2.2.2.2.2.2.2.2.1
  have c17 : (w6.alloc (.cells #[.int .i64 x, .int .i64 y] 27)).cell? ⟨w.heap.size + 1 + 1, 5, none⟩ = some (.int .i64 0) := hO.2.2.2.2.2.2.2.2.2.2.2.2.2.2.2.2.2.1
  have c18 : (w6.alloc (.cells #[.int .i64 x, .int .i64 y] 27)).frozen? ⟨w.heap.size + 1, 0, none⟩ = false := hO.2.2.2.2.2.2.2.2.2.2.2.2.2.2.2.2.2.2.1
  have c19 : (w6.alloc (.cells #[.int .i64 x, .int .i64 y] 27)).frozen? ⟨w.heap.size + 1, 1, none⟩ = false := hO.2.2.2.2.2.2.2.2.2.2.2.2.2.2.2.2.2.2.2.1
  have c20 : (w6.alloc (.cells #[.int .i64 x, .int .i64 y] 27)).frozen? ⟨w.heap.size + 1, 2, none⟩ = false := hO.2.2.2.2.2.2.2.2.2.2.2.2.2.2.2.2.2.2.2.2.1
  have c21 : (w6.alloc (.cells #[.int .i64 x, .int .i64 y] 27)).frozen? ⟨w.heap.size + 1, 3, none⟩ = false := hO.2.2.2.2.2.2.2.2.2.2.2.2.2.2.2.2.2.2.2.2.2.1
  have c22 : (w6.alloc (.cells #[.int .i64 x, .int .i64 y] 27)).frozen? ⟨w.heap.size + 1, 4, none⟩ = false := hO.2.2.2.2.2.2.2.2.2.2.2.2.2.2.2.2.2.2.2.2.2.2.1
  have c23 : (w6.alloc (.cells #[.int .i64 x, .int .i64 y] 27)).frozen? ⟨w.heap.size + 1, 5, none⟩ = false := hO.2.2.2.2.2.2.2.2.2.2.2.2.2.2.2.2.2.2.2.2.2.2.2.1
  have c24 : (w6.alloc (.cells #[.int .i64 x, .int .i64 y] 27)).frozen? ⟨w.heap.size + 1 + 1, 0, none⟩ = false := hO.2.2.2.2.2.2.2.2.2.2.2.2.2.2.2.2.2.2.2.2.2.2.2.2.1
  have c25 : (w6.alloc (.cells #[.int .i64 x, .int .i64 y] 27)).frozen? ⟨w.heap.size + 1 + 1, 1, none⟩ = false := hO.2.2.2.2.2.2.2.2.2.2.2.2.2.2.2.2.2.2.2.2.2.2.2.2.2.1
  have c26 : (w6.alloc (.cells #[.int .i64 x, .int .i64 y] 27)).frozen? ⟨w.heap.size + 1 + 1, 2, none⟩ = false := hO.2.2.2.2.2.2.2.2.2.2.2.2.2.2.2.2.2.2.2.2.2.2.2.2.2.2.1
  have c27 : (w6.alloc (.cells #[.int .i64 x, .int .i64 y] 27)).frozen? ⟨w.heap.size + 1 + 1, 3, none⟩ = false := hO.2.2.2.2.2.2.2.2.2.2.2.2.2.2.2.2.2.2.2.2.2.2.2.2.2.2.2.1
  have c28 : (w6.alloc (.cells #[.int .i64 x, .int .i64 y] 27)).frozen? ⟨w.heap.size + 1 + 1, 4, none⟩ = false := hO.2.2.2.2.2.2.2.2.2.2.2.2.2.2.2.2.2.2.2.2.2.2.2.2.2.2.2.2.1
  have c29 : (w6.alloc (.cells #[.int .i64 x, .int .i64 y] 27)).frozen? ⟨w.heap.size + 1 + 1, 5, none⟩ = false := hO.2.2.2.2.2.2.2.2.2.2.2.2.2.2.2.2.2.2.2.2.2.2.2.2.2.2.2.2.2.1
  have c30 : (w6.alloc (.cells #[.int .i64 x, .int .i64 y] 27)).cell? ⟨w.heap.size + 1 + 1 + 1, 0, none⟩ = some (.int .i64 i) := hO.2.2.2.2.2.2.2.2.2.2.2.2.2.2.2.2.2.2.2.2.2.2.2.2.2.2.2.2.2.2.1
  have c31 : (w6.alloc (.cells #[.int .i64 x, .int .i64 y] 27)).cell? ⟨w.heap.size + 1 + 1 + 1, 1, none⟩ = some (.int .i64 c) := hO.2.2.2.2.2.2.2.2.2.2.2.2.2.2.2.2.2.2.2.2.2.2.2.2.2.2.2.2.2.2.2.1
  have c32 : (w6.alloc (.cells #[.int .i64 x, .int .i64 y] 27)).cell? ⟨w6.heap.size, 0, none⟩ = some (.int .i64 x) := hO.2.2.2.2.2.2.2.2.2.2.2.2.2.2.2.2.2.2.2.2.2.2.2.2.2.2.2.2.2.2.2.2.1
  have c33 : (w6.alloc (.cells #[.int .i64 x, .int .i64 y] 27)).cell? ⟨w6.heap.size, 1, none⟩ = some (.int .i64 y) := hO.2.2.2.2.2.2.2.2.2.2.2.2.2.2.2.2.2.2.2.2.2.2.2.2.2.2.2.2.2.2.2.2.2.1
  have c34 : Below w.heap.size w (w6.alloc (.cells #[.int .i64 x, .int .i64 y] 27)) := hO.2.2.2.2.2.2.2.2.2.2.2.2.2.2.2.2.2.2.2.2.2.2.2.2.2.2.2.2.2.2.2.2.2.2
  go_wp2_with fail
  refine (implMeets_c _ _ _ _ _).mono ?_
  rintro e w7 ⟨rfl, hb7⟩
  have h7 := aoC_on hO hb7
  clear hO c0 c1 c2 c3 c4 c5 c6 c7 c8 c9 c10 c11 c12 c13 c14 c15 c16 c17 c18 c19 c20 c21 c22 c23 c24 c25 c26 c27 c28 c29 c30 c31 c32 c33 c34
  have c0 : w7.cell? ⟨w.heap.size, 0, none⟩ = some (.int .i64 s) := h7.1
  have c1 : w7.cell? ⟨w.heap.size, 1, none⟩ = some (.int .i64 j) := h7.2.1
  have c2 : w7.cell? ⟨w.heap.size, 2, none⟩ = some (.int .i64 m) := h7.2.2.1
  have c3 : w7.cell? ⟨w.heap.size, 3, none⟩ = some (.int .i64 g) := h7.2.2.2.1
  have c4 : w7.cell? ⟨w.heap.size, 4, none⟩ = some (.int .i64 o) := h7.2.2.2.2.1
  have c5 : w7.cell? ⟨w.heap.size, 5, none⟩ = some (.map (some q)) := h7.2.2.2.2.2.1
  have c6 : w7.cell? ⟨w.heap.size + 1, 0, none⟩ = some (.int .i64 l) := h7.2.2.2.2.2.2.1
  have c7 : w7.cell? ⟨w.heap.size + 1, 1, none⟩ = some (.int .i64 h) := h7.2.2.2.2.2.2.2.1
  have c8 : w7.cell? ⟨w.heap.size + 1, 2, none⟩ = some (.bool true) := h7.2.2.2.2.2.2.2.2.1
  have c9 : w7.cell? ⟨w.heap.size + 1, 3, none⟩ = some (.int .i64 0) := h7.2.2.2.2.2.2.2.2.2.1
  have c10 : w7.cell? ⟨w.heap.size + 1, 4, none⟩ = some (.int .i64 i) := h7.2.2.2.2.2.2.2.2.2.2.1
  have c11 : w7.cell? ⟨w.heap.size + 1, 5, none⟩ = some (.int .i64 od) := h7.2.2.2.2.2.2.2.2.2.2.2.1
  have c12 : w7.cell? ⟨w.heap.size + 1 + 1, 0, none⟩ = some (.int .i64 0) := h7.2.2.2.2.2.2.2.2.2.2.2.2.1
  have c13 : w7.cell? ⟨w.heap.size + 1 + 1, 1, none⟩ = some (.int .i64 0) := h7.2.2.2.2.2.2.2.2.2.2.2.2.2.1
  have c14 : w7.cell? ⟨w.heap.size + 1 + 1, 2, none⟩ = some (.bool false) := h7.2.2.2.2.2.2.2.2.2.2.2.2.2.2.1
  have c15 : w7.cell? ⟨w.heap.size + 1 + 1, 3, none⟩ = some (.int .i64 0) := h7.2.2.2.2.2.2.2.2.2.2.2.2.2.2.2.1
  have c16 : w7.cell? ⟨w.heap.size + 1 + 1, 4, none⟩ = some (.int .i64 0) := h7.2.2.2.2.2.2.2.2.2.2.2.2.2.2.2.2.1
  have c17 : w7.cell? ⟨w.heap.size + 1 + 1, 5, none⟩ = some (.int .i64 0) := h7.2.2.2.2.2.2.2.2.2.2.2.2.2.2.2.2.2.1
  have c18 : w7.frozen? ⟨w.heap.size + 1, 0, none⟩ = false := h7.2.2.2.2.2.2.2.2.2.2.2.2.2.2.2.2.2.2.1
  have c19 : w7.frozen? ⟨w.heap.size + 1, 1, none⟩ = false := h7.2.2.2.2.2.2.2.2.2.2.2.2.2.2.2.2.2.2.2.1
  have c20 : w7.frozen? ⟨w.heap.size + 1, 2, none⟩ = false := h7.2.2.2.2.2.2.2.2.2.2.2.2.2.2.2.2.2.2.2.2.1
  have c21 : w7.frozen? ⟨w.heap.size + 1, 3, none⟩ = false := h7.2.2.2.2.2.2.2.2.2.2.2.2.2.2.2.2.2.2.2.2.2.1
  have c22 : w7.frozen? ⟨w.heap.size + 1, 4, none⟩ = false := h7.2.2.2.2.2.2.2.2.2.2.2.2.2.2.2.2.2.2.2.2.2.2.1
  have c23 : w7.frozen? ⟨w.heap.size + 1, 5, none⟩ = false := h7.2.2.2.2.2.2.2.2.2.2.2.2.2.2.2.2.2.2.2.2.2.2.2.1
  have c24 : w7.frozen? ⟨w.heap.size + 1 + 1, 0, none⟩ = false := h7.2.2.2.2.2.2.2.2.2.2.2.2.2.2.2.2.2.2.2.2.2.2.2.2.1
  have c25 : w7.frozen? ⟨w.heap.size + 1 + 1, 1, none⟩ = false := h7.2.2.2.2.2.2.2.2.2.2.2.2.2.2.2.2.2.2.2.2.2.2.2.2.2.1
  have c26 : w7.frozen? ⟨w.heap.size + 1 + 1, 2, none⟩ = false := h7.2.2.2.2.2.2.2.2.2.2.2.2.2.2.2.2.2.2.2.2.2.2.2.2.2.2.1
  have c27 : w7.frozen? ⟨w.heap.size + 1 + 1, 3, none⟩ = false := h7.2.2.2.2.2.2.2.2.2.2.2.2.2.2.2.2.2.2.2.2.2.2.2.2.2.2.2.1
  have c28 : w7.frozen? ⟨w.heap.size + 1 + 1, 4, none⟩ = false := h7.2.2.2.2.2.2.2.2.2.2.2.2.2.2.2.2.2.2.2.2.2.2.2.2.2.2.2.2.1
  have c29 : w7.frozen? ⟨w.heap.size + 1 + 1, 5, none⟩ = false := h7.2.2.2.2.2.2.2.2.2.2.2.2.2.2.2.2.2.2.2.2.2.2.2.2.2.2.2.2.2.1
  have c30 : w7.cell? ⟨w.heap.size + 1 + 1 + 1, 0, none⟩ = some (.int .i64 i) := h7.2.2.2.2.2.2.2.2.2.2.2.2.2.2.2.2.2.2.2.2.2.2.2.2.2.2.2.2.2.2.1
  have c31 : w7.cell? ⟨w.heap.size + 1 + 1 + 1, 1, none⟩ = some (.int .i64 c) := h7.2.2.2.2.2.2.2.2.2.2.2.2.2.2.2.2.2.2.2.2.2.2.2.2.2.2.2.2.2.2.2.1
  have c32 : w7.cell? ⟨w6.heap.size, 0, none⟩ = some (.int .i64 x) := h7.2.2.2.2.2.2.2.2.2.2.2.2.2.2.2.2.2.2.2.2.2.2.2.2.2.2.2.2.2.2.2.2.1
  have c33 : w7.cell? ⟨w6.heap.size, 1, none⟩ = some (.int .i64 y) := h7.2.2.2.2.2.2.2.2.2.2.2.2.2.2.2.2.2.2.2.2.2.2.2.2.2.2.2.2.2.2.2.2.2.1
  have c34 : Below w.heap.size w w7 := h7.2.2.2.2.2.2.2.2.2.2.2.2.2.2.2.2.2.2.2.2.2.2.2.2.2.2.2.2.2.2.2.2.2.2
  go_wp2_with fail
  refine (odder_c _ _ _ _ _ _ _ ho0 ho1).mono ?_
  rintro e w8 ⟨rfl, hb8⟩
  have h8 := aoC_on h7 hb8
  clear h7 c0 c1 c2 c3 c4 c5 c6 c7 c8 c9 c10 c11 c12 c13 c14 c15 c16 c17 c18 c19 c20 c21 c22 c23 c24 c25 c26 c27 c28 c29 c30 c31 c32 c33 c34
  have h9 := aoC_od (aoC_la (aoC_si (aoC_kn (aoC_h (aoC_l h8 l hpn) h hpn) true hpn) 0 hpn) i hpn) (min (od + 1) 1000000000) hpn
  have c0 : w8.cell? ⟨w.heap.size, 0, none⟩ = some (.int .i64 s) := h8.1
  have c1 : w8.cell? ⟨w.heap.size, 1, none⟩ = some (.int .i64 j) := h8.2.1
  have c2 : w8.cell? ⟨w.heap.size, 2, none⟩ = some (.int .i64 m) := h8.2.2.1
  have c3 : w8.cell? ⟨w.heap.size, 3, none⟩ = some (.int .i64 g) := h8.2.2.2.1
  have c4 : w8.cell? ⟨w.heap.size, 4, none⟩ = some (.int .i64 o) := h8.2.2.2.2.1
  have c5 : w8.cell? ⟨w.heap.size, 5, none⟩ = some (.map (some q)) := h8.2.2.2.2.2.1
  have c6 : w8.cell? ⟨w.heap.size + 1, 0, none⟩ = some (.int .i64 l) := h8.2.2.2.2.2.2.1
  have c7 : w8.cell? ⟨w.heap.size + 1, 1, none⟩ = some (.int .i64 h) := h8.2.2.2.2.2.2.2.1
  have c8 : w8.cell? ⟨w.heap.size + 1, 2, none⟩ = some (.bool true) := h8.2.2.2.2.2.2.2.2.1
  have c9 : w8.cell? ⟨w.heap.size + 1, 3, none⟩ = some (.int .i64 0) := h8.2.2.2.2.2.2.2.2.2.1
  have c10 : w8.cell? ⟨w.heap.size + 1, 4, none⟩ = some (.int .i64 i) := h8.2.2.2.2.2.2.2.2.2.2.1
  have c11 : w8.cell? ⟨w.heap.size + 1, 5, none⟩ = some (.int .i64 od) := h8.2.2.2.2.2.2.2.2.2.2.2.1
  have c12 : w8.cell? ⟨w.heap.size + 1 + 1, 0, none⟩ = some (.int .i64 0) := h8.2.2.2.2.2.2.2.2.2.2.2.2.1
  have c13 : w8.cell? ⟨w.heap.size + 1 + 1, 1, none⟩ = some (.int .i64 0) := h8.2.2.2.2.2.2.2.2.2.2.2.2.2.1
  have c14 : w8.cell? ⟨w.heap.size + 1 + 1, 2, none⟩ = some (.bool false) := h8.2.2.2.2.2.2.2.2.2.2.2.2.2.2.1
  have c15 : w8.cell? ⟨w.heap.size + 1 + 1, 3, none⟩ = some (.int .i64 0) := h8.2.2.2.2.2.2.2.2.2.2.2.2.2.2.2.1
  have c16 : w8.cell? ⟨w.heap.size + 1 + 1, 4, none⟩ = some (.int .i64 0) := h8.2.2.2.2.2.2.2.2.2.2.2.2.2.2.2.2.1
  have c17 : w8.cell? ⟨w.heap.size + 1 + 1, 5, none⟩ = some (.int .i64 0) := h8.2.2.2.2.2.2.2.2.2.2.2.2.2.2.2.2.2.1
  have c18 : w8.frozen? ⟨w.heap.size + 1, 0, none⟩ = false := h8.2.2.2.2.2.2.2.2.2.2.2.2.2.2.2.2.2.2.1
  have c19 : w8.frozen? ⟨w.heap.size + 1, 1, none⟩ = false := h8.2.2.2.2.2.2.2.2.2.2.2.2.2.2.2.2.2.2.2.1
  have c20 : w8.frozen? ⟨w.heap.size + 1, 2, none⟩ = false := h8.2.2.2.2.2.2.2.2.2.2.2.2.2.2.2.2.2.2.2.2.1
  have c21 : w8.frozen? ⟨w.heap.size + 1, 3, none⟩ = false := h8.2.2.2.2.2.2.2.2.2.2.2.2.2.2.2.2.2.2.2.2.2.1
  have c22 : w8.frozen? ⟨w.heap.size + 1, 4, none⟩ = false := h8.2.2.2.2.2.2.2.2.2.2.2.2.2.2.2.2.2.2.2.2.2.2.1
  have c23 : w8.frozen? ⟨w.heap.size + 1, 5, none⟩ = false := h8.2.2.2.2.2.2.2.2.2.2.2.2.2.2.2.2.2.2.2.2.2.2.2.1
  have c24 : w8.frozen? ⟨w.heap.size + 1 + 1, 0, none⟩ = false := h8.2.2.2.2.2.2.2.2.2.2.2.2.2.2.2.2.2.2.2.2.2.2.2.2.1
  have c25 : w8.frozen? ⟨w.heap.size + 1 + 1, 1, none⟩ = false := h8.2.2.2.2.2.2.2.2.2.2.2.2.2.2.2.2.2.2.2.2.2.2.2.2.2.1
  have c26 : w8.frozen? ⟨w.heap.size + 1 + 1, 2, none⟩ = false := h8.2.2.2.2.2.2.2.2.2.2.2.2.2.2.2.2.2.2.2.2.2.2.2.2.2.2.1
  have c27 : w8.frozen? ⟨w.heap.size + 1 + 1, 3, none⟩ = false := h8.2.2.2.2.2.2.2.2.2.2.2.2.2.2.2.2.2.2.2.2.2.2.2.2.2.2.2.1
  have c28 : w8.frozen? ⟨w.heap.size + 1 + 1, 4, none⟩ = false := h8.2.2.2.2.2.2.2.2.2.2.2.2.2.2.2.2.2.2.2.2.2.2.2.2.2.2.2.2.1
  have c29 : w8.frozen? ⟨w.heap.size + 1 + 1, 5, none⟩ = false := h8.2.2.2.2.2.2.2.2.2.2.2.2.2.2.2.2.2.2.2.2.2.2.2.2.2.2.2.2.2.1
  have c30 : w8.cell? ⟨w.heap.size + 1 + 1 + 1, 0, none⟩ = some (.int .i64 i) := h8.2.2.2.2.2.2.2.2.2.2.2.2.2.2.2.2.2.2.2.2.2.2.2.2.2.2.2.2.2.2.1
  have c31 : w8.cell? ⟨w.heap.size + 1 + 1 + 1, 1, none⟩ = some (.int .i64 c) := h8.2.2.2.2.2.2.2.2.2.2.2.2.2.2.2.2.2.2.2.2.2.2.2.2.2.2.2.2.2.2.2.1
  have c32 : w8.cell? ⟨w6.heap.size, 0, none⟩ = some (.int .i64 x) := h8.2.2.2.2.2.2.2.2.2.2.2.2.2.2.2.2.2.2.2.2.2.2.2.2.2.2.2.2.2.2.2.2.1
  have c33 : w8.cell? ⟨w6.heap.size, 1, none⟩ = some (.int .i64 y) := h8.2.2.2.2.2.2.2.2.2.2.2.2.2.2.2.2.2.2.2.2.2.2.2.2.2.2.2.2.2.2.2.2.2.1
  have c34 : Below w.heap.size w w8 := h8.2.2.2.2.2.2.2.2.2.2.2.2.2.2.2.2.2.2.2.2.2.2.2.2.2.2.2.2.2.2.2.2.2.2
  have d0 : ((((((w8.setCell ⟨w.heap.size + 1, 0, none⟩ (.int .i64 l)).setCell ⟨w.heap.size + 1, 1, none⟩ (.int .i64 h)).setCell ⟨w.heap.size + 1, 2, none⟩ (.bool true)).setCell ⟨w.heap.size + 1, 3, none⟩ (.int .i64 0)).setCell ⟨w.heap.size + 1, 4, none⟩ (.int .i64 (i : Int))).setCell ⟨w.heap.size + 1, 5, none⟩ (.int .i64 (min (od + 1) 1000000000))).cell? ⟨w.heap.size, 0, none⟩ = some (.int .i64 s) := h9.1
  have d1 : ((((((w8.setCell ⟨w.heap.size + 1, 0, none⟩ (.int .i64 l)).setCell ⟨w.heap.size + 1, 1, none⟩ (.int .i64 h)).setCell ⟨w.heap.size + 1, 2, none⟩ (.bool true)).setCell ⟨w.heap.size + 1, 3, none⟩ (.int .i64 0)).setCell ⟨w.heap.size + 1, 4, none⟩ (.int .i64 (i : Int))).setCell ⟨w.heap.size + 1, 5, none⟩ (.int .i64 (min (od + 1) 1000000000))).cell? ⟨w.heap.size, 1, none⟩ = some (.int .i64 j) := h9.2.1
  have d2 : ((((((w8.setCell ⟨w.heap.size + 1, 0, none⟩ (.int .i64 l)).setCell ⟨w.heap.size + 1, 1, none⟩ (.int .i64 h)).setCell ⟨w.heap.size + 1, 2, none⟩ (.bool true)).setCell ⟨w.heap.size + 1, 3, none⟩ (.int .i64 0)).setCell ⟨w.heap.size + 1, 4, none⟩ (.int .i64 (i : Int))).setCell ⟨w.heap.size + 1, 5, none⟩ (.int .i64 (min (od + 1) 1000000000))).cell? ⟨w.heap.size, 2, none⟩ = some (.int .i64 m) := h9.2.2.1
  have d3 : ((((((w8.setCell ⟨w.heap.size + 1, 0, none⟩ (.int .i64 l)).setCell ⟨w.heap.size + 1, 1, none⟩ (.int .i64 h)).setCell ⟨w.heap.size + 1, 2, none⟩ (.bool true)).setCell ⟨w.heap.size + 1, 3, none⟩ (.int .i64 0)).setCell ⟨w.heap.size + 1, 4, none⟩ (.int .i64 (i : Int))).setCell ⟨w.heap.size + 1, 5, none⟩ (.int .i64 (min (od + 1) 1000000000))).cell? ⟨w.heap.size, 3, none⟩ = some (.int .i64 g) := h9.2.2.2.1
  have d4 : ((((((w8.setCell ⟨w.heap.size + 1, 0, none⟩ (.int .i64 l)).setCell ⟨w.heap.size + 1, 1, none⟩ (.int .i64 h)).setCell ⟨w.heap.size + 1, 2, none⟩ (.bool true)).setCell ⟨w.heap.size + 1, 3, none⟩ (.int .i64 0)).setCell ⟨w.heap.size + 1, 4, none⟩ (.int .i64 (i : Int))).setCell ⟨w.heap.size + 1, 5, none⟩ (.int .i64 (min (od + 1) 1000000000))).cell? ⟨w.heap.size, 4, none⟩ = some (.int .i64 o) := h9.2.2.2.2.1
  have d5 : ((((((w8.setCell ⟨w.heap.size + 1, 0, none⟩ (.int .i64 l)).setCell ⟨w.heap.size + 1, 1, none⟩ (.int .i64 h)).setCell ⟨w.heap.size + 1, 2, none⟩ (.bool true)).setCell ⟨w.heap.size + 1, 3, none⟩ (.int .i64 0)).setCell ⟨w.heap.size + 1, 4, none⟩ (.int .i64 (i : Int))).setCell ⟨w.heap.size + 1, 5, none⟩ (.int .i64 (min (od + 1) 1000000000))).cell? ⟨w.heap.size, 5, none⟩ = some (.map (some q)) := h9.2.2.2.2.2.1
  have d6 : ((((((w8.setCell ⟨w.heap.size + 1, 0, none⟩ (.int .i64 l)).setCell ⟨w.heap.size + 1, 1, none⟩ (.int .i64 h)).setCell ⟨w.heap.size + 1, 2, none⟩ (.bool true)).setCell ⟨w.heap.size + 1, 3, none⟩ (.int .i64 0)).setCell ⟨w.heap.size + 1, 4, none⟩ (.int .i64 (i : Int))).setCell ⟨w.heap.size + 1, 5, none⟩ (.int .i64 (min (od + 1) 1000000000))).cell? ⟨w.heap.size + 1, 0, none⟩ = some (.int .i64 l) := h9.2.2.2.2.2.2.1
  have d7 : ((((((w8.setCell ⟨w.heap.size + 1, 0, none⟩ (.int .i64 l)).setCell ⟨w.heap.size + 1, 1, none⟩ (.int .i64 h)).setCell ⟨w.heap.size + 1, 2, none⟩ (.bool true)).setCell ⟨w.heap.size + 1, 3, none⟩ (.int .i64 0)).setCell ⟨w.heap.size + 1, 4, none⟩ (.int .i64 (i : Int))).setCell ⟨w.heap.size + 1, 5, none⟩ (.int .i64 (min (od + 1) 1000000000))).cell? ⟨w.heap.size + 1, 1, none⟩ = some (.int .i64 h) := h9.2.2.2.2.2.2.2.1
  have d8 : ((((((w8.setCell ⟨w.heap.size + 1, 0, none⟩ (.int .i64 l)).setCell ⟨w.heap.size + 1, 1, none⟩ (.int .i64 h)).setCell ⟨w.heap.size + 1, 2, none⟩ (.bool true)).setCell ⟨w.heap.size + 1, 3, none⟩ (.int .i64 0)).setCell ⟨w.heap.size + 1, 4, none⟩ (.int .i64 (i : Int))).setCell ⟨w.heap.size + 1, 5, none⟩ (.int .i64 (min (od + 1) 1000000000))).cell? ⟨w.heap.size + 1, 2, none⟩ = some (.bool true) := h9.2.2.2.2.2.2.2.2.1
  have d9 : ((((((w8.setCell ⟨w.heap.size + 1, 0, none⟩ (.int .i64 l)).setCell ⟨w.heap.size + 1, 1, none⟩ (.int .i64 h)).setCell ⟨w.heap.size + 1, 2, none⟩ (.bool true)).setCell ⟨w.heap.size + 1, 3, none⟩ (.int .i64 0)).setCell ⟨w.heap.size + 1, 4, none⟩ (.int .i64 (i : Int))).setCell ⟨w.heap.size + 1, 5, none⟩ (.int .i64 (min (od + 1) 1000000000))).cell? ⟨w.heap.size + 1, 3, none⟩ = some (.int .i64 0) := h9.2.2.2.2.2.2.2.2.2.1
  have d10 : ((((((w8.setCell ⟨w.heap.size + 1, 0, none⟩ (.int .i64 l)).setCell ⟨w.heap.size + 1, 1, none⟩ (.int .i64 h)).setCell ⟨w.heap.size + 1, 2, none⟩ (.bool true)).setCell ⟨w.heap.size + 1, 3, none⟩ (.int .i64 0)).setCell ⟨w.heap.size + 1, 4, none⟩ (.int .i64 (i : Int))).setCell ⟨w.heap.size + 1, 5, none⟩ (.int .i64 (min (od + 1) 1000000000))).cell? ⟨w.heap.size + 1, 4, none⟩ = some (.int .i64 i) := h9.2.2.2.2.2.2.2.2.2.2.1
  have d11 : ((((((w8.setCell ⟨w.heap.size + 1, 0, none⟩ (.int .i64 l)).setCell ⟨w.heap.size + 1, 1, none⟩ (.int .i64 h)).setCell ⟨w.heap.size + 1, 2, none⟩ (.bool true)).setCell ⟨w.heap.size + 1, 3, none⟩ (.int .i64 0)).setCell ⟨w.heap.size + 1, 4, none⟩ (.int .i64 (i : Int))).setCell ⟨w.heap.size + 1, 5, none⟩ (.int .i64 (min (od + 1) 1000000000))).cell? ⟨w.heap.size + 1, 5, none⟩ = some (.int .i64 (min (od + 1) 1000000000)) := h9.2.2.2.2.2.2.2.2.2.2.2.1
  have d12 : ((((((w8.setCell ⟨w.heap.size + 1, 0, none⟩ (.int .i64 l)).setCell ⟨w.heap.size + 1, 1, none⟩ (.int .i64 h)).setCell ⟨w.heap.size + 1, 2, none⟩ (.bool true)).setCell ⟨w.heap.size + 1, 3, none⟩ (.int .i64 0)).setCell ⟨w.heap.size + 1, 4, none⟩ (.int .i64 (i : Int))).setCell ⟨w.heap.size + 1, 5, none⟩ (.int .i64 (min (od + 1) 1000000000))).cell? ⟨w.heap.size + 1 + 1, 0, none⟩ = some (.int .i64 0) := h9.2.2.2.2.2.2.2.2.2.2.2.2.1
  have d13 : ((((((w8.setCell ⟨w.heap.size + 1, 0, none⟩ (.int .i64 l)).setCell ⟨w.heap.size + 1, 1, none⟩ (.int .i64 h)).setCell ⟨w.heap.size + 1, 2, none⟩ (.bool true)).setCell ⟨w.heap.size + 1, 3, none⟩ (.int .i64 0)).setCell ⟨w.heap.size + 1, 4, none⟩ (.int .i64 (i : Int))).setCell ⟨w.heap.size + 1, 5, none⟩ (.int .i64 (min (od + 1) 1000000000))).cell? ⟨w.heap.size + 1 + 1, 1, none⟩ = some (.int .i64 0) := h9.2.2.2.2.2.2.2.2.2.2.2.2.2.1
  have d14 : ((((((w8.setCell ⟨w.heap.size + 1, 0, none⟩ (.int .i64 l)).setCell ⟨w.heap.size + 1, 1, none⟩ (.int .i64 h)).setCell ⟨w.heap.size + 1, 2, none⟩ (.bool true)).setCell ⟨w.heap.size + 1, 3, none⟩ (.int .i64 0)).setCell ⟨w.heap.size + 1, 4, none⟩ (.int .i64 (i : Int))).setCell ⟨w.heap.size + 1, 5, none⟩ (.int .i64 (min (od + 1) 1000000000))).cell? ⟨w.heap.size + 1 + 1, 2, none⟩ = some (.bool false) := h9.2.2.2.2.2.2.2.2.2.2.2.2.2.2.1
  have d15 : ((((((w8.setCell ⟨w.heap.size + 1, 0, none⟩ (.int .i64 l)).setCell ⟨w.heap.size + 1, 1, none⟩ (.int .i64 h)).setCell ⟨w.heap.size + 1, 2, none⟩ (.bool true)).setCell ⟨w.heap.size + 1, 3, none⟩ (.int .i64 0)).setCell ⟨w.heap.size + 1, 4, none⟩ (.int .i64 (i : Int))).setCell ⟨w.heap.size + 1, 5, none⟩ (.int .i64 (min (od + 1) 1000000000))).cell? ⟨w.heap.size + 1 + 1, 3, none⟩ = some (.int .i64 0) := h9.2.2.2.2.2.2.2.2.2.2.2.2.2.2.2.1
  have d16 : ((((((w8.setCell ⟨w.heap.size + 1, 0, none⟩ (.int .i64 l)).setCell ⟨w.heap.size + 1, 1, none⟩ (.int .i64 h)).setCell ⟨w.heap.size + 1, 2, none⟩ (.bool true)).setCell ⟨w.heap.size + 1, 3, none⟩ (.int .i64 0)).setCell ⟨w.heap.size + 1, 4, none⟩ (.int .i64 (i : Int))).setCell ⟨w.heap.size + 1, 5, none⟩ (.int .i64 (min (od + 1) 1000000000))).cell? ⟨w.heap.size + 1 + 1, 4, none⟩ = some (.int .i64 0) := h9.2.2.2.2.2.2.2.2.2.2.2.2.2.2.2.2.1
  have d17 : ((((((w8.setCell ⟨w.heap.size + 1, 0, none⟩ (.int .i64 l)).setCell ⟨w.heap.size + 1, 1, none⟩ (.int .i64 h)).setCell ⟨w.heap.size + 1, 2, none⟩ (.bool true)).setCell ⟨w.heap.size + 1, 3, none⟩ (.int .i64 0)).setCell ⟨w.heap.size + 1, 4, none⟩ (.int .i64 (i : Int))).setCell ⟨w.heap.size + 1, 5, none⟩ (.int .i64 (min (od + 1) 1000000000))).cell? ⟨w.heap.size + 1 + 1, 5, none⟩ = some (.int .i64 0) := h9.2.2.2.2.2.2.2.2.2.2.2.2.2.2.2.2.2.1
  have d18 : ((((((w8.setCell ⟨w.heap.size + 1, 0, none⟩ (.int .i64 l)).setCell ⟨w.heap.size + 1, 1, none⟩ (.int .i64 h)).setCell ⟨w.heap.size + 1, 2, none⟩ (.bool true)).setCell ⟨w.heap.size + 1, 3, none⟩ (.int .i64 0)).setCell ⟨w.heap.size + 1, 4, none⟩ (.int .i64 (i : Int))).setCell ⟨w.heap.size + 1, 5, none⟩ (.int .i64 (min (od + 1) 1000000000))).frozen? ⟨w.heap.size + 1, 0, none⟩ = false := h9.2.2.2.2.2.2.2.2.2.2.2.2.2.2.2.2.2.2.1
  have d19 : ((((((w8.setCell ⟨w.heap.size + 1, 0, none⟩ (.int .i64 l)).setCell ⟨w.heap.size + 1, 1, none⟩ (.int .i64 h)).setCell ⟨w.heap.size + 1, 2, none⟩ (.bool true)).setCell ⟨w.heap.size + 1, 3, none⟩ (.int .i64 0)).setCell ⟨w.heap.size + 1, 4, none⟩ (.int .i64 (i : Int))).setCell ⟨w.heap.size + 1, 5, none⟩ (.int .i64 (min (od + 1) 1000000000))).frozen? ⟨w.heap.size + 1, 1, none⟩ = false := h9.2.2.2.2.2.2.2.2.2.2.2.2.2.2.2.2.2.2.2.1
  have d20 : ((((((w8.setCell ⟨w.heap.size + 1, 0, none⟩ (.int .i64 l)).setCell ⟨w.heap.size + 1, 1, none⟩ (.int .i64 h)).setCell ⟨w.heap.size + 1, 2, none⟩ (.bool true)).setCell ⟨w.heap.size + 1, 3, none⟩ (.int .i64 0)).setCell ⟨w.heap.size + 1, 4, none⟩ (.int .i64 (i : Int))).setCell ⟨w.heap.size + 1, 5, none⟩ (.int .i64 (min (od + 1) 1000000000))).frozen? ⟨w.heap.size + 1, 2, none⟩ = false := h9.2.2.2.2.2.2.2.2.2.2.2.2.2.2.2.2.2.2.2.2.1
  have d21 : ((((((w8.setCell ⟨w.heap.size + 1, 0, none⟩ (.int .i64 l)).setCell ⟨w.heap.size + 1, 1, none⟩ (.int .i64 h)).setCell ⟨w.heap.size + 1, 2, none⟩ (.bool true)).setCell ⟨w.heap.size + 1, 3, none⟩ (.int .i64 0)).setCell ⟨w.heap.size + 1, 4, none⟩ (.int .i64 (i : Int))).setCell ⟨w.heap.size + 1, 5, none⟩ (.int .i64 (min (od + 1) 1000000000))).frozen? ⟨w.heap.size + 1, 3, none⟩ = false := h9.2.2.2.2.2.2.2.2.2.2.2.2.2.2.2.2.2.2.2.2.2.1
  have d22 : ((((((w8.setCell ⟨w.heap.size + 1, 0, none⟩ (.int .i64 l)).setCell ⟨w.heap.size + 1, 1, none⟩ (.int .i64 h)).setCell ⟨w.heap.size + 1, 2, none⟩ (.bool true)).setCell ⟨w.heap.size + 1, 3, none⟩ (.int .i64 0)).setCell ⟨w.heap.size + 1, 4, none⟩ (.int .i64 (i : Int))).setCell ⟨w.heap.size + 1, 5, none⟩ (.int .i64 (min (od + 1) 1000000000))).frozen? ⟨w.heap.size + 1, 4, none⟩ = false := h9.2.2.2.2.2.2.2.2.2.2.2.2.2.2.2.2.2.2.2.2.2.2.1
  have d23 : ((((((w8.setCell ⟨w.heap.size + 1, 0, none⟩ (.int .i64 l)).setCell ⟨w.heap.size + 1, 1, none⟩ (.int .i64 h)).setCell ⟨w.heap.size + 1, 2, none⟩ (.bool true)).setCell ⟨w.heap.size + 1, 3, none⟩ (.int .i64 0)).setCell ⟨w.heap.size + 1, 4, none⟩ (.int .i64 (i : Int))).setCell ⟨w.heap.size + 1, 5, none⟩ (.int .i64 (min (od + 1) 1000000000))).frozen? ⟨w.heap.size + 1, 5, none⟩ = false := h9.2.2.2.2.2.2.2.2.2.2.2.2.2.2.2.2.2.2.2.2.2.2.2.1
  have d24 : ((((((w8.setCell ⟨w.heap.size + 1, 0, none⟩ (.int .i64 l)).setCell ⟨w.heap.size + 1, 1, none⟩ (.int .i64 h)).setCell ⟨w.heap.size + 1, 2, none⟩ (.bool true)).setCell ⟨w.heap.size + 1, 3, none⟩ (.int .i64 0)).setCell ⟨w.heap.size + 1, 4, none⟩ (.int .i64 (i : Int))).setCell ⟨w.heap.size + 1, 5, none⟩ (.int .i64 (min (od + 1) 1000000000))).frozen? ⟨w.heap.size + 1 + 1, 0, none⟩ = false := h9.2.2.2.2.2.2.2.2.2.2.2.2.2.2.2.2.2.2.2.2.2.2.2.2.1
  have d25 : ((((((w8.setCell ⟨w.heap.size + 1, 0, none⟩ (.int .i64 l)).setCell ⟨w.heap.size + 1, 1, none⟩ (.int .i64 h)).setCell ⟨w.heap.size + 1, 2, none⟩ (.bool true)).setCell ⟨w.heap.size + 1, 3, none⟩ (.int .i64 0)).setCell ⟨w.heap.size + 1, 4, none⟩ (.int .i64 (i : Int))).setCell ⟨w.heap.size + 1, 5, none⟩ (.int .i64 (min (od + 1) 1000000000))).frozen? ⟨w.heap.size + 1 + 1, 1, none⟩ = false := h9.2.2.2.2.2.2.2.2.2.2.2.2.2.2.2.2.2.2.2.2.2.2.2.2.2.1
  have d26 : ((((((w8.setCell ⟨w.heap.size + 1, 0, none⟩ (.int .i64 l)).setCell ⟨w.heap.size + 1, 1, none⟩ (.int .i64 h)).setCell ⟨w.heap.size + 1, 2, none⟩ (.bool true)).setCell ⟨w.heap.size + 1, 3, none⟩ (.int .i64 0)).setCell ⟨w.heap.size + 1, 4, none⟩ (.int .i64 (i : Int))).setCell ⟨w.heap.size + 1, 5, none⟩ (.int .i64 (min (od + 1) 1000000000))).frozen? ⟨w.heap.size + 1 + 1, 2, none⟩ = false := h9.2.2.2.2.2.2.2.2.2.2.2.2.2.2.2.2.2.2.2.2.2.2.2.2.2.2.1
  have d27 : ((((((w8.setCell ⟨w.heap.size + 1, 0, none⟩ (.int .i64 l)).setCell ⟨w.heap.size + 1, 1, none⟩ (.int .i64 h)).setCell ⟨w.heap.size + 1, 2, none⟩ (.bool true)).setCell ⟨w.heap.size + 1, 3, none⟩ (.int .i64 0)).setCell ⟨w.heap.size + 1, 4, none⟩ (.int .i64 (i : Int))).setCell ⟨w.heap.size + 1, 5, none⟩ (.int .i64 (min (od + 1) 1000000000))).frozen? ⟨w.heap.size + 1 + 1, 3, none⟩ = false := h9.2.2.2.2.2.2.2.2.2.2.2.2.2.2.2.2.2.2.2.2.2.2.2.2.2.2.2.1
  have d28 : ((((((w8.setCell ⟨w.heap.size + 1, 0, none⟩ (.int .i64 l)).setCell ⟨w.heap.size + 1, 1, none⟩ (.int .i64 h)).setCell ⟨w.heap.size + 1, 2, none⟩ (.bool true)).setCell ⟨w.heap.size + 1, 3, none⟩ (.int .i64 0)).setCell ⟨w.heap.size + 1, 4, none⟩ (.int .i64 (i : Int))).setCell ⟨w.heap.size + 1, 5, none⟩ (.int .i64 (min (od + 1) 1000000000))).frozen? ⟨w.heap.size + 1 + 1, 4, none⟩ = false := h9.2.2.2.2.2.2.2.2.2.2.2.2.2.2.2.2.2.2.2.2.2.2.2.2.2.2.2.2.1
  have d29 : ((((((w8.setCell ⟨w.heap.size + 1, 0, none⟩ (.int .i64 l)).setCell ⟨w.heap.size + 1, 1, none⟩ (.int .i64 h)).setCell ⟨w.heap.size + 1, 2, none⟩ (.bool true)).setCell ⟨w.heap.size + 1, 3, none⟩ (.int .i64 0)).setCell ⟨w.heap.size + 1, 4, none⟩ (.int .i64 (i : Int))).setCell ⟨w.heap.size + 1, 5, none⟩ (.int .i64 (min (od + 1) 1000000000))).frozen? ⟨w.heap.size + 1 + 1, 5, none⟩ = false := h9.2.2.2.2.2.2.2.2.2.2.2.2.2.2.2.2.2.2.2.2.2.2.2.2.2.2.2.2.2.1
  have d30 : ((((((w8.setCell ⟨w.heap.size + 1, 0, none⟩ (.int .i64 l)).setCell ⟨w.heap.size + 1, 1, none⟩ (.int .i64 h)).setCell ⟨w.heap.size + 1, 2, none⟩ (.bool true)).setCell ⟨w.heap.size + 1, 3, none⟩ (.int .i64 0)).setCell ⟨w.heap.size + 1, 4, none⟩ (.int .i64 (i : Int))).setCell ⟨w.heap.size + 1, 5, none⟩ (.int .i64 (min (od + 1) 1000000000))).cell? ⟨w.heap.size + 1 + 1 + 1, 0, none⟩ = some (.int .i64 i) := h9.2.2.2.2.2.2.2.2.2.2.2.2.2.2.2.2.2.2.2.2.2.2.2.2.2.2.2.2.2.2.1
  have d31 : ((((((w8.setCell ⟨w.heap.size + 1, 0, none⟩ (.int .i64 l)).setCell ⟨w.heap.size + 1, 1, none⟩ (.int .i64 h)).setCell ⟨w.heap.size + 1, 2, none⟩ (.bool true)).setCell ⟨w.heap.size + 1, 3, none⟩ (.int .i64 0)).setCell ⟨w.heap.size + 1, 4, none⟩ (.int .i64 (i : Int))).setCell ⟨w.heap.size + 1, 5, none⟩ (.int .i64 (min (od + 1) 1000000000))).cell? ⟨w.heap.size + 1 + 1 + 1, 1, none⟩ = some (.int .i64 c) := h9.2.2.2.2.2.2.2.2.2.2.2.2.2.2.2.2.2.2.2.2.2.2.2.2.2.2.2.2.2.2.2.1
  have d32 : ((((((w8.setCell ⟨w.heap.size + 1, 0, none⟩ (.int .i64 l)).setCell ⟨w.heap.size + 1, 1, none⟩ (.int .i64 h)).setCell ⟨w.heap.size + 1, 2, none⟩ (.bool true)).setCell ⟨w.heap.size + 1, 3, none⟩ (.int .i64 0)).setCell ⟨w.heap.size + 1, 4, none⟩ (.int .i64 (i : Int))).setCell ⟨w.heap.size + 1, 5, none⟩ (.int .i64 (min (od + 1) 1000000000))).cell? ⟨w6.heap.size, 0, none⟩ = some (.int .i64 x) := h9.2.2.2.2.2.2.2.2.2.2.2.2.2.2.2.2.2.2.2.2.2.2.2.2.2.2.2.2.2.2.2.2.1
  have d33 : ((((((w8.setCell ⟨w.heap.size + 1, 0, none⟩ (.int .i64 l)).setCell ⟨w.heap.size + 1, 1, none⟩ (.int .i64 h)).setCell ⟨w.heap.size + 1, 2, none⟩ (.bool true)).setCell ⟨w.heap.size + 1, 3, none⟩ (.int .i64 0)).setCell ⟨w.heap.size + 1, 4, none⟩ (.int .i64 (i : Int))).setCell ⟨w.heap.size + 1, 5, none⟩ (.int .i64 (min (od + 1) 1000000000))).cell? ⟨w6.heap.size, 1, none⟩ = some (.int .i64 y) := h9.2.2.2.2.2.2.2.2.2.2.2.2.2.2.2.2.2.2.2.2.2.2.2.2.2.2.2.2.2.2.2.2.2.1
  have d34 : Below w.heap.size w ((((((w8.setCell ⟨w.heap.size + 1, 0, none⟩ (.int .i64 l)).setCell ⟨w.heap.size + 1, 1, none⟩ (.int .i64 h)).setCell ⟨w.heap.size + 1, 2, none⟩ (.bool true)).setCell ⟨w.heap.size + 1, 3, none⟩ (.int .i64 0)).setCell ⟨w.heap.size + 1, 4, none⟩ (.int .i64 (i : Int))).setCell ⟨w.heap.size + 1, 5, none⟩ (.int .i64 (min (od + 1) 1000000000))) := h9.2.2.2.2.2.2.2.2.2.2.2.2.2.2.2.2.2.2.2.2.2.2.2.2.2.2.2.2.2.2.2.2.2.2
  go_wp2_with fail
  clear h8 c0 c1 c2 c3 c4 c5 c6 c7 c8 c9 c10 c11 c12 c13 c14 c15 c16 c17 c18 c19 c20 c21 c22 c23 c24 c25 c26 c27 c28 c29 c30 c31 c32 c33 c34
  generalize ((((((w8.setCell ⟨w.heap.size + 1, 0, none⟩ (.int .i64 l)).setCell ⟨w.heap.size + 1, 1, none⟩ (.int .i64 h)).setCell ⟨w.heap.size + 1, 2, none⟩ (.bool true)).setCell ⟨w.heap.size + 1, 3, none⟩ (.int .i64 0)).setCell ⟨w.heap.size + 1, 4, none⟩ (.int .i64 (i : Int))).setCell ⟨w.heap.size + 1, 5, none⟩ (.int .i64 (min (od + 1) 1000000000))) = w9 at *
  refine (implRead_no _ _ _ _ _ _ _ _ x y _ hr hbk hc0 hx hy hmt).mono ?_
  rintro e w10 ⟨rfl, hb10⟩
  have h10 := aoC_on h9 hb10
  clear h9 d0 d1 d2 d3 d4 d5 d6 d7 d8 d9 d10 d11 d12 d13 d14 d15 d16 d17 d18 d19 d20 d21 d22 d23 d24 d25 d26 d27 d28 d29 d30 d31 d32 d33 d34
  have c0 : w10.cell? ⟨w.heap.size, 0, none⟩ = some (.int .i64 s) := h10.1
  have c1 : w10.cell? ⟨w.heap.size, 1, none⟩ = some (.int .i64 j) := h10.2.1
  have c2 : w10.cell? ⟨w.heap.size, 2, none⟩ = some (.int .i64 m) := h10.2.2.1
  have c3 : w10.cell? ⟨w.heap.size, 3, none⟩ = some (.int .i64 g) := h10.2.2.2.1
  have c4 : w10.cell? ⟨w.heap.size, 4, none⟩ = some (.int .i64 o) := h10.2.2.2.2.1
  have c5 : w10.cell? ⟨w.heap.size, 5, none⟩ = some (.map (some q)) := h10.2.2.2.2.2.1
  have c6 : w10.cell? ⟨w.heap.size + 1, 0, none⟩ = some (.int .i64 l) := h10.2.2.2.2.2.2.1
  have c7 : w10.cell? ⟨w.heap.size + 1, 1, none⟩ = some (.int .i64 h) := h10.2.2.2.2.2.2.2.1
  have c8 : w10.cell? ⟨w.heap.size + 1, 2, none⟩ = some (.bool true) := h10.2.2.2.2.2.2.2.2.1
  have c9 : w10.cell? ⟨w.heap.size + 1, 3, none⟩ = some (.int .i64 0) := h10.2.2.2.2.2.2.2.2.2.1
  have c10 : w10.cell? ⟨w.heap.size + 1, 4, none⟩ = some (.int .i64 i) := h10.2.2.2.2.2.2.2.2.2.2.1
  have c11 : w10.cell? ⟨w.heap.size + 1, 5, none⟩ = some (.int .i64 (min (od + 1) 1000000000)) := h10.2.2.2.2.2.2.2.2.2.2.2.1
  have c12 : w10.cell? ⟨w.heap.size + 1 + 1, 0, none⟩ = some (.int .i64 0) := h10.2.2.2.2.2.2.2.2.2.2.2.2.1
  have c13 : w10.cell? ⟨w.heap.size + 1 + 1, 1, none⟩ = some (.int .i64 0) := h10.2.2.2.2.2.2.2.2.2.2.2.2.2.1
  have c14 : w10.cell? ⟨w.heap.size + 1 + 1, 2, none⟩ = some (.bool false) := h10.2.2.2.2.2.2.2.2.2.2.2.2.2.2.1
  have c15 : w10.cell? ⟨w.heap.size + 1 + 1, 3, none⟩ = some (.int .i64 0) := h10.2.2.2.2.2.2.2.2.2.2.2.2.2.2.2.1
  have c16 : w10.cell? ⟨w.heap.size + 1 + 1, 4, none⟩ = some (.int .i64 0) := h10.2.2.2.2.2.2.2.2.2.2.2.2.2.2.2.2.1
  have c17 : w10.cell? ⟨w.heap.size + 1 + 1, 5, none⟩ = some (.int .i64 0) := h10.2.2.2.2.2.2.2.2.2.2.2.2.2.2.2.2.2.1
  have c18 : w10.frozen? ⟨w.heap.size + 1, 0, none⟩ = false := h10.2.2.2.2.2.2.2.2.2.2.2.2.2.2.2.2.2.2.1
  have c19 : w10.frozen? ⟨w.heap.size + 1, 1, none⟩ = false := h10.2.2.2.2.2.2.2.2.2.2.2.2.2.2.2.2.2.2.2.1
  have c20 : w10.frozen? ⟨w.heap.size + 1, 2, none⟩ = false := h10.2.2.2.2.2.2.2.2.2.2.2.2.2.2.2.2.2.2.2.2.1
  have c21 : w10.frozen? ⟨w.heap.size + 1, 3, none⟩ = false := h10.2.2.2.2.2.2.2.2.2.2.2.2.2.2.2.2.2.2.2.2.2.1
  have c22 : w10.frozen? ⟨w.heap.size + 1, 4, none⟩ = false := h10.2.2.2.2.2.2.2.2.2.2.2.2.2.2.2.2.2.2.2.2.2.2.1
  have c23 : w10.frozen? ⟨w.heap.size + 1, 5, none⟩ = false := h10.2.2.2.2.2.2.2.2.2.2.2.2.2.2.2.2.2.2.2.2.2.2.2.1
  have c24 : w10.frozen? ⟨w.heap.size + 1 + 1, 0, none⟩ = false := h10.2.2.2.2.2.2.2.2.2.2.2.2.2.2.2.2.2.2.2.2.2.2.2.2.1
  have c25 : w10.frozen? ⟨w.heap.size + 1 + 1, 1, none⟩ = false := h10.2.2.2.2.2.2.2.2.2.2.2.2.2.2.2.2.2.2.2.2.2.2.2.2.2.1
  have c26 : w10.frozen? ⟨w.heap.size + 1 + 1, 2, none⟩ = false := h10.2.2.2.2.2.2.2.2.2.2.2.2.2.2.2.2.2.2.2.2.2.2.2.2.2.2.1
  have c27 : w10.frozen? ⟨w.heap.size + 1 + 1, 3, none⟩ = false := h10.2.2.2.2.2.2.2.2.2.2.2.2.2.2.2.2.2.2.2.2.2.2.2.2.2.2.2.1
  have c28 : w10.frozen? ⟨w.heap.size + 1 + 1, 4, none⟩ = false := h10.2.2.2.2.2.2.2.2.2.2.2.2.2.2.2.2.2.2.2.2.2.2.2.2.2.2.2.2.1
  have c29 : w10.frozen? ⟨w.heap.size + 1 + 1, 5, none⟩ = false := h10.2.2.2.2.2.2.2.2.2.2.2.2.2.2.2.2.2.2.2.2.2.2.2.2.2.2.2.2.2.1
  have c30 : w10.cell? ⟨w.heap.size + 1 + 1 + 1, 0, none⟩ = some (.int .i64 i) := h10.2.2.2.2.2.2.2.2.2.2.2.2.2.2.2.2.2.2.2.2.2.2.2.2.2.2.2.2.2.2.1
  have c31 : w10.cell? ⟨w.heap.size + 1 + 1 + 1, 1, none⟩ = some (.int .i64 c) := h10.2.2.2.2.2.2.2.2.2.2.2.2.2.2.2.2.2.2.2.2.2.2.2.2.2.2.2.2.2.2.2.1
  have c32 : w10.cell? ⟨w6.heap.size, 0, none⟩ = some (.int .i64 x) := h10.2.2.2.2.2.2.2.2.2.2.2.2.2.2.2.2.2.2.2.2.2.2.2.2.2.2.2.2.2.2.2.2.1
  have c33 : w10.cell? ⟨w6.heap.size, 1, none⟩ = some (.int .i64 y) := h10.2.2.2.2.2.2.2.2.2.2.2.2.2.2.2.2.2.2.2.2.2.2.2.2.2.2.2.2.2.2.2.2.2.1
  have c34 : Below w.heap.size w w10 := h10.2.2.2.2.2.2.2.2.2.2.2.2.2.2.2.2.2.2.2.2.2.2.2.2.2.2.2.2.2.2.2.2.2.2
  have hq1 : w.heap.size ≤ w.heap.size + 1 := by omega
  have hq2 : w.heap.size ≤ w.heap.size + 1 + 1 := by omega
  go_wp2_with fail
  exact bodyPost_ret (v := .agg #[.int .i64 (min l x), .int .i64 (max h y), .bool true, .int .i64 0, .int .i64 ((i : Int)), .int .i64 (min (od + 1) 1000000000)]) (by simp [results, Tryd.results81, go_sem, *]) rfl ⟨rfl, (nbSetX (nbSetX (nbSetX (nbSetX (nbSetX (nbSetX (nbSetX (nbSetX c34 hq1) hq1) hq2) hq2) hq2) hq2) hq2) hq2)⟩

end Go.Proofs.YtmhppadblddjoaaDoor

