import Derived.Test.YtmhppadblddjoacDoorOpen
import Derived.Test.YtmhppadblddjoacDoorMk
namespace Go.Proofs.YtmhppadblddjoacDoor
open Go.ChangeShapes Go.WideShapes Go.RowKit Go.Deep Go.Joins

theorem addAtB (b off i : Nat) : (⟨b, off, none⟩ : Addr).add i = ⟨b, off + i, none⟩ := by
  by_cases h : i = 0 <;> simp [Addr.add, h]

/-- The number in a cell. -/
def numAt (w : World) (a : Addr) : Int := match w.cell? a with | some (.int _ n) => n | _ => 0
theorem numAt_of {w : World} {a : Addr} {n : Int} (h : w.cell? a = some (.int .i64 n)) : w.cell? a = some (.int .i64 (numAt w a)) := by
  unfold numAt; rw [h]

section
variable {H : Type} {enc : TypeId × Value → H} {P : Program} {w : World} {base : Nat} {spare : Nat → Bool} {held : Bool}

/-- A slice of structs of two ints, as it came in. -/
theorem openRow2 {t e : TypeId} {f0 f1 : Field} {fuel : Nat} {a : Option Addr} {len cap : Nat} {x : DataW H × List MemPlace} (ht : P.underlying t = some (.slice e)) (hs : P.underlying e = some (.struct #[f0, f1])) (hone : oneCellFields P #[f0, f1] = true) (hC : P.cellsOf e = 2)
    (u0 : P.underlying f0.type = some (.int .i64)) (u1 : P.underlying f1.type = some (.int .i64))
    (h : DataW.trod enc P w base spare held fuel t [.slice a len cap] = some x) : len ≤ maxLen ∧ ∃ f g : Nat → Int, SRow w a len f g := by
  rcases DataW.trod_slice ht h with ⟨h0, -⟩ | ⟨ad, l, c, elems, rest, n, -, hcs, -, -, hl, hm, hlen, hel, -, -⟩
  · simp at h0
    obtain ⟨rfl, rfl, rfl⟩ := h0
    exact ⟨by unfold maxLen; omega, fun _ => 0, fun _ => 0, .inl rfl⟩
  · simp at hcs
    obtain ⟨rfl, rfl, rfl⟩ := hcs
    refine ⟨by omega, ?_⟩
    have key : ∀ i, i < len → ∃ x0 x1 : Int, w.cell? ((ad.add (i * 2)).add 0) = some (.int .i64 x0) ∧ w.cell? ((ad.add (i * 2)).add 1) = some (.int .i64 x1) := fun i hi => by
      have h1 := hel i hi
      rw [hC, List.getElem?_eq_getElem (by omega : i < elems.length), Option.bind_eq_some_iff] at h1
      obtain ⟨cs, hcs, hy⟩ := h1
      obtain ⟨-, hcl, hc⟩ := World.cells?_some hcs
      obtain ⟨y0, y1, m, -, -, k0, k1⟩ := trod_struct2 hs hy
      obtain ⟨o0, s0⟩ := hone_of hone 0 f0 rfl
      obtain ⟨o1, s1⟩ := hone_of hone 1 f1 rfl
      obtain ⟨n0, e0, -, -⟩ := DataW.trod_int u0 k0
      obtain ⟨n1, e1, -, -⟩ := DataW.trod_int u1 k1
      match cs, hcl with
      | [c0, c1], _ =>
        simp [o0, s0] at e0
        simp [o1, s1] at e1
        subst e0 e1
        exact ⟨n0, n1, hc 0 (by omega), hc 1 (by omega)⟩
    by_cases hz : len = 0
    · exact ⟨fun _ => 0, fun _ => 0, .inl hz⟩
    · obtain ⟨b, off, spot⟩ := ad
      obtain ⟨x0, x1, q0, -⟩ := key 0 (by omega)
      have hspot : spot = none := by simpa [Addr.add] using World.cell?_spot q0
      subst hspot
      refine ⟨fun i => numAt w ⟨b, off + i * 2, none⟩, fun i => numAt w ⟨b, off + i * 2 + 1, none⟩, .inr ⟨b, off, rfl, fun i hi => ?_⟩⟩
      obtain ⟨x0, x1, q0, q1⟩ := key i hi
      rw [addAtB, addAtB] at q0 q1
      exact ⟨numAt_of q0, numAt_of q1⟩

/-- A struct that holds a bool, a struct of two ints and three ints, by value. -/
theorem openS {r : Reach} {b0 : Nat} {t : TypeId} {f0 f1 f2 f3 f4 g0 g1 : Field} {v : Value} {d : DataW H} {p : List MemPlace} (hs : P.underlying t = some (.struct #[f0, f1, f2, f3, f4])) (hC : P.cellsOf t = 6)
    (u0 : P.underlying f0.type = some .bool) (u1 : P.underlying f1.type = some (.struct #[g0, g1])) (u2 : P.underlying f2.type = some (.int .i64)) (u3 : P.underlying f3.type = some (.int .i64)) (u4 : P.underlying f4.type = some (.int .i64))
    (v0 : P.underlying g0.type = some (.int .i64)) (v1 : P.underlying g1.type = some (.int .i64)) (hone : oneCellFields P #[g0, g1] = true)
    (hf : (f0.offset, P.cellsOf f0.type, f1.offset, P.cellsOf f1.type, f2.offset, P.cellsOf f2.type, f3.offset, P.cellsOf f3.type, f4.offset, P.cellsOf f4.type) = (0, 1, 1, 2, 3, 1, 4, 1, 5, 1))
    (hv : Value.okWide P w r b0 t v) (h : DataW.Trod enc P w base spare held t v d p) :
    ∃ (kn : Bool) (l h si la od : Int), v = .agg #[.bool kn, .int .i64 l, .int .i64 h, .int .i64 si, .int .i64 la, .int .i64 od] := by
  obtain ⟨cs, rfl, hsz⟩ := okWide_struct hs hv
  obtain ⟨c0, c1, c2, c3, c4, c5, rfl⟩ := array6 (hsz.trans hC)
  obtain ⟨fuel, hf'⟩ := h
  obtain ⟨xs, n, -, -, -, hlen, hk⟩ := DataW.trod_struct hs hf'
  obtain ⟨y0, y1, y2, y3, y4, rfl⟩ := list5 hlen
  simp only [Prod.mk.injEq] at hf
  obtain ⟨o0, s0, o1, s1, o2, s2, o3, s3, o4, s4⟩ := hf
  have h0 : _ = some y0 := hk 0 f0 rfl
  have h1 : _ = some y1 := hk 1 f1 rfl
  have h2 : _ = some y2 := hk 2 f2 rfl
  have h3 : _ = some y3 := hk 3 f3 rfl
  have h4 : _ = some y4 := hk 4 f4 rfl
  obtain ⟨b0, e0, -⟩ := DataW.trod_bool u0 h0
  obtain ⟨z0, z1, m, -, -, j0, j1⟩ := trod_struct2 u1 h1
  obtain ⟨q0, t0⟩ := hone_of hone 0 g0 rfl
  obtain ⟨q1, t1⟩ := hone_of hone 1 g1 rfl
  obtain ⟨a1, e1, -, -⟩ := DataW.trod_int v0 j0
  obtain ⟨a2, e2, -, -⟩ := DataW.trod_int v1 j1
  obtain ⟨a3, e3, -, -⟩ := DataW.trod_int u2 h2
  obtain ⟨a4, e4, -, -⟩ := DataW.trod_int u3 h3
  obtain ⟨a5, e5, -, -⟩ := DataW.trod_int u4 h4
  simp [Value.cells, o0, s0] at e0
  simp [Value.cells, o1, s1, q0, t0] at e1
  simp [Value.cells, o1, s1, q1, t1] at e2
  simp [Value.cells, o2, s2] at e3
  simp [Value.cells, o3, s3] at e4
  simp [Value.cells, o4, s4] at e5
  subst e0 e1 e2 e3 e4 e5
  exact ⟨b0, a1, a2, a3, a4, a5, rfl⟩
end

end Go.Proofs.YtmhppadblddjoacDoor
