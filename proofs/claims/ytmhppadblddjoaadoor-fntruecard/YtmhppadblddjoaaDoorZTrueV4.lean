import Derived.WalkKit
import Derived.LaidEql
import Derived.Stop.Asserts
import Derived.RowKitTokens
import Derived.Test.YtmhppadblddjoaaDoorZTrueW1
import Derived.Test.YtmhppadblddjoaaDoorZTrueW2
/- What the listed package variable holds, and that it is kept (a door seat: errors.As reads errors.errorType). -/
namespace Go.Proofs.YtmhppadblddjoaaDoor
open Go.RowKit

def Vars (w : World) : Prop := w.cell? ⟨0, 0, none⟩ = some (.iface 168 (.agg #[.pointer (some ⟨4, 86, none⟩)]))
theorem Vars.on {w w' : World} (h : Vars w) (hb : Below w.heap.size w w') : Vars w' := cellOn hb h

end Go.Proofs.YtmhppadblddjoaaDoor

/- Chapter 4 of the program: errors.As, asked with a variable of the program's own error (after the guide's worked example on errors.As). -/
namespace Go.Proofs.YtmhppadblddjoaaDoor
open Go.RowKit Go.Extern.Stop Go.Stop Go.Extern

theorem as_nil (t : Value) (w : World) :
    Calls Tryd.prog 89 #[.nilIface, t] w fun e w' => e = .returned (.bool false) ∧ w = w' := by
  go_enter Tryd.func89, Tryd.ntmps89
  go_wp2
  go_ret
  exact ⟨rfl, rfl⟩

theorem asValueOfP (t : Addr) (w : World) : (ReflectliteValue.unpack (.iface 140 (.pointer (some t)))).run Tryd.prog w
    = .ok (.agg #[.pointer (some ⟨4, 140, none⟩), .pointer (some ⟨w.heap.size, 0, none⟩), .int .u64 150]) (w.alloc (.cells #[.pointer (some t)] 140)) := by kernel_rfl
theorem asTypeP (a : Addr) (w : World) : (ReflectliteValue.methodAny (ReflectliteValue.valueError "reflectlite.Value.Type" 0) (fun t _ _ _ => ReflectliteType.toType t) #[.agg #[.pointer (some ⟨4, 140, none⟩), .pointer (some a), .int .u64 150]]).run Tryd.prog w
    = .ok (.iface 168 (.agg #[.pointer (some ⟨4, 140, none⟩)])) w := by kernel_rfl
theorem asMethodKind (h : Value) (w : World) : (Go.method 320 168 (.agg #[h]) "Kind").run Tryd.prog w = .ok (140, h) w := by kernel_rfl
theorem asKindP (w : World) : ((ReflectliteType.abiMethod fun t => Functor.map (fun a : Nat => Value.int IntKind.u8 (a : Int)) (Rtype.kind t)) #[.pointer (some ⟨4, 140, none⟩)]).run Tryd.prog w = .ok (.int .u8 22) w := by kernel_rfl
theorem asKindE (w : World) : ((ReflectliteType.abiMethod fun t => Functor.map (fun a : Nat => Value.int IntKind.u8 (a : Int)) (Rtype.kind t)) #[.pointer (some ⟨4, 138, none⟩)]).run Tryd.prog w = .ok (.int .u8 25) w := by kernel_rfl

theorem asPartsP (a : Addr) (w : World) : (ReflectliteValue.parts (.agg #[.pointer (some ⟨4, 140, none⟩), .pointer (some a), .int .u64 150])).run Tryd.prog w = .ok (some (140, a, 150)) w := by kernel_rfl
theorem asIsNilP (a p : Addr) (W : World) (ha : W.cell? a = some (.pointer (some p))) :
    (ReflectliteValue.method (ReflectliteValue.valueError "reflectlite.Value.IsNil" 0) ReflectliteValue.isNil #[.agg #[.pointer (some ⟨4, 140, none⟩), .pointer (some a), .int .u64 150]]).run Tryd.prog W = .ok (.bool false) W := by
  refine Eq.trans (congrArg (fun z : Sem Value => z.run Tryd.prog W) (show _ = (ReflectliteValue.parts (.agg #[.pointer (some ⟨4, 140, none⟩), .pointer (some a), .int .u64 150]) >>= _) from rfl)) ?_
  simp only [Sem.run_bind, asPartsP, Result.andThen]
  simp [ReflectliteValue.isNil, loadVar, isAgg, underlying, Tryd.underlying140, ha, Result.andThen]

theorem asMethodElem (h : Value) (w : World) : (Go.method 320 168 (.agg #[h]) "Elem").run Tryd.prog w = .ok (156, .agg #[h]) w := by kernel_rfl
theorem asMethodImplements (h : Value) (w : World) : (Go.method 320 168 (.agg #[h]) "Implements").run Tryd.prog w = .ok (157, .agg #[h]) w := by kernel_rfl
theorem asMethodAssignableTo (h : Value) (w : World) : (Go.method 320 168 (.agg #[h]) "AssignableTo").run Tryd.prog w = .ok (154, .agg #[h]) w := by kernel_rfl
theorem asElemP (w : World) : (ReflectliteType.method ReflectliteType.elem #[.agg #[.pointer (some ⟨4, 140, none⟩)]]).run Tryd.prog w = .ok (.iface 168 (.agg #[.pointer (some ⟨4, 138, none⟩)])) w := by kernel_rfl
theorem asImplementsE (w : World) : (ReflectliteType.relation "Implements" ReflectliteType.implements_ #[.agg #[.pointer (some ⟨4, 138, none⟩)], .iface 168 (.agg #[.pointer (some ⟨4, 86, none⟩)])]).run Tryd.prog w = .ok (.bool true) w := by kernel_rfl
theorem asTypeOfE (v : Value) (w : World) : (ReflectliteType.typeOf #[.iface 138 v]).run Tryd.prog w = .ok (.iface 168 (.agg #[.pointer (some ⟨4, 138, none⟩)])) w := by kernel_rfl
theorem asAssignableE (w : World) : (ReflectliteType.relation "AssignableTo" ReflectliteType.assignableTo #[.agg #[.pointer (some ⟨4, 138, none⟩)], .iface 168 (.agg #[.pointer (some ⟨4, 138, none⟩)])]).run Tryd.prog w = .ok (.bool true) w := by kernel_rfl
theorem asValueOfE (x y : Int) (w : World) : (ReflectliteValue.unpack (.iface 138 (.agg #[.int .i64 x, .int .i64 y]))).run Tryd.prog w
    = .ok (.agg #[.pointer (some ⟨4, 138, none⟩), .pointer (some ⟨w.heap.size, 0, none⟩), .int .u64 153]) (w.alloc (.cells #[.int .i64 x, .int .i64 y] 138)) := by kernel_rfl

theorem asElemOfP (w : World) : (Rtype.elem? 140).run Tryd.prog w = .ok (some 138) w := by kernel_rfl
theorem asMkE (p : Addr) (w : World) : (ReflectliteValue.mk 138 p ReflectliteValue.flagAddr).run Tryd.prog w = .ok (.agg #[.pointer (some ⟨4, 138, none⟩), .pointer (some p), .int .u64 409]) w := by kernel_rfl
theorem asElemV (a p : Addr) (W : World) (ha : W.cell? a = some (.pointer (some p))) :
    (ReflectliteValue.method (ReflectliteValue.valueError "reflectlite.Value.Elem" 0) ReflectliteValue.elem #[.agg #[.pointer (some ⟨4, 140, none⟩), .pointer (some a), .int .u64 150]]).run Tryd.prog W
      = .ok (.agg #[.pointer (some ⟨4, 138, none⟩), .pointer (some p), .int .u64 409]) W := by
  refine Eq.trans (congrArg (fun z : Sem Value => z.run Tryd.prog W) (show _ = (ReflectliteValue.parts (.agg #[.pointer (some ⟨4, 140, none⟩), .pointer (some a), .int .u64 150]) >>= _) from rfl)) ?_
  simp only [Sem.run_bind, asPartsP, Result.andThen]
  simp [ReflectliteValue.elem, loadVar, isAgg, underlying, Tryd.underlying140, ha, Result.andThen, asElemOfP, asMkE]
theorem asPartsA (a : Addr) (w : World) : (ReflectliteValue.parts (.agg #[.pointer (some ⟨4, 138, none⟩), .pointer (some a), .int .u64 409])).run Tryd.prog w = .ok (some (138, a, 409)) w := by kernel_rfl
theorem asPartsE (a : Addr) (w : World) : (ReflectliteValue.parts (.agg #[.pointer (some ⟨4, 138, none⟩), .pointer (some a), .int .u64 153])).run Tryd.prog w = .ok (some (138, a, 153)) w := by kernel_rfl
theorem asDirectE (w : World) : (Rtype.directlyAssignable 138 138).run Tryd.prog w = .ok true w := by kernel_rfl
end Go.Proofs.YtmhppadblddjoaaDoor

/- Chapter 4 of the program: errors.As at its own error, and hasFault. -/
namespace Go.Proofs.YtmhppadblddjoaaDoor
open Go.RowKit Go.Extern.Stop Go.Stop Go.Extern

theorem asLoad (b : Nat) (x y : Int) (W : World) (hb0 : W.cell? ⟨b, 0, none⟩ = some (.int .i64 x)) (hb1 : W.cell? ⟨b, 1, none⟩ = some (.int .i64 y)) : (loadCells ⟨b, 0, none⟩ 2).run Tryd.prog W = .ok #[.int .i64 x, .int .i64 y] W := by
  simp [loadCells, loadCellsFrom, Addr.add, hb0, hb1, Result.andThen]
theorem asSet (b t : Nat) (x y : Int) (o1 o2 : Value) (W : World) (hb0 : W.cell? ⟨b, 0, none⟩ = some (.int .i64 x)) (hb1 : W.cell? ⟨b, 1, none⟩ = some (.int .i64 y)) (ht0 : W.cell? ⟨t, 0, none⟩ = some o1) (ht1 : W.cell? ⟨t, 1, none⟩ = some o2) (hf0 : W.frozen? ⟨t, 0, none⟩ = false) (hf1 : W.frozen? ⟨t, 1, none⟩ = false) :
    (ReflectliteValue.set #[.agg #[.pointer (some ⟨4, 138, none⟩), .pointer (some ⟨t, 0, none⟩), .int .u64 409], .agg #[.pointer (some ⟨4, 138, none⟩), .pointer (some ⟨b, 0, none⟩), .int .u64 153]]).run Tryd.prog W
      = .ok (.tuple #[]) ((W.setCell ⟨t, 0, none⟩ (.int .i64 x)).setCell ⟨t, 1, none⟩ (.int .i64 y)) := by
  refine Eq.trans (congrArg (fun z : Sem Value => z.run Tryd.prog W) (show _ = (ReflectliteValue.parts (.agg #[.pointer (some ⟨4, 138, none⟩), .pointer (some ⟨t, 0, none⟩), .int .u64 409]) >>= fun _ => ReflectliteValue.parts (.agg #[.pointer (some ⟨4, 138, none⟩), .pointer (some ⟨b, 0, none⟩), .int .u64 153]) >>= _) from rfl)) ?_
  simp only [Sem.run_bind, asPartsA, asPartsE, Result.andThen]
  simp [ReflectliteValue.flagAddr, loadVar, isAgg, underlying, Tryd.underlying138, asLoad b x y W hb0 hb1, Result.andThen, asDirectE, storeVar, Value.cells, storeCells, Addr.add]
  have h1 : (W.setCell ⟨t, 0, none⟩ (.int .i64 x)).cell? ⟨t, 1, none⟩ = some o2 := by
    rw [World.cell?_setCell_other _ _ _ _ (by simp)]; exact ht1
  have h2 : (W.setCell ⟨t, 0, none⟩ (.int .i64 x)).frozen? ⟨t, 1, none⟩ = false := by rw [World.frozen?_setCell]; exact hf1
  rw [run_store Tryd.prog W ⟨t, 0, none⟩ _ _ (by rfl)]
  simp only [ht0, hf0]
  simp
  rw [run_store Tryd.prog _ ⟨t, 1, none⟩ _ _ (by rfl)]
  simp [h1, h2]

/-- What errors.As leaves behind. -/
def asW (w : World) (t : Nat) (x y : Int) : World := (((((w.alloc (.cells #[.pointer (some ⟨t, 0, none⟩)] 140)).alloc (.cells #[.pointer (some ⟨4, 140, none⟩), .pointer (some ⟨w.heap.size, 0, none⟩), .int .u64 150] 153)).alloc (.cells #[.pointer (some ⟨4, 140, none⟩), .pointer (some ⟨w.heap.size, 0, none⟩), .int .u64 150] 153)).alloc (.cells #[.int .i64 x, .int .i64 y] 138)).setCell ⟨t, 0, none⟩ (.int .i64 x)).setCell ⟨t, 1, none⟩ (.int .i64 y)

set_option maxRecDepth 100000 in
set_option maxHeartbeats 4000000 in
theorem as_hit (t : Nat) (x y : Int) (o1 o2 : Value) (w : World) (hV : Vars w) (ht0 : w.cell? ⟨t, 0, none⟩ = some o1) (ht1 : w.cell? ⟨t, 1, none⟩ = some o2) (hf0 : w.frozen? ⟨t, 0, none⟩ = false) (hf1 : w.frozen? ⟨t, 1, none⟩ = false) :
    Calls Tryd.prog 89 #[.iface 138 (.agg #[.int .i64 x, .int .i64 y]), .iface 140 (.pointer (some ⟨t, 0, none⟩))] w fun ev w' => ev = .returned (.bool true) ∧ w' = asW w t x y := by
  have h6 := @run_callFunc_extern Tryd.prog 102 _ (fun args => ReflectliteValue.unpack (args.getD 0 (.tuple #[]))) Tryd.func102 (by kernel_rfl) (by kernel_rfl) (by kernel_rfl) (by kernel_rfl)
  have h7 := @run_callFunc_extern Tryd.prog 103 _ (ReflectliteValue.methodAny (ReflectliteValue.valueError "reflectlite.Value.Type" 0) (fun t _ _ _ => ReflectliteType.toType t)) Tryd.func103 (by kernel_rfl) (by kernel_rfl) (by kernel_rfl) (by kernel_rfl)
  have h8 := @run_callFunc_extern Tryd.prog 104 _ (ReflectliteValue.method (ReflectliteValue.valueError "reflectlite.Value.IsNil" 0) ReflectliteValue.isNil) Tryd.func104 (by kernel_rfl) (by kernel_rfl) (by kernel_rfl) (by kernel_rfl)
  have h27 := @run_callFunc_extern Tryd.prog 140 _ (ReflectliteType.abiMethod fun t => do pure (.int .u8 (← Rtype.kind t))) Tryd.func140 (by kernel_rfl) (by kernel_rfl) (by kernel_rfl) (by kernel_rfl)
  have h37 := @run_callFunc_extern Tryd.prog 156 _ (ReflectliteType.method ReflectliteType.elem) Tryd.func156 (by kernel_rfl) (by kernel_rfl) (by kernel_rfl) (by kernel_rfl)
  have h38 := @run_callFunc_extern Tryd.prog 157 _ (ReflectliteType.relation "Implements" ReflectliteType.implements_) Tryd.func157 (by kernel_rfl) (by kernel_rfl) (by kernel_rfl) (by kernel_rfl)
  have h10 := @run_callFunc_extern Tryd.prog 111 _ ReflectliteType.typeOf Tryd.func111 (by kernel_rfl) (by kernel_rfl) (by kernel_rfl) (by kernel_rfl)
  have h35 := @run_callFunc_extern Tryd.prog 154 _ (ReflectliteType.relation "AssignableTo" ReflectliteType.assignableTo) Tryd.func154 (by kernel_rfl) (by kernel_rfl) (by kernel_rfl) (by kernel_rfl)
  have h11 := @run_callFunc_extern Tryd.prog 112 _ (ReflectliteValue.method (ReflectliteValue.valueError "reflectlite.Value.Elem" 0) ReflectliteValue.elem) Tryd.func112 (by kernel_rfl) (by kernel_rfl) (by kernel_rfl) (by kernel_rfl)
  have h12 := @run_callFunc_extern Tryd.prog 113 _ ReflectliteValue.set Tryd.func113 (by kernel_rfl) (by kernel_rfl) (by kernel_rfl) (by kernel_rfl)
  have tO := asTypeOfE
  have mA := asMethodAssignableTo
  have a25 := asAssignableE
  have v25 := asValueOfE
  have f6 := asValueOfP
  have f7 := asTypeP
  have mK := asMethodKind
  have mE := asMethodElem
  have mI := asMethodImplements
  have k27 := asKindP
  have k25 := asKindE
  have e27 := asElemP
  have i25 := asImplementsE
  have n8 := asIsNilP ⟨w.heap.size, 0, none⟩ ⟨t, 0, none⟩ ((w.alloc (.cells #[.pointer (some ⟨t, 0, none⟩)] 140)).alloc (.cells #[.pointer (some ⟨4, 140, none⟩), .pointer (some ⟨w.heap.size, 0, none⟩), .int .u64 150] 153)) (by simp)
  have hg2 : ((w.alloc (.cells #[.pointer (some ⟨t, 0, none⟩)] 140)).alloc (.cells #[.pointer (some ⟨4, 140, none⟩), .pointer (some ⟨w.heap.size, 0, none⟩), .int .u64 150] 153)).cell? ⟨0, 0, none⟩ = some (.iface 168 (.agg #[.pointer (some ⟨4, 86, none⟩)])) :=
    hV.on (nbAlloc (nbAlloc (Below.refl _ _) _) _)
  have htl : t < w.heap.size := ltCell ht0
  have el := asElemV ⟨w.heap.size, 0, none⟩ ⟨t, 0, none⟩ (((w.alloc (.cells #[.pointer (some ⟨t, 0, none⟩)] 140)).alloc (.cells #[.pointer (some ⟨4, 140, none⟩), .pointer (some ⟨w.heap.size, 0, none⟩), .int .u64 150] 153)).alloc (.cells #[.pointer (some ⟨4, 140, none⟩), .pointer (some ⟨w.heap.size, 0, none⟩), .int .u64 150] 153)) (by rw [World.cell?_alloc_lt _ _ ⟨w.heap.size, 0, none⟩ (by simp; omega)]; simp)
  have st := asSet (w.heap.size + 1 + 1 + 1) t x y o1 o2 ((((w.alloc (.cells #[.pointer (some ⟨t, 0, none⟩)] 140)).alloc (.cells #[.pointer (some ⟨4, 140, none⟩), .pointer (some ⟨w.heap.size, 0, none⟩), .int .u64 150] 153)).alloc (.cells #[.pointer (some ⟨4, 140, none⟩), .pointer (some ⟨w.heap.size, 0, none⟩), .int .u64 150] 153)).alloc (.cells #[.int .i64 x, .int .i64 y] 138))
    (by go_simp) (by go_simp)
    (cellOn (nbAlloc (nbAlloc (nbAlloc (nbAlloc (Below.refl _ _) _) _) _) _) ht0) (cellOn (nbAlloc (nbAlloc (nbAlloc (nbAlloc (Below.refl _ _) _) _) _) _) ht1)
    (by rw [World.frozen?_alloc_old _ _ _ (by simp; omega), World.frozen?_alloc_old _ _ _ (by simp; omega), World.frozen?_alloc_old _ _ _ (by simp; omega), World.frozen?_alloc_old _ _ _ (Nat.ne_of_lt htl)]; exact hf0)
    (by rw [World.frozen?_alloc_old _ _ _ (by simp; omega), World.frozen?_alloc_old _ _ _ (by simp; omega), World.frozen?_alloc_old _ _ _ (by simp; omega), World.frozen?_alloc_old _ _ _ (Nat.ne_of_lt htl)]; exact hf1)
  go_enter Tryd.func89, Tryd.ntmps89
  go_wp2
  refine wp_loop_rounds 1 ?_
  rw [rounds_succ]
  go_wp2
  go_ret
  exact ⟨rfl, rfl⟩

end Go.Proofs.YtmhppadblddjoaaDoor

/- Chapter 4 of the program: the small functions: what a tick has at fault, the error that carries it, whether an error has a fault. -/
namespace Go.Proofs.YtmhppadblddjoaaDoor
open Go.RowKit

def inrC (w : World) (x y : Int) : World → Prop := fun w' => w'.cell? ⟨w.heap.size, 0, none⟩ = some (.int .i64 x) ∧ w'.cell? ⟨w.heap.size, 1, none⟩ = some (.int .i64 y) ∧ Below w.heap.size w w'
theorem inrC_on {w : World} {x y : Int} {w1 w2 : World} (h : inrC w x y w1) (hb : Below w1.heap.size w1 w2) : inrC w x y w2 :=
  ⟨cellOn hb h.1, cellOn hb h.2.1, nbTrans h.2.2 hb⟩

set_option maxHeartbeats 1000000 in
theorem inRange_0 (x y : Int) (w : World) (h0 : inB x 0 100000 = false) :
    Calls Tryd.prog 86 #[.agg #[.int .i64 x, .int .i64 y]] w fun e w' => e = .returned (.bool false) ∧ Below w.heap.size w w' := by
  go_enter Tryd.func86, Tryd.ntmps86
  go_wp2
  refine region_kept (inrC w x y) (by kernel_rfl) (by kernel_rfl) ?_ ?_
  · refine ⟨?_, ?_, ?_⟩ <;> first | (simp; done) | exact Below.drew (nbAlloc (Below.refl _ _) _)
  intro hN
  have k0 : ∀ d : Kept (inrC w x y), d.w.cell? ⟨w.heap.size, 0, none⟩ = some (.int .i64 x) := fun d => d.h.1
  have k1 : ∀ d : Kept (inrC w x y), d.w.cell? ⟨w.heap.size, 1, none⟩ = some (.int .i64 y) := fun d => d.h.2.1
  repeat (go_big_quiet_step (first | (go_at_call 53; exact (upTo_c _ _).mono fun e w' h => ⟨h.1, ⟨w', inrC_on (Kept.h _) h.2⟩, rfl⟩) | (go_at_call 54; exact (has_t _ _ _ _ (by assumption)).mono fun e w' h => ⟨h.1, ⟨w', inrC_on (Kept.h _) h.2⟩, rfl⟩) | (go_at_call 54; exact (has_f _ _ _ _ (by assumption)).mono fun e w' h => ⟨h.1, ⟨w', inrC_on (Kept.h _) h.2⟩, rfl⟩)))
  refine wpQuiet_nil ?_
  rintro _ ⟨⟨w1, hd⟩, rfl⟩
  go_wp2
  go_ret
  exact ⟨rfl, hd.2.2⟩
set_option maxHeartbeats 1000000 in
theorem inRange_1 (x y : Int) (w : World) (h0 : inB x 0 100000 = true) (h1 : inB y 0 100000 = false) :
    Calls Tryd.prog 86 #[.agg #[.int .i64 x, .int .i64 y]] w fun e w' => e = .returned (.bool false) ∧ Below w.heap.size w w' := by
  go_enter Tryd.func86, Tryd.ntmps86
  go_wp2
  refine region_kept (inrC w x y) (by kernel_rfl) (by kernel_rfl) ?_ ?_
  · refine ⟨?_, ?_, ?_⟩ <;> first | (simp; done) | exact Below.drew (nbAlloc (Below.refl _ _) _)
  intro hN
  have k0 : ∀ d : Kept (inrC w x y), d.w.cell? ⟨w.heap.size, 0, none⟩ = some (.int .i64 x) := fun d => d.h.1
  have k1 : ∀ d : Kept (inrC w x y), d.w.cell? ⟨w.heap.size, 1, none⟩ = some (.int .i64 y) := fun d => d.h.2.1
  repeat (go_big_quiet_step (first | (go_at_call 53; exact (upTo_c _ _).mono fun e w' h => ⟨h.1, ⟨w', inrC_on (Kept.h _) h.2⟩, rfl⟩) | (go_at_call 54; exact (has_t _ _ _ _ (by assumption)).mono fun e w' h => ⟨h.1, ⟨w', inrC_on (Kept.h _) h.2⟩, rfl⟩) | (go_at_call 54; exact (has_f _ _ _ _ (by assumption)).mono fun e w' h => ⟨h.1, ⟨w', inrC_on (Kept.h _) h.2⟩, rfl⟩)))
  refine wpQuiet_nil ?_
  rintro _ ⟨⟨w1, hd⟩, rfl⟩
  go_wp2
  go_ret
  exact ⟨rfl, hd.2.2⟩
set_option maxHeartbeats 1000000 in
theorem inRange_2 (x y : Int) (w : World) (h0 : inB x 0 100000 = true) (h1 : inB y 0 100000 = true) :
    Calls Tryd.prog 86 #[.agg #[.int .i64 x, .int .i64 y]] w fun e w' => e = .returned (.bool true) ∧ Below w.heap.size w w' := by
  go_enter Tryd.func86, Tryd.ntmps86
  go_wp2
  refine region_kept (inrC w x y) (by kernel_rfl) (by kernel_rfl) ?_ ?_
  · refine ⟨?_, ?_, ?_⟩ <;> first | (simp; done) | exact Below.drew (nbAlloc (Below.refl _ _) _)
  intro hN
  have k0 : ∀ d : Kept (inrC w x y), d.w.cell? ⟨w.heap.size, 0, none⟩ = some (.int .i64 x) := fun d => d.h.1
  have k1 : ∀ d : Kept (inrC w x y), d.w.cell? ⟨w.heap.size, 1, none⟩ = some (.int .i64 y) := fun d => d.h.2.1
  repeat (go_big_quiet_step (first | (go_at_call 53; exact (upTo_c _ _).mono fun e w' h => ⟨h.1, ⟨w', inrC_on (Kept.h _) h.2⟩, rfl⟩) | (go_at_call 54; exact (has_t _ _ _ _ (by assumption)).mono fun e w' h => ⟨h.1, ⟨w', inrC_on (Kept.h _) h.2⟩, rfl⟩) | (go_at_call 54; exact (has_f _ _ _ _ (by assumption)).mono fun e w' h => ⟨h.1, ⟨w', inrC_on (Kept.h _) h.2⟩, rfl⟩)))
  refine wpQuiet_nil ?_
  rintro _ ⟨⟨w1, hd⟩, rfl⟩
  go_wp2
  go_ret
  exact ⟨rfl, hd.2.2⟩
theorem inRange_c (x y : Int) (w : World) :
    Calls Tryd.prog 86 #[.agg #[.int .i64 x, .int .i64 y]] w fun e w' => e = .returned (.bool (numB x y)) ∧ Below w.heap.size w w' := by
  unfold numB
  cases h0 : inB x 0 100000
  · exact inRange_0 x y w h0
  · cases h1 : inB y 0 100000
    · exact inRange_1 x y w h0 h1
    · exact inRange_2 x y w h0 h1

set_option maxHeartbeats 400000 in
theorem mayCount_c (s j m g o x y : Int) (w : World) (hr : rOk s j m g o = true) (hn : numB x y = true) :
    Calls Tryd.prog 101 #[.agg #[.int .i64 s, .int .i64 j, .int .i64 m, .int .i64 g, .int .i64 o], .int .i64 x, .int .i64 y] w fun e w' => e = .returned (.bool (fairB s j x y)) ∧ Below w.heap.size w w' := by
  simp only [rOk, inB, Bool.and_eq_true, decide_eq_true_eq] at hr
  simp only [numB, inB, Bool.and_eq_true, decide_eq_true_eq] at hn
  have hp := prodB (s := s) (f := x) (by omega) (by omega) (by omega) (by omega)
  have i1 := lst_iff (s := s) (j := j) (c := y) (f := x) (by omega) (by omega)
  have i2 := mst_iff (s := s) (j := j) (c := y) (f := x) (by omega)
  obtain ⟨hp0, hp1⟩ := hp
  by_cases hxy : x < y
  · have HI : Hid (fairB s j x y = decide (1000 * (y - x) ≤ s * x + 1000 * j)) := by
      unfold Hid fairB
      rw [Bool.eq_iff_iff]
      simp only [Bool.and_eq_true, decide_eq_true_eq, i1, i2]
      omega
    clear i1 i2
    go_enter Tryd.func101, Tryd.ntmps101
    go_wp2
    go_ret
    exact ⟨retB (by rw [HI.out]), nbAlloc (Below.refl _ _) _⟩
  · have HI : Hid (fairB s j x y = decide (1000 * (x - y) ≤ s * x + 1000 * j)) := by
      unfold Hid fairB
      rw [Bool.eq_iff_iff]
      simp only [Bool.and_eq_true, decide_eq_true_eq, i1, i2]
      omega
    clear i1 i2
    go_enter Tryd.func101, Tryd.ntmps101
    go_wp2
    go_ret
    exact ⟨retB (by rw [HI.out]), nbAlloc (Below.refl _ _) _⟩

def fdOf (s j x y fr : Int) : Int := if fairB s j x y then (if 100000000 < fr then 4 else 0) else (if 100000000 < fr then 6 else 2)

set_option maxHeartbeats 1000000 in
theorem faultsOf_c (s j m g o x y fr : Int) (w : World) (hr : rOk s j m g o = true) (hn : numB x y = true) :
    Calls Tryd.prog 88 #[.agg #[.int .i64 s, .int .i64 j, .int .i64 m, .int .i64 g, .int .i64 o], .agg #[.int .i64 x, .int .i64 y], .int .i64 fr] w fun e w' => e = .returned (.int .i64 (fdOf s j x y fr)) ∧ Below w.heap.size w w' := by
  unfold fdOf
  cases hf : fairB s j x y
  all_goals by_cases hb : 100000000 < fr
  all_goals
    have HM := mayCount_c s j m g o x y
    rw [hf] at HM
    go_enter Tryd.func88, Tryd.ntmps88
    go_wp2_with (go_at_call 101; refine (HM _ hr hn).mono ?_; rintro e w1 ⟨rfl, hb1⟩)
    go_ret
    exact ⟨by first | (simp; done) | (simp; kernel_rfl), nbTrans (nbAlloc (nbAlloc (Below.refl _ _) _) _) hb1⟩

def errV (i fd : Int) : Value := if fd = 0 then .nilIface else .iface 138 (.agg #[.int .i64 i, .int .i64 fd])
theorem tickErrorOf_c (i fd : Int) (w : World) :
    Calls Tryd.prog 87 #[.int .i64 i, .int .i64 fd] w fun e w' => e = .returned (errV i fd) ∧ w = w' := by
  unfold errV
  by_cases h : fd = 0
  · subst h
    go_enter Tryd.func87, Tryd.ntmps87
    go_wp2
    go_ret
    exact ⟨rfl, rfl⟩
  · rw [if_neg h]
    have h' : (fd == 0) = false := by simpa using h
    go_enter Tryd.func87, Tryd.ntmps87
    go_wp2
    go_ret
    exact ⟨rfl, rfl⟩

theorem asW_below (w : World) (t : Nat) (x y : Int) (ht : t ≤ w.heap.size) : Below t w (asW w t x y) :=
  ((((((Below.refl t w).alloc ht _).alloc (by simp; omega) _).alloc (by simp; omega) _).alloc (by simp; omega) _).setCell (p := ⟨t, 0, none⟩) (Nat.le_refl _) _).setCell (p := ⟨t, 1, none⟩) (Nat.le_refl _) _
theorem asW_cell {w : World} {t : Nat} {x y : Int} {o : Value} (h : w.cell? ⟨t, 1, none⟩ = some o) : (asW w t x y).cell? ⟨t, 1, none⟩ = some (.int .i64 y) := by
  unfold asW
  refine World.cell?_setCell_same' _ _ _ ?_
  rw [World.cell?_setCell_other _ _ _ _ (by simp), cellOn (nbAlloc (nbAlloc (nbAlloc (nbAlloc (Below.refl _ _) _) _) _) _) h]
  rfl

/-- Whether the fault is among those that are minded. -/
def hasB (fd md : Int) : Bool := bits BinOp.and IntKind.i64 fd md != 0

set_option maxRecDepth 100000 in
set_option maxHeartbeats 1000000 in
theorem hasFault_0 (md : Int) (w : World) :
    Calls Tryd.prog 52 #[.nilIface, .int .i64 md] w fun e w' => e = .returned (.bool false) ∧ Below w.heap.size w w' := by
  go_enter Tryd.func52, Tryd.ntmps52
  go_wp2_with (go_at_call 89; refine (as_nil _ _).mono ?_; rintro e w1 ⟨rfl, rfl⟩)
  go_ret
  exact ⟨rfl, nbAlloc (Below.refl _ _) _⟩
set_option maxRecDepth 100000 in
set_option maxHeartbeats 1000000 in
theorem hasFault_1 (i fd md : Int) (w : World) (hV : Vars w) :
    Calls Tryd.prog 52 #[.iface 138 (.agg #[.int .i64 i, .int .i64 fd]), .int .i64 md] w fun e w' => e = .returned (.bool (hasB fd md)) ∧ Below w.heap.size w w' := by
  have hA := as_hit w.heap.size i fd (.int .i64 0) (.int .i64 0) (w.alloc (.cells #[.int .i64 0, .int .i64 0] 138)) (hV.on (nbAlloc (Below.refl _ _) _)) (by go_simp) (by go_simp) (by go_simp) (by go_simp)
  have hc := asW_cell (w := w.alloc (.cells #[.int .i64 0, .int .i64 0] 138)) (t := w.heap.size) (x := i) (y := fd) (o := .int .i64 0) (by go_simp)
  have hB : Below w.heap.size w (asW (w.alloc (.cells #[.int .i64 0, .int .i64 0] 138)) w.heap.size i fd) := (nbAlloc (Below.refl _ _) _).trans (asW_below _ _ _ _ (by simp))
  go_enter Tryd.func52, Tryd.ntmps52
  go_wp2_with (go_at_call 89; refine hA.mono ?_; rintro e w1 ⟨rfl, rfl⟩)
  go_ret
  exact ⟨rfl, hB⟩
theorem hasFault_c (i fd md : Int) (w : World) (hV : Vars w) :
    Calls Tryd.prog 52 #[errV i fd, .int .i64 md] w fun e w' => e = .returned (.bool (if fd = 0 then false else hasB fd md)) ∧ Below w.heap.size w w' := by
  unfold errV
  by_cases h : fd = 0
  · simp only [h, if_true]
    exact hasFault_0 md w
  · simp only [h, if_false]
    exact hasFault_1 i fd md w hV

end Go.Proofs.YtmhppadblddjoaaDoor

