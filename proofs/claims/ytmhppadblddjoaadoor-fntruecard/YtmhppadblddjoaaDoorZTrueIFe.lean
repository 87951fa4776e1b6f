import Derived.Test.YtmhppadblddjoaaDoorZTrueFs
import Derived.Test.YtmhppadblddjoaaDoorZTrueIMkS
/- Chapter 4 of the program: Felt. -/
namespace Go.Proofs.YtmhppadblddjoaaDoor
open Go.RowKit Go.Shelf
attribute [local go_sem] Oper.semAt_some

/-- The boxes as they are made. -/
def feW (w : World) (s j m g o : Int) (mv tv rv : Value) : World := ((((w.alloc (.cells #[.int .i64 s, .int .i64 j, .int .i64 m, .int .i64 g, .int .i64 o] 24)).alloc (.cells #[mv] 25)).alloc (.cells #[tv] 39)).alloc (.cells #[rv] 40)).alloc (.cells #[.slice none 0 0] 28)
structure FeB (w : World) (s j m g o : Int) (mv tv rv : Value) (W : World) : Prop where
  r : W.heap[w.heap.size]? = some (.cells #[.int .i64 s, .int .i64 j, .int .i64 m, .int .i64 g, .int .i64 o] 24)
  k : Boxed W (w.heap.size + 1) 25 mv
  t : Boxed W (w.heap.size + 1 + 1) 39 tv
  d : Boxed W (w.heap.size + 1 + 1 + 1) 40 rv
  q : Boxed W (w.heap.size + 1 + 1 + 1 + 1) 28 (.slice none 0 0)
  low : Below w.heap.size w W
theorem FeB.on {w : World} {s j m g o : Int} {mv tv rv : Value} {W W' : World} (h : FeB w s j m g o mv tv rv W) (hb : Below W.heap.size W W') : FeB w s j m g o mv tv rv W' :=
  ⟨blkOn hb h.r, blkOn hb h.k, blkOn hb h.t, blkOn hb h.d, blkOn hb h.q, nbTrans h.low hb⟩
theorem feB_new (w : World) (s j m g o : Int) (mv tv rv : Value) : FeB w s j m g o mv tv rv (feW w s j m g o mv tv rv) := by
  have b1 := newBlkD w (.cells #[.int .i64 s, .int .i64 j, .int .i64 m, .int .i64 g, .int .i64 o] 24) rfl
  have b2 := newBlkD (w.alloc (.cells #[.int .i64 s, .int .i64 j, .int .i64 m, .int .i64 g, .int .i64 o] 24)) (.cells #[mv] 25) (n := w.heap.size + 1) (by simp)
  have b3 := newBlkD ((w.alloc (.cells #[.int .i64 s, .int .i64 j, .int .i64 m, .int .i64 g, .int .i64 o] 24)).alloc (.cells #[mv] 25)) (.cells #[tv] 39) (n := w.heap.size + 1 + 1) (by simp)
  have b4 := newBlkD (((w.alloc (.cells #[.int .i64 s, .int .i64 j, .int .i64 m, .int .i64 g, .int .i64 o] 24)).alloc (.cells #[mv] 25)).alloc (.cells #[tv] 39)) (.cells #[rv] 40) (n := w.heap.size + 1 + 1 + 1) (by simp)
  have b5 := newBlkD ((((w.alloc (.cells #[.int .i64 s, .int .i64 j, .int .i64 m, .int .i64 g, .int .i64 o] 24)).alloc (.cells #[mv] 25)).alloc (.cells #[tv] 39)).alloc (.cells #[rv] 40)) (.cells #[.slice none 0 0] 28) (n := w.heap.size + 1 + 1 + 1 + 1) (by simp)
  have h1 : ∀ (W : World) (o : Obj), Below W.heap.size W (W.alloc o) := fun W o => nbAlloc (Below.refl _ _) o
  exact ⟨blkOn (nbTrans (nbTrans (nbTrans (h1 _ _) (h1 _ _)) (h1 _ _)) (h1 _ _)) b1, blkOn (nbTrans (nbTrans (h1 _ _) (h1 _ _)) (h1 _ _)) b2, blkOn (nbTrans (h1 _ _) (h1 _ _)) b3, blkOn (h1 _ _) b4, b5, nbTrans (nbTrans (nbTrans (nbTrans (h1 _ _) (h1 _ _)) (h1 _ _)) (h1 _ _)) (h1 _ _)⟩
theorem rules0 {W : World} {n : Nat} {s j m g o : Int} (h : W.heap[n]? = some (.cells #[.int .i64 s, .int .i64 j, .int .i64 m, .int .i64 g, .int .i64 o] 24)) : W.cell? ⟨n, 0, none⟩ = some (.int .i64 s) ∧ W.cell? ⟨n, 1, none⟩ = some (.int .i64 j) ∧ W.cell? ⟨n, 2, none⟩ = some (.int .i64 m) ∧ W.cell? ⟨n, 3, none⟩ = some (.int .i64 g) ∧ W.cell? ⟨n, 4, none⟩ = some (.int .i64 o) := by
  simp [World.cell?, h]

theorem FeS.own {w : World} {eb rb : Nat} {s j m g o : Int} {mv tv rv v : Value} {A C : World} {row : Option Nat} (h : FeS w eb rb s j m g o mv tv rv v A) (hg : A.grownBy C row) (hr : ∀ r, row = some r → w.heap.size ≤ r ∧ ∃ o : Obj, A.heap[r]? = some o ∧ o.isCells = false) : FeS w eb rb s j m g o mv tv rv v C :=
  ⟨blkKept h.r rfl hg (fun r e => (hr r e).2), blkKept h.k rfl hg (fun r e => (hr r e).2), blkKept h.t rfl hg (fun r e => (hr r e).2), blkKept h.d rfl hg (fun r e => (hr r e).2), blkKept h.q rfl hg (fun r e => (hr r e).2), blkKept h.e rfl hg (fun r e => (hr r e).2), blkKept h.b rfl hg (fun r e => (hr r e).2), h.low.grown hg h.low.size (fun r e => (hr r e).1)⟩

/-- A round's world, from its start on. -/
structure RdC (w : World) (eb rb : Nat) (s j m g o : Int) (mv tv rv : Value) (Bx : Nat) (mi mf : Int) (Ws : World) (v : Value) (E : List (Int × Int)) (W : World) : Prop where
  S : FeS w eb rb s j m g o mv tv rv v W
  own : W.ownsRow w.heap.size 48 2 v E.length (cells2 E)
  x : W.heap[Bx]? = some (.cells #[.int .i64 mi, .int .i64 mf] 101)
  k : KeepsOthers Ws W
  b : Below w.heap.size Ws W
theorem RdC.on {w : World} {eb rb : Nat} {s j m g o : Int} {mv tv rv : Value} {Bx : Nat} {mi mf : Int} {Ws : World} {v : Value} {E : List (Int × Int)} {W W' : World} (h : RdC w eb rb s j m g o mv tv rv Bx mi mf Ws v E W) (hb : Below W.heap.size W W') : RdC w eb rb s j m g o mv tv rv Bx mi mf Ws v E W' :=
  ⟨h.S.on hb, owns_on h.own hb, blkOn hb h.x, h.k.trans (keepsOfBelow hb), h.b.trans (hb.mono h.S.low.size)⟩
theorem RdC.app {w : World} {eb rb : Nat} {s j m g o : Int} {mv tv rv : Value} {Bx : Nat} {mi mf : Int} {Ws : World} {v v' : Value} {E E' : List (Int × Int)} {W w1 : World} (h : RdC w eb rb s j m g o mv tv rv Bx mi mf Ws v E W) (he : w.heap.size + 1 + 1 + 1 + 1 < eb) (her : eb ≠ rb) (hex : Bx ≠ eb)
    (hg : W.grownBy w1 v.ownBlock) (hown' : w1.ownsRow w.heap.size 48 2 v' E'.length (cells2 E')) :
    Boxed w1 eb 28 v ∧ RdC w eb rb s j m g o mv tv rv Bx mi mf Ws v' E' (w1.setCell ⟨eb, 0, none⟩ v') := by
  obtain ⟨h1, h2, h3, h4⟩ := h.S.app he her h.own hg hown'
  have hb : Below w.heap.size W w1 := (Below.refl _ W).grown hg h.S.low.size fun j ej => (h.own.lt j ej).1
  exact ⟨h1, h2, h3, blkSet (blkRow h.x (by decide) h.own hg) hex, h.k.trans h4, (h.b.trans hb).setCell (p := ⟨eb, 0, none⟩) (by show w.heap.size ≤ eb; omega) v'⟩

def feY (v tv : Value) (Bx bt ot i : Nat) (c : Int) : Nat → Value → World → Prop
  | 0, u, _ => u = v
  | 1, u, _ => u = tv
  | 2, u, _ => u = .pointer (some ⟨Bx, 0, none⟩)
  | 3, u, _ => u = .int .i64 i
  | 4, u, _ => u = .pointer (some ⟨bt, ot + i * 2, none⟩)
  | 5, u, _ => u = .pointer (some ⟨bt, ot + i * 2 + 1, none⟩)
  | 6, u, _ => u = .int .i64 c
  | 7, u, _ => u = .agg #[.int .i64 1, .int .i64 c]
  | 8, u, W => ∃ q, u = .slice (some ⟨q, 0, none⟩) 1 1 ∧ W.cell? ⟨q, 0, none⟩ = some (.int .i64 1) ∧ W.cell? ⟨q, 1, none⟩ = some (.int .i64 c)
  | _, _, _ => True
theorem feY_on {v tv : Value} {Bx bt ot i : Nat} {c : Int} : ∀ jj u w w', feY v tv Bx bt ot i c jj u w → Below w.heap.size w w' → feY v tv Bx bt ot i c jj u w'
  | 0, _, _, _, h, _ => h
  | 1, _, _, _, h, _ => h
  | 2, _, _, _, h, _ => h
  | 3, _, _, _, h, _ => h
  | 4, _, _, _, h, _ => h
  | 5, _, _, _, h, _ => h
  | 6, _, _, _, h, _ => h
  | 7, _, _, _, h, _ => h
  | 8, _, _, _, ⟨q, h1, h2, h3⟩, hb => ⟨q, h1, cellOn hb h2, cellOn hb h3⟩
  | _ + 9, _, _, _, _, _ => trivial
theorem feY_8 {v tv : Value} {Bx bt ot i : Nat} {c : Int} {u : Value} {W : World} (h : feY v tv Bx bt ot i c 8 u W) : ∃ q, u = .slice (some ⟨q, 0, none⟩) 1 1 ∧ W.cell? ⟨q, 0, none⟩ = some (.int .i64 1) ∧ W.cell? ⟨q, 1, none⟩ = some (.int .i64 c) := h

def feZ (w : World) (v ru mv : Value) (Bx : Nat) (mf : Int) (L : List (Int × Int)) : Nat → Value → World → Prop
  | 0, u, _ => u = v
  | 1, u, _ => u = ru
  | 2, u, _ => u = mv
  | 3, u, _ => u = .pointer (some ⟨Bx, 1, none⟩)
  | 4, u, _ => u = .int .i64 mf
  | 5, u, W => (u = .slice none 0 0 ↔ L = []) ∧ W.ownsRow w.heap.size 48 2 u L.length (cells2 L)
  | _, _, _ => True
theorem feZ_on {w : World} {v ru mv : Value} {Bx : Nat} {mf : Int} {L : List (Int × Int)} : ∀ jj u w1 w', feZ w v ru mv Bx mf L jj u w1 → Below w1.heap.size w1 w' → feZ w v ru mv Bx mf L jj u w'
  | 0, _, _, _, h, _ => h
  | 1, _, _, _, h, _ => h
  | 2, _, _, _, h, _ => h
  | 3, _, _, _, h, _ => h
  | 4, _, _, _, h, _ => h
  | 5, _, _, _, h, hb => ⟨h.1, owns_on h.2 hb⟩
  | _ + 6, _, _, _, _, _ => trivial

set_option maxRecDepth 100000 in
set_option maxHeartbeats 8000000 in
theorem implFelt_ok (ad : Option Addr) (len cap : Nat) (f a : Nat → Int) (x0 : Int) (at2 : Option Addr) (n nc : Nat) (tf tc : Nat → Int) (ar : Option Addr) (rc : Nat) (rd : Nat → Int) (s j m g o : Int) (w : World) (hl : len ≤ 1048576) (hrow : SRow w ad len f a) (htk : SRow w at2 n tf tc) (hrd : SRow1 w ar n rd) (hV : Vars w) (hr : rOk s j m g o = true) (hm : marksB f a len = true) (hx : inB x0 0 100000000 = true) (hn2 : n ≤ 2000) :
    Calls Tryd.prog 16 #[.agg #[.int .i64 s, .int .i64 j, .int .i64 m, .int .i64 g, .int .i64 o], .slice ad len cap, .int .i64 x0, .slice at2 n nc, .slice ar n rc] w fun e w' => ∃ v, e = .returned v ∧ Felts w (feltA s j m g o f a len x0 tf tc rd n n) v w' := by
  have i2 : ¬ (2000 : Int) < (n : Int) := by omega
  obtain ⟨bt, ot, hT1⟩ := htk.at
  obtain ⟨br, orr, hR1⟩ := hrd.at
  have hx0 : 0 ≤ x0 ∧ x0 ≤ 100000000 := by
    simpa only [inB, Bool.and_eq_true, decide_eq_true_eq] using hx
  refine (callsIn_wide (n := 3)).1 ?_
  refine callsIn_of_wp_marks Tryd.func16 rfl trivial ?_ rfl
  simp only [Tryd.ntmps16, List.size_toArray, List.length_cons, List.length_nil, Nat.reduceAdd, Nat.reduceSub, Array.replicate_succ, Array.replicate_zero, List.push_toArray, List.append_toArray, List.nil_append, List.cons_append]
  have hF0 := feB_new w s j m g o (.slice ad len cap) (.slice at2 n nc) (.slice ar n rc)
  unfold feW at hF0
  gi_wp2_with fail
  refine ⟨trivial, (callsIn_wide.2 (implRulesOk_c _ _ _ _ _ _)).mono ?_⟩
  rintro e w1 ⟨rfl, hb1⟩
  simp only [hr]
  have hF1 := hF0.on hb1
  clear hF0 hb1
  have c1 := hF1.k.cell
  gi_wp2_with fail
  refine ⟨trivial, (callsIn_wide.2 (implMarksOk_sx ad len cap f a _ hl (hrow.on hF1.low))).mono ?_⟩
  rintro e w2 ⟨rfl, hb2⟩
  simp only [hm]
  have hF2 := hF1.on hb2
  clear hF1 hb2 c1
  gi_wp2_with fail
  refine ⟨trivial, (callsIn_wide.2 (upTo_c _ _)).mono ?_⟩
  rintro e w3 ⟨rfl, hb3⟩
  have hF3 := hF2.on hb3
  clear hF2 hb3
  gi_wp2_with fail
  refine ⟨trivial, (callsIn_wide.2 (has_c _ _ _ _)).mono ?_⟩
  rintro e w4 ⟨rfl, hb4⟩
  simp only [hx]
  have hF4 := hF3.on hb4
  clear hF3 hb4
  have c2 := hF4.t.cell
  have c3 := hF4.d.cell
  obtain ⟨i0', hi, hz0, hz1, hz2⟩ := info_parts infoEv
  have hmk := run_makeSlice (P := Tryd.prog) w4 28 48 i0' (.agg #[.int .i64 0, .int .i64 0]) Tryd.underlying28 hi hz0 .i64 .i64 0 n (by omega) (by omega) (by rw [hz1]; omega) (by rw [hz2]; omega) (by omega)
  have hF5 := hF4.on (nbAlloc (nbAlloc (Below.refl w4.heap.size w4) (.cells (madeCells #[.int .i64 0, .int .i64 0] (n * 2)) 48)) (.cells #[.slice (some ⟨w4.heap.size, 0, none⟩) 0 n] 28))
  have r0 := (rules0 hF5.r).1
  have r1 := (rules0 hF5.r).2.1
  have r2 := (rules0 hF5.r).2.2.1
  have r3 := (rules0 hF5.r).2.2.2.1
  have r4 := (rules0 hF5.r).2.2.2.2
  have t5 := hF5.t.cell
  gi_wp2_with fail
  refine ⟨trivial, (callsIn_wide.2 (moments_c _ _ _ _ _ _ _ _ _ _)).mono ?_⟩
  rintro e w6 ⟨rfl, rfl⟩
  gi_wp2_with fail
  have hs4 : w.heap.size + 1 + 1 + 1 + 1 < w4.heap.size := hF4.q.lt
  have eb0 : Boxed ((w4.alloc (.cells (madeCells #[.int .i64 0, .int .i64 0] (n * 2)) 48)).alloc (.cells #[.slice (some ⟨w4.heap.size, 0, none⟩) 0 n] 28)) (w4.heap.size + 1) 28 (.slice (some ⟨w4.heap.size, 0, none⟩) 0 n) := newBlkD _ _ (by simp)
  have rb0 : (((w4.alloc (.cells (madeCells #[.int .i64 0, .int .i64 0] (n * 2)) 48)).alloc (.cells #[.slice (some ⟨w4.heap.size, 0, none⟩) 0 n] 28)).alloc (.cells #[.int .i64 s, .int .i64 j, .int .i64 m, .int .i64 g, .int .i64 o] 24)).heap[w4.heap.size + 1 + 1]? = some (.cells #[.int .i64 s, .int .i64 j, .int .i64 m, .int .i64 g, .int .i64 o] 24) := newBlkD _ _ (by simp)
  have xb0 : (((((w4.alloc (.cells (madeCells #[.int .i64 0, .int .i64 0] (n * 2)) 48)).alloc (.cells #[.slice (some ⟨w4.heap.size, 0, none⟩) 0 n] 28)).alloc (.cells #[.int .i64 s, .int .i64 j, .int .i64 m, .int .i64 g, .int .i64 o] 24)).alloc (.cells #[.int .i64 x0] 3))).heap[w4.heap.size + 1 + 1 + 1]? = some (.cells #[.int .i64 x0] 3) := newBlkD _ _ (by simp)
  have tb0 : Boxed (((((w4.alloc (.cells (madeCells #[.int .i64 0, .int .i64 0] (n * 2)) 48)).alloc (.cells #[.slice (some ⟨w4.heap.size, 0, none⟩) 0 n] 28)).alloc (.cells #[.int .i64 s, .int .i64 j, .int .i64 m, .int .i64 g, .int .i64 o] 24)).alloc (.cells #[.int .i64 x0] 3)).alloc (.cells #[(.slice at2 n nc)] 39)) (w4.heap.size + 1 + 1 + 1 + 1) 39 (.slice at2 n nc) := newBlkD _ _ (by simp)
  have ow0 : ((w4.alloc (.cells (madeCells #[.int .i64 0, .int .i64 0] (n * 2)) 48)).alloc (.cells #[.slice (some ⟨w4.heap.size, 0, none⟩) 0 n] 28)).ownsRow w.heap.size 48 2 (.slice (some ⟨w4.heap.size, 0, none⟩) 0 n) 0 [] := (World.ownsRow_made w4 (madeCells #[.int .i64 0, .int .i64 0] (n * 2)) n (by omega) (by unfold maxLen; omega) (by simp [madeCells])).alloc _
  have hA1 : ∀ (W : World) (o : Obj), Below W.heap.size W (W.alloc o) := fun W o => nbAlloc (Below.refl _ _) o
  have hB50 : Below ((w4.alloc (.cells (madeCells #[.int .i64 0, .int .i64 0] (n * 2)) 48)).alloc (.cells #[.slice (some ⟨w4.heap.size, 0, none⟩) 0 n] 28)).heap.size ((w4.alloc (.cells (madeCells #[.int .i64 0, .int .i64 0] (n * 2)) 48)).alloc (.cells #[.slice (some ⟨w4.heap.size, 0, none⟩) 0 n] 28)) (((((w4.alloc (.cells (madeCells #[.int .i64 0, .int .i64 0] (n * 2)) 48)).alloc (.cells #[.slice (some ⟨w4.heap.size, 0, none⟩) 0 n] 28)).alloc (.cells #[.int .i64 s, .int .i64 j, .int .i64 m, .int .i64 g, .int .i64 o] 24)).alloc (.cells #[.int .i64 x0] 3)).alloc (.cells #[(.slice at2 n nc)] 39)) := nbTrans (nbTrans (hA1 _ _) (hA1 _ _)) (hA1 _ _)
  have hz : (((((w4.alloc (.cells (madeCells #[.int .i64 0, .int .i64 0] (n * 2)) 48)).alloc (.cells #[.slice (some ⟨w4.heap.size, 0, none⟩) 0 n] 28)).alloc (.cells #[.int .i64 s, .int .i64 j, .int .i64 m, .int .i64 g, .int .i64 o] 24)).alloc (.cells #[.int .i64 x0] 3)).alloc (.cells #[(.slice at2 n nc)] 39)).heap.size = w4.heap.size + 1 + 1 + 1 + 1 + 1 := by simp
  have hS0 : FeS w (w4.heap.size + 1) (w4.heap.size + 1 + 1) s j m g o (.slice ad len cap) (.slice at2 n nc) (.slice ar n rc) (.slice (some ⟨w4.heap.size, 0, none⟩) 0 n) (((((w4.alloc (.cells (madeCells #[.int .i64 0, .int .i64 0] (n * 2)) 48)).alloc (.cells #[.slice (some ⟨w4.heap.size, 0, none⟩) 0 n] 28)).alloc (.cells #[.int .i64 s, .int .i64 j, .int .i64 m, .int .i64 g, .int .i64 o] 24)).alloc (.cells #[.int .i64 x0] 3)).alloc (.cells #[(.slice at2 n nc)] 39)) := ⟨(hF5.on hB50).r, (hF5.on hB50).k, (hF5.on hB50).t, (hF5.on hB50).d, (hF5.on hB50).q, blkOn hB50 eb0, blkOn (nbTrans (hA1 _ _) (hA1 _ _)) rb0, (hF5.on hB50).low⟩
  have ow1 := owns_on ow0 hB50
  have xb1 : Boxed (((((w4.alloc (.cells (madeCells #[.int .i64 0, .int .i64 0] (n * 2)) 48)).alloc (.cells #[.slice (some ⟨w4.heap.size, 0, none⟩) 0 n] 28)).alloc (.cells #[.int .i64 s, .int .i64 j, .int .i64 m, .int .i64 g, .int .i64 o] 24)).alloc (.cells #[.int .i64 x0] 3)).alloc (.cells #[(.slice at2 n nc)] 39)) (w4.heap.size + 1 + 1 + 1) 3 (.int .i64 x0) := blkOn (hA1 _ _) xb0
  clear eb0 rb0 xb0 ow0 hB50 hA1 r0 r1 r2 r3 r4 t5 hF5 hF4 c2 c3 hmk
  obtain ⟨W0, hW0⟩ : ∃ W0, (((((w4.alloc (.cells (madeCells #[.int .i64 0, .int .i64 0] (n * 2)) 48)).alloc (.cells #[.slice (some ⟨w4.heap.size, 0, none⟩) 0 n] 28)).alloc (.cells #[.int .i64 s, .int .i64 j, .int .i64 m, .int .i64 g, .int .i64 o] 24)).alloc (.cells #[.int .i64 x0] 3)).alloc (.cells #[(.slice at2 n nc)] 39)) = W0 := ⟨_, rfl⟩
  rw [hW0] at hz hS0 ow1 xb1 tb0 ⊢
  clear hW0
  have hbt : 0 < n → bt < w.heap.size := fun h => ltCell (hT1.2 0 h).1
  refine wpIn_rangeFunc_ownH (F := Fence.wide) rfl (by omega) (gf := 85) (lb := #[.pointer (some ⟨w4.heap.size + 1 + 1 + 1, 0, none⟩), .pointer (some ⟨w4.heap.size + 1 + 1 + 1 + 1, 0, none⟩), .pointer (some ⟨w4.heap.size + 1 + 1, 0, none⟩)]) rfl trivial (enters_of Tryd.func85 (by kernel_rfl) rfl)
    (moments_stops _ w.heap.size (w4.heap.size + 1 + 1 + 1) (w4.heap.size + 1 + 1 + 1 + 1) (w4.heap.size + 1 + 1) bt ot n nc at2 s j m g o x0 tf tc W0 hr hn2 hx0.1 hx0.2 (by omega) (by omega) xb1.cell tb0.cell hS0.b ⟨hT1.1, hT1.2.on hS0.low⟩ hbt)
    KpR_t (KpR_b (by omega) (by omega)) (Below.refl _ _) (fun _ => rfl)
    (fun pre W => ∃ v, FeS w (w4.heap.size + 1) (w4.heap.size + 1 + 1) s j m g o (.slice ad len cap) (.slice at2 n nc) (.slice ar n rc) v W ∧ W.ownsRow w.heap.size 48 2 v (evsT m f a len x0 tf tc rd pre).length (cells2 (evsT m f a len x0 tf tc rd pre)) ∧ (∀ i ∈ pre, feltT x0 tf tc i.1 = true) ∧ (evsT m f a len x0 tf tc rd pre).length ≤ 2000)
    (fun c pre W => c = .ret ∧ ((∃ i ∈ pre, feltT x0 tf tc i.1 = false) ∨ 2000 < (evsT m f a len x0 tf tc rd pre).length) ∧ Boxed W (w.heap.size + 1 + 1 + 1 + 1) 28 (.slice none 0 0) ∧ Below w.heap.size w W)
    (fun pre A C row h hg hr' => by
      obtain ⟨v, h1, h2, h3, h4⟩ := h
      exact ⟨v, h1.own hg (fun r e => ⟨by have := (hr' r e).1; omega, (hr' r e).2⟩), owns_kept h2 hg (fun r e => (hr' r e).2), h3, h4⟩)
    (fun c pre A C row h hg hr' => ⟨h.1, h.2.1, blkKept h.2.2.1 rfl hg (fun r e => (hr' r e).2), h.2.2.2.grown hg h.2.2.2.size (fun r e => by have := (hr' r e).1; omega)⟩)
    ⟨_, hS0, ow1, by simp, by simp [evsT]⟩
    (fun x a' W => ∃ Bx, w4.heap.size + 1 < Bx ∧ W.heap[Bx]? = some (.cells #[.int .i64 (momI tf tc x.1), .int .i64 (momF x0 tf tc x.1)] 101) ∧ a' = { tmps := #[(.agg #[.int .i64 s, .int .i64 j, .int .i64 m, .int .i64 g, .int .i64 o]), (.slice ad len cap), (.int .i64 x0), (.slice at2 n nc), (.slice ar n rc), (.pointer (some ⟨w.heap.size, 0, none⟩)), (.pointer (some ⟨w.heap.size + 1, 0, none⟩)), undef, (.pointer (some ⟨w.heap.size + 1 + 1, 0, none⟩)), (.pointer (some ⟨w.heap.size + 1 + 1 + 1, 0, none⟩)), (.pointer (some ⟨w.heap.size + 1 + 1 + 1 + 1, 0, none⟩)), (.pointer (some ⟨w4.heap.size + 1, 0, none⟩)), (.pointer (some ⟨Bx, 0, none⟩)), (erT s j x0 tf tc x.1), (.agg #[.int .i64 s, .int .i64 j, .int .i64 m, .int .i64 g, .int .i64 o]), (.bool true), (.bool false), (.bool false), (.slice ad len cap), (.bool true), (.bool false), (.bool false), (.bool false), (.agg #[.int .i64 0, .int .i64 100000000]), (.int .i64 x0), (.bool true), (.bool false), (.bool false), (.bool false), (.slice at2 n nc), (.int .i64 n), (.bool (decide (2000 < (n : Int)))), (.bool (decide (2000 < (n : Int)))), (.bool (decide (2000 < (n : Int)))), (.slice ar n rc), (.int .i64 n), (.slice at2 n nc), (.int .i64 n), (.bool false), (.bool (decide (2000 < (n : Int)))), (.slice at2 n nc), (.int .i64 n), (.slice (some ⟨w4.heap.size, 0, none⟩) 0 n), (.agg #[.int .i64 s, .int .i64 j, .int .i64 m, .int .i64 g, .int .i64 o]), (.int .i64 x0), (.slice at2 n nc), (.func (.func 85) #[] #[(.pointer (some ⟨w4.heap.size + 1 + 1 + 1, 0, none⟩)), (.pointer (some ⟨w4.heap.size + 1 + 1 + 1 + 1, 0, none⟩)), (.pointer (some ⟨w4.heap.size + 1 + 1, 0, none⟩))]), (.agg #[.int .i64 (momI tf tc x.1), .int .i64 (momF x0 tf tc x.1)]), (erT s j x0 tf tc x.1), undef, undef, undef, undef, undef, undef, undef, undef, undef, undef, undef, undef, undef, undef, undef, undef, undef, undef, undef, undef, undef, undef, undef, undef, undef, undef, undef, undef, undef], defers := [] })
    (fun x a' _ A C row h hg hr' => by
      obtain ⟨Bx, h1, h2, h3⟩ := h
      exact ⟨Bx, h1, blkKept h2 rfl hg (fun r e => (hr' r e).2), h3⟩)
    ?assign ?body ?done ?stop
  case assign =>
    rintro l pre x W K ⟨v, h1, h2, h3, h4⟩ hK
    gi_wp2
    exact hK _ _ ((KeepsOthers.alloc _ _).from _) ⟨(Below.refl _ W).alloc h1.low.size _, ((Below.refl W.heap.size W).alloc (Nat.le_refl _) _).block _ (Array.getElem?_eq_some_iff.1 h1.b).1⟩ ⟨v, h1.on (nbAlloc (Below.refl _ _) _), h2.alloc _, h3, h4⟩ ⟨W.heap.size, h1.e.lt, newBlkD _ _ rfl, rfl⟩
  case body =>
    rintro l pre x a' W hll ⟨r, hrl⟩ ⟨v, hS, hown, hgood, hlen⟩ ⟨Bx, hBx, bX, rfl⟩ hlt
    have HF := hasFault_e s j x0 tf tc x.1 W (hV.on hS.low)
    cases ht : feltT x0 tf tc x.1
    · rw [ht] at HF
      gi_wp2_with fail
      refine ⟨trivial, (CallsIn.inRound l (callsIn_wide.2 HF)).mono ?_⟩
      rintro e w3 ⟨rfl, hb3⟩
      simp only [Bool.not_false]
      have hS3 := hS.on hb3
      have z0 := hS3.q.cell
      have z1 := hS3.q.frozen
      gi_wp2
      exact ⟨(KeepsOthers.trans (keepsOfBelow hb3) (KeepsOthers.setCell _ _ _)).from _, rfl, .inl ⟨x, by simp, ht⟩, hS3.q.set _, hS3.set⟩
    · rw [ht] at HF
      have hnb : numB (tf x.1) (tc x.1) = true := by simp only [feltT, Bool.and_eq_true] at ht; exact ht.1
      have hpx : pos x0 tf (x.1 + 1) ≤ 100000000 := by simp only [feltT, Bool.and_eq_true, decide_eq_true_eq] at ht; exact ht.2
      have hI : Hid (momI tf tc x.1 = x.1) := by unfold Hid momI; rw [hnb]; rfl
      have hF : Hid (momF x0 tf tc x.1 = pos x0 tf (x.1 + 1)) := by unfold Hid momF; rw [hnb]; rfl
      rw [hI.out, hF.out] at bX
      gi_wp2_with fail
      refine ⟨trivial, (CallsIn.inRound l (callsIn_wide.2 HF)).mono ?_⟩
      rintro e w3 ⟨rfl, hb3⟩
      simp only [Bool.not_true]
      have hR3 : RdC w (w4.heap.size + 1) (w4.heap.size + 1 + 1) s j m g o (.slice ad len cap) (.slice at2 n nc) (.slice ar n rc) Bx x.1 (pos x0 tf (x.1 + 1)) W v (evsT m f a len x0 tf tc rd pre) w3 := RdC.on ⟨hS, hown, bX, KeepsOthers.refl _, Below.refl _ _⟩ hb3
      clear hb3 HF
      gi_wp2_with fail
      have hxn := x.2
      have et := hT1.1 (by omega)
      have er := hR1.1 (by omega)
      subst et er
      have i0 : (0 : Int) ≤ (x.1 : Int) := by omega
      have i1 : (x.1 : Int) < (n : Int) := by omega
      refine region_tail (RdC _ _ _ _ _ _ _ _ _ _ _ _ _ _ _ _ _) (feY v (.slice (some ⟨bt, ot, none⟩) n nc) Bx bt ot x.1 (tc x.1)) 9 rfl rfl (fun _ _ h hb => RdC.on h hb) feY_on (by kernel_rfl) (by kernel_rfl) (by kernel_rfl) (by kernel_rfl) (by rintro ⟨_, _, h⟩; exact h) (hR3.on (Below.drew (Below.refl _ _))) ?_ ?_
      · intro j' o' ho hj vs w1 hC hw
        have e0 := hC.S.e.cell
        have t0 := hC.S.t.cell
        have m0 : w1.cell? ⟨Bx, 0, none⟩ = some (.int .i64 x.1) := by simp [World.cell?, hC.x]
        have d1 := cellOn hC.S.low (hT1.2 x.1 x.2).2
        match j', ho with
        | 0, ho =>
          cases ho
          clear hw
          simp [mix]
          go_simp
          exact ⟨rfl, Below.refl _ _⟩
        | 1, ho =>
          cases ho
          clear hw
          simp [mix]
          go_simp
          exact ⟨rfl, Below.refl _ _⟩
        | 2, ho =>
          cases ho
          clear hw
          simp [mix]
          go_simp
          exact ⟨rfl, Below.refl _ _⟩
        | 3, ho =>
          cases ho
          have y2 : vs 2 = _ := hw 2 (waits_of (by kernel_rfl))
          clear hw
          simp [mix, y2]
          go_simp
          exact ⟨rfl, Below.refl _ _⟩
        | 4, ho =>
          cases ho
          have y1 : vs 1 = _ := hw 1 (waits_of (by kernel_rfl))
          have y3 : vs 3 = _ := hw 3 (waits_of (by kernel_rfl))
          clear hw
          simp [mix, y1, y3]
          go_simp
          exact ⟨rfl, Below.refl _ _⟩
        | 5, ho =>
          cases ho
          have y4 : vs 4 = _ := hw 4 (waits_of (by kernel_rfl))
          clear hw
          simp [mix, y4]
          go_simp
          exact ⟨rfl, Below.refl _ _⟩
        | 6, ho =>
          cases ho
          have y5 : vs 5 = _ := hw 5 (waits_of (by kernel_rfl))
          clear hw
          simp [mix, y5]
          go_simp
          exact ⟨rfl, Below.refl _ _⟩
        | 7, ho =>
          cases ho
          have y6 : vs 6 = _ := hw 6 (waits_of (by kernel_rfl))
          clear hw
          simp [mix, y6]
          go_simp
          exact ⟨rfl, Below.refl _ _⟩
        | 8, ho =>
          cases ho
          have y7 : vs 7 = _ := hw 7 (waits_of (by kernel_rfl))
          clear hw
          simp [mix, y7]
          go_simp
          exact ⟨⟨_, rfl, by go_simp, by go_simp⟩, nbAlloc (Below.refl _ _) _⟩
        | k + 9, ho => omega
      · intro vs w5 hC hy
        have y0 : vs 0 = _ := hy 0 (by omega)
        have y1 : vs 1 = _ := hy 1 (by omega)
        have y2 : vs 2 = _ := hy 2 (by omega)
        have y3 : vs 3 = _ := hy 3 (by omega)
        have y4 : vs 4 = _ := hy 4 (by omega)
        have y5 : vs 5 = _ := hy 5 (by omega)
        have y6 : vs 6 = _ := hy 6 (by omega)
        have y7 : vs 7 = _ := hy 7 (by omega)
        refine Exists.elim (feY_8 (hy 8 (by omega))) (fun q e8 => ?_)
        have y8 := e8.1
        have g0 := e8.2.1
        have g1 := e8.2.2
        clear e8 hy
        obtain ⟨i0', hi, hz0, hz1, hz2⟩ := info_parts infoEv
        refine ⟨?_⟩
        simp [mix, y0, y1, y2, y3, y4, y5, y6, y7, y8]
        refine wp_append w5 (.tmp 51) (.tmp 59) 28 rfl w.heap.size 48 i0' (.agg #[.int .i64 0, .int .i64 0]) 2 16 Tryd.underlying28 hi hz0 hz1 hz2 rfl (by decide) v _ _ ?hs hC.own ⟨q, 0, none⟩ 1 1 [.int .i64 1, .int .i64 (tc x.1)] ?hx rfl ?c1 ?c2 ?c3 ?c4 hC.S.low.size ?_
        case hs => go_simp
        case hx => go_simp
        case c1 =>
          intro jj u hj
          match jj, hj with
          | 0, hj => simp at hj; subst hj; exact g0
          | 1, hj => simp at hj; subst hj; exact g1
        case c2 => intro u hu; simp at hu; rcases hu with rfl | rfl <;> rfl
        case c3 => unfold maxLen; omega
        case c4 => omega
        intro v' w6 hown6 hgrow6 _
        obtain ⟨gb, gc, rfl⟩ := ownsRow_succ hown6
        have hap := hC.app (by omega) (by omega) (by omega) hgrow6 (E' := (evsT m f a len x0 tf tc rd pre) ++ [(1, tc x.1)]) (by rw [cells2_snoc, List.length_append]; exact hown6)
        have z0 := hap.1.cell
        have z1 := hap.1.frozen
        have hR7 := hap.2
        clear hap hown6 hgrow6 hC g0 g1 hi hz0 hz1 hz2 hR3 y0 y1 y2 y3 y4 y5 y6 y7 y8
        refine ⟨?_⟩
        go_simp
        generalize w6.setCell ⟨w4.heap.size + 1, 0, none⟩ (.slice (some ⟨gb, 0, none⟩) ((evsT m f a len x0 tf tc rd pre).length + 1) gc) = w7 at *
        clear z0 z1
        have k0 := hR7.S.d.cell
        have k1 : w7.cell? ⟨Bx, 0, none⟩ = some (.int .i64 x.1) := by simp [World.cell?, hR7.x]
        have k2 := cellOn hR7.S.low (hR1.2 x.1 x.2)
        by_cases h1 : rd x.1 = 1
        · have h1' : (rd x.1 == 1) = true := by simp [h1]
          gi_wp2_with fail
          clear k0 k1 k2
          have hml := marks_len hm
          have hLl : (mkHit f a m 1 (pos x0 tf (x.1 + 1)) len).length ≤ len := mkHit_lenF
          refine region_tail (RdC _ _ _ _ _ _ _ _ _ _ _ _ _ _ _ _ _) (feZ w (.slice (some ⟨gb, 0, none⟩) ((evsT m f a len x0 tf tc rd pre).length + 1) gc) (.agg #[.int .i64 s, .int .i64 j, .int .i64 m, .int .i64 g, .int .i64 o]) (.slice ad len cap) Bx (pos x0 tf (x.1 + 1)) (mkHit f a m 1 (pos x0 tf (x.1 + 1)) len)) 6 rfl rfl (fun _ _ h hb => RdC.on h hb) feZ_on (by kernel_rfl) (by kernel_rfl) (by kernel_rfl) (by kernel_rfl) (by rintro ⟨_, _, h⟩; exact h) (hR7.on (Below.drew (Below.refl _ _))) ?_ ?_
          · intro j' o' ho hj vs w1 hC hw
            have e0 := hC.S.e.cell
            have u0 := hC.S.k.cell
            have r0 := (rules0 hC.S.r).1
            have r1 := (rules0 hC.S.r).2.1
            have r2 := (rules0 hC.S.r).2.2.1
            have r3 := (rules0 hC.S.r).2.2.2.1
            have r4 := (rules0 hC.S.r).2.2.2.2
            have m0 : w1.cell? ⟨Bx, 1, none⟩ = some (.int .i64 (pos x0 tf (x.1 + 1))) := by simp [World.cell?, hC.x]
            match j', ho with
            | 0, ho =>
              cases ho
              clear hw
              simp [mix]
              go_simp
              exact ⟨rfl, Below.refl _ _⟩
            | 1, ho =>
              cases ho
              clear hw
              simp [mix]
              go_simp
              exact ⟨rfl, Below.refl _ _⟩
            | 2, ho =>
              cases ho
              clear hw
              simp [mix]
              go_simp
              exact ⟨rfl, Below.refl _ _⟩
            | 3, ho =>
              cases ho
              clear hw
              simp [mix]
              go_simp
              exact ⟨rfl, Below.refl _ _⟩
            | 4, ho =>
              cases ho
              have y3 : vs 3 = _ := hw 3 (waits_of (by kernel_rfl))
              clear hw
              simp [mix, y3]
              go_simp
              exact ⟨rfl, Below.refl _ _⟩
            | 5, ho =>
              cases ho
              have y1 : vs 1 = _ := hw 1 (waits_of (by kernel_rfl))
              have y2 : vs 2 = _ := hw 2 (waits_of (by kernel_rfl))
              have y4 : vs 4 = _ := hw 4 (waits_of (by kernel_rfl))
              clear hw
              simp [mix, y1, y2, y4]
              go_simp
              refine (readsAt_c ad len cap f a _ s j m g o _ (hrow.on hC.S.low) hr hm hpx).mono ?_
              rintro e w9 ⟨v2, rfl, hnl, hFe⟩
              exact ⟨_, rfl, ⟨hnl, owns_base hFe.1 hC.S.low.size⟩, hFe.2⟩
            | k + 6, ho => omega
          · intro vs w9 hC hy
            have y0 : vs 0 = _ := hy 0 (by omega)
            have y1 : vs 1 = _ := hy 1 (by omega)
            have y2 : vs 2 = _ := hy 2 (by omega)
            have y3 : vs 3 = _ := hy 3 (by omega)
            have y4 : vs 4 = _ := hy 4 (by omega)
            have y5 : (vs 5 = .slice none 0 0 ↔ (mkHit f a m 1 (pos x0 tf (x.1 + 1)) len) = []) ∧ w9.ownsRow w.heap.size 48 2 (vs 5) (mkHit f a m 1 (pos x0 tf (x.1 + 1)) len).length (cells2 (mkHit f a m 1 (pos x0 tf (x.1 + 1)) len)) := hy 5 (by omega)
            clear hy
            obtain ⟨i0', hi, hz0, hz1, hz2⟩ := info_parts infoEv
            by_cases hLn : (mkHit f a m 1 (pos x0 tf (x.1 + 1)) len) = []
            · have y6 := y5.1.2 hLn
              clear y5
              have hap := hC.app (by omega) (by omega) (by omega) ⟨rfl, rfl, rfl, Nat.le_refl _, fun _ _ _ => rfl⟩ hC.own
              have z0 := hap.1.cell
              have z1 := hap.1.frozen
              have hR8 := hap.2
              have hO := hC.own
              clear hap
              have hE : (evsT m f a len x0 tf tc rd pre) ++ [(1, tc x.1)] = evsT m f a len x0 tf tc rd (pre ++ [x]) ∧ ((evsT m f a len x0 tf tc rd pre) ++ [(1, tc x.1)]).length = (evsT m f a len x0 tf tc rd pre).length + 1 := ⟨by simp [evsT, evT, h1, hLn], by simp⟩
              have HE : Hid _ := hE
              clear hE hR7
              refine ⟨?_⟩
              simp [mix, y0, y1, y2, y3, y4, y6]
              refine wp_append_none w9 (.tmp 67) (.tmp 72) 28 rfl w.heap.size 48 i0' 2 Tryd.underlying28 hi _ _ _ ?hs hO ?hx ?_
              case hs => go_simp
              case hx => go_simp
              clear hO hC y0 y1 y2 y3 y4 y6 hi hz0 hz1 hz2
              refine ⟨?_⟩
              go_simp
              generalize w9.setCell ⟨w4.heap.size + 1, 0, none⟩ (.slice (some ⟨gb, 0, none⟩) ((evsT m f a len x0 tf tc rd pre).length + 1) gc) = w10 at *
              clear z0 z1
              have f0 := hR8.S.e.cell
              have f1 := hR8.S.q.cell
              have f2 := hR8.S.q.frozen
              have hgood2 : ∀ i ∈ pre ++ [x], feltT x0 tf tc i.1 = true := fun i hi => (List.mem_append.1 hi).elim (hgood i) (fun e => by simp at e; subst e; exact ht)
              by_cases h2k : 2000 < (evsT m f a len x0 tf tc rd pre).length + 1
              · have h2k' : (2000 : Int) < (((evsT m f a len x0 tf tc rd pre).length + 1 : Nat) : Int) := by omega
                gi_wp2
                exact ⟨(hR8.k.trans (KeepsOthers.setCell _ _ _)).from _, rfl, .inr (by rw [← HE.out.1, HE.out.2]; exact h2k), hR8.S.q.set _, hR8.S.set⟩
              · have h2k' : ¬ (2000 : Int) < (((evsT m f a len x0 tf tc rd pre).length + 1 : Nat) : Int) := by omega
                gi_wp2
                exact ⟨hR8.k.from _, ⟨hR8.b, hR8.S.b.trans hS.b.symm⟩, _, hR8.S, by rw [← HE.out.1]; exact hR8.own, hgood2, by rw [← HE.out.1, HE.out.2]; omega⟩
            · obtain ⟨kk, hkk⟩ : ∃ kk, (mkHit f a m 1 (pos x0 tf (x.1 + 1)) len).length = kk + 1 := Nat.exists_eq_succ_of_ne_zero (fun h0 => hLn (List.length_eq_zero_iff.1 h0))
              have hO5 := y5.2
              rw [hkk] at hO5
              obtain ⟨gq, gqc, y6⟩ := ownsRow_succ hO5
              rw [y6] at hO5
              have hcl5 := hO5.cells (g := gq) rfl
              clear y5
              refine ⟨?_⟩
              simp [mix, y0, y1, y2, y3, y4, y6]
              refine wp_append w9 (.tmp 67) (.tmp 72) 28 rfl w.heap.size 48 i0' (.agg #[.int .i64 0, .int .i64 0]) 2 16 Tryd.underlying28 hi hz0 hz1 hz2 rfl (by decide) _ _ _ ?hs hC.own ⟨gq, 0, none⟩ (kk + 1) gqc (cells2 (mkHit f a m 1 (pos x0 tf (x.1 + 1)) len)) ?hx (by rw [cells2_len, hkk]) hcl5 cells2_one ?c3 ?c4 hC.S.low.size ?_
              case hs => go_simp
              case hx => go_simp
              case c3 => unfold maxLen; simp; omega
              case c4 => simp; omega
              intro v' w10 hown10 hgrow10 _
              obtain ⟨N, hN⟩ : ∃ N, ((evsT m f a len x0 tf tc rd pre) ++ [(1, tc x.1)]).length + (kk + 1) = N := ⟨_, rfl⟩
              rw [hN] at hown10
              obtain ⟨ga, gcc, rfl⟩ := owns_shape hown10
              have hap := hC.app (by omega) (by omega) (by omega) hgrow10 (E' := (evsT m f a len x0 tf tc rd pre) ++ [(1, tc x.1)] ++ (mkHit f a m 1 (pos x0 tf (x.1 + 1)) len)) (by rw [cells2_append, List.length_append, hkk, hN]; exact hown10)
              have z0 := hap.1.cell
              have z1 := hap.1.frozen
              have hR8 := hap.2
              have hE : (evsT m f a len x0 tf tc rd pre) ++ [(1, tc x.1)] ++ (mkHit f a m 1 (pos x0 tf (x.1 + 1)) len) = evsT m f a len x0 tf tc rd (pre ++ [x]) ∧ ((evsT m f a len x0 tf tc rd pre) ++ [(1, tc x.1)] ++ (mkHit f a m 1 (pos x0 tf (x.1 + 1)) len)).length = N := ⟨by simp [evsT, evT, h1], by rw [List.length_append, hkk, hN]⟩
              have HE : Hid _ := hE
              clear hap hown10 hgrow10 hC hi hz0 hz1 hz2 hR7 y0 y1 y2 y3 y4 y6 hO5 hcl5 hE hN hkk
              refine ⟨?_⟩
              go_simp
              generalize w10.setCell ⟨w4.heap.size + 1, 0, none⟩ (.slice ga N gcc) = w11 at *
              clear z0 z1
              have f0 := hR8.S.e.cell
              have f1 := hR8.S.q.cell
              have f2 := hR8.S.q.frozen
              have hgood2 : ∀ i ∈ pre ++ [x], feltT x0 tf tc i.1 = true := fun i hi => (List.mem_append.1 hi).elim (hgood i) (fun e => by simp at e; subst e; exact ht)
              by_cases h2k : 2000 < N
              · have h2k' : (2000 : Int) < ((N : Nat) : Int) := by omega
                gi_wp2
                exact ⟨(hR8.k.trans (KeepsOthers.setCell _ _ _)).from _, rfl, .inr (by rw [← HE.out.1, HE.out.2]; exact h2k), hR8.S.q.set _, hR8.S.set⟩
              · have h2k' : ¬ (2000 : Int) < ((N : Nat) : Int) := by omega
                gi_wp2
                exact ⟨hR8.k.from _, ⟨hR8.b, hR8.S.b.trans hS.b.symm⟩, _, hR8.S, by rw [← HE.out.1]; exact hR8.own, hgood2, by rw [← HE.out.1, HE.out.2]; omega⟩
        · have h1' : (rd x.1 == 1) = false := by simpa using h1
          have hE : (evsT m f a len x0 tf tc rd pre) ++ [(1, tc x.1)] = evsT m f a len x0 tf tc rd (pre ++ [x]) ∧ ((evsT m f a len x0 tf tc rd pre) ++ [(1, tc x.1)]).length = (evsT m f a len x0 tf tc rd pre).length + 1 := ⟨by simp [evsT, evT, mkHit_none h1], by simp⟩
          have HE : Hid _ := hE
          clear hE
          have f0 := hR7.S.e.cell
          have f1 := hR7.S.q.cell
          have f2 := hR7.S.q.frozen
          have hgood2 : ∀ i ∈ pre ++ [x], feltT x0 tf tc i.1 = true := fun i hi => (List.mem_append.1 hi).elim (hgood i) (fun e => by simp at e; subst e; exact ht)
          by_cases h2k : 2000 < (evsT m f a len x0 tf tc rd pre).length + 1
          · have h2k' : (2000 : Int) < (((evsT m f a len x0 tf tc rd pre).length + 1 : Nat) : Int) := by omega
            gi_wp2
            exact ⟨(hR7.k.trans (KeepsOthers.setCell _ _ _)).from _, rfl, .inr (by rw [← HE.out.1, HE.out.2]; exact h2k), hR7.S.q.set _, hR7.S.set⟩
          · have h2k' : ¬ (2000 : Int) < (((evsT m f a len x0 tf tc rd pre).length + 1 : Nat) : Int) := by omega
            gi_wp2
            exact ⟨hR7.k.from _, ⟨hR7.b, hR7.S.b.trans hS.b.symm⟩, _, hR7.S, by rw [← HE.out.1]; exact hR7.own, hgood2, by rw [← HE.out.1, HE.out.2]; omega⟩
  case done =>
    rintro D ys W hD ⟨k, hk, rfl, hS⟩ ⟨v, h1, h2, h3, h4⟩ hK
    obtain ⟨qa, qc, rfl⟩ := owns_shape h2
    have z0 := h1.e.cell
    have z1 := h1.q.cell
    have z2 := h1.q.frozen
    gi_wp2
    have hK' := (KeepsOthers.setCell W ⟨w.heap.size + 1 + 1 + 1 + 1, 0, none⟩ (.slice qa (evsT m f a len x0 tf tc rd (up n k)).length qc)).same D _ hK rfl
    refine ⟨by simp, .inl ⟨_, _, rfl, run_takeDeferred hK', ?_⟩⟩
    have hc5 := cell_kept (World.cell?_setCell_same' W ⟨w.heap.size + 1 + 1 + 1 + 1, 0, none⟩ (.slice qa (evsT m f a len x0 tf tc rd (up n k)).length qc) (by rw [z1]; rfl)) (grownBy_putObj' _ D (.deferred none)) (fun r e => by cases e; exact ⟨_, hK', rfl⟩)
    have hkn : k = n := by
      rcases hS with h | ⟨i2, e1, e2⟩
      · exact h
      · have := h3 i2 e1
        simp [feltT, e2] at this
    subst hkn
    have hto : feltTo x0 tf tc k = true := by
      unfold feltTo
      rw [List.all_eq_true]
      intro i hi
      exact h3 ⟨i, by simpa using hi⟩ (by rw [up_all]; exact List.mem_finRange _)
    have hfe : feltA s j m g o f a len x0 tf tc rd k k = evsT m f a len x0 tf tc rd (up k k) := by
      rw [evsT_up (Nat.le_refl _)] at h4 ⊢
      unfold feltA feltOk
      rw [hr, hm, hx, hto]
      simp [hn2, h4]
    refine ⟨.slice qa (evsT m f a len x0 tf tc rd (up k k)).length qc, ?_, _, rfl, ?_, (h1.low.setCell (p := ⟨w.heap.size + 1 + 1 + 1 + 1, 0, none⟩) (by show w.heap.size ≤ w.heap.size + 1 + 1 + 1 + 1; omega) _).trans (belowK_b (w := w) (Nat.le_refl _) _ D _ _ (by omega) hK' rfl rfl)⟩
    · simp [results, Tryd.f16, go_sem, hc5]
    · rw [hfe]
      exact ownsRow_putObj (h2.kept (grownBy_setCell' W _ _) (.inr (h1.q.not_row (by decide) h2).symm)) _ hK' rfl
  case stop =>
    rintro D c pre W hD ⟨k, hk, rfl⟩ ⟨rfl, hbad, hq, hB⟩ hK
    gi_wp2
    refine ⟨by simp, .inl ⟨_, _, rfl, run_takeDeferred hK, ?_⟩⟩
    have hc5 := cell_kept hq.cell (grownBy_putObj' _ D (.deferred none)) (fun r e => by cases e; exact ⟨_, hK, rfl⟩)
    have hno : feltOk s j m g o f a len x0 tf tc rd n n = false := by
      rcases hbad with ⟨i, _, hi⟩ | hbig
      · simp [feltOk, feltTo_no i.2 hi]
      · rw [evsT_up hk] at hbig
        have := feltE_le (m := m) (f := f) (a := a) (len := len) (x0 := x0) (tf := tf) (tc := tc) (rd := rd) hk
        have h9 : ¬ (feltE m f a len x0 tf tc rd n).length ≤ 2000 := by omega
        simp [feltOk, h9]
    refine ⟨.slice none 0 0, ?_, _, rfl, by rw [feltA_no hno]; exact World.ownsRow_nil _ _ _ _, hB.trans (belowK_b (w := w) (Nat.le_refl _) W D _ _ (by omega) hK rfl rfl)⟩
    simp [results, Tryd.f16, go_sem, hc5]

end Go.Proofs.YtmhppadblddjoaaDoor

/- Chapter 4 of the program: Felt at every argument. -/
namespace Go.Proofs.YtmhppadblddjoaaDoor
open Go.RowKit Go.Shelf

set_option maxRecDepth 100000 in
set_option maxHeartbeats 4000000 in
theorem implFelt_bad (ad : Option Addr) (len cap : Nat) (f a : Nat → Int) (x0 : Int) (at2 : Option Addr) (n nc : Nat) (tf tc : Nat → Int) (ar : Option Addr) (rn rc : Nat) (rd : Nat → Int) (s j m g o : Int) (w : World) (hl : len ≤ 1048576) (hrow : SRow w ad len f a) (hbad : (rOk s j m g o && marksB f a len && inB x0 0 100000000 && decide (n ≤ 2000) && decide (rn = n)) = false) :
    Calls Tryd.prog 16 #[.agg #[.int .i64 s, .int .i64 j, .int .i64 m, .int .i64 g, .int .i64 o], .slice ad len cap, .int .i64 x0, .slice at2 n nc, .slice ar rn rc] w fun e w' => ∃ v, e = .returned v ∧ Felts w (feltA s j m g o f a len x0 tf tc rd n rn) v w' := by
  cases hr : rOk s j m g o
  case false =>
    go_enter Tryd.func16, Tryd.ntmps16
    have hF0 := feB_new w s j m g o (.slice ad len cap) (.slice at2 n nc) (.slice ar rn rc)
    unfold feW at hF0
    go_wp2_with fail
    refine (implRulesOk_c _ _ _ _ _ _).mono ?_
    rintro e w1 ⟨rfl, hb1⟩
    simp only [hr]
    have hF1 := hF0.on hb1
    clear hF0 hb1
    have z0 := hF1.q.cell
    have z1 := hF1.q.frozen
    go_wp2_with fail
    have hc5 := World.cell?_setCell_same' w1 ⟨w.heap.size + 1 + 1 + 1 + 1, 0, none⟩ (.slice none 0 0) (by rw [z0]; rfl)
    exact bodyPost_ret (v := .slice none 0 0) (by simp [results, Tryd.f16, go_sem, hc5]) rfl ⟨_, rfl, by rw [feltA_no (by simp [feltOk, hr])]; exact World.ownsRow_nil _ _ _ _, hF1.low.setCell (p := ⟨w.heap.size + 1 + 1 + 1 + 1, 0, none⟩) (by show w.heap.size ≤ w.heap.size + 1 + 1 + 1 + 1; omega) _⟩
  cases hm : marksB f a len
  case false =>
    go_enter Tryd.func16, Tryd.ntmps16
    have hF0 := feB_new w s j m g o (.slice ad len cap) (.slice at2 n nc) (.slice ar rn rc)
    unfold feW at hF0
    go_wp2_with fail
    refine (implRulesOk_c _ _ _ _ _ _).mono ?_
    rintro e w1 ⟨rfl, hb1⟩
    simp only [hr]
    have hF1 := hF0.on hb1
    clear hF0 hb1
    have c1 := hF1.k.cell
    go_wp2_with fail
    refine (implMarksOk_sx ad len cap f a _ hl (hrow.on hF1.low)).mono ?_
    rintro e w2 ⟨rfl, hb2⟩
    simp only [hm]
    have hF2 := hF1.on hb2
    clear hF1 hb2 c1
    have z0 := hF2.q.cell
    have z1 := hF2.q.frozen
    go_wp2_with fail
    have hc5 := World.cell?_setCell_same' w2 ⟨w.heap.size + 1 + 1 + 1 + 1, 0, none⟩ (.slice none 0 0) (by rw [z0]; rfl)
    exact bodyPost_ret (v := .slice none 0 0) (by simp [results, Tryd.f16, go_sem, hc5]) rfl ⟨_, rfl, by rw [feltA_no (by simp [feltOk, hm])]; exact World.ownsRow_nil _ _ _ _, hF2.low.setCell (p := ⟨w.heap.size + 1 + 1 + 1 + 1, 0, none⟩) (by show w.heap.size ≤ w.heap.size + 1 + 1 + 1 + 1; omega) _⟩
  cases hx : inB x0 0 100000000
  case false =>
    go_enter Tryd.func16, Tryd.ntmps16
    have hF0 := feB_new w s j m g o (.slice ad len cap) (.slice at2 n nc) (.slice ar rn rc)
    unfold feW at hF0
    go_wp2_with fail
    refine (implRulesOk_c _ _ _ _ _ _).mono ?_
    rintro e w1 ⟨rfl, hb1⟩
    simp only [hr]
    have hF1 := hF0.on hb1
    clear hF0 hb1
    have c1 := hF1.k.cell
    go_wp2_with fail
    refine (implMarksOk_sx ad len cap f a _ hl (hrow.on hF1.low)).mono ?_
    rintro e w2 ⟨rfl, hb2⟩
    simp only [hm]
    have hF2 := hF1.on hb2
    clear hF1 hb2 c1
    go_wp2_with fail
    refine (upTo_c _ _).mono ?_
    rintro e w3 ⟨rfl, hb3⟩
    have hF3 := hF2.on hb3
    clear hF2 hb3
    go_wp2_with fail
    refine (has_c _ _ _ _).mono ?_
    rintro e w4 ⟨rfl, hb4⟩
    simp only [hx]
    have hF4 := hF3.on hb4
    clear hF3 hb4
    have z0 := hF4.q.cell
    have z1 := hF4.q.frozen
    go_wp2_with fail
    have hc5 := World.cell?_setCell_same' w4 ⟨w.heap.size + 1 + 1 + 1 + 1, 0, none⟩ (.slice none 0 0) (by rw [z0]; rfl)
    exact bodyPost_ret (v := .slice none 0 0) (by simp [results, Tryd.f16, go_sem, hc5]) rfl ⟨_, rfl, by rw [feltA_no (by simp [feltOk, hx])]; exact World.ownsRow_nil _ _ _ _, hF4.low.setCell (p := ⟨w.heap.size + 1 + 1 + 1 + 1, 0, none⟩) (by show w.heap.size ≤ w.heap.size + 1 + 1 + 1 + 1; omega) _⟩
  by_cases h2 : (2000 : Int) < (n : Int)
  · have h2' : ¬ n ≤ 2000 := by omega
    go_enter Tryd.func16, Tryd.ntmps16
    have hF0 := feB_new w s j m g o (.slice ad len cap) (.slice at2 n nc) (.slice ar rn rc)
    unfold feW at hF0
    go_wp2_with fail
    refine (implRulesOk_c _ _ _ _ _ _).mono ?_
    rintro e w1 ⟨rfl, hb1⟩
    simp only [hr]
    have hF1 := hF0.on hb1
    clear hF0 hb1
    have c1 := hF1.k.cell
    go_wp2_with fail
    refine (implMarksOk_sx ad len cap f a _ hl (hrow.on hF1.low)).mono ?_
    rintro e w2 ⟨rfl, hb2⟩
    simp only [hm]
    have hF2 := hF1.on hb2
    clear hF1 hb2 c1
    go_wp2_with fail
    refine (upTo_c _ _).mono ?_
    rintro e w3 ⟨rfl, hb3⟩
    have hF3 := hF2.on hb3
    clear hF2 hb3
    go_wp2_with fail
    refine (has_c _ _ _ _).mono ?_
    rintro e w4 ⟨rfl, hb4⟩
    simp only [hx]
    have hF4 := hF3.on hb4
    clear hF3 hb4
    have c2 := hF4.t.cell
    have z0 := hF4.q.cell
    have z1 := hF4.q.frozen
    go_wp2_with fail
    have hc5 := World.cell?_setCell_same' w4 ⟨w.heap.size + 1 + 1 + 1 + 1, 0, none⟩ (.slice none 0 0) (by rw [z0]; rfl)
    exact bodyPost_ret (v := .slice none 0 0) (by simp [results, Tryd.f16, go_sem, hc5]) rfl ⟨_, rfl, by rw [feltA_no (by simp [feltOk, h2'])]; exact World.ownsRow_nil _ _ _ _, hF4.low.setCell (p := ⟨w.heap.size + 1 + 1 + 1 + 1, 0, none⟩) (by show w.heap.size ≤ w.heap.size + 1 + 1 + 1 + 1; omega) _⟩
  · have h3 : ¬ rn = n := by
      intro e
      have : n ≤ 2000 := by omega
      simp [hr, hm, hx, this, e] at hbad
    have h3' : ((rn : Int) != (n : Int)) = true := by simp; omega
    go_enter Tryd.func16, Tryd.ntmps16
    have hF0 := feB_new w s j m g o (.slice ad len cap) (.slice at2 n nc) (.slice ar rn rc)
    unfold feW at hF0
    go_wp2_with fail
    refine (implRulesOk_c _ _ _ _ _ _).mono ?_
    rintro e w1 ⟨rfl, hb1⟩
    simp only [hr]
    have hF1 := hF0.on hb1
    clear hF0 hb1
    have c1 := hF1.k.cell
    go_wp2_with fail
    refine (implMarksOk_sx ad len cap f a _ hl (hrow.on hF1.low)).mono ?_
    rintro e w2 ⟨rfl, hb2⟩
    simp only [hm]
    have hF2 := hF1.on hb2
    clear hF1 hb2 c1
    go_wp2_with fail
    refine (upTo_c _ _).mono ?_
    rintro e w3 ⟨rfl, hb3⟩
    have hF3 := hF2.on hb3
    clear hF2 hb3
    go_wp2_with fail
    refine (has_c _ _ _ _).mono ?_
    rintro e w4 ⟨rfl, hb4⟩
    simp only [hx]
    have hF4 := hF3.on hb4
    clear hF3 hb4
    have c2 := hF4.t.cell
    have c3 := hF4.d.cell
    have z0 := hF4.q.cell
    have z1 := hF4.q.frozen
    go_wp2_with fail
    have hc5 := World.cell?_setCell_same' w4 ⟨w.heap.size + 1 + 1 + 1 + 1, 0, none⟩ (.slice none 0 0) (by rw [z0]; rfl)
    exact bodyPost_ret (v := .slice none 0 0) (by simp [results, Tryd.f16, go_sem, hc5]) rfl ⟨_, rfl, by rw [feltA_no (by simp [feltOk, h3])]; exact World.ownsRow_nil _ _ _ _, hF4.low.setCell (p := ⟨w.heap.size + 1 + 1 + 1 + 1, 0, none⟩) (by show w.heap.size ≤ w.heap.size + 1 + 1 + 1 + 1; omega) _⟩

theorem implFelt_s (ad : Option Addr) (len cap : Nat) (f a : Nat → Int) (x0 : Int) (at2 : Option Addr) (n nc : Nat) (tf tc : Nat → Int) (ar : Option Addr) (rn rc : Nat) (rd : Nat → Int) (s j m g o : Int) (w : World) (hl : len ≤ 1048576) (_ : n ≤ 1048576) (_ : rn ≤ 1048576) (hrow : SRow w ad len f a) (htk : SRow w at2 n tf tc) (hrd : SRow1 w ar rn rd) (hV : Vars w) :
    Calls Tryd.prog 16 #[.agg #[.int .i64 s, .int .i64 j, .int .i64 m, .int .i64 g, .int .i64 o], .slice ad len cap, .int .i64 x0, .slice at2 n nc, .slice ar rn rc] w fun e w' => ∃ v, e = .returned v ∧ Felts w (feltA s j m g o f a len x0 tf tc rd n rn) v w' := by
  by_cases hgood : (rOk s j m g o && marksB f a len && inB x0 0 100000000 && decide (n ≤ 2000) && decide (rn = n)) = true
  · simp only [Bool.and_eq_true, decide_eq_true_eq] at hgood
    obtain ⟨⟨⟨⟨hr, hm⟩, hx⟩, h2⟩, rfl⟩ := hgood
    exact implFelt_ok ad len cap f a x0 at2 rn nc tf tc ar rc rd s j m g o w hl hrow htk hrd hV hr hm hx h2
  · exact implFelt_bad ad len cap f a x0 at2 n nc tf tc ar rn rc rd s j m g o w hl hrow (by simpa using hgood)

end Go.Proofs.YtmhppadblddjoaaDoor

