/- The law of Run: its walk, with the program's Run as a premise. -/
import Derived.Test.YtmhppadblddjoabStL
import Derived.Test.YtmhppadblddjoabRel
namespace Go.Proofs.Ytmhppadblddjoab
open Go.RowKit

def luC (w : World) (s j m g o bl bh : Int) : World → Prop := fun w' => w'.cell? ⟨w.heap.size, 0, none⟩ = some (.int .i64 s) ∧ w'.cell? ⟨w.heap.size, 1, none⟩ = some (.int .i64 j) ∧ w'.cell? ⟨w.heap.size, 2, none⟩ = some (.int .i64 m) ∧ w'.cell? ⟨w.heap.size, 3, none⟩ = some (.int .i64 g) ∧ w'.cell? ⟨w.heap.size, 4, none⟩ = some (.int .i64 o) ∧ w'.cell? ⟨w.heap.size + 1, 0, none⟩ = some (.int .i64 bl) ∧ w'.cell? ⟨w.heap.size + 1, 1, none⟩ = some (.int .i64 bh) ∧ Below w.heap.size w w'
theorem luC_on {w : World} {s j m g o bl bh : Int} {w1 w2 : World} (hh : luC w s j m g o bl bh w1) (hb : Below w1.heap.size w1 w2) : luC w s j m g o bl bh w2 :=
  ⟨cellOn hb hh.1, cellOn hb hh.2.1, cellOn hb hh.2.2.1, cellOn hb hh.2.2.2.1, cellOn hb hh.2.2.2.2.1, cellOn hb hh.2.2.2.2.2.1, cellOn hb hh.2.2.2.2.2.2.1, nbTrans hh.2.2.2.2.2.2.2 hb⟩

def lvC (w : World) (s j m g o bl bh : Int) (q1 len : Nat) (f a : Nat → Int) (q3 el : Nat) (fe ge : Nat → Int) (q0 : Nat) (v0 : Value) (n : Nat) (T : Nat → St) (wc : World) : World → Prop := fun w' => w'.cell? ⟨w.heap.size, 0, none⟩ = some (.int .i64 s) ∧ w'.cell? ⟨w.heap.size, 1, none⟩ = some (.int .i64 j) ∧ w'.cell? ⟨w.heap.size, 2, none⟩ = some (.int .i64 m) ∧ w'.cell? ⟨w.heap.size, 3, none⟩ = some (.int .i64 g) ∧ w'.cell? ⟨w.heap.size, 4, none⟩ = some (.int .i64 o) ∧ w'.cell? ⟨w.heap.size + 1, 0, none⟩ = some (.int .i64 bl) ∧ w'.cell? ⟨w.heap.size + 1, 1, none⟩ = some (.int .i64 bh) ∧ Own2 w' q1 len f a ∧ Own2 w' q3 el fe ge ∧ StAt w' q0 v0 n T ∧ Below wc.heap.size wc w' ∧ Below w.heap.size w w'
theorem lvC_on {w : World} {s j m g o bl bh : Int} {q1 len : Nat} {f a : Nat → Int} {q3 el : Nat} {fe ge : Nat → Int} {q0 : Nat} {v0 : Value} {n : Nat} {T : Nat → St} {wc : World} {w1 w2 : World} (hh : lvC w s j m g o bl bh q1 len f a q3 el fe ge q0 v0 n T wc w1) (hb : Below w1.heap.size w1 w2) : lvC w s j m g o bl bh q1 len f a q3 el fe ge q0 v0 n T wc w2 :=
  ⟨cellOn hb hh.1, cellOn hb hh.2.1, cellOn hb hh.2.2.1, cellOn hb hh.2.2.2.1, cellOn hb hh.2.2.2.2.1, cellOn hb hh.2.2.2.2.2.1, cellOn hb hh.2.2.2.2.2.2.1, hh.2.2.2.2.2.2.2.1.on hb, hh.2.2.2.2.2.2.2.2.1.on hb, hh.2.2.2.2.2.2.2.2.2.1.on hb, nbTrans hh.2.2.2.2.2.2.2.2.2.2.1 hb, nbTrans hh.2.2.2.2.2.2.2.2.2.2.2 hb⟩

def lxC (w : World) (s j m g o bl bh : Int) (q1 len : Nat) (f a : Nat → Int) (q3 el : Nat) (fe ge : Nat → Int) (q0 : Nat) (v0 : Value) (n : Nat) (T : Nat → St) (b : Nat) (v1 : Value) : World → Prop := fun w' => w'.cell? ⟨w.heap.size, 0, none⟩ = some (.int .i64 s) ∧ w'.cell? ⟨w.heap.size, 1, none⟩ = some (.int .i64 j) ∧ w'.cell? ⟨w.heap.size, 2, none⟩ = some (.int .i64 m) ∧ w'.cell? ⟨w.heap.size, 3, none⟩ = some (.int .i64 g) ∧ w'.cell? ⟨w.heap.size, 4, none⟩ = some (.int .i64 o) ∧ w'.cell? ⟨w.heap.size + 1, 0, none⟩ = some (.int .i64 bl) ∧ w'.cell? ⟨w.heap.size + 1, 1, none⟩ = some (.int .i64 bh) ∧ Own2 w' q1 len f a ∧ Own2 w' q3 el fe ge ∧ StAt w' q0 v0 n T ∧ StAt w' b v1 n T ∧ Below w.heap.size w w'
theorem lxC_on {w : World} {s j m g o bl bh : Int} {q1 len : Nat} {f a : Nat → Int} {q3 el : Nat} {fe ge : Nat → Int} {q0 : Nat} {v0 : Value} {n : Nat} {T : Nat → St} {b : Nat} {v1 : Value} {w1 w2 : World} (hh : lxC w s j m g o bl bh q1 len f a q3 el fe ge q0 v0 n T b v1 w1) (hb : Below w1.heap.size w1 w2) : lxC w s j m g o bl bh q1 len f a q3 el fe ge q0 v0 n T b v1 w2 :=
  ⟨cellOn hb hh.1, cellOn hb hh.2.1, cellOn hb hh.2.2.1, cellOn hb hh.2.2.2.1, cellOn hb hh.2.2.2.2.1, cellOn hb hh.2.2.2.2.2.1, cellOn hb hh.2.2.2.2.2.2.1, hh.2.2.2.2.2.2.2.1.on hb, hh.2.2.2.2.2.2.2.2.1.on hb, hh.2.2.2.2.2.2.2.2.2.1.on hb, hh.2.2.2.2.2.2.2.2.2.2.1.on hb, nbTrans hh.2.2.2.2.2.2.2.2.2.2.2 hb⟩

def lyC (w : World) (s j m g o bl bh : Int) (q3 el : Nat) (fe ge : Nat → Int) (q0 : Nat) (v0 : Value) (n : Nat) (T : Nat → St) (b : Nat) (v1 : Value) : World → Prop := fun w' => w'.cell? ⟨w.heap.size, 0, none⟩ = some (.int .i64 s) ∧ w'.cell? ⟨w.heap.size, 1, none⟩ = some (.int .i64 j) ∧ w'.cell? ⟨w.heap.size, 2, none⟩ = some (.int .i64 m) ∧ w'.cell? ⟨w.heap.size, 3, none⟩ = some (.int .i64 g) ∧ w'.cell? ⟨w.heap.size, 4, none⟩ = some (.int .i64 o) ∧ w'.cell? ⟨w.heap.size + 1, 0, none⟩ = some (.int .i64 bl) ∧ w'.cell? ⟨w.heap.size + 1, 1, none⟩ = some (.int .i64 bh) ∧ Own2 w' q3 el fe ge ∧ StAt w' q0 v0 n T ∧ StAt w' b v1 n T ∧ Below w.heap.size w w'
theorem lyC_on {w : World} {s j m g o bl bh : Int} {q3 el : Nat} {fe ge : Nat → Int} {q0 : Nat} {v0 : Value} {n : Nat} {T : Nat → St} {b : Nat} {v1 : Value} {w1 w2 : World} (hh : lyC w s j m g o bl bh q3 el fe ge q0 v0 n T b v1 w1) (hb : Below w1.heap.size w1 w2) : lyC w s j m g o bl bh q3 el fe ge q0 v0 n T b v1 w2 :=
  ⟨cellOn hb hh.1, cellOn hb hh.2.1, cellOn hb hh.2.2.1, cellOn hb hh.2.2.2.1, cellOn hb hh.2.2.2.2.1, cellOn hb hh.2.2.2.2.2.1, cellOn hb hh.2.2.2.2.2.2.1, hh.2.2.2.2.2.2.2.1.on hb, hh.2.2.2.2.2.2.2.2.1.on hb, hh.2.2.2.2.2.2.2.2.2.1.on hb, nbTrans hh.2.2.2.2.2.2.2.2.2.2 hb⟩

def lzC (w : World) (s j m g o bl bh : Int) (q0 : Nat) (v0 : Value) (n : Nat) (T : Nat → St) (b : Nat) (v1 : Value) : World → Prop := fun w' => w'.cell? ⟨w.heap.size, 0, none⟩ = some (.int .i64 s) ∧ w'.cell? ⟨w.heap.size, 1, none⟩ = some (.int .i64 j) ∧ w'.cell? ⟨w.heap.size, 2, none⟩ = some (.int .i64 m) ∧ w'.cell? ⟨w.heap.size, 3, none⟩ = some (.int .i64 g) ∧ w'.cell? ⟨w.heap.size, 4, none⟩ = some (.int .i64 o) ∧ w'.cell? ⟨w.heap.size + 1, 0, none⟩ = some (.int .i64 bl) ∧ w'.cell? ⟨w.heap.size + 1, 1, none⟩ = some (.int .i64 bh) ∧ StAt w' q0 v0 n T ∧ StAt w' b v1 n T ∧ Below w.heap.size w w'
theorem lzC_on {w : World} {s j m g o bl bh : Int} {q0 : Nat} {v0 : Value} {n : Nat} {T : Nat → St} {b : Nat} {v1 : Value} {w1 w2 : World} (hh : lzC w s j m g o bl bh q0 v0 n T b v1 w1) (hb : Below w1.heap.size w1 w2) : lzC w s j m g o bl bh q0 v0 n T b v1 w2 :=
  ⟨cellOn hb hh.1, cellOn hb hh.2.1, cellOn hb hh.2.2.1, cellOn hb hh.2.2.2.1, cellOn hb hh.2.2.2.2.1, cellOn hb hh.2.2.2.2.2.1, cellOn hb hh.2.2.2.2.2.2.1, hh.2.2.2.2.2.2.2.1.on hb, hh.2.2.2.2.2.2.2.2.1.on hb, nbTrans hh.2.2.2.2.2.2.2.2.2 hb⟩

def ltC (w : World) (s j m g o bl bh : Int) (q0 : Nat) (v0 : Value) (n : Nat) (T : Nat → St) (b : Nat) (v1 : Value) : World → Prop := fun w' => w'.cell? ⟨w.heap.size, 0, none⟩ = some (.int .i64 s) ∧ w'.cell? ⟨w.heap.size, 1, none⟩ = some (.int .i64 j) ∧ w'.cell? ⟨w.heap.size, 2, none⟩ = some (.int .i64 m) ∧ w'.cell? ⟨w.heap.size, 3, none⟩ = some (.int .i64 g) ∧ w'.cell? ⟨w.heap.size, 4, none⟩ = some (.int .i64 o) ∧ w'.cell? ⟨w.heap.size + 1, 0, none⟩ = some (.int .i64 bl) ∧ w'.cell? ⟨w.heap.size + 1, 1, none⟩ = some (.int .i64 bh) ∧ StAt w' q0 v0 n T ∧ StHeld w' b v1 n (fun i => mkSt (1 + 6 * i)) ∧ Below w.heap.size w w'
theorem ltC_on {w : World} {s j m g o bl bh : Int} {q0 : Nat} {v0 : Value} {n : Nat} {T : Nat → St} {b : Nat} {v1 : Value} {w1 w2 : World} (hh : ltC w s j m g o bl bh q0 v0 n T b v1 w1) (hb : Below w1.heap.size w1 w2) : ltC w s j m g o bl bh q0 v0 n T b v1 w2 :=
  ⟨cellOn hb hh.1, cellOn hb hh.2.1, cellOn hb hh.2.2.1, cellOn hb hh.2.2.2.1, cellOn hb hh.2.2.2.2.1, cellOn hb hh.2.2.2.2.2.1, cellOn hb hh.2.2.2.2.2.2.1, hh.2.2.2.2.2.2.2.1.on hb, hh.2.2.2.2.2.2.2.2.1.on hb, nbTrans hh.2.2.2.2.2.2.2.2.2 hb⟩

def luY (B : Nat) (mv rv bv xv : Value) (len : Nat) (f a : Nat → Int) (el : Nat) (fe ge : Nat → Int) (n : Nat) (T : Nat → St) : Nat → Value → World → Prop
  | 0, v, _ => v = rv
  | 1, v, _ => v = rv
  | 2, v, _ => v = mv
  | 3, v, w => ∃ q, v = .slice (some ⟨q, 0, none⟩) len len ∧ Row2 w q 0 len f a
  | 4, v, _ => v = bv
  | 5, v, _ => v = bv
  | 6, v, _ => v = xv
  | 7, v, w => ∃ q, v = .slice (some ⟨q, 0, none⟩) el el ∧ Row2 w q 0 el fe ge
  | 8, v, w => StRow w B v n T
  | 9, v, w => StRow w B v n T
  | _, _, _ => True
theorem luY_on {B : Nat} {mv rv bv xv : Value} {len : Nat} {f a : Nat → Int} {el : Nat} {fe ge : Nat → Int} {n : Nat} {T : Nat → St} : ∀ jj v w w', luY B mv rv bv xv len f a el fe ge n T jj v w → Below w.heap.size w w' → luY B mv rv bv xv len f a el fe ge n T jj v w'
  | 0, _, _, _, h, _ => h
  | 1, _, _, _, h, _ => h
  | 2, _, _, _, h, _ => h
  | 3, _, _, _, ⟨q, h1, h2⟩, hb => ⟨q, h1, h2.on hb⟩
  | 4, _, _, _, h, _ => h
  | 5, _, _, _, h, _ => h
  | 6, _, _, _, h, _ => h
  | 7, _, _, _, ⟨q, h1, h2⟩, hb => ⟨q, h1, h2.on hb⟩
  | 8, _, _, _, h, hb => StRow.on h hb
  | 9, _, _, _, h, hb => StRow.on h hb
  | _ + 10, _, _, _, _, _ => trivial
theorem luY_3 {B : Nat} {mv rv bv xv : Value} {len : Nat} {f a : Nat → Int} {el : Nat} {fe ge : Nat → Int} {n : Nat} {T : Nat → St} {v : Value} {w : World} (h : luY B mv rv bv xv len f a el fe ge n T 3 v w) : ∃ q, v = .slice (some ⟨q, 0, none⟩) len len ∧ Row2 w q 0 len f a := h
theorem luY_7 {B : Nat} {mv rv bv xv : Value} {len : Nat} {f a : Nat → Int} {el : Nat} {fe ge : Nat → Int} {n : Nat} {T : Nat → St} {v : Value} {w : World} (h : luY B mv rv bv xv len f a el fe ge n T 7 v w) : ∃ q, v = .slice (some ⟨q, 0, none⟩) el el ∧ Row2 w q 0 el fe ge := h
theorem luY_8 {B : Nat} {mv rv bv xv : Value} {len : Nat} {f a : Nat → Int} {el : Nat} {fe ge : Nat → Int} {n : Nat} {T : Nat → St} {v : Value} {w : World} (h : luY B mv rv bv xv len f a el fe ge n T 8 v w) : StRow w B v n T := h
theorem luY_9 {B : Nat} {mv rv bv xv : Value} {len : Nat} {f a : Nat → Int} {el : Nat} {fe ge : Nat → Int} {n : Nat} {T : Nat → St} {v : Value} {w : World} (h : luY B mv rv bv xv len f a el fe ge n T 9 v w) : StRow w B v n T := h

def lvY (B : Nat) (mv rv bv xv : Value) (n : Nat) (T : Nat → St) : Nat → Value → World → Prop
  | 0, v, _ => v = rv
  | 1, v, _ => v = rv
  | 2, v, _ => v = mv
  | 3, v, _ => v = bv
  | 4, v, _ => v = bv
  | 5, v, _ => v = xv
  | 6, v, w => StRow w B v n T
  | 7, v, w => StRow w B v n T
  | _, _, _ => True
theorem lvY_on {B : Nat} {mv rv bv xv : Value} {n : Nat} {T : Nat → St} : ∀ jj v w w', lvY B mv rv bv xv n T jj v w → Below w.heap.size w w' → lvY B mv rv bv xv n T jj v w'
  | 0, _, _, _, h, _ => h
  | 1, _, _, _, h, _ => h
  | 2, _, _, _, h, _ => h
  | 3, _, _, _, h, _ => h
  | 4, _, _, _, h, _ => h
  | 5, _, _, _, h, _ => h
  | 6, _, _, _, h, hb => StRow.on h hb
  | 7, _, _, _, h, hb => StRow.on h hb
  | _ + 8, _, _, _, _, _ => trivial
theorem lvY_6 {B : Nat} {mv rv bv xv : Value} {n : Nat} {T : Nat → St} {v : Value} {w : World} (h : lvY B mv rv bv xv n T 6 v w) : StRow w B v n T := h
theorem lvY_7 {B : Nat} {mv rv bv xv : Value} {n : Nat} {T : Nat → St} {v : Value} {w : World} (h : lvY B mv rv bv xv n T 7 v w) : StRow w B v n T := h

set_option maxRecDepth 100000 in
set_option maxHeartbeats 2000000 in
theorem lawRun_c (ad : Option Addr) (len cap : Nat) (f a : Nat → Int) (ae : Option Addr) (el ce : Nat) (fe ge : Nat → Int) (s j m g o bl bh : Int) (n : Nat) (T : Nat → St) (w : World) (hlen : len ≤ 9223372036854775807) (helen : el ≤ 9223372036854775807) (hrow : SRow w ad len f a) (hev : SRow w ae el fe ge) (hn : Hid (n ≤ 1048576))
    (hs : Hid (∀ q qe w, len ≤ 1048576 → el ≤ 1048576 → Row2 w q 0 len f a → Row2 w qe 0 el fe ge → Calls Try.prog 35 #[.agg #[.int .i64 s, .int .i64 j, .int .i64 m, .int .i64 g, .int .i64 o], .slice (some ⟨q, 0, none⟩) len len, .agg #[.int .i64 bl, .int .i64 bh], .slice (some ⟨qe, 0, none⟩) el el] w fun e w' => ∃ v, e = .returned v ∧ StRow w' w.heap.size v n T ∧ Below w.heap.size w w'))
    (hi : Hid (∀ q qe w, len ≤ 1048576 → el ≤ 1048576 → Row2 w q 0 len f a → Row2 w qe 0 el fe ge → Calls Try.prog 37 #[.agg #[.int .i64 s, .int .i64 j, .int .i64 m, .int .i64 g, .int .i64 o], .slice (some ⟨q, 0, none⟩) len len, .agg #[.int .i64 bl, .int .i64 bh], .slice (some ⟨qe, 0, none⟩) el el] w fun e w' => ∃ v, e = .returned v ∧ StRow w' w.heap.size v n T ∧ Below w.heap.size w w')) :
    Calls Try.prog 8 #[.agg #[.int .i64 s, .int .i64 j, .int .i64 m, .int .i64 g, .int .i64 o], .slice ad len cap, .agg #[.int .i64 bl, .int .i64 bh], .slice ae el ce] w fun e w' => e = .returned (.bool true) ∧ Below w.heap.size w w' := by
  go_enter Try.func8, Try.ntmps8
  go_wp2_with fail
  refine (szMarkS_c _ _ _ _ _ (by omega) (by omega) hlen).mono ?_
  rintro e w1 ⟨rfl, rfl⟩
  by_cases hbig : (1048576 : Int) - (len : Int) < 0
  · rw [if_pos hbig]
    go_wp2_with fail
    go_ret
    exact ⟨rfl, nbAlloc (nbAlloc (Below.refl _ _) _) _⟩
  rw [if_neg hbig]
  have i0 : ¬ ((1048576 : Int) - (len : Int) < 0) := hbig
  go_wp2_with fail
  refine (szEventS_c _ _ _ _ _ (by omega) (by omega) helen).mono ?_
  rintro e w1 ⟨rfl, rfl⟩
  by_cases hbig2 : (1048576 : Int) - (len : Int) - (el : Int) < 0
  · rw [if_pos hbig2]
    go_wp2_with fail
    go_ret
    exact ⟨rfl, nbAlloc (nbAlloc (Below.refl _ _) _) _⟩
  rw [if_neg hbig2]
  have i1 : ¬ ((1048576 : Int) - (len : Int) - (el : Int) < 0) := hbig2
  have HB : Hid (len ≤ 1048576) := by unfold Hid; omega
  have HE : Hid (el ≤ 1048576) := by unfold Hid; omega
  have hk0 : decide ((1 : Int) + 2 * (len : Int) + 2 * (el : Int) < 0) = false := by simp; omega
  have hq0 : decide ((1 : Int) + 6 * (n : Int) < 0) = false := by simp; omega
  go_wp2_with fail
  clear i0 i1 hbig hbig2
  refine region_relL (luC w s j m g o bl bh) (luY 0 (.slice ad len cap) (.agg #[.int .i64 s, .int .i64 j, .int .i64 m, .int .i64 g, .int .i64 o]) (.agg #[.int .i64 bl, .int .i64 bh]) (.slice ae el ce) len f a el fe ge n T) 10 (fun _ _ => luC_on) luY_on (by kernel_rfl) (by kernel_rfl) (by kernel_rfl) ?_ ?_ ?_
  · refine ⟨?_, ?_, ?_, ?_, ?_, ?_, ?_, Below.drew (nbAlloc (nbAlloc (Below.refl _ _) _) _)⟩ <;> go_simp
  · intro j' o' ho hne vs w4 hC hw
    have hB4 := hC.2.2.2.2.2.2.2
    have c0 : w4.cell? ⟨w.heap.size, 0, none⟩ = some (.int .i64 s) := hC.1
    have c1 : w4.cell? ⟨w.heap.size, 1, none⟩ = some (.int .i64 j) := hC.2.1
    have c2 : w4.cell? ⟨w.heap.size, 2, none⟩ = some (.int .i64 m) := hC.2.2.1
    have c3 : w4.cell? ⟨w.heap.size, 3, none⟩ = some (.int .i64 g) := hC.2.2.2.1
    have c4 : w4.cell? ⟨w.heap.size, 4, none⟩ = some (.int .i64 o) := hC.2.2.2.2.1
    have c5 : w4.cell? ⟨w.heap.size + 1, 0, none⟩ = some (.int .i64 bl) := hC.2.2.2.2.2.1
    have c6 : w4.cell? ⟨w.heap.size + 1, 1, none⟩ = some (.int .i64 bh) := hC.2.2.2.2.2.2.1
    match j', ho with
    | 0, ho =>
      cases ho
      clear hw
      simp [mix]
      go_simp
      exact ⟨rfl, Below.refl _ _⟩
    | 1, ho =>
      cases ho
      have y0 : vs 0 = _ := hw 0 (waits_of (by kernel_rfl))
      clear hw
      simp [mix, y0]
      go_simp
      refine (toRules_c _ _ _ _ _ _).mono ?_
      rintro e w5 ⟨rfl, hb5⟩
      exact ⟨_, rfl, rfl, hb5⟩
    | 2, ho =>
      cases ho
      clear hw
      simp [mix]
      go_simp
      exact ⟨rfl, Below.refl _ _⟩
    | 3, ho =>
      cases ho
      have y2 : vs 2 = _ := hw 2 (waits_of (by kernel_rfl))
      clear hw
      simp [mix, y2]
      go_simp
      refine (toMarkS_any ad len cap f a _ HB.out (hrow.on hB4)).mono ?_
      rintro e w5 ⟨z, rfl, hz, hr, -, hb5⟩
      exact ⟨_, rfl, ⟨z, rfl, hr⟩, hb5⟩
    | 4, ho =>
      cases ho
      clear hw
      simp [mix]
      go_simp
      exact ⟨rfl, Below.refl _ _⟩
    | 5, ho =>
      cases ho
      have y4 : vs 4 = _ := hw 4 (waits_of (by kernel_rfl))
      clear hw
      simp [mix, y4]
      go_simp
      refine (toBound_c _ _ _).mono ?_
      rintro e w5 ⟨rfl, hb5⟩
      exact ⟨_, rfl, rfl, hb5⟩
    | 6, ho =>
      cases ho
      clear hw
      simp [mix]
      go_simp
      exact ⟨rfl, Below.refl _ _⟩
    | 7, ho =>
      cases ho
      have y6 : vs 6 = _ := hw 6 (waits_of (by kernel_rfl))
      clear hw
      simp [mix, y6]
      go_simp
      refine (toEventS_any ae el ce fe ge _ HE.out (hev.on hB4)).mono ?_
      rintro e w5 ⟨z, rfl, hz, hr, -, hb5⟩
      exact ⟨_, rfl, ⟨z, rfl, hr⟩, hb5⟩
    | 8, ho =>
      cases ho
      have y1 : vs 1 = _ := hw 1 (waits_of (by kernel_rfl))
      have y5 : vs 5 = _ := hw 5 (waits_of (by kernel_rfl))
      refine Exists.elim (luY_3 (hw 3 (waits_of (by kernel_rfl)))) (fun z3 hz3 => ?_)
      have y3 := hz3.1
      have hr3 := hz3.2
      clear hz3
      refine Exists.elim (luY_7 (hw 7 (waits_of (by kernel_rfl)))) (fun z7 hz7 => ?_)
      have y7 := hz7.1
      have hr7 := hz7.2
      clear hz7
      clear hw
      simp [mix, y1, y5, y3, y7]
      go_simp
      refine (hs.out z3 z7 _ HB.out HE.out hr3 hr7).mono ?_
      rintro e w5 ⟨v, rfl, hv, hb5⟩
      exact ⟨_, rfl, hv.base (Nat.zero_le _), hb5⟩
    | 9, ho =>
      cases ho
      have y8 := luY_8 (hw 8 (waits_of (by kernel_rfl)))
      clear hw
      simp [mix]
      go_simp
      exact ⟨y8, Below.refl _ _⟩
    | k + 10, ho => simp at ho
  · intro vs wa hC hy
    have y0 : vs 0 = _ := hy 0 (by simp) (by simp)
    have y1 : vs 1 = _ := hy 1 (by simp) (by simp)
    have y2 : vs 2 = _ := hy 2 (by simp) (by simp)
    have y4 : vs 4 = _ := hy 4 (by simp) (by simp)
    have y5 : vs 5 = _ := hy 5 (by simp) (by simp)
    have y6 : vs 6 = _ := hy 6 (by simp) (by simp)
    refine Exists.elim (luY_3 (hy 3 (by simp) (by simp))) (fun z3 e3 => ?_)
    have y3 := e3.1
    clear e3
    refine Exists.elim (luY_7 (hy 7 (by simp) (by simp))) (fun z7 e7 => ?_)
    have y7 := e7.1
    clear e7
    have y9 := luY_9 (hy 9 (by simp) (by simp))
    clear hy
    refine Exists.elim (StRow.at y9) (fun q0 e9 => ?_)
    have s9 := e9.2
    clear e9 y9
    refine ⟨?_⟩
    simp only [mix, y0, y1, y2, y3, y4, y5, y6, y7]
    clear y0 y1 y2 y3 y4 y5 y6 y7
    generalize vs 9 = v0 at *
    have hBa : Below w.heap.size w wa := hC.2.2.2.2.2.2.2
    have hna := ltCell hC.2.2.2.2.2.1
    have hl0 := s9.lt
    go_wp2_with fail
    refine (toMarkS_any ad len cap f a _ HB.out (hrow.on hBa)).mono ?_
    rintro e wb ⟨q1, rfl, hq1, hr1, hf1, hbb⟩
    have hBb := nbTrans hBa hbb
    go_wp2_with fail
    refine (toEventS_any ae el ce fe ge _ HE.out (hev.on hBb)).mono ?_
    rintro e wc ⟨q3, rfl, hq3, hr3, hf3, hbc⟩
    have O1 : Own2 wb q1 len f a := ⟨hr1, hf1⟩
    have O3 : Own2 wc q3 el fe ge := ⟨hr3, hf3⟩
    have hCc := luC_on (luC_on hC hbb) hbc
    have hV : lvC w s j m g o bl bh q1 len f a q3 el fe ge q0 v0 n T wc wc := ⟨hCc.1, hCc.2.1, hCc.2.2.1, hCc.2.2.2.1, hCc.2.2.2.2.1, hCc.2.2.2.2.2.1, hCc.2.2.2.2.2.2.1, O1.on hbc, O3, (s9.on hbb).on hbc, Below.refl _ _, hCc.2.2.2.2.2.2.2⟩
    have HO : Hid ((0 < n → q0 < wa.heap.size) ∧ wa.heap.size ≤ q1 ∧ (0 < len → q1 < wb.heap.size) ∧ wa.heap.size ≤ wb.heap.size ∧ wb.heap.size ≤ q3 ∧ (0 < el → q3 < wc.heap.size) ∧ wb.heap.size ≤ wc.heap.size ∧ w.heap.size + 1 < wa.heap.size) :=
      ⟨hl0, hq1, O1.lt, hbb.size, hq3, O3.lt, hbc.size, hna⟩
    clear O1 O3 hCc hC hq1 hr1 hf1 hbb hq3 hr3 hf3 hbc hBa hBb hna hl0 s9
    generalize wa.heap.size = sa at *
    generalize wb.heap.size = sb at *
    go_wp2_with fail
    refine region_relL (lvC w s j m g o bl bh q1 len f a q3 el fe ge q0 v0 n T wc) (lvY wc.heap.size (.slice (some ⟨q1, 0, none⟩) len len) (.agg #[.int .i64 s, .int .i64 j, .int .i64 m, .int .i64 g, .int .i64 o]) (.agg #[.int .i64 bl, .int .i64 bh]) (.slice (some ⟨q3, 0, none⟩) el el) n T) 8 (fun _ _ => lvC_on) lvY_on (by kernel_rfl) (by kernel_rfl) (by kernel_rfl) ?_ ?_ ?_
    · exact lvC_on hV (Below.drew (Below.refl _ _))
    · intro j' o' ho hne vs w4 hC hw
      have hBS : wc.heap.size ≤ w4.heap.size := hC.2.2.2.2.2.2.2.2.2.2.1.size
      have hrq1 := (hC.2.2.2.2.2.2.2.1).1
      have hrq3 := (hC.2.2.2.2.2.2.2.2.1).1
      have c0 : w4.cell? ⟨w.heap.size, 0, none⟩ = some (.int .i64 s) := hC.1
      have c1 : w4.cell? ⟨w.heap.size, 1, none⟩ = some (.int .i64 j) := hC.2.1
      have c2 : w4.cell? ⟨w.heap.size, 2, none⟩ = some (.int .i64 m) := hC.2.2.1
      have c3 : w4.cell? ⟨w.heap.size, 3, none⟩ = some (.int .i64 g) := hC.2.2.2.1
      have c4 : w4.cell? ⟨w.heap.size, 4, none⟩ = some (.int .i64 o) := hC.2.2.2.2.1
      have c5 : w4.cell? ⟨w.heap.size + 1, 0, none⟩ = some (.int .i64 bl) := hC.2.2.2.2.2.1
      have c6 : w4.cell? ⟨w.heap.size + 1, 1, none⟩ = some (.int .i64 bh) := hC.2.2.2.2.2.2.1
      match j', ho with
      | 0, ho =>
        cases ho
        clear hw
        simp [mix]
        go_simp
        exact ⟨rfl, Below.refl _ _⟩
      | 1, ho =>
        cases ho
        have y0 : vs 0 = _ := hw 0 (waits_of (by kernel_rfl))
        clear hw
        simp [mix, y0]
        go_simp
        refine (toRules_c _ _ _ _ _ _).mono ?_
        rintro e w5 ⟨rfl, hb5⟩
        exact ⟨_, rfl, rfl, hb5⟩
      | 2, ho =>
        cases ho
        clear hw
        simp [mix]
        go_simp
        exact ⟨rfl, Below.refl _ _⟩
      | 3, ho =>
        cases ho
        clear hw
        simp [mix]
        go_simp
        exact ⟨rfl, Below.refl _ _⟩
      | 4, ho =>
        cases ho
        have y3 : vs 3 = _ := hw 3 (waits_of (by kernel_rfl))
        clear hw
        simp [mix, y3]
        go_simp
        refine (toBound_c _ _ _).mono ?_
        rintro e w5 ⟨rfl, hb5⟩
        exact ⟨_, rfl, rfl, hb5⟩
      | 5, ho =>
        cases ho
        clear hw
        simp [mix]
        go_simp
        exact ⟨rfl, Below.refl _ _⟩
      | 6, ho =>
        cases ho
        have y1 : vs 1 = _ := hw 1 (waits_of (by kernel_rfl))
        have y2 : vs 2 = _ := hw 2 (waits_of (by kernel_rfl))
        have y4 : vs 4 = _ := hw 4 (waits_of (by kernel_rfl))
        have y5 : vs 5 = _ := hw 5 (waits_of (by kernel_rfl))
        clear hw
        simp [mix, y1, y2, y4, y5]
        go_simp
        refine (hi.out q1 q3 _ HB.out HE.out hrq1 hrq3).mono ?_
        rintro e w5 ⟨v, rfl, hv, hb5⟩
        exact ⟨_, rfl, hv.base (hBS), hb5⟩
      | 7, ho =>
        cases ho
        have y6 := lvY_6 (hw 6 (waits_of (by kernel_rfl)))
        clear hw
        simp [mix]
        go_simp
        exact ⟨y6, Below.refl _ _⟩
      | k + 8, ho => simp at ho
    · intro vs w4 hC hy
      have y0 : vs 0 = _ := hy 0 (by simp) (by simp)
      have y1 : vs 1 = _ := hy 1 (by simp) (by simp)
      have y2 : vs 2 = _ := hy 2 (by simp) (by simp)
      have y3 : vs 3 = _ := hy 3 (by simp) (by simp)
      have y4 : vs 4 = _ := hy 4 (by simp) (by simp)
      have y5 : vs 5 = _ := hy 5 (by simp) (by simp)
      have y7 := lvY_7 (hy 7 (by simp) (by simp))
      clear hy
      refine Exists.elim (StRow.at y7) (fun b e7 => ?_)
      have hbg := e7.1
      have s7 := e7.2
      clear e7 y7
      refine ⟨?_⟩
      simp only [mix, y0, y1, y2, y3, y4, y5]
      clear y0 y1 y2 y3 y4 y5
      generalize vs 7 = v1 at *
      clear hV
      have hX4 : lxC w s j m g o bl bh q1 len f a q3 el fe ge q0 v0 n T b v1 w4 := ⟨hC.1, hC.2.1, hC.2.2.1, hC.2.2.2.1, hC.2.2.2.2.1, hC.2.2.2.2.2.1, hC.2.2.2.2.2.2.1, hC.2.2.2.2.2.2.2.1, hC.2.2.2.2.2.2.2.2.1, hC.2.2.2.2.2.2.2.2.2.1, s7, hC.2.2.2.2.2.2.2.2.2.2.2⟩
      clear hC s7
      generalize wc.heap.size = sc at *
      go_wp2_with fail
      refine (eqStateS_v _ hn.out hX4.2.2.2.2.2.2.2.2.2.2.1 hX4.2.2.2.2.2.2.2.2.2.1).mono ?_
      rintro e w5 ⟨rfl, hb5⟩
      have hX5 := lxC_on hX4 hb5
      clear hX4 hb5
      go_wp2_with fail
      refine (toMarkS_any ad len cap f a _ HB.out (hrow.on hX5.2.2.2.2.2.2.2.2.2.2.2)).mono ?_
      rintro e w6 ⟨q6, rfl, hq6, hr6, -, hb6⟩
      have hX6 := lxC_on hX5 hb6
      clear hX5 hb6
      go_wp2_with fail
      refine (eqMarkS_c q1 q6 len len len f a _ HB.out (hX6.2.2.2.2.2.2.2.1).1 hr6).mono ?_
      rintro e w7 ⟨rfl, hb7⟩
      have hX7 := lxC_on hX6 hb7
      clear hX6 hb7 hr6 hq6
      go_wp2_with fail
      refine (toEventS_any ae el ce fe ge _ HE.out (hev.on hX7.2.2.2.2.2.2.2.2.2.2.2)).mono ?_
      rintro e w8 ⟨q8, rfl, hq8, hr8, -, hb8⟩
      have hX8 := lxC_on hX7 hb8
      clear hX7 hb8
      go_wp2_with fail
      refine (eqEventS_c q3 q8 el el el fe ge _ HE.out (hX8.2.2.2.2.2.2.2.2.1).1 hr8).mono ?_
      rintro e w9 ⟨rfl, hb9⟩
      have hX9 := lxC_on hX8 hb9
      clear hX8 hb9 hr8 hq8
      go_wp2_with fail
      refine (markMarkS_v q1 len len 1 f a _ HB.out (by omega) (by omega) hX9.2.2.2.2.2.2.2.1).mono ?_
      rintro e w10 ⟨rfl, hT10⟩
      have hY10 : lyC w s j m g o bl bh q3 el fe ge q0 v0 n T b v1 w10 := by
        obtain ⟨o0, o1, o2, o3, o4, o5, o6, o7⟩ := HO.out
        exact ⟨hT10.cell (fun _ => by omega) hX9.1, hT10.cell (fun _ => by omega) hX9.2.1, hT10.cell (fun _ => by omega) hX9.2.2.1, hT10.cell (fun _ => by omega) hX9.2.2.2.1, hT10.cell (fun _ => by omega) hX9.2.2.2.2.1, hT10.cell (fun _ => by omega) hX9.2.2.2.2.2.1, hT10.cell (fun _ => by omega) hX9.2.2.2.2.2.2.1, hT10.own hX9.2.2.2.2.2.2.2.2.1 (fun _ h2 => by have := o2 h2; omega), hT10.st hX9.2.2.2.2.2.2.2.2.2.1 (fun h1 _ => by have := o0 h1; omega), hT10.st hX9.2.2.2.2.2.2.2.2.2.2.1 (fun _ h2 => by have := o2 h2; omega), hT10.below hX9.2.2.2.2.2.2.2.2.2.2.2 (by omega)⟩
      clear hX9 hT10
      go_wp2_with fail
      refine (markEventS_v q3 el el (1 + 2 * (len : Int)) fe ge _ HE.out (by omega) (by have := HB.out; omega) hY10.2.2.2.2.2.2.2.1).mono ?_
      rintro e w11 ⟨rfl, hT11⟩
      have hZ11 : lzC w s j m g o bl bh q0 v0 n T b v1 w11 := by
        obtain ⟨o0, o1, o2, o3, o4, o5, o6, o7⟩ := HO.out
        exact ⟨hT11.cell (fun _ => by omega) hY10.1, hT11.cell (fun _ => by omega) hY10.2.1, hT11.cell (fun _ => by omega) hY10.2.2.1, hT11.cell (fun _ => by omega) hY10.2.2.2.1, hT11.cell (fun _ => by omega) hY10.2.2.2.2.1, hT11.cell (fun _ => by omega) hY10.2.2.2.2.2.1, hT11.cell (fun _ => by omega) hY10.2.2.2.2.2.2.1, hT11.st hY10.2.2.2.2.2.2.2.2.1 (fun h1 _ => by have := o0 h1; omega), hT11.st hY10.2.2.2.2.2.2.2.2.2.1 (fun _ h2 => by have := o5 h2; omega), hT11.below hY10.2.2.2.2.2.2.2.2.2.2 (by omega)⟩
      clear hY10 hT11
      go_wp2_with fail
      refine (eqStateS_v _ hn.out hZ11.2.2.2.2.2.2.2.2.1 hZ11.2.2.2.2.2.2.2.1).mono ?_
      rintro e w12 ⟨rfl, hb12⟩
      have hZ12 := lzC_on hZ11 hb12
      clear hZ11 hb12
      go_wp2_with fail
      refine (markStateS_v b n v1 T _ hn.out hZ12.2.2.2.2.2.2.2.2.1).mono ?_
      rintro e w13 ⟨rfl, hH13, hT13⟩
      have hW13 : ltC w s j m g o bl bh q0 v0 n T b v1 w13 := by
        obtain ⟨o0, o1, o2, o3, o4, o5, o6, o7⟩ := HO.out
        exact ⟨hT13.cell (fun _ => by omega) hZ12.1, hT13.cell (fun _ => by omega) hZ12.2.1, hT13.cell (fun _ => by omega) hZ12.2.2.1, hT13.cell (fun _ => by omega) hZ12.2.2.2.1, hT13.cell (fun _ => by omega) hZ12.2.2.2.2.1, hT13.cell (fun _ => by omega) hZ12.2.2.2.2.2.1, hT13.cell (fun _ => by omega) hZ12.2.2.2.2.2.2.1, hT13.st hZ12.2.2.2.2.2.2.2.1 (fun h1 _ => by have := o0 h1; omega), hH13, hT13.below hZ12.2.2.2.2.2.2.2.2.2 (by omega)⟩
      clear hZ12 hT13 hH13
      go_wp2_with fail
      refine (heldStateS_v b n v1 _ hn.out hW13.2.2.2.2.2.2.2.2.1).mono ?_
      rintro e w14 ⟨rfl, rfl⟩
      go_wp2_with fail
      refine region_relL (ltC w s j m g o bl bh q0 v0 n T b v1) (luY 0 (.slice ad len cap) (.agg #[.int .i64 s, .int .i64 j, .int .i64 m, .int .i64 g, .int .i64 o]) (.agg #[.int .i64 bl, .int .i64 bh]) (.slice ae el ce) len f a el fe ge n T) 10 (fun _ _ => ltC_on) luY_on (by kernel_rfl) (by kernel_rfl) (by kernel_rfl) ?_ ?_ ?_
      · exact ltC_on hW13 (Below.drew (Below.refl _ _))
      · intro j' o' ho hne vs w4 hC hw
        have hB4 := hC.2.2.2.2.2.2.2.2.2
        have c0 : w4.cell? ⟨w.heap.size, 0, none⟩ = some (.int .i64 s) := hC.1
        have c1 : w4.cell? ⟨w.heap.size, 1, none⟩ = some (.int .i64 j) := hC.2.1
        have c2 : w4.cell? ⟨w.heap.size, 2, none⟩ = some (.int .i64 m) := hC.2.2.1
        have c3 : w4.cell? ⟨w.heap.size, 3, none⟩ = some (.int .i64 g) := hC.2.2.2.1
        have c4 : w4.cell? ⟨w.heap.size, 4, none⟩ = some (.int .i64 o) := hC.2.2.2.2.1
        have c5 : w4.cell? ⟨w.heap.size + 1, 0, none⟩ = some (.int .i64 bl) := hC.2.2.2.2.2.1
        have c6 : w4.cell? ⟨w.heap.size + 1, 1, none⟩ = some (.int .i64 bh) := hC.2.2.2.2.2.2.1
        match j', ho with
        | 0, ho =>
          cases ho
          clear hw
          simp [mix]
          go_simp
          exact ⟨rfl, Below.refl _ _⟩
        | 1, ho =>
          cases ho
          have y0 : vs 0 = _ := hw 0 (waits_of (by kernel_rfl))
          clear hw
          simp [mix, y0]
          go_simp
          refine (toRules_c _ _ _ _ _ _).mono ?_
          rintro e w5 ⟨rfl, hb5⟩
          exact ⟨_, rfl, rfl, hb5⟩
        | 2, ho =>
          cases ho
          clear hw
          simp [mix]
          go_simp
          exact ⟨rfl, Below.refl _ _⟩
        | 3, ho =>
          cases ho
          have y2 : vs 2 = _ := hw 2 (waits_of (by kernel_rfl))
          clear hw
          simp [mix, y2]
          go_simp
          refine (toMarkS_any ad len cap f a _ HB.out (hrow.on hB4)).mono ?_
          rintro e w5 ⟨z, rfl, hz, hr, -, hb5⟩
          exact ⟨_, rfl, ⟨z, rfl, hr⟩, hb5⟩
        | 4, ho =>
          cases ho
          clear hw
          simp [mix]
          go_simp
          exact ⟨rfl, Below.refl _ _⟩
        | 5, ho =>
          cases ho
          have y4 : vs 4 = _ := hw 4 (waits_of (by kernel_rfl))
          clear hw
          simp [mix, y4]
          go_simp
          refine (toBound_c _ _ _).mono ?_
          rintro e w5 ⟨rfl, hb5⟩
          exact ⟨_, rfl, rfl, hb5⟩
        | 6, ho =>
          cases ho
          clear hw
          simp [mix]
          go_simp
          exact ⟨rfl, Below.refl _ _⟩
        | 7, ho =>
          cases ho
          have y6 : vs 6 = _ := hw 6 (waits_of (by kernel_rfl))
          clear hw
          simp [mix, y6]
          go_simp
          refine (toEventS_any ae el ce fe ge _ HE.out (hev.on hB4)).mono ?_
          rintro e w5 ⟨z, rfl, hz, hr, -, hb5⟩
          exact ⟨_, rfl, ⟨z, rfl, hr⟩, hb5⟩
        | 8, ho =>
          cases ho
          have y1 : vs 1 = _ := hw 1 (waits_of (by kernel_rfl))
          have y5 : vs 5 = _ := hw 5 (waits_of (by kernel_rfl))
          refine Exists.elim (luY_3 (hw 3 (waits_of (by kernel_rfl)))) (fun z3 hz3 => ?_)
          have y3 := hz3.1
          have hr3 := hz3.2
          clear hz3
          refine Exists.elim (luY_7 (hw 7 (waits_of (by kernel_rfl)))) (fun z7 hz7 => ?_)
          have y7 := hz7.1
          have hr7 := hz7.2
          clear hz7
          clear hw
          simp [mix, y1, y5, y3, y7]
          go_simp
          refine (hi.out z3 z7 _ HB.out HE.out hr3 hr7).mono ?_
          rintro e w5 ⟨v, rfl, hv, hb5⟩
          exact ⟨_, rfl, hv.base (Nat.zero_le _), hb5⟩
        | 9, ho =>
          cases ho
          have y8 := luY_8 (hw 8 (waits_of (by kernel_rfl)))
          clear hw
          simp [mix]
          go_simp
          exact ⟨y8, Below.refl _ _⟩
        | k + 10, ho => simp at ho
      · intro vs w4 hC hy
        have y0 : vs 0 = _ := hy 0 (by simp) (by simp)
        have y1 : vs 1 = _ := hy 1 (by simp) (by simp)
        have y2 : vs 2 = _ := hy 2 (by simp) (by simp)
        have y4 : vs 4 = _ := hy 4 (by simp) (by simp)
        have y5 : vs 5 = _ := hy 5 (by simp) (by simp)
        have y6 : vs 6 = _ := hy 6 (by simp) (by simp)
        refine Exists.elim (luY_3 (hy 3 (by simp) (by simp))) (fun z3 e3 => ?_)
        have y3 := e3.1
        clear e3
        refine Exists.elim (luY_7 (hy 7 (by simp) (by simp))) (fun z7 e7 => ?_)
        have y7 := e7.1
        clear e7
        have y9 := luY_9 (hy 9 (by simp) (by simp))
        clear hy
        refine Exists.elim (StRow.at y9) (fun q9 e9 => ?_)
        have s9 := e9.2
        clear e9 y9
        refine ⟨?_⟩
        simp only [mix, y0, y1, y2, y3, y4, y5, y6, y7]
        clear y0 y1 y2 y3 y4 y5 y6 y7
        generalize vs 9 = v2 at *
        clear hW13
        go_wp2_with fail
        refine (eqStateS_v _ hn.out s9 hC.2.2.2.2.2.2.2.1).mono ?_
        rintro e w16 ⟨rfl, hb16⟩
        have hC16 := ltC_on hC hb16
        clear hC s9 hb16
        go_wp2_with fail
        refine (heldStateS_v b n v1 _ hn.out hC16.2.2.2.2.2.2.2.2.1).mono ?_
        rintro e w17 ⟨rfl, rfl⟩
        go_wp2_with fail
        go_ret
        exact ⟨rfl, hC16.2.2.2.2.2.2.2.2.2⟩

end Go.Proofs.Ytmhppadblddjoab
