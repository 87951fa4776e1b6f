import Derived.Test.YtmhppadblddjoaaDoorZTrueDrawn
namespace Go.Proofs.YtmhppadblddjoaaDoor
open Go.RowKit

def mB (al ah bl bh : Int) : Bool := decide (al ≤ bh) && decide (bl ≤ ah)

set_option maxHeartbeats 400000 in
theorem ivMeets_c (al ah bl bh : Int) (w : World) :
    Calls Tryd.prog 106 #[.agg #[.int .i64 al, .int .i64 ah], .agg #[.int .i64 bl, .int .i64 bh]] w fun e w' => e = .returned (.bool (mB al ah bl bh)) ∧ Below w.heap.size w w' := by
  by_cases h1 : al ≤ bh
  · by_cases h2 : bl ≤ ah
    all_goals
      go_enter Tryd.func106, Tryd.ntmps106
      go_wp2
      go_ret
      exact ⟨by simp [mB, h1, h2], nbAlloc (nbAlloc (Below.refl _ _) _) _⟩
  · go_enter Tryd.func106, Tryd.ntmps106
    go_wp2
    go_ret
    exact ⟨by simp [mB]; omega, nbAlloc (nbAlloc (Below.refl _ _) _) _⟩

set_option maxHeartbeats 400000 in
theorem intervalOf_c (l h : Int) (w : World) :
    Calls Tryd.prog 90 #[.agg #[.int .i64 l, .int .i64 h]] w fun e w' => e = .returned (.agg #[.int .i64 l, .int .i64 h]) ∧ Below w.heap.size w w' := by
  go_enter Tryd.func90, Tryd.ntmps90
  go_wp2
  exact bodyPost_ret (v := .agg #[.int .i64 l, .int .i64 h]) (by simp [results, Tryd.results90, go_sem]) rfl ⟨rfl, nbAlloc (nbAlloc (Below.refl _ _) _) _⟩

set_option maxHeartbeats 400000 in
theorem implMeets_c (al ah bl bh : Int) (w : World) :
    Calls Tryd.prog 97 #[.agg #[.int .i64 al, .int .i64 ah], .agg #[.int .i64 bl, .int .i64 bh]] w fun e w' => e = .returned (.bool (mB al ah bl bh)) ∧ Below w.heap.size w w' := by
  go_enter Tryd.func97, Tryd.ntmps97
  go_wp2
  go_region_held3 (fun w' => w'.cell? ⟨w.heap.size, 0, none⟩ = some (.int .i64 al) ∧ w'.cell? ⟨w.heap.size, 1, none⟩ = some (.int .i64 ah) ∧ w'.cell? ⟨w.heap.size + 1, 0, none⟩ = some (.int .i64 bl) ∧ w'.cell? ⟨w.heap.size + 1, 1, none⟩ = some (.int .i64 bh) ∧ Below w.heap.size w w')
    (((try go_split_ands); refine ⟨?_, ?_, ?_, ?_, ?_⟩ <;> first | (simp [*]; done) | exact cellOn (by assumption) (by simp [*]; done) | exact nbTrans (by assumption) (by assumption) | exact Below.drew (nbAlloc (nbAlloc (Below.refl _ _) _) _)))
    (first | (go_at_call 90; refine (intervalOf_c _ _ _).mono ?_; rintro e w' ⟨rfl, hb⟩) | (go_at_call 106; refine (ivMeets_c _ _ _ _ _).mono ?_; rintro e w' ⟨rfl, hb⟩))
  go_wp2
  go_ret
  go_split_ands
  exact ⟨rfl, by assumption⟩

end Go.Proofs.YtmhppadblddjoaaDoor

namespace Go.Proofs.YtmhppadblddjoaaDoor
open Go.RowKit

/-- Nothing that was there has turned but block p. -/
structure Turns (p : Nat) (w w' : World) : Prop where
  os : w'.os = w.os
  tape : w'.tape = w.tape
  output : w'.output = w.output
  size : w.heap.size ≤ w'.heap.size
  block : ∀ k, k < w.heap.size → k ≠ p → w'.heap[k]? = w.heap[k]?
theorem Turns.refl (p : Nat) (w : World) : Turns p w w := ⟨rfl, rfl, rfl, Nat.le_refl _, fun _ _ _ => rfl⟩
theorem Turns.trans {p : Nat} {a b c : World} (h : Turns p a b) (k : Turns p b c) : Turns p a c :=
  ⟨k.os.trans h.os, k.tape.trans h.tape, k.output.trans h.output, Nat.le_trans h.size k.size, fun i hi hn => (k.block i (Nat.lt_of_lt_of_le hi h.size) hn).trans (h.block i hi hn)⟩
theorem Turns.drewN {p : Nat} {a w : World} (n : Nat) (h : Turns p a w) : Turns p a (w.drewN n) := ⟨h.os, h.tape, h.output, h.size, h.block⟩
theorem Turns.setCell {p : Nat} {a w : World} (h : Turns p a w) (o : Nat) (v : Value) : Turns p a (w.setCell ⟨p, o, none⟩ v) :=
  h.trans ⟨rfl, rfl, rfl, by simp [World.setCell], fun k _ hn => Below.heap_setCell _ _ _ _ hn⟩
theorem Turns.of_below {p : Nat} {w w' : World} (h : Below w.heap.size w w') : Turns p w w' := ⟨h.os, h.tape, h.output, h.size, fun k hk _ => h.block k hk⟩
theorem Turns.cell {p : Nat} {w w' : World} (h : Turns p w w') {b o : Nat} {v : Value} (hb : b ≠ p) (hc : w.cell? ⟨b, o, none⟩ = some v) : w'.cell? ⟨b, o, none⟩ = some v := by
  rw [World.cell?_of_block (w := w) (h.block b (ltCell hc) hb)]; exact hc

end Go.Proofs.YtmhppadblddjoaaDoor

namespace Go.Proofs.YtmhppadblddjoaaDoor
open Go.RowKit

/-- The bytes that a law was handed: none, or a row of bytes away from block p. -/
def Row (p : Nat) (w : World) (a0 : Option Addr) (len : Nat) : Prop :=
  len = 0 ∨ ∃ b off, a0 = some ⟨b, off, none⟩ ∧ b ≠ p ∧ ∀ i, i < len → ∃ v : Int, 0 ≤ v ∧ v ≤ 255 ∧ w.cell? ⟨b, off + i, none⟩ = some (.int .u8 v)
theorem Row.on {p : Nat} {w w' : World} {a0 : Option Addr} {len : Nat} (h : Row p w a0 len) (k : Turns p w w') : Row p w' a0 len := by
  rcases h with h | ⟨b, off, h1, h2, h3⟩
  · exact .inl h
  · exact .inr ⟨b, off, h1, h2, fun i hi => let ⟨v, a, b, c⟩ := h3 i hi; ⟨v, a, b, k.cell h2 c⟩⟩

theorem low8 (y : Int) : 0 ≤ wrap64 (bits .and .u64 (IntKind.u64.wrap y / 1099511627776) 255) ∧ wrap64 (bits .and .u64 (IntKind.u64.wrap y / 1099511627776) 255) ≤ 255 := by
  have h1 : 0 ≤ IntKind.u64.wrap y ∧ IntKind.u64.wrap y < 18446744073709551616 := by rw [IntKind.wrap_u64]; omega
  generalize IntKind.u64.wrap y = x at *
  rw [u64_and (x / 1099511627776) 255 (by omega) (by omega) (by omega) (by omega)]
  have h2 : (x / 1099511627776).toNat &&& (255 : Int).toNat ≤ (255 : Int).toNat := Nat.and_le_right
  generalize (x / 1099511627776).toNat &&& (255 : Int).toNat = n at *
  have h3 : (255 : Int).toNat = 255 := rfl
  unfold wrap64
  omega

set_option maxHeartbeats 1000000 in
theorem next_in (p b off len cap k : Nat) (seed v : Int) (w : World) (hblk : w.heap[p]? = some (.cells #[.slice (some ⟨b, off, none⟩) len cap, .int .i64 k, .int .u64 seed] 61))
    (hk : k < len) (hk1 : k ≤ 10000000) (hv0 : 0 ≤ v) (hv1 : v ≤ 255) (hc : w.cell? ⟨b, off + k, none⟩ = some (.int .u8 v)) :
    Calls Tryd.prog 73 #[.pointer (some ⟨p, 0, none⟩)] w fun e w' => ∃ v seed' : Int, e = .returned (.int .i64 v) ∧ 0 ≤ v ∧ v ≤ 255 ∧ w'.heap[p]? = some (.cells #[.slice (some ⟨b, off, none⟩) len cap, .int .i64 (k + 1), .int .u64 seed'] 61) ∧ Turns p w w' := by
  have c0 : w.cell? ⟨p, 0, none⟩ = some (.slice (some ⟨b, off, none⟩) len cap) := by simp [World.cell?, hblk]
  have c1 : w.cell? ⟨p, 1, none⟩ = some (.int .i64 k) := by simp [World.cell?, hblk]
  have c2 : w.cell? ⟨p, 2, none⟩ = some (.int .u64 seed) := by simp [World.cell?, hblk]
  have f1 : w.frozen? ⟨p, 1, none⟩ = false := by simp [World.frozen?, hblk]
  have f2 : w.frozen? ⟨p, 2, none⟩ = false := by simp [World.frozen?, hblk]
  have HB : Hid (w.heap[p]? = some (.cells #[.slice (some ⟨b, off, none⟩) len cap, .int .i64 k, .int .u64 seed] 61)) := hblk
  clear hblk
  have i0 : (0 : Int) ≤ (k : Int) := by omega
  have i1 : (k : Int) < (len : Int) := by omega
  go_enter Tryd.func73, Tryd.ntmps73
  go_wp2_with fail
  go_quiet (fail)
  go_wp2_with fail
  go_quiet (fail)
  go_wp2_with fail
  go_ret
  exact ⟨v, _, rfl, hv0, hv1, Joins.block_setCell (Joins.block_setCell (w := w.drewN _) HB.out _) _, (((Turns.refl p w).drewN _).setCell 1 _).setCell 2 _⟩

set_option maxHeartbeats 1000000 in
theorem next_out (p len cap k : Nat) (a0 : Option Addr) (seed : Int) (w : World) (hblk : w.heap[p]? = some (.cells #[.slice a0 len cap, .int .i64 k, .int .u64 seed] 61))
    (hk : len ≤ k) (hk1 : k ≤ 10000000) :
    Calls Tryd.prog 73 #[.pointer (some ⟨p, 0, none⟩)] w fun e w' => ∃ v seed' : Int, e = .returned (.int .i64 v) ∧ 0 ≤ v ∧ v ≤ 255 ∧ w'.heap[p]? = some (.cells #[.slice a0 len cap, .int .i64 (k + 1), .int .u64 seed'] 61) ∧ Turns p w w' := by
  have c0 : w.cell? ⟨p, 0, none⟩ = some (.slice a0 len cap) := by simp [World.cell?, hblk]
  have c1 : w.cell? ⟨p, 1, none⟩ = some (.int .i64 k) := by simp [World.cell?, hblk]
  have c2 : w.cell? ⟨p, 2, none⟩ = some (.int .u64 seed) := by simp [World.cell?, hblk]
  have f1 : w.frozen? ⟨p, 1, none⟩ = false := by simp [World.frozen?, hblk]
  have f2 : w.frozen? ⟨p, 2, none⟩ = false := by simp [World.frozen?, hblk]
  have HB : Hid (w.heap[p]? = some (.cells #[.slice a0 len cap, .int .i64 k, .int .u64 seed] 61)) := hblk
  clear hblk
  have i1 : (len : Int) ≤ (k : Int) := by omega
  go_enter Tryd.func73, Tryd.ntmps73
  go_wp2_with fail
  go_quiet (fail)
  go_wp2_with fail
  go_ret
  refine ⟨_, _, rfl, ?_, ?_, Joins.block_setCell (Joins.block_setCell (w := w.drewN _) HB.out _) _, (((Turns.refl p w).drewN _).setCell 2 _).setCell 1 _⟩
  · exact (low8 _).1
  · exact (low8 _).2

/-- The cursor: its block, how far it has read at the most. -/
def CurAt (p : Nat) (a0 : Option Addr) (len cap : Nat) (K : Nat) (w : World) : Prop :=
  Row p w a0 len ∧ ∃ (k : Nat) (seed : Int), k ≤ K ∧ w.heap[p]? = some (.cells #[.slice a0 len cap, .int .i64 k, .int .u64 seed] 61)

theorem next_c {p : Nat} {a0 : Option Addr} {len cap : Nat} (K : Nat) (w : World) (hC : CurAt p a0 len cap K w) (hK : K ≤ 10000000) :
    Calls Tryd.prog 73 #[.pointer (some ⟨p, 0, none⟩)] w fun e w' => ∃ v : Int, e = .returned (.int .i64 v) ∧ 0 ≤ v ∧ v ≤ 255 ∧ CurAt p a0 len cap (K + 1) w' ∧ Turns p w w' := by
  obtain ⟨hR, k, seed, hk, hblk⟩ := hC
  by_cases hlt : k < len
  · have hR' := hR
    rcases hR' with h | ⟨b, off, rfl, hb, h3⟩
    · omega
    · obtain ⟨v, v0, v1, hc⟩ := h3 k hlt
      refine (next_in p b off len cap k seed v w hblk hlt (by omega) v0 v1 hc).mono ?_
      rintro e w' ⟨v, seed', he, q0, q1, hb', ht⟩
      exact ⟨v, he, q0, q1, ⟨hR.on ht, k + 1, seed', by omega, by simpa using hb'⟩, ht⟩
  · refine (next_out p len cap k a0 seed w hblk (by omega) (by omega)).mono ?_
    rintro e w' ⟨v, seed', he, q0, q1, hb', ht⟩
    exact ⟨v, he, q0, q1, ⟨hR.on ht, k + 1, seed', by omega, by simpa using hb'⟩, ht⟩

end Go.Proofs.YtmhppadblddjoaaDoor

namespace Go.Proofs.YtmhppadblddjoaaDoor
open Go.RowKit

theorem CurAt.on {p : Nat} {a0 : Option Addr} {len cap K : Nat} {w w' : World} (h : CurAt p a0 len cap K w) (hb : Below w.heap.size w w') : CurAt p a0 len cap K w' := by
  obtain ⟨hR, k, seed, hk, hblk⟩ := h
  exact ⟨hR.on (Turns.of_below hb), k, seed, hk, by rw [hb.block p (Array.getElem?_eq_some_iff.1 hblk).1]; exact hblk⟩
theorem CurAt.lt {p : Nat} {a0 : Option Addr} {len cap K : Nat} {w : World} (h : CurAt p a0 len cap K w) : p < w.heap.size := by
  obtain ⟨_, k, seed, _, hblk⟩ := h
  exact (Array.getElem?_eq_some_iff.1 hblk).1
theorem CurAt.le {p : Nat} {a0 : Option Addr} {len cap K K' : Nat} {w : World} (h : CurAt p a0 len cap K w) (hk : K ≤ K') : CurAt p a0 len cap K' w := by
  obtain ⟨hR, k, seed, h1, hblk⟩ := h
  exact ⟨hR, k, seed, by omega, hblk⟩
theorem Turns.blk {p : Nat} {w w' : World} (h : Turns p w w') {R : Nat} {o : Obj} (hR : R ≠ p) (hb : w.heap[R]? = some o) : w'.heap[R]? = some o := by
  rw [h.block R (Array.getElem?_eq_some_iff.1 hb).1 hR]; exact hb
theorem Turns.alloc {p : Nat} {a w : World} (h : Turns p a w) (o : Obj) : Turns p a (w.alloc o) := h.trans (Turns.of_below ((Below.refl _ _).alloc (Nat.le_refl _) o))
theorem Turns.setOwn {p : Nat} {a w : World} (h : Turns p a w) {R : Nat} (hR : a.heap.size ≤ R) (o : Nat) (v : Value) : Turns p a (w.setCell ⟨R, o, none⟩ v) :=
  ⟨h.os, h.tape, h.output, by simpa [World.setCell] using h.size, fun k hk hn => by rw [Below.heap_setCell w ⟨R, o, none⟩ v k (by show k ≠ R; omega)]; exact h.block k hk hn⟩

theorem hpSet {w w6 : World} {p R o : Nat} {v : Value} (h : w.heap[p]? = w6.heap[p]?) (hR : p ≠ R) : (w.setCell ⟨R, o, none⟩ v).heap[p]? = w6.heap[p]? := by
  rw [Below.heap_setCell w ⟨R, o, none⟩ v p hR]; exact h
theorem CurAt.fin {p : Nat} {a0 : Option Addr} {len cap K0 K : Nat} {w w6 w' : World} (h0 : CurAt p a0 len cap K0 w) (h6 : CurAt p a0 len cap K w6) (hT : Turns p w w') (hp : w'.heap[p]? = w6.heap[p]?) : CurAt p a0 len cap K w' := by
  obtain ⟨_, k, seed, h1, hblk⟩ := h6
  exact ⟨h0.1.on hT, k, seed, h1, by rw [hp]; exact hblk⟩

set_option maxHeartbeats 400000 in
theorem pick_c {p : Nat} {a0 : Option Addr} {len cap : Nat} (K : Nat) (n : Int) (w : World) (hC : CurAt p a0 len cap K w) (hK : K ≤ 9999999) (hn1 : 1 < n) (hn2 : n ≤ 200) :
    Calls Tryd.prog 27 #[.pointer (some ⟨p, 0, none⟩), .int .i64 n] w fun e w' => ∃ v : Int, e = .returned (.int .i64 v) ∧ 0 ≤ v ∧ v < n ∧ CurAt p a0 len cap (K + 1) w' ∧ Turns p w w' := by
  go_enter Tryd.func27, Tryd.ntmps27
  go_wp2_with fail
  refine (next_c K _ hC (by omega)).mono ?_
  rintro e w1 ⟨v, rfl, q0, q1, hC1, ht⟩
  go_wp2_with fail
  go_ret
  exact ⟨v % n, rfl, Int.emod_nonneg _ (by omega), Int.emod_lt_of_pos _ (by omega), hC1, ht⟩

set_option maxHeartbeats 400000 in
theorem wide_c {p : Nat} {a0 : Option Addr} {len cap : Nat} (K : Nat) (n : Int) (w : World) (hC : CurAt p a0 len cap K w) (hK : K ≤ 9999998) (hn1 : 0 < n) (hn2 : n ≤ 100000) :
    Calls Tryd.prog 49 #[.pointer (some ⟨p, 0, none⟩), .int .i64 n] w fun e w' => ∃ v : Int, e = .returned (.int .i64 v) ∧ 0 ≤ v ∧ v < n ∧ CurAt p a0 len cap (K + 2) w' ∧ Turns p w w' := by
  have hnz : (n == 0) = false := by simp; omega
  go_enter Tryd.func49, Tryd.ntmps49
  go_wp2_with fail
  refine (next_c K _ hC (by omega)).mono ?_
  rintro e w1 ⟨v, rfl, q0, q1, hC1, ht⟩
  go_wp2_with fail
  refine (next_c (K + 1) _ hC1 (by omega)).mono ?_
  rintro e w2 ⟨u, rfl, r0, r1, hC2, ht2⟩
  go_wp2_with fail
  go_ret
  exact ⟨(v * 256 + u) % n, rfl, Int.emod_nonneg _ (by omega), Int.emod_lt_of_pos _ (by omega), hC2, ht.trans ht2⟩

set_option maxHeartbeats 1000000 in
theorem rules_c {p : Nat} {a0 : Option Addr} {len cap : Nat} (K : Nat) (w : World) (hC : CurAt p a0 len cap K w) (hK : K ≤ 9999000) :
    Calls Tryd.prog 47 #[.pointer (some ⟨p, 0, none⟩)] w fun e w' => ∃ s j m g o : Int, e = .returned (.agg #[.int .i64 s, .int .i64 j, .int .i64 m, .int .i64 g, .int .i64 o]) ∧ 0 ≤ s ∧ s < 80 ∧ 0 ≤ j ∧ j < 6 ∧ 0 ≤ m ∧ m < 30 ∧ 1 ≤ g ∧ g ≤ 400 ∧ 0 ≤ o ∧ o < 20 ∧ CurAt p a0 len cap (K + 7) w' ∧ Turns p w w' := by
  have hlt := hC.lt
  have hCa : CurAt p a0 len cap K (w.alloc (.cells #[.int .i64 0, .int .i64 0, .int .i64 0, .int .i64 0, .int .i64 0] 24)) := hC.on ((Below.refl _ _).alloc (Nat.le_refl _) _)
  have ht0 : Turns p w (w.alloc (.cells #[.int .i64 0, .int .i64 0, .int .i64 0, .int .i64 0, .int .i64 0] 24)) := (Turns.refl p w).alloc _
  have hb0 : Hid ((w.alloc (.cells #[.int .i64 0, .int .i64 0, .int .i64 0, .int .i64 0, .int .i64 0] 24)).heap[w.heap.size]? = some (.cells #[.int .i64 0, .int .i64 0, .int .i64 0, .int .i64 0, .int .i64 0] 24)) := by
    show (w.heap.push _)[w.heap.size]? = _
    simp
  go_enter Tryd.func47, Tryd.ntmps47
  go_wp2_with fail
  refine (pick_c K 80 _ hCa (by omega) (by omega) (by omega)).mono ?_
  rintro e w1 ⟨s, rfl, s0, s1, hC1, ht1⟩
  have hb1 : Hid (w1.heap[w.heap.size]? = some (.cells #[.int .i64 0, .int .i64 0, .int .i64 0, .int .i64 0, .int .i64 0] 24)) := ht1.blk (by omega) hb0.out
  go_wp2_with fail
  refine (pick_c (K + 1) 6 _ hC1 (by omega) (by omega) (by omega)).mono ?_
  rintro e w2 ⟨j, rfl, j0, j1, hC2, ht2⟩
  have hb2 : Hid (w2.heap[w.heap.size]? = some (.cells #[.int .i64 0, .int .i64 0, .int .i64 0, .int .i64 0, .int .i64 0] 24)) := ht2.blk (by omega) hb1.out
  go_wp2_with fail
  refine (pick_c (K + 2) 30 _ hC2 (by omega) (by omega) (by omega)).mono ?_
  rintro e w3 ⟨m, rfl, m0, m1, hC3, ht3⟩
  have hb3 : Hid (w3.heap[w.heap.size]? = some (.cells #[.int .i64 0, .int .i64 0, .int .i64 0, .int .i64 0, .int .i64 0] 24)) := ht3.blk (by omega) hb2.out
  go_wp2_with fail
  refine (wide_c (K + 3) 400 _ hC3 (by omega) (by omega) (by omega)).mono ?_
  rintro e w4 ⟨g', rfl, g0, g1, hC4, ht4⟩
  have hb4 : Hid (w4.heap[w.heap.size]? = some (.cells #[.int .i64 0, .int .i64 0, .int .i64 0, .int .i64 0, .int .i64 0] 24)) := ht4.blk (by omega) hb3.out
  go_wp2_with fail
  refine (pick_c (K + 5) 20 _ hC4 (by omega) (by omega) (by omega)).mono ?_
  rintro e w5 ⟨o, rfl, o0, o1, hC5, ht5⟩
  have hb5 : Hid (w5.heap[w.heap.size]? = some (.cells #[.int .i64 0, .int .i64 0, .int .i64 0, .int .i64 0, .int .i64 0] 24)) := ht5.blk (by omega) hb4.out
  go_wp2_with fail
  have hlt5 : w.heap.size < w5.heap.size := (Array.getElem?_eq_some_iff.1 hb5.out).1
  have hC5a := hC5.on ((Below.refl w5.heap.size w5).alloc (Nat.le_refl _) (.cells #[.int .i64 s, .int .i64 j, .int .i64 m, .int .i64 (1 + g'), .int .i64 o] 24))
  have hr5 : Hid ((w5.alloc (.cells #[.int .i64 s, .int .i64 j, .int .i64 m, .int .i64 (1 + g'), .int .i64 o] 24)).heap[w5.heap.size]? = some (.cells #[.int .i64 s, .int .i64 j, .int .i64 m, .int .i64 (1 + g'), .int .i64 o] 24)) := by
    show (w5.heap.push _)[w5.heap.size]? = _
    simp
  have hb5a : Hid ((w5.alloc (.cells #[.int .i64 s, .int .i64 j, .int .i64 m, .int .i64 (1 + g'), .int .i64 o] 24)).heap[w.heap.size]? = some (.cells #[.int .i64 0, .int .i64 0, .int .i64 0, .int .i64 0, .int .i64 0] 24)) := (((Turns.refl p w5).alloc _).blk (by omega) hb5.out)
  refine (pick_c _ 5 _ hC5a (by omega) (by omega) (by omega)).mono ?_
  rintro e w6 ⟨z, rfl, z0, z1, hC6, ht6⟩
  have hplt : p < w5.heap.size := hC5.lt
  have hr6 : w6.heap[w5.heap.size]? = _ := ht6.blk (by omega) hr5.out
  have hb6 : w6.heap[w.heap.size]? = _ := ht6.blk (by omega) hb5a.out
  have hT : Turns p w w6 := ((((((ht0.trans ht1).trans ht2).trans ht3).trans ht4).trans ht5).alloc _).trans ht6
  have hr6' : Hid (w6.heap[w5.heap.size]? = _) := hr6
  have hb6' : Hid (w6.heap[w.heap.size]? = _) := hb6
  have hne : w5.heap.size ≠ w.heap.size := by omega
  have ra0 : w6.cell? ⟨w5.heap.size, 0, none⟩ = some (.int .i64 s) := by simp [World.cell?, hr6]
  have raf0 : w6.frozen? ⟨w5.heap.size, 0, none⟩ = false := by simp [World.frozen?, hr6]
  have ra1 : w6.cell? ⟨w5.heap.size, 1, none⟩ = some (.int .i64 j) := by simp [World.cell?, hr6]
  have raf1 : w6.frozen? ⟨w5.heap.size, 1, none⟩ = false := by simp [World.frozen?, hr6]
  have ra2 : w6.cell? ⟨w5.heap.size, 2, none⟩ = some (.int .i64 m) := by simp [World.cell?, hr6]
  have raf2 : w6.frozen? ⟨w5.heap.size, 2, none⟩ = false := by simp [World.frozen?, hr6]
  have ra3 : w6.cell? ⟨w5.heap.size, 3, none⟩ = some (.int .i64 (1 + g')) := by simp [World.cell?, hr6]
  have raf3 : w6.frozen? ⟨w5.heap.size, 3, none⟩ = false := by simp [World.frozen?, hr6]
  have ra4 : w6.cell? ⟨w5.heap.size, 4, none⟩ = some (.int .i64 o) := by simp [World.cell?, hr6]
  have raf4 : w6.frozen? ⟨w5.heap.size, 4, none⟩ = false := by simp [World.frozen?, hr6]
  have rb0 : w6.cell? ⟨w.heap.size, 0, none⟩ = some (.int .i64 0) := by simp [World.cell?, hb6]
  have rbf0 : w6.frozen? ⟨w.heap.size, 0, none⟩ = false := by simp [World.frozen?, hb6]
  have rb1 : w6.cell? ⟨w.heap.size, 1, none⟩ = some (.int .i64 0) := by simp [World.cell?, hb6]
  have rbf1 : w6.frozen? ⟨w.heap.size, 1, none⟩ = false := by simp [World.frozen?, hb6]
  have rb2 : w6.cell? ⟨w.heap.size, 2, none⟩ = some (.int .i64 0) := by simp [World.cell?, hb6]
  have rbf2 : w6.frozen? ⟨w.heap.size, 2, none⟩ = false := by simp [World.frozen?, hb6]
  have rb3 : w6.cell? ⟨w.heap.size, 3, none⟩ = some (.int .i64 0) := by simp [World.cell?, hb6]
  have rbf3 : w6.frozen? ⟨w.heap.size, 3, none⟩ = false := by simp [World.frozen?, hb6]
  have rb4 : w6.cell? ⟨w.heap.size, 4, none⟩ = some (.int .i64 0) := by simp [World.cell?, hb6]
  have rbf4 : w6.frozen? ⟨w.heap.size, 4, none⟩ = false := by simp [World.frozen?, hb6]
  clear hr6 hb6 hb0 hb1 hb2 hb3 hb4 hb5 hb5a hr5 ht0 ht1 ht2 ht3 ht4 ht5 ht6 hCa hC1 hC2 hC3 hC4 hC5 hC5a
  generalize w5.heap.size = r at *
  have HC : Hid (CurAt p a0 len cap K w) := hC
  clear hC
  by_cases hz : z = 0
  · subst hz
    go_wp2_with fail
    refine bodyPost_ret (v := .agg #[.int .i64 0, .int .i64 j, .int .i64 m, .int .i64 (1 + g'), .int .i64 o]) (by simp [results, Tryd.results47, go_sem, *]) rfl ⟨0, j, m, 1 + g', o, rfl, by omega, by omega, j0, j1, m0, m1, by omega, by omega, o0, o1, ?_⟩
    refine (fun hX => ⟨CurAt.fin HC.out hC6 hX ?_, hX⟩) ?_
    · exact ((((((hT.setOwn (by omega) _ _).setOwn (by omega) _ _).setOwn (by omega) _ _).setOwn (by omega) _ _).setOwn (by omega) _ _).setOwn (by omega) _ _)
    · exact (hpSet (hpSet (hpSet (hpSet (hpSet (hpSet rfl (by omega)) (by omega)) (by omega)) (by omega)) (by omega)) (by omega))
  · have hzb : (z == 0) = false := by simpa using hz
    go_wp2_with fail
    refine bodyPost_ret (v := .agg #[.int .i64 s, .int .i64 j, .int .i64 m, .int .i64 (1 + g'), .int .i64 o]) (by simp [results, Tryd.results47, go_sem, *]) rfl ⟨s, j, m, 1 + g', o, rfl, s0, s1, j0, j1, m0, m1, by omega, by omega, o0, o1, ?_⟩
    refine (fun hX => ⟨CurAt.fin HC.out hC6 hX ?_, hX⟩) ?_
    · exact (((((hT.setOwn (by omega) _ _).setOwn (by omega) _ _).setOwn (by omega) _ _).setOwn (by omega) _ _).setOwn (by omega) _ _)
    · exact (hpSet (hpSet (hpSet (hpSet (hpSet rfl (by omega)) (by omega)) (by omega)) (by omega)) (by omega))

end Go.Proofs.YtmhppadblddjoaaDoor

namespace Go.Proofs.YtmhppadblddjoaaDoor
open Go.RowKit

theorem infoMark : (Tryd.prog.info? 111).map (fun i => (i.zero, i.size, i.bytes)) = some (some (.agg #[.int .i64 0, .int .i64 0]), 2, 16) := by kernel_rfl

theorem ownsOn {p base : Nat} {w w' : World} {e : TypeId} {size n : Nat} {v : Value} {xs : List Value} (h : w.ownsRow base e size v n xs) (ht : Turns p w w') (hp : p < base) : w'.ownsRow base e size v n xs := by
  obtain ⟨h1, h2⟩ := h
  refine ⟨h1, ?_⟩
  rcases h2 with h2 | ⟨g, cap, cur, hv, hg, hh, r⟩
  · exact Or.inl h2
  · exact Or.inr ⟨g, cap, cur, hv, hg, ht.blk (by omega) hh, r⟩

theorem Turns.grown {p base : Nat} {a w w' : World} {v : Value} {e : TypeId} {size n : Nat} {xs : List Value} (h : Turns p a w) (hown : w.ownsRow base e size v n xs) (hb : a.heap.size ≤ base) (hg : w.grownBy w' v.ownBlock) : Turns p a w' := by
  refine ⟨hg.os.trans h.os, hg.tape.trans h.tape, hg.output.trans h.output, Nat.le_trans h.size hg.size, fun k hk hn => ?_⟩
  rw [hg.block k (Nat.lt_of_lt_of_le hk h.size) ?_]
  · exact h.block k hk hn
  · obtain ⟨_, h2⟩ := hown
    rcases h2 with ⟨rfl, _⟩ | ⟨g, cap, cur, rfl, hg2, _⟩
    · simp [Value.ownBlock]
    · simp [Value.ownBlock]; omega

theorem CurAt.grown {p base : Nat} {a0 : Option Addr} {len cap K : Nat} {a w w' : World} {v : Value} {e : TypeId} {size n : Nat} {xs : List Value} (h0 : CurAt p a0 len cap K a) (hT : Turns p a w') (h : CurAt p a0 len cap K w)
    (hown : w.ownsRow base e size v n xs) (hp : p < base) (hg : w.grownBy w' v.ownBlock) : CurAt p a0 len cap K w' := by
  refine CurAt.fin h0 h hT (hg.block p h.lt ?_)
  obtain ⟨_, h2⟩ := hown
  rcases h2 with ⟨rfl, _⟩ | ⟨g, cap, cur, rfl, hg2, _⟩
  · simp [Value.ownBlock]
  · simp [Value.ownBlock]; omega

end Go.Proofs.YtmhppadblddjoaaDoor

namespace Go.Proofs.YtmhppadblddjoaaDoor
open Go.RowKit

theorem newBlk (w : World) (o : Obj) {n : Nat} (hn : n = w.heap.size) : (w.alloc o).heap[n]? = some o := by
  subst hn
  show (w.heap.push o)[w.heap.size]? = _
  simp
theorem oldBlk {w : World} {k : Nat} {o' : Obj} (h : w.heap[k]? = some o') (o : Obj) : (w.alloc o).heap[k]? = some o' := by
  rw [Below.heap_alloc w o k (Array.getElem?_eq_some_iff.1 h).1]; exact h
theorem CurAt.drew {p : Nat} {a0 : Option Addr} {len cap K : Nat} {w : World} (h : CurAt p a0 len cap K w) : CurAt p a0 len cap K w.drew := h

theorem turnsBelow {w W w4 : World} {p : Nat} (hb : Below w.heap.size w W) (ht : Turns p W w4) (hp : w.heap.size ≤ p) : Below w.heap.size w w4 :=
  ⟨ht.os.trans hb.os, ht.tape.trans hb.tape, ht.output.trans hb.output, Nat.le_trans hb.size ht.size, fun k hk => (ht.block k (Nat.lt_of_lt_of_le hk hb.size) (by omega)).trans (hb.block k hk)⟩
/-- The bytes that came in, as the frame hands them over. -/
def Bytes (w : World) (a0 : Option Addr) (len : Nat) : Prop :=
  len = 0 ∨ ∃ b off, a0 = some ⟨b, off, none⟩ ∧ ∀ i, i < len → ∃ v : Int, 0 ≤ v ∧ v ≤ 255 ∧ w.cell? ⟨b, off + i, none⟩ = some (.int .u8 v)
theorem Bytes.row {w w' : World} {a0 : Option Addr} {len p : Nat} (h : Bytes w a0 len) (hb : Below w.heap.size w w') (hp : w.heap.size ≤ p) : Row p w' a0 len := by
  rcases h with h | ⟨b, off, h1, h3⟩
  · exact .inl h
  · by_cases hz : len = 0
    · exact .inl hz
    · refine .inr ⟨b, off, h1, ?_, fun i hi => let ⟨v, x, y, c⟩ := h3 i hi; ⟨v, x, y, cellOn hb c⟩⟩
      obtain ⟨v, _, _, c⟩ := h3 0 (by omega)
      have := ltCell c
      omega

end Go.Proofs.YtmhppadblddjoaaDoor

