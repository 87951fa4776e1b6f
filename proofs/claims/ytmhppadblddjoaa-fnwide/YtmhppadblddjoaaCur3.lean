import Derived.Test.YtmhppadblddjoaaCur2
namespace Go.Proofs.Ytmhppadblddjoaa
open Go.RowKit

theorem infoMark : (Try.prog.info? 37).map (fun i => (i.zero, i.size, i.bytes)) = some (some (.agg #[.int .i64 0, .int .i64 0]), 2, 16) := by kernel_rfl

theorem ownsOn {p base : Nat} {w w' : World} {e : TypeId} {size n : Nat} {v : Value} {xs : List Value} (h : w.ownsRow base e size v n xs) (ht : Turns p w w') (hp : p < base) : w'.ownsRow base e size v n xs := by
  obtain ⟨h1, h2⟩ := h
  refine ⟨h1, ?_⟩
  rcases h2 with h2 | ⟨g, cap, cur, hv, hg, hh, r⟩
  · exact Or.inl h2
  · exact Or.inr ⟨g, cap, cur, hv, hg, ht.blk (by omega) hh, r⟩

theorem Turns.grown {p base : Nat} {a w w' : World} {v : Value} {e : TypeId} {size n : Nat} {xs : List Value} (h : Turns p a w) (hown : w.ownsRow base e size v n xs) (hb : a.heap.size ≤ base) (hg : w.grownBy w' v.ownBlock) : Turns p a w' := by
  refine ⟨hg.os.trans h.os, hg.tape.trans h.tape, hg.output.trans h.output, Nat.le_trans h.size hg.size, fun k hk hn => ?_⟩
  rw [hg.block k (Nat.lt_of_lt_of_le hk h.size) ?_]
  · exact h.block k hk hn
  · obtain ⟨_, h2⟩ := hown
    rcases h2 with ⟨rfl, _⟩ | ⟨g, cap, cur, rfl, hg2, _⟩
    · simp [Value.ownBlock]
    · simp [Value.ownBlock]; omega

theorem CurAt.grown {p base : Nat} {a0 : Option Addr} {len cap K : Nat} {a w w' : World} {v : Value} {e : TypeId} {size n : Nat} {xs : List Value} (h0 : CurAt p a0 len cap K a) (hT : Turns p a w') (h : CurAt p a0 len cap K w)
    (hown : w.ownsRow base e size v n xs) (hp : p < base) (hg : w.grownBy w' v.ownBlock) : CurAt p a0 len cap K w' := by
  refine CurAt.fin h0 h hT (hg.block p h.lt ?_)
  obtain ⟨_, h2⟩ := hown
  rcases h2 with ⟨rfl, _⟩ | ⟨g, cap, cur, rfl, hg2, _⟩
  · simp [Value.ownBlock]
  · simp [Value.ownBlock]; omega

set_option maxHeartbeats 1000000 in
theorem marks_c {p : Nat} {a0 : Option Addr} {len cap : Nat} (K : Nat) (w : World) (hC : CurAt p a0 len cap K w) (hK : K ≤ 9990000) :
    Calls Try.prog 34 #[.pointer (some ⟨p, 0, none⟩)] w fun e w' => ∃ v, e = .returned v ∧ CurAt p a0 len cap (K + 30) w' ∧ Turns p w w' := by
  have hlt := hC.lt
  obtain ⟨i0, hi, hz0, hz1, hz2⟩ := info_parts infoMark
  have HC : Hid (CurAt p a0 len cap K w) := hC
  go_enter Try.func34, Try.ntmps34
  go_wp2_with fail
  refine (wide_c K 300 _ hC (by omega) (by omega) (by omega)).mono ?_
  rintro e w1 ⟨t, rfl, t0, t1, hC1, ht1⟩
  go_wp2_with fail
  refine (pick_c _ 8 _ hC1 (by omega) (by omega) (by omega)).mono ?_
  rintro e w2 ⟨q, rfl, q0, q1, hC2, ht2⟩
  have hT2 := ht1.trans ht2
  obtain ⟨n0, rfl⟩ := Int.eq_ofNat_of_zero_le q0
  clear hC hC1 ht1 ht2
  go_wp2_with fail
  go_loopw [3, 4, 5] (fun v tt k wr => ∃ (n c : Nat) (a : Int) (xs : List Value), k = .int .i64 n ∧ n ≤ 7 ∧ c + n ≤ 7 ∧ tt = .int .i64 a ∧ 0 ≤ a ∧ a + 601 * n ≤ 5000 ∧ wr.ownsRow w.heap.size 37 2 v c xs ∧ CurAt p a0 len cap (K + 27 - 3 * n) wr ∧ Turns p w wr) (fun _ _ k _ => (intOf k).toNat)
  case atStart => exact ⟨n0, 0, t, [], rfl, by omega, by omega, rfl, t0, by omega, World.ownsRow_nil _ _ _ _, hC2.le (by omega), hT2⟩
  case round =>
    obtain ⟨n, c, a, xs, rfl, hn, hcn, rfl, h0, h1, hown, hCr, hTr⟩ := hrel
    by_cases hn0 : 0 < n
    · go_wp2_with fail
      refine (pick_c _ 3 _ hCr (by omega) (by omega) (by omega)).mono ?_
      rintro e w3 ⟨q, rfl, q0, q1, hC3, ht3⟩
      have hown3 := ownsOn hown ht3 hlt
      have hT3 := hTr.trans ht3
      have hsz3 := hT3.size
      clear hown hCr hTr ht3
      go_wp2_with (at_builtin; refine wpList_append_own _ rfl _ _ 25 rfl w.heap.size 37 i0 (.agg #[.int .i64 0, .int .i64 0]) 2 16 Try.underlying25 hi hz0 hz1 hz2 rfl (by decide) _ _ _ rfl (hown3.alloc _) ⟨w3.heap.size, 0, none⟩ 1 1 [.int .i64 (1 + 7 * (n : Int) + q), .int .i64 a] rfl rfl ?c1 ?c2 ?c3 ?c4 ?c5 ?_)
      case c1 =>
        intro j u hj
        match j, hj with
        | 0, hj => simp at hj; subst hj; simp [Addr.add]
        | 1, hj => simp at hj; subst hj; simp [Addr.add]
      case c2 => intro u hu; simp at hu; rcases hu with rfl | rfl <;> rfl
      case c3 => unfold maxLen; omega
      case c4 => omega
      case c5 => simp; omega
      intro v' w4 hown4 hgrow _
      have hT4 := (hT3.alloc _).grown (hown3.alloc _) (Nat.le_refl _) hgrow
      have hC4 := CurAt.grown (HC.out.le (by omega)) hT4 (hC3.on ((Below.refl _ _).alloc (Nat.le_refl _) _)) (hown3.alloc _) hlt hgrow
      clear hgrow hown3 hC3 hT3
      go_wp2_with fail
      refine (wide_c _ 600 _ hC4 (by omega) (by omega) (by omega)).mono ?_
      rintro e w5 ⟨z, rfl, z0, z1, hC5, ht5⟩
      have hown5 := ownsOn hown4 ht5 hlt
      have hT5 := hT4.trans ht5
      go_wp2_with fail
      go_roundw
      case rel => exact ⟨n - 1, c + 1, a + (1 + z), _, by go_num, by omega, by omega, rfl, by omega, by omega, hown5, hC5.le (by omega), hT5⟩
      case measure => simp [intOf]; omega
    · go_wp2_with fail
      go_ret
      exact ⟨_, rfl, hCr.le (by omega), hTr⟩

end Go.Proofs.Ytmhppadblddjoaa
