import Derived.Lib.AppendStr
import Derived.Laws.IdiomStrings
import Derived.Test.YtmhppadblddjoaaDoorZTopMkOk
import Derived.Test.YtmhppadblddjoaaDoorZTopStS
/- Numbers as text: the specification's way. -/
namespace Go.Proofs.YtmhppadblddjoaaDoor
open Go.RowKit

theorem ba_nil {s : ByteArray} (h : s.size = 0) : s = ⟨#[]⟩ := by
  cases s with
  | mk d =>
    have : d.size = 0 := h
    rw [Array.eq_empty_of_size_eq_zero this]

/-- 'string(b)' of a row of bytes of one's own. -/
theorem own_string {w : World} {B : Nat} {v : Value} {s : ByteArray} (h : w.ownsRow B 5 1 v s.size (Lib.strCells s)) : (convert 22 9 v).run Tryd.prog w = .ok (.string s) w := by
  have hc := fun {g : Nat} (hg : v.ownBlock = some g) => h.cells (g := g) hg
  obtain ⟨h1, h2⟩ := h
  rcases h2 with ⟨rfl, h0⟩ | ⟨q, cap, cur, rfl, hg, hh, hn, hm, hs, htk⟩
  · rw [ba_nil h0, run_convert_bytes_string w 22 9 5 none 0 0 Tryd.underlying22 Tryd.underlying5 Tryd.underlying9]
    simp [Conv.bytesToString]
    rfl
  · have e : s.size = s.data.toList.length := by rw [Array.length_toList]; rfl
    rw [e]
    exact run_convert_bytes_back (P := Tryd.prog) w 22 9 5 ⟨q, 0, none⟩ cap s.data.toList Tryd.underlying22 Tryd.underlying5 Tryd.underlying9 (fun j hj => hc (g := q) rfl j _ (by
      rw [Lib.strCells, List.getElem?_map, List.getElem?_eq_getElem hj]
      rfl))

def digsF : Nat → Nat → ByteArray → ByteArray
  | 0, _, out => out
  | q + 1, n, out => if n = 0 then out else digsF q (n / 10) (⟨#[UInt8.ofNat (48 + n % 10)]⟩ ++ out)
theorem digsF_0 : ∀ (q : Nat) (out : ByteArray), digsF q 0 out = out
  | 0, _ => rfl
  | _ + 1, _ => rfl
theorem digsF_any : ∀ (q r n : Nat) (out : ByteArray), n ≤ q → n ≤ r → digsF q n out = digsF r n out
  | 0, r, n, out, h, _ => by rw [Nat.le_zero.1 h, digsF_0, digsF_0]
  | q + 1, 0, n, out, _, h => by rw [Nat.le_zero.1 h, digsF_0, digsF_0]
  | q + 1, r + 1, n, out, h1, h2 => by
    unfold digsF
    split
    · rfl
    · exact digsF_any q r (n / 10) _ (by omega) (by omega)
def digs (n : Nat) (out : ByteArray) : ByteArray := digsF n n out
theorem digs_0 (out : ByteArray) : digs 0 out = out := rfl
theorem digs_s {n : Nat} (h : n ≠ 0) (out : ByteArray) : digs n out = digs (n / 10) (⟨#[UInt8.ofNat (48 + n % 10)]⟩ ++ out) := by
  obtain ⟨q, rfl⟩ := Nat.exists_eq_succ_of_ne_zero h
  unfold digs
  rw [digsF, if_neg (by omega)]
  exact digsF_any _ _ _ _ (by omega) (by omega)
theorem size_one (x : UInt8) (out : ByteArray) : ((⟨#[x]⟩ : ByteArray) ++ out).size = out.size + 1 := by
  rw [ByteArray.size_append]
  show 1 + out.size = _
  omega
theorem digs_size (n : Nat) : ∀ out, (digs n out).size ≤ out.size + n := by
  induction n using Nat.strongRecOn with
  | _ n ih =>
    intro out
    by_cases h : n = 0
    · rw [h, digs_0]; omega
    · rw [digs_s h]
      have := ih (n / 10) (by omega) (⟨#[UInt8.ofNat (48 + n % 10)]⟩ ++ out)
      rw [size_one] at this
      omega
def decB (n : Int) : ByteArray := if n = 0 then ⟨#[48]⟩ else if n < 0 then ⟨#[45]⟩ ++ digs (-n).toNat ⟨#[]⟩ else digs n.toNat ⟨#[]⟩
theorem decB_size {n : Int} (h0 : -1000000000 ≤ n) (h1 : n ≤ 2000000000) : (decB n).size ≤ 2000000001 := by
  unfold decB
  split
  · show 1 ≤ _
    omega
  · split
    · rw [size_one]
      have := digs_size (-n).toNat ⟨#[]⟩
      have e : (⟨#[]⟩ : ByteArray).size = 0 := rfl
      omega
    · have := digs_size n.toNat ⟨#[]⟩
      have e : (⟨#[]⟩ : ByteArray).size = 0 := rfl
      omega
theorem addS {a b : ByteArray} (h : a.size + b.size ≤ 9223372036854775807) (w : World) : (Op.stringOp .add a b).run Tryd.prog w = .ok (.string (a ++ b)) w := run_string_add_sum w a b h
theorem retStr {a b : ByteArray} (h : a = b) : Ending.returned (Value.string a) = .returned (.string b) := by rw [h]
theorem oneByte (w : World) (D : Nat) (hD : D < 256) (T : TypeId) : (convert 22 9 (.slice (some ⟨w.heap.size, 0, none⟩) 1 1)).run Tryd.prog (w.alloc (.cells #[.int .u8 (D : Int)] T)) = .ok (.string ⟨#[UInt8.ofNat D]⟩) (w.alloc (.cells #[.int .u8 (D : Int)] T)) :=
  run_convert_bytes_back (P := Tryd.prog) _ 22 9 5 ⟨w.heap.size, 0, none⟩ 1 [UInt8.ofNat D] Tryd.underlying22 Tryd.underlying5 Tryd.underlying9 (fun j hj => by
    have : j = 0 := by simpa using hj
    subst this
    have e : (UInt8.ofNat D).toNat = D := by simp; omega
    simp [Addr.add, e])

set_option maxRecDepth 100000 in
set_option maxHeartbeats 1000000 in
theorem l4neg (n : Int) (w : World) (h0 : -1000000000 ≤ n) (hn : n < 0) :
    Calls Tryd.prog 44 #[.int .i64 n] w fun e w' => e = .returned (.string (decB n)) ∧ Below w.heap.size w w' := by
  have hz : ¬ n = 0 := by omega
  have wr : IntKind.i64.wrap (-n) = -n := wrapS (by omega) (by omega)
  obtain ⟨M, hM, hM0, HD⟩ : ∃ M : Nat, -n = (M : Int) ∧ M ≤ 2000000000 ∧ Hid (decB n = ⟨#[45]⟩ ++ digs M ⟨#[]⟩) := ⟨(-n).toNat, by omega, by omega, by unfold Hid decB; rw [if_neg hz, if_pos hn]⟩
  go_enter Tryd.func44, Tryd.ntmps44
  go_wp2_with fail
  go_loopw [0, 4] (fun nv ov wr => ∃ k : Nat, ∃ out : ByteArray, nv = .int .i64 k ∧ ov = .string out ∧ Hid (digs M ⟨#[]⟩ = digs k out) ∧ out.size + k ≤ 2000000000 ∧ Below w.heap.size w wr) (fun nv _ _ => (intOf nv).toNat)
  case atStart => exact ⟨M, ⟨#[]⟩, rfl, rfl, rfl, by show 0 + M ≤ _; omega, Below.refl _ _⟩
  case round =>
    obtain ⟨k, out, rfl, rfl, hd, hsz, hB⟩ := hrel
    by_cases hk : k = 0
    · subst hk
      have hx : Hid (digs M ⟨#[]⟩ = out) := by unfold Hid; rw [hd.out, digs_0]
      clear hd
      have hadd := addS (a := ⟨#[45]⟩) (b := out) (by show 1 + out.size ≤ _; omega)
      go_wp2_with fail
      go_ret
      exact ⟨retStr (by rw [HD.out, hx.out]), hB⟩
    · obtain ⟨D, hD⟩ : ∃ D : Nat, D = 48 + k % 10 := ⟨_, rfl⟩
      have hx : Hid (digs M ⟨#[]⟩ = digs (k / 10) (⟨#[UInt8.ofNat D]⟩ ++ out)) := by unfold Hid; rw [hd.out, digs_s hk, hD]
      have e1 : (48 : Int) + (k : Int) % 10 = (D : Int) := by omega
      have hD2 : D < 256 := by omega
      have wu : IntKind.u8.wrap (D : Int) = (D : Int) := by rw [IntKind.wrap_u8]; omega
      have kpos : (0 : Int) < (k : Int) := by omega
      have hcv := oneByte wr D hD2 5
      have hz1 : ((⟨#[UInt8.ofNat D]⟩ : ByteArray) ++ out).size = out.size + 1 := size_one _ _
      have hadd := addS (a := ⟨#[UInt8.ofNat D]⟩) (b := out) (by show 1 + out.size ≤ _; omega)
      have hsz2 : out.size + 1 + k / 10 ≤ 2000000000 := by omega
      have HDD : Hid (D = 48 + k % 10) := hD
      have HZ : Hid (((⟨#[UInt8.ofNat D]⟩ : ByteArray) ++ out).size = out.size + 1) := hz1
      clear hd hD hz1
      go_wp2_with fail
      go_roundw
      case rel => exact ⟨k / 10, ⟨#[UInt8.ofNat D]⟩ ++ out, by first | go_num | (congr 1; omega), rfl, hx, by rw [HZ.out]; exact hsz2, nbAlloc hB _⟩
      case measure => simp [intOf]; omega

set_option maxRecDepth 100000 in
set_option maxHeartbeats 1000000 in
theorem l4pos (n : Int) (w : World) (h1 : n ≤ 2000000000) (hn : 0 < n) :
    Calls Tryd.prog 44 #[.int .i64 n] w fun e w' => e = .returned (.string (decB n)) ∧ Below w.heap.size w w' := by
  have hz : ¬ n = 0 := by omega
  have hn2 : ¬ n < 0 := by omega
  obtain ⟨M, hM, hM0, HD⟩ : ∃ M : Nat, n = (M : Int) ∧ M ≤ 2000000000 ∧ Hid (decB n = digs M ⟨#[]⟩) := ⟨n.toNat, by omega, by omega, by unfold Hid decB; rw [if_neg hz, if_neg hn2]⟩
  go_enter Tryd.func44, Tryd.ntmps44
  go_wp2_with fail
  go_loopw [0, 4] (fun nv ov wr => ∃ k : Nat, ∃ out : ByteArray, nv = .int .i64 k ∧ ov = .string out ∧ Hid (digs M ⟨#[]⟩ = digs k out) ∧ out.size + k ≤ 2000000000 ∧ Below w.heap.size w wr) (fun nv _ _ => (intOf nv).toNat)
  case atStart => exact ⟨M, ⟨#[]⟩, rfl, rfl, rfl, by show 0 + M ≤ _; omega, Below.refl _ _⟩
  case round =>
    obtain ⟨k, out, rfl, rfl, hd, hsz, hB⟩ := hrel
    by_cases hk : k = 0
    · subst hk
      have hx : Hid (digs M ⟨#[]⟩ = out) := by unfold Hid; rw [hd.out, digs_0]
      clear hd
      go_wp2_with fail
      go_ret
      exact ⟨retStr (by rw [HD.out, hx.out]), hB⟩
    · obtain ⟨D, hD⟩ : ∃ D : Nat, D = 48 + k % 10 := ⟨_, rfl⟩
      have hx : Hid (digs M ⟨#[]⟩ = digs (k / 10) (⟨#[UInt8.ofNat D]⟩ ++ out)) := by unfold Hid; rw [hd.out, digs_s hk, hD]
      have e1 : (48 : Int) + (k : Int) % 10 = (D : Int) := by omega
      have hD2 : D < 256 := by omega
      have wu : IntKind.u8.wrap (D : Int) = (D : Int) := by rw [IntKind.wrap_u8]; omega
      have kpos : (0 : Int) < (k : Int) := by omega
      have hcv := oneByte wr D hD2 5
      have hz1 : ((⟨#[UInt8.ofNat D]⟩ : ByteArray) ++ out).size = out.size + 1 := size_one _ _
      have hadd := addS (a := ⟨#[UInt8.ofNat D]⟩) (b := out) (by show 1 + out.size ≤ _; omega)
      have hsz2 : out.size + 1 + k / 10 ≤ 2000000000 := by omega
      have HDD : Hid (D = 48 + k % 10) := hD
      have HZ : Hid (((⟨#[UInt8.ofNat D]⟩ : ByteArray) ++ out).size = out.size + 1) := hz1
      clear hd hD hz1
      go_wp2_with fail
      go_roundw
      case rel => exact ⟨k / 10, ⟨#[UInt8.ofNat D]⟩ ++ out, by first | go_num | (congr 1; omega), rfl, hx, by rw [HZ.out]; exact hsz2, nbAlloc hB _⟩
      case measure => simp [intOf]; omega

set_option maxHeartbeats 400000 in
theorem l4decimal_c (n : Int) (w : World) (h0 : -1000000000 ≤ n) (h1 : n ≤ 2000000000) :
    Calls Tryd.prog 44 #[.int .i64 n] w fun e w' => e = .returned (.string (decB n)) ∧ Below w.heap.size w w' := by
  by_cases hz : n = 0
  · subst hz
    go_enter Tryd.func44, Tryd.ntmps44
    go_wp2_with fail
    go_ret
    exact ⟨rfl, Below.refl _ _⟩
  by_cases hn : n < 0
  · exact l4neg n w h0 hn
  · exact l4pos n w h1 (by omega)

end Go.Proofs.YtmhppadblddjoaaDoor

/- Chapter 4 of the specification: what is answered, line by line. -/
namespace Go.Proofs.YtmhppadblddjoaaDoor
open Go.RowKit

def headB (t : St) : ByteArray := if t.kn then decB t.l ++ ⟨#[32]⟩ ++ decB t.h else ⟨#[108, 111, 115, 116]⟩
def restB (t : St) : ByteArray := ⟨#[32, 115, 105, 110, 99, 101, 32]⟩ ++ decB t.si ++ ⟨#[32, 108, 97, 115, 116, 32]⟩ ++ decB t.la ++ ⟨#[32, 111, 100, 100, 32]⟩ ++ decB t.od ++ ⟨#[10]⟩
def lineB (t : St) : ByteArray := headB t ++ restB t
def ansB (T : Nat → St) : Nat → ByteArray
  | 0 => ⟨#[]⟩
  | k + 1 => ansB T k ++ lineB (T k)
/-- The numbers of a state are small. -/
def StNum (t : St) : Prop := (-100000000 ≤ t.l ∧ t.l ≤ 100000000) ∧ (-100000000 ≤ t.h ∧ t.h ≤ 100000000) ∧ (0 ≤ t.si ∧ t.si ≤ 1000000000) ∧ (-1 ≤ t.la ∧ t.la ≤ 1000000000) ∧ 0 ≤ t.od ∧ t.od ≤ 1000000000
theorem z0 : (⟨#[32]⟩ : ByteArray).size = 1 := rfl
theorem z1 : (⟨#[108, 111, 115, 116]⟩ : ByteArray).size = 4 := rfl
theorem z2 : (⟨#[32, 115, 105, 110, 99, 101, 32]⟩ : ByteArray).size = 7 := rfl
theorem z3 : (⟨#[32, 108, 97, 115, 116, 32]⟩ : ByteArray).size = 6 := rfl
theorem z4 : (⟨#[32, 111, 100, 100, 32]⟩ : ByteArray).size = 5 := rfl
theorem z5 : (⟨#[10]⟩ : ByteArray).size = 1 := rfl
theorem lineB_size {t : St} (h : StNum t) : (lineB t).size ≤ 10000000100 := by
  obtain ⟨h1, h2, h3, h4, h5⟩ := h
  have a1 := decB_size (n := t.l) (by omega) (by omega)
  have a2 := decB_size (n := t.h) (by omega) (by omega)
  have a3 := decB_size (n := t.si) (by omega) (by omega)
  have a4 := decB_size (n := t.la) (by omega) (by omega)
  have a5 := decB_size (n := t.od) (by omega) (by omega)
  unfold lineB headB restB
  cases t.kn
  · simp only [ByteArray.size_append, z1, z2, z3, z4, z5, Bool.false_eq_true, if_false]
    omega
  · simp only [ByteArray.size_append, z0, z2, z3, z4, z5, if_true]
    omega
theorem strCells_append (a b : ByteArray) : Lib.strCells (a ++ b) = Lib.strCells a ++ Lib.strCells b := by
  unfold Lib.strCells
  rw [← List.map_append]
  congr 1
theorem owns_sh {w : World} {base : Nat} {e : TypeId} {size n : Nat} {v : Value} {xs : List Value} (h : w.ownsRow base e size v n xs) : ∃ ad cap, v = .slice ad n cap := by
  obtain ⟨h1, h2⟩ := h
  rcases h2 with ⟨rfl, rfl⟩ | ⟨q, cap, cur, rfl, hg, hh, hn, hm, hs, htk⟩
  · exact ⟨none, 0, rfl⟩
  · exact ⟨some ⟨q, 0, none⟩, cap, rfl⟩
theorem infoU8 : (Tryd.prog.info? 5).map (fun i => (i.zero, i.size, i.bytes)) = some (some (.int .u8 0), 1, 1) := by kernel_rfl

def anC (wz : World) (pt : Nat) (kn : Bool) (tl th tsi tla tod : Int) : World → Prop := fun w' => w'.cell? ⟨pt, 0, none⟩ = some (.bool kn) ∧ w'.cell? ⟨pt, 1, none⟩ = some (.int .i64 tl) ∧ w'.cell? ⟨pt, 2, none⟩ = some (.int .i64 th) ∧ w'.cell? ⟨pt, 3, none⟩ = some (.int .i64 tsi) ∧ w'.cell? ⟨pt, 4, none⟩ = some (.int .i64 tla) ∧ w'.cell? ⟨pt, 5, none⟩ = some (.int .i64 tod) ∧ Below wz.heap.size wz w'
theorem anC_on {wz : World} {pt : Nat} {kn : Bool} {tl th tsi tla tod : Int} {w1 w2 : World} (hh : anC wz pt kn tl th tsi tla tod w1) (hb : Below w1.heap.size w1 w2) : anC wz pt kn tl th tsi tla tod w2 :=
  ⟨cellOn hb hh.1, cellOn hb hh.2.1, cellOn hb hh.2.2.1, cellOn hb hh.2.2.2.1, cellOn hb hh.2.2.2.2.1, cellOn hb hh.2.2.2.2.2.1, nbTrans hh.2.2.2.2.2.2 hb⟩

set_option maxRecDepth 100000 in
set_option maxHeartbeats 4000000 in
theorem specAnswer_m (s j m g o : Int) (mv : Value) (l h : Int) (xv : Value) (n : Nat) (T : Nat → St) (w : World) (hn : n ≤ 2000) (hT : Hid (∀ i, i < n → StNum (T i)))
    (HR : Hid (∀ w', Below w.heap.size w w' → Calls Tryd.prog 7 #[.agg #[.int .i64 s, .int .i64 j, .int .i64 m, .int .i64 g, .int .i64 o], mv, .agg #[.int .i64 l, .int .i64 h], xv] w' fun e w'' => ∃ v, e = .returned v ∧ StRow w'' w'.heap.size v n T ∧ Below w'.heap.size w' w'')) :
    Calls Tryd.prog 11 #[.agg #[.int .i64 s, .int .i64 j, .int .i64 m, .int .i64 g, .int .i64 o], mv, .agg #[.int .i64 l, .int .i64 h], xv] w fun e w' => e = .returned (.string (ansB T n)) ∧ Below w.heap.size w w' := by
  go_enter Tryd.func11, Tryd.ntmps11
  go_wp2_with fail
  refine (HR.out _ (nbAlloc (nbAlloc (Below.refl _ _) _) _)).mono ?_
  rintro e w1 ⟨v, rfl, hv, hb1⟩
  have hB1 : Below w.heap.size w w1 := nbTrans (nbAlloc (nbAlloc (Below.refl _ _) _) _) hb1
  obtain ⟨q, hqB, ad, cap, rfl, hq⟩ : ∃ q, (0 < n → q < w1.heap.size) ∧ ∃ ad cap, v = .slice ad n cap ∧ (0 < n → ad = some ⟨q, 0, none⟩) ∧ Row6 w1 q n T := by
    obtain ⟨q, -, h1⟩ := hv.at
    have hlt := h1.lt
    obtain ⟨a, cap, h2, h3⟩ := h1
    refine ⟨q, hlt, a, cap, h2, ?_⟩
    rcases h3 with rfl | ⟨ha, h4, -⟩
    · exact ⟨fun h => absurd h (by omega), fun i hi => absurd hi (by omega)⟩
    · exact ⟨fun _ => ha, h4⟩
  have hqa := hq.1
  have hq1 := hq.2
  obtain ⟨B, hB0, hB2⟩ : ∃ B, w1.heap.size ≤ B ∧ B ≤ w1.heap.size := ⟨_, Nat.le_refl _, Nat.le_refl _⟩
  replace hqB : 0 < n → q < B := fun h => by have := hqB h; omega
  have hwB : w.heap.size ≤ B := by have := hB1.size; omega
  clear hv hb1 hq HR
  go_wp2_with fail
  go_loopw [9, 19] (fun v iv wr => ∃ k : Nat, ∃ A : ByteArray, iv = .int .i64 k ∧ k ≤ n ∧ Hid (A = ansB T k) ∧ A.size ≤ 10000000100 * k ∧ wr.ownsRow B 5 1 v A.size (Lib.strCells A) ∧ Row6 wr q n T ∧ Below w.heap.size w wr ∧ B ≤ wr.heap.size) (fun _ iv _ => n - (intOf iv).toNat)
  case atStart => exact ⟨0, ⟨#[]⟩, rfl, by omega, rfl, Nat.zero_le _, World.ownsRow_nil _ _ _ _, hq1, hB1, hB2⟩
  case round =>
    clear hB1 hq1 hB0 hB2
    obtain ⟨k, A, rfl, hk, hA, hAz, hown, hq1, hB, hsz⟩ := hrel
    by_cases hlt : k < n
    · have i0 : (0 : Int) ≤ (k : Int) := by omega
      have i1 : (k : Int) < (n : Int) := by omega
      have ea := hqa (by omega)
      subst ea
      obtain ⟨⟨kn, tl, th, tsi, tla, tod⟩, eT⟩ : ∃ t, Hid (t = T k) := ⟨_, rfl⟩
      have hN := hT.out k hlt
      have hr := hq1 k hlt
      rw [← eT.out] at hN hr
      have d0 : wr.cell? ⟨q, k * 6, none⟩ = some (.bool kn) := hr.1
      have d1 : wr.cell? ⟨q, k * 6 + 1, none⟩ = some (.int .i64 tl) := hr.2.1
      have d2 : wr.cell? ⟨q, k * 6 + 2, none⟩ = some (.int .i64 th) := hr.2.2.1
      have d3 : wr.cell? ⟨q, k * 6 + 3, none⟩ = some (.int .i64 tsi) := hr.2.2.2.1
      have d4 : wr.cell? ⟨q, k * 6 + 4, none⟩ = some (.int .i64 tla) := hr.2.2.2.2.1
      have d5 : wr.cell? ⟨q, k * 6 + 5, none⟩ = some (.int .i64 tod) := hr.2.2.2.2.2
      obtain ⟨n1, n2, n3, n4, n5⟩ := hN
      simp only at n1 n2 n3 n4 n5
      have x1 := decB_size (n := tl) (by omega) (by omega)
      have x2 := decB_size (n := th) (by omega) (by omega)
      have x3 := decB_size (n := tsi) (by omega) (by omega)
      have x4 := decB_size (n := tla) (by omega) (by omega)
      have x5 := decB_size (n := tod) (by omega) (by omega)
      have hr0 := addS (a := ⟨#[32, 115, 105, 110, 99, 101, 32]⟩) (b := decB tsi) (by have y0 := z0; have y1 := z1; have y2 := z2; have y3 := z3; have y4 := z4; have y5 := z5; (try simp only [ByteArray.size_append]); omega)
      have hr1 := addS (a := ⟨#[32, 115, 105, 110, 99, 101, 32]⟩ ++ decB tsi) (b := ⟨#[32, 108, 97, 115, 116, 32]⟩) (by have y0 := z0; have y1 := z1; have y2 := z2; have y3 := z3; have y4 := z4; have y5 := z5; (try simp only [ByteArray.size_append]); omega)
      have hr2 := addS (a := ⟨#[32, 115, 105, 110, 99, 101, 32]⟩ ++ decB tsi ++ ⟨#[32, 108, 97, 115, 116, 32]⟩) (b := decB tla) (by have y0 := z0; have y1 := z1; have y2 := z2; have y3 := z3; have y4 := z4; have y5 := z5; (try simp only [ByteArray.size_append]); omega)
      have hr3 := addS (a := ⟨#[32, 115, 105, 110, 99, 101, 32]⟩ ++ decB tsi ++ ⟨#[32, 108, 97, 115, 116, 32]⟩ ++ decB tla) (b := ⟨#[32, 111, 100, 100, 32]⟩) (by have y0 := z0; have y1 := z1; have y2 := z2; have y3 := z3; have y4 := z4; have y5 := z5; (try simp only [ByteArray.size_append]); omega)
      have hr4 := addS (a := ⟨#[32, 115, 105, 110, 99, 101, 32]⟩ ++ decB tsi ++ ⟨#[32, 108, 97, 115, 116, 32]⟩ ++ decB tla ++ ⟨#[32, 111, 100, 100, 32]⟩) (b := decB tod) (by have y0 := z0; have y1 := z1; have y2 := z2; have y3 := z3; have y4 := z4; have y5 := z5; (try simp only [ByteArray.size_append]); omega)
      have hr5 := addS (a := ⟨#[32, 115, 105, 110, 99, 101, 32]⟩ ++ decB tsi ++ ⟨#[32, 108, 97, 115, 116, 32]⟩ ++ decB tla ++ ⟨#[32, 111, 100, 100, 32]⟩ ++ decB tod) (b := ⟨#[10]⟩) (by have y0 := z0; have y1 := z1; have y2 := z2; have y3 := z3; have y4 := z4; have y5 := z5; (try simp only [ByteArray.size_append]); omega)
      have hown2 := hown.alloc (.cells #[.bool kn, .int .i64 tl, .int .i64 th, .int .i64 tsi, .int .i64 tla, .int .i64 tod] 37)
      have hBz : Below w.heap.size w (wr.alloc (.cells #[.bool kn, .int .i64 tl, .int .i64 th, .int .i64 tsi, .int .i64 tla, .int .i64 tod] 37)) := nbAlloc hB _
      have hq2 : Row6 (wr.alloc (.cells #[.bool kn, .int .i64 tl, .int .i64 th, .int .i64 tsi, .int .i64 tla, .int .i64 tod] 37)) q n T := hq1.on (nbAlloc (Below.refl _ _) _)
      have hC2 : anC (wr.alloc (.cells #[.bool kn, .int .i64 tl, .int .i64 th, .int .i64 tsi, .int .i64 tla, .int .i64 tod] 37)) wr.heap.size kn tl th tsi tla tod (wr.alloc (.cells #[.bool kn, .int .i64 tl, .int .i64 th, .int .i64 tsi, .int .i64 tla, .int .i64 tod] 37)) := by
        refine ⟨?_, ?_, ?_, ?_, ?_, ?_, Below.refl _ _⟩ <;> go_simp
      have hszz : B ≤ (wr.alloc (.cells #[.bool kn, .int .i64 tl, .int .i64 th, .int .i64 tsi, .int .i64 tla, .int .i64 tod] 37)).heap.size := by show B ≤ (Array.push _ _).size; rw [Array.size_push]; omega
      have HTT : Hid (∀ i, i < n → StNum (T i)) := hT
      clear hT hqa
      have c0 : (wr.alloc (.cells #[.bool kn, .int .i64 tl, .int .i64 th, .int .i64 tsi, .int .i64 tla, .int .i64 tod] 37)).cell? ⟨wr.heap.size, 0, none⟩ = some (.bool kn) := hC2.1
      have c1 : (wr.alloc (.cells #[.bool kn, .int .i64 tl, .int .i64 th, .int .i64 tsi, .int .i64 tla, .int .i64 tod] 37)).cell? ⟨wr.heap.size, 1, none⟩ = some (.int .i64 tl) := hC2.2.1
      have c2 : (wr.alloc (.cells #[.bool kn, .int .i64 tl, .int .i64 th, .int .i64 tsi, .int .i64 tla, .int .i64 tod] 37)).cell? ⟨wr.heap.size, 2, none⟩ = some (.int .i64 th) := hC2.2.2.1
      have c3 : (wr.alloc (.cells #[.bool kn, .int .i64 tl, .int .i64 th, .int .i64 tsi, .int .i64 tla, .int .i64 tod] 37)).cell? ⟨wr.heap.size, 3, none⟩ = some (.int .i64 tsi) := hC2.2.2.2.1
      have c4 : (wr.alloc (.cells #[.bool kn, .int .i64 tl, .int .i64 th, .int .i64 tsi, .int .i64 tla, .int .i64 tod] 37)).cell? ⟨wr.heap.size, 4, none⟩ = some (.int .i64 tla) := hC2.2.2.2.2.1
      have c5 : (wr.alloc (.cells #[.bool kn, .int .i64 tl, .int .i64 th, .int .i64 tsi, .int .i64 tla, .int .i64 tod] 37)).cell? ⟨wr.heap.size, 5, none⟩ = some (.int .i64 tod) := hC2.2.2.2.2.2.1
      cases kn
      · go_wp2_with fail
        clear d0 d1 d2 d3 d4 d5 hown hB hq1 hr c0 c1 c2 c3 c4 c5
        generalize hwz : wr.alloc (.cells #[.bool false, .int .i64 tl, .int .i64 th, .int .i64 tsi, .int .i64 tla, .int .i64 tod] 37) = wz at *
        generalize wr.heap.size = pt at *
        clear hwz
        have hl := addS (a := ⟨#[108, 111, 115, 116]⟩) (b := (⟨#[32, 115, 105, 110, 99, 101, 32]⟩ ++ decB tsi ++ ⟨#[32, 108, 97, 115, 116, 32]⟩ ++ decB tla ++ ⟨#[32, 111, 100, 100, 32]⟩ ++ decB tod ++ ⟨#[10]⟩)) (by have y0 := z0; have y1 := z1; have y2 := z2; have y3 := z3; have y4 := z4; have y5 := z5; (try simp only [ByteArray.size_append]); omega)
        refine region_kept (anC wz pt false tl th tsi tla tod) (by kernel_rfl) (by kernel_rfl) (anC_on hC2 (Below.drew (Below.refl _ _))) ?_
        intro hN_
        have k0 : ∀ d : Kept (anC wz pt false tl th tsi tla tod), d.w.cell? ⟨pt, 0, none⟩ = some (.bool false) := fun d => d.h.1
        have k1 : ∀ d : Kept (anC wz pt false tl th tsi tla tod), d.w.cell? ⟨pt, 1, none⟩ = some (.int .i64 tl) := fun d => d.h.2.1
        have k2 : ∀ d : Kept (anC wz pt false tl th tsi tla tod), d.w.cell? ⟨pt, 2, none⟩ = some (.int .i64 th) := fun d => d.h.2.2.1
        have k3 : ∀ d : Kept (anC wz pt false tl th tsi tla tod), d.w.cell? ⟨pt, 3, none⟩ = some (.int .i64 tsi) := fun d => d.h.2.2.2.1
        have k4 : ∀ d : Kept (anC wz pt false tl th tsi tla tod), d.w.cell? ⟨pt, 4, none⟩ = some (.int .i64 tla) := fun d => d.h.2.2.2.2.1
        have k5 : ∀ d : Kept (anC wz pt false tl th tsi tla tod), d.w.cell? ⟨pt, 5, none⟩ = some (.int .i64 tod) := fun d => d.h.2.2.2.2.2.1
        repeat (go_big_quiet_step (first | (go_at_call 44; exact call_kept _ anC_on (l4decimal_c _ _ (by omega) (by omega))) | exact rfl))
        refine wpQuiet_nil ?_
        rintro w6 ⟨d, hd_⟩
        have hCw6 := d.h
        rw [← hd_] at hCw6
        clear hd_ k0 k1 k2 k3 k4 k5
        have hb6 : Below wz.heap.size wz w6 := hCw6.2.2.2.2.2.2
        have hown6 := owns_on hown2 hb6
        have hq6 := hq2.on hb6
        have hB6 : Below w.heap.size w w6 := nbTrans hBz hb6
        have hsz6 : B ≤ w6.heap.size := by have := hb6.size; omega
        have hls : (⟨#[108, 111, 115, 116]⟩ ++ (⟨#[32, 115, 105, 110, 99, 101, 32]⟩ ++ decB tsi ++ ⟨#[32, 108, 97, 115, 116, 32]⟩ ++ decB tla ++ ⟨#[32, 111, 100, 100, 32]⟩ ++ decB tod ++ ⟨#[10]⟩)).size ≤ 10000000100 := by have y0 := z0; have y1 := z1; have y2 := z2; have y3 := z3; have y4 := z4; have y5 := z5; (try simp only [ByteArray.size_append]); omega
        obtain ⟨ln, hln⟩ : ∃ ln, ln = ⟨#[108, 111, 115, 116]⟩ ++ (⟨#[32, 115, 105, 110, 99, 101, 32]⟩ ++ decB tsi ++ ⟨#[32, 108, 97, 115, 116, 32]⟩ ++ decB tla ++ ⟨#[32, 111, 100, 100, 32]⟩ ++ decB tod ++ ⟨#[10]⟩) := ⟨_, rfl⟩
        rw [← hln] at hls
        have HL : Hid (ln = lineB (T k)) := by
          unfold Hid
          rw [hln, ← eT.out, lineB, headB, restB]
          rw [if_neg (by simp)]
        simp only [← hln]
        have HLN : Hid (ln = ⟨#[108, 111, 115, 116]⟩ ++ (⟨#[32, 115, 105, 110, 99, 101, 32]⟩ ++ decB tsi ++ ⟨#[32, 108, 97, 115, 116, 32]⟩ ++ decB tla ++ ⟨#[32, 111, 100, 100, 32]⟩ ++ decB tod ++ ⟨#[10]⟩)) := hln
        clear hln hl hCw6
        obtain ⟨i0', hi, hz0, hz1, hz2⟩ := info_parts infoU8
        go_wp2_with (at_builtin; refine Lib.wpList_append_own_string _ rfl _ _ 22 9 rfl B 5 i0' Tryd.underlying22 Tryd.underlying9 hi hz0 hz1 hz2 _ _ _ rfl hown6 ln rfl ?c3 ?c4 hsz6 ?_)
        case c3 => unfold maxLen; omega
        case c4 => omega
        intro v' w8 hown8 hgrow _
        have hlow := grown_low hown6 hsz6 hgrow
        have hB8 : Below w.heap.size w w8 := hB6.trans (hlow.mono (by omega))
        have hsz8 : B ≤ w8.heap.size := by have := hlow.size; omega
        have hq8 : Row6 w8 q n T := fun i hi => ⟨lowCell hlow (hqB (by omega)) (hq6 i hi).1, lowCell hlow (hqB (by omega)) (hq6 i hi).2.1, lowCell hlow (hqB (by omega)) (hq6 i hi).2.2.1, lowCell hlow (hqB (by omega)) (hq6 i hi).2.2.2.1, lowCell hlow (hqB (by omega)) (hq6 i hi).2.2.2.2.1, lowCell hlow (hqB (by omega)) (hq6 i hi).2.2.2.2.2⟩
        clear hgrow hlow hi hz0 hz1 hz2 hown6 hq6 hB6 hsz6
        have ha : Hid (A ++ ln = ansB T (k + 1)) := by unfold Hid; rw [ansB, ← hA.out, HL.out]
        go_wp2_with fail
        go_roundw
        case rel => exact ⟨k + 1, A ++ ln, by go_num, by omega, ha, by rw [ByteArray.size_append]; omega, by rw [ByteArray.size_append, strCells_append]; exact hown8, hq8, hB8, hsz8⟩
        case measure => simp [intOf]; omega

      · have ha1 := addS (a := decB tl) (b := ⟨#[32]⟩) (by have y0 := z0; have y1 := z1; have y2 := z2; have y3 := z3; have y4 := z4; have y5 := z5; (try simp only [ByteArray.size_append]); omega)
        have ha2 := addS (a := decB tl ++ ⟨#[32]⟩) (b := decB th) (by have y0 := z0; have y1 := z1; have y2 := z2; have y3 := z3; have y4 := z4; have y5 := z5; (try simp only [ByteArray.size_append]); omega)
        go_wp2_with fail
        clear d0 d1 d2 d3 d4 d5 hown hB hq1 hr c0 c1 c2 c3 c4 c5
        generalize hwz : wr.alloc (.cells #[.bool true, .int .i64 tl, .int .i64 th, .int .i64 tsi, .int .i64 tla, .int .i64 tod] 37) = wz at *
        generalize wr.heap.size = pt at *
        clear hwz
        refine region_kept (anC wz pt true tl th tsi tla tod) (by kernel_rfl) (by kernel_rfl) (anC_on hC2 (Below.drew (Below.refl _ _))) ?_
        intro hN_
        have k0 : ∀ d : Kept (anC wz pt true tl th tsi tla tod), d.w.cell? ⟨pt, 0, none⟩ = some (.bool true) := fun d => d.h.1
        have k1 : ∀ d : Kept (anC wz pt true tl th tsi tla tod), d.w.cell? ⟨pt, 1, none⟩ = some (.int .i64 tl) := fun d => d.h.2.1
        have k2 : ∀ d : Kept (anC wz pt true tl th tsi tla tod), d.w.cell? ⟨pt, 2, none⟩ = some (.int .i64 th) := fun d => d.h.2.2.1
        have k3 : ∀ d : Kept (anC wz pt true tl th tsi tla tod), d.w.cell? ⟨pt, 3, none⟩ = some (.int .i64 tsi) := fun d => d.h.2.2.2.1
        have k4 : ∀ d : Kept (anC wz pt true tl th tsi tla tod), d.w.cell? ⟨pt, 4, none⟩ = some (.int .i64 tla) := fun d => d.h.2.2.2.2.1
        have k5 : ∀ d : Kept (anC wz pt true tl th tsi tla tod), d.w.cell? ⟨pt, 5, none⟩ = some (.int .i64 tod) := fun d => d.h.2.2.2.2.2.1
        repeat (go_big_quiet_step (first | (go_at_call 44; exact call_kept _ anC_on (l4decimal_c _ _ (by omega) (by omega))) | exact rfl))
        refine wpQuiet_nil ?_
        rintro w5 ⟨d, hd_⟩
        have hCw5 := d.h
        rw [← hd_] at hCw5
        clear hd_ k0 k1 k2 k3 k4 k5
        go_wp2_with fail
        clear ha1 ha2
        have hC5 := hCw5
        clear hCw5 hC2
        have hl := addS (a := (decB tl ++ ⟨#[32]⟩ ++ decB th)) (b := (⟨#[32, 115, 105, 110, 99, 101, 32]⟩ ++ decB tsi ++ ⟨#[32, 108, 97, 115, 116, 32]⟩ ++ decB tla ++ ⟨#[32, 111, 100, 100, 32]⟩ ++ decB tod ++ ⟨#[10]⟩)) (by have y0 := z0; have y1 := z1; have y2 := z2; have y3 := z3; have y4 := z4; have y5 := z5; (try simp only [ByteArray.size_append]); omega)
        refine region_kept (anC wz pt true tl th tsi tla tod) (by kernel_rfl) (by kernel_rfl) (anC_on hC5 (Below.drew (Below.refl _ _))) ?_
        intro hN_
        have k0 : ∀ d : Kept (anC wz pt true tl th tsi tla tod), d.w.cell? ⟨pt, 0, none⟩ = some (.bool true) := fun d => d.h.1
        have k1 : ∀ d : Kept (anC wz pt true tl th tsi tla tod), d.w.cell? ⟨pt, 1, none⟩ = some (.int .i64 tl) := fun d => d.h.2.1
        have k2 : ∀ d : Kept (anC wz pt true tl th tsi tla tod), d.w.cell? ⟨pt, 2, none⟩ = some (.int .i64 th) := fun d => d.h.2.2.1
        have k3 : ∀ d : Kept (anC wz pt true tl th tsi tla tod), d.w.cell? ⟨pt, 3, none⟩ = some (.int .i64 tsi) := fun d => d.h.2.2.2.1
        have k4 : ∀ d : Kept (anC wz pt true tl th tsi tla tod), d.w.cell? ⟨pt, 4, none⟩ = some (.int .i64 tla) := fun d => d.h.2.2.2.2.1
        have k5 : ∀ d : Kept (anC wz pt true tl th tsi tla tod), d.w.cell? ⟨pt, 5, none⟩ = some (.int .i64 tod) := fun d => d.h.2.2.2.2.2.1
        repeat (go_big_quiet_step (first | (go_at_call 44; exact call_kept _ anC_on (l4decimal_c _ _ (by omega) (by omega))) | exact rfl))
        refine wpQuiet_nil ?_
        rintro w6 ⟨d, hd_⟩
        have hCw6 := d.h
        rw [← hd_] at hCw6
        clear hd_ k0 k1 k2 k3 k4 k5
        have hb6 : Below wz.heap.size wz w6 := hCw6.2.2.2.2.2.2
        have hown6 := owns_on hown2 hb6
        have hq6 := hq2.on hb6
        have hB6 : Below w.heap.size w w6 := nbTrans hBz hb6
        have hsz6 : B ≤ w6.heap.size := by have := hb6.size; omega
        have hls : ((decB tl ++ ⟨#[32]⟩ ++ decB th) ++ (⟨#[32, 115, 105, 110, 99, 101, 32]⟩ ++ decB tsi ++ ⟨#[32, 108, 97, 115, 116, 32]⟩ ++ decB tla ++ ⟨#[32, 111, 100, 100, 32]⟩ ++ decB tod ++ ⟨#[10]⟩)).size ≤ 10000000100 := by have y0 := z0; have y1 := z1; have y2 := z2; have y3 := z3; have y4 := z4; have y5 := z5; (try simp only [ByteArray.size_append]); omega
        obtain ⟨ln, hln⟩ : ∃ ln, ln = (decB tl ++ ⟨#[32]⟩ ++ decB th) ++ (⟨#[32, 115, 105, 110, 99, 101, 32]⟩ ++ decB tsi ++ ⟨#[32, 108, 97, 115, 116, 32]⟩ ++ decB tla ++ ⟨#[32, 111, 100, 100, 32]⟩ ++ decB tod ++ ⟨#[10]⟩) := ⟨_, rfl⟩
        rw [← hln] at hls
        have HL : Hid (ln = lineB (T k)) := by
          unfold Hid
          rw [hln, ← eT.out, lineB, headB, restB]
          rw [if_pos rfl]
        simp only [← hln]
        have HLN : Hid (ln = (decB tl ++ ⟨#[32]⟩ ++ decB th) ++ (⟨#[32, 115, 105, 110, 99, 101, 32]⟩ ++ decB tsi ++ ⟨#[32, 108, 97, 115, 116, 32]⟩ ++ decB tla ++ ⟨#[32, 111, 100, 100, 32]⟩ ++ decB tod ++ ⟨#[10]⟩)) := hln
        clear hln hl hCw6 hC5
        obtain ⟨i0', hi, hz0, hz1, hz2⟩ := info_parts infoU8
        go_wp2_with (at_builtin; refine Lib.wpList_append_own_string _ rfl _ _ 22 9 rfl B 5 i0' Tryd.underlying22 Tryd.underlying9 hi hz0 hz1 hz2 _ _ _ rfl hown6 ln rfl ?c3 ?c4 hsz6 ?_)
        case c3 => unfold maxLen; omega
        case c4 => omega
        intro v' w8 hown8 hgrow _
        have hlow := grown_low hown6 hsz6 hgrow
        have hB8 : Below w.heap.size w w8 := hB6.trans (hlow.mono (by omega))
        have hsz8 : B ≤ w8.heap.size := by have := hlow.size; omega
        have hq8 : Row6 w8 q n T := fun i hi => ⟨lowCell hlow (hqB (by omega)) (hq6 i hi).1, lowCell hlow (hqB (by omega)) (hq6 i hi).2.1, lowCell hlow (hqB (by omega)) (hq6 i hi).2.2.1, lowCell hlow (hqB (by omega)) (hq6 i hi).2.2.2.1, lowCell hlow (hqB (by omega)) (hq6 i hi).2.2.2.2.1, lowCell hlow (hqB (by omega)) (hq6 i hi).2.2.2.2.2⟩
        clear hgrow hlow hi hz0 hz1 hz2 hown6 hq6 hB6 hsz6
        have ha : Hid (A ++ ln = ansB T (k + 1)) := by unfold Hid; rw [ansB, ← hA.out, HL.out]
        go_wp2_with fail
        go_roundw
        case rel => exact ⟨k + 1, A ++ ln, by go_num, by omega, ha, by rw [ByteArray.size_append]; omega, by rw [ByteArray.size_append, strCells_append]; exact hown8, hq8, hB8, hsz8⟩
        case measure => simp [intOf]; omega

    · have hkl : k = n := by omega
      subst hkl
      have hcv := own_string hown
      obtain ⟨qa, qc, rfl⟩ := owns_sh hown
      go_wp2_with fail
      go_ret
      exact ⟨retStr hA.out, hB⟩

end Go.Proofs.YtmhppadblddjoaaDoor

