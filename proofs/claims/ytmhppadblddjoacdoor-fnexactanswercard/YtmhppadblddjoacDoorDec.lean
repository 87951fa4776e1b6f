/- Numbers as text: the specification's way. -/
import Derived.Test.YtmhppadblddjoacDoorEv
import Derived.Lib.AppendStr
import Derived.Laws.IdiomStrings
namespace Go.Proofs.YtmhppadblddjoacDoor
open Go.RowKit

theorem ba_nil {s : ByteArray} (h : s.size = 0) : s = ⟨#[]⟩ := by
  cases s with
  | mk d =>
    have : d.size = 0 := h
    rw [Array.eq_empty_of_size_eq_zero this]

/-- 'string(b)' of a row of bytes of one's own. -/
theorem own_string {w : World} {B : Nat} {v : Value} {s : ByteArray} (h : w.ownsRow B 5 1 v s.size (Lib.strCells s)) : (convert 90 9 v).run Tryd.prog w = .ok (.string s) w := by
  have hc := fun {g : Nat} (hg : v.ownBlock = some g) => h.cells (g := g) hg
  obtain ⟨h1, h2⟩ := h
  rcases h2 with ⟨rfl, h0⟩ | ⟨q, cap, cur, rfl, hg, hh, hn, hm, hs, htk⟩
  · rw [ba_nil h0, run_convert_bytes_string w 90 9 5 none 0 0 Tryd.underlying90 Tryd.underlying5 Tryd.underlying9]
    simp [Conv.bytesToString]
    rfl
  · have e : s.size = s.data.toList.length := by rw [Array.length_toList]; rfl
    rw [e]
    exact run_convert_bytes_back (P := Tryd.prog) w 90 9 5 ⟨q, 0, none⟩ cap s.data.toList Tryd.underlying90 Tryd.underlying5 Tryd.underlying9 (fun j hj => hc (g := q) rfl j _ (by
      rw [Lib.strCells, List.getElem?_map, List.getElem?_eq_getElem hj]
      rfl))

def digsF : Nat → Nat → ByteArray → ByteArray
  | 0, _, out => out
  | q + 1, n, out => if n = 0 then out else digsF q (n / 10) (⟨#[UInt8.ofNat (48 + n % 10)]⟩ ++ out)
theorem digsF_0 : ∀ (q : Nat) (out : ByteArray), digsF q 0 out = out
  | 0, _ => rfl
  | _ + 1, _ => rfl
theorem digsF_any : ∀ (q r n : Nat) (out : ByteArray), n ≤ q → n ≤ r → digsF q n out = digsF r n out
  | 0, r, n, out, h, _ => by rw [Nat.le_zero.1 h, digsF_0, digsF_0]
  | q + 1, 0, n, out, _, h => by rw [Nat.le_zero.1 h, digsF_0, digsF_0]
  | q + 1, r + 1, n, out, h1, h2 => by
    unfold digsF
    split
    · rfl
    · exact digsF_any q r (n / 10) _ (by omega) (by omega)
def digs (n : Nat) (out : ByteArray) : ByteArray := digsF n n out
theorem digs_0 (out : ByteArray) : digs 0 out = out := rfl
theorem digs_s {n : Nat} (h : n ≠ 0) (out : ByteArray) : digs n out = digs (n / 10) (⟨#[UInt8.ofNat (48 + n % 10)]⟩ ++ out) := by
  obtain ⟨q, rfl⟩ := Nat.exists_eq_succ_of_ne_zero h
  unfold digs
  rw [digsF, if_neg (by omega)]
  exact digsF_any _ _ _ _ (by omega) (by omega)
theorem size_one (x : UInt8) (out : ByteArray) : ((⟨#[x]⟩ : ByteArray) ++ out).size = out.size + 1 := by
  rw [ByteArray.size_append]
  show 1 + out.size = _
  omega
theorem digs_size (n : Nat) : ∀ out, (digs n out).size ≤ out.size + n := by
  induction n using Nat.strongRecOn with
  | _ n ih =>
    intro out
    by_cases h : n = 0
    · rw [h, digs_0]; omega
    · rw [digs_s h]
      have := ih (n / 10) (by omega) (⟨#[UInt8.ofNat (48 + n % 10)]⟩ ++ out)
      rw [size_one] at this
      omega
def decB (n : Int) : ByteArray := if n = 0 then ⟨#[48]⟩ else if n < 0 then ⟨#[45]⟩ ++ digs (-n).toNat ⟨#[]⟩ else digs n.toNat ⟨#[]⟩
theorem decB_size {n : Int} (h0 : -1000000000 ≤ n) (h1 : n ≤ 2000000000) : (decB n).size ≤ 2000000001 := by
  unfold decB
  split
  · show 1 ≤ _
    omega
  · split
    · rw [size_one]
      have := digs_size (-n).toNat ⟨#[]⟩
      have e : (⟨#[]⟩ : ByteArray).size = 0 := rfl
      omega
    · have := digs_size n.toNat ⟨#[]⟩
      have e : (⟨#[]⟩ : ByteArray).size = 0 := rfl
      omega
theorem addS {a b : ByteArray} (h : a.size + b.size ≤ 9223372036854775807) (w : World) : (Op.stringOp .add a b).run Tryd.prog w = .ok (.string (a ++ b)) w := run_string_add_sum w a b h
theorem retStr {a b : ByteArray} (h : a = b) : Ending.returned (Value.string a) = .returned (.string b) := by rw [h]
theorem oneByte (w : World) (D : Nat) (hD : D < 256) (T : TypeId) : (convert 90 9 (.slice (some ⟨w.heap.size, 0, none⟩) 1 1)).run Tryd.prog (w.alloc (.cells #[.int .u8 (D : Int)] T)) = .ok (.string ⟨#[UInt8.ofNat D]⟩) (w.alloc (.cells #[.int .u8 (D : Int)] T)) :=
  run_convert_bytes_back (P := Tryd.prog) _ 90 9 5 ⟨w.heap.size, 0, none⟩ 1 [UInt8.ofNat D] Tryd.underlying90 Tryd.underlying5 Tryd.underlying9 (fun j hj => by
    have : j = 0 := by simpa using hj
    subst this
    have e : (UInt8.ofNat D).toNat = D := by simp; omega
    simp [Addr.add, e])

set_option maxRecDepth 100000 in
set_option maxHeartbeats 1000000 in
theorem l4neg (n : Int) (w : World) (h0 : -1000000000 ≤ n) (hn : n < 0) :
    Calls Tryd.prog 48 #[.int .i64 n] w fun e w' => e = .returned (.string (decB n)) ∧ Below w.heap.size w w' := by
  have hz : ¬ n = 0 := by omega
  have wr : IntKind.i64.wrap (-n) = -n := wrapS (by omega) (by omega)
  obtain ⟨M, hM, hM0, HD⟩ : ∃ M : Nat, -n = (M : Int) ∧ M ≤ 2000000000 ∧ Hid (decB n = ⟨#[45]⟩ ++ digs M ⟨#[]⟩) := ⟨(-n).toNat, by omega, by omega, by unfold Hid decB; rw [if_neg hz, if_pos hn]⟩
  go_enter Tryd.func48, Tryd.ntmps48
  go_wp2_with fail
  go_loopw [0, 4] (fun nv ov wr => ∃ k : Nat, ∃ out : ByteArray, nv = .int .i64 k ∧ ov = .string out ∧ Hid (digs M ⟨#[]⟩ = digs k out) ∧ out.size + k ≤ 2000000000 ∧ Below w.heap.size w wr) (fun nv _ _ => (intOf nv).toNat)
  case atStart => exact ⟨M, ⟨#[]⟩, rfl, rfl, rfl, by show 0 + M ≤ _; omega, Below.refl _ _⟩
  case round =>
    obtain ⟨k, out, rfl, rfl, hd, hsz, hB⟩ := hrel
    by_cases hk : k = 0
    · subst hk
      have hx : Hid (digs M ⟨#[]⟩ = out) := by unfold Hid; rw [hd.out, digs_0]
      clear hd
      have hadd := addS (a := ⟨#[45]⟩) (b := out) (by show 1 + out.size ≤ _; omega)
      go_wp2_with fail
      go_ret
      exact ⟨retStr (by rw [HD.out, hx.out]), hB⟩
    · obtain ⟨D, hD⟩ : ∃ D : Nat, D = 48 + k % 10 := ⟨_, rfl⟩
      have hx : Hid (digs M ⟨#[]⟩ = digs (k / 10) (⟨#[UInt8.ofNat D]⟩ ++ out)) := by unfold Hid; rw [hd.out, digs_s hk, hD]
      have e1 : (48 : Int) + (k : Int) % 10 = (D : Int) := by omega
      have hD2 : D < 256 := by omega
      have wu : IntKind.u8.wrap (D : Int) = (D : Int) := by rw [IntKind.wrap_u8]; omega
      have kpos : (0 : Int) < (k : Int) := by omega
      have hcv := oneByte wr D hD2 5
      have hz1 : ((⟨#[UInt8.ofNat D]⟩ : ByteArray) ++ out).size = out.size + 1 := size_one _ _
      have hadd := addS (a := ⟨#[UInt8.ofNat D]⟩) (b := out) (by show 1 + out.size ≤ _; omega)
      have hsz2 : out.size + 1 + k / 10 ≤ 2000000000 := by omega
      have HDD : Hid (D = 48 + k % 10) := hD
      have HZ : Hid (((⟨#[UInt8.ofNat D]⟩ : ByteArray) ++ out).size = out.size + 1) := hz1
      clear hd hD hz1
      go_wp2_with fail
      go_roundw
      case rel => exact ⟨k / 10, ⟨#[UInt8.ofNat D]⟩ ++ out, by first | go_num | (congr 1; omega), rfl, hx, by rw [HZ.out]; exact hsz2, nbAlloc hB _⟩
      case measure => simp [intOf]; omega

set_option maxRecDepth 100000 in
set_option maxHeartbeats 1000000 in
theorem l4pos (n : Int) (w : World) (h1 : n ≤ 2000000000) (hn : 0 < n) :
    Calls Tryd.prog 48 #[.int .i64 n] w fun e w' => e = .returned (.string (decB n)) ∧ Below w.heap.size w w' := by
  have hz : ¬ n = 0 := by omega
  have hn2 : ¬ n < 0 := by omega
  obtain ⟨M, hM, hM0, HD⟩ : ∃ M : Nat, n = (M : Int) ∧ M ≤ 2000000000 ∧ Hid (decB n = digs M ⟨#[]⟩) := ⟨n.toNat, by omega, by omega, by unfold Hid decB; rw [if_neg hz, if_neg hn2]⟩
  go_enter Tryd.func48, Tryd.ntmps48
  go_wp2_with fail
  go_loopw [0, 4] (fun nv ov wr => ∃ k : Nat, ∃ out : ByteArray, nv = .int .i64 k ∧ ov = .string out ∧ Hid (digs M ⟨#[]⟩ = digs k out) ∧ out.size + k ≤ 2000000000 ∧ Below w.heap.size w wr) (fun nv _ _ => (intOf nv).toNat)
  case atStart => exact ⟨M, ⟨#[]⟩, rfl, rfl, rfl, by show 0 + M ≤ _; omega, Below.refl _ _⟩
  case round =>
    obtain ⟨k, out, rfl, rfl, hd, hsz, hB⟩ := hrel
    by_cases hk : k = 0
    · subst hk
      have hx : Hid (digs M ⟨#[]⟩ = out) := by unfold Hid; rw [hd.out, digs_0]
      clear hd
      go_wp2_with fail
      go_ret
      exact ⟨retStr (by rw [HD.out, hx.out]), hB⟩
    · obtain ⟨D, hD⟩ : ∃ D : Nat, D = 48 + k % 10 := ⟨_, rfl⟩
      have hx : Hid (digs M ⟨#[]⟩ = digs (k / 10) (⟨#[UInt8.ofNat D]⟩ ++ out)) := by unfold Hid; rw [hd.out, digs_s hk, hD]
      have e1 : (48 : Int) + (k : Int) % 10 = (D : Int) := by omega
      have hD2 : D < 256 := by omega
      have wu : IntKind.u8.wrap (D : Int) = (D : Int) := by rw [IntKind.wrap_u8]; omega
      have kpos : (0 : Int) < (k : Int) := by omega
      have hcv := oneByte wr D hD2 5
      have hz1 : ((⟨#[UInt8.ofNat D]⟩ : ByteArray) ++ out).size = out.size + 1 := size_one _ _
      have hadd := addS (a := ⟨#[UInt8.ofNat D]⟩) (b := out) (by show 1 + out.size ≤ _; omega)
      have hsz2 : out.size + 1 + k / 10 ≤ 2000000000 := by omega
      have HDD : Hid (D = 48 + k % 10) := hD
      have HZ : Hid (((⟨#[UInt8.ofNat D]⟩ : ByteArray) ++ out).size = out.size + 1) := hz1
      clear hd hD hz1
      go_wp2_with fail
      go_roundw
      case rel => exact ⟨k / 10, ⟨#[UInt8.ofNat D]⟩ ++ out, by first | go_num | (congr 1; omega), rfl, hx, by rw [HZ.out]; exact hsz2, nbAlloc hB _⟩
      case measure => simp [intOf]; omega

set_option maxHeartbeats 400000 in
theorem l4decimal_c (n : Int) (w : World) (h0 : -1000000000 ≤ n) (h1 : n ≤ 2000000000) :
    Calls Tryd.prog 48 #[.int .i64 n] w fun e w' => e = .returned (.string (decB n)) ∧ Below w.heap.size w w' := by
  by_cases hz : n = 0
  · subst hz
    go_enter Tryd.func48, Tryd.ntmps48
    go_wp2_with fail
    go_ret
    exact ⟨rfl, Below.refl _ _⟩
  by_cases hn : n < 0
  · exact l4neg n w h0 hn
  · exact l4pos n w h1 (by omega)

end Go.Proofs.YtmhppadblddjoacDoor
