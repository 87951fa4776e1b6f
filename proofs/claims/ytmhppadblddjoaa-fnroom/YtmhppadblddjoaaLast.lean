/- States as my texts hold them, and what the specification's Do makes of one. -/
import Derived.Test.YtmhppadblddjoaaEv
import Derived.Test.YtmhppadblddjoaaPlain
namespace Go.Proofs.Ytmhppadblddjoaa
open Go.RowKit

structure St where
  kn : Bool
  l : Int
  h : Int
  si : Int
  la : Int
  od : Int
def St.v (t : St) : Value := .agg #[.bool t.kn, .int .i64 t.l, .int .i64 t.h, .int .i64 t.si, .int .i64 t.la, .int .i64 t.od]

/-- The last mark of a name ahead of the k-th. -/
def lastIx (f : Nat → Int) (n : Int) : Nat → Int
  | 0 => -1
  | k + 1 => if f k == n then k else lastIx f n k
theorem lastIx_yes {f : Nat → Int} {n : Int} {k : Nat} (h : (f k == n) = true) : lastIx f n (k + 1) = k := by simp [lastIx, h]
theorem lastIx_no {f : Nat → Int} {n : Int} {k : Nat} (h : (f k == n) = false) : lastIx f n (k + 1) = lastIx f n k := by simp [lastIx, h]
theorem lastIx_cases (f : Nat → Int) (n : Int) : ∀ k, lastIx f n k = -1 ∧ (∀ i, i < k → f i ≠ n) ∨ ∃ i : Nat, lastIx f n k = (i : Int) ∧ i < k ∧ f i = n
  | 0 => .inl ⟨rfl, fun i hi => by omega⟩
  | k + 1 => by
    cases hk : (f k == n)
    · rw [lastIx_no hk]
      rcases lastIx_cases f n k with ⟨h1, h2⟩ | ⟨i, h1, h2, h3⟩
      · refine .inl ⟨h1, fun i hi => ?_⟩
        by_cases hik : i = k
        · subst hik; simpa using hk
        · exact h2 i (by omega)
      · exact .inr ⟨i, h1, by omega, h3⟩
    · rw [lastIx_yes hk]
      exact .inr ⟨k, rfl, by omega, by simpa using hk⟩

def doM (s j m : Int) (len : Nat) (f a : Nat → Int) (t : St) (op n : Int) : St :=
  if op == 1 then
    if t.kn then ⟨true, min (t.l + lst s j n) 100000000, min (t.h + mst s j n) 100000000, min (t.si + n) 1000000000, t.la, t.od⟩
    else ⟨false, t.l, t.h, min (t.si + n) 1000000000, t.la, t.od⟩
  else if op == 2 then
    if lastIx f n len < 0 then ⟨t.kn, t.l, t.h, t.si, t.la, min (t.od + 1) 1000000000⟩
    else
      let z := a (lastIx f n len).toNat
      let x := min (z - m) 100000000
      let y := min (z + m) 100000000
      if t.kn then
        if mB t.l t.h x y then ⟨true, max t.l x, min t.h y, 0, lastIx f n len, t.od⟩
        else ⟨true, min t.l x, max t.h y, 0, lastIx f n len, min (t.od + 1) 1000000000⟩
      else ⟨true, x, y, 0, lastIx f n len, t.od⟩
  else if op == 4 then ⟨false, 0, 0, 0, -1, t.od⟩
  else t
def doA (s j m g o : Int) (len : Nat) (f a : Nat → Int) (t : St) (op n : Int) : St :=
  if rOk s j m g o && stB (marksB f a len) len t.kn t.l t.h t.si t.la t.od && evB op n then doM s j m len f a t op n else ⟨false, 0, 0, 0, 0, 0⟩

end Go.Proofs.Ytmhppadblddjoaa
