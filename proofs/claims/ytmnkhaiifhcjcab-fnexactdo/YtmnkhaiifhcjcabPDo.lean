import Derived.Test.YtmnkhaiifhcjcabIDo
import Derived.Test.YtmnkhaiifhcjcabLDo
namespace Go.Proofs.Ytmnkhaiifhcjcab
open Go.RowKit

theorem implDo_c (b off len cap : Nat) (f a : Nat → Int) (s j m g o : Int) (t : St) (op n : Int) (w : World) (hl : len ≤ 1048576) (hrow : Row2 w b off len f a) :
    Calls Try.prog 26 #[.agg #[.int .i64 s, .int .i64 j, .int .i64 m, .int .i64 g, .int .i64 o], .slice (some ⟨b, off, none⟩) len cap, t.v, .agg #[.int .i64 op, .int .i64 n]] w fun e w' => e = .returned (doA s j m g o len f a t op n).v ∧ Below w.heap.size w w' := by
  cases hall : (rOk s j m g o && stB (marksB f a len) len t.kn t.l t.h t.si t.la t.od && evB op n)
  · refine calls_eq ?_ (implDo_bad b off len cap f a s j m g o t.kn t.l t.h t.si t.la t.od op n w hl hrow hall)
    simp [doA, hall, St.v]
  · have hA : doA s j m g o len f a t op n = doM s j m len f a t op n := by simp [doA, hall]
    rw [hA]
    simp only [Bool.and_eq_true] at hall
    obtain ⟨⟨hr, hst⟩, hev⟩ := hall
    have hmk := (st_parts hst).1
    exact implDo_ok b off len cap f a s j m g o t.kn t.l t.h t.si t.la t.od op n w hl hrow hr hst hev (fun i hi => marksB_name hmk hi) (doM s j m len f a t op n) (fun q w hM => after_c s j m g o q len f a t op n w hM hr hst hev)

theorem lawDo_w (s j m g o : Int) (ad : Option Addr) (len cap : Nat) (f a : Nat → Int) (kn : Bool) (l h si la od op n : Int) (w : World) (hlen : len ≤ 9223372036854775807) (hrow : SRow w ad len f a) :
    Calls Try.prog 7 #[.agg #[.int .i64 s, .int .i64 j, .int .i64 m, .int .i64 g, .int .i64 o], .slice ad len cap, .agg #[.bool kn, .int .i64 l, .int .i64 h, .int .i64 si, .int .i64 la, .int .i64 od], .agg #[.int .i64 op, .int .i64 n]] w fun e w' => e = .returned (.bool true) ∧ Below w.heap.size w w' :=
  lawDo_c ad len cap f a s j m g o kn l h si la od op n (doA s j m g o len f a ⟨kn, l, h, si, la, od⟩ op n) w hlen hrow
    (fun q w hl hr => specDo_c q 0 len len f a s j m g o ⟨kn, l, h, si, la, od⟩ op n w hl hr)
    (fun q w hl hr => implDo_c q 0 len len f a s j m g o ⟨kn, l, h, si, la, od⟩ op n w hl hr)

end Go.Proofs.Ytmnkhaiifhcjcab
