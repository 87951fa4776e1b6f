import Derived.Test.YtmhppadblddjoaaDoorZTopMkOk
import Derived.Test.YtmhppadblddjoaaDoorZTopW7
namespace Go.Proofs.YtmhppadblddjoaaDoor
open Go.RowKit

set_option maxHeartbeats 400000 in
theorem l2least_c (n m : Int) (w : World) :
    Calls Tryd.prog 76 #[.int .i64 n, .int .i64 m] w fun e w' => e = .returned (.int .i64 (min n m)) ∧ w = w' := by
  by_cases h : m < n
  · go_enter Tryd.func76, Tryd.ntmps76
    go_wp2
    go_ret
    exact ⟨retI (by omega), rfl⟩
  · go_enter Tryd.func76, Tryd.ntmps76
    go_wp2
    go_ret
    exact ⟨retI (by omega), rfl⟩

def doC (w : World) (s j m g o : Int) (kn : Bool) (l h si la od op n : Int) : World → Prop := fun w' => w'.cell? ⟨w.heap.size, 0, none⟩ = some (.int .i64 s) ∧ w'.cell? ⟨w.heap.size, 1, none⟩ = some (.int .i64 j) ∧ w'.cell? ⟨w.heap.size, 2, none⟩ = some (.int .i64 m) ∧ w'.cell? ⟨w.heap.size, 3, none⟩ = some (.int .i64 g) ∧ w'.cell? ⟨w.heap.size, 4, none⟩ = some (.int .i64 o) ∧ w'.cell? ⟨w.heap.size + 1, 0, none⟩ = some (.bool kn) ∧ w'.cell? ⟨w.heap.size + 1, 1, none⟩ = some (.int .i64 l) ∧ w'.cell? ⟨w.heap.size + 1, 2, none⟩ = some (.int .i64 h) ∧ w'.cell? ⟨w.heap.size + 1, 3, none⟩ = some (.int .i64 si) ∧ w'.cell? ⟨w.heap.size + 1, 4, none⟩ = some (.int .i64 la) ∧ w'.cell? ⟨w.heap.size + 1, 5, none⟩ = some (.int .i64 od) ∧ w'.cell? ⟨w.heap.size + 1 + 1, 0, none⟩ = some (.int .i64 op) ∧ w'.cell? ⟨w.heap.size + 1 + 1, 1, none⟩ = some (.int .i64 n) ∧ w'.cell? ⟨w.heap.size + 1 + 1 + 1, 0, none⟩ = some (.bool false) ∧ w'.cell? ⟨w.heap.size + 1 + 1 + 1, 1, none⟩ = some (.int .i64 0) ∧ w'.cell? ⟨w.heap.size + 1 + 1 + 1, 2, none⟩ = some (.int .i64 0) ∧ w'.cell? ⟨w.heap.size + 1 + 1 + 1, 3, none⟩ = some (.int .i64 0) ∧ w'.cell? ⟨w.heap.size + 1 + 1 + 1, 4, none⟩ = some (.int .i64 0) ∧ w'.cell? ⟨w.heap.size + 1 + 1 + 1, 5, none⟩ = some (.int .i64 0) ∧ w'.frozen? ⟨w.heap.size + 1, 0, none⟩ = false ∧ w'.frozen? ⟨w.heap.size + 1, 1, none⟩ = false ∧ w'.frozen? ⟨w.heap.size + 1, 2, none⟩ = false ∧ w'.frozen? ⟨w.heap.size + 1, 3, none⟩ = false ∧ w'.frozen? ⟨w.heap.size + 1, 4, none⟩ = false ∧ w'.frozen? ⟨w.heap.size + 1, 5, none⟩ = false ∧ w'.frozen? ⟨w.heap.size + 1 + 1 + 1, 0, none⟩ = false ∧ w'.frozen? ⟨w.heap.size + 1 + 1 + 1, 1, none⟩ = false ∧ w'.frozen? ⟨w.heap.size + 1 + 1 + 1, 2, none⟩ = false ∧ w'.frozen? ⟨w.heap.size + 1 + 1 + 1, 3, none⟩ = false ∧ w'.frozen? ⟨w.heap.size + 1 + 1 + 1, 4, none⟩ = false ∧ w'.frozen? ⟨w.heap.size + 1 + 1 + 1, 5, none⟩ = false ∧ Below w.heap.size w w'
theorem doC_on {w : World} {s j m g o : Int} {kn : Bool} {l h si la od op n : Int} {w1 w2 : World} (hh : doC w s j m g o kn l h si la od op n w1) (hb : Below w1.heap.size w1 w2) : doC w s j m g o kn l h si la od op n w2 :=
  ⟨cellOn hb hh.1, cellOn hb hh.2.1, cellOn hb hh.2.2.1, cellOn hb hh.2.2.2.1, cellOn hb hh.2.2.2.2.1, cellOn hb hh.2.2.2.2.2.1, cellOn hb hh.2.2.2.2.2.2.1, cellOn hb hh.2.2.2.2.2.2.2.1, cellOn hb hh.2.2.2.2.2.2.2.2.1, cellOn hb hh.2.2.2.2.2.2.2.2.2.1, cellOn hb hh.2.2.2.2.2.2.2.2.2.2.1, cellOn hb hh.2.2.2.2.2.2.2.2.2.2.2.1, cellOn hb hh.2.2.2.2.2.2.2.2.2.2.2.2.1, cellOn hb hh.2.2.2.2.2.2.2.2.2.2.2.2.2.1, cellOn hb hh.2.2.2.2.2.2.2.2.2.2.2.2.2.2.1, cellOn hb hh.2.2.2.2.2.2.2.2.2.2.2.2.2.2.2.1, cellOn hb hh.2.2.2.2.2.2.2.2.2.2.2.2.2.2.2.2.1, cellOn hb hh.2.2.2.2.2.2.2.2.2.2.2.2.2.2.2.2.2.1, cellOn hb hh.2.2.2.2.2.2.2.2.2.2.2.2.2.2.2.2.2.2.1, frozenOn hb hh.2.2.2.2.2.1 hh.2.2.2.2.2.2.2.2.2.2.2.2.2.2.2.2.2.2.2.1, frozenOn hb hh.2.2.2.2.2.2.1 hh.2.2.2.2.2.2.2.2.2.2.2.2.2.2.2.2.2.2.2.2.1, frozenOn hb hh.2.2.2.2.2.2.2.1 hh.2.2.2.2.2.2.2.2.2.2.2.2.2.2.2.2.2.2.2.2.2.1, frozenOn hb hh.2.2.2.2.2.2.2.2.1 hh.2.2.2.2.2.2.2.2.2.2.2.2.2.2.2.2.2.2.2.2.2.2.1, frozenOn hb hh.2.2.2.2.2.2.2.2.2.1 hh.2.2.2.2.2.2.2.2.2.2.2.2.2.2.2.2.2.2.2.2.2.2.2.1, frozenOn hb hh.2.2.2.2.2.2.2.2.2.2.1 hh.2.2.2.2.2.2.2.2.2.2.2.2.2.2.2.2.2.2.2.2.2.2.2.2.1, frozenOn hb hh.2.2.2.2.2.2.2.2.2.2.2.2.2.1 hh.2.2.2.2.2.2.2.2.2.2.2.2.2.2.2.2.2.2.2.2.2.2.2.2.2.1, frozenOn hb hh.2.2.2.2.2.2.2.2.2.2.2.2.2.2.1 hh.2.2.2.2.2.2.2.2.2.2.2.2.2.2.2.2.2.2.2.2.2.2.2.2.2.2.1, frozenOn hb hh.2.2.2.2.2.2.2.2.2.2.2.2.2.2.2.1 hh.2.2.2.2.2.2.2.2.2.2.2.2.2.2.2.2.2.2.2.2.2.2.2.2.2.2.2.1, frozenOn hb hh.2.2.2.2.2.2.2.2.2.2.2.2.2.2.2.2.1 hh.2.2.2.2.2.2.2.2.2.2.2.2.2.2.2.2.2.2.2.2.2.2.2.2.2.2.2.2.1, frozenOn hb hh.2.2.2.2.2.2.2.2.2.2.2.2.2.2.2.2.2.1 hh.2.2.2.2.2.2.2.2.2.2.2.2.2.2.2.2.2.2.2.2.2.2.2.2.2.2.2.2.2.1, frozenOn hb hh.2.2.2.2.2.2.2.2.2.2.2.2.2.2.2.2.2.2.1 hh.2.2.2.2.2.2.2.2.2.2.2.2.2.2.2.2.2.2.2.2.2.2.2.2.2.2.2.2.2.2.1, nbTrans hh.2.2.2.2.2.2.2.2.2.2.2.2.2.2.2.2.2.2.2.2.2.2.2.2.2.2.2.2.2.2.2 hb⟩

def doK (w : World) (s j m g o : Int) (kn : Bool) (l h si la od op n : Int) (b mo : Nat) (z : Int) : World → Prop := fun w' => w'.cell? ⟨w.heap.size, 0, none⟩ = some (.int .i64 s) ∧ w'.cell? ⟨w.heap.size, 1, none⟩ = some (.int .i64 j) ∧ w'.cell? ⟨w.heap.size, 2, none⟩ = some (.int .i64 m) ∧ w'.cell? ⟨w.heap.size, 3, none⟩ = some (.int .i64 g) ∧ w'.cell? ⟨w.heap.size, 4, none⟩ = some (.int .i64 o) ∧ w'.cell? ⟨w.heap.size + 1, 0, none⟩ = some (.bool kn) ∧ w'.cell? ⟨w.heap.size + 1, 1, none⟩ = some (.int .i64 l) ∧ w'.cell? ⟨w.heap.size + 1, 2, none⟩ = some (.int .i64 h) ∧ w'.cell? ⟨w.heap.size + 1, 3, none⟩ = some (.int .i64 si) ∧ w'.cell? ⟨w.heap.size + 1, 4, none⟩ = some (.int .i64 la) ∧ w'.cell? ⟨w.heap.size + 1, 5, none⟩ = some (.int .i64 od) ∧ w'.cell? ⟨w.heap.size + 1 + 1, 0, none⟩ = some (.int .i64 op) ∧ w'.cell? ⟨w.heap.size + 1 + 1, 1, none⟩ = some (.int .i64 n) ∧ w'.cell? ⟨w.heap.size + 1 + 1 + 1, 0, none⟩ = some (.bool false) ∧ w'.cell? ⟨w.heap.size + 1 + 1 + 1, 1, none⟩ = some (.int .i64 0) ∧ w'.cell? ⟨w.heap.size + 1 + 1 + 1, 2, none⟩ = some (.int .i64 0) ∧ w'.cell? ⟨w.heap.size + 1 + 1 + 1, 3, none⟩ = some (.int .i64 0) ∧ w'.cell? ⟨w.heap.size + 1 + 1 + 1, 4, none⟩ = some (.int .i64 0) ∧ w'.cell? ⟨w.heap.size + 1 + 1 + 1, 5, none⟩ = some (.int .i64 0) ∧ w'.frozen? ⟨w.heap.size + 1, 0, none⟩ = false ∧ w'.frozen? ⟨w.heap.size + 1, 1, none⟩ = false ∧ w'.frozen? ⟨w.heap.size + 1, 2, none⟩ = false ∧ w'.frozen? ⟨w.heap.size + 1, 3, none⟩ = false ∧ w'.frozen? ⟨w.heap.size + 1, 4, none⟩ = false ∧ w'.frozen? ⟨w.heap.size + 1, 5, none⟩ = false ∧ w'.frozen? ⟨w.heap.size + 1 + 1 + 1, 0, none⟩ = false ∧ w'.frozen? ⟨w.heap.size + 1 + 1 + 1, 1, none⟩ = false ∧ w'.frozen? ⟨w.heap.size + 1 + 1 + 1, 2, none⟩ = false ∧ w'.frozen? ⟨w.heap.size + 1 + 1 + 1, 3, none⟩ = false ∧ w'.frozen? ⟨w.heap.size + 1 + 1 + 1, 4, none⟩ = false ∧ w'.frozen? ⟨w.heap.size + 1 + 1 + 1, 5, none⟩ = false ∧ w'.cell? ⟨b, mo, none⟩ = some (.int .i64 z) ∧ Below w.heap.size w w'
theorem doK_on {w : World} {s j m g o : Int} {kn : Bool} {l h si la od op n : Int} {b mo : Nat} {z : Int} {w1 w2 : World} (hh : doK w s j m g o kn l h si la od op n b mo z w1) (hb : Below w1.heap.size w1 w2) : doK w s j m g o kn l h si la od op n b mo z w2 :=
  ⟨cellOn hb hh.1, cellOn hb hh.2.1, cellOn hb hh.2.2.1, cellOn hb hh.2.2.2.1, cellOn hb hh.2.2.2.2.1, cellOn hb hh.2.2.2.2.2.1, cellOn hb hh.2.2.2.2.2.2.1, cellOn hb hh.2.2.2.2.2.2.2.1, cellOn hb hh.2.2.2.2.2.2.2.2.1, cellOn hb hh.2.2.2.2.2.2.2.2.2.1, cellOn hb hh.2.2.2.2.2.2.2.2.2.2.1, cellOn hb hh.2.2.2.2.2.2.2.2.2.2.2.1, cellOn hb hh.2.2.2.2.2.2.2.2.2.2.2.2.1, cellOn hb hh.2.2.2.2.2.2.2.2.2.2.2.2.2.1, cellOn hb hh.2.2.2.2.2.2.2.2.2.2.2.2.2.2.1, cellOn hb hh.2.2.2.2.2.2.2.2.2.2.2.2.2.2.2.1, cellOn hb hh.2.2.2.2.2.2.2.2.2.2.2.2.2.2.2.2.1, cellOn hb hh.2.2.2.2.2.2.2.2.2.2.2.2.2.2.2.2.2.1, cellOn hb hh.2.2.2.2.2.2.2.2.2.2.2.2.2.2.2.2.2.2.1, frozenOn hb hh.2.2.2.2.2.1 hh.2.2.2.2.2.2.2.2.2.2.2.2.2.2.2.2.2.2.2.1, frozenOn hb hh.2.2.2.2.2.2.1 hh.2.2.2.2.2.2.2.2.2.2.2.2.2.2.2.2.2.2.2.2.1, frozenOn hb hh.2.2.2.2.2.2.2.1 hh.2.2.2.2.2.2.2.2.2.2.2.2.2.2.2.2.2.2.2.2.2.1, frozenOn hb hh.2.2.2.2.2.2.2.2.1 hh.2.2.2.2.2.2.2.2.2.2.2.2.2.2.2.2.2.2.2.2.2.2.1, frozenOn hb hh.2.2.2.2.2.2.2.2.2.1 hh.2.2.2.2.2.2.2.2.2.2.2.2.2.2.2.2.2.2.2.2.2.2.2.1, frozenOn hb hh.2.2.2.2.2.2.2.2.2.2.1 hh.2.2.2.2.2.2.2.2.2.2.2.2.2.2.2.2.2.2.2.2.2.2.2.2.1, frozenOn hb hh.2.2.2.2.2.2.2.2.2.2.2.2.2.1 hh.2.2.2.2.2.2.2.2.2.2.2.2.2.2.2.2.2.2.2.2.2.2.2.2.2.1, frozenOn hb hh.2.2.2.2.2.2.2.2.2.2.2.2.2.2.1 hh.2.2.2.2.2.2.2.2.2.2.2.2.2.2.2.2.2.2.2.2.2.2.2.2.2.2.1, frozenOn hb hh.2.2.2.2.2.2.2.2.2.2.2.2.2.2.2.1 hh.2.2.2.2.2.2.2.2.2.2.2.2.2.2.2.2.2.2.2.2.2.2.2.2.2.2.2.1, frozenOn hb hh.2.2.2.2.2.2.2.2.2.2.2.2.2.2.2.2.1 hh.2.2.2.2.2.2.2.2.2.2.2.2.2.2.2.2.2.2.2.2.2.2.2.2.2.2.2.2.1, frozenOn hb hh.2.2.2.2.2.2.2.2.2.2.2.2.2.2.2.2.2.1 hh.2.2.2.2.2.2.2.2.2.2.2.2.2.2.2.2.2.2.2.2.2.2.2.2.2.2.2.2.2.1, frozenOn hb hh.2.2.2.2.2.2.2.2.2.2.2.2.2.2.2.2.2.2.1 hh.2.2.2.2.2.2.2.2.2.2.2.2.2.2.2.2.2.2.2.2.2.2.2.2.2.2.2.2.2.2.1, cellOn hb hh.2.2.2.2.2.2.2.2.2.2.2.2.2.2.2.2.2.2.2.2.2.2.2.2.2.2.2.2.2.2.2.1, nbTrans hh.2.2.2.2.2.2.2.2.2.2.2.2.2.2.2.2.2.2.2.2.2.2.2.2.2.2.2.2.2.2.2.2 hb⟩

def doN (w : World) (s j m g o : Int) (kn : Bool) (l h si la od op n : Int) (b mo : Nat) (z : Int) (p : Nat) (u v : Int) : World → Prop := fun w' => w'.cell? ⟨w.heap.size, 0, none⟩ = some (.int .i64 s) ∧ w'.cell? ⟨w.heap.size, 1, none⟩ = some (.int .i64 j) ∧ w'.cell? ⟨w.heap.size, 2, none⟩ = some (.int .i64 m) ∧ w'.cell? ⟨w.heap.size, 3, none⟩ = some (.int .i64 g) ∧ w'.cell? ⟨w.heap.size, 4, none⟩ = some (.int .i64 o) ∧ w'.cell? ⟨w.heap.size + 1, 0, none⟩ = some (.bool kn) ∧ w'.cell? ⟨w.heap.size + 1, 1, none⟩ = some (.int .i64 l) ∧ w'.cell? ⟨w.heap.size + 1, 2, none⟩ = some (.int .i64 h) ∧ w'.cell? ⟨w.heap.size + 1, 3, none⟩ = some (.int .i64 si) ∧ w'.cell? ⟨w.heap.size + 1, 4, none⟩ = some (.int .i64 la) ∧ w'.cell? ⟨w.heap.size + 1, 5, none⟩ = some (.int .i64 od) ∧ w'.cell? ⟨w.heap.size + 1 + 1, 0, none⟩ = some (.int .i64 op) ∧ w'.cell? ⟨w.heap.size + 1 + 1, 1, none⟩ = some (.int .i64 n) ∧ w'.cell? ⟨w.heap.size + 1 + 1 + 1, 0, none⟩ = some (.bool false) ∧ w'.cell? ⟨w.heap.size + 1 + 1 + 1, 1, none⟩ = some (.int .i64 0) ∧ w'.cell? ⟨w.heap.size + 1 + 1 + 1, 2, none⟩ = some (.int .i64 0) ∧ w'.cell? ⟨w.heap.size + 1 + 1 + 1, 3, none⟩ = some (.int .i64 0) ∧ w'.cell? ⟨w.heap.size + 1 + 1 + 1, 4, none⟩ = some (.int .i64 0) ∧ w'.cell? ⟨w.heap.size + 1 + 1 + 1, 5, none⟩ = some (.int .i64 0) ∧ w'.frozen? ⟨w.heap.size + 1, 0, none⟩ = false ∧ w'.frozen? ⟨w.heap.size + 1, 1, none⟩ = false ∧ w'.frozen? ⟨w.heap.size + 1, 2, none⟩ = false ∧ w'.frozen? ⟨w.heap.size + 1, 3, none⟩ = false ∧ w'.frozen? ⟨w.heap.size + 1, 4, none⟩ = false ∧ w'.frozen? ⟨w.heap.size + 1, 5, none⟩ = false ∧ w'.frozen? ⟨w.heap.size + 1 + 1 + 1, 0, none⟩ = false ∧ w'.frozen? ⟨w.heap.size + 1 + 1 + 1, 1, none⟩ = false ∧ w'.frozen? ⟨w.heap.size + 1 + 1 + 1, 2, none⟩ = false ∧ w'.frozen? ⟨w.heap.size + 1 + 1 + 1, 3, none⟩ = false ∧ w'.frozen? ⟨w.heap.size + 1 + 1 + 1, 4, none⟩ = false ∧ w'.frozen? ⟨w.heap.size + 1 + 1 + 1, 5, none⟩ = false ∧ w'.cell? ⟨b, mo, none⟩ = some (.int .i64 z) ∧ w'.cell? ⟨p, 0, none⟩ = some (.int .i64 u) ∧ w'.cell? ⟨p, 1, none⟩ = some (.int .i64 v) ∧ Below w.heap.size w w'
theorem doN_on {w : World} {s j m g o : Int} {kn : Bool} {l h si la od op n : Int} {b mo : Nat} {z : Int} {p : Nat} {u v : Int} {w1 w2 : World} (hh : doN w s j m g o kn l h si la od op n b mo z p u v w1) (hb : Below w1.heap.size w1 w2) : doN w s j m g o kn l h si la od op n b mo z p u v w2 :=
  ⟨cellOn hb hh.1, cellOn hb hh.2.1, cellOn hb hh.2.2.1, cellOn hb hh.2.2.2.1, cellOn hb hh.2.2.2.2.1, cellOn hb hh.2.2.2.2.2.1, cellOn hb hh.2.2.2.2.2.2.1, cellOn hb hh.2.2.2.2.2.2.2.1, cellOn hb hh.2.2.2.2.2.2.2.2.1, cellOn hb hh.2.2.2.2.2.2.2.2.2.1, cellOn hb hh.2.2.2.2.2.2.2.2.2.2.1, cellOn hb hh.2.2.2.2.2.2.2.2.2.2.2.1, cellOn hb hh.2.2.2.2.2.2.2.2.2.2.2.2.1, cellOn hb hh.2.2.2.2.2.2.2.2.2.2.2.2.2.1, cellOn hb hh.2.2.2.2.2.2.2.2.2.2.2.2.2.2.1, cellOn hb hh.2.2.2.2.2.2.2.2.2.2.2.2.2.2.2.1, cellOn hb hh.2.2.2.2.2.2.2.2.2.2.2.2.2.2.2.2.1, cellOn hb hh.2.2.2.2.2.2.2.2.2.2.2.2.2.2.2.2.2.1, cellOn hb hh.2.2.2.2.2.2.2.2.2.2.2.2.2.2.2.2.2.2.1, frozenOn hb hh.2.2.2.2.2.1 hh.2.2.2.2.2.2.2.2.2.2.2.2.2.2.2.2.2.2.2.1, frozenOn hb hh.2.2.2.2.2.2.1 hh.2.2.2.2.2.2.2.2.2.2.2.2.2.2.2.2.2.2.2.2.1, frozenOn hb hh.2.2.2.2.2.2.2.1 hh.2.2.2.2.2.2.2.2.2.2.2.2.2.2.2.2.2.2.2.2.2.1, frozenOn hb hh.2.2.2.2.2.2.2.2.1 hh.2.2.2.2.2.2.2.2.2.2.2.2.2.2.2.2.2.2.2.2.2.2.1, frozenOn hb hh.2.2.2.2.2.2.2.2.2.1 hh.2.2.2.2.2.2.2.2.2.2.2.2.2.2.2.2.2.2.2.2.2.2.2.1, frozenOn hb hh.2.2.2.2.2.2.2.2.2.2.1 hh.2.2.2.2.2.2.2.2.2.2.2.2.2.2.2.2.2.2.2.2.2.2.2.2.1, frozenOn hb hh.2.2.2.2.2.2.2.2.2.2.2.2.2.1 hh.2.2.2.2.2.2.2.2.2.2.2.2.2.2.2.2.2.2.2.2.2.2.2.2.2.1, frozenOn hb hh.2.2.2.2.2.2.2.2.2.2.2.2.2.2.1 hh.2.2.2.2.2.2.2.2.2.2.2.2.2.2.2.2.2.2.2.2.2.2.2.2.2.2.1, frozenOn hb hh.2.2.2.2.2.2.2.2.2.2.2.2.2.2.2.1 hh.2.2.2.2.2.2.2.2.2.2.2.2.2.2.2.2.2.2.2.2.2.2.2.2.2.2.2.1, frozenOn hb hh.2.2.2.2.2.2.2.2.2.2.2.2.2.2.2.2.1 hh.2.2.2.2.2.2.2.2.2.2.2.2.2.2.2.2.2.2.2.2.2.2.2.2.2.2.2.2.1, frozenOn hb hh.2.2.2.2.2.2.2.2.2.2.2.2.2.2.2.2.2.1 hh.2.2.2.2.2.2.2.2.2.2.2.2.2.2.2.2.2.2.2.2.2.2.2.2.2.2.2.2.2.1, frozenOn hb hh.2.2.2.2.2.2.2.2.2.2.2.2.2.2.2.2.2.2.1 hh.2.2.2.2.2.2.2.2.2.2.2.2.2.2.2.2.2.2.2.2.2.2.2.2.2.2.2.2.2.2.1, cellOn hb hh.2.2.2.2.2.2.2.2.2.2.2.2.2.2.2.2.2.2.2.2.2.2.2.2.2.2.2.2.2.2.2.1, cellOn hb hh.2.2.2.2.2.2.2.2.2.2.2.2.2.2.2.2.2.2.2.2.2.2.2.2.2.2.2.2.2.2.2.2.1, cellOn hb hh.2.2.2.2.2.2.2.2.2.2.2.2.2.2.2.2.2.2.2.2.2.2.2.2.2.2.2.2.2.2.2.2.2.1, nbTrans hh.2.2.2.2.2.2.2.2.2.2.2.2.2.2.2.2.2.2.2.2.2.2.2.2.2.2.2.2.2.2.2.2.2.2 hb⟩

theorem doC_si {w : World} {s j m g o : Int} {kn : Bool} {l h si la od op n : Int}  {w1 : World} (hh : doC w s j m g o kn l h si la od op n w1) (X : Int) : doC w s j m g o kn l h X la od op n (w1.setCell ⟨w.heap.size + 1, 3, none⟩ (.int .i64 X)) :=
  ⟨cellFar (by omega) hh.1,
   cellFar (by omega) hh.2.1,
   cellFar (by omega) hh.2.2.1,
   cellFar (by omega) hh.2.2.2.1,
   cellFar (by omega) hh.2.2.2.2.1,
   (World.cell?_setCell_other _ _ _ _ (by simp)).trans hh.2.2.2.2.2.1,
   (World.cell?_setCell_other _ _ _ _ (by simp)).trans hh.2.2.2.2.2.2.1,
   (World.cell?_setCell_other _ _ _ _ (by simp)).trans hh.2.2.2.2.2.2.2.1,
   World.cell?_setCell_same _ _ _ hh.2.2.2.2.2.2.2.2.1,
   (World.cell?_setCell_other _ _ _ _ (by simp)).trans hh.2.2.2.2.2.2.2.2.2.1,
   (World.cell?_setCell_other _ _ _ _ (by simp)).trans hh.2.2.2.2.2.2.2.2.2.2.1,
   cellFar (by omega) hh.2.2.2.2.2.2.2.2.2.2.2.1,
   cellFar (by omega) hh.2.2.2.2.2.2.2.2.2.2.2.2.1,
   cellFar (by omega) hh.2.2.2.2.2.2.2.2.2.2.2.2.2.1,
   cellFar (by omega) hh.2.2.2.2.2.2.2.2.2.2.2.2.2.2.1,
   cellFar (by omega) hh.2.2.2.2.2.2.2.2.2.2.2.2.2.2.2.1,
   cellFar (by omega) hh.2.2.2.2.2.2.2.2.2.2.2.2.2.2.2.2.1,
   cellFar (by omega) hh.2.2.2.2.2.2.2.2.2.2.2.2.2.2.2.2.2.1,
   cellFar (by omega) hh.2.2.2.2.2.2.2.2.2.2.2.2.2.2.2.2.2.2.1,
   (World.frozen?_setCell _ _ _ _).trans hh.2.2.2.2.2.2.2.2.2.2.2.2.2.2.2.2.2.2.2.1,
   (World.frozen?_setCell _ _ _ _).trans hh.2.2.2.2.2.2.2.2.2.2.2.2.2.2.2.2.2.2.2.2.1,
   (World.frozen?_setCell _ _ _ _).trans hh.2.2.2.2.2.2.2.2.2.2.2.2.2.2.2.2.2.2.2.2.2.1,
   (World.frozen?_setCell _ _ _ _).trans hh.2.2.2.2.2.2.2.2.2.2.2.2.2.2.2.2.2.2.2.2.2.2.1,
   (World.frozen?_setCell _ _ _ _).trans hh.2.2.2.2.2.2.2.2.2.2.2.2.2.2.2.2.2.2.2.2.2.2.2.1,
   (World.frozen?_setCell _ _ _ _).trans hh.2.2.2.2.2.2.2.2.2.2.2.2.2.2.2.2.2.2.2.2.2.2.2.2.1,
   (World.frozen?_setCell _ _ _ _).trans hh.2.2.2.2.2.2.2.2.2.2.2.2.2.2.2.2.2.2.2.2.2.2.2.2.2.1,
   (World.frozen?_setCell _ _ _ _).trans hh.2.2.2.2.2.2.2.2.2.2.2.2.2.2.2.2.2.2.2.2.2.2.2.2.2.2.1,
   (World.frozen?_setCell _ _ _ _).trans hh.2.2.2.2.2.2.2.2.2.2.2.2.2.2.2.2.2.2.2.2.2.2.2.2.2.2.2.1,
   (World.frozen?_setCell _ _ _ _).trans hh.2.2.2.2.2.2.2.2.2.2.2.2.2.2.2.2.2.2.2.2.2.2.2.2.2.2.2.2.1,
   (World.frozen?_setCell _ _ _ _).trans hh.2.2.2.2.2.2.2.2.2.2.2.2.2.2.2.2.2.2.2.2.2.2.2.2.2.2.2.2.2.1,
   (World.frozen?_setCell _ _ _ _).trans hh.2.2.2.2.2.2.2.2.2.2.2.2.2.2.2.2.2.2.2.2.2.2.2.2.2.2.2.2.2.2.1,
   nbSetX hh.2.2.2.2.2.2.2.2.2.2.2.2.2.2.2.2.2.2.2.2.2.2.2.2.2.2.2.2.2.2.2 (by omega)⟩

theorem doN_od {w : World} {s j m g o : Int} {kn : Bool} {l h si la od op n : Int} {b mo : Nat} {z : Int} {p : Nat} {u v : Int}  {w1 : World} (hh : doN w s j m g o kn l h si la od op n b mo z p u v w1) (X : Int) (hb : b ≠ w.heap.size + 1) (hp : p ≠ w.heap.size + 1) : doN w s j m g o kn l h si la X op n b mo z p u v (w1.setCell ⟨w.heap.size + 1, 5, none⟩ (.int .i64 X)) :=
  ⟨cellFar (by omega) hh.1,
   cellFar (by omega) hh.2.1,
   cellFar (by omega) hh.2.2.1,
   cellFar (by omega) hh.2.2.2.1,
   cellFar (by omega) hh.2.2.2.2.1,
   (World.cell?_setCell_other _ _ _ _ (by simp)).trans hh.2.2.2.2.2.1,
   (World.cell?_setCell_other _ _ _ _ (by simp)).trans hh.2.2.2.2.2.2.1,
   (World.cell?_setCell_other _ _ _ _ (by simp)).trans hh.2.2.2.2.2.2.2.1,
   (World.cell?_setCell_other _ _ _ _ (by simp)).trans hh.2.2.2.2.2.2.2.2.1,
   (World.cell?_setCell_other _ _ _ _ (by simp)).trans hh.2.2.2.2.2.2.2.2.2.1,
   World.cell?_setCell_same _ _ _ hh.2.2.2.2.2.2.2.2.2.2.1,
   cellFar (by omega) hh.2.2.2.2.2.2.2.2.2.2.2.1,
   cellFar (by omega) hh.2.2.2.2.2.2.2.2.2.2.2.2.1,
   cellFar (by omega) hh.2.2.2.2.2.2.2.2.2.2.2.2.2.1,
   cellFar (by omega) hh.2.2.2.2.2.2.2.2.2.2.2.2.2.2.1,
   cellFar (by omega) hh.2.2.2.2.2.2.2.2.2.2.2.2.2.2.2.1,
   cellFar (by omega) hh.2.2.2.2.2.2.2.2.2.2.2.2.2.2.2.2.1,
   cellFar (by omega) hh.2.2.2.2.2.2.2.2.2.2.2.2.2.2.2.2.2.1,
   cellFar (by omega) hh.2.2.2.2.2.2.2.2.2.2.2.2.2.2.2.2.2.2.1,
   (World.frozen?_setCell _ _ _ _).trans hh.2.2.2.2.2.2.2.2.2.2.2.2.2.2.2.2.2.2.2.1,
   (World.frozen?_setCell _ _ _ _).trans hh.2.2.2.2.2.2.2.2.2.2.2.2.2.2.2.2.2.2.2.2.1,
   (World.frozen?_setCell _ _ _ _).trans hh.2.2.2.2.2.2.2.2.2.2.2.2.2.2.2.2.2.2.2.2.2.1,
   (World.frozen?_setCell _ _ _ _).trans hh.2.2.2.2.2.2.2.2.2.2.2.2.2.2.2.2.2.2.2.2.2.2.1,
   (World.frozen?_setCell _ _ _ _).trans hh.2.2.2.2.2.2.2.2.2.2.2.2.2.2.2.2.2.2.2.2.2.2.2.1,
   (World.frozen?_setCell _ _ _ _).trans hh.2.2.2.2.2.2.2.2.2.2.2.2.2.2.2.2.2.2.2.2.2.2.2.2.1,
   (World.frozen?_setCell _ _ _ _).trans hh.2.2.2.2.2.2.2.2.2.2.2.2.2.2.2.2.2.2.2.2.2.2.2.2.2.1,
   (World.frozen?_setCell _ _ _ _).trans hh.2.2.2.2.2.2.2.2.2.2.2.2.2.2.2.2.2.2.2.2.2.2.2.2.2.2.1,
   (World.frozen?_setCell _ _ _ _).trans hh.2.2.2.2.2.2.2.2.2.2.2.2.2.2.2.2.2.2.2.2.2.2.2.2.2.2.2.1,
   (World.frozen?_setCell _ _ _ _).trans hh.2.2.2.2.2.2.2.2.2.2.2.2.2.2.2.2.2.2.2.2.2.2.2.2.2.2.2.2.1,
   (World.frozen?_setCell _ _ _ _).trans hh.2.2.2.2.2.2.2.2.2.2.2.2.2.2.2.2.2.2.2.2.2.2.2.2.2.2.2.2.2.1,
   (World.frozen?_setCell _ _ _ _).trans hh.2.2.2.2.2.2.2.2.2.2.2.2.2.2.2.2.2.2.2.2.2.2.2.2.2.2.2.2.2.2.1,
   cellFar (by omega) hh.2.2.2.2.2.2.2.2.2.2.2.2.2.2.2.2.2.2.2.2.2.2.2.2.2.2.2.2.2.2.2.1,
   cellFar (by omega) hh.2.2.2.2.2.2.2.2.2.2.2.2.2.2.2.2.2.2.2.2.2.2.2.2.2.2.2.2.2.2.2.2.1,
   cellFar (by omega) hh.2.2.2.2.2.2.2.2.2.2.2.2.2.2.2.2.2.2.2.2.2.2.2.2.2.2.2.2.2.2.2.2.2.1,
   nbSetX hh.2.2.2.2.2.2.2.2.2.2.2.2.2.2.2.2.2.2.2.2.2.2.2.2.2.2.2.2.2.2.2.2.2.2 (by omega)⟩

set_option maxHeartbeats 2000000 in
theorem specDo_bad (b off len cap : Nat) (f a : Nat → Int) (s j m g o : Int) (kn : Bool) (l h si la od op n : Int) (w : World) (hl : len ≤ 1048576) (hrow : Row2 w b off len f a) (hbad : (rOk s j m g o && stB (marksB f a len) len kn l h si la od && evB op n) = false) :
    Calls Tryd.prog 31 #[.agg #[.int .i64 s, .int .i64 j, .int .i64 m, .int .i64 g, .int .i64 o], .slice (some ⟨b, off, none⟩) len cap, .agg #[.bool kn, .int .i64 l, .int .i64 h, .int .i64 si, .int .i64 la, .int .i64 od], .agg #[.int .i64 op, .int .i64 n]] w fun e w' => e = .returned (.agg #[.bool false, .int .i64 0, .int .i64 0, .int .i64 0, .int .i64 0, .int .i64 0]) ∧ Below w.heap.size w w' := by
  cases hr : rOk s j m g o
  · clear hbad
    go_enter Tryd.func31, Tryd.ntmps31
    go_wp2_with fail
    refine (specRulesOk_c _ _ _ _ _ _).mono ?_
    rintro e w1 ⟨rfl, hb1⟩
    have hC1 : doC w s j m g o kn l h si la od op n w1 := ⟨cellOn hb1 (by go_simp), cellOn hb1 (by go_simp), cellOn hb1 (by go_simp), cellOn hb1 (by go_simp), cellOn hb1 (by go_simp), cellOn hb1 (by go_simp), cellOn hb1 (by go_simp), cellOn hb1 (by go_simp), cellOn hb1 (by go_simp), cellOn hb1 (by go_simp), cellOn hb1 (by go_simp), cellOn hb1 (by go_simp), cellOn hb1 (by go_simp), cellOn hb1 (by go_simp), cellOn hb1 (by go_simp), cellOn hb1 (by go_simp), cellOn hb1 (by go_simp), cellOn hb1 (by go_simp), cellOn hb1 (by go_simp), frozenOn hb1 (v := .bool kn) (by go_simp) (by go_simp), frozenOn hb1 (v := .int .i64 l) (by go_simp) (by go_simp), frozenOn hb1 (v := .int .i64 h) (by go_simp) (by go_simp), frozenOn hb1 (v := .int .i64 si) (by go_simp) (by go_simp), frozenOn hb1 (v := .int .i64 la) (by go_simp) (by go_simp), frozenOn hb1 (v := .int .i64 od) (by go_simp) (by go_simp), frozenOn hb1 (v := .bool false) (by go_simp) (by go_simp), frozenOn hb1 (v := .int .i64 0) (by go_simp) (by go_simp), frozenOn hb1 (v := .int .i64 0) (by go_simp) (by go_simp), frozenOn hb1 (v := .int .i64 0) (by go_simp) (by go_simp), frozenOn hb1 (v := .int .i64 0) (by go_simp) (by go_simp), frozenOn hb1 (v := .int .i64 0) (by go_simp) (by go_simp), nbTrans (nbAlloc (nbAlloc (nbAlloc (nbAlloc (Below.refl _ _) _) _) _) _) hb1⟩
    have c0 : w1.cell? ⟨w.heap.size, 0, none⟩ = some (.int .i64 s) := hC1.1
    have c1 : w1.cell? ⟨w.heap.size, 1, none⟩ = some (.int .i64 j) := hC1.2.1
    have c2 : w1.cell? ⟨w.heap.size, 2, none⟩ = some (.int .i64 m) := hC1.2.2.1
    have c3 : w1.cell? ⟨w.heap.size, 3, none⟩ = some (.int .i64 g) := hC1.2.2.2.1
    have c4 : w1.cell? ⟨w.heap.size, 4, none⟩ = some (.int .i64 o) := hC1.2.2.2.2.1
    have c5 : w1.cell? ⟨w.heap.size + 1, 0, none⟩ = some (.bool kn) := hC1.2.2.2.2.2.1
    have c6 : w1.cell? ⟨w.heap.size + 1, 1, none⟩ = some (.int .i64 l) := hC1.2.2.2.2.2.2.1
    have c7 : w1.cell? ⟨w.heap.size + 1, 2, none⟩ = some (.int .i64 h) := hC1.2.2.2.2.2.2.2.1
    have c8 : w1.cell? ⟨w.heap.size + 1, 3, none⟩ = some (.int .i64 si) := hC1.2.2.2.2.2.2.2.2.1
    have c9 : w1.cell? ⟨w.heap.size + 1, 4, none⟩ = some (.int .i64 la) := hC1.2.2.2.2.2.2.2.2.2.1
    have c10 : w1.cell? ⟨w.heap.size + 1, 5, none⟩ = some (.int .i64 od) := hC1.2.2.2.2.2.2.2.2.2.2.1
    have c11 : w1.cell? ⟨w.heap.size + 1 + 1, 0, none⟩ = some (.int .i64 op) := hC1.2.2.2.2.2.2.2.2.2.2.2.1
    have c12 : w1.cell? ⟨w.heap.size + 1 + 1, 1, none⟩ = some (.int .i64 n) := hC1.2.2.2.2.2.2.2.2.2.2.2.2.1
    have c13 : w1.cell? ⟨w.heap.size + 1 + 1 + 1, 0, none⟩ = some (.bool false) := hC1.2.2.2.2.2.2.2.2.2.2.2.2.2.1
    have c14 : w1.cell? ⟨w.heap.size + 1 + 1 + 1, 1, none⟩ = some (.int .i64 0) := hC1.2.2.2.2.2.2.2.2.2.2.2.2.2.2.1
    have c15 : w1.cell? ⟨w.heap.size + 1 + 1 + 1, 2, none⟩ = some (.int .i64 0) := hC1.2.2.2.2.2.2.2.2.2.2.2.2.2.2.2.1
    have c16 : w1.cell? ⟨w.heap.size + 1 + 1 + 1, 3, none⟩ = some (.int .i64 0) := hC1.2.2.2.2.2.2.2.2.2.2.2.2.2.2.2.2.1
    have c17 : w1.cell? ⟨w.heap.size + 1 + 1 + 1, 4, none⟩ = some (.int .i64 0) := hC1.2.2.2.2.2.2.2.2.2.2.2.2.2.2.2.2.2.1
    have c18 : w1.cell? ⟨w.heap.size + 1 + 1 + 1, 5, none⟩ = some (.int .i64 0) := hC1.2.2.2.2.2.2.2.2.2.2.2.2.2.2.2.2.2.2.1
    have c19 : w1.frozen? ⟨w.heap.size + 1, 0, none⟩ = false := hC1.2.2.2.2.2.2.2.2.2.2.2.2.2.2.2.2.2.2.2.1
    have c20 : w1.frozen? ⟨w.heap.size + 1, 1, none⟩ = false := hC1.2.2.2.2.2.2.2.2.2.2.2.2.2.2.2.2.2.2.2.2.1
    have c21 : w1.frozen? ⟨w.heap.size + 1, 2, none⟩ = false := hC1.2.2.2.2.2.2.2.2.2.2.2.2.2.2.2.2.2.2.2.2.2.1
    have c22 : w1.frozen? ⟨w.heap.size + 1, 3, none⟩ = false := hC1.2.2.2.2.2.2.2.2.2.2.2.2.2.2.2.2.2.2.2.2.2.2.1
    have c23 : w1.frozen? ⟨w.heap.size + 1, 4, none⟩ = false := hC1.2.2.2.2.2.2.2.2.2.2.2.2.2.2.2.2.2.2.2.2.2.2.2.1
    have c24 : w1.frozen? ⟨w.heap.size + 1, 5, none⟩ = false := hC1.2.2.2.2.2.2.2.2.2.2.2.2.2.2.2.2.2.2.2.2.2.2.2.2.1
    have c25 : w1.frozen? ⟨w.heap.size + 1 + 1 + 1, 0, none⟩ = false := hC1.2.2.2.2.2.2.2.2.2.2.2.2.2.2.2.2.2.2.2.2.2.2.2.2.2.1
    have c26 : w1.frozen? ⟨w.heap.size + 1 + 1 + 1, 1, none⟩ = false := hC1.2.2.2.2.2.2.2.2.2.2.2.2.2.2.2.2.2.2.2.2.2.2.2.2.2.2.1
    have c27 : w1.frozen? ⟨w.heap.size + 1 + 1 + 1, 2, none⟩ = false := hC1.2.2.2.2.2.2.2.2.2.2.2.2.2.2.2.2.2.2.2.2.2.2.2.2.2.2.2.1
    have c28 : w1.frozen? ⟨w.heap.size + 1 + 1 + 1, 3, none⟩ = false := hC1.2.2.2.2.2.2.2.2.2.2.2.2.2.2.2.2.2.2.2.2.2.2.2.2.2.2.2.2.1
    have c29 : w1.frozen? ⟨w.heap.size + 1 + 1 + 1, 4, none⟩ = false := hC1.2.2.2.2.2.2.2.2.2.2.2.2.2.2.2.2.2.2.2.2.2.2.2.2.2.2.2.2.2.1
    have c30 : w1.frozen? ⟨w.heap.size + 1 + 1 + 1, 5, none⟩ = false := hC1.2.2.2.2.2.2.2.2.2.2.2.2.2.2.2.2.2.2.2.2.2.2.2.2.2.2.2.2.2.2.1
    have c31 : Below w.heap.size w w1 := hC1.2.2.2.2.2.2.2.2.2.2.2.2.2.2.2.2.2.2.2.2.2.2.2.2.2.2.2.2.2.2.2
    go_wp2_with fail
    have hq1 : w.heap.size ≤ w.heap.size + 1 := by omega
    have hq3 : w.heap.size ≤ w.heap.size + 1 + 1 + 1 := by omega
    exact bodyPost_ret (v := .agg #[.bool false, .int .i64 0, .int .i64 0, .int .i64 0, .int .i64 0, .int .i64 0]) (by simp [results, Tryd.results31, go_sem, *]) rfl ⟨rfl, (nbSetX (nbSetX (nbSetX (nbSetX (nbSetX (nbSetX c31 hq3) hq3) hq3) hq3) hq3) hq3)⟩
  cases hst : stB (marksB f a len) len kn l h si la od
  · clear hbad
    go_enter Tryd.func31, Tryd.ntmps31
    go_wp2_with fail
    refine (specRulesOk_c _ _ _ _ _ _).mono ?_
    rintro e w1 ⟨rfl, hb1⟩
    have hC1 : doC w s j m g o kn l h si la od op n w1 := ⟨cellOn hb1 (by go_simp), cellOn hb1 (by go_simp), cellOn hb1 (by go_simp), cellOn hb1 (by go_simp), cellOn hb1 (by go_simp), cellOn hb1 (by go_simp), cellOn hb1 (by go_simp), cellOn hb1 (by go_simp), cellOn hb1 (by go_simp), cellOn hb1 (by go_simp), cellOn hb1 (by go_simp), cellOn hb1 (by go_simp), cellOn hb1 (by go_simp), cellOn hb1 (by go_simp), cellOn hb1 (by go_simp), cellOn hb1 (by go_simp), cellOn hb1 (by go_simp), cellOn hb1 (by go_simp), cellOn hb1 (by go_simp), frozenOn hb1 (v := .bool kn) (by go_simp) (by go_simp), frozenOn hb1 (v := .int .i64 l) (by go_simp) (by go_simp), frozenOn hb1 (v := .int .i64 h) (by go_simp) (by go_simp), frozenOn hb1 (v := .int .i64 si) (by go_simp) (by go_simp), frozenOn hb1 (v := .int .i64 la) (by go_simp) (by go_simp), frozenOn hb1 (v := .int .i64 od) (by go_simp) (by go_simp), frozenOn hb1 (v := .bool false) (by go_simp) (by go_simp), frozenOn hb1 (v := .int .i64 0) (by go_simp) (by go_simp), frozenOn hb1 (v := .int .i64 0) (by go_simp) (by go_simp), frozenOn hb1 (v := .int .i64 0) (by go_simp) (by go_simp), frozenOn hb1 (v := .int .i64 0) (by go_simp) (by go_simp), frozenOn hb1 (v := .int .i64 0) (by go_simp) (by go_simp), nbTrans (nbAlloc (nbAlloc (nbAlloc (nbAlloc (Below.refl _ _) _) _) _) _) hb1⟩
    have c0 : w1.cell? ⟨w.heap.size, 0, none⟩ = some (.int .i64 s) := hC1.1
    have c1 : w1.cell? ⟨w.heap.size, 1, none⟩ = some (.int .i64 j) := hC1.2.1
    have c2 : w1.cell? ⟨w.heap.size, 2, none⟩ = some (.int .i64 m) := hC1.2.2.1
    have c3 : w1.cell? ⟨w.heap.size, 3, none⟩ = some (.int .i64 g) := hC1.2.2.2.1
    have c4 : w1.cell? ⟨w.heap.size, 4, none⟩ = some (.int .i64 o) := hC1.2.2.2.2.1
    have c5 : w1.cell? ⟨w.heap.size + 1, 0, none⟩ = some (.bool kn) := hC1.2.2.2.2.2.1
    have c6 : w1.cell? ⟨w.heap.size + 1, 1, none⟩ = some (.int .i64 l) := hC1.2.2.2.2.2.2.1
    have c7 : w1.cell? ⟨w.heap.size + 1, 2, none⟩ = some (.int .i64 h) := hC1.2.2.2.2.2.2.2.1
    have c8 : w1.cell? ⟨w.heap.size + 1, 3, none⟩ = some (.int .i64 si) := hC1.2.2.2.2.2.2.2.2.1
    have c9 : w1.cell? ⟨w.heap.size + 1, 4, none⟩ = some (.int .i64 la) := hC1.2.2.2.2.2.2.2.2.2.1
    have c10 : w1.cell? ⟨w.heap.size + 1, 5, none⟩ = some (.int .i64 od) := hC1.2.2.2.2.2.2.2.2.2.2.1
    have c11 : w1.cell? ⟨w.heap.size + 1 + 1, 0, none⟩ = some (.int .i64 op) := hC1.2.2.2.2.2.2.2.2.2.2.2.1
    have c12 : w1.cell? ⟨w.heap.size + 1 + 1, 1, none⟩ = some (.int .i64 n) := hC1.2.2.2.2.2.2.2.2.2.2.2.2.1
    have c13 : w1.cell? ⟨w.heap.size + 1 + 1 + 1, 0, none⟩ = some (.bool false) := hC1.2.2.2.2.2.2.2.2.2.2.2.2.2.1
    have c14 : w1.cell? ⟨w.heap.size + 1 + 1 + 1, 1, none⟩ = some (.int .i64 0) := hC1.2.2.2.2.2.2.2.2.2.2.2.2.2.2.1
    have c15 : w1.cell? ⟨w.heap.size + 1 + 1 + 1, 2, none⟩ = some (.int .i64 0) := hC1.2.2.2.2.2.2.2.2.2.2.2.2.2.2.2.1
    have c16 : w1.cell? ⟨w.heap.size + 1 + 1 + 1, 3, none⟩ = some (.int .i64 0) := hC1.2.2.2.2.2.2.2.2.2.2.2.2.2.2.2.2.1
    have c17 : w1.cell? ⟨w.heap.size + 1 + 1 + 1, 4, none⟩ = some (.int .i64 0) := hC1.2.2.2.2.2.2.2.2.2.2.2.2.2.2.2.2.2.1
    have c18 : w1.cell? ⟨w.heap.size + 1 + 1 + 1, 5, none⟩ = some (.int .i64 0) := hC1.2.2.2.2.2.2.2.2.2.2.2.2.2.2.2.2.2.2.1
    have c19 : w1.frozen? ⟨w.heap.size + 1, 0, none⟩ = false := hC1.2.2.2.2.2.2.2.2.2.2.2.2.2.2.2.2.2.2.2.1
    have c20 : w1.frozen? ⟨w.heap.size + 1, 1, none⟩ = false := hC1.2.2.2.2.2.2.2.2.2.2.2.2.2.2.2.2.2.2.2.2.1
    have c21 : w1.frozen? ⟨w.heap.size + 1, 2, none⟩ = false := hC1.2.2.2.2.2.2.2.2.2.2.2.2.2.2.2.2.2.2.2.2.2.1
    have c22 : w1.frozen? ⟨w.heap.size + 1, 3, none⟩ = false := hC1.2.2.2.2.2.2.2.2.2.2.2.2.2.2.2.2.2.2.2.2.2.2.1
    have c23 : w1.frozen? ⟨w.heap.size + 1, 4, none⟩ = false := hC1.2.2.2.2.2.2.2.2.2.2.2.2.2.2.2.2.2.2.2.2.2.2.2.1
    have c24 : w1.frozen? ⟨w.heap.size + 1, 5, none⟩ = false := hC1.2.2.2.2.2.2.2.2.2.2.2.2.2.2.2.2.2.2.2.2.2.2.2.2.1
    have c25 : w1.frozen? ⟨w.heap.size + 1 + 1 + 1, 0, none⟩ = false := hC1.2.2.2.2.2.2.2.2.2.2.2.2.2.2.2.2.2.2.2.2.2.2.2.2.2.1
    have c26 : w1.frozen? ⟨w.heap.size + 1 + 1 + 1, 1, none⟩ = false := hC1.2.2.2.2.2.2.2.2.2.2.2.2.2.2.2.2.2.2.2.2.2.2.2.2.2.2.1
    have c27 : w1.frozen? ⟨w.heap.size + 1 + 1 + 1, 2, none⟩ = false := hC1.2.2.2.2.2.2.2.2.2.2.2.2.2.2.2.2.2.2.2.2.2.2.2.2.2.2.2.1
    have c28 : w1.frozen? ⟨w.heap.size + 1 + 1 + 1, 3, none⟩ = false := hC1.2.2.2.2.2.2.2.2.2.2.2.2.2.2.2.2.2.2.2.2.2.2.2.2.2.2.2.2.1
    have c29 : w1.frozen? ⟨w.heap.size + 1 + 1 + 1, 4, none⟩ = false := hC1.2.2.2.2.2.2.2.2.2.2.2.2.2.2.2.2.2.2.2.2.2.2.2.2.2.2.2.2.2.1
    have c30 : w1.frozen? ⟨w.heap.size + 1 + 1 + 1, 5, none⟩ = false := hC1.2.2.2.2.2.2.2.2.2.2.2.2.2.2.2.2.2.2.2.2.2.2.2.2.2.2.2.2.2.2.1
    have c31 : Below w.heap.size w w1 := hC1.2.2.2.2.2.2.2.2.2.2.2.2.2.2.2.2.2.2.2.2.2.2.2.2.2.2.2.2.2.2.2
    go_wp2_with fail
    clear c0 c1 c2 c3 c4 c5 c6 c7 c8 c9 c10 c11 c12 c13 c14 c15 c16 c17 c18 c19 c20 c21 c22 c23 c24 c25 c26 c27 c28 c29 c30 c31
    have hB1 : Below w.heap.size w w1 := hC1.2.2.2.2.2.2.2.2.2.2.2.2.2.2.2.2.2.2.2.2.2.2.2.2.2.2.2.2.2.2.2
    refine (specStateOk_c _ _ _ (marksB f a len) _ _ _ _ _ _ _ hl (by intro w' hw'; exact specMarksOk_c b off len cap f a w' hl ((hrow.on hB1).on hw'))).mono ?_
    rintro e w2 ⟨rfl, hb2⟩
    have hC2 := doC_on hC1 hb2
    have c0 : w2.cell? ⟨w.heap.size, 0, none⟩ = some (.int .i64 s) := hC2.1
    have c1 : w2.cell? ⟨w.heap.size, 1, none⟩ = some (.int .i64 j) := hC2.2.1
    have c2 : w2.cell? ⟨w.heap.size, 2, none⟩ = some (.int .i64 m) := hC2.2.2.1
    have c3 : w2.cell? ⟨w.heap.size, 3, none⟩ = some (.int .i64 g) := hC2.2.2.2.1
    have c4 : w2.cell? ⟨w.heap.size, 4, none⟩ = some (.int .i64 o) := hC2.2.2.2.2.1
    have c5 : w2.cell? ⟨w.heap.size + 1, 0, none⟩ = some (.bool kn) := hC2.2.2.2.2.2.1
    have c6 : w2.cell? ⟨w.heap.size + 1, 1, none⟩ = some (.int .i64 l) := hC2.2.2.2.2.2.2.1
    have c7 : w2.cell? ⟨w.heap.size + 1, 2, none⟩ = some (.int .i64 h) := hC2.2.2.2.2.2.2.2.1
    have c8 : w2.cell? ⟨w.heap.size + 1, 3, none⟩ = some (.int .i64 si) := hC2.2.2.2.2.2.2.2.2.1
    have c9 : w2.cell? ⟨w.heap.size + 1, 4, none⟩ = some (.int .i64 la) := hC2.2.2.2.2.2.2.2.2.2.1
    have c10 : w2.cell? ⟨w.heap.size + 1, 5, none⟩ = some (.int .i64 od) := hC2.2.2.2.2.2.2.2.2.2.2.1
    have c11 : w2.cell? ⟨w.heap.size + 1 + 1, 0, none⟩ = some (.int .i64 op) := hC2.2.2.2.2.2.2.2.2.2.2.2.1
    have c12 : w2.cell? ⟨w.heap.size + 1 + 1, 1, none⟩ = some (.int .i64 n) := hC2.2.2.2.2.2.2.2.2.2.2.2.2.1
    have c13 : w2.cell? ⟨w.heap.size + 1 + 1 + 1, 0, none⟩ = some (.bool false) := hC2.2.2.2.2.2.2.2.2.2.2.2.2.2.1
    have c14 : w2.cell? ⟨w.heap.size + 1 + 1 + 1, 1, none⟩ = some (.int .i64 0) := hC2.2.2.2.2.2.2.2.2.2.2.2.2.2.2.1
    have c15 : w2.cell? ⟨w.heap.size + 1 + 1 + 1, 2, none⟩ = some (.int .i64 0) := hC2.2.2.2.2.2.2.2.2.2.2.2.2.2.2.2.1
    have c16 : w2.cell? ⟨w.heap.size + 1 + 1 + 1, 3, none⟩ = some (.int .i64 0) := hC2.2.2.2.2.2.2.2.2.2.2.2.2.2.2.2.2.1
    have c17 : w2.cell? ⟨w.heap.size + 1 + 1 + 1, 4, none⟩ = some (.int .i64 0) := hC2.2.2.2.2.2.2.2.2.2.2.2.2.2.2.2.2.2.1
    have c18 : w2.cell? ⟨w.heap.size + 1 + 1 + 1, 5, none⟩ = some (.int .i64 0) := hC2.2.2.2.2.2.2.2.2.2.2.2.2.2.2.2.2.2.2.1
    have c19 : w2.frozen? ⟨w.heap.size + 1, 0, none⟩ = false := hC2.2.2.2.2.2.2.2.2.2.2.2.2.2.2.2.2.2.2.2.1
    have c20 : w2.frozen? ⟨w.heap.size + 1, 1, none⟩ = false := hC2.2.2.2.2.2.2.2.2.2.2.2.2.2.2.2.2.2.2.2.2.1
    have c21 : w2.frozen? ⟨w.heap.size + 1, 2, none⟩ = false := hC2.2.2.2.2.2.2.2.2.2.2.2.2.2.2.2.2.2.2.2.2.2.1
    have c22 : w2.frozen? ⟨w.heap.size + 1, 3, none⟩ = false := hC2.2.2.2.2.2.2.2.2.2.2.2.2.2.2.2.2.2.2.2.2.2.2.1
    have c23 : w2.frozen? ⟨w.heap.size + 1, 4, none⟩ = false := hC2.2.2.2.2.2.2.2.2.2.2.2.2.2.2.2.2.2.2.2.2.2.2.2.1
    have c24 : w2.frozen? ⟨w.heap.size + 1, 5, none⟩ = false := hC2.2.2.2.2.2.2.2.2.2.2.2.2.2.2.2.2.2.2.2.2.2.2.2.2.1
    have c25 : w2.frozen? ⟨w.heap.size + 1 + 1 + 1, 0, none⟩ = false := hC2.2.2.2.2.2.2.2.2.2.2.2.2.2.2.2.2.2.2.2.2.2.2.2.2.2.1
    have c26 : w2.frozen? ⟨w.heap.size + 1 + 1 + 1, 1, none⟩ = false := hC2.2.2.2.2.2.2.2.2.2.2.2.2.2.2.2.2.2.2.2.2.2.2.2.2.2.2.1
    have c27 : w2.frozen? ⟨w.heap.size + 1 + 1 + 1, 2, none⟩ = false := hC2.2.2.2.2.2.2.2.2.2.2.2.2.2.2.2.2.2.2.2.2.2.2.2.2.2.2.2.1
    have c28 : w2.frozen? ⟨w.heap.size + 1 + 1 + 1, 3, none⟩ = false := hC2.2.2.2.2.2.2.2.2.2.2.2.2.2.2.2.2.2.2.2.2.2.2.2.2.2.2.2.2.1
    have c29 : w2.frozen? ⟨w.heap.size + 1 + 1 + 1, 4, none⟩ = false := hC2.2.2.2.2.2.2.2.2.2.2.2.2.2.2.2.2.2.2.2.2.2.2.2.2.2.2.2.2.2.1
    have c30 : w2.frozen? ⟨w.heap.size + 1 + 1 + 1, 5, none⟩ = false := hC2.2.2.2.2.2.2.2.2.2.2.2.2.2.2.2.2.2.2.2.2.2.2.2.2.2.2.2.2.2.2.1
    have c31 : Below w.heap.size w w2 := hC2.2.2.2.2.2.2.2.2.2.2.2.2.2.2.2.2.2.2.2.2.2.2.2.2.2.2.2.2.2.2.2
    go_wp2_with fail
    have hq1 : w.heap.size ≤ w.heap.size + 1 := by omega
    have hq3 : w.heap.size ≤ w.heap.size + 1 + 1 + 1 := by omega
    exact bodyPost_ret (v := .agg #[.bool false, .int .i64 0, .int .i64 0, .int .i64 0, .int .i64 0, .int .i64 0]) (by simp [results, Tryd.results31, go_sem, *]) rfl ⟨rfl, (nbSetX (nbSetX (nbSetX (nbSetX (nbSetX (nbSetX c31 hq3) hq3) hq3) hq3) hq3) hq3)⟩
  have hev : evB op n = false := by simpa [hr, hst] using hbad
  clear hbad
  go_enter Tryd.func31, Tryd.ntmps31
  go_wp2_with fail
  refine (specRulesOk_c _ _ _ _ _ _).mono ?_
  rintro e w1 ⟨rfl, hb1⟩
  have hC1 : doC w s j m g o kn l h si la od op n w1 := ⟨cellOn hb1 (by go_simp), cellOn hb1 (by go_simp), cellOn hb1 (by go_simp), cellOn hb1 (by go_simp), cellOn hb1 (by go_simp), cellOn hb1 (by go_simp), cellOn hb1 (by go_simp), cellOn hb1 (by go_simp), cellOn hb1 (by go_simp), cellOn hb1 (by go_simp), cellOn hb1 (by go_simp), cellOn hb1 (by go_simp), cellOn hb1 (by go_simp), cellOn hb1 (by go_simp), cellOn hb1 (by go_simp), cellOn hb1 (by go_simp), cellOn hb1 (by go_simp), cellOn hb1 (by go_simp), cellOn hb1 (by go_simp), frozenOn hb1 (v := .bool kn) (by go_simp) (by go_simp), frozenOn hb1 (v := .int .i64 l) (by go_simp) (by go_simp), frozenOn hb1 (v := .int .i64 h) (by go_simp) (by go_simp), frozenOn hb1 (v := .int .i64 si) (by go_simp) (by go_simp), frozenOn hb1 (v := .int .i64 la) (by go_simp) (by go_simp), frozenOn hb1 (v := .int .i64 od) (by go_simp) (by go_simp), frozenOn hb1 (v := .bool false) (by go_simp) (by go_simp), frozenOn hb1 (v := .int .i64 0) (by go_simp) (by go_simp), frozenOn hb1 (v := .int .i64 0) (by go_simp) (by go_simp), frozenOn hb1 (v := .int .i64 0) (by go_simp) (by go_simp), frozenOn hb1 (v := .int .i64 0) (by go_simp) (by go_simp), frozenOn hb1 (v := .int .i64 0) (by go_simp) (by go_simp), nbTrans (nbAlloc (nbAlloc (nbAlloc (nbAlloc (Below.refl _ _) _) _) _) _) hb1⟩
  have c0 : w1.cell? ⟨w.heap.size, 0, none⟩ = some (.int .i64 s) := hC1.1
  have c1 : w1.cell? ⟨w.heap.size, 1, none⟩ = some (.int .i64 j) := hC1.2.1
  have c2 : w1.cell? ⟨w.heap.size, 2, none⟩ = some (.int .i64 m) := hC1.2.2.1
  have c3 : w1.cell? ⟨w.heap.size, 3, none⟩ = some (.int .i64 g) := hC1.2.2.2.1
  have c4 : w1.cell? ⟨w.heap.size, 4, none⟩ = some (.int .i64 o) := hC1.2.2.2.2.1
  have c5 : w1.cell? ⟨w.heap.size + 1, 0, none⟩ = some (.bool kn) := hC1.2.2.2.2.2.1
  have c6 : w1.cell? ⟨w.heap.size + 1, 1, none⟩ = some (.int .i64 l) := hC1.2.2.2.2.2.2.1
  have c7 : w1.cell? ⟨w.heap.size + 1, 2, none⟩ = some (.int .i64 h) := hC1.2.2.2.2.2.2.2.1
  have c8 : w1.cell? ⟨w.heap.size + 1, 3, none⟩ = some (.int .i64 si) := hC1.2.2.2.2.2.2.2.2.1
  have c9 : w1.cell? ⟨w.heap.size + 1, 4, none⟩ = some (.int .i64 la) := hC1.2.2.2.2.2.2.2.2.2.1
  have c10 : w1.cell? ⟨w.heap.size + 1, 5, none⟩ = some (.int .i64 od) := hC1.2.2.2.2.2.2.2.2.2.2.1
  have c11 : w1.cell? ⟨w.heap.size + 1 + 1, 0, none⟩ = some (.int .i64 op) := hC1.2.2.2.2.2.2.2.2.2.2.2.1
  have c12 : w1.cell? ⟨w.heap.size + 1 + 1, 1, none⟩ = some (.int .i64 n) := hC1.2.2.2.2.2.2.2.2.2.2.2.2.1
  have c13 : w1.cell? ⟨w.heap.size + 1 + 1 + 1, 0, none⟩ = some (.bool false) := hC1.2.2.2.2.2.2.2.2.2.2.2.2.2.1
  have c14 : w1.cell? ⟨w.heap.size + 1 + 1 + 1, 1, none⟩ = some (.int .i64 0) := hC1.2.2.2.2.2.2.2.2.2.2.2.2.2.2.1
  have c15 : w1.cell? ⟨w.heap.size + 1 + 1 + 1, 2, none⟩ = some (.int .i64 0) := hC1.2.2.2.2.2.2.2.2.2.2.2.2.2.2.2.1
  have c16 : w1.cell? ⟨w.heap.size + 1 + 1 + 1, 3, none⟩ = some (.int .i64 0) := hC1.2.2.2.2.2.2.2.2.2.2.2.2.2.2.2.2.1
  have c17 : w1.cell? ⟨w.heap.size + 1 + 1 + 1, 4, none⟩ = some (.int .i64 0) := hC1.2.2.2.2.2.2.2.2.2.2.2.2.2.2.2.2.2.1
  have c18 : w1.cell? ⟨w.heap.size + 1 + 1 + 1, 5, none⟩ = some (.int .i64 0) := hC1.2.2.2.2.2.2.2.2.2.2.2.2.2.2.2.2.2.2.1
  have c19 : w1.frozen? ⟨w.heap.size + 1, 0, none⟩ = false := hC1.2.2.2.2.2.2.2.2.2.2.2.2.2.2.2.2.2.2.2.1
  have c20 : w1.frozen? ⟨w.heap.size + 1, 1, none⟩ = false := hC1.2.2.2.2.2.2.2.2.2.2.2.2.2.2.2.2.2.2.2.2.1
  have c21 : w1.frozen? ⟨w.heap.size + 1, 2, none⟩ = false := hC1.2.2.2.2.2.2.2.2.2.2.2.2.2.2.2.2.2.2.2.2.2.1
  have c22 : w1.frozen? ⟨w.heap.size + 1, 3, none⟩ = false := hC1.2.2.2.2.2.2.2.2.2.2.2.2.2.2.2.2.2.2.2.2.2.2.1
  have c23 : w1.frozen? ⟨w.heap.size + 1, 4, none⟩ = false := hC1.2.2.2.2.2.2.2.2.2.2.2.2.2.2.2.2.2.2.2.2.2.2.2.1
  have c24 : w1.frozen? ⟨w.heap.size + 1, 5, none⟩ = false := hC1.2.2.2.2.2.2.2.2.2.2.2.2.2.2.2.2.2.2.2.2.2.2.2.2.1
  have c25 : w1.frozen? ⟨w.heap.size + 1 + 1 + 1, 0, none⟩ = false := hC1.2.2.2.2.2.2.2.2.2.2.2.2.2.2.2.2.2.2.2.2.2.2.2.2.2.1
  have c26 : w1.frozen? ⟨w.heap.size + 1 + 1 + 1, 1, none⟩ = false := hC1.2.2.2.2.2.2.2.2.2.2.2.2.2.2.2.2.2.2.2.2.2.2.2.2.2.2.1
  have c27 : w1.frozen? ⟨w.heap.size + 1 + 1 + 1, 2, none⟩ = false := hC1.2.2.2.2.2.2.2.2.2.2.2.2.2.2.2.2.2.2.2.2.2.2.2.2.2.2.2.1
  have c28 : w1.frozen? ⟨w.heap.size + 1 + 1 + 1, 3, none⟩ = false := hC1.2.2.2.2.2.2.2.2.2.2.2.2.2.2.2.2.2.2.2.2.2.2.2.2.2.2.2.2.1
  have c29 : w1.frozen? ⟨w.heap.size + 1 + 1 + 1, 4, none⟩ = false := hC1.2.2.2.2.2.2.2.2.2.2.2.2.2.2.2.2.2.2.2.2.2.2.2.2.2.2.2.2.2.1
  have c30 : w1.frozen? ⟨w.heap.size + 1 + 1 + 1, 5, none⟩ = false := hC1.2.2.2.2.2.2.2.2.2.2.2.2.2.2.2.2.2.2.2.2.2.2.2.2.2.2.2.2.2.2.1
  have c31 : Below w.heap.size w w1 := hC1.2.2.2.2.2.2.2.2.2.2.2.2.2.2.2.2.2.2.2.2.2.2.2.2.2.2.2.2.2.2.2
  go_wp2_with fail
  clear c0 c1 c2 c3 c4 c5 c6 c7 c8 c9 c10 c11 c12 c13 c14 c15 c16 c17 c18 c19 c20 c21 c22 c23 c24 c25 c26 c27 c28 c29 c30 c31
  have hB1 : Below w.heap.size w w1 := hC1.2.2.2.2.2.2.2.2.2.2.2.2.2.2.2.2.2.2.2.2.2.2.2.2.2.2.2.2.2.2.2
  refine (specStateOk_c _ _ _ (marksB f a len) _ _ _ _ _ _ _ hl (by intro w' hw'; exact specMarksOk_c b off len cap f a w' hl ((hrow.on hB1).on hw'))).mono ?_
  rintro e w2 ⟨rfl, hb2⟩
  have hC2 := doC_on hC1 hb2
  have c0 : w2.cell? ⟨w.heap.size, 0, none⟩ = some (.int .i64 s) := hC2.1
  have c1 : w2.cell? ⟨w.heap.size, 1, none⟩ = some (.int .i64 j) := hC2.2.1
  have c2 : w2.cell? ⟨w.heap.size, 2, none⟩ = some (.int .i64 m) := hC2.2.2.1
  have c3 : w2.cell? ⟨w.heap.size, 3, none⟩ = some (.int .i64 g) := hC2.2.2.2.1
  have c4 : w2.cell? ⟨w.heap.size, 4, none⟩ = some (.int .i64 o) := hC2.2.2.2.2.1
  have c5 : w2.cell? ⟨w.heap.size + 1, 0, none⟩ = some (.bool kn) := hC2.2.2.2.2.2.1
  have c6 : w2.cell? ⟨w.heap.size + 1, 1, none⟩ = some (.int .i64 l) := hC2.2.2.2.2.2.2.1
  have c7 : w2.cell? ⟨w.heap.size + 1, 2, none⟩ = some (.int .i64 h) := hC2.2.2.2.2.2.2.2.1
  have c8 : w2.cell? ⟨w.heap.size + 1, 3, none⟩ = some (.int .i64 si) := hC2.2.2.2.2.2.2.2.2.1
  have c9 : w2.cell? ⟨w.heap.size + 1, 4, none⟩ = some (.int .i64 la) := hC2.2.2.2.2.2.2.2.2.2.1
  have c10 : w2.cell? ⟨w.heap.size + 1, 5, none⟩ = some (.int .i64 od) := hC2.2.2.2.2.2.2.2.2.2.2.1
  have c11 : w2.cell? ⟨w.heap.size + 1 + 1, 0, none⟩ = some (.int .i64 op) := hC2.2.2.2.2.2.2.2.2.2.2.2.1
  have c12 : w2.cell? ⟨w.heap.size + 1 + 1, 1, none⟩ = some (.int .i64 n) := hC2.2.2.2.2.2.2.2.2.2.2.2.2.1
  have c13 : w2.cell? ⟨w.heap.size + 1 + 1 + 1, 0, none⟩ = some (.bool false) := hC2.2.2.2.2.2.2.2.2.2.2.2.2.2.1
  have c14 : w2.cell? ⟨w.heap.size + 1 + 1 + 1, 1, none⟩ = some (.int .i64 0) := hC2.2.2.2.2.2.2.2.2.2.2.2.2.2.2.1
  have c15 : w2.cell? ⟨w.heap.size + 1 + 1 + 1, 2, none⟩ = some (.int .i64 0) := hC2.2.2.2.2.2.2.2.2.2.2.2.2.2.2.2.1
  have c16 : w2.cell? ⟨w.heap.size + 1 + 1 + 1, 3, none⟩ = some (.int .i64 0) := hC2.2.2.2.2.2.2.2.2.2.2.2.2.2.2.2.2.1
  have c17 : w2.cell? ⟨w.heap.size + 1 + 1 + 1, 4, none⟩ = some (.int .i64 0) := hC2.2.2.2.2.2.2.2.2.2.2.2.2.2.2.2.2.2.1
  have c18 : w2.cell? ⟨w.heap.size + 1 + 1 + 1, 5, none⟩ = some (.int .i64 0) := hC2.2.2.2.2.2.2.2.2.2.2.2.2.2.2.2.2.2.2.1
  have c19 : w2.frozen? ⟨w.heap.size + 1, 0, none⟩ = false := hC2.2.2.2.2.2.2.2.2.2.2.2.2.2.2.2.2.2.2.2.1
  have c20 : w2.frozen? ⟨w.heap.size + 1, 1, none⟩ = false := hC2.2.2.2.2.2.2.2.2.2.2.2.2.2.2.2.2.2.2.2.2.1
  have c21 : w2.frozen? ⟨w.heap.size + 1, 2, none⟩ = false := hC2.2.2.2.2.2.2.2.2.2.2.2.2.2.2.2.2.2.2.2.2.2.1
  have c22 : w2.frozen? ⟨w.heap.size + 1, 3, none⟩ = false := hC2.2.2.2.2.2.2.2.2.2.2.2.2.2.2.2.2.2.2.2.2.2.2.1
  have c23 : w2.frozen? ⟨w.heap.size + 1, 4, none⟩ = false := hC2.2.2.2.2.2.2.2.2.2.2.2.2.2.2.2.2.2.2.2.2.2.2.2.1
  have c24 : w2.frozen? ⟨w.heap.size + 1, 5, none⟩ = false := hC2.2.2.2.2.2.2.2.2.2.2.2.2.2.2.2.2.2.2.2.2.2.2.2.2.1
  have c25 : w2.frozen? ⟨w.heap.size + 1 + 1 + 1, 0, none⟩ = false := hC2.2.2.2.2.2.2.2.2.2.2.2.2.2.2.2.2.2.2.2.2.2.2.2.2.2.1
  have c26 : w2.frozen? ⟨w.heap.size + 1 + 1 + 1, 1, none⟩ = false := hC2.2.2.2.2.2.2.2.2.2.2.2.2.2.2.2.2.2.2.2.2.2.2.2.2.2.2.1
  have c27 : w2.frozen? ⟨w.heap.size + 1 + 1 + 1, 2, none⟩ = false := hC2.2.2.2.2.2.2.2.2.2.2.2.2.2.2.2.2.2.2.2.2.2.2.2.2.2.2.2.1
  have c28 : w2.frozen? ⟨w.heap.size + 1 + 1 + 1, 3, none⟩ = false := hC2.2.2.2.2.2.2.2.2.2.2.2.2.2.2.2.2.2.2.2.2.2.2.2.2.2.2.2.2.1
  have c29 : w2.frozen? ⟨w.heap.size + 1 + 1 + 1, 4, none⟩ = false := hC2.2.2.2.2.2.2.2.2.2.2.2.2.2.2.2.2.2.2.2.2.2.2.2.2.2.2.2.2.2.1
  have c30 : w2.frozen? ⟨w.heap.size + 1 + 1 + 1, 5, none⟩ = false := hC2.2.2.2.2.2.2.2.2.2.2.2.2.2.2.2.2.2.2.2.2.2.2.2.2.2.2.2.2.2.2.1
  have c31 : Below w.heap.size w w2 := hC2.2.2.2.2.2.2.2.2.2.2.2.2.2.2.2.2.2.2.2.2.2.2.2.2.2.2.2.2.2.2.2
  go_wp2_with fail
  clear c0 c1 c2 c3 c4 c5 c6 c7 c8 c9 c10 c11 c12 c13 c14 c15 c16 c17 c18 c19 c20 c21 c22 c23 c24 c25 c26 c27 c28 c29 c30 c31
  refine (specEventOk_c _ _ _).mono ?_
  rintro e w3 ⟨rfl, hb3⟩
  have hC3 := doC_on hC2 hb3
  have c0 : w3.cell? ⟨w.heap.size, 0, none⟩ = some (.int .i64 s) := hC3.1
  have c1 : w3.cell? ⟨w.heap.size, 1, none⟩ = some (.int .i64 j) := hC3.2.1
  have c2 : w3.cell? ⟨w.heap.size, 2, none⟩ = some (.int .i64 m) := hC3.2.2.1
  have c3 : w3.cell? ⟨w.heap.size, 3, none⟩ = some (.int .i64 g) := hC3.2.2.2.1
  have c4 : w3.cell? ⟨w.heap.size, 4, none⟩ = some (.int .i64 o) := hC3.2.2.2.2.1
  have c5 : w3.cell? ⟨w.heap.size + 1, 0, none⟩ = some (.bool kn) := hC3.2.2.2.2.2.1
  have c6 : w3.cell? ⟨w.heap.size + 1, 1, none⟩ = some (.int .i64 l) := hC3.2.2.2.2.2.2.1
  have c7 : w3.cell? ⟨w.heap.size + 1, 2, none⟩ = some (.int .i64 h) := hC3.2.2.2.2.2.2.2.1
  have c8 : w3.cell? ⟨w.heap.size + 1, 3, none⟩ = some (.int .i64 si) := hC3.2.2.2.2.2.2.2.2.1
  have c9 : w3.cell? ⟨w.heap.size + 1, 4, none⟩ = some (.int .i64 la) := hC3.2.2.2.2.2.2.2.2.2.1
  have c10 : w3.cell? ⟨w.heap.size + 1, 5, none⟩ = some (.int .i64 od) := hC3.2.2.2.2.2.2.2.2.2.2.1
  have c11 : w3.cell? ⟨w.heap.size + 1 + 1, 0, none⟩ = some (.int .i64 op) := hC3.2.2.2.2.2.2.2.2.2.2.2.1
  have c12 : w3.cell? ⟨w.heap.size + 1 + 1, 1, none⟩ = some (.int .i64 n) := hC3.2.2.2.2.2.2.2.2.2.2.2.2.1
  have c13 : w3.cell? ⟨w.heap.size + 1 + 1 + 1, 0, none⟩ = some (.bool false) := hC3.2.2.2.2.2.2.2.2.2.2.2.2.2.1
  have c14 : w3.cell? ⟨w.heap.size + 1 + 1 + 1, 1, none⟩ = some (.int .i64 0) := hC3.2.2.2.2.2.2.2.2.2.2.2.2.2.2.1
  have c15 : w3.cell? ⟨w.heap.size + 1 + 1 + 1, 2, none⟩ = some (.int .i64 0) := hC3.2.2.2.2.2.2.2.2.2.2.2.2.2.2.2.1
  have c16 : w3.cell? ⟨w.heap.size + 1 + 1 + 1, 3, none⟩ = some (.int .i64 0) := hC3.2.2.2.2.2.2.2.2.2.2.2.2.2.2.2.2.1
  have c17 : w3.cell? ⟨w.heap.size + 1 + 1 + 1, 4, none⟩ = some (.int .i64 0) := hC3.2.2.2.2.2.2.2.2.2.2.2.2.2.2.2.2.2.1
  have c18 : w3.cell? ⟨w.heap.size + 1 + 1 + 1, 5, none⟩ = some (.int .i64 0) := hC3.2.2.2.2.2.2.2.2.2.2.2.2.2.2.2.2.2.2.1
  have c19 : w3.frozen? ⟨w.heap.size + 1, 0, none⟩ = false := hC3.2.2.2.2.2.2.2.2.2.2.2.2.2.2.2.2.2.2.2.1
  have c20 : w3.frozen? ⟨w.heap.size + 1, 1, none⟩ = false := hC3.2.2.2.2.2.2.2.2.2.2.2.2.2.2.2.2.2.2.2.2.1
  have c21 : w3.frozen? ⟨w.heap.size + 1, 2, none⟩ = false := hC3.2.2.2.2.2.2.2.2.2.2.2.2.2.2.2.2.2.2.2.2.2.1
  have c22 : w3.frozen? ⟨w.heap.size + 1, 3, none⟩ = false := hC3.2.2.2.2.2.2.2.2.2.2.2.2.2.2.2.2.2.2.2.2.2.2.1
  have c23 : w3.frozen? ⟨w.heap.size + 1, 4, none⟩ = false := hC3.2.2.2.2.2.2.2.2.2.2.2.2.2.2.2.2.2.2.2.2.2.2.2.1
  have c24 : w3.frozen? ⟨w.heap.size + 1, 5, none⟩ = false := hC3.2.2.2.2.2.2.2.2.2.2.2.2.2.2.2.2.2.2.2.2.2.2.2.2.1
  have c25 : w3.frozen? ⟨w.heap.size + 1 + 1 + 1, 0, none⟩ = false := hC3.2.2.2.2.2.2.2.2.2.2.2.2.2.2.2.2.2.2.2.2.2.2.2.2.2.1
  have c26 : w3.frozen? ⟨w.heap.size + 1 + 1 + 1, 1, none⟩ = false := hC3.2.2.2.2.2.2.2.2.2.2.2.2.2.2.2.2.2.2.2.2.2.2.2.2.2.2.1
  have c27 : w3.frozen? ⟨w.heap.size + 1 + 1 + 1, 2, none⟩ = false := hC3.2.2.2.2.2.2.2.2.2.2.2.2.2.2.2.2.2.2.2.2.2.2.2.2.2.2.2.1
  have c28 : w3.frozen? ⟨w.heap.size + 1 + 1 + 1, 3, none⟩ = false := hC3.2.2.2.2.2.2.2.2.2.2.2.2.2.2.2.2.2.2.2.2.2.2.2.2.2.2.2.2.1
  have c29 : w3.frozen? ⟨w.heap.size + 1 + 1 + 1, 4, none⟩ = false := hC3.2.2.2.2.2.2.2.2.2.2.2.2.2.2.2.2.2.2.2.2.2.2.2.2.2.2.2.2.2.1
  have c30 : w3.frozen? ⟨w.heap.size + 1 + 1 + 1, 5, none⟩ = false := hC3.2.2.2.2.2.2.2.2.2.2.2.2.2.2.2.2.2.2.2.2.2.2.2.2.2.2.2.2.2.2.1
  have c31 : Below w.heap.size w w3 := hC3.2.2.2.2.2.2.2.2.2.2.2.2.2.2.2.2.2.2.2.2.2.2.2.2.2.2.2.2.2.2.2
  go_wp2_with fail
  have hq1 : w.heap.size ≤ w.heap.size + 1 := by omega
  have hq3 : w.heap.size ≤ w.heap.size + 1 + 1 + 1 := by omega
  exact bodyPost_ret (v := .agg #[.bool false, .int .i64 0, .int .i64 0, .int .i64 0, .int .i64 0, .int .i64 0]) (by simp [results, Tryd.results31, go_sem, *]) rfl ⟨rfl, (nbSetX (nbSetX (nbSetX (nbSetX (nbSetX (nbSetX c31 hq3) hq3) hq3) hq3) hq3) hq3)⟩

set_option maxHeartbeats 4000000 in
theorem specDo_wheel0 (b off len cap : Nat) (f a : Nat → Int) (s j m g o : Int) (l h si la od op n : Int) (w : World) (hl : len ≤ 1048576) (hrow : Row2 w b off len f a) (hr : rOk s j m g o = true) (hst : stB (marksB f a len) len false l h si la od = true) (hev : evB op n = true) (hop : (op == 1) = true) :
    Calls Tryd.prog 31 #[.agg #[.int .i64 s, .int .i64 j, .int .i64 m, .int .i64 g, .int .i64 o], .slice (some ⟨b, off, none⟩) len cap, .agg #[.bool false, .int .i64 l, .int .i64 h, .int .i64 si, .int .i64 la, .int .i64 od], .agg #[.int .i64 op, .int .i64 n]] w fun e w' => e = .returned (.agg #[.bool false, .int .i64 l, .int .i64 h, .int .i64 (min (si + n) 1000000000), .int .i64 la, .int .i64 od]) ∧ Below w.heap.size w w' := by
  have hst' := hst
  simp only [stB, inB, Bool.and_eq_true, decide_eq_true_eq] at hst'
  obtain ⟨⟨⟨⟨hmk, hla0, hla1⟩, hsi0, hsi1⟩, hod0, hod1⟩, hbd⟩ := hst'
  have HMK : Hid (marksB f a len = true) := hmk
  have HBD : Hid ((if false then bOk l h else l == 0 && h == 0 && la == -1) = true) := hbd
  clear hmk hbd
  have hn : inB n 0 100000 = true := by simpa [evB, hop] using hev
  have hn' := hn
  simp only [inB, Bool.and_eq_true, decide_eq_true_eq] at hn'
  obtain ⟨hn0, hn1⟩ := hn'
  have wr : IntKind.i64.wrap (si + n) = si + n := by rw [IntKind.wrap_i64]; omega
  go_enter Tryd.func31, Tryd.ntmps31
  go_wp2_with fail
  refine (specRulesOk_c _ _ _ _ _ _).mono ?_
  rintro e w1 ⟨rfl, hb1⟩
  have hC1 : doC w s j m g o false l h si la od op n w1 := ⟨cellOn hb1 (by go_simp), cellOn hb1 (by go_simp), cellOn hb1 (by go_simp), cellOn hb1 (by go_simp), cellOn hb1 (by go_simp), cellOn hb1 (by go_simp), cellOn hb1 (by go_simp), cellOn hb1 (by go_simp), cellOn hb1 (by go_simp), cellOn hb1 (by go_simp), cellOn hb1 (by go_simp), cellOn hb1 (by go_simp), cellOn hb1 (by go_simp), cellOn hb1 (by go_simp), cellOn hb1 (by go_simp), cellOn hb1 (by go_simp), cellOn hb1 (by go_simp), cellOn hb1 (by go_simp), cellOn hb1 (by go_simp), frozenOn hb1 (v := .bool false) (by go_simp) (by go_simp), frozenOn hb1 (v := .int .i64 l) (by go_simp) (by go_simp), frozenOn hb1 (v := .int .i64 h) (by go_simp) (by go_simp), frozenOn hb1 (v := .int .i64 si) (by go_simp) (by go_simp), frozenOn hb1 (v := .int .i64 la) (by go_simp) (by go_simp), frozenOn hb1 (v := .int .i64 od) (by go_simp) (by go_simp), frozenOn hb1 (v := .bool false) (by go_simp) (by go_simp), frozenOn hb1 (v := .int .i64 0) (by go_simp) (by go_simp), frozenOn hb1 (v := .int .i64 0) (by go_simp) (by go_simp), frozenOn hb1 (v := .int .i64 0) (by go_simp) (by go_simp), frozenOn hb1 (v := .int .i64 0) (by go_simp) (by go_simp), frozenOn hb1 (v := .int .i64 0) (by go_simp) (by go_simp), nbTrans (nbAlloc (nbAlloc (nbAlloc (nbAlloc (Below.refl _ _) _) _) _) _) hb1⟩
  have c0 : w1.cell? ⟨w.heap.size, 0, none⟩ = some (.int .i64 s) := hC1.1
  have c1 : w1.cell? ⟨w.heap.size, 1, none⟩ = some (.int .i64 j) := hC1.2.1
  have c2 : w1.cell? ⟨w.heap.size, 2, none⟩ = some (.int .i64 m) := hC1.2.2.1
  have c3 : w1.cell? ⟨w.heap.size, 3, none⟩ = some (.int .i64 g) := hC1.2.2.2.1
  have c4 : w1.cell? ⟨w.heap.size, 4, none⟩ = some (.int .i64 o) := hC1.2.2.2.2.1
  have c5 : w1.cell? ⟨w.heap.size + 1, 0, none⟩ = some (.bool false) := hC1.2.2.2.2.2.1
  have c6 : w1.cell? ⟨w.heap.size + 1, 1, none⟩ = some (.int .i64 l) := hC1.2.2.2.2.2.2.1
  have c7 : w1.cell? ⟨w.heap.size + 1, 2, none⟩ = some (.int .i64 h) := hC1.2.2.2.2.2.2.2.1
  have c8 : w1.cell? ⟨w.heap.size + 1, 3, none⟩ = some (.int .i64 si) := hC1.2.2.2.2.2.2.2.2.1
  have c9 : w1.cell? ⟨w.heap.size + 1, 4, none⟩ = some (.int .i64 la) := hC1.2.2.2.2.2.2.2.2.2.1
  have c10 : w1.cell? ⟨w.heap.size + 1, 5, none⟩ = some (.int .i64 od) := hC1.2.2.2.2.2.2.2.2.2.2.1
  have c11 : w1.cell? ⟨w.heap.size + 1 + 1, 0, none⟩ = some (.int .i64 op) := hC1.2.2.2.2.2.2.2.2.2.2.2.1
  have c12 : w1.cell? ⟨w.heap.size + 1 + 1, 1, none⟩ = some (.int .i64 n) := hC1.2.2.2.2.2.2.2.2.2.2.2.2.1
  have c13 : w1.cell? ⟨w.heap.size + 1 + 1 + 1, 0, none⟩ = some (.bool false) := hC1.2.2.2.2.2.2.2.2.2.2.2.2.2.1
  have c14 : w1.cell? ⟨w.heap.size + 1 + 1 + 1, 1, none⟩ = some (.int .i64 0) := hC1.2.2.2.2.2.2.2.2.2.2.2.2.2.2.1
  have c15 : w1.cell? ⟨w.heap.size + 1 + 1 + 1, 2, none⟩ = some (.int .i64 0) := hC1.2.2.2.2.2.2.2.2.2.2.2.2.2.2.2.1
  have c16 : w1.cell? ⟨w.heap.size + 1 + 1 + 1, 3, none⟩ = some (.int .i64 0) := hC1.2.2.2.2.2.2.2.2.2.2.2.2.2.2.2.2.1
  have c17 : w1.cell? ⟨w.heap.size + 1 + 1 + 1, 4, none⟩ = some (.int .i64 0) := hC1.2.2.2.2.2.2.2.2.2.2.2.2.2.2.2.2.2.1
  have c18 : w1.cell? ⟨w.heap.size + 1 + 1 + 1, 5, none⟩ = some (.int .i64 0) := hC1.2.2.2.2.2.2.2.2.2.2.2.2.2.2.2.2.2.2.1
  have c19 : w1.frozen? ⟨w.heap.size + 1, 0, none⟩ = false := hC1.2.2.2.2.2.2.2.2.2.2.2.2.2.2.2.2.2.2.2.1
  have c20 : w1.frozen? ⟨w.heap.size + 1, 1, none⟩ = false := hC1.2.2.2.2.2.2.2.2.2.2.2.2.2.2.2.2.2.2.2.2.1
  have c21 : w1.frozen? ⟨w.heap.size + 1, 2, none⟩ = false := hC1.2.2.2.2.2.2.2.2.2.2.2.2.2.2.2.2.2.2.2.2.2.1
  have c22 : w1.frozen? ⟨w.heap.size + 1, 3, none⟩ = false := hC1.2.2.2.2.2.2.2.2.2.2.2.2.2.2.2.2.2.2.2.2.2.2.1
  have c23 : w1.frozen? ⟨w.heap.size + 1, 4, none⟩ = false := hC1.2.2.2.2.2.2.2.2.2.2.2.2.2.2.2.2.2.2.2.2.2.2.2.1
  have c24 : w1.frozen? ⟨w.heap.size + 1, 5, none⟩ = false := hC1.2.2.2.2.2.2.2.2.2.2.2.2.2.2.2.2.2.2.2.2.2.2.2.2.1
  have c25 : w1.frozen? ⟨w.heap.size + 1 + 1 + 1, 0, none⟩ = false := hC1.2.2.2.2.2.2.2.2.2.2.2.2.2.2.2.2.2.2.2.2.2.2.2.2.2.1
  have c26 : w1.frozen? ⟨w.heap.size + 1 + 1 + 1, 1, none⟩ = false := hC1.2.2.2.2.2.2.2.2.2.2.2.2.2.2.2.2.2.2.2.2.2.2.2.2.2.2.1
  have c27 : w1.frozen? ⟨w.heap.size + 1 + 1 + 1, 2, none⟩ = false := hC1.2.2.2.2.2.2.2.2.2.2.2.2.2.2.2.2.2.2.2.2.2.2.2.2.2.2.2.1
  have c28 : w1.frozen? ⟨w.heap.size + 1 + 1 + 1, 3, none⟩ = false := hC1.2.2.2.2.2.2.2.2.2.2.2.2.2.2.2.2.2.2.2.2.2.2.2.2.2.2.2.2.1
  have c29 : w1.frozen? ⟨w.heap.size + 1 + 1 + 1, 4, none⟩ = false := hC1.2.2.2.2.2.2.2.2.2.2.2.2.2.2.2.2.2.2.2.2.2.2.2.2.2.2.2.2.2.1
  have c30 : w1.frozen? ⟨w.heap.size + 1 + 1 + 1, 5, none⟩ = false := hC1.2.2.2.2.2.2.2.2.2.2.2.2.2.2.2.2.2.2.2.2.2.2.2.2.2.2.2.2.2.2.1
  have c31 : Below w.heap.size w w1 := hC1.2.2.2.2.2.2.2.2.2.2.2.2.2.2.2.2.2.2.2.2.2.2.2.2.2.2.2.2.2.2.2
  go_wp2_with fail
  clear c0 c1 c2 c3 c4 c5 c6 c7 c8 c9 c10 c11 c12 c13 c14 c15 c16 c17 c18 c19 c20 c21 c22 c23 c24 c25 c26 c27 c28 c29 c30 c31
  have hB1 : Below w.heap.size w w1 := hC1.2.2.2.2.2.2.2.2.2.2.2.2.2.2.2.2.2.2.2.2.2.2.2.2.2.2.2.2.2.2.2
  refine (specStateOk_c _ _ _ (marksB f a len) _ _ _ _ _ _ _ hl (by intro w' hw'; exact specMarksOk_c b off len cap f a w' hl ((hrow.on hB1).on hw'))).mono ?_
  rintro e w2 ⟨rfl, hb2⟩
  have hC2 := doC_on hC1 hb2
  have c0 : w2.cell? ⟨w.heap.size, 0, none⟩ = some (.int .i64 s) := hC2.1
  have c1 : w2.cell? ⟨w.heap.size, 1, none⟩ = some (.int .i64 j) := hC2.2.1
  have c2 : w2.cell? ⟨w.heap.size, 2, none⟩ = some (.int .i64 m) := hC2.2.2.1
  have c3 : w2.cell? ⟨w.heap.size, 3, none⟩ = some (.int .i64 g) := hC2.2.2.2.1
  have c4 : w2.cell? ⟨w.heap.size, 4, none⟩ = some (.int .i64 o) := hC2.2.2.2.2.1
  have c5 : w2.cell? ⟨w.heap.size + 1, 0, none⟩ = some (.bool false) := hC2.2.2.2.2.2.1
  have c6 : w2.cell? ⟨w.heap.size + 1, 1, none⟩ = some (.int .i64 l) := hC2.2.2.2.2.2.2.1
  have c7 : w2.cell? ⟨w.heap.size + 1, 2, none⟩ = some (.int .i64 h) := hC2.2.2.2.2.2.2.2.1
  have c8 : w2.cell? ⟨w.heap.size + 1, 3, none⟩ = some (.int .i64 si) := hC2.2.2.2.2.2.2.2.2.1
  have c9 : w2.cell? ⟨w.heap.size + 1, 4, none⟩ = some (.int .i64 la) := hC2.2.2.2.2.2.2.2.2.2.1
  have c10 : w2.cell? ⟨w.heap.size + 1, 5, none⟩ = some (.int .i64 od) := hC2.2.2.2.2.2.2.2.2.2.2.1
  have c11 : w2.cell? ⟨w.heap.size + 1 + 1, 0, none⟩ = some (.int .i64 op) := hC2.2.2.2.2.2.2.2.2.2.2.2.1
  have c12 : w2.cell? ⟨w.heap.size + 1 + 1, 1, none⟩ = some (.int .i64 n) := hC2.2.2.2.2.2.2.2.2.2.2.2.2.1
  have c13 : w2.cell? ⟨w.heap.size + 1 + 1 + 1, 0, none⟩ = some (.bool false) := hC2.2.2.2.2.2.2.2.2.2.2.2.2.2.1
  have c14 : w2.cell? ⟨w.heap.size + 1 + 1 + 1, 1, none⟩ = some (.int .i64 0) := hC2.2.2.2.2.2.2.2.2.2.2.2.2.2.2.1
  have c15 : w2.cell? ⟨w.heap.size + 1 + 1 + 1, 2, none⟩ = some (.int .i64 0) := hC2.2.2.2.2.2.2.2.2.2.2.2.2.2.2.2.1
  have c16 : w2.cell? ⟨w.heap.size + 1 + 1 + 1, 3, none⟩ = some (.int .i64 0) := hC2.2.2.2.2.2.2.2.2.2.2.2.2.2.2.2.2.1
  have c17 : w2.cell? ⟨w.heap.size + 1 + 1 + 1, 4, none⟩ = some (.int .i64 0) := hC2.2.2.2.2.2.2.2.2.2.2.2.2.2.2.2.2.2.1
  have c18 : w2.cell? ⟨w.heap.size + 1 + 1 + 1, 5, none⟩ = some (.int .i64 0) := hC2.2.2.2.2.2.2.2.2.2.2.2.2.2.2.2.2.2.2.1
  have c19 : w2.frozen? ⟨w.heap.size + 1, 0, none⟩ = false := hC2.2.2.2.2.2.2.2.2.2.2.2.2.2.2.2.2.2.2.2.1
  have c20 : w2.frozen? ⟨w.heap.size + 1, 1, none⟩ = false := hC2.2.2.2.2.2.2.2.2.2.2.2.2.2.2.2.2.2.2.2.2.1
  have c21 : w2.frozen? ⟨w.heap.size + 1, 2, none⟩ = false := hC2.2.2.2.2.2.2.2.2.2.2.2.2.2.2.2.2.2.2.2.2.2.1
  have c22 : w2.frozen? ⟨w.heap.size + 1, 3, none⟩ = false := hC2.2.2.2.2.2.2.2.2.2.2.2.2.2.2.2.2.2.2.2.2.2.2.1
  have c23 : w2.frozen? ⟨w.heap.size + 1, 4, none⟩ = false := hC2.2.2.2.2.2.2.2.2.2.2.2.2.2.2.2.2.2.2.2.2.2.2.2.1
  have c24 : w2.frozen? ⟨w.heap.size + 1, 5, none⟩ = false := hC2.2.2.2.2.2.2.2.2.2.2.2.2.2.2.2.2.2.2.2.2.2.2.2.2.1
  have c25 : w2.frozen? ⟨w.heap.size + 1 + 1 + 1, 0, none⟩ = false := hC2.2.2.2.2.2.2.2.2.2.2.2.2.2.2.2.2.2.2.2.2.2.2.2.2.2.1
  have c26 : w2.frozen? ⟨w.heap.size + 1 + 1 + 1, 1, none⟩ = false := hC2.2.2.2.2.2.2.2.2.2.2.2.2.2.2.2.2.2.2.2.2.2.2.2.2.2.2.1
  have c27 : w2.frozen? ⟨w.heap.size + 1 + 1 + 1, 2, none⟩ = false := hC2.2.2.2.2.2.2.2.2.2.2.2.2.2.2.2.2.2.2.2.2.2.2.2.2.2.2.2.1
  have c28 : w2.frozen? ⟨w.heap.size + 1 + 1 + 1, 3, none⟩ = false := hC2.2.2.2.2.2.2.2.2.2.2.2.2.2.2.2.2.2.2.2.2.2.2.2.2.2.2.2.2.1
  have c29 : w2.frozen? ⟨w.heap.size + 1 + 1 + 1, 4, none⟩ = false := hC2.2.2.2.2.2.2.2.2.2.2.2.2.2.2.2.2.2.2.2.2.2.2.2.2.2.2.2.2.2.1
  have c30 : w2.frozen? ⟨w.heap.size + 1 + 1 + 1, 5, none⟩ = false := hC2.2.2.2.2.2.2.2.2.2.2.2.2.2.2.2.2.2.2.2.2.2.2.2.2.2.2.2.2.2.2.1
  have c31 : Below w.heap.size w w2 := hC2.2.2.2.2.2.2.2.2.2.2.2.2.2.2.2.2.2.2.2.2.2.2.2.2.2.2.2.2.2.2.2
  go_wp2_with fail
  clear c0 c1 c2 c3 c4 c5 c6 c7 c8 c9 c10 c11 c12 c13 c14 c15 c16 c17 c18 c19 c20 c21 c22 c23 c24 c25 c26 c27 c28 c29 c30 c31
  refine (specEventOk_c _ _ _).mono ?_
  rintro e w3 ⟨rfl, hb3⟩
  have hC3 := doC_on hC2 hb3
  have c0 : w3.cell? ⟨w.heap.size, 0, none⟩ = some (.int .i64 s) := hC3.1
  have c1 : w3.cell? ⟨w.heap.size, 1, none⟩ = some (.int .i64 j) := hC3.2.1
  have c2 : w3.cell? ⟨w.heap.size, 2, none⟩ = some (.int .i64 m) := hC3.2.2.1
  have c3 : w3.cell? ⟨w.heap.size, 3, none⟩ = some (.int .i64 g) := hC3.2.2.2.1
  have c4 : w3.cell? ⟨w.heap.size, 4, none⟩ = some (.int .i64 o) := hC3.2.2.2.2.1
  have c5 : w3.cell? ⟨w.heap.size + 1, 0, none⟩ = some (.bool false) := hC3.2.2.2.2.2.1
  have c6 : w3.cell? ⟨w.heap.size + 1, 1, none⟩ = some (.int .i64 l) := hC3.2.2.2.2.2.2.1
  have c7 : w3.cell? ⟨w.heap.size + 1, 2, none⟩ = some (.int .i64 h) := hC3.2.2.2.2.2.2.2.1
  have c8 : w3.cell? ⟨w.heap.size + 1, 3, none⟩ = some (.int .i64 si) := hC3.2.2.2.2.2.2.2.2.1
  have c9 : w3.cell? ⟨w.heap.size + 1, 4, none⟩ = some (.int .i64 la) := hC3.2.2.2.2.2.2.2.2.2.1
  have c10 : w3.cell? ⟨w.heap.size + 1, 5, none⟩ = some (.int .i64 od) := hC3.2.2.2.2.2.2.2.2.2.2.1
  have c11 : w3.cell? ⟨w.heap.size + 1 + 1, 0, none⟩ = some (.int .i64 op) := hC3.2.2.2.2.2.2.2.2.2.2.2.1
  have c12 : w3.cell? ⟨w.heap.size + 1 + 1, 1, none⟩ = some (.int .i64 n) := hC3.2.2.2.2.2.2.2.2.2.2.2.2.1
  have c13 : w3.cell? ⟨w.heap.size + 1 + 1 + 1, 0, none⟩ = some (.bool false) := hC3.2.2.2.2.2.2.2.2.2.2.2.2.2.1
  have c14 : w3.cell? ⟨w.heap.size + 1 + 1 + 1, 1, none⟩ = some (.int .i64 0) := hC3.2.2.2.2.2.2.2.2.2.2.2.2.2.2.1
  have c15 : w3.cell? ⟨w.heap.size + 1 + 1 + 1, 2, none⟩ = some (.int .i64 0) := hC3.2.2.2.2.2.2.2.2.2.2.2.2.2.2.2.1
  have c16 : w3.cell? ⟨w.heap.size + 1 + 1 + 1, 3, none⟩ = some (.int .i64 0) := hC3.2.2.2.2.2.2.2.2.2.2.2.2.2.2.2.2.1
  have c17 : w3.cell? ⟨w.heap.size + 1 + 1 + 1, 4, none⟩ = some (.int .i64 0) := hC3.2.2.2.2.2.2.2.2.2.2.2.2.2.2.2.2.2.1
  have c18 : w3.cell? ⟨w.heap.size + 1 + 1 + 1, 5, none⟩ = some (.int .i64 0) := hC3.2.2.2.2.2.2.2.2.2.2.2.2.2.2.2.2.2.2.1
  have c19 : w3.frozen? ⟨w.heap.size + 1, 0, none⟩ = false := hC3.2.2.2.2.2.2.2.2.2.2.2.2.2.2.2.2.2.2.2.1
  have c20 : w3.frozen? ⟨w.heap.size + 1, 1, none⟩ = false := hC3.2.2.2.2.2.2.2.2.2.2.2.2.2.2.2.2.2.2.2.2.1
  have c21 : w3.frozen? ⟨w.heap.size + 1, 2, none⟩ = false := hC3.2.2.2.2.2.2.2.2.2.2.2.2.2.2.2.2.2.2.2.2.2.1
  have c22 : w3.frozen? ⟨w.heap.size + 1, 3, none⟩ = false := hC3.2.2.2.2.2.2.2.2.2.2.2.2.2.2.2.2.2.2.2.2.2.2.1
  have c23 : w3.frozen? ⟨w.heap.size + 1, 4, none⟩ = false := hC3.2.2.2.2.2.2.2.2.2.2.2.2.2.2.2.2.2.2.2.2.2.2.2.1
  have c24 : w3.frozen? ⟨w.heap.size + 1, 5, none⟩ = false := hC3.2.2.2.2.2.2.2.2.2.2.2.2.2.2.2.2.2.2.2.2.2.2.2.2.1
  have c25 : w3.frozen? ⟨w.heap.size + 1 + 1 + 1, 0, none⟩ = false := hC3.2.2.2.2.2.2.2.2.2.2.2.2.2.2.2.2.2.2.2.2.2.2.2.2.2.1
  have c26 : w3.frozen? ⟨w.heap.size + 1 + 1 + 1, 1, none⟩ = false := hC3.2.2.2.2.2.2.2.2.2.2.2.2.2.2.2.2.2.2.2.2.2.2.2.2.2.2.1
  have c27 : w3.frozen? ⟨w.heap.size + 1 + 1 + 1, 2, none⟩ = false := hC3.2.2.2.2.2.2.2.2.2.2.2.2.2.2.2.2.2.2.2.2.2.2.2.2.2.2.2.1
  have c28 : w3.frozen? ⟨w.heap.size + 1 + 1 + 1, 3, none⟩ = false := hC3.2.2.2.2.2.2.2.2.2.2.2.2.2.2.2.2.2.2.2.2.2.2.2.2.2.2.2.2.1
  have c29 : w3.frozen? ⟨w.heap.size + 1 + 1 + 1, 4, none⟩ = false := hC3.2.2.2.2.2.2.2.2.2.2.2.2.2.2.2.2.2.2.2.2.2.2.2.2.2.2.2.2.2.1
  have c30 : w3.frozen? ⟨w.heap.size + 1 + 1 + 1, 5, none⟩ = false := hC3.2.2.2.2.2.2.2.2.2.2.2.2.2.2.2.2.2.2.2.2.2.2.2.2.2.2.2.2.2.2.1
  have c31 : Below w.heap.size w w3 := hC3.2.2.2.2.2.2.2.2.2.2.2.2.2.2.2.2.2.2.2.2.2.2.2.2.2.2.2.2.2.2.2
  go_wp2_with fail
  refine (l2least_c _ _ _).mono ?_
  rintro e w4 ⟨rfl, rfl⟩
  go_wp2_with fail
  have hq1 : w.heap.size ≤ w.heap.size + 1 := by omega
  have hq3 : w.heap.size ≤ w.heap.size + 1 + 1 + 1 := by omega
  exact bodyPost_ret (v := .agg #[.bool false, .int .i64 l, .int .i64 h, .int .i64 (min (si + n) 1000000000), .int .i64 la, .int .i64 od]) (by simp [results, Tryd.results31, go_sem, *]) rfl ⟨rfl, (nbSetX (nbSetX (nbSetX (nbSetX (nbSetX (nbSetX (nbSetX c31 hq1) hq3) hq3) hq3) hq3) hq3) hq3)⟩

set_option maxHeartbeats 4000000 in
theorem specDo_wheel1 (b off len cap : Nat) (f a : Nat → Int) (s j m g o : Int) (l h si la od op n : Int) (w : World) (hl : len ≤ 1048576) (hrow : Row2 w b off len f a) (hr : rOk s j m g o = true) (hst : stB (marksB f a len) len true l h si la od = true) (hev : evB op n = true) (hop : (op == 1) = true) :
    Calls Tryd.prog 31 #[.agg #[.int .i64 s, .int .i64 j, .int .i64 m, .int .i64 g, .int .i64 o], .slice (some ⟨b, off, none⟩) len cap, .agg #[.bool true, .int .i64 l, .int .i64 h, .int .i64 si, .int .i64 la, .int .i64 od], .agg #[.int .i64 op, .int .i64 n]] w fun e w' => e = .returned (.agg #[.bool true, .int .i64 (min (l + lst s j n) 100000000), .int .i64 (min (h + mst s j n) 100000000), .int .i64 (min (si + n) 1000000000), .int .i64 la, .int .i64 od]) ∧ Below w.heap.size w w' := by
  have hst' := hst
  simp only [stB, inB, Bool.and_eq_true, decide_eq_true_eq] at hst'
  obtain ⟨⟨⟨⟨hmk, hla0, hla1⟩, hsi0, hsi1⟩, hod0, hod1⟩, hbd⟩ := hst'
  have HMK : Hid (marksB f a len = true) := hmk
  have HBD : Hid ((if true then bOk l h else l == 0 && h == 0 && la == -1) = true) := hbd
  clear hmk hbd
  have hn : inB n 0 100000 = true := by simpa [evB, hop] using hev
  have hn' := hn
  simp only [inB, Bool.and_eq_true, decide_eq_true_eq] at hn'
  obtain ⟨hn0, hn1⟩ := hn'
  have wr : IntKind.i64.wrap (si + n) = si + n := by rw [IntKind.wrap_i64]; omega
  have hbk : bOk l h = true := by have := HBD.out; simpa using this
  go_enter Tryd.func31, Tryd.ntmps31
  go_wp2_with fail
  refine (specRulesOk_c _ _ _ _ _ _).mono ?_
  rintro e w1 ⟨rfl, hb1⟩
  have hC1 : doC w s j m g o true l h si la od op n w1 := ⟨cellOn hb1 (by go_simp), cellOn hb1 (by go_simp), cellOn hb1 (by go_simp), cellOn hb1 (by go_simp), cellOn hb1 (by go_simp), cellOn hb1 (by go_simp), cellOn hb1 (by go_simp), cellOn hb1 (by go_simp), cellOn hb1 (by go_simp), cellOn hb1 (by go_simp), cellOn hb1 (by go_simp), cellOn hb1 (by go_simp), cellOn hb1 (by go_simp), cellOn hb1 (by go_simp), cellOn hb1 (by go_simp), cellOn hb1 (by go_simp), cellOn hb1 (by go_simp), cellOn hb1 (by go_simp), cellOn hb1 (by go_simp), frozenOn hb1 (v := .bool true) (by go_simp) (by go_simp), frozenOn hb1 (v := .int .i64 l) (by go_simp) (by go_simp), frozenOn hb1 (v := .int .i64 h) (by go_simp) (by go_simp), frozenOn hb1 (v := .int .i64 si) (by go_simp) (by go_simp), frozenOn hb1 (v := .int .i64 la) (by go_simp) (by go_simp), frozenOn hb1 (v := .int .i64 od) (by go_simp) (by go_simp), frozenOn hb1 (v := .bool false) (by go_simp) (by go_simp), frozenOn hb1 (v := .int .i64 0) (by go_simp) (by go_simp), frozenOn hb1 (v := .int .i64 0) (by go_simp) (by go_simp), frozenOn hb1 (v := .int .i64 0) (by go_simp) (by go_simp), frozenOn hb1 (v := .int .i64 0) (by go_simp) (by go_simp), frozenOn hb1 (v := .int .i64 0) (by go_simp) (by go_simp), nbTrans (nbAlloc (nbAlloc (nbAlloc (nbAlloc (Below.refl _ _) _) _) _) _) hb1⟩
  have c0 : w1.cell? ⟨w.heap.size, 0, none⟩ = some (.int .i64 s) := hC1.1
  have c1 : w1.cell? ⟨w.heap.size, 1, none⟩ = some (.int .i64 j) := hC1.2.1
  have c2 : w1.cell? ⟨w.heap.size, 2, none⟩ = some (.int .i64 m) := hC1.2.2.1
  have c3 : w1.cell? ⟨w.heap.size, 3, none⟩ = some (.int .i64 g) := hC1.2.2.2.1
  have c4 : w1.cell? ⟨w.heap.size, 4, none⟩ = some (.int .i64 o) := hC1.2.2.2.2.1
  have c5 : w1.cell? ⟨w.heap.size + 1, 0, none⟩ = some (.bool true) := hC1.2.2.2.2.2.1
  have c6 : w1.cell? ⟨w.heap.size + 1, 1, none⟩ = some (.int .i64 l) := hC1.2.2.2.2.2.2.1
  have c7 : w1.cell? ⟨w.heap.size + 1, 2, none⟩ = some (.int .i64 h) := hC1.2.2.2.2.2.2.2.1
  have c8 : w1.cell? ⟨w.heap.size + 1, 3, none⟩ = some (.int .i64 si) := hC1.2.2.2.2.2.2.2.2.1
  have c9 : w1.cell? ⟨w.heap.size + 1, 4, none⟩ = some (.int .i64 la) := hC1.2.2.2.2.2.2.2.2.2.1
  have c10 : w1.cell? ⟨w.heap.size + 1, 5, none⟩ = some (.int .i64 od) := hC1.2.2.2.2.2.2.2.2.2.2.1
  have c11 : w1.cell? ⟨w.heap.size + 1 + 1, 0, none⟩ = some (.int .i64 op) := hC1.2.2.2.2.2.2.2.2.2.2.2.1
  have c12 : w1.cell? ⟨w.heap.size + 1 + 1, 1, none⟩ = some (.int .i64 n) := hC1.2.2.2.2.2.2.2.2.2.2.2.2.1
  have c13 : w1.cell? ⟨w.heap.size + 1 + 1 + 1, 0, none⟩ = some (.bool false) := hC1.2.2.2.2.2.2.2.2.2.2.2.2.2.1
  have c14 : w1.cell? ⟨w.heap.size + 1 + 1 + 1, 1, none⟩ = some (.int .i64 0) := hC1.2.2.2.2.2.2.2.2.2.2.2.2.2.2.1
  have c15 : w1.cell? ⟨w.heap.size + 1 + 1 + 1, 2, none⟩ = some (.int .i64 0) := hC1.2.2.2.2.2.2.2.2.2.2.2.2.2.2.2.1
  have c16 : w1.cell? ⟨w.heap.size + 1 + 1 + 1, 3, none⟩ = some (.int .i64 0) := hC1.2.2.2.2.2.2.2.2.2.2.2.2.2.2.2.2.1
  have c17 : w1.cell? ⟨w.heap.size + 1 + 1 + 1, 4, none⟩ = some (.int .i64 0) := hC1.2.2.2.2.2.2.2.2.2.2.2.2.2.2.2.2.2.1
  have c18 : w1.cell? ⟨w.heap.size + 1 + 1 + 1, 5, none⟩ = some (.int .i64 0) := hC1.2.2.2.2.2.2.2.2.2.2.2.2.2.2.2.2.2.2.1
  have c19 : w1.frozen? ⟨w.heap.size + 1, 0, none⟩ = false := hC1.2.2.2.2.2.2.2.2.2.2.2.2.2.2.2.2.2.2.2.1
  have c20 : w1.frozen? ⟨w.heap.size + 1, 1, none⟩ = false := hC1.2.2.2.2.2.2.2.2.2.2.2.2.2.2.2.2.2.2.2.2.1
  have c21 : w1.frozen? ⟨w.heap.size + 1, 2, none⟩ = false := hC1.2.2.2.2.2.2.2.2.2.2.2.2.2.2.2.2.2.2.2.2.2.1
  have c22 : w1.frozen? ⟨w.heap.size + 1, 3, none⟩ = false := hC1.2.2.2.2.2.2.2.2.2.2.2.2.2.2.2.2.2.2.2.2.2.2.1
  have c23 : w1.frozen? ⟨w.heap.size + 1, 4, none⟩ = false := hC1.2.2.2.2.2.2.2.2.2.2.2.2.2.2.2.2.2.2.2.2.2.2.2.1
  have c24 : w1.frozen? ⟨w.heap.size + 1, 5, none⟩ = false := hC1.2.2.2.2.2.2.2.2.2.2.2.2.2.2.2.2.2.2.2.2.2.2.2.2.1
  have c25 : w1.frozen? ⟨w.heap.size + 1 + 1 + 1, 0, none⟩ = false := hC1.2.2.2.2.2.2.2.2.2.2.2.2.2.2.2.2.2.2.2.2.2.2.2.2.2.1
  have c26 : w1.frozen? ⟨w.heap.size + 1 + 1 + 1, 1, none⟩ = false := hC1.2.2.2.2.2.2.2.2.2.2.2.2.2.2.2.2.2.2.2.2.2.2.2.2.2.2.1
  have c27 : w1.frozen? ⟨w.heap.size + 1 + 1 + 1, 2, none⟩ = false := hC1.2.2.2.2.2.2.2.2.2.2.2.2.2.2.2.2.2.2.2.2.2.2.2.2.2.2.2.1
  have c28 : w1.frozen? ⟨w.heap.size + 1 + 1 + 1, 3, none⟩ = false := hC1.2.2.2.2.2.2.2.2.2.2.2.2.2.2.2.2.2.2.2.2.2.2.2.2.2.2.2.2.1
  have c29 : w1.frozen? ⟨w.heap.size + 1 + 1 + 1, 4, none⟩ = false := hC1.2.2.2.2.2.2.2.2.2.2.2.2.2.2.2.2.2.2.2.2.2.2.2.2.2.2.2.2.2.1
  have c30 : w1.frozen? ⟨w.heap.size + 1 + 1 + 1, 5, none⟩ = false := hC1.2.2.2.2.2.2.2.2.2.2.2.2.2.2.2.2.2.2.2.2.2.2.2.2.2.2.2.2.2.2.1
  have c31 : Below w.heap.size w w1 := hC1.2.2.2.2.2.2.2.2.2.2.2.2.2.2.2.2.2.2.2.2.2.2.2.2.2.2.2.2.2.2.2
  go_wp2_with fail
  clear c0 c1 c2 c3 c4 c5 c6 c7 c8 c9 c10 c11 c12 c13 c14 c15 c16 c17 c18 c19 c20 c21 c22 c23 c24 c25 c26 c27 c28 c29 c30 c31
  have hB1 : Below w.heap.size w w1 := hC1.2.2.2.2.2.2.2.2.2.2.2.2.2.2.2.2.2.2.2.2.2.2.2.2.2.2.2.2.2.2.2
  refine (specStateOk_c _ _ _ (marksB f a len) _ _ _ _ _ _ _ hl (by intro w' hw'; exact specMarksOk_c b off len cap f a w' hl ((hrow.on hB1).on hw'))).mono ?_
  rintro e w2 ⟨rfl, hb2⟩
  have hC2 := doC_on hC1 hb2
  have c0 : w2.cell? ⟨w.heap.size, 0, none⟩ = some (.int .i64 s) := hC2.1
  have c1 : w2.cell? ⟨w.heap.size, 1, none⟩ = some (.int .i64 j) := hC2.2.1
  have c2 : w2.cell? ⟨w.heap.size, 2, none⟩ = some (.int .i64 m) := hC2.2.2.1
  have c3 : w2.cell? ⟨w.heap.size, 3, none⟩ = some (.int .i64 g) := hC2.2.2.2.1
  have c4 : w2.cell? ⟨w.heap.size, 4, none⟩ = some (.int .i64 o) := hC2.2.2.2.2.1
  have c5 : w2.cell? ⟨w.heap.size + 1, 0, none⟩ = some (.bool true) := hC2.2.2.2.2.2.1
  have c6 : w2.cell? ⟨w.heap.size + 1, 1, none⟩ = some (.int .i64 l) := hC2.2.2.2.2.2.2.1
  have c7 : w2.cell? ⟨w.heap.size + 1, 2, none⟩ = some (.int .i64 h) := hC2.2.2.2.2.2.2.2.1
  have c8 : w2.cell? ⟨w.heap.size + 1, 3, none⟩ = some (.int .i64 si) := hC2.2.2.2.2.2.2.2.2.1
  have c9 : w2.cell? ⟨w.heap.size + 1, 4, none⟩ = some (.int .i64 la) := hC2.2.2.2.2.2.2.2.2.2.1
  have c10 : w2.cell? ⟨w.heap.size + 1, 5, none⟩ = some (.int .i64 od) := hC2.2.2.2.2.2.2.2.2.2.2.1
  have c11 : w2.cell? ⟨w.heap.size + 1 + 1, 0, none⟩ = some (.int .i64 op) := hC2.2.2.2.2.2.2.2.2.2.2.2.1
  have c12 : w2.cell? ⟨w.heap.size + 1 + 1, 1, none⟩ = some (.int .i64 n) := hC2.2.2.2.2.2.2.2.2.2.2.2.2.1
  have c13 : w2.cell? ⟨w.heap.size + 1 + 1 + 1, 0, none⟩ = some (.bool false) := hC2.2.2.2.2.2.2.2.2.2.2.2.2.2.1
  have c14 : w2.cell? ⟨w.heap.size + 1 + 1 + 1, 1, none⟩ = some (.int .i64 0) := hC2.2.2.2.2.2.2.2.2.2.2.2.2.2.2.1
  have c15 : w2.cell? ⟨w.heap.size + 1 + 1 + 1, 2, none⟩ = some (.int .i64 0) := hC2.2.2.2.2.2.2.2.2.2.2.2.2.2.2.2.1
  have c16 : w2.cell? ⟨w.heap.size + 1 + 1 + 1, 3, none⟩ = some (.int .i64 0) := hC2.2.2.2.2.2.2.2.2.2.2.2.2.2.2.2.2.1
  have c17 : w2.cell? ⟨w.heap.size + 1 + 1 + 1, 4, none⟩ = some (.int .i64 0) := hC2.2.2.2.2.2.2.2.2.2.2.2.2.2.2.2.2.2.1
  have c18 : w2.cell? ⟨w.heap.size + 1 + 1 + 1, 5, none⟩ = some (.int .i64 0) := hC2.2.2.2.2.2.2.2.2.2.2.2.2.2.2.2.2.2.2.1
  have c19 : w2.frozen? ⟨w.heap.size + 1, 0, none⟩ = false := hC2.2.2.2.2.2.2.2.2.2.2.2.2.2.2.2.2.2.2.2.1
  have c20 : w2.frozen? ⟨w.heap.size + 1, 1, none⟩ = false := hC2.2.2.2.2.2.2.2.2.2.2.2.2.2.2.2.2.2.2.2.2.1
  have c21 : w2.frozen? ⟨w.heap.size + 1, 2, none⟩ = false := hC2.2.2.2.2.2.2.2.2.2.2.2.2.2.2.2.2.2.2.2.2.2.1
  have c22 : w2.frozen? ⟨w.heap.size + 1, 3, none⟩ = false := hC2.2.2.2.2.2.2.2.2.2.2.2.2.2.2.2.2.2.2.2.2.2.2.1
  have c23 : w2.frozen? ⟨w.heap.size + 1, 4, none⟩ = false := hC2.2.2.2.2.2.2.2.2.2.2.2.2.2.2.2.2.2.2.2.2.2.2.2.1
  have c24 : w2.frozen? ⟨w.heap.size + 1, 5, none⟩ = false := hC2.2.2.2.2.2.2.2.2.2.2.2.2.2.2.2.2.2.2.2.2.2.2.2.2.1
  have c25 : w2.frozen? ⟨w.heap.size + 1 + 1 + 1, 0, none⟩ = false := hC2.2.2.2.2.2.2.2.2.2.2.2.2.2.2.2.2.2.2.2.2.2.2.2.2.2.1
  have c26 : w2.frozen? ⟨w.heap.size + 1 + 1 + 1, 1, none⟩ = false := hC2.2.2.2.2.2.2.2.2.2.2.2.2.2.2.2.2.2.2.2.2.2.2.2.2.2.2.1
  have c27 : w2.frozen? ⟨w.heap.size + 1 + 1 + 1, 2, none⟩ = false := hC2.2.2.2.2.2.2.2.2.2.2.2.2.2.2.2.2.2.2.2.2.2.2.2.2.2.2.2.1
  have c28 : w2.frozen? ⟨w.heap.size + 1 + 1 + 1, 3, none⟩ = false := hC2.2.2.2.2.2.2.2.2.2.2.2.2.2.2.2.2.2.2.2.2.2.2.2.2.2.2.2.2.1
  have c29 : w2.frozen? ⟨w.heap.size + 1 + 1 + 1, 4, none⟩ = false := hC2.2.2.2.2.2.2.2.2.2.2.2.2.2.2.2.2.2.2.2.2.2.2.2.2.2.2.2.2.2.1
  have c30 : w2.frozen? ⟨w.heap.size + 1 + 1 + 1, 5, none⟩ = false := hC2.2.2.2.2.2.2.2.2.2.2.2.2.2.2.2.2.2.2.2.2.2.2.2.2.2.2.2.2.2.2.1
  have c31 : Below w.heap.size w w2 := hC2.2.2.2.2.2.2.2.2.2.2.2.2.2.2.2.2.2.2.2.2.2.2.2.2.2.2.2.2.2.2.2
  go_wp2_with fail
  clear c0 c1 c2 c3 c4 c5 c6 c7 c8 c9 c10 c11 c12 c13 c14 c15 c16 c17 c18 c19 c20 c21 c22 c23 c24 c25 c26 c27 c28 c29 c30 c31
  refine (specEventOk_c _ _ _).mono ?_
  rintro e w3 ⟨rfl, hb3⟩
  have hC3 := doC_on hC2 hb3
  have c0 : w3.cell? ⟨w.heap.size, 0, none⟩ = some (.int .i64 s) := hC3.1
  have c1 : w3.cell? ⟨w.heap.size, 1, none⟩ = some (.int .i64 j) := hC3.2.1
  have c2 : w3.cell? ⟨w.heap.size, 2, none⟩ = some (.int .i64 m) := hC3.2.2.1
  have c3 : w3.cell? ⟨w.heap.size, 3, none⟩ = some (.int .i64 g) := hC3.2.2.2.1
  have c4 : w3.cell? ⟨w.heap.size, 4, none⟩ = some (.int .i64 o) := hC3.2.2.2.2.1
  have c5 : w3.cell? ⟨w.heap.size + 1, 0, none⟩ = some (.bool true) := hC3.2.2.2.2.2.1
  have c6 : w3.cell? ⟨w.heap.size + 1, 1, none⟩ = some (.int .i64 l) := hC3.2.2.2.2.2.2.1
  have c7 : w3.cell? ⟨w.heap.size + 1, 2, none⟩ = some (.int .i64 h) := hC3.2.2.2.2.2.2.2.1
  have c8 : w3.cell? ⟨w.heap.size + 1, 3, none⟩ = some (.int .i64 si) := hC3.2.2.2.2.2.2.2.2.1
  have c9 : w3.cell? ⟨w.heap.size + 1, 4, none⟩ = some (.int .i64 la) := hC3.2.2.2.2.2.2.2.2.2.1
  have c10 : w3.cell? ⟨w.heap.size + 1, 5, none⟩ = some (.int .i64 od) := hC3.2.2.2.2.2.2.2.2.2.2.1
  have c11 : w3.cell? ⟨w.heap.size + 1 + 1, 0, none⟩ = some (.int .i64 op) := hC3.2.2.2.2.2.2.2.2.2.2.2.1
  have c12 : w3.cell? ⟨w.heap.size + 1 + 1, 1, none⟩ = some (.int .i64 n) := hC3.2.2.2.2.2.2.2.2.2.2.2.2.1
  have c13 : w3.cell? ⟨w.heap.size + 1 + 1 + 1, 0, none⟩ = some (.bool false) := hC3.2.2.2.2.2.2.2.2.2.2.2.2.2.1
  have c14 : w3.cell? ⟨w.heap.size + 1 + 1 + 1, 1, none⟩ = some (.int .i64 0) := hC3.2.2.2.2.2.2.2.2.2.2.2.2.2.2.1
  have c15 : w3.cell? ⟨w.heap.size + 1 + 1 + 1, 2, none⟩ = some (.int .i64 0) := hC3.2.2.2.2.2.2.2.2.2.2.2.2.2.2.2.1
  have c16 : w3.cell? ⟨w.heap.size + 1 + 1 + 1, 3, none⟩ = some (.int .i64 0) := hC3.2.2.2.2.2.2.2.2.2.2.2.2.2.2.2.2.1
  have c17 : w3.cell? ⟨w.heap.size + 1 + 1 + 1, 4, none⟩ = some (.int .i64 0) := hC3.2.2.2.2.2.2.2.2.2.2.2.2.2.2.2.2.2.1
  have c18 : w3.cell? ⟨w.heap.size + 1 + 1 + 1, 5, none⟩ = some (.int .i64 0) := hC3.2.2.2.2.2.2.2.2.2.2.2.2.2.2.2.2.2.2.1
  have c19 : w3.frozen? ⟨w.heap.size + 1, 0, none⟩ = false := hC3.2.2.2.2.2.2.2.2.2.2.2.2.2.2.2.2.2.2.2.1
  have c20 : w3.frozen? ⟨w.heap.size + 1, 1, none⟩ = false := hC3.2.2.2.2.2.2.2.2.2.2.2.2.2.2.2.2.2.2.2.2.1
  have c21 : w3.frozen? ⟨w.heap.size + 1, 2, none⟩ = false := hC3.2.2.2.2.2.2.2.2.2.2.2.2.2.2.2.2.2.2.2.2.2.1
  have c22 : w3.frozen? ⟨w.heap.size + 1, 3, none⟩ = false := hC3.2.2.2.2.2.2.2.2.2.2.2.2.2.2.2.2.2.2.2.2.2.2.1
  have c23 : w3.frozen? ⟨w.heap.size + 1, 4, none⟩ = false := hC3.2.2.2.2.2.2.2.2.2.2.2.2.2.2.2.2.2.2.2.2.2.2.2.1
  have c24 : w3.frozen? ⟨w.heap.size + 1, 5, none⟩ = false := hC3.2.2.2.2.2.2.2.2.2.2.2.2.2.2.2.2.2.2.2.2.2.2.2.2.1
  have c25 : w3.frozen? ⟨w.heap.size + 1 + 1 + 1, 0, none⟩ = false := hC3.2.2.2.2.2.2.2.2.2.2.2.2.2.2.2.2.2.2.2.2.2.2.2.2.2.1
  have c26 : w3.frozen? ⟨w.heap.size + 1 + 1 + 1, 1, none⟩ = false := hC3.2.2.2.2.2.2.2.2.2.2.2.2.2.2.2.2.2.2.2.2.2.2.2.2.2.2.1
  have c27 : w3.frozen? ⟨w.heap.size + 1 + 1 + 1, 2, none⟩ = false := hC3.2.2.2.2.2.2.2.2.2.2.2.2.2.2.2.2.2.2.2.2.2.2.2.2.2.2.2.1
  have c28 : w3.frozen? ⟨w.heap.size + 1 + 1 + 1, 3, none⟩ = false := hC3.2.2.2.2.2.2.2.2.2.2.2.2.2.2.2.2.2.2.2.2.2.2.2.2.2.2.2.2.1
  have c29 : w3.frozen? ⟨w.heap.size + 1 + 1 + 1, 4, none⟩ = false := hC3.2.2.2.2.2.2.2.2.2.2.2.2.2.2.2.2.2.2.2.2.2.2.2.2.2.2.2.2.2.1
  have c30 : w3.frozen? ⟨w.heap.size + 1 + 1 + 1, 5, none⟩ = false := hC3.2.2.2.2.2.2.2.2.2.2.2.2.2.2.2.2.2.2.2.2.2.2.2.2.2.2.2.2.2.2.1
  have c31 : Below w.heap.size w w3 := hC3.2.2.2.2.2.2.2.2.2.2.2.2.2.2.2.2.2.2.2.2.2.2.2.2.2.2.2.2.2.2.2
  go_wp2_with fail
  refine (l2least_c _ _ _).mono ?_
  rintro e w4 ⟨rfl, rfl⟩
  go_wp2_with fail
  clear c0 c1 c2 c3 c4 c5 c6 c7 c8 c9 c10 c11 c12 c13 c14 c15 c16 c17 c18 c19 c20 c21 c22 c23 c24 c25 c26 c27 c28 c29 c30 c31
  have hC4 := doC_si hC3 (min (si + n) 1000000000)
  refine (specWheel_ok _ _ _ _ _ _ _ _ _ hr hbk hn).mono ?_
  rintro e w5 ⟨rfl, hb5⟩
  have hC5 := doC_on hC4 hb5
  have c0 : w5.cell? ⟨w.heap.size, 0, none⟩ = some (.int .i64 s) := hC5.1
  have c1 : w5.cell? ⟨w.heap.size, 1, none⟩ = some (.int .i64 j) := hC5.2.1
  have c2 : w5.cell? ⟨w.heap.size, 2, none⟩ = some (.int .i64 m) := hC5.2.2.1
  have c3 : w5.cell? ⟨w.heap.size, 3, none⟩ = some (.int .i64 g) := hC5.2.2.2.1
  have c4 : w5.cell? ⟨w.heap.size, 4, none⟩ = some (.int .i64 o) := hC5.2.2.2.2.1
  have c5 : w5.cell? ⟨w.heap.size + 1, 0, none⟩ = some (.bool true) := hC5.2.2.2.2.2.1
  have c6 : w5.cell? ⟨w.heap.size + 1, 1, none⟩ = some (.int .i64 l) := hC5.2.2.2.2.2.2.1
  have c7 : w5.cell? ⟨w.heap.size + 1, 2, none⟩ = some (.int .i64 h) := hC5.2.2.2.2.2.2.2.1
  have c8 : w5.cell? ⟨w.heap.size + 1, 3, none⟩ = some (.int .i64 (min (si + n) 1000000000)) := hC5.2.2.2.2.2.2.2.2.1
  have c9 : w5.cell? ⟨w.heap.size + 1, 4, none⟩ = some (.int .i64 la) := hC5.2.2.2.2.2.2.2.2.2.1
  have c10 : w5.cell? ⟨w.heap.size + 1, 5, none⟩ = some (.int .i64 od) := hC5.2.2.2.2.2.2.2.2.2.2.1
  have c11 : w5.cell? ⟨w.heap.size + 1 + 1, 0, none⟩ = some (.int .i64 op) := hC5.2.2.2.2.2.2.2.2.2.2.2.1
  have c12 : w5.cell? ⟨w.heap.size + 1 + 1, 1, none⟩ = some (.int .i64 n) := hC5.2.2.2.2.2.2.2.2.2.2.2.2.1
  have c13 : w5.cell? ⟨w.heap.size + 1 + 1 + 1, 0, none⟩ = some (.bool false) := hC5.2.2.2.2.2.2.2.2.2.2.2.2.2.1
  have c14 : w5.cell? ⟨w.heap.size + 1 + 1 + 1, 1, none⟩ = some (.int .i64 0) := hC5.2.2.2.2.2.2.2.2.2.2.2.2.2.2.1
  have c15 : w5.cell? ⟨w.heap.size + 1 + 1 + 1, 2, none⟩ = some (.int .i64 0) := hC5.2.2.2.2.2.2.2.2.2.2.2.2.2.2.2.1
  have c16 : w5.cell? ⟨w.heap.size + 1 + 1 + 1, 3, none⟩ = some (.int .i64 0) := hC5.2.2.2.2.2.2.2.2.2.2.2.2.2.2.2.2.1
  have c17 : w5.cell? ⟨w.heap.size + 1 + 1 + 1, 4, none⟩ = some (.int .i64 0) := hC5.2.2.2.2.2.2.2.2.2.2.2.2.2.2.2.2.2.1
  have c18 : w5.cell? ⟨w.heap.size + 1 + 1 + 1, 5, none⟩ = some (.int .i64 0) := hC5.2.2.2.2.2.2.2.2.2.2.2.2.2.2.2.2.2.2.1
  have c19 : w5.frozen? ⟨w.heap.size + 1, 0, none⟩ = false := hC5.2.2.2.2.2.2.2.2.2.2.2.2.2.2.2.2.2.2.2.1
  have c20 : w5.frozen? ⟨w.heap.size + 1, 1, none⟩ = false := hC5.2.2.2.2.2.2.2.2.2.2.2.2.2.2.2.2.2.2.2.2.1
  have c21 : w5.frozen? ⟨w.heap.size + 1, 2, none⟩ = false := hC5.2.2.2.2.2.2.2.2.2.2.2.2.2.2.2.2.2.2.2.2.2.1
  have c22 : w5.frozen? ⟨w.heap.size + 1, 3, none⟩ = false := hC5.2.2.2.2.2.2.2.2.2.2.2.2.2.2.2.2.2.2.2.2.2.2.1
  have c23 : w5.frozen? ⟨w.heap.size + 1, 4, none⟩ = false := hC5.2.2.2.2.2.2.2.2.2.2.2.2.2.2.2.2.2.2.2.2.2.2.2.1
  have c24 : w5.frozen? ⟨w.heap.size + 1, 5, none⟩ = false := hC5.2.2.2.2.2.2.2.2.2.2.2.2.2.2.2.2.2.2.2.2.2.2.2.2.1
  have c25 : w5.frozen? ⟨w.heap.size + 1 + 1 + 1, 0, none⟩ = false := hC5.2.2.2.2.2.2.2.2.2.2.2.2.2.2.2.2.2.2.2.2.2.2.2.2.2.1
  have c26 : w5.frozen? ⟨w.heap.size + 1 + 1 + 1, 1, none⟩ = false := hC5.2.2.2.2.2.2.2.2.2.2.2.2.2.2.2.2.2.2.2.2.2.2.2.2.2.2.1
  have c27 : w5.frozen? ⟨w.heap.size + 1 + 1 + 1, 2, none⟩ = false := hC5.2.2.2.2.2.2.2.2.2.2.2.2.2.2.2.2.2.2.2.2.2.2.2.2.2.2.2.1
  have c28 : w5.frozen? ⟨w.heap.size + 1 + 1 + 1, 3, none⟩ = false := hC5.2.2.2.2.2.2.2.2.2.2.2.2.2.2.2.2.2.2.2.2.2.2.2.2.2.2.2.2.1
  have c29 : w5.frozen? ⟨w.heap.size + 1 + 1 + 1, 4, none⟩ = false := hC5.2.2.2.2.2.2.2.2.2.2.2.2.2.2.2.2.2.2.2.2.2.2.2.2.2.2.2.2.2.1
  have c30 : w5.frozen? ⟨w.heap.size + 1 + 1 + 1, 5, none⟩ = false := hC5.2.2.2.2.2.2.2.2.2.2.2.2.2.2.2.2.2.2.2.2.2.2.2.2.2.2.2.2.2.2.1
  have c31 : Below w.heap.size w w5 := hC5.2.2.2.2.2.2.2.2.2.2.2.2.2.2.2.2.2.2.2.2.2.2.2.2.2.2.2.2.2.2.2
  clear hC1 hC2 hC3 hC4 hC5
  go_wp2_with fail
  have hq1 : w.heap.size ≤ w.heap.size + 1 := by omega
  have hq3 : w.heap.size ≤ w.heap.size + 1 + 1 + 1 := by omega
  exact bodyPost_ret (v := .agg #[.bool true, .int .i64 (min (l + lst s j n) 100000000), .int .i64 (min (h + mst s j n) 100000000), .int .i64 (min (si + n) 1000000000), .int .i64 la, .int .i64 od]) (by simp [results, Tryd.results31, go_sem, *]) rfl ⟨rfl, (nbSetX (nbSetX (nbSetX (nbSetX (nbSetX (nbSetX (nbSetX (nbSetX c31 hq1) hq1) hq3) hq3) hq3) hq3) hq3) hq3)⟩

set_option maxHeartbeats 4000000 in
theorem specDo_stand (b off len cap : Nat) (f a : Nat → Int) (s j m g o : Int) (kn : Bool) (l h si la od op n : Int) (w : World) (hl : len ≤ 1048576) (hrow : Row2 w b off len f a) (hr : rOk s j m g o = true) (hst : stB (marksB f a len) len kn l h si la od = true) (hev : evB op n = true) (hop : (op == 3) = true) :
    Calls Tryd.prog 31 #[.agg #[.int .i64 s, .int .i64 j, .int .i64 m, .int .i64 g, .int .i64 o], .slice (some ⟨b, off, none⟩) len cap, .agg #[.bool kn, .int .i64 l, .int .i64 h, .int .i64 si, .int .i64 la, .int .i64 od], .agg #[.int .i64 op, .int .i64 n]] w fun e w' => e = .returned (.agg #[.bool kn, .int .i64 l, .int .i64 h, .int .i64 si, .int .i64 la, .int .i64 od]) ∧ Below w.heap.size w w' := by
  have h1 : (op == 1) = false := by rw [eq_of_beq hop]; rfl
  have h2 : (op == 2) = false := by rw [eq_of_beq hop]; rfl
  have h4 : (op == 4) = false := by rw [eq_of_beq hop]; rfl
  go_enter Tryd.func31, Tryd.ntmps31
  go_wp2_with fail
  refine (specRulesOk_c _ _ _ _ _ _).mono ?_
  rintro e w1 ⟨rfl, hb1⟩
  have hC1 : doC w s j m g o kn l h si la od op n w1 := ⟨cellOn hb1 (by go_simp), cellOn hb1 (by go_simp), cellOn hb1 (by go_simp), cellOn hb1 (by go_simp), cellOn hb1 (by go_simp), cellOn hb1 (by go_simp), cellOn hb1 (by go_simp), cellOn hb1 (by go_simp), cellOn hb1 (by go_simp), cellOn hb1 (by go_simp), cellOn hb1 (by go_simp), cellOn hb1 (by go_simp), cellOn hb1 (by go_simp), cellOn hb1 (by go_simp), cellOn hb1 (by go_simp), cellOn hb1 (by go_simp), cellOn hb1 (by go_simp), cellOn hb1 (by go_simp), cellOn hb1 (by go_simp), frozenOn hb1 (v := .bool kn) (by go_simp) (by go_simp), frozenOn hb1 (v := .int .i64 l) (by go_simp) (by go_simp), frozenOn hb1 (v := .int .i64 h) (by go_simp) (by go_simp), frozenOn hb1 (v := .int .i64 si) (by go_simp) (by go_simp), frozenOn hb1 (v := .int .i64 la) (by go_simp) (by go_simp), frozenOn hb1 (v := .int .i64 od) (by go_simp) (by go_simp), frozenOn hb1 (v := .bool false) (by go_simp) (by go_simp), frozenOn hb1 (v := .int .i64 0) (by go_simp) (by go_simp), frozenOn hb1 (v := .int .i64 0) (by go_simp) (by go_simp), frozenOn hb1 (v := .int .i64 0) (by go_simp) (by go_simp), frozenOn hb1 (v := .int .i64 0) (by go_simp) (by go_simp), frozenOn hb1 (v := .int .i64 0) (by go_simp) (by go_simp), nbTrans (nbAlloc (nbAlloc (nbAlloc (nbAlloc (Below.refl _ _) _) _) _) _) hb1⟩
  have c0 : w1.cell? ⟨w.heap.size, 0, none⟩ = some (.int .i64 s) := hC1.1
  have c1 : w1.cell? ⟨w.heap.size, 1, none⟩ = some (.int .i64 j) := hC1.2.1
  have c2 : w1.cell? ⟨w.heap.size, 2, none⟩ = some (.int .i64 m) := hC1.2.2.1
  have c3 : w1.cell? ⟨w.heap.size, 3, none⟩ = some (.int .i64 g) := hC1.2.2.2.1
  have c4 : w1.cell? ⟨w.heap.size, 4, none⟩ = some (.int .i64 o) := hC1.2.2.2.2.1
  have c5 : w1.cell? ⟨w.heap.size + 1, 0, none⟩ = some (.bool kn) := hC1.2.2.2.2.2.1
  have c6 : w1.cell? ⟨w.heap.size + 1, 1, none⟩ = some (.int .i64 l) := hC1.2.2.2.2.2.2.1
  have c7 : w1.cell? ⟨w.heap.size + 1, 2, none⟩ = some (.int .i64 h) := hC1.2.2.2.2.2.2.2.1
  have c8 : w1.cell? ⟨w.heap.size + 1, 3, none⟩ = some (.int .i64 si) := hC1.2.2.2.2.2.2.2.2.1
  have c9 : w1.cell? ⟨w.heap.size + 1, 4, none⟩ = some (.int .i64 la) := hC1.2.2.2.2.2.2.2.2.2.1
  have c10 : w1.cell? ⟨w.heap.size + 1, 5, none⟩ = some (.int .i64 od) := hC1.2.2.2.2.2.2.2.2.2.2.1
  have c11 : w1.cell? ⟨w.heap.size + 1 + 1, 0, none⟩ = some (.int .i64 op) := hC1.2.2.2.2.2.2.2.2.2.2.2.1
  have c12 : w1.cell? ⟨w.heap.size + 1 + 1, 1, none⟩ = some (.int .i64 n) := hC1.2.2.2.2.2.2.2.2.2.2.2.2.1
  have c13 : w1.cell? ⟨w.heap.size + 1 + 1 + 1, 0, none⟩ = some (.bool false) := hC1.2.2.2.2.2.2.2.2.2.2.2.2.2.1
  have c14 : w1.cell? ⟨w.heap.size + 1 + 1 + 1, 1, none⟩ = some (.int .i64 0) := hC1.2.2.2.2.2.2.2.2.2.2.2.2.2.2.1
  have c15 : w1.cell? ⟨w.heap.size + 1 + 1 + 1, 2, none⟩ = some (.int .i64 0) := hC1.2.2.2.2.2.2.2.2.2.2.2.2.2.2.2.1
  have c16 : w1.cell? ⟨w.heap.size + 1 + 1 + 1, 3, none⟩ = some (.int .i64 0) := hC1.2.2.2.2.2.2.2.2.2.2.2.2.2.2.2.2.1
  have c17 : w1.cell? ⟨w.heap.size + 1 + 1 + 1, 4, none⟩ = some (.int .i64 0) := hC1.2.2.2.2.2.2.2.2.2.2.2.2.2.2.2.2.2.1
  have c18 : w1.cell? ⟨w.heap.size + 1 + 1 + 1, 5, none⟩ = some (.int .i64 0) := hC1.2.2.2.2.2.2.2.2.2.2.2.2.2.2.2.2.2.2.1
  have c19 : w1.frozen? ⟨w.heap.size + 1, 0, none⟩ = false := hC1.2.2.2.2.2.2.2.2.2.2.2.2.2.2.2.2.2.2.2.1
  have c20 : w1.frozen? ⟨w.heap.size + 1, 1, none⟩ = false := hC1.2.2.2.2.2.2.2.2.2.2.2.2.2.2.2.2.2.2.2.2.1
  have c21 : w1.frozen? ⟨w.heap.size + 1, 2, none⟩ = false := hC1.2.2.2.2.2.2.2.2.2.2.2.2.2.2.2.2.2.2.2.2.2.1
  have c22 : w1.frozen? ⟨w.heap.size + 1, 3, none⟩ = false := hC1.2.2.2.2.2.2.2.2.2.2.2.2.2.2.2.2.2.2.2.2.2.2.1
  have c23 : w1.frozen? ⟨w.heap.size + 1, 4, none⟩ = false := hC1.2.2.2.2.2.2.2.2.2.2.2.2.2.2.2.2.2.2.2.2.2.2.2.1
  have c24 : w1.frozen? ⟨w.heap.size + 1, 5, none⟩ = false := hC1.2.2.2.2.2.2.2.2.2.2.2.2.2.2.2.2.2.2.2.2.2.2.2.2.1
  have c25 : w1.frozen? ⟨w.heap.size + 1 + 1 + 1, 0, none⟩ = false := hC1.2.2.2.2.2.2.2.2.2.2.2.2.2.2.2.2.2.2.2.2.2.2.2.2.2.1
  have c26 : w1.frozen? ⟨w.heap.size + 1 + 1 + 1, 1, none⟩ = false := hC1.2.2.2.2.2.2.2.2.2.2.2.2.2.2.2.2.2.2.2.2.2.2.2.2.2.2.1
  have c27 : w1.frozen? ⟨w.heap.size + 1 + 1 + 1, 2, none⟩ = false := hC1.2.2.2.2.2.2.2.2.2.2.2.2.2.2.2.2.2.2.2.2.2.2.2.2.2.2.2.1
  have c28 : w1.frozen? ⟨w.heap.size + 1 + 1 + 1, 3, none⟩ = false := hC1.2.2.2.2.2.2.2.2.2.2.2.2.2.2.2.2.2.2.2.2.2.2.2.2.2.2.2.2.1
  have c29 : w1.frozen? ⟨w.heap.size + 1 + 1 + 1, 4, none⟩ = false := hC1.2.2.2.2.2.2.2.2.2.2.2.2.2.2.2.2.2.2.2.2.2.2.2.2.2.2.2.2.2.1
  have c30 : w1.frozen? ⟨w.heap.size + 1 + 1 + 1, 5, none⟩ = false := hC1.2.2.2.2.2.2.2.2.2.2.2.2.2.2.2.2.2.2.2.2.2.2.2.2.2.2.2.2.2.2.1
  have c31 : Below w.heap.size w w1 := hC1.2.2.2.2.2.2.2.2.2.2.2.2.2.2.2.2.2.2.2.2.2.2.2.2.2.2.2.2.2.2.2
  go_wp2_with fail
  clear c0 c1 c2 c3 c4 c5 c6 c7 c8 c9 c10 c11 c12 c13 c14 c15 c16 c17 c18 c19 c20 c21 c22 c23 c24 c25 c26 c27 c28 c29 c30 c31
  have hB1 : Below w.heap.size w w1 := hC1.2.2.2.2.2.2.2.2.2.2.2.2.2.2.2.2.2.2.2.2.2.2.2.2.2.2.2.2.2.2.2
  refine (specStateOk_c _ _ _ (marksB f a len) _ _ _ _ _ _ _ hl (by intro w' hw'; exact specMarksOk_c b off len cap f a w' hl ((hrow.on hB1).on hw'))).mono ?_
  rintro e w2 ⟨rfl, hb2⟩
  have hC2 := doC_on hC1 hb2
  have c0 : w2.cell? ⟨w.heap.size, 0, none⟩ = some (.int .i64 s) := hC2.1
  have c1 : w2.cell? ⟨w.heap.size, 1, none⟩ = some (.int .i64 j) := hC2.2.1
  have c2 : w2.cell? ⟨w.heap.size, 2, none⟩ = some (.int .i64 m) := hC2.2.2.1
  have c3 : w2.cell? ⟨w.heap.size, 3, none⟩ = some (.int .i64 g) := hC2.2.2.2.1
  have c4 : w2.cell? ⟨w.heap.size, 4, none⟩ = some (.int .i64 o) := hC2.2.2.2.2.1
  have c5 : w2.cell? ⟨w.heap.size + 1, 0, none⟩ = some (.bool kn) := hC2.2.2.2.2.2.1
  have c6 : w2.cell? ⟨w.heap.size + 1, 1, none⟩ = some (.int .i64 l) := hC2.2.2.2.2.2.2.1
  have c7 : w2.cell? ⟨w.heap.size + 1, 2, none⟩ = some (.int .i64 h) := hC2.2.2.2.2.2.2.2.1
  have c8 : w2.cell? ⟨w.heap.size + 1, 3, none⟩ = some (.int .i64 si) := hC2.2.2.2.2.2.2.2.2.1
  have c9 : w2.cell? ⟨w.heap.size + 1, 4, none⟩ = some (.int .i64 la) := hC2.2.2.2.2.2.2.2.2.2.1
  have c10 : w2.cell? ⟨w.heap.size + 1, 5, none⟩ = some (.int .i64 od) := hC2.2.2.2.2.2.2.2.2.2.2.1
  have c11 : w2.cell? ⟨w.heap.size + 1 + 1, 0, none⟩ = some (.int .i64 op) := hC2.2.2.2.2.2.2.2.2.2.2.2.1
  have c12 : w2.cell? ⟨w.heap.size + 1 + 1, 1, none⟩ = some (.int .i64 n) := hC2.2.2.2.2.2.2.2.2.2.2.2.2.1
  have c13 : w2.cell? ⟨w.heap.size + 1 + 1 + 1, 0, none⟩ = some (.bool false) := hC2.2.2.2.2.2.2.2.2.2.2.2.2.2.1
  have c14 : w2.cell? ⟨w.heap.size + 1 + 1 + 1, 1, none⟩ = some (.int .i64 0) := hC2.2.2.2.2.2.2.2.2.2.2.2.2.2.2.1
  have c15 : w2.cell? ⟨w.heap.size + 1 + 1 + 1, 2, none⟩ = some (.int .i64 0) := hC2.2.2.2.2.2.2.2.2.2.2.2.2.2.2.2.1
  have c16 : w2.cell? ⟨w.heap.size + 1 + 1 + 1, 3, none⟩ = some (.int .i64 0) := hC2.2.2.2.2.2.2.2.2.2.2.2.2.2.2.2.2.1
  have c17 : w2.cell? ⟨w.heap.size + 1 + 1 + 1, 4, none⟩ = some (.int .i64 0) := hC2.2.2.2.2.2.2.2.2.2.2.2.2.2.2.2.2.2.1
  have c18 : w2.cell? ⟨w.heap.size + 1 + 1 + 1, 5, none⟩ = some (.int .i64 0) := hC2.2.2.2.2.2.2.2.2.2.2.2.2.2.2.2.2.2.2.1
  have c19 : w2.frozen? ⟨w.heap.size + 1, 0, none⟩ = false := hC2.2.2.2.2.2.2.2.2.2.2.2.2.2.2.2.2.2.2.2.1
  have c20 : w2.frozen? ⟨w.heap.size + 1, 1, none⟩ = false := hC2.2.2.2.2.2.2.2.2.2.2.2.2.2.2.2.2.2.2.2.2.1
  have c21 : w2.frozen? ⟨w.heap.size + 1, 2, none⟩ = false := hC2.2.2.2.2.2.2.2.2.2.2.2.2.2.2.2.2.2.2.2.2.2.1
  have c22 : w2.frozen? ⟨w.heap.size + 1, 3, none⟩ = false := hC2.2.2.2.2.2.2.2.2.2.2.2.2.2.2.2.2.2.2.2.2.2.2.1
  have c23 : w2.frozen? ⟨w.heap.size + 1, 4, none⟩ = false := hC2.2.2.2.2.2.2.2.2.2.2.2.2.2.2.2.2.2.2.2.2.2.2.2.1
  have c24 : w2.frozen? ⟨w.heap.size + 1, 5, none⟩ = false := hC2.2.2.2.2.2.2.2.2.2.2.2.2.2.2.2.2.2.2.2.2.2.2.2.2.1
  have c25 : w2.frozen? ⟨w.heap.size + 1 + 1 + 1, 0, none⟩ = false := hC2.2.2.2.2.2.2.2.2.2.2.2.2.2.2.2.2.2.2.2.2.2.2.2.2.2.1
  have c26 : w2.frozen? ⟨w.heap.size + 1 + 1 + 1, 1, none⟩ = false := hC2.2.2.2.2.2.2.2.2.2.2.2.2.2.2.2.2.2.2.2.2.2.2.2.2.2.2.1
  have c27 : w2.frozen? ⟨w.heap.size + 1 + 1 + 1, 2, none⟩ = false := hC2.2.2.2.2.2.2.2.2.2.2.2.2.2.2.2.2.2.2.2.2.2.2.2.2.2.2.2.1
  have c28 : w2.frozen? ⟨w.heap.size + 1 + 1 + 1, 3, none⟩ = false := hC2.2.2.2.2.2.2.2.2.2.2.2.2.2.2.2.2.2.2.2.2.2.2.2.2.2.2.2.2.1
  have c29 : w2.frozen? ⟨w.heap.size + 1 + 1 + 1, 4, none⟩ = false := hC2.2.2.2.2.2.2.2.2.2.2.2.2.2.2.2.2.2.2.2.2.2.2.2.2.2.2.2.2.2.1
  have c30 : w2.frozen? ⟨w.heap.size + 1 + 1 + 1, 5, none⟩ = false := hC2.2.2.2.2.2.2.2.2.2.2.2.2.2.2.2.2.2.2.2.2.2.2.2.2.2.2.2.2.2.2.1
  have c31 : Below w.heap.size w w2 := hC2.2.2.2.2.2.2.2.2.2.2.2.2.2.2.2.2.2.2.2.2.2.2.2.2.2.2.2.2.2.2.2
  go_wp2_with fail
  clear c0 c1 c2 c3 c4 c5 c6 c7 c8 c9 c10 c11 c12 c13 c14 c15 c16 c17 c18 c19 c20 c21 c22 c23 c24 c25 c26 c27 c28 c29 c30 c31
  refine (specEventOk_c _ _ _).mono ?_
  rintro e w3 ⟨rfl, hb3⟩
  have hC3 := doC_on hC2 hb3
  have c0 : w3.cell? ⟨w.heap.size, 0, none⟩ = some (.int .i64 s) := hC3.1
  have c1 : w3.cell? ⟨w.heap.size, 1, none⟩ = some (.int .i64 j) := hC3.2.1
  have c2 : w3.cell? ⟨w.heap.size, 2, none⟩ = some (.int .i64 m) := hC3.2.2.1
  have c3 : w3.cell? ⟨w.heap.size, 3, none⟩ = some (.int .i64 g) := hC3.2.2.2.1
  have c4 : w3.cell? ⟨w.heap.size, 4, none⟩ = some (.int .i64 o) := hC3.2.2.2.2.1
  have c5 : w3.cell? ⟨w.heap.size + 1, 0, none⟩ = some (.bool kn) := hC3.2.2.2.2.2.1
  have c6 : w3.cell? ⟨w.heap.size + 1, 1, none⟩ = some (.int .i64 l) := hC3.2.2.2.2.2.2.1
  have c7 : w3.cell? ⟨w.heap.size + 1, 2, none⟩ = some (.int .i64 h) := hC3.2.2.2.2.2.2.2.1
  have c8 : w3.cell? ⟨w.heap.size + 1, 3, none⟩ = some (.int .i64 si) := hC3.2.2.2.2.2.2.2.2.1
  have c9 : w3.cell? ⟨w.heap.size + 1, 4, none⟩ = some (.int .i64 la) := hC3.2.2.2.2.2.2.2.2.2.1
  have c10 : w3.cell? ⟨w.heap.size + 1, 5, none⟩ = some (.int .i64 od) := hC3.2.2.2.2.2.2.2.2.2.2.1
  have c11 : w3.cell? ⟨w.heap.size + 1 + 1, 0, none⟩ = some (.int .i64 op) := hC3.2.2.2.2.2.2.2.2.2.2.2.1
  have c12 : w3.cell? ⟨w.heap.size + 1 + 1, 1, none⟩ = some (.int .i64 n) := hC3.2.2.2.2.2.2.2.2.2.2.2.2.1
  have c13 : w3.cell? ⟨w.heap.size + 1 + 1 + 1, 0, none⟩ = some (.bool false) := hC3.2.2.2.2.2.2.2.2.2.2.2.2.2.1
  have c14 : w3.cell? ⟨w.heap.size + 1 + 1 + 1, 1, none⟩ = some (.int .i64 0) := hC3.2.2.2.2.2.2.2.2.2.2.2.2.2.2.1
  have c15 : w3.cell? ⟨w.heap.size + 1 + 1 + 1, 2, none⟩ = some (.int .i64 0) := hC3.2.2.2.2.2.2.2.2.2.2.2.2.2.2.2.1
  have c16 : w3.cell? ⟨w.heap.size + 1 + 1 + 1, 3, none⟩ = some (.int .i64 0) := hC3.2.2.2.2.2.2.2.2.2.2.2.2.2.2.2.2.1
  have c17 : w3.cell? ⟨w.heap.size + 1 + 1 + 1, 4, none⟩ = some (.int .i64 0) := hC3.2.2.2.2.2.2.2.2.2.2.2.2.2.2.2.2.2.1
  have c18 : w3.cell? ⟨w.heap.size + 1 + 1 + 1, 5, none⟩ = some (.int .i64 0) := hC3.2.2.2.2.2.2.2.2.2.2.2.2.2.2.2.2.2.2.1
  have c19 : w3.frozen? ⟨w.heap.size + 1, 0, none⟩ = false := hC3.2.2.2.2.2.2.2.2.2.2.2.2.2.2.2.2.2.2.2.1
  have c20 : w3.frozen? ⟨w.heap.size + 1, 1, none⟩ = false := hC3.2.2.2.2.2.2.2.2.2.2.2.2.2.2.2.2.2.2.2.2.1
  have c21 : w3.frozen? ⟨w.heap.size + 1, 2, none⟩ = false := hC3.2.2.2.2.2.2.2.2.2.2.2.2.2.2.2.2.2.2.2.2.2.1
  have c22 : w3.frozen? ⟨w.heap.size + 1, 3, none⟩ = false := hC3.2.2.2.2.2.2.2.2.2.2.2.2.2.2.2.2.2.2.2.2.2.2.1
  have c23 : w3.frozen? ⟨w.heap.size + 1, 4, none⟩ = false := hC3.2.2.2.2.2.2.2.2.2.2.2.2.2.2.2.2.2.2.2.2.2.2.2.1
  have c24 : w3.frozen? ⟨w.heap.size + 1, 5, none⟩ = false := hC3.2.2.2.2.2.2.2.2.2.2.2.2.2.2.2.2.2.2.2.2.2.2.2.2.1
  have c25 : w3.frozen? ⟨w.heap.size + 1 + 1 + 1, 0, none⟩ = false := hC3.2.2.2.2.2.2.2.2.2.2.2.2.2.2.2.2.2.2.2.2.2.2.2.2.2.1
  have c26 : w3.frozen? ⟨w.heap.size + 1 + 1 + 1, 1, none⟩ = false := hC3.2.2.2.2.2.2.2.2.2.2.2.2.2.2.2.2.2.2.2.2.2.2.2.2.2.2.1
  have c27 : w3.frozen? ⟨w.heap.size + 1 + 1 + 1, 2, none⟩ = false := hC3.2.2.2.2.2.2.2.2.2.2.2.2.2.2.2.2.2.2.2.2.2.2.2.2.2.2.2.1
  have c28 : w3.frozen? ⟨w.heap.size + 1 + 1 + 1, 3, none⟩ = false := hC3.2.2.2.2.2.2.2.2.2.2.2.2.2.2.2.2.2.2.2.2.2.2.2.2.2.2.2.2.1
  have c29 : w3.frozen? ⟨w.heap.size + 1 + 1 + 1, 4, none⟩ = false := hC3.2.2.2.2.2.2.2.2.2.2.2.2.2.2.2.2.2.2.2.2.2.2.2.2.2.2.2.2.2.1
  have c30 : w3.frozen? ⟨w.heap.size + 1 + 1 + 1, 5, none⟩ = false := hC3.2.2.2.2.2.2.2.2.2.2.2.2.2.2.2.2.2.2.2.2.2.2.2.2.2.2.2.2.2.2.1
  have c31 : Below w.heap.size w w3 := hC3.2.2.2.2.2.2.2.2.2.2.2.2.2.2.2.2.2.2.2.2.2.2.2.2.2.2.2.2.2.2.2
  go_wp2_with fail
  have hq1 : w.heap.size ≤ w.heap.size + 1 := by omega
  have hq3 : w.heap.size ≤ w.heap.size + 1 + 1 + 1 := by omega
  exact bodyPost_ret (v := .agg #[.bool kn, .int .i64 l, .int .i64 h, .int .i64 si, .int .i64 la, .int .i64 od]) (by simp [results, Tryd.results31, go_sem, *]) rfl ⟨rfl, (nbSetX (nbSetX (nbSetX (nbSetX (nbSetX (nbSetX c31 hq3) hq3) hq3) hq3) hq3) hq3)⟩

set_option maxHeartbeats 4000000 in
theorem specDo_lose (b off len cap : Nat) (f a : Nat → Int) (s j m g o : Int) (kn : Bool) (l h si la od op n : Int) (w : World) (hl : len ≤ 1048576) (hrow : Row2 w b off len f a) (hr : rOk s j m g o = true) (hst : stB (marksB f a len) len kn l h si la od = true) (hev : evB op n = true) (hop : (op == 4) = true) :
    Calls Tryd.prog 31 #[.agg #[.int .i64 s, .int .i64 j, .int .i64 m, .int .i64 g, .int .i64 o], .slice (some ⟨b, off, none⟩) len cap, .agg #[.bool kn, .int .i64 l, .int .i64 h, .int .i64 si, .int .i64 la, .int .i64 od], .agg #[.int .i64 op, .int .i64 n]] w fun e w' => e = .returned (.agg #[.bool false, .int .i64 0, .int .i64 0, .int .i64 0, .int .i64 (-1), .int .i64 od]) ∧ Below w.heap.size w w' := by
  have h1 : (op == 1) = false := by rw [eq_of_beq hop]; rfl
  have h2 : (op == 2) = false := by rw [eq_of_beq hop]; rfl
  go_enter Tryd.func31, Tryd.ntmps31
  go_wp2_with fail
  refine (specRulesOk_c _ _ _ _ _ _).mono ?_
  rintro e w1 ⟨rfl, hb1⟩
  have hC1 : doC w s j m g o kn l h si la od op n w1 := ⟨cellOn hb1 (by go_simp), cellOn hb1 (by go_simp), cellOn hb1 (by go_simp), cellOn hb1 (by go_simp), cellOn hb1 (by go_simp), cellOn hb1 (by go_simp), cellOn hb1 (by go_simp), cellOn hb1 (by go_simp), cellOn hb1 (by go_simp), cellOn hb1 (by go_simp), cellOn hb1 (by go_simp), cellOn hb1 (by go_simp), cellOn hb1 (by go_simp), cellOn hb1 (by go_simp), cellOn hb1 (by go_simp), cellOn hb1 (by go_simp), cellOn hb1 (by go_simp), cellOn hb1 (by go_simp), cellOn hb1 (by go_simp), frozenOn hb1 (v := .bool kn) (by go_simp) (by go_simp), frozenOn hb1 (v := .int .i64 l) (by go_simp) (by go_simp), frozenOn hb1 (v := .int .i64 h) (by go_simp) (by go_simp), frozenOn hb1 (v := .int .i64 si) (by go_simp) (by go_simp), frozenOn hb1 (v := .int .i64 la) (by go_simp) (by go_simp), frozenOn hb1 (v := .int .i64 od) (by go_simp) (by go_simp), frozenOn hb1 (v := .bool false) (by go_simp) (by go_simp), frozenOn hb1 (v := .int .i64 0) (by go_simp) (by go_simp), frozenOn hb1 (v := .int .i64 0) (by go_simp) (by go_simp), frozenOn hb1 (v := .int .i64 0) (by go_simp) (by go_simp), frozenOn hb1 (v := .int .i64 0) (by go_simp) (by go_simp), frozenOn hb1 (v := .int .i64 0) (by go_simp) (by go_simp), nbTrans (nbAlloc (nbAlloc (nbAlloc (nbAlloc (Below.refl _ _) _) _) _) _) hb1⟩
  have c0 : w1.cell? ⟨w.heap.size, 0, none⟩ = some (.int .i64 s) := hC1.1
  have c1 : w1.cell? ⟨w.heap.size, 1, none⟩ = some (.int .i64 j) := hC1.2.1
  have c2 : w1.cell? ⟨w.heap.size, 2, none⟩ = some (.int .i64 m) := hC1.2.2.1
  have c3 : w1.cell? ⟨w.heap.size, 3, none⟩ = some (.int .i64 g) := hC1.2.2.2.1
  have c4 : w1.cell? ⟨w.heap.size, 4, none⟩ = some (.int .i64 o) := hC1.2.2.2.2.1
  have c5 : w1.cell? ⟨w.heap.size + 1, 0, none⟩ = some (.bool kn) := hC1.2.2.2.2.2.1
  have c6 : w1.cell? ⟨w.heap.size + 1, 1, none⟩ = some (.int .i64 l) := hC1.2.2.2.2.2.2.1
  have c7 : w1.cell? ⟨w.heap.size + 1, 2, none⟩ = some (.int .i64 h) := hC1.2.2.2.2.2.2.2.1
  have c8 : w1.cell? ⟨w.heap.size + 1, 3, none⟩ = some (.int .i64 si) := hC1.2.2.2.2.2.2.2.2.1
  have c9 : w1.cell? ⟨w.heap.size + 1, 4, none⟩ = some (.int .i64 la) := hC1.2.2.2.2.2.2.2.2.2.1
  have c10 : w1.cell? ⟨w.heap.size + 1, 5, none⟩ = some (.int .i64 od) := hC1.2.2.2.2.2.2.2.2.2.2.1
  have c11 : w1.cell? ⟨w.heap.size + 1 + 1, 0, none⟩ = some (.int .i64 op) := hC1.2.2.2.2.2.2.2.2.2.2.2.1
  have c12 : w1.cell? ⟨w.heap.size + 1 + 1, 1, none⟩ = some (.int .i64 n) := hC1.2.2.2.2.2.2.2.2.2.2.2.2.1
  have c13 : w1.cell? ⟨w.heap.size + 1 + 1 + 1, 0, none⟩ = some (.bool false) := hC1.2.2.2.2.2.2.2.2.2.2.2.2.2.1
  have c14 : w1.cell? ⟨w.heap.size + 1 + 1 + 1, 1, none⟩ = some (.int .i64 0) := hC1.2.2.2.2.2.2.2.2.2.2.2.2.2.2.1
  have c15 : w1.cell? ⟨w.heap.size + 1 + 1 + 1, 2, none⟩ = some (.int .i64 0) := hC1.2.2.2.2.2.2.2.2.2.2.2.2.2.2.2.1
  have c16 : w1.cell? ⟨w.heap.size + 1 + 1 + 1, 3, none⟩ = some (.int .i64 0) := hC1.2.2.2.2.2.2.2.2.2.2.2.2.2.2.2.2.1
  have c17 : w1.cell? ⟨w.heap.size + 1 + 1 + 1, 4, none⟩ = some (.int .i64 0) := hC1.2.2.2.2.2.2.2.2.2.2.2.2.2.2.2.2.2.1
  have c18 : w1.cell? ⟨w.heap.size + 1 + 1 + 1, 5, none⟩ = some (.int .i64 0) := hC1.2.2.2.2.2.2.2.2.2.2.2.2.2.2.2.2.2.2.1
  have c19 : w1.frozen? ⟨w.heap.size + 1, 0, none⟩ = false := hC1.2.2.2.2.2.2.2.2.2.2.2.2.2.2.2.2.2.2.2.1
  have c20 : w1.frozen? ⟨w.heap.size + 1, 1, none⟩ = false := hC1.2.2.2.2.2.2.2.2.2.2.2.2.2.2.2.2.2.2.2.2.1
  have c21 : w1.frozen? ⟨w.heap.size + 1, 2, none⟩ = false := hC1.2.2.2.2.2.2.2.2.2.2.2.2.2.2.2.2.2.2.2.2.2.1
  have c22 : w1.frozen? ⟨w.heap.size + 1, 3, none⟩ = false := hC1.2.2.2.2.2.2.2.2.2.2.2.2.2.2.2.2.2.2.2.2.2.2.1
  have c23 : w1.frozen? ⟨w.heap.size + 1, 4, none⟩ = false := hC1.2.2.2.2.2.2.2.2.2.2.2.2.2.2.2.2.2.2.2.2.2.2.2.1
  have c24 : w1.frozen? ⟨w.heap.size + 1, 5, none⟩ = false := hC1.2.2.2.2.2.2.2.2.2.2.2.2.2.2.2.2.2.2.2.2.2.2.2.2.1
  have c25 : w1.frozen? ⟨w.heap.size + 1 + 1 + 1, 0, none⟩ = false := hC1.2.2.2.2.2.2.2.2.2.2.2.2.2.2.2.2.2.2.2.2.2.2.2.2.2.1
  have c26 : w1.frozen? ⟨w.heap.size + 1 + 1 + 1, 1, none⟩ = false := hC1.2.2.2.2.2.2.2.2.2.2.2.2.2.2.2.2.2.2.2.2.2.2.2.2.2.2.1
  have c27 : w1.frozen? ⟨w.heap.size + 1 + 1 + 1, 2, none⟩ = false := hC1.2.2.2.2.2.2.2.2.2.2.2.2.2.2.2.2.2.2.2.2.2.2.2.2.2.2.2.1
  have c28 : w1.frozen? ⟨w.heap.size + 1 + 1 + 1, 3, none⟩ = false := hC1.2.2.2.2.2.2.2.2.2.2.2.2.2.2.2.2.2.2.2.2.2.2.2.2.2.2.2.2.1
  have c29 : w1.frozen? ⟨w.heap.size + 1 + 1 + 1, 4, none⟩ = false := hC1.2.2.2.2.2.2.2.2.2.2.2.2.2.2.2.2.2.2.2.2.2.2.2.2.2.2.2.2.2.1
  have c30 : w1.frozen? ⟨w.heap.size + 1 + 1 + 1, 5, none⟩ = false := hC1.2.2.2.2.2.2.2.2.2.2.2.2.2.2.2.2.2.2.2.2.2.2.2.2.2.2.2.2.2.2.1
  have c31 : Below w.heap.size w w1 := hC1.2.2.2.2.2.2.2.2.2.2.2.2.2.2.2.2.2.2.2.2.2.2.2.2.2.2.2.2.2.2.2
  go_wp2_with fail
  clear c0 c1 c2 c3 c4 c5 c6 c7 c8 c9 c10 c11 c12 c13 c14 c15 c16 c17 c18 c19 c20 c21 c22 c23 c24 c25 c26 c27 c28 c29 c30 c31
  have hB1 : Below w.heap.size w w1 := hC1.2.2.2.2.2.2.2.2.2.2.2.2.2.2.2.2.2.2.2.2.2.2.2.2.2.2.2.2.2.2.2
  refine (specStateOk_c _ _ _ (marksB f a len) _ _ _ _ _ _ _ hl (by intro w' hw'; exact specMarksOk_c b off len cap f a w' hl ((hrow.on hB1).on hw'))).mono ?_
  rintro e w2 ⟨rfl, hb2⟩
  have hC2 := doC_on hC1 hb2
  have c0 : w2.cell? ⟨w.heap.size, 0, none⟩ = some (.int .i64 s) := hC2.1
  have c1 : w2.cell? ⟨w.heap.size, 1, none⟩ = some (.int .i64 j) := hC2.2.1
  have c2 : w2.cell? ⟨w.heap.size, 2, none⟩ = some (.int .i64 m) := hC2.2.2.1
  have c3 : w2.cell? ⟨w.heap.size, 3, none⟩ = some (.int .i64 g) := hC2.2.2.2.1
  have c4 : w2.cell? ⟨w.heap.size, 4, none⟩ = some (.int .i64 o) := hC2.2.2.2.2.1
  have c5 : w2.cell? ⟨w.heap.size + 1, 0, none⟩ = some (.bool kn) := hC2.2.2.2.2.2.1
  have c6 : w2.cell? ⟨w.heap.size + 1, 1, none⟩ = some (.int .i64 l) := hC2.2.2.2.2.2.2.1
  have c7 : w2.cell? ⟨w.heap.size + 1, 2, none⟩ = some (.int .i64 h) := hC2.2.2.2.2.2.2.2.1
  have c8 : w2.cell? ⟨w.heap.size + 1, 3, none⟩ = some (.int .i64 si) := hC2.2.2.2.2.2.2.2.2.1
  have c9 : w2.cell? ⟨w.heap.size + 1, 4, none⟩ = some (.int .i64 la) := hC2.2.2.2.2.2.2.2.2.2.1
  have c10 : w2.cell? ⟨w.heap.size + 1, 5, none⟩ = some (.int .i64 od) := hC2.2.2.2.2.2.2.2.2.2.2.1
  have c11 : w2.cell? ⟨w.heap.size + 1 + 1, 0, none⟩ = some (.int .i64 op) := hC2.2.2.2.2.2.2.2.2.2.2.2.1
  have c12 : w2.cell? ⟨w.heap.size + 1 + 1, 1, none⟩ = some (.int .i64 n) := hC2.2.2.2.2.2.2.2.2.2.2.2.2.1
  have c13 : w2.cell? ⟨w.heap.size + 1 + 1 + 1, 0, none⟩ = some (.bool false) := hC2.2.2.2.2.2.2.2.2.2.2.2.2.2.1
  have c14 : w2.cell? ⟨w.heap.size + 1 + 1 + 1, 1, none⟩ = some (.int .i64 0) := hC2.2.2.2.2.2.2.2.2.2.2.2.2.2.2.1
  have c15 : w2.cell? ⟨w.heap.size + 1 + 1 + 1, 2, none⟩ = some (.int .i64 0) := hC2.2.2.2.2.2.2.2.2.2.2.2.2.2.2.2.1
  have c16 : w2.cell? ⟨w.heap.size + 1 + 1 + 1, 3, none⟩ = some (.int .i64 0) := hC2.2.2.2.2.2.2.2.2.2.2.2.2.2.2.2.2.1
  have c17 : w2.cell? ⟨w.heap.size + 1 + 1 + 1, 4, none⟩ = some (.int .i64 0) := hC2.2.2.2.2.2.2.2.2.2.2.2.2.2.2.2.2.2.1
  have c18 : w2.cell? ⟨w.heap.size + 1 + 1 + 1, 5, none⟩ = some (.int .i64 0) := hC2.2.2.2.2.2.2.2.2.2.2.2.2.2.2.2.2.2.2.1
  have c19 : w2.frozen? ⟨w.heap.size + 1, 0, none⟩ = false := hC2.2.2.2.2.2.2.2.2.2.2.2.2.2.2.2.2.2.2.2.1
  have c20 : w2.frozen? ⟨w.heap.size + 1, 1, none⟩ = false := hC2.2.2.2.2.2.2.2.2.2.2.2.2.2.2.2.2.2.2.2.2.1
  have c21 : w2.frozen? ⟨w.heap.size + 1, 2, none⟩ = false := hC2.2.2.2.2.2.2.2.2.2.2.2.2.2.2.2.2.2.2.2.2.2.1
  have c22 : w2.frozen? ⟨w.heap.size + 1, 3, none⟩ = false := hC2.2.2.2.2.2.2.2.2.2.2.2.2.2.2.2.2.2.2.2.2.2.2.1
  have c23 : w2.frozen? ⟨w.heap.size + 1, 4, none⟩ = false := hC2.2.2.2.2.2.2.2.2.2.2.2.2.2.2.2.2.2.2.2.2.2.2.2.1
  have c24 : w2.frozen? ⟨w.heap.size + 1, 5, none⟩ = false := hC2.2.2.2.2.2.2.2.2.2.2.2.2.2.2.2.2.2.2.2.2.2.2.2.2.1
  have c25 : w2.frozen? ⟨w.heap.size + 1 + 1 + 1, 0, none⟩ = false := hC2.2.2.2.2.2.2.2.2.2.2.2.2.2.2.2.2.2.2.2.2.2.2.2.2.2.1
  have c26 : w2.frozen? ⟨w.heap.size + 1 + 1 + 1, 1, none⟩ = false := hC2.2.2.2.2.2.2.2.2.2.2.2.2.2.2.2.2.2.2.2.2.2.2.2.2.2.2.1
  have c27 : w2.frozen? ⟨w.heap.size + 1 + 1 + 1, 2, none⟩ = false := hC2.2.2.2.2.2.2.2.2.2.2.2.2.2.2.2.2.2.2.2.2.2.2.2.2.2.2.2.1
  have c28 : w2.frozen? ⟨w.heap.size + 1 + 1 + 1, 3, none⟩ = false := hC2.2.2.2.2.2.2.2.2.2.2.2.2.2.2.2.2.2.2.2.2.2.2.2.2.2.2.2.2.1
  have c29 : w2.frozen? ⟨w.heap.size + 1 + 1 + 1, 4, none⟩ = false := hC2.2.2.2.2.2.2.2.2.2.2.2.2.2.2.2.2.2.2.2.2.2.2.2.2.2.2.2.2.2.1
  have c30 : w2.frozen? ⟨w.heap.size + 1 + 1 + 1, 5, none⟩ = false := hC2.2.2.2.2.2.2.2.2.2.2.2.2.2.2.2.2.2.2.2.2.2.2.2.2.2.2.2.2.2.2.1
  have c31 : Below w.heap.size w w2 := hC2.2.2.2.2.2.2.2.2.2.2.2.2.2.2.2.2.2.2.2.2.2.2.2.2.2.2.2.2.2.2.2
  go_wp2_with fail
  clear c0 c1 c2 c3 c4 c5 c6 c7 c8 c9 c10 c11 c12 c13 c14 c15 c16 c17 c18 c19 c20 c21 c22 c23 c24 c25 c26 c27 c28 c29 c30 c31
  refine (specEventOk_c _ _ _).mono ?_
  rintro e w3 ⟨rfl, hb3⟩
  have hC3 := doC_on hC2 hb3
  have c0 : w3.cell? ⟨w.heap.size, 0, none⟩ = some (.int .i64 s) := hC3.1
  have c1 : w3.cell? ⟨w.heap.size, 1, none⟩ = some (.int .i64 j) := hC3.2.1
  have c2 : w3.cell? ⟨w.heap.size, 2, none⟩ = some (.int .i64 m) := hC3.2.2.1
  have c3 : w3.cell? ⟨w.heap.size, 3, none⟩ = some (.int .i64 g) := hC3.2.2.2.1
  have c4 : w3.cell? ⟨w.heap.size, 4, none⟩ = some (.int .i64 o) := hC3.2.2.2.2.1
  have c5 : w3.cell? ⟨w.heap.size + 1, 0, none⟩ = some (.bool kn) := hC3.2.2.2.2.2.1
  have c6 : w3.cell? ⟨w.heap.size + 1, 1, none⟩ = some (.int .i64 l) := hC3.2.2.2.2.2.2.1
  have c7 : w3.cell? ⟨w.heap.size + 1, 2, none⟩ = some (.int .i64 h) := hC3.2.2.2.2.2.2.2.1
  have c8 : w3.cell? ⟨w.heap.size + 1, 3, none⟩ = some (.int .i64 si) := hC3.2.2.2.2.2.2.2.2.1
  have c9 : w3.cell? ⟨w.heap.size + 1, 4, none⟩ = some (.int .i64 la) := hC3.2.2.2.2.2.2.2.2.2.1
  have c10 : w3.cell? ⟨w.heap.size + 1, 5, none⟩ = some (.int .i64 od) := hC3.2.2.2.2.2.2.2.2.2.2.1
  have c11 : w3.cell? ⟨w.heap.size + 1 + 1, 0, none⟩ = some (.int .i64 op) := hC3.2.2.2.2.2.2.2.2.2.2.2.1
  have c12 : w3.cell? ⟨w.heap.size + 1 + 1, 1, none⟩ = some (.int .i64 n) := hC3.2.2.2.2.2.2.2.2.2.2.2.2.1
  have c13 : w3.cell? ⟨w.heap.size + 1 + 1 + 1, 0, none⟩ = some (.bool false) := hC3.2.2.2.2.2.2.2.2.2.2.2.2.2.1
  have c14 : w3.cell? ⟨w.heap.size + 1 + 1 + 1, 1, none⟩ = some (.int .i64 0) := hC3.2.2.2.2.2.2.2.2.2.2.2.2.2.2.1
  have c15 : w3.cell? ⟨w.heap.size + 1 + 1 + 1, 2, none⟩ = some (.int .i64 0) := hC3.2.2.2.2.2.2.2.2.2.2.2.2.2.2.2.1
  have c16 : w3.cell? ⟨w.heap.size + 1 + 1 + 1, 3, none⟩ = some (.int .i64 0) := hC3.2.2.2.2.2.2.2.2.2.2.2.2.2.2.2.2.1
  have c17 : w3.cell? ⟨w.heap.size + 1 + 1 + 1, 4, none⟩ = some (.int .i64 0) := hC3.2.2.2.2.2.2.2.2.2.2.2.2.2.2.2.2.2.1
  have c18 : w3.cell? ⟨w.heap.size + 1 + 1 + 1, 5, none⟩ = some (.int .i64 0) := hC3.2.2.2.2.2.2.2.2.2.2.2.2.2.2.2.2.2.2.1
  have c19 : w3.frozen? ⟨w.heap.size + 1, 0, none⟩ = false := hC3.2.2.2.2.2.2.2.2.2.2.2.2.2.2.2.2.2.2.2.1
  have c20 : w3.frozen? ⟨w.heap.size + 1, 1, none⟩ = false := hC3.2.2.2.2.2.2.2.2.2.2.2.2.2.2.2.2.2.2.2.2.1
  have c21 : w3.frozen? ⟨w.heap.size + 1, 2, none⟩ = false := hC3.2.2.2.2.2.2.2.2.2.2.2.2.2.2.2.2.2.2.2.2.2.1
  have c22 : w3.frozen? ⟨w.heap.size + 1, 3, none⟩ = false := hC3.2.2.2.2.2.2.2.2.2.2.2.2.2.2.2.2.2.2.2.2.2.2.1
  have c23 : w3.frozen? ⟨w.heap.size + 1, 4, none⟩ = false := hC3.2.2.2.2.2.2.2.2.2.2.2.2.2.2.2.2.2.2.2.2.2.2.2.1
  have c24 : w3.frozen? ⟨w.heap.size + 1, 5, none⟩ = false := hC3.2.2.2.2.2.2.2.2.2.2.2.2.2.2.2.2.2.2.2.2.2.2.2.2.1
  have c25 : w3.frozen? ⟨w.heap.size + 1 + 1 + 1, 0, none⟩ = false := hC3.2.2.2.2.2.2.2.2.2.2.2.2.2.2.2.2.2.2.2.2.2.2.2.2.2.1
  have c26 : w3.frozen? ⟨w.heap.size + 1 + 1 + 1, 1, none⟩ = false := hC3.2.2.2.2.2.2.2.2.2.2.2.2.2.2.2.2.2.2.2.2.2.2.2.2.2.2.1
  have c27 : w3.frozen? ⟨w.heap.size + 1 + 1 + 1, 2, none⟩ = false := hC3.2.2.2.2.2.2.2.2.2.2.2.2.2.2.2.2.2.2.2.2.2.2.2.2.2.2.2.1
  have c28 : w3.frozen? ⟨w.heap.size + 1 + 1 + 1, 3, none⟩ = false := hC3.2.2.2.2.2.2.2.2.2.2.2.2.2.2.2.2.2.2.2.2.2.2.2.2.2.2.2.2.1
  have c29 : w3.frozen? ⟨w.heap.size + 1 + 1 + 1, 4, none⟩ = false := hC3.2.2.2.2.2.2.2.2.2.2.2.2.2.2.2.2.2.2.2.2.2.2.2.2.2.2.2.2.2.1
  have c30 : w3.frozen? ⟨w.heap.size + 1 + 1 + 1, 5, none⟩ = false := hC3.2.2.2.2.2.2.2.2.2.2.2.2.2.2.2.2.2.2.2.2.2.2.2.2.2.2.2.2.2.2.1
  have c31 : Below w.heap.size w w3 := hC3.2.2.2.2.2.2.2.2.2.2.2.2.2.2.2.2.2.2.2.2.2.2.2.2.2.2.2.2.2.2.2
  go_wp2_with fail
  have hq1 : w.heap.size ≤ w.heap.size + 1 := by omega
  have hq3 : w.heap.size ≤ w.heap.size + 1 + 1 + 1 := by omega
  exact bodyPost_ret (v := .agg #[.bool false, .int .i64 0, .int .i64 0, .int .i64 0, .int .i64 (-1), .int .i64 od]) (by simp [results, Tryd.results31, go_sem, *]) rfl ⟨rfl, (nbSetX (nbSetX (nbSetX (nbSetX (nbSetX (nbSetX c31 hq3) hq3) hq3) hq3) hq3) hq3)⟩

end Go.Proofs.YtmhppadblddjoaaDoor

