/- Plain arithmetic of the wheels: no Go in it. -/
import Derived.Test.YtmhppadblddjoaaRows
namespace Go.Proofs.Ytmhppadblddjoaa

/-- The least way that wheels can have come. -/
def lst (s j c : Int) : Int := (1000 * max (c - j) 0 + (1000 + s) - 1) / (1000 + s)
/-- The most. -/
def mst (s j c : Int) : Int := (1000 * (c + j)) / (1000 - s)

theorem lst_iff {s j c f : Int} (hs : 0 ≤ s) (hf : 0 ≤ f) : lst s j c ≤ f ↔ 1000 * (c - f) ≤ s * f + 1000 * j := by
  unfold lst
  have hp : (0 : Int) < 1000 + s := by omega
  rw [← Int.lt_add_one_iff, Int.ediv_lt_iff_lt_mul hp]
  have e : (f + 1) * (1000 + s) = 1000 * f + s * f + (1000 + s) := by
    rw [Int.add_mul, Int.mul_add, Int.one_mul, Int.mul_comm f 1000, Int.mul_comm f s]
  rw [e]
  have h0 : 0 ≤ s * f := Int.mul_nonneg hs hf
  generalize s * f = p at *
  omega

theorem lst_nonneg {s j c : Int} (hs : 0 ≤ s) : 0 ≤ lst s j c := by
  unfold lst
  exact Int.ediv_nonneg (by omega) (by omega)

theorem lst_le {s j c : Int} (hs : 0 ≤ s) (hj : 0 ≤ j) (hc : 0 ≤ c) : lst s j c ≤ c := by
  rw [lst_iff hs hc]
  have h0 : 0 ≤ s * c := Int.mul_nonneg hs hc
  omega

theorem mst_iff {s j c f : Int} (hs : s ≤ 500) : f ≤ mst s j c ↔ 1000 * (f - c) ≤ s * f + 1000 * j := by
  unfold mst
  have hp : (0 : Int) < 1000 - s := by omega
  rw [Int.le_ediv_iff_mul_le hp]
  have e : f * (1000 - s) = 1000 * f - s * f := by
    rw [Int.mul_sub, Int.mul_comm f 1000, Int.mul_comm f s]
  rw [e]
  generalize s * f = p at *
  omega

theorem mst_ge {s j c : Int} (hs0 : 0 ≤ s) (hs : s ≤ 500) (hj : 0 ≤ j) (hc : 0 ≤ c) : c ≤ mst s j c := by
  rw [mst_iff hs]
  have h0 : 0 ≤ s * c := Int.mul_nonneg hs0 hc
  omega

theorem mst_le {s j c : Int} (_hs0 : 0 ≤ s) (hs : s ≤ 500) (hj : j ≤ 1000) (hc : c ≤ 100000) : mst s j c ≤ 202000 := by
  unfold mst
  have hp : (0 : Int) < 1000 - s := by omega
  rw [← Int.lt_add_one_iff, Int.ediv_lt_iff_lt_mul hp]
  have e : (202000 + 1) * (1000 - s) = 202001000 - 202001 * s := by omega
  rw [e]
  omega

end Go.Proofs.Ytmhppadblddjoaa
