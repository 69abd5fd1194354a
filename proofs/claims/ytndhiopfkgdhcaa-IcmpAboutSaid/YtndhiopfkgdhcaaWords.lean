/- Words of bytes, and sums, at any length's name. -/
import Derived.Test.YtndhiopfkgdhcaaCsumB
import Derived.Test.YtndhiopfkgdhcaaOwn
namespace Go.Proofs.Ytndhiopfkgdhcaa
open Go.ChangeShapes Go.WideShapes Go.ChangeAt Go.RowKit
set_option linter.unusedVariables false

theorem wrds_at : ∀ (j : Nat) (q : List UInt8), 2 * j + 1 < q.length → (wrds q)[j]? = some (wd q (2 * j))
  | 0, a :: b :: r, _ => by simp [wrds, wd, g8, Int.mul_comm]
  | j + 1, a :: b :: r, h => by
    have ih := wrds_at j r (by simp at h; omega)
    simp only [wrds, List.getElem?_cons_succ, ih]
    congr 1
  | 0, [], h => by simp at h
  | 0, [a], h => by simp at h
  | j + 1, [], h => by simp at h
  | j + 1, [a], h => by simp at h
theorem wd_take (l : List UInt8) (n k : Nat) (hk : k + 1 < n) (hl : n ≤ l.length) : wd (l.take n) k = wd l k := by
  unfold wd
  rw [g8_at _ k (by rw [List.length_take]; omega), g8_at _ (k + 1) (by rw [List.length_take]; omega), g8_at l k (by omega), g8_at l (k + 1) (by omega), List.getElem_take, List.getElem_take]
/-- the ten words of a head. -/
theorem words20 {w' : World} {base : Nat} {v : Value} {l : List UInt8} (hl : 20 ≤ l.length) (h : w'.ownsRow base 55 1 v (wrds (l.take 20)).length ((wrds (l.take 20)).map (Value.int .u16))) :
    ∃ g c, v = .slice (some ⟨g, 0, none⟩) 10 c ∧ base ≤ g ∧ g < w'.heap.size ∧ ∀ j, j < 10 → w'.cell? ⟨g, j, none⟩ = some (.int .u16 (wd l (2 * j))) := by
  have hn : (wrds (l.take 20)).length = 10 := by rw [wrds_length, List.length_take]; omega
  rw [hn] at h
  obtain ⟨g, c, rfl, h1, h2, _, _⟩ := own_form h (by omega)
  refine ⟨g, c, rfl, h1, h2, fun j hj => ?_⟩
  rw [own_cell h j (by simp [hn]; exact hj)]
  have := wrds_at j (l.take 20) (by rw [List.length_take]; omega)
  rw [wd_take l 20 (2 * j) (by omega) hl] at this
  rw [List.getElem_map]
  congr 2
  rw [List.getElem?_eq_getElem (by omega)] at this
  exact Option.some.inj this
theorem rwords_n (A : Option Addr) (n c : Nat) (l : List UInt8) (B : Nat) (w : World) (hn : l.length = n) (h : Bs w B A l) (hB : B ≤ w.heap.size) (hl : n ≤ 16777216) (hlc : n ≤ c) :
    Calls Try.prog 40 #[.slice A n c] w fun e w' => ∃ v, e = .returned v ∧ w'.ownsRow w.heap.size 55 1 v (wrds l).length ((wrds l).map (Value.int .u16)) ∧ Below w.heap.size w w' := by
  subst hn
  exact rwords A c l w (h.more hB) hl hlc
theorem rsum_n (A : Option Addr) (n c : Nat) (l : List UInt8) (B : Nat) (w : World) (hn : l.length = n) (h : Bs w B A l) (hB : B ≤ w.heap.size) (hl : n ≤ 16777216) (hlc : n ≤ c) :
    Calls Try.prog 29 #[.slice A n c] w fun e w' => e = .returned (.int .u16 (fo (tot l))) ∧ Below w.heap.size w w' := by
  subst hn
  exact rsum A c l w (h.more hB) hl hlc

end Go.Proofs.Ytndhiopfkgdhcaa
