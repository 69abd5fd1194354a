/- Options of segments in memory: a slice that reads as a list of them. -/
import Derived.Test.YtghgemmbbedopaaMem
import Derived.Test.YtghgemmbbedopaaTcpPlain2
namespace Go.Proofs.Ytghgemmbbedopaa
open Go.ChangeShapes Go.WideShapes Go.ChangeAt Go.RowKit
set_option linter.unusedVariables false

/-- the slice at A reads as these options, below block B. -/
def Os (w : World) (B : Nat) (A : Option Addr) (os : List Op) : Prop :=
  os = [] ∨ ∃ ad, A = some ad ∧ ad.block < B ∧ ∀ (j : Nat) (o : Op), os[j]? = some o → w.cell? (ad.add (j * 2)) = some (.int .i64 o.kind) ∧
    ∃ Ad cd, w.cell? (ad.add (j * 2 + 1)) = some (.slice Ad o.data.length cd) ∧ Bs w B Ad o.data ∧ o.data.length ≤ cd ∧ cd ≤ 9223372036854775807 ∧ (Ad = none → cd = 0)
theorem Os.drewN {w : World} {B : Nat} {A : Option Addr} {os : List Op} (h : Os w B A os) (n : Nat) : Os (w.drewN n) B A os := h
theorem Os.below {w w' : World} {B : Nat} {A : Option Addr} {os : List Op} (h : Os w B A os) (hb : Below B w w') : Os w' B A os := by
  rcases h with h | ⟨ad, e, hlt, hc⟩
  · exact .inl h
  · refine .inr ⟨ad, e, hlt, fun j o hj => ?_⟩
    obtain ⟨h0, Ad, cd, h1, h2, h3, h4, h5⟩ := hc j o hj
    exact ⟨(hb.cell (by rw [block_add]; exact hlt)).trans h0, Ad, cd, (hb.cell (by rw [block_add]; exact hlt)).trans h1, h2.below hb, h3, h4, h5⟩
theorem Os.more {w : World} {B B' : Nat} {A : Option Addr} {os : List Op} (h : Os w B A os) (hB : B ≤ B') : Os w B' A os := by
  rcases h with h | ⟨ad, e, hlt, hc⟩
  · exact .inl h
  · refine .inr ⟨ad, e, by omega, fun j o hj => ?_⟩
    obtain ⟨h0, Ad, cd, h1, h2, h3, h4, h5⟩ := hc j o hj
    exact ⟨h0, Ad, cd, h1, h2.more hB, h3, h4, h5⟩
theorem Os.take {w : World} {B : Nat} {A : Option Addr} {os : List Op} (h : Os w B A os) (k : Nat) : Os w B A (os.take k) := by
  rcases h with h | ⟨ad, e, hlt, hc⟩
  · exact .inl (by rw [h]; simp)
  · exact .inr ⟨ad, e, hlt, fun j o hj => hc j o (by rw [List.getElem?_take] at hj; split at hj <;> simp_all)⟩
theorem add_next (ad : Addr) (k : Nat) : ad.add (k + 1) = { block := (ad.add k).block, off := (ad.add k).off + 1 } := by
  unfold Addr.add
  by_cases h : k = 0 <;> simp [h, Nat.add_assoc]
theorem Os.at_ {w : World} {B : Nat} {A : Option Addr} {os : List Op} (h : Os w B A os) {k : Nat} (hk : k < os.length) :
    ∃ ad Ad cd, A = some ad ∧ ad.block < B ∧ w.cell? (ad.add (k * 2)) = some (.int .i64 os[k].kind) ∧ w.cell? { block := (ad.add (k * 2)).block, off := (ad.add (k * 2)).off + 1 } = some (.slice Ad os[k].data.length cd) ∧ Bs w B Ad os[k].data ∧ os[k].data.length ≤ cd ∧ cd ≤ 9223372036854775807 ∧ (Ad = none → cd = 0) := by
  rcases h with h | ⟨ad, e, hlt, hc⟩
  · subst h; simp at hk
  · obtain ⟨h0, Ad, cd, h1, h2, h3, h4, h5⟩ := hc k _ (List.getElem?_eq_getElem hk)
    rw [add_next] at h1
    exact ⟨ad, Ad, cd, e, hlt, h0, h1, h2, h3, h4, h5⟩
theorem Os.nil_ {w : World} {B : Nat} {A : Option Addr} : Os w B A [] := .inl rfl
end Go.Proofs.Ytghgemmbbedopaa
