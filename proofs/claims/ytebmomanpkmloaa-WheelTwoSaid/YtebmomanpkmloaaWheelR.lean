/- Contracts of the document's own answers for package wheel: Same; rows of numbers of the call's own. -/
import Derived.Test.YtebmomanpkmloaaWheelRow
namespace Go.Proofs.Ytebmomanpkmloaa
open Go.ChangeShapes Go.WideShapes Go.ChangeAt Go.RowKit
set_option linter.unusedVariables false
set_option linter.unusedSimpArgs false

theorem grownI {w0 w w' : World} {row : Option Nat} (h : w.grownBy w' row) (hr : ∀ g, row = some g → w0.heap.size ≤ g) (hs : w0.heap.size ≤ w.heap.size) : Below w0.heap.size w w' :=
  ⟨h.os, h.tape, h.output, h.size, fun b hb => h.block b (by omega) (fun e => by have := hr b e.symm; omega)⟩
theorem own_geI {w : World} {base : Nat} {e : TypeId} {size n c : Nat} {A : Option Addr} {xs : List Value} (h : w.ownsRow base e size (.slice A n c) n xs) : ∀ g, blk A = some g → base ≤ g := fun g hg => by
  rcases own_addr h with ⟨rfl, _⟩ | ⟨g', rfl, h1, h2⟩
  · cases hg
  · injection hg with hg; subst hg; exact h1
theorem own_ltI {w : World} {base : Nat} {e : TypeId} {size n c : Nat} {A : Option Addr} {xs : List Value} (h : w.ownsRow base e size (.slice A n c) n xs) : ∀ g, blk A = some g → g < w.heap.size := fun g hg => by
  rcases own_addr h with ⟨rfl, _⟩ | ⟨g', rfl, h1, h2⟩
  · cases hg
  · injection hg with hg; subst hg; exact h2
theorem int_one (k : IntKind) (l : List Int) : ∀ u ∈ l.map (fun n => Value.int k n), u.oneCell' = true := fun u hu => by
  obtain ⟨n, _, rfl⟩ := List.mem_map.1 hu
  rfl
theorem InsAt.ofOwn {w : World} {l : List Int} {A : Option Addr} {c n base : Nat} {e : TypeId} (hn : l.length = n) (ho : w.ownsRow base e 1 (.slice A n c) n (l.map (fun n => Value.int .i64 n))) : InsAt .i64 w l A c := by
  have hcc := own_cap ho
  unfold maxLen at hcc
  refine ⟨by omega, hcc.2, fun e => ?_, own_rd ho⟩
  rcases own_addr ho with ⟨_, _, hc⟩ | ⟨g, e', _⟩
  · exact hc
  · rw [e'] at e; cases e
set_option maxRecDepth 100000 in
set_option maxHeartbeats 4000000 in
theorem rsame11 (l : List Int) (A : Option Addr) (c : Nat) (B : Option Addr) (d : Nat) (N M : Nat) (hN : l.length = N) (hM : l.length = M) (w : World) (ha : InsAt .i64 w l A c) (hb : InsAt .i64 w l B d) :
    Calls Try.prog 15 #[.slice A N c, .slice B M d] w fun e w' => e = .returned (.bool true) ∧ Below w.heap.size w w' := by
  subst hN hM
  have HA := Go.Lib.hid ha
  have HB := Go.Lib.hid hb
  have hlc := ha.len
  have hcc := ha.cap
  clear ha hb
  go_enter Try.func15, Try.ntmps15
  go_wp2_with fail
  go_loopw [5] (fun iv wr => ∃ i : Nat, i ≤ l.length ∧ iv = .int .i64 i ∧ Below w.heap.size w wr) (fun iv _ => l.length - (intOf iv).toNat)
  case atStart => exact ⟨0, by omega, rfl, Below.refl _ _⟩
  case round =>
    rename World => wo
    obtain ⟨i, hi, rfl, y⟩ := hrel
    have i0 : (0 : Int) ≤ (i : Int) := by omega
    by_cases hil : i < l.length
    · have hil' : (i : Int) < (l.length : Int) := by omega
      obtain ⟨adA, rfl, hcA⟩ := HA.out.cell hil
      obtain ⟨adB, rfl, hcB⟩ := HB.out.cell hil
      have ca := hcA wo y
      have cb := hcB wo y
      generalize l[i] = n at *
      have e3 : IntKind.i64.wrap ((i : Int) + 1) = (i : Int) + 1 := IntWalk.i64_in _ (by omega)
      clear hcA hcB
      go_upto_region 6 with fail
      go_quiet (fail)
      go_wp2_with fail
      go_round
      case rel => exact ⟨i + 1, by omega, by go_num, below_dn y _⟩
      case measure => simp [intOf]; omega
    · obtain rfl : i = l.length := by omega
      have hil' : ¬ (l.length : Int) < (l.length : Int) := by omega
      go_wp2
      go_ret
      exact ⟨rfl, y⟩
end Go.Proofs.Ytebmomanpkmloaa
