/- Contracts of the document's own answers for package udp: Same, Parse. -/
import Derived.Test.YthikllbfkagdnaaUdpR2
namespace Go.Proofs.Ythikllbfkagdnaa
open Go.ChangeShapes Go.WideShapes Go.ChangeAt Go.RowKit
set_option linter.unusedVariables false

set_option maxRecDepth 100000 in
set_option maxHeartbeats 4000000 in
theorem rsameU (u : Ud) (Ab : Option Addr) (cb : Nat) (v : Ud) (Ab' : Option Addr) (cb' : Nat) (B : Nat) (w : World) (hB : B ≤ w.heap.size) (hI : Bs w B Ab u.body) (hJ : Bs w B Ab' v.body) (l1 : u.body.length ≤ 16777216) (l2 : v.body.length ≤ 16777216) :
    Calls Try.prog 13 #[udV u Ab cb, udV v Ab' cb'] w fun e w' => e = .returned (.bool (sameU u v)) ∧ Below w.heap.size w w' := by
  have H1 := Go.Lib.hid hI
  have H2 := Go.Lib.hid hJ
  clear hI hJ
  unfold sameU
  go_enter Try.func13, Try.ntmps13
  go_wp2_with (go_at_call 11; refine (rsame Ab _ cb u.body Ab' _ cb' v.body B B _ rfl rfl (H1.out.below (by repeat (first | exact Below.refl _ _ | refine Below.alloc ?_ (by first | exact hB | (simp; omega)) _))) (H2.out.below (by repeat (first | exact Below.refl _ _ | refine Below.alloc ?_ (by first | exact hB | (simp; omega)) _))) l1 l2).mono ?_; rintro e w' ⟨rfl, m, rfl⟩; dsimp only)
  all_goals (go_ret; refine ⟨ret_bool ?_, by repeat (first | exact Below.refl _ _ | refine below_dn ?_ _ | refine Below.alloc ?_ (by simp) _)⟩)
  all_goals (simp [*]; done)

/-- what Parse hands back. -/
structure GivesUd (w w' : World) (u : Ud) (Ab : Option Addr) (cb : Nat) : Prop where
  is : UdIn w' w'.heap.size u Ab cb
  below : Below w.heap.size w w'
def ParsedU (w : World) (q : Int × Ud) (e : Ending) (w' : World) : Prop := ∃ Ab cb, e = .returned (.tuple #[udV q.2 Ab cb, .int .i64 q.1]) ∧ GivesUd w w' q.2 Ab cb
theorem udIn_empty {w : World} {B : Nat} : UdIn w B Ud.empty none 0 := ⟨Nat.le_refl _, by omega, fun _ => rfl, .inl rfl⟩
theorem parsedU_err {w w' : World} {q : Int × Ud} {e : Ending} {n : Int} (hq : q = (n, Ud.empty)) (he : e = .returned (.tuple #[.agg #[.int .i64 0, .int .i64 0, .bool false, .slice none 0 0], .int .i64 n])) (h : Below w.heap.size w w') : ParsedU w q e w' := by
  subst hq
  exact ⟨none, 0, he, udIn_empty, h⟩
theorem parsedU_ok {w w' : World} {q : Int × Ud} {e : Ending} {u : Ud} {Ab : Option Addr} {cb : Nat} (hq : q = (0, u)) (he : e = .returned (.tuple #[udV u Ab cb, .int .i64 0])) (h : GivesUd w w' u Ab cb) : ParsedU w q e w' := by
  subst hq
  exact ⟨Ab, cb, he, h⟩
/-- the four words of a head. -/
theorem words8 {w' : World} {base : Nat} {v : Value} {l : List UInt8} (hl : 8 ≤ l.length) (h : w'.ownsRow base 42 1 v (wrds (l.take 8)).length ((wrds (l.take 8)).map (Value.int .u16))) :
    ∃ g c, v = .slice (some ⟨g, 0, none⟩) 4 c ∧ base ≤ g ∧ g < w'.heap.size ∧ ∀ j, j < 4 → w'.cell? ⟨g, j, none⟩ = some (.int .u16 (wd l (2 * j))) := by
  have hn : (wrds (l.take 8)).length = 4 := by rw [wrds_length, List.length_take]; omega
  rw [hn] at h
  obtain ⟨g, c, rfl, h1, h2, _, _⟩ := own_form h (by omega)
  refine ⟨g, c, rfl, h1, h2, fun j hj => ?_⟩
  rw [own_cell h j (by simp [hn]; exact hj)]
  have := wrds_at j (l.take 8) (by rw [List.length_take]; omega)
  rw [wd_take l 8 (2 * j) (by omega) hl] at this
  rw [List.getElem_map]
  congr 2
  rw [List.getElem?_eq_getElem (by omega)] at this
  exact Option.some.inj this
end Go.Proofs.Ythikllbfkagdnaa
