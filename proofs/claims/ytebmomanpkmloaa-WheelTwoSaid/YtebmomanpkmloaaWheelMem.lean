/- The document's wheels in memory; the contract of find. -/
import Derived.Test.YtebmomanpkmloaaWheelR
namespace Go.Proofs.Ytebmomanpkmloaa
open Go.ChangeShapes Go.WideShapes Go.ChangeAt Go.RowKit
set_option linter.unusedVariables false
set_option linter.unusedSimpArgs false

def Al.L (a : Al) : List Value := [.int .i64 a.num, .int .i64 a.at_]
abbrev alL (a : Al) : List Value := [.int .i64 a.num, .int .i64 a.at_]
theorem Al.len (a : Al) : a.L.length = 2 := rfl
abbrev whL (x : Wh) (A : Option Addr) (c : Nat) : List Value := [.slice A x.list.length c, .int .i64 x.now]
abbrev whV (x : Wh) (A : Option Addr) (c : Nat) : Value := .agg #[.slice A x.list.length c, .int .i64 x.now]
abbrev oWh (x : Wh) (A : Option Addr) (c : Nat) : Obj := .cells #[.slice A x.list.length c, .int .i64 x.now] 28
theorem info_wh : (Try.prog.info? 28).map (·.size) = some 2 := by kernel_rfl
theorem info_al : (Try.prog.info? 63).map (·.size) = some 2 := by kernel_rfl
theorem info_alz : (Try.prog.info? 63).map (fun i => (i.zero, i.size, i.bytes)) = some (some (.agg #[.int .i64 0, .int .i64 0]), 2, 16) := by kernel_rfl
theorem al_one (l : List Al) : ∀ u ∈ l.flatMap Al.L, u.oneCell' = true := fun u hu => by
  obtain ⟨e, _, he⟩ := List.mem_flatMap.1 hu
  simp only [Al.L, List.mem_cons, List.not_mem_nil, or_false] at he
  rcases he with rfl | rfl <;> rfl
/-- alarms in a row. -/
structure AlAt (w : World) (l : List Al) (A : Option Addr) (c : Nat) : Prop where
  len : l.length ≤ c
  cap : c ≤ 9223372036854775807
  nil : A = none → c = 0
  rd : RdC w A (l.flatMap Al.L)
section
variable {w w' : World} {l : List Al} {A : Option Addr} {c : Nat}
theorem AlAt.at (h : AlAt w l A c) (y : Below w.heap.size w w') : AlAt w' l A c := ⟨h.len, h.cap, h.nil, h.rd.keep y⟩
theorem AlAt.cell (h : AlAt w l A c) {i : Nat} (hi : i < l.length) : ∃ ad, A = some ad ∧ ∀ Y, Below w.heap.size w Y → ∀ j v, (alL l[i])[j]? = some v → Y.cell? ((ad.add (i * 2)).add j) = some v := by
  rcases h.rd with h0 | ⟨ad, e, hc⟩
  · have := flat_len Al.L 2 Al.len l
    rw [h0] at this
    simp at this
    omega
  · refine ⟨ad, e, fun Y y j v hv => ?_⟩
    have hj : j < 2 := by have := (List.getElem?_eq_some_iff.1 hv).1; simpa using this
    have h1 : (l.flatMap Al.L)[i * 2 + j]? = some v := by
      rw [flat_get Al.L 2 Al.len l i j hi hj]; exact hv
    have h2 := hc _ _ h1
    rw [add_add]
    exact (y.cell (World.block_lt_of_cell? w _ h2)).trans h2
theorem AlAt.ofOwn {n base : Nat} {e : TypeId} (hn : l.length = n) (ho : w.ownsRow base e 2 (.slice A n c) n (l.flatMap Al.L)) : AlAt w l A c := by
  have hcc := own_cap ho
  unfold maxLen at hcc
  refine ⟨by omega, hcc.2, fun e => ?_, own_rd ho⟩
  rcases own_addr ho with ⟨_, _, hc⟩ | ⟨g, e', _⟩
  · exact hc
  · rw [e'] at e; cases e
end
def findI (l : List Al) (n : Int) : Int := match findH l n with
  | some i => (i : Int)
  | none => -1
set_option maxRecDepth 100000 in
set_option maxHeartbeats 4000000 in
theorem rfind11 (x : Wh) (A : Option Addr) (c : Nat) (n : Int) (w : World) (h : AlAt w x.list A c) (q : Int) (hq : findI x.list n = q) :
    Calls Try.prog 20 #[whV x A c, .int .i64 n] w fun e w' => e = .returned (.int .i64 q) ∧ Below w.heap.size w w' := by
  have HQ := Go.Lib.hid hq
  have y0 : Below w.heap.size w (w.alloc (oWh x A c)) := (Below.refl _ _).alloc (Nat.le_refl _) _
  have h1 := Bxo.made w 28 (whL x A c)
  have HC := Go.Lib.hid h
  have hlc := h.len
  have hcc := h.cap
  clear hq h
  go_enter Try.func20, Try.ntmps20
  go_upto_region 1 with fail
  generalize w.alloc (oWh x A c) = W at *
  have c0 := h1.cell 0 rfl
  clear h1
  go_wp2_with fail
  go_loop [5] (fun i => ∃ k : Nat, k ≤ x.list.length ∧ i = .int .i64 k ∧ Hid (∀ j (hj : j < x.list.length), j < k → x.list[j].num ≠ n)) (fun i => x.list.length - (intOf i).toNat)
  case atStart => exact ⟨0, by omega, rfl, Go.Lib.hid (fun j hj h => by omega)⟩
  case round =>
    obtain ⟨k, hk, rfl, HN⟩ := hrel
    have k0 : (0 : Int) ≤ (k : Int) := by omega
    by_cases hkl : k < x.list.length
    · have hkl' : (k : Int) < (x.list.length : Int) := by omega
      obtain ⟨ad, rfl, hcell⟩ := HC.out.cell hkl
      have d0 := hcell W y0 0 _ rfl
      rw [add_add, Nat.add_zero] at d0
      obtain ⟨m, hm⟩ : ∃ m, x.list[k].num = m := ⟨_, rfl⟩
      have HM := Go.Lib.hid hm
      rw [hm] at d0
      have e3 : IntKind.i64.wrap ((k : Int) + 1) = (k : Int) + 1 := IntWalk.i64_in _ (by omega)
      clear hcell hm
      by_cases he : m = n
      · have hr : q = (k : Int) := by
          rw [← HQ.out]
          unfold findI
          rw [find_is hkl (by rw [HM.out]; exact he) (fun j hj => HN.out j (by omega) hj)]
        have t0 : (m == n) = true := by simpa using he
        go_wp2_with fail
        go_ret
        exact ⟨rfl, y0⟩
      · have t0 : (m == n) = false := by simpa using he
        go_wp2_with fail
        go_round
        case rel => exact ⟨k + 1, by omega, by go_num, Go.Lib.hid (fun j hj hlt => by
          by_cases e : j = k
          · subst e; rw [HM.out]; exact he
          · exact HN.out j hj (by omega))⟩
        case measure => simp [intOf]; omega
    · obtain rfl : k = x.list.length := by omega
      have hkl' : ¬ (x.list.length : Int) < (x.list.length : Int) := by omega
      have hr : q = -1 := by
        rw [← HQ.out]
        unfold findI
        rw [find_not]
        intro a ha
        obtain ⟨j, hj, rfl⟩ := List.getElem_of_mem ha
        exact HN.out j hj hj
      go_wp2
      go_ret
      exact ⟨rfl, y0⟩
end Go.Proofs.Ytebmomanpkmloaa
