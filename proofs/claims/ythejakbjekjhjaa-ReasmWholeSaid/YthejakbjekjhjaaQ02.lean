/- Lemmas of layer 7, several texts in one. -/
import Derived.Test.YthejakbjekjhjaaQ01
/- Contract of the document's own answer for package reasm: is a pool short? A loop in a loop. -/
namespace Go.Proofs.Ythejakbjekjhjaa
open Go.ChangeShapes Go.WideShapes Go.ChangeAt Go.RowKit
set_option linter.unusedVariables false

def dataS (r : Rn) : Bool := decide (r.data.length ≤ 2000)
def shortB (b : Bf) : Bool := decide (b.runs.length ≤ 40) && (decide (b.head.opts.length ≤ 100) && (decide (b.head.body.length ≤ 100) && b.runs.all dataS))
def shortP (p : Po) : Bool := decide (p.list.length ≤ 70) && p.list.all shortB
theorem shortB_of (b : Bf) (h1 : b.runs.length ≤ 40) (h2 : b.head.opts.length ≤ 100) (h3 : b.head.body.length ≤ 100) (h4 : b.runs.all dataS = true) : shortB b = true := by
  unfold shortB; simp [h1, h2, h3, h4]
theorem shortB_not (b : Bf) (h : 40 < b.runs.length ∨ 100 < b.head.opts.length ∨ 100 < b.head.body.length ∨ b.runs.all dataS = false) : shortB b = false := by
  unfold shortB
  rcases h with h | h | h | h
  · simp [Nat.not_le.2 h]
  · simp [Nat.not_le.2 h]
  · simp [Nat.not_le.2 h]
  · rw [h]; simp
theorem all_next {α : Type} (f : α → Bool) (l : List α) (k : Nat) (h : k < l.length) : (l.take (k + 1)).all f = ((l.take k).all f && f l[k]) := by
  rw [List.take_succ_eq_append_getElem h, List.all_append]; simp
theorem all_not {α : Type} (f : α → Bool) (l : List α) (k : Nat) (h : k < l.length) (hf : f l[k] = false) : l.all f = false := by
  rw [List.all_eq_false]
  exact ⟨l[k], List.getElem_mem h, by simp [hf]⟩
set_option maxRecDepth 100000 in
set_option maxHeartbeats 4000000 in
theorem rshortP (p : Po) (A : Option Addr) (c : Nat) (b : Bool) (hsb : shortP p = b) (w : World) (V : Nat → Prop) (hP : PoAt w V p A c) :
    Calls Try.prog 14 #[poV p A c] w fun e w' => e = .returned (.bool b) ∧ Below w.heap.size w w' := by
  have HS := Go.Lib.hid hsb
  clear hsb
  have m0 := poIs.made (w := w) (p := p) (A_list := A) (c_list := c)
  have b0 : Below w.heap.size w (w.alloc (poO p A c)) := (Below.refl _ _).alloc (Nat.le_refl _) _
  have HP := Go.Lib.hid (hP.at b0).is
  have oc := hP.is.len
  have oc2 := hP.is.cap
  clear hP
  by_cases h1 : p.list.length ≤ 70
  · go_enter Try.func14, Try.ntmps14
    go_wp2
    generalize w.alloc (poO p A c) = W at *
    obtain ⟨c0, c1, c2, c3⟩ := m0.cells
    clear m0
    go_loop [3] (fun i => ∃ k : Nat, k ≤ p.list.length ∧ i = .int .i64 k ∧ Hid ((p.list.take k).all shortB = true)) (fun i => p.list.length - (intOf i).toNat)
    case atStart => exact ⟨0, by omega, rfl, Go.Lib.hid (by simp)⟩
    case round =>
      obtain ⟨k, hk, rfl, hT⟩ := hrel
      by_cases hlt : k < p.list.length
      · obtain ⟨ad, Ao, co, Ab, cb, Ar, cr, rfl, hb, hc⟩ := HP.out.fs.at_ hlt
        have HE := Go.Lib.hid (all_next shortB p.list k hlt)
        have HX : Hid (shortB p.list[k] = false → shortP p = false) := Go.Lib.hid (fun h => by unfold shortP; rw [all_not _ _ _ hlt h]; simp)
        have i1 : (0 : Int) ≤ (k : Int) := by omega
        have i2 : (k : Int) < (p.list.length : Int) := by omega
        have e1 := at_off 18 hc.c18 (by omega)
        have e2 := at_off 14 hc.head.c9 (by omega)
        have e3 := at_off 15 hc.head.c10 (by omega)
        have HR := Go.Lib.hid hc.runs
        have q1 := hc.rlen
        have q2 := hc.rcap
        have q3 := hc.head.o.len
        have q4 := hc.head.o.cap
        have q5 := hc.head.b.len
        have q6 := hc.head.b.cap
        clear hc
        have HB := Go.Lib.hid (shortB_of p.list[k])
        have HN := Go.Lib.hid (shortB_not p.list[k])
        generalize hr : p.list[k] = x at *
        clear hr
        have hxr := Go.Lib.hid q1
        by_cases h2 : x.runs.length ≤ 40
        · by_cases h3 : x.head.opts.length ≤ 100
          · by_cases h4 : x.head.body.length ≤ 100
            · go_wp2
              go_loop [4] (fun i => ∃ j : Nat, j ≤ x.runs.length ∧ i = .int .i64 j ∧ Hid ((x.runs.take j).all dataS = true)) (fun i => x.runs.length - (intOf i).toNat)
              case atStart => exact ⟨0, by omega, rfl, Go.Lib.hid (by simp)⟩
              case round =>
                obtain ⟨j, hj, rfl, hU⟩ := hrel
                by_cases hjl : j < x.runs.length
                · obtain ⟨ad2, Ad, cd, rfl, hb2, r0, r1, rb⟩ := HR.out.at_ hjl
                  have HF := Go.Lib.hid (all_next dataS x.runs j hjl)
                  have HY : Hid (dataS x.runs[j] = false → shortP p = false) := Go.Lib.hid (fun h => HX.out (HN.out (.inr (.inr (.inr (all_not _ _ _ hjl h))))))
                  have i3 : (0 : Int) ≤ (j : Int) := by omega
                  have i4 : (j : Int) < (x.runs.length : Int) := by omega
                  have q7 := rb.len
                  have q8 := rb.cap
                  clear rb r0
                  generalize hd : x.runs[j] = y at *
                  clear hd
                  by_cases h5 : y.data.length ≤ 2000
                  · go_wp2
                    go_round
                    case rel => exact ⟨j + 1, by omega, by go_num, Go.Lib.hid (by rw [HF.out, hU.out]; simpa [dataS] using h5)⟩
                    case measure => simp [intOf]; omega
                  · go_wp2
                    go_ret
                    exact ⟨ret_bool (by rw [← HS.out, HY.out (by simp [dataS]; omega)]), b0⟩
                · obtain rfl : j = x.runs.length := by omega
                  go_wp2
                  go_round
                  case rel => exact ⟨k + 1, by omega, by go_num, Go.Lib.hid (by
                    have e := hU.out
                    rw [List.take_length] at e
                    rw [HE.out, hT.out, HB.out h2 h3 h4 e]; rfl)⟩
                  case measure => simp [intOf]; omega
            · go_wp2
              go_ret
              exact ⟨ret_bool (by rw [← HS.out, HX.out (HN.out (.inr (.inr (.inl (by omega)))))]), b0⟩
          · go_wp2
            go_ret
            exact ⟨ret_bool (by rw [← HS.out, HX.out (HN.out (.inr (.inl (by omega))))]), b0⟩
        · go_wp2
          go_ret
          exact ⟨ret_bool (by rw [← HS.out, HX.out (HN.out (.inl (by omega)))]), b0⟩
      · obtain rfl : k = p.list.length := by omega
        go_wp2
        go_ret
        exact ⟨ret_bool (by
          have e := hT.out
          rw [List.take_length] at e
          rw [← HS.out]; unfold shortP; rw [e]; simp [h1]), b0⟩
  · go_enter Try.func14, Try.ntmps14
    go_wp2
    go_ret
    exact ⟨ret_bool (by rw [← HS.out]; unfold shortP; simp [h1]), b0⟩
end Go.Proofs.Ythejakbjekjhjaa
