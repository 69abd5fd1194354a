/- Lemmas, several texts in one. -/
import Derived.Test.YtmgkkgpdnopeaaaQ08
/- Contracts of the document's own answers for package tcp: numbers out of bytes; is a segment short? -/
namespace Go.Proofs.Ytmgkkgpdnopeaaa
open Go.ChangeShapes Go.WideShapes Go.ChangeAt Go.RowKit
set_option linter.unusedVariables false

set_option maxRecDepth 100000 in
set_option maxHeartbeats 1000000 in
theorem rnum2 (A : Option Addr) (c : Nat) (l : List UInt8) (B : Nat) (w : World) (hn : l.length = 2) (h : Bs w B A l) :
    Calls Try.prog 47 #[.slice A 2 c] w fun e w' => e = .returned (.int .i64 (wd l 0)) ∧ w = w' := by
  obtain ⟨ad, rfl, _, _⟩ := g8_cell h (k := 0) (by omega)
  have c0 := zero_cell rfl h (by omega)
  have c1 := pos_cell rfl h 1 (by omega) (by omega)
  have a0 := g8_lo l 0
  have a1 := g8_hi l 0
  have b0 := g8_lo l 1
  have b1 := g8_hi l 1
  have HW : Hid (g8 l 0 * 256 + g8 l 1 = wd l 0) := Go.Lib.hid rfl
  clear h hn
  generalize g8 l 0 = x at *
  generalize g8 l 1 = y at *
  go_enter Try.func47, Try.ntmps47
  go_wp2
  refine wp_loop_rounds 3 ?_
  rw [rounds_succ]
  go_wp2
  rw [rounds_succ]
  go_wp2
  rw [rounds_succ]
  go_wp2
  go_ret
  exact ⟨ret_int HW.out, rfl⟩
set_option maxRecDepth 100000 in
set_option maxHeartbeats 2000000 in
theorem rnum4 (A : Option Addr) (c : Nat) (l : List UInt8) (B : Nat) (w : World) (hn : l.length = 4) (h : Bs w B A l) :
    Calls Try.prog 47 #[.slice A 4 c] w fun e w' => e = .returned (.int .i64 (ad4 l 0)) ∧ w = w' := by
  obtain ⟨ad, rfl, _, _⟩ := g8_cell h (k := 0) (by omega)
  have c0 := zero_cell rfl h (by omega)
  have c1 := pos_cell rfl h 1 (by omega) (by omega)
  have c2 := pos_cell rfl h 2 (by omega) (by omega)
  have c3 := pos_cell rfl h 3 (by omega) (by omega)
  have a0 := g8_lo l 0
  have a1 := g8_hi l 0
  have b0 := g8_lo l 1
  have b1 := g8_hi l 1
  have d0 := g8_lo l 2
  have d1 := g8_hi l 2
  have e0 := g8_lo l 3
  have e1 := g8_hi l 3
  have HW : Hid (((g8 l 0 * 256 + g8 l 1) * 256 + g8 l 2) * 256 + g8 l 3 = ad4 l 0) := Go.Lib.hid (by simp only [ad4, wd, Nat.reduceAdd]; omega)
  clear h hn
  generalize g8 l 0 = x at *
  generalize g8 l 1 = y at *
  generalize g8 l 2 = z at *
  generalize g8 l 3 = u at *
  go_enter Try.func47, Try.ntmps47
  go_wp2
  refine wp_loop_rounds 5 ?_
  rw [rounds_succ]
  go_wp2
  rw [rounds_succ]
  go_wp2
  rw [rounds_succ]
  go_wp2
  rw [rounds_succ]
  go_wp2
  rw [rounds_succ]
  go_wp2
  go_ret
  exact ⟨ret_int HW.out, rfl⟩

/-- is a segment short? -/
def shortT (t : Tc) : Bool := decide (t.opts.length ≤ 60) && (decide (t.body.length ≤ 3000) && t.opts.all fun o => decide (o.data.length ≤ 300))
theorem all_take_succ (os : List Op) (k : Nat) (h : k < os.length) : ((os.take (k + 1)).all fun o => decide (o.data.length ≤ 300)) = ((os.take k).all (fun o => decide (o.data.length ≤ 300)) && decide (os[k].data.length ≤ 300)) := by
  rw [List.take_succ_eq_append_getElem h, List.all_append]; simp
theorem not_short {t : Tc} {k : Nat} (hk : k < t.opts.length) (h : 300 < t.opts[k].data.length) : shortT t = false := by
  have : (t.opts.all fun o => decide (o.data.length ≤ 300)) = false := by
    rw [List.all_eq_false]
    exact ⟨t.opts[k], List.getElem_mem hk, by simp; omega⟩
  unfold shortT
  rw [this]; simp
end Go.Proofs.Ytmgkkgpdnopeaaa

/- The contract of the document's own Same of segments. -/
namespace Go.Proofs.Ytmgkkgpdnopeaaa
open Go.ChangeShapes Go.WideShapes Go.ChangeAt Go.RowKit
set_option linter.unusedVariables false

def sameOs (a b : List Op) : Bool := (a.length == b.length) && (List.range a.length).all fun i => match a[i]?, b[i]? with
  | some o, some p => o.kind == p.kind && o.data == p.data
  | _, _ => false
theorem sameOs_iff (a b : List Op) : sameOs a b = true ↔ a = b := by
  unfold sameOs
  rw [Bool.and_eq_true, beq_iff_eq, List.all_eq_true]
  constructor
  · rintro ⟨hl, h⟩
    apply List.ext_getElem hl
    intro i h1 h2
    have := h i (by simp; exact h1)
    rw [List.getElem?_eq_getElem h1, List.getElem?_eq_getElem h2] at this
    simp only [Bool.and_eq_true, beq_iff_eq] at this
    cases ha : a[i]
    cases hb : b[i]
    rw [ha, hb] at this
    simp at this
    rw [this.1, this.2]
  · rintro rfl
    refine ⟨rfl, fun i hi => ?_⟩
    simp at hi
    simp [List.getElem?_eq_getElem hi]
def sameT (a b : Tc) : Bool := a.sport == b.sport && (a.dport == b.dport && (a.seq == b.seq && (a.ack == b.ack && (a.flags == b.flags && (a.win == b.win && (a.urg == b.urg && (a.body == b.body && sameOs a.opts b.opts)))))))
theorem sameT_iff (a b : Tc) : sameT a b = true ↔ a = b := by
  cases a; cases b
  simp [sameT, sameOs_iff]
  exact fun _ _ _ _ _ _ _ => And.comm
theorem sameT_ne {a b : Tc} (h : a ≠ b) : false = sameT a b := by
  cases e : sameT a b
  · rfl
  · exact absurd ((sameT_iff a b).1 e) h
theorem os_take_succ (a b : List Op) (k : Nat) (ha : k < a.length) (hb : k < b.length) (h : a.take k = b.take k) (he : a[k] = b[k]) : a.take (k + 1) = b.take (k + 1) := by
  rw [List.take_succ_eq_append_getElem ha, List.take_succ_eq_append_getElem hb, h, he]

end Go.Proofs.Ytmgkkgpdnopeaaa

/- The contract of the document's own Parse of segments: what isn't read. -/
namespace Go.Proofs.Ytmgkkgpdnopeaaa
open Go.ChangeShapes Go.WideShapes Go.ChangeAt Go.RowKit
set_option linter.unusedVariables false

/-- what Parse hands back. -/
structure GivesTc (w w' : World) (t : Tc) (Ao : Option Addr) (co : Nat) (Ab : Option Addr) (cb : Nat) : Prop where
  is : TcIn w' w'.heap.size t Ao co Ab cb
  below : Below w.heap.size w w'
def ParsedT (w : World) (q : Int × Tc) (e : Ending) (w' : World) : Prop := ∃ Ao co Ab cb, e = .returned (.tuple #[tcV q.2 Ao co Ab cb, .int .i64 q.1]) ∧ GivesTc w w' q.2 Ao co Ab cb
theorem tcIn_empty {w : World} {B : Nat} : TcIn w B Tc.empty none 0 none 0 :=
  ⟨by decide, by decide, by decide, by decide, Nat.le_refl _, by omega, fun _ => rfl, .inl rfl, Nat.le_refl _, by omega, fun _ => rfl, .inl rfl⟩
theorem parsedT_err {w w' : World} {q : Int × Tc} {e : Ending} {n : Int} (hq : q = (n, Tc.empty)) (he : e = .returned (.tuple #[.agg #[.int .i64 0, .int .i64 0, .int .u32 0, .int .u32 0, .int .i64 0, .int .i64 0, .int .i64 0, .slice none 0 0, .slice none 0 0], .int .i64 n])) (h : Below w.heap.size w w') : ParsedT w q e w' := by
  subst hq
  exact ⟨none, 0, none, 0, he, tcIn_empty, h⟩
theorem below_set9 {B g : Nat} {a w : World} (h : Below B a w) (hg : B ≤ g) (u0 u1 u2 u3 u4 u5 u6 u7 u8 : Value) :
    Below B a (((((((((w.setCell ⟨g, 0, none⟩ u0).setCell ⟨g, 1, none⟩ u1).setCell ⟨g, 2, none⟩ u2).setCell ⟨g, 3, none⟩ u3).setCell ⟨g, 4, none⟩ u4).setCell ⟨g, 5, none⟩ u5).setCell ⟨g, 6, none⟩ u6).setCell ⟨g, 7, none⟩ u7).setCell ⟨g, 8, none⟩ u8) :=
  ((((((((h.setCell (p := ⟨g, 0, none⟩) hg u0).setCell (p := ⟨g, 1, none⟩) hg u1).setCell (p := ⟨g, 2, none⟩) hg u2).setCell (p := ⟨g, 3, none⟩) hg u3).setCell (p := ⟨g, 4, none⟩) hg u4).setCell (p := ⟨g, 5, none⟩) hg u5).setCell (p := ⟨g, 6, none⟩) hg u6).setCell (p := ⟨g, 7, none⟩) hg u7).setCell (p := ⟨g, 8, none⟩) hg u8

set_option maxRecDepth 100000 in
set_option maxHeartbeats 4000000 in
theorem rparseTA (src dst : Int) (A : Option Addr) (n c : Nat) (l : List UInt8) (w : World) (hs : 0 ≤ src ∧ src ≤ 4294967295) (hd : 0 ≤ dst ∧ dst ≤ 4294967295) (hn : l.length = n) (h : Bs w w.heap.size A l) (hn2 : n ≤ 16777216) (hnc : n ≤ c)
    (hM : 65535 < n ∨ n < 20 ∨ tsz l < 20 ∨ (n : Int) < tsz l ∨ sumT 6 src dst l ≠ 65535) :
    Calls Try.prog 24 #[.int .u32 src, .int .u32 dst, .slice A n c] w (ParsedT w (prsT src dst l)) := by
  by_cases h4 : 65535 < n
  · have HP : Hid (prsT src dst l = (4, Tc.empty)) := Go.Lib.hid (by unfold prsT; rw [if_pos (by omega)])
    clear hM h hn
    go_enter Try.func24, Try.ntmps24
    go_wp2
    refine bodyPost_ret (v := .tuple #[.agg #[.int .i64 0, .int .i64 0, .int .u32 0, .int .u32 0, .int .i64 0, .int .i64 0, .int .i64 0, .slice none 0 0, .slice none 0 0], .int .i64 4]) ?_ rfl (parsedT_err HP.out rfl ?_)
    · simp [results, Try.results24, go_sem]
    · exact (Below.refl _ _).alloc (Nat.le_refl _) _
  by_cases h2 : n < 20
  · have HP : Hid (prsT src dst l = (2, Tc.empty)) := Go.Lib.hid (by unfold prsT; rw [if_neg (by omega), if_pos (by omega)])
    clear hM h hn
    go_enter Try.func24, Try.ntmps24
    go_wp2
    refine bodyPost_ret (v := .tuple #[.agg #[.int .i64 0, .int .i64 0, .int .u32 0, .int .u32 0, .int .i64 0, .int .i64 0, .int .i64 0, .slice none 0 0, .slice none 0 0], .int .i64 2]) ?_ rfl (parsedT_err HP.out rfl ?_)
    · simp [results, Try.results24, go_sem]
    · exact (Below.refl _ _).alloc (Nat.le_refl _) _
  obtain ⟨ad, rfl, hlt, _⟩ := g8_cell h (k := 0) (by omega)
  have hc0 := pos_cell rfl h 12 (by omega) (by omega)
  have b0 := g8_lo l 12
  have b1 := g8_hi l 12
  have i12 : (12 : Int) < (n : Int) := by omega
  have hne : ad.block ≠ w.heap.size := by omega
  have HT : Hid (tsz l = g8 l 12 / 16 * 4) := Go.Lib.hid rfl
  by_cases h3 : tsz l < 20 ∨ (n : Int) < tsz l
  · have HP : Hid (prsT src dst l = (3, Tc.empty)) := Go.Lib.hid (by unfold prsT; rw [if_neg (by omega), if_neg (by omega), if_pos (by rw [hn]; exact h3)])
    rw [HT.out] at h3
    clear hM h hn
    generalize g8 l 12 = x at *
    have h3' : x / 16 * 4 < 20 ∨ (20 ≤ x / 16 * 4 ∧ (n : Int) < x / 16 * 4) := by omega
    clear h3
    rcases h3' with h3 | ⟨h3, h5⟩
    all_goals
      go_enter Try.func24, Try.ntmps24
      go_wp2
      refine bodyPost_ret (v := .tuple #[.agg #[.int .i64 0, .int .i64 0, .int .u32 0, .int .u32 0, .int .i64 0, .int .i64 0, .int .i64 0, .slice none 0 0, .slice none 0 0], .int .i64 3]) ?_ rfl (parsedT_err HP.out rfl ?_)
      · simp [results, Try.results24, go_sem]
      · exact (Below.refl _ _).alloc (Nat.le_refl _) _
  have h5 : sumT 6 src dst l ≠ 65535 := by
    rcases hM with h | h | h | h | h
    · exact absurd h h4
    · exact absurd h h2
    · exact absurd (.inl h) h3
    · exact absurd (.inr h) h3
    · exact h
  have HP : Hid (prsT src dst l = (5, Tc.empty)) := Go.Lib.hid (by unfold prsT; rw [if_neg (by omega), if_neg (by omega), if_neg (by rw [hn]; exact h3), if_pos h5])
  rw [HT.out] at h3
  obtain ⟨s, hsum⟩ : ∃ s : Int, sumT 6 src dst l = s := ⟨_, rfl⟩
  rw [hsum] at h5
  have t5 : (s != 65535) = true := by simpa using h5
  have HS := Go.Lib.hid hsum
  have HN := Go.Lib.hid hn
  have HB := Go.Lib.hid h
  have h30 : 20 ≤ g8 l 12 / 16 * 4 := by omega
  have h31 : g8 l 12 / 16 * 4 ≤ (n : Int) := by omega
  clear hM h hn h5 hsum h3
  generalize g8 l 12 = x at *
  go_enter Try.func24, Try.ntmps24
  go_wp2_with fail
  have y0 : Below w.heap.size w (w.alloc (.cells #[.int .i64 0, .int .i64 0, .int .u32 0, .int .u32 0, .int .i64 0, .int .i64 0, .int .i64 0, .slice none 0 0, .slice none 0 0] 54)) := (Below.refl _ _).alloc (Nat.le_refl _) _
  refine (rsumT_n src dst (some ad) n c l w.heap.size _ s HS.out hs hd HN.out (HB.out.below y0) y0.size hn2 hnc).mono ?_
  rintro e w1 ⟨rfl, hb1⟩
  dsimp only
  obtain ⟨qc, qf⟩ := bcell hb1
  have hz : w.heap.size + 1 ≤ w1.heap.size := by have := hb1.size; simpa using this
  go_wp2
  refine bodyPost_ret (v := .tuple #[.agg #[.int .i64 0, .int .i64 0, .int .u32 0, .int .u32 0, .int .i64 0, .int .i64 0, .int .i64 0, .slice none 0 0, .slice none 0 0], .int .i64 5]) ?_ rfl (parsedT_err HP.out rfl ?_)
  · simp [results, Try.results24, go_sem, qc]
  · exact below_set9 (y0.trans (hb1.mono y0.size)) (Nat.le_refl _) _ _ _ _ _ _ _ _ _
end Go.Proofs.Ytmgkkgpdnopeaaa
