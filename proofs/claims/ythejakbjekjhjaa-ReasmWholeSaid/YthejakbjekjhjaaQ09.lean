/- Lemmas of layer 7, several texts in one. -/
import Derived.Test.YthejakbjekjhjaaQ08
import Derived.Test.YthejakbjekjhjaaQ05
/- Contract of package ip's Piece. -/
namespace Go.Proofs.Ythejakbjekjhjaa
open Go.ChangeShapes Go.WideShapes Go.ChangeAt Go.RowKit
set_option linter.unusedVariables false

set_option maxHeartbeats 400000 in
theorem cpiece (p : Pk) (Ao : Option Addr) (co : Nat) (Ab : Option Addr) (cb : Nat) (w : World) :
    Calls Try.prog 16 #[pkV p Ao co Ab cb] w fun e w' => e = .returned (.bool (p.mf || (p.off != 0))) ∧ Below w.heap.size w w' := by
  go_enter Try.func16, Try.ntmps16
  go_wp2
  all_goals (go_ret; refine ⟨ret_bool ?_, (Below.refl _ _).alloc (Nat.le_refl _) _⟩)
  all_goals (simp [*]; done)
end Go.Proofs.Ythejakbjekjhjaa

/- The contracts of package reasm's rightHead, rightBuffer. -/
namespace Go.Proofs.Ythejakbjekjhjaa
open Go.ChangeShapes Go.WideShapes Go.ChangeAt Go.RowKit
set_option linter.unusedVariables false
set_option linter.unusedSimpArgs false

def rhB (b : Bf) : Bool := (b.first == firstR b.runs) && (if b.first then !(b.head.mf || (b.head.off != 0)) && (decide (b.head.body.length = 0) && decide (b.head.opts.length ≤ 40)) else sameB b.head Pk.empty)
theorem goodB_code (b : Bf) (now : Int) : goodB b now = (inB b.born 0 now && (rrB b && rhB b)) := by
  rw [Bool.eq_iff_iff]
  unfold goodB inB rrB rhB limB inB sameE
  simp only [Bool.and_eq_true, Bool.or_eq_true, Bool.not_eq_true', decide_eq_true_eq, beq_iff_eq, sameB_iff]
  constructor
  · rintro ⟨a, b1, c, d, e, f, g, h, i, j, k, l⟩
    refine ⟨⟨a, b1⟩, ⟨by split <;> omega, f, c⟩, g, ?_⟩
    split
    · simp [i, h, j, k]
    · rename_i hb
      rcases l with l | l
      · exact absurd l hb
      · simp [sameB_iff, l]
  · rintro ⟨⟨a, b1⟩, ⟨d, f, c⟩, g, h⟩
    have d' : (b.total = -1 ∨ 1 ≤ b.total) ∧ b.total ≤ 65535 := by split at d <;> omega
    refine ⟨a, b1, c, d'.1, d'.2, f, g, ?_⟩
    split at h
    · rename_i hb
      simp only [Bool.and_eq_true, Bool.not_eq_true', Bool.or_eq_false_iff, decide_eq_true_eq, bne_eq_false_iff_eq] at h
      exact ⟨h.2.2, h.2.1, h.1.1, h.1.2, .inl hb⟩
    · rw [sameB_iff] at h
      rw [h]
      exact ⟨by simp [Pk.empty], by simp [Pk.empty], rfl, rfl, .inr rfl⟩
theorem firstR_at : ∀ (l : List Rn) (h : 0 < l.length), firstR l = (l[0].off == 0)
  | [], h => by simp at h
  | _ :: _, _ => rfl
theorem ByIn.bsW {w : World} {V : Nat → Prop} {A : Option Addr} {c : Nat} {l : List UInt8} (h : ByIn w V A c l) (lt : ∀ b, V b → b < w.heap.size) : Bs w w.heap.size A l := h.bs.bs lt
set_option maxRecDepth 100000 in
set_option maxHeartbeats 4000000 in
theorem crightHead (b : Bf) (Ao : Option Addr) (co : Nat) (Ab : Option Addr) (cb : Nat) (Ar : Option Addr) (cr : Nat) (q : Bool) (hq : rhB b = q) (w : World) (V : Nat → Prop) (hB : BfAt w V b Ao co Ab cb Ar cr) (hn : 0 < b.runs.length) :
    Calls Try.prog 50 #[bfV b Ao co Ab cb Ar cr] w fun e w' => e = .returned (.bool q) ∧ Below w.heap.size w w' := by
  have HQ := Go.Lib.hid hq
  have b0 : Below w.heap.size w (w.alloc (oBf b Ao co Ab cb Ar cr)) := (Below.refl _ _).alloc (Nat.le_refl _) _
  have M0 := Go.Lib.hid (BoBf.made (w := w) (b := b) (Ao := Ao) (co := co) (Ab := Ab) (cb := cb) (Ar := Ar) (cr := cr))
  have s0 : w.heap.size < (w.alloc (oBf b Ao co Ab cb Ar cr)).heap.size := by simp
  have HB0 := Go.Lib.hid (hB.at b0)
  have rlen := hB.rlen
  have rcap := hB.rcap
  have q1 := hB.o.len
  have q2 := hB.o.cap
  have q3 := hB.bo.len
  have q4 := hB.bo.cap
  clear hB hq
  go_enter Try.func50, Try.ntmps50
  go_upto_region 1 with fail
  generalize w.alloc (oBf b Ao co Ab cb Ar cr) = W at *
  obtain ⟨ad, Ad, cd, rfl, hb, r0, r1, rb⟩ := HB0.out.runs.at_ hn
  have HE : Hid (firstR b.runs = (b.runs[0].off == 0)) := Go.Lib.hid (firstR_at _ hn)
  clear rb r1
  rw [Nat.zero_mul] at r0
  have e0 : ad.add 0 = ad := by simp [Addr.add]
  rw [e0] at r0
  generalize b.runs[0].off = o0 at *
  have i2 : (0 : Int) < (b.runs.length : Int) := by omega
  obtain ⟨c0, c1, c2, c3, c4, c5, c6, c7, c8, c9, c10, c11, c12, c13, c14, c15, c16, c17, c18⟩ := M0.out.cells
  clear c0 c1 c2 c3 c4 c17 e0
  have hqv : q = ((b.first == (o0 == 0)) && (if b.first then !(b.head.mf || (b.head.off != 0)) && (decide (b.head.body.length = 0) && decide (b.head.opts.length ≤ 40)) else sameB b.head Pk.empty)) := by
    rw [← HQ.out]; unfold rhB; rw [HE.out]
  have HQ2 := Go.Lib.hid hqv
  clear hqv HQ HE
  go_quiet (fail)
  have x1 : Below W.heap.size W (W.drewN nq) := below_dn (Below.refl _ _) _
  generalize W.drewN nq = W1 at *
  have HO := Go.Lib.hid ((HB0.out.at x1).o.bsW (HB0.out.at x1).lt)
  have HBo := Go.Lib.hid ((HB0.out.at x1).bo.bsW (HB0.out.at x1).lt)
  obtain ⟨c0, c1, c2, c3, c4, c5, c6, c7, c8, c9, c10, c11, c12, c13, c14, c15, c16, c17, c18⟩ := (M0.out.keep x1 s0).cells
  clear c0 c1 c2 c3 c4 c17 c18
  cases hf : b.first
  · cases ho : (o0 == 0)
    · rw [hf, ho] at HQ2
      rw [hf] at c16
      go_wp2_with (first
        | (go_at_call 56; refine (csameP b.head Pk.empty Ao co Ab cb none 0 none 0 _ HO.out HBo.out (.inl rfl) (.inl rfl)).mono ?_; rintro e w1 ⟨rfl, hcall⟩; dsimp only))
      go_ret
      exact ⟨ret_bool (by rw [HQ2.out]; rfl), b0.trans ((x1.trans (hcall.mono x1.size)).mono b0.size)⟩
    · rw [hf, ho] at HQ2
      rw [hf] at c16
      go_wp2
      go_ret
      exact ⟨ret_bool (by rw [HQ2.out]; rfl), b0.trans (x1.mono b0.size)⟩
  · cases ho : (o0 == 0)
    · rw [hf, ho] at HQ2
      rw [hf] at c16
      go_wp2
      go_ret
      exact ⟨ret_bool (by rw [HQ2.out]; rfl), b0.trans (x1.mono b0.size)⟩
    · rw [hf, ho] at HQ2
      rw [hf] at c16
      clear c5 c6 c7 c8 c9 c10 c11 c12 c13 c14 c15
      obtain ⟨c0, c1, c2, c3, c4, c5, c6, c7, c8, c9, c10, c11, c12, c13, c14, c15, d16, c17, c18⟩ := (M0.out.keep x1 s0).cells
      clear c0 c1 c2 c3 c4 c17 c18 d16
      have C5 : Hid (∀ Y, Below W1.heap.size W1 Y → Y.cell? ⟨w.heap.size, 14, none⟩ = some (.slice Ao b.head.opts.length co) ∧ Y.cell? ⟨w.heap.size, 15, none⟩ = some (.slice Ab b.head.body.length cb)) := Go.Lib.hid fun Y y => by
        obtain ⟨c0, c1, c2, c3, c4, c5, c6, c7, c8, c9, c10, c11, c12, c13, c14, c15, d16, c17, c18⟩ := (M0.out.keep (x1.trans (y.mono x1.size)) s0).cells
        exact ⟨c14, c15⟩
      cases hmo : (b.head.mf || (b.head.off != 0))
      · rw [hmo] at HQ2
        by_cases h1 : b.head.body.length = 0
        · have t3 : ((b.head.body.length : Int) == 0) = true := by rw [beq_iff_eq]; omega
          have H1 := Go.Lib.hid h1
          clear h1
          go_wp2_with (first
            | (go_at_call 16; refine (cpiece b.head Ao co Ab cb _).mono ?_; rintro e w1 ⟨rfl, hcall⟩; rw [hmo]; obtain ⟨f14, f15⟩ := C5.out _ hcall; dsimp only))
          all_goals (go_ret; exact ⟨ret_bool (by rw [HQ2.out]; have h1 := H1.out; first | (simp [h1]; done) | (simp [h1]; omega)), b0.trans ((x1.trans (hcall.mono x1.size)).mono b0.size)⟩)
        · have t3 : ((b.head.body.length : Int) == 0) = false := by rw [beq_eq_false_iff_ne]; omega
          have H1 := Go.Lib.hid h1
          clear h1
          go_wp2_with (first
            | (go_at_call 16; refine (cpiece b.head Ao co Ab cb _).mono ?_; rintro e w1 ⟨rfl, hcall⟩; rw [hmo]; obtain ⟨f14, f15⟩ := C5.out _ hcall; dsimp only))
          all_goals (go_ret; exact ⟨ret_bool (by rw [HQ2.out]; have h1 := H1.out; first | (simp [h1]; done) | (simp [h1]; omega)), b0.trans ((x1.trans (hcall.mono x1.size)).mono b0.size)⟩)
      · rw [hmo] at HQ2
        go_wp2_with (first
          | (go_at_call 16; refine (cpiece b.head Ao co Ab cb _).mono ?_; rintro e w1 ⟨rfl, hcall⟩; rw [hmo]; dsimp only))
        go_ret
        exact ⟨ret_bool (by rw [HQ2.out]; rfl), b0.trans ((x1.trans (hcall.mono x1.size)).mono b0.size)⟩
set_option maxRecDepth 100000 in
set_option maxHeartbeats 4000000 in
theorem crightBuffer (b : Bf) (Ao : Option Addr) (co : Nat) (Ab : Option Addr) (cb : Nat) (Ar : Option Addr) (cr : Nat) (now : Int) (q : Bool) (hq : goodB b now = q) (w : World) (V : Nat → Prop) (hB : BfAt w V b Ao co Ab cb Ar cr) :
    Calls Try.prog 29 #[bfV b Ao co Ab cb Ar cr, .int .i64 now] w fun e w' => e = .returned (.bool q) ∧ Below w.heap.size w w' := by
  rw [goodB_code] at hq
  have HQ := Go.Lib.hid hq
  have b0 : Below w.heap.size w (w.alloc (oBf b Ao co Ab cb Ar cr)) := (Below.refl _ _).alloc (Nat.le_refl _) _
  have M0 := Go.Lib.hid (BoBf.made (w := w) (b := b) (Ao := Ao) (co := co) (Ab := Ab) (cb := cb) (Ar := Ar) (cr := cr))
  have s0 : w.heap.size < (w.alloc (oBf b Ao co Ab cb Ar cr)).heap.size := by simp
  have HB0 := Go.Lib.hid (hB.at b0)
  clear hB hq
  go_enter Try.func29, Try.ntmps29
  go_upto_region 1 with fail
  generalize w.alloc (oBf b Ao co Ab cb Ar cr) = W at *
  obtain ⟨c0, c1, c2, c3, c4, c5, c6, c7, c8, c9, c10, c11, c12, c13, c14, c15, c16, c17, c18⟩ := M0.out.cells
  clear c0 c1 c2 c3 c5 c6 c7 c8 c9 c10 c11 c12 c13 c14 c15 c16 c17 c18
  have HM := Go.Lib.hid M0.out.at
  cases h1 : inB b.born 0 now
  · go_wp2_with (first
      | (go_at_call 26; refine (cwithin _ _ _ false h1 _).mono ?_; rintro e w' ⟨rfl, rfl⟩; dsimp only))
    go_ret
    exact ⟨ret_bool (by rw [← HQ.out, h1]; rfl), b0⟩
  · cases h2 : rrB b
    · go_wp2_with (first
        | (go_at_call 26; refine (cwithin _ _ _ true h1 _).mono ?_; rintro e w' ⟨rfl, rfl⟩; dsimp only)
        | (refine wpList_load_bf rfl _ rfl ⟨w.heap.size, 0, none⟩ rfl b Ao co Ab cb Ar cr HM.out ?_)
        | (go_at_call 49; refine (crightRuns b Ao co Ab cb Ar cr false h2 _ V HB0.out).mono ?_; rintro e w1 ⟨rfl, hcall⟩; dsimp only))
      go_ret
      exact ⟨ret_bool (by rw [← HQ.out, h1, h2]; rfl), b0.trans (hcall.mono b0.size)⟩
    · have hn : 0 < b.runs.length := by
        unfold rrB at h2
        simp only [Bool.and_eq_true, decide_eq_true_eq] at h2
        exact h2.2.2
      go_wp2_with (first
        | (go_at_call 26; refine (cwithin _ _ _ true h1 _).mono ?_; rintro e w' ⟨rfl, rfl⟩; dsimp only)
        | (refine wpList_load_bf rfl _ rfl ⟨w.heap.size, 0, none⟩ rfl b Ao co Ab cb Ar cr HM.out ?_)
        | (refine wpList_load_bf rfl _ rfl ⟨w.heap.size, 0, none⟩ rfl b Ao co Ab cb Ar cr ((M0.out.keep (by assumption) s0).at) ?_)
        | (go_at_call 49; refine (crightRuns b Ao co Ab cb Ar cr true h2 _ V HB0.out).mono ?_; rintro e w1 ⟨rfl, hcall⟩; dsimp only)
        | (go_at_call 50; refine (crightHead b Ao co Ab cb Ar cr _ rfl _ V (HB0.out.at hcall) hn).mono ?_; rintro e w2 ⟨rfl, hcall2⟩; dsimp only))
      go_ret
      exact ⟨ret_bool (by rw [← HQ.out, h1, h2]; rfl), b0.trans ((hcall.trans (hcall2.mono hcall.size)).mono b0.size)⟩
end Go.Proofs.Ythejakbjekjhjaa
