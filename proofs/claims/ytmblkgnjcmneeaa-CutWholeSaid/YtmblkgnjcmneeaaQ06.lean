/- Lemmas, several texts in one. -/
import Derived.Test.YtmblkgnjcmneeaaQ05
import Derived.Test.YtmblkgnjcmneeaaQ02
/- Contract of package ip's Piece. -/
namespace Go.Proofs.Ytmblkgnjcmneeaa
open Go.ChangeShapes Go.WideShapes Go.ChangeAt Go.RowKit
set_option linter.unusedVariables false

set_option maxHeartbeats 400000 in
theorem cpiece (p : Pk) (Ao : Option Addr) (co : Nat) (Ab : Option Addr) (cb : Nat) (w : World) :
    Calls Try.prog 28 #[pkV p Ao co Ab cb] w fun e w' => e = .returned (.bool (p.mf || (p.off != 0))) ∧ Below w.heap.size w w' := by
  go_enter Try.func28, Try.ntmps28
  go_wp2
  all_goals (go_ret; refine ⟨ret_bool ?_, (Below.refl _ _).alloc (Nat.le_refl _) _⟩)
  all_goals (simp [*]; done)
end Go.Proofs.Ytmblkgnjcmneeaa

/- The contracts of package reasm's rightHead, rightBuffer. -/
namespace Go.Proofs.Ytmblkgnjcmneeaa
open Go.ChangeShapes Go.WideShapes Go.ChangeAt Go.RowKit
set_option linter.unusedVariables false
set_option linter.unusedSimpArgs false

def rhB (b : Bf) : Bool := (b.first == firstR b.runs) && (if b.first then !(b.head.mf || (b.head.off != 0)) && (decide (b.head.body.length = 0) && decide (b.head.opts.length ≤ 40)) else sameB b.head Pk.empty)
theorem goodB_code (b : Bf) (now : Int) : goodB b now = (inB b.born 0 now && (rrB b && rhB b)) := by
  rw [Bool.eq_iff_iff]
  unfold goodB inB rrB rhB limB inB sameE
  simp only [Bool.and_eq_true, Bool.or_eq_true, Bool.not_eq_true', decide_eq_true_eq, beq_iff_eq, sameB_iff]
  constructor
  · rintro ⟨a, b1, c, d, e, f, g, h, i, j, k, l⟩
    refine ⟨⟨a, b1⟩, ⟨by split <;> omega, f, c⟩, g, ?_⟩
    split
    · simp [i, h, j, k]
    · rename_i hb
      rcases l with l | l
      · exact absurd l hb
      · simp [sameB_iff, l]
  · rintro ⟨⟨a, b1⟩, ⟨d, f, c⟩, g, h⟩
    have d' : (b.total = -1 ∨ 1 ≤ b.total) ∧ b.total ≤ 65535 := by split at d <;> omega
    refine ⟨a, b1, c, d'.1, d'.2, f, g, ?_⟩
    split at h
    · rename_i hb
      simp only [Bool.and_eq_true, Bool.not_eq_true', Bool.or_eq_false_iff, decide_eq_true_eq, bne_eq_false_iff_eq] at h
      exact ⟨h.2.2, h.2.1, h.1.1, h.1.2, .inl hb⟩
    · rw [sameB_iff] at h
      rw [h]
      exact ⟨by simp [Pk.empty], by simp [Pk.empty], rfl, rfl, .inr rfl⟩
theorem firstR_at : ∀ (l : List Rn) (h : 0 < l.length), firstR l = (l[0].off == 0)
  | [], h => by simp at h
  | _ :: _, _ => rfl
theorem ByIn.bsW {w : World} {V : Nat → Prop} {A : Option Addr} {c : Nat} {l : List UInt8} (h : ByIn w V A c l) (lt : ∀ b, V b → b < w.heap.size) : Bs w w.heap.size A l := h.bs.bs lt
set_option maxRecDepth 100000 in
set_option maxHeartbeats 4000000 in
theorem crightHead (b : Bf) (Ao : Option Addr) (co : Nat) (Ab : Option Addr) (cb : Nat) (Ar : Option Addr) (cr : Nat) (q : Bool) (hq : rhB b = q) (w : World) (V : Nat → Prop) (hB : BfAt w V b Ao co Ab cb Ar cr) (hn : 0 < b.runs.length) :
    Calls Try.prog 66 #[bfV b Ao co Ab cb Ar cr] w fun e w' => e = .returned (.bool q) ∧ Below w.heap.size w w' := by
  have HQ := Go.Lib.hid hq
  have b0 : Below w.heap.size w (w.alloc (oBf b Ao co Ab cb Ar cr)) := (Below.refl _ _).alloc (Nat.le_refl _) _
  have M0 := Go.Lib.hid (BoBf.made (w := w) (b := b) (Ao := Ao) (co := co) (Ab := Ab) (cb := cb) (Ar := Ar) (cr := cr))
  have s0 : w.heap.size < (w.alloc (oBf b Ao co Ab cb Ar cr)).heap.size := by simp
  have HB0 := Go.Lib.hid (hB.at b0)
  have rlen := hB.rlen
  have rcap := hB.rcap
  have q1 := hB.o.len
  have q2 := hB.o.cap
  have q3 := hB.bo.len
  have q4 := hB.bo.cap
  clear hB hq
  go_enter Try.func66, Try.ntmps66
  go_upto_region 1 with fail
  generalize w.alloc (oBf b Ao co Ab cb Ar cr) = W at *
  obtain ⟨ad, Ad, cd, rfl, hb, r0, r1, rb⟩ := HB0.out.runs.at_ hn
  have HE : Hid (firstR b.runs = (b.runs[0].off == 0)) := Go.Lib.hid (firstR_at _ hn)
  clear rb r1
  rw [Nat.zero_mul] at r0
  have e0 : ad.add 0 = ad := by simp [Addr.add]
  rw [e0] at r0
  generalize b.runs[0].off = o0 at *
  have i2 : (0 : Int) < (b.runs.length : Int) := by omega
  obtain ⟨c0, c1, c2, c3, c4, c5, c6, c7, c8, c9, c10, c11, c12, c13, c14, c15, c16, c17, c18⟩ := M0.out.cells
  clear c0 c1 c2 c3 c4 c17 e0
  have hqv : q = ((b.first == (o0 == 0)) && (if b.first then !(b.head.mf || (b.head.off != 0)) && (decide (b.head.body.length = 0) && decide (b.head.opts.length ≤ 40)) else sameB b.head Pk.empty)) := by
    rw [← HQ.out]; unfold rhB; rw [HE.out]
  have HQ2 := Go.Lib.hid hqv
  clear hqv HQ HE
  go_quiet (fail)
  have x1 : Below W.heap.size W (W.drewN nq) := below_dn (Below.refl _ _) _
  generalize W.drewN nq = W1 at *
  have HO := Go.Lib.hid ((HB0.out.at x1).o.bsW (HB0.out.at x1).lt)
  have HBo := Go.Lib.hid ((HB0.out.at x1).bo.bsW (HB0.out.at x1).lt)
  obtain ⟨c0, c1, c2, c3, c4, c5, c6, c7, c8, c9, c10, c11, c12, c13, c14, c15, c16, c17, c18⟩ := (M0.out.keep x1 s0).cells
  clear c0 c1 c2 c3 c4 c17 c18
  cases hf : b.first
  · cases ho : (o0 == 0)
    · rw [hf, ho] at HQ2
      rw [hf] at c16
      go_wp2_with (first
        | (go_at_call 14; refine (csameP b.head Pk.empty Ao co Ab cb none 0 none 0 _ HO.out HBo.out (.inl rfl) (.inl rfl)).mono ?_; rintro e w1 ⟨rfl, hcall⟩; dsimp only))
      go_ret
      exact ⟨ret_bool (by rw [HQ2.out]; rfl), b0.trans ((x1.trans (hcall.mono x1.size)).mono b0.size)⟩
    · rw [hf, ho] at HQ2
      rw [hf] at c16
      go_wp2
      go_ret
      exact ⟨ret_bool (by rw [HQ2.out]; rfl), b0.trans (x1.mono b0.size)⟩
  · cases ho : (o0 == 0)
    · rw [hf, ho] at HQ2
      rw [hf] at c16
      go_wp2
      go_ret
      exact ⟨ret_bool (by rw [HQ2.out]; rfl), b0.trans (x1.mono b0.size)⟩
    · rw [hf, ho] at HQ2
      rw [hf] at c16
      clear c5 c6 c7 c8 c9 c10 c11 c12 c13 c14 c15
      obtain ⟨c0, c1, c2, c3, c4, c5, c6, c7, c8, c9, c10, c11, c12, c13, c14, c15, d16, c17, c18⟩ := (M0.out.keep x1 s0).cells
      clear c0 c1 c2 c3 c4 c17 c18 d16
      have C5 : Hid (∀ Y, Below W1.heap.size W1 Y → Y.cell? ⟨w.heap.size, 14, none⟩ = some (.slice Ao b.head.opts.length co) ∧ Y.cell? ⟨w.heap.size, 15, none⟩ = some (.slice Ab b.head.body.length cb)) := Go.Lib.hid fun Y y => by
        obtain ⟨c0, c1, c2, c3, c4, c5, c6, c7, c8, c9, c10, c11, c12, c13, c14, c15, d16, c17, c18⟩ := (M0.out.keep (x1.trans (y.mono x1.size)) s0).cells
        exact ⟨c14, c15⟩
      cases hmo : (b.head.mf || (b.head.off != 0))
      · rw [hmo] at HQ2
        by_cases h1 : b.head.body.length = 0
        · have t3 : ((b.head.body.length : Int) == 0) = true := by rw [beq_iff_eq]; omega
          have H1 := Go.Lib.hid h1
          clear h1
          go_wp2_with (first
            | (go_at_call 28; refine (cpiece b.head Ao co Ab cb _).mono ?_; rintro e w1 ⟨rfl, hcall⟩; rw [hmo]; obtain ⟨f14, f15⟩ := C5.out _ hcall; dsimp only))
          all_goals (go_ret; exact ⟨ret_bool (by rw [HQ2.out]; have h1 := H1.out; first | (simp [h1]; done) | (simp [h1]; omega)), b0.trans ((x1.trans (hcall.mono x1.size)).mono b0.size)⟩)
        · have t3 : ((b.head.body.length : Int) == 0) = false := by rw [beq_eq_false_iff_ne]; omega
          have H1 := Go.Lib.hid h1
          clear h1
          go_wp2_with (first
            | (go_at_call 28; refine (cpiece b.head Ao co Ab cb _).mono ?_; rintro e w1 ⟨rfl, hcall⟩; rw [hmo]; obtain ⟨f14, f15⟩ := C5.out _ hcall; dsimp only))
          all_goals (go_ret; exact ⟨ret_bool (by rw [HQ2.out]; have h1 := H1.out; first | (simp [h1]; done) | (simp [h1]; omega)), b0.trans ((x1.trans (hcall.mono x1.size)).mono b0.size)⟩)
      · rw [hmo] at HQ2
        go_wp2_with (first
          | (go_at_call 28; refine (cpiece b.head Ao co Ab cb _).mono ?_; rintro e w1 ⟨rfl, hcall⟩; rw [hmo]; dsimp only))
        go_ret
        exact ⟨ret_bool (by rw [HQ2.out]; rfl), b0.trans ((x1.trans (hcall.mono x1.size)).mono b0.size)⟩
set_option maxRecDepth 100000 in
set_option maxHeartbeats 4000000 in
theorem crightBuffer (b : Bf) (Ao : Option Addr) (co : Nat) (Ab : Option Addr) (cb : Nat) (Ar : Option Addr) (cr : Nat) (now : Int) (q : Bool) (hq : goodB b now = q) (w : World) (V : Nat → Prop) (hB : BfAt w V b Ao co Ab cb Ar cr) :
    Calls Try.prog 50 #[bfV b Ao co Ab cb Ar cr, .int .i64 now] w fun e w' => e = .returned (.bool q) ∧ Below w.heap.size w w' := by
  rw [goodB_code] at hq
  have HQ := Go.Lib.hid hq
  have b0 : Below w.heap.size w (w.alloc (oBf b Ao co Ab cb Ar cr)) := (Below.refl _ _).alloc (Nat.le_refl _) _
  have M0 := Go.Lib.hid (BoBf.made (w := w) (b := b) (Ao := Ao) (co := co) (Ab := Ab) (cb := cb) (Ar := Ar) (cr := cr))
  have s0 : w.heap.size < (w.alloc (oBf b Ao co Ab cb Ar cr)).heap.size := by simp
  have HB0 := Go.Lib.hid (hB.at b0)
  clear hB hq
  go_enter Try.func50, Try.ntmps50
  go_upto_region 1 with fail
  generalize w.alloc (oBf b Ao co Ab cb Ar cr) = W at *
  obtain ⟨c0, c1, c2, c3, c4, c5, c6, c7, c8, c9, c10, c11, c12, c13, c14, c15, c16, c17, c18⟩ := M0.out.cells
  clear c0 c1 c2 c3 c5 c6 c7 c8 c9 c10 c11 c12 c13 c14 c15 c16 c17 c18
  have HM := Go.Lib.hid M0.out.at
  cases h1 : inB b.born 0 now
  · go_wp2_with (first
      | (go_at_call 49; refine (cwithin _ _ _ false h1 _).mono ?_; rintro e w' ⟨rfl, rfl⟩; dsimp only))
    go_ret
    exact ⟨ret_bool (by rw [← HQ.out, h1]; rfl), b0⟩
  · cases h2 : rrB b
    · go_wp2_with (first
        | (go_at_call 49; refine (cwithin _ _ _ true h1 _).mono ?_; rintro e w' ⟨rfl, rfl⟩; dsimp only)
        | (refine wpList_load_bf rfl _ rfl ⟨w.heap.size, 0, none⟩ rfl b Ao co Ab cb Ar cr HM.out ?_)
        | (go_at_call 65; refine (crightRuns b Ao co Ab cb Ar cr false h2 _ V HB0.out).mono ?_; rintro e w1 ⟨rfl, hcall⟩; dsimp only))
      go_ret
      exact ⟨ret_bool (by rw [← HQ.out, h1, h2]; rfl), b0.trans (hcall.mono b0.size)⟩
    · have hn : 0 < b.runs.length := by
        unfold rrB at h2
        simp only [Bool.and_eq_true, decide_eq_true_eq] at h2
        exact h2.2.2
      go_wp2_with (first
        | (go_at_call 49; refine (cwithin _ _ _ true h1 _).mono ?_; rintro e w' ⟨rfl, rfl⟩; dsimp only)
        | (refine wpList_load_bf rfl _ rfl ⟨w.heap.size, 0, none⟩ rfl b Ao co Ab cb Ar cr HM.out ?_)
        | (refine wpList_load_bf rfl _ rfl ⟨w.heap.size, 0, none⟩ rfl b Ao co Ab cb Ar cr ((M0.out.keep (by assumption) s0).at) ?_)
        | (go_at_call 65; refine (crightRuns b Ao co Ab cb Ar cr true h2 _ V HB0.out).mono ?_; rintro e w1 ⟨rfl, hcall⟩; dsimp only)
        | (go_at_call 66; refine (crightHead b Ao co Ab cb Ar cr _ rfl _ V (HB0.out.at hcall) hn).mono ?_; rintro e w2 ⟨rfl, hcall2⟩; dsimp only))
      go_ret
      exact ⟨ret_bool (by rw [← HQ.out, h1, h2]; rfl), b0.trans ((hcall.trans (hcall2.mono hcall.size)).mono b0.size)⟩
end Go.Proofs.Ytmblkgnjcmneeaa

/- The contract of package reasm's Right. -/
namespace Go.Proofs.Ytmblkgnjcmneeaa
open Go.ChangeShapes Go.WideShapes Go.ChangeAt Go.RowKit
set_option linter.unusedVariables false
set_option linter.unusedSimpArgs false

/-- the first packets are right, and no two of one name. -/
def prefB (bs : List Bf) (now : Int) (k : Nat) : Bool := (bs.take k).all (fun b => goodB b now) && decide ((bs.take k).map nmB).Nodup
theorem pref_step (bs : List Bf) (now : Int) (k : Nat) (h : k < bs.length) : prefB bs now (k + 1) = (prefB bs now k && (goodB bs[k] now && !decide (findB (bs.take k) (nmB bs[k]) < k))) := by
  unfold prefB
  rw [List.take_succ_eq_append_getElem h, List.all_append, List.map_append, Bool.eq_iff_iff]
  have e : findB (bs.take k) (nmB bs[k]) < k ↔ nmB bs[k] ∈ (bs.take k).map nmB := by
    have hl : (bs.take k).length = k := by rw [List.length_take]; omega
    unfold findB
    conv => lhs; rhs; rw [← hl]
    rw [List.findIdx_lt_length]
    constructor
    · rintro ⟨x, hx, hn⟩; exact List.mem_map.2 ⟨x, hx, by simpa using hn⟩
    · intro hm; obtain ⟨x, hx, hn⟩ := List.mem_map.1 hm; exact ⟨x, hx, by simpa using hn⟩
  simp only [Bool.and_eq_true, Bool.not_eq_true', decide_eq_true_eq, decide_eq_false_iff_not, e, List.nodup_append, List.all_cons, List.all_nil, Bool.and_true, List.map_cons, List.map_nil]
  constructor
  · rintro ⟨⟨a, b⟩, c, _, d⟩
    exact ⟨⟨a, c⟩, b, fun hm => d _ hm _ (by simp) rfl⟩
  · rintro ⟨⟨a, c⟩, b, d⟩
    exact ⟨⟨a, b⟩, c, by simp, fun x hx y hy hxy => d (by rw [← (List.mem_singleton.1 hy), ← hxy]; exact hx)⟩
theorem pref_mono (bs : List Bf) (now : Int) (k : Nat) (h : k < bs.length) (hp : prefB bs now (k + 1) = false) : prefB bs now bs.length = false := by
  have : ∀ m, k + 1 + m ≤ bs.length → prefB bs now (k + 1 + m) = false := by
    intro m
    induction m with
    | zero => intro _; exact hp
    | succ m ih =>
      intro hm
      rw [show k + 1 + (m + 1) = (k + 1 + m) + 1 by omega, pref_step bs now (k + 1 + m) (by omega), ih (by omega)]; rfl
  have := this (bs.length - (k + 1)) (by omega)
  rwa [show k + 1 + (bs.length - (k + 1)) = bs.length by omega] at this
theorem rightP_code (p : Po) : rightP p = (inB p.room 1 1048576 && (inB p.life 1 1048576 && (inB p.now 0 1099511627776 && (decide (p.list.length ≤ 64) && (prefB p.list p.now p.list.length && decide ((heldP p : Int) ≤ p.room)))))) := by
  unfold rightP inB prefB
  rw [List.take_length]
  simp only [Bool.and_assoc]
theorem Fs.take {w : World} {V : Nat → Prop} {A : Option Addr} {bs : List Bf} (h : Fs w V A bs) (k : Nat) : Fs w V A (bs.take k) := by
  rcases h with h | ⟨ad, e, hlt, hc⟩
  · exact .inl (by rw [h]; simp)
  · exact .inr ⟨ad, e, hlt, fun j o hj => hc j o (by rw [List.getElem?_take] at hj; split at hj <;> simp_all)⟩
theorem PoAt.take {w : World} {V : Nat → Prop} {p : Po} {A : Option Addr} {c : Nat} (h : PoAt w V p A c) (k : Nat) : LsAt w V (p.list.take k) A c :=
  ⟨⟨by show (p.list.take k).length ≤ c; rw [List.length_take]; have := h.is.len; omega, h.is.cap, h.is.nil, h.is.fs.take k⟩, h.lt⟩
theorem PoAt.ls {w : World} {V : Nat → Prop} {p : Po} {A : Option Addr} {c : Nat} (h : PoAt w V p A c) : LsAt w V p.list A c := ⟨⟨h.is.len, h.is.cap, h.is.nil, h.is.fs⟩, h.lt⟩
theorem cfindN (bs : List Bf) (A : Option Addr) (c n : Nat) (hn : bs.length = n) (nm : Int × Int × Int × Int) (k0 : Nat) (hf : findB bs nm = k0) (w : World) (V : Nat → Prop) (hP : LsAt w V bs A c) :
    Calls Try.prog 31 #[.slice A n c, nmV nm] w fun e w' => e = .returned (.int .i64 k0) ∧ Below w.heap.size w w' := by
  subst hn; exact cfind bs A c nm k0 hf w V hP
theorem findB_le (bs : List Bf) (n : Int × Int × Int × Int) : findB bs n ≤ bs.length := List.findIdx_le_length

set_option maxRecDepth 100000 in
set_option maxHeartbeats 4000000 in
theorem cright : RightC := by
  intro p A c w V q hq hP hF
  rw [rightP_code] at hq
  have HQ := Go.Lib.hid hq
  have b0 : Below w.heap.size w (w.alloc (oPo p A c)) := (Below.refl _ _).alloc (Nat.le_refl _) _
  have M0 := Go.Lib.hid (BoPo.made (w := w) (p := p) (A := A) (c := c))
  have s0 : w.heap.size < (w.alloc (oPo p A c)).heap.size := by simp
  have HP := Go.Lib.hid (hP.at b0)
  have oc := hP.is.len
  have oc2 := hP.is.cap
  clear hP hq
  go_enter Try.func26, Try.ntmps26
  go_upto_region 1 with fail
  generalize w.alloc (oPo p A c) = W at *
  obtain ⟨c0, c1, c2, c3⟩ := M0.out.cells
  cases h1 : inB p.room 1 1048576
  · go_wp2_with (first
      | (go_at_call_of 49 (Value.int .i64 p.room); refine (cwithin _ _ _ false h1 _).mono ?_; rintro e w' ⟨rfl, rfl⟩; dsimp only))
    go_ret
    exact ⟨ret_bool (by rw [← HQ.out, h1]; rfl), b0⟩
  cases h2 : inB p.life 1 1048576
  · go_wp2_with (first
      | (go_at_call_of 49 (Value.int .i64 p.room); refine (cwithin _ _ _ true h1 _).mono ?_; rintro e w' ⟨rfl, rfl⟩; dsimp only)
      | (go_at_call_of 49 (Value.int .i64 p.life); refine (cwithin _ _ _ false h2 _).mono ?_; rintro e w' ⟨rfl, rfl⟩; dsimp only))
    go_ret
    exact ⟨ret_bool (by rw [← HQ.out, h1, h2]; rfl), b0⟩
  cases h3 : inB p.now 0 1099511627776
  · go_wp2_with (first
      | (go_at_call_of 49 (Value.int .i64 p.room); refine (cwithin _ _ _ true h1 _).mono ?_; rintro e w' ⟨rfl, rfl⟩; dsimp only)
      | (go_at_call_of 49 (Value.int .i64 p.life); refine (cwithin _ _ _ true h2 _).mono ?_; rintro e w' ⟨rfl, rfl⟩; dsimp only)
      | (go_at_call_of 49 (Value.int .i64 p.now); refine (cwithin _ _ _ false h3 _).mono ?_; rintro e w' ⟨rfl, rfl⟩; dsimp only))
    go_ret
    exact ⟨ret_bool (by rw [← HQ.out, h1, h2, h3]; rfl), b0⟩
  by_cases h4 : p.list.length ≤ 64
  case neg =>
    go_wp2_with (first
      | (go_at_call_of 49 (Value.int .i64 p.room); refine (cwithin _ _ _ true h1 _).mono ?_; rintro e w' ⟨rfl, rfl⟩; dsimp only)
      | (go_at_call_of 49 (Value.int .i64 p.life); refine (cwithin _ _ _ true h2 _).mono ?_; rintro e w' ⟨rfl, rfl⟩; dsimp only)
      | (go_at_call_of 49 (Value.int .i64 p.now); refine (cwithin _ _ _ true h3 _).mono ?_; rintro e w' ⟨rfl, rfl⟩; dsimp only))
    go_ret
    exact ⟨ret_bool (by rw [← HQ.out, h1, h2, h3]; simp; omega), b0⟩
  have HQ2 : Hid (q = (prefB p.list p.now p.list.length && decide ((heldP p : Int) ≤ p.room))) := Go.Lib.hid (by rw [← HQ.out, h1, h2, h3]; simp [h4])
  clear HQ
  go_wp2_with (first
    | (go_at_call_of 49 (Value.int .i64 p.room); refine (cwithin _ _ _ true h1 _).mono ?_; rintro e w' ⟨rfl, rfl⟩; dsimp only)
    | (go_at_call_of 49 (Value.int .i64 p.life); refine (cwithin _ _ _ true h2 _).mono ?_; rintro e w' ⟨rfl, rfl⟩; dsimp only)
    | (go_at_call_of 49 (Value.int .i64 p.now); refine (cwithin _ _ _ true h3 _).mono ?_; rintro e w' ⟨rfl, rfl⟩; dsimp only))
  clear c0 c1 c2 c3 h1 h2 h3
  go_loopw [28] (fun i wr => ∃ k : Nat, k ≤ p.list.length ∧ i = .int .i64 k ∧ Hid (prefB p.list p.now k = true) ∧ Below W.heap.size W wr) (fun i _ => p.list.length - (intOf i).toNat)
  case atStart => exact ⟨0, by omega, rfl, Go.Lib.hid (by simp [prefB]), Below.refl _ _⟩
  case round =>
    obtain ⟨k, hk, rfl, HT, x1⟩ := hrel
    by_cases hlt : k < p.list.length
    · obtain ⟨ad, Ao, co, Ab, cb, Ar, cr, rfl, hb, hc⟩ := (HP.out.at x1).is.fs.at_ hlt
      have i1 : (0 : Int) ≤ (k : Int) := by omega
      have i2 : (k : Int) < (p.list.length : Int) := by omega
      have i3 : (k : Int) ≤ (c : Int) := by omega
      have HC := Go.Lib.hid hc.all
      have HB0 := Go.Lib.hid (hc.bf (HP.out.at x1).lt)
      clear hc
      have HPS : Hid (prefB p.list p.now (k + 1) = (goodB p.list[k] p.now && !decide (findB (p.list.take k) (nmB p.list[k]) < k))) := Go.Lib.hid (by rw [pref_step _ _ _ hlt, HT.out]; rfl)
      have HBAD : Hid (prefB p.list p.now (k + 1) = false → q = false) := Go.Lib.hid (fun h => by rw [HQ2.out, pref_mono _ _ _ hlt h]; rfl)
      have HLT := Go.Lib.hid (HP.out.take k)
      have HK : Hid ((p.list.take k).length = k) := Go.Lib.hid (by rw [List.length_take]; omega)
      generalize hr : p.list[k] = x at *
      clear hr
      have y1d := (Below.refl wr.heap.size wr).alloc (Nat.le_refl _) (oBf x Ao co Ab cb Ar cr)
      have y1 := x1.trans (y1d.mono x1.size)
      have HB := Go.Lib.hid (HB0.out.at y1d)
      have M1 := Go.Lib.hid (BoBf.made (w := wr) (b := x) (Ao := Ao) (co := co) (Ab := Ab) (cb := cb) (Ar := Ar) (cr := cr))
      have s1 : wr.heap.size < (wr.alloc (oBf x Ao co Ab cb Ar cr)).heap.size := by simp
      clear HB0
      go_upto_region 7 with fail
      go_wp2_with (first
        | (refine wpList_load_bf rfl _ rfl (ad.add (k * 19)) rfl x Ao co Ab cb Ar cr HC.out ?_)
        | (refine wpList_store_bf rfl _ _ rfl _ rfl x Ao co Ab cb Ar cr rfl rfl ?_))
      generalize wr.alloc (oBf x Ao co Ab cb Ar cr) = W3 at *
      have KP : Hid (∀ Y, Below W3.heap.size W3 Y → Y.cell? ⟨w.heap.size, 0, none⟩ = some (.int .i64 p.room) ∧ Y.cell? ⟨w.heap.size, 1, none⟩ = some (.int .i64 p.life) ∧ Y.cell? ⟨w.heap.size, 2, none⟩ = some (.int .i64 p.now) ∧ Y.cell? ⟨w.heap.size, 3, none⟩ = some (.slice (some ad) p.list.length c)) := Go.Lib.hid fun Y y => M0.out.keep (y1.trans (y.mono y1.size)) s0
      clear HC
      cases hg : goodB x p.now
      ·
        try simp only [Act.put, List.setIfInBounds_toArray, List.set_cons_zero, List.set_cons_succ]
        refine wp_region_held_drew (S := fun Y => Below W3.heap.size W3 Y) (by kernel_rfl) ?_ (fun hHeld => ?_)
        · exact below_drew (Below.refl _ _)
        refine wpAnyH_take (i := 0) (oi := ⟨some 33, _, _, _, _, _⟩) (v := bfV x Ao co Ab cb Ar cr) rfl (by kernel_rfl) (by kernel_rfl) (by kernel_rfl) (fun _ _ _ h => h) (yieldsIf_bf (by rfl) _ rfl ⟨wr.heap.size, 0, none⟩ rfl x Ao co Ab cb Ar cr (fun w h => (M1.out.keep h s1).at)) (by assumption) ?_
        try simp only [Act.put, List.setIfInBounds_toArray, List.set_cons_zero, List.set_cons_succ]
        refine wpAnyH_take (i := 1) (oi := ⟨some 34, _, _, _, _, _⟩) (v := ?_) rfl (by kernel_rfl) (by kernel_rfl) (by kernel_rfl) (fun _ _ _ h => h) (Or.inl ⟨by rfl, ?_⟩) (by assumption) ?_
        rotate_left
        · intro w hSw; (try dsimp only at hSw); go_simp; (try with_reducible rfl)
        try simp only [Act.put, List.setIfInBounds_toArray, List.set_cons_zero, List.set_cons_succ]
        refine wpAnyH_take (i := 2) (oi := ⟨some 35, _, _, _, _, _⟩) (v := ?_) rfl (by kernel_rfl) (by kernel_rfl) (by kernel_rfl) (fun _ _ _ h => h) (Or.inl ⟨by rfl, ?_⟩) (by assumption) ?_
        rotate_left
        · intro w hSw; obtain ⟨p0, p1, p2, p3⟩ := KP.out w hSw; (try dsimp only at hSw); go_simp; (try with_reducible rfl)
        try simp only [Act.put, List.setIfInBounds_toArray, List.set_cons_zero, List.set_cons_succ]
        refine wpAnyH_ready (rs := [3]) (by kernel_rfl) (by simp) (AllReadyH.cons (o := ⟨some 36, _, _, _, _, _⟩) rfl (fun Kc hKc => ?_) AllReadyH.nil)
        go_simp
        go_at_call 50; refine (crightBuffer x Ao co Ab cb Ar cr p.now false hg _ V (HB.out.at hHeld)).mono ?_; rintro e w' ⟨rfl, hcall⟩; dsimp only
        refine hKc.out _ _ (hHeld.trans (hcall.mono hHeld.size)) (fun hHeld => ?_)
        clear hKc Kc
        try simp only [Act.put, List.setIfInBounds_toArray, List.set_cons_zero, List.set_cons_succ]
        refine wpAnyH_take (i := 4) (oi := ⟨some 37, _, _, _, _, _⟩) (v := ?_) rfl (by kernel_rfl) (by kernel_rfl) (by kernel_rfl) (fun _ _ _ h => h) (Or.inl ⟨by rfl, ?_⟩) (by assumption) ?_
        rotate_left
        · intro w hSw; (try dsimp only at hSw); go_simp; (try with_reducible rfl)
        try simp only [Act.put, List.setIfInBounds_toArray, List.set_cons_zero, List.set_cons_succ]
        refine wpAnyH_take (i := 5) (oi := ⟨some 38, _, _, _, _, _⟩) (v := ?_) rfl (by kernel_rfl) (by kernel_rfl) (by kernel_rfl) (fun _ _ _ h => h) (Or.inl ⟨by rfl, ?_⟩) (by assumption) ?_
        rotate_left
        · intro w hSw; (try dsimp only at hSw); go_simp; (try with_reducible rfl)
        try simp only [Act.put, List.setIfInBounds_toArray, List.set_cons_zero, List.set_cons_succ]
        refine wpAnyH_take (i := 6) (oi := ⟨some 39, _, _, _, _, _⟩) (v := undef) rfl (by kernel_rfl) (by kernel_rfl) (by kernel_rfl) (fun _ _ _ h => h) (Or.inr ⟨by rfl, rfl⟩) (by assumption) ?_
        try simp only [Act.put, List.setIfInBounds_toArray, List.set_cons_zero, List.set_cons_succ]
        refine wpAnyH_take (i := 7) (oi := ⟨some 40, _, _, _, _, _⟩) (v := undef) rfl (by kernel_rfl) (by kernel_rfl) (by kernel_rfl) (fun _ _ _ h => h) (Or.inr ⟨by rfl, rfl⟩) (by assumption) ?_
        try simp only [Act.put, List.setIfInBounds_toArray, List.set_cons_zero, List.set_cons_succ]
        refine wpAnyH_take (i := 8) (oi := ⟨some 41, _, _, _, _, _⟩) (v := undef) rfl (by kernel_rfl) (by kernel_rfl) (by kernel_rfl) (fun _ _ _ h => h) (Or.inr ⟨by rfl, rfl⟩) (by assumption) ?_
        try simp only [Act.put, List.setIfInBounds_toArray, List.set_cons_zero, List.set_cons_succ]
        refine wpAnyH_take (i := 9) (oi := ⟨some 42, _, _, _, _, _⟩) (v := undef) rfl (by kernel_rfl) (by kernel_rfl) (by kernel_rfl) (fun _ _ _ h => h) (Or.inr ⟨by rfl, rfl⟩) (by assumption) ?_
        try simp only [Act.put, List.setIfInBounds_toArray, List.set_cons_zero, List.set_cons_succ]
        refine wpAnyH_take (i := 10) (oi := ⟨some 43, _, _, _, _, _⟩) (v := undef) rfl (by kernel_rfl) (by kernel_rfl) (by kernel_rfl) (fun _ _ _ h => h) (Or.inr ⟨by rfl, rfl⟩) (by assumption) ?_
        try simp only [Act.put, List.setIfInBounds_toArray, List.set_cons_zero, List.set_cons_succ]
        refine wpAnyH_take (i := 11) (oi := ⟨some 44, _, _, _, _, _⟩) (v := undef) rfl (by kernel_rfl) (by kernel_rfl) (by kernel_rfl) (fun _ _ _ h => h) (Or.inr ⟨by rfl, rfl⟩) (by assumption) ?_
        try simp only [Act.put, List.setIfInBounds_toArray, List.set_cons_zero, List.set_cons_succ]
        refine wpAnyH_take (i := 12) (oi := ⟨some 45, _, _, _, _, _⟩) (v := undef) rfl (by kernel_rfl) (by kernel_rfl) (by kernel_rfl) (fun _ _ _ h => h) (Or.inr ⟨by rfl, rfl⟩) (by assumption) ?_
        try simp only [Act.put, List.setIfInBounds_toArray, List.set_cons_zero, List.set_cons_succ]
        refine wpAnyH_take (i := 13) (oi := ⟨some 46, _, _, _, _, _⟩) (v := undef) rfl (by kernel_rfl) (by kernel_rfl) (by kernel_rfl) (fun _ _ _ h => h) (Or.inr ⟨by rfl, rfl⟩) (by assumption) ?_
        try simp only [Act.put, List.setIfInBounds_toArray, List.set_cons_zero, List.set_cons_succ]
        refine wpAnyH_take (i := 14) (oi := ⟨some 47, _, _, _, _, _⟩) (v := undef) rfl (by kernel_rfl) (by kernel_rfl) (by kernel_rfl) (fun _ _ _ h => h) (Or.inr ⟨by rfl, rfl⟩) (by assumption) ?_
        try simp only [Act.put, List.setIfInBounds_toArray, List.set_cons_zero, List.set_cons_succ]
        refine wpAnyH_take (i := 15) (oi := ⟨some 48, _, _, _, _, _⟩) (v := ?_) rfl (by kernel_rfl) (by kernel_rfl) (by kernel_rfl) (fun _ _ _ h => h) (Or.inl ⟨by rfl, ?_⟩) (by assumption) ?_
        rotate_left
        · intro w hSw; (try dsimp only at hSw); go_simp; (try with_reducible rfl)
        try simp only [Act.put, List.setIfInBounds_toArray, List.set_cons_zero, List.set_cons_succ]
        refine wpAnyH_done (by kernel_rfl) ?_ _
        have xF := y1.trans (hHeld.mono y1.size)
        clear hcall hHeld
        go_wp2
        go_ret
        exact ⟨ret_bool (by rw [HBAD.out (by rw [HPS.out, hg]; rfl)]), b0.trans (xF.mono b0.size)⟩
      · have HKF0 := findB_le (p.list.take k) (nmB x)
        rw [HK.out] at HKF0
        generalize hkf : findB (p.list.take k) (nmB x) = kf at *
        have HKF := Go.Lib.hid hkf
        clear hkf
        by_cases hl : kf < k
        · have t14 : (kf : Int) < (k : Int) := by omega
          try simp only [Act.put, List.setIfInBounds_toArray, List.set_cons_zero, List.set_cons_succ]
          refine wp_region_held_drew (S := fun Y => Below W3.heap.size W3 Y) (by kernel_rfl) ?_ (fun hHeld => ?_)
          · exact below_drew (Below.refl _ _)
          refine wpAnyH_take (i := 0) (oi := ⟨some 33, _, _, _, _, _⟩) (v := bfV x Ao co Ab cb Ar cr) rfl (by kernel_rfl) (by kernel_rfl) (by kernel_rfl) (fun _ _ _ h => h) (yieldsIf_bf (by rfl) _ rfl ⟨wr.heap.size, 0, none⟩ rfl x Ao co Ab cb Ar cr (fun w h => (M1.out.keep h s1).at)) (by assumption) ?_
          try simp only [Act.put, List.setIfInBounds_toArray, List.set_cons_zero, List.set_cons_succ]
          refine wpAnyH_take (i := 1) (oi := ⟨some 34, _, _, _, _, _⟩) (v := ?_) rfl (by kernel_rfl) (by kernel_rfl) (by kernel_rfl) (fun _ _ _ h => h) (Or.inl ⟨by rfl, ?_⟩) (by assumption) ?_
          rotate_left
          · intro w hSw; (try dsimp only at hSw); go_simp; (try with_reducible rfl)
          try simp only [Act.put, List.setIfInBounds_toArray, List.set_cons_zero, List.set_cons_succ]
          refine wpAnyH_take (i := 2) (oi := ⟨some 35, _, _, _, _, _⟩) (v := ?_) rfl (by kernel_rfl) (by kernel_rfl) (by kernel_rfl) (fun _ _ _ h => h) (Or.inl ⟨by rfl, ?_⟩) (by assumption) ?_
          rotate_left
          · intro w hSw; obtain ⟨p0, p1, p2, p3⟩ := KP.out w hSw; (try dsimp only at hSw); go_simp; (try with_reducible rfl)
          try simp only [Act.put, List.setIfInBounds_toArray, List.set_cons_zero, List.set_cons_succ]
          refine wpAnyH_ready (rs := [3]) (by kernel_rfl) (by simp) (AllReadyH.cons (o := ⟨some 36, _, _, _, _, _⟩) rfl (fun Kc hKc => ?_) AllReadyH.nil)
          go_simp
          go_at_call 50; refine (crightBuffer x Ao co Ab cb Ar cr p.now true hg _ V (HB.out.at hHeld)).mono ?_; rintro e w' ⟨rfl, hcall⟩; dsimp only
          refine hKc.out _ _ (hHeld.trans (hcall.mono hHeld.size)) (fun hHeld => ?_)
          clear hKc Kc
          try simp only [Act.put, List.setIfInBounds_toArray, List.set_cons_zero, List.set_cons_succ]
          refine wpAnyH_take (i := 4) (oi := ⟨some 37, _, _, _, _, _⟩) (v := ?_) rfl (by kernel_rfl) (by kernel_rfl) (by kernel_rfl) (fun _ _ _ h => h) (Or.inl ⟨by rfl, ?_⟩) (by assumption) ?_
          rotate_left
          · intro w hSw; (try dsimp only at hSw); go_simp; (try with_reducible rfl)
          try simp only [Act.put, List.setIfInBounds_toArray, List.set_cons_zero, List.set_cons_succ]
          refine wpAnyH_take (i := 5) (oi := ⟨some 38, _, _, _, _, _⟩) (v := ?_) rfl (by kernel_rfl) (by kernel_rfl) (by kernel_rfl) (fun _ _ _ h => h) (Or.inl ⟨by rfl, ?_⟩) (by assumption) ?_
          rotate_left
          · intro w hSw; (try dsimp only at hSw); go_simp; (try with_reducible rfl)
          try simp only [Act.put, List.setIfInBounds_toArray, List.set_cons_zero, List.set_cons_succ]
          refine wpAnyH_take (i := 6) (oi := ⟨some 39, _, _, _, _, _⟩) (v := ?_) rfl (by kernel_rfl) (by kernel_rfl) (by kernel_rfl) (fun _ _ _ h => h) (Or.inl ⟨by rfl, ?_⟩) (by assumption) ?_
          rotate_left
          · intro w hSw; (try dsimp only at hSw); go_simp; (try with_reducible rfl)
          try simp only [Act.put, List.setIfInBounds_toArray, List.set_cons_zero, List.set_cons_succ]
          refine wpAnyH_take (i := 7) (oi := ⟨some 40, _, _, _, _, _⟩) (v := ?_) rfl (by kernel_rfl) (by kernel_rfl) (by kernel_rfl) (fun _ _ _ h => h) (Or.inl ⟨by rfl, ?_⟩) (by assumption) ?_
          rotate_left
          · intro w hSw; obtain ⟨p0, p1, p2, p3⟩ := KP.out w hSw; (try dsimp only at hSw); go_simp; (try with_reducible rfl)
          try simp only [Act.put, List.setIfInBounds_toArray, List.set_cons_zero, List.set_cons_succ]
          refine wpAnyH_take (i := 8) (oi := ⟨some 41, _, _, _, _, _⟩) (v := ?_) rfl (by kernel_rfl) (by kernel_rfl) (by kernel_rfl) (fun _ _ _ h => h) (Or.inl ⟨by rfl, ?_⟩) (by assumption) ?_
          rotate_left
          · intro w hSw; (try dsimp only at hSw); go_simp; (try with_reducible rfl)
          try simp only [Act.put, List.setIfInBounds_toArray, List.set_cons_zero, List.set_cons_succ]
          refine wpAnyH_take (i := 9) (oi := ⟨some 42, _, _, _, _, _⟩) (v := ?_) rfl (by kernel_rfl) (by kernel_rfl) (by kernel_rfl) (fun _ _ _ h => h) (Or.inl ⟨by rfl, ?_⟩) (by assumption) ?_
          rotate_left
          · intro w hSw; (try dsimp only at hSw); go_simp; (try with_reducible rfl)
          try simp only [Act.put, List.setIfInBounds_toArray, List.set_cons_zero, List.set_cons_succ]
          refine wpAnyH_take (i := 10) (oi := ⟨some 43, _, _, _, _, _⟩) (v := bfV x Ao co Ab cb Ar cr) rfl (by kernel_rfl) (by kernel_rfl) (by kernel_rfl) (fun _ _ _ h => h) (yieldsIf_bf (by rfl) _ rfl ⟨wr.heap.size, 0, none⟩ rfl x Ao co Ab cb Ar cr (fun w h => (M1.out.keep h s1).at)) (by assumption) ?_
          try simp only [Act.put, List.setIfInBounds_toArray, List.set_cons_zero, List.set_cons_succ]
          refine wpAnyH_take (i := 13) (oi := ⟨some 46, _, _, _, _, _⟩) (v := ?_) rfl (by kernel_rfl) (by kernel_rfl) (by kernel_rfl) (fun _ _ _ h => h) (Or.inl ⟨by rfl, ?_⟩) (by assumption) ?_
          rotate_left
          · intro w hSw; (try dsimp only at hSw); go_simp; (try with_reducible rfl)
          try simp only [Act.put, List.setIfInBounds_toArray, List.set_cons_zero, List.set_cons_succ]
          refine wpAnyH_ready (rs := [11]) (by kernel_rfl) (by simp) (AllReadyH.cons (o := ⟨some 44, _, _, _, _, _⟩) rfl (fun Kc hKc => ?_) AllReadyH.nil)
          go_simp
          go_at_call 51; refine (cnameOf x Ao co Ab cb Ar cr _).mono ?_; rintro e w' ⟨rfl, hcall⟩; dsimp only
          refine hKc.out _ _ (hHeld.trans (hcall.mono hHeld.size)) (fun hHeld => ?_)
          clear hKc Kc
          try simp only [Act.put, List.setIfInBounds_toArray, List.set_cons_zero, List.set_cons_succ]
          refine wpAnyH_ready (rs := [12]) (by kernel_rfl) (by simp) (AllReadyH.cons (o := ⟨some 45, _, _, _, _, _⟩) rfl (fun Kc hKc => ?_) AllReadyH.nil)
          go_simp
          go_at_call 31; refine (cfindN (p.list.take k) (some ad) c k HK.out (nmB x) kf HKF.out _ V (HLT.out.at (y1.trans (hHeld.mono y1.size)))).mono ?_; rintro e w' ⟨rfl, hcall⟩; dsimp only
          refine hKc.out _ _ (hHeld.trans (hcall.mono hHeld.size)) (fun hHeld => ?_)
          clear hKc Kc
          try simp only [Act.put, List.setIfInBounds_toArray, List.set_cons_zero, List.set_cons_succ]
          refine wpAnyH_take (i := 14) (oi := ⟨some 47, _, _, _, _, _⟩) (v := ?_) rfl (by kernel_rfl) (by kernel_rfl) (by kernel_rfl) (fun _ _ _ h => h) (Or.inl ⟨by rfl, ?_⟩) (by assumption) ?_
          rotate_left
          · intro w hSw; (try dsimp only at hSw); go_simp; (try with_reducible rfl)
          try simp only [Act.put, List.setIfInBounds_toArray, List.set_cons_zero, List.set_cons_succ]
          refine wpAnyH_take (i := 15) (oi := ⟨some 48, _, _, _, _, _⟩) (v := ?_) rfl (by kernel_rfl) (by kernel_rfl) (by kernel_rfl) (fun _ _ _ h => h) (Or.inl ⟨by rfl, ?_⟩) (by assumption) ?_
          rotate_left
          · intro w hSw; (try dsimp only at hSw); go_simp; (try with_reducible rfl)
          try simp only [Act.put, List.setIfInBounds_toArray, List.set_cons_zero, List.set_cons_succ]
          refine wpAnyH_done (by kernel_rfl) ?_ _
          have xF := y1.trans (hHeld.mono y1.size)
          clear hcall hHeld
          go_wp2
          go_ret
          exact ⟨ret_bool (by rw [HBAD.out (by rw [HPS.out]; simp [hl])]), b0.trans (xF.mono b0.size)⟩
        · have t14 : ¬ (kf : Int) < (k : Int) := by omega
          try simp only [Act.put, List.setIfInBounds_toArray, List.set_cons_zero, List.set_cons_succ]
          refine wp_region_held_drew (S := fun Y => Below W3.heap.size W3 Y) (by kernel_rfl) ?_ (fun hHeld => ?_)
          · exact below_drew (Below.refl _ _)
          refine wpAnyH_take (i := 0) (oi := ⟨some 33, _, _, _, _, _⟩) (v := bfV x Ao co Ab cb Ar cr) rfl (by kernel_rfl) (by kernel_rfl) (by kernel_rfl) (fun _ _ _ h => h) (yieldsIf_bf (by rfl) _ rfl ⟨wr.heap.size, 0, none⟩ rfl x Ao co Ab cb Ar cr (fun w h => (M1.out.keep h s1).at)) (by assumption) ?_
          try simp only [Act.put, List.setIfInBounds_toArray, List.set_cons_zero, List.set_cons_succ]
          refine wpAnyH_take (i := 1) (oi := ⟨some 34, _, _, _, _, _⟩) (v := ?_) rfl (by kernel_rfl) (by kernel_rfl) (by kernel_rfl) (fun _ _ _ h => h) (Or.inl ⟨by rfl, ?_⟩) (by assumption) ?_
          rotate_left
          · intro w hSw; (try dsimp only at hSw); go_simp; (try with_reducible rfl)
          try simp only [Act.put, List.setIfInBounds_toArray, List.set_cons_zero, List.set_cons_succ]
          refine wpAnyH_take (i := 2) (oi := ⟨some 35, _, _, _, _, _⟩) (v := ?_) rfl (by kernel_rfl) (by kernel_rfl) (by kernel_rfl) (fun _ _ _ h => h) (Or.inl ⟨by rfl, ?_⟩) (by assumption) ?_
          rotate_left
          · intro w hSw; obtain ⟨p0, p1, p2, p3⟩ := KP.out w hSw; (try dsimp only at hSw); go_simp; (try with_reducible rfl)
          try simp only [Act.put, List.setIfInBounds_toArray, List.set_cons_zero, List.set_cons_succ]
          refine wpAnyH_ready (rs := [3]) (by kernel_rfl) (by simp) (AllReadyH.cons (o := ⟨some 36, _, _, _, _, _⟩) rfl (fun Kc hKc => ?_) AllReadyH.nil)
          go_simp
          go_at_call 50; refine (crightBuffer x Ao co Ab cb Ar cr p.now true hg _ V (HB.out.at hHeld)).mono ?_; rintro e w' ⟨rfl, hcall⟩; dsimp only
          refine hKc.out _ _ (hHeld.trans (hcall.mono hHeld.size)) (fun hHeld => ?_)
          clear hKc Kc
          try simp only [Act.put, List.setIfInBounds_toArray, List.set_cons_zero, List.set_cons_succ]
          refine wpAnyH_take (i := 4) (oi := ⟨some 37, _, _, _, _, _⟩) (v := ?_) rfl (by kernel_rfl) (by kernel_rfl) (by kernel_rfl) (fun _ _ _ h => h) (Or.inl ⟨by rfl, ?_⟩) (by assumption) ?_
          rotate_left
          · intro w hSw; (try dsimp only at hSw); go_simp; (try with_reducible rfl)
          try simp only [Act.put, List.setIfInBounds_toArray, List.set_cons_zero, List.set_cons_succ]
          refine wpAnyH_take (i := 5) (oi := ⟨some 38, _, _, _, _, _⟩) (v := ?_) rfl (by kernel_rfl) (by kernel_rfl) (by kernel_rfl) (fun _ _ _ h => h) (Or.inl ⟨by rfl, ?_⟩) (by assumption) ?_
          rotate_left
          · intro w hSw; (try dsimp only at hSw); go_simp; (try with_reducible rfl)
          try simp only [Act.put, List.setIfInBounds_toArray, List.set_cons_zero, List.set_cons_succ]
          refine wpAnyH_take (i := 6) (oi := ⟨some 39, _, _, _, _, _⟩) (v := ?_) rfl (by kernel_rfl) (by kernel_rfl) (by kernel_rfl) (fun _ _ _ h => h) (Or.inl ⟨by rfl, ?_⟩) (by assumption) ?_
          rotate_left
          · intro w hSw; (try dsimp only at hSw); go_simp; (try with_reducible rfl)
          try simp only [Act.put, List.setIfInBounds_toArray, List.set_cons_zero, List.set_cons_succ]
          refine wpAnyH_take (i := 7) (oi := ⟨some 40, _, _, _, _, _⟩) (v := ?_) rfl (by kernel_rfl) (by kernel_rfl) (by kernel_rfl) (fun _ _ _ h => h) (Or.inl ⟨by rfl, ?_⟩) (by assumption) ?_
          rotate_left
          · intro w hSw; obtain ⟨p0, p1, p2, p3⟩ := KP.out w hSw; (try dsimp only at hSw); go_simp; (try with_reducible rfl)
          try simp only [Act.put, List.setIfInBounds_toArray, List.set_cons_zero, List.set_cons_succ]
          refine wpAnyH_take (i := 8) (oi := ⟨some 41, _, _, _, _, _⟩) (v := ?_) rfl (by kernel_rfl) (by kernel_rfl) (by kernel_rfl) (fun _ _ _ h => h) (Or.inl ⟨by rfl, ?_⟩) (by assumption) ?_
          rotate_left
          · intro w hSw; (try dsimp only at hSw); go_simp; (try with_reducible rfl)
          try simp only [Act.put, List.setIfInBounds_toArray, List.set_cons_zero, List.set_cons_succ]
          refine wpAnyH_take (i := 9) (oi := ⟨some 42, _, _, _, _, _⟩) (v := ?_) rfl (by kernel_rfl) (by kernel_rfl) (by kernel_rfl) (fun _ _ _ h => h) (Or.inl ⟨by rfl, ?_⟩) (by assumption) ?_
          rotate_left
          · intro w hSw; (try dsimp only at hSw); go_simp; (try with_reducible rfl)
          try simp only [Act.put, List.setIfInBounds_toArray, List.set_cons_zero, List.set_cons_succ]
          refine wpAnyH_take (i := 10) (oi := ⟨some 43, _, _, _, _, _⟩) (v := bfV x Ao co Ab cb Ar cr) rfl (by kernel_rfl) (by kernel_rfl) (by kernel_rfl) (fun _ _ _ h => h) (yieldsIf_bf (by rfl) _ rfl ⟨wr.heap.size, 0, none⟩ rfl x Ao co Ab cb Ar cr (fun w h => (M1.out.keep h s1).at)) (by assumption) ?_
          try simp only [Act.put, List.setIfInBounds_toArray, List.set_cons_zero, List.set_cons_succ]
          refine wpAnyH_take (i := 13) (oi := ⟨some 46, _, _, _, _, _⟩) (v := ?_) rfl (by kernel_rfl) (by kernel_rfl) (by kernel_rfl) (fun _ _ _ h => h) (Or.inl ⟨by rfl, ?_⟩) (by assumption) ?_
          rotate_left
          · intro w hSw; (try dsimp only at hSw); go_simp; (try with_reducible rfl)
          try simp only [Act.put, List.setIfInBounds_toArray, List.set_cons_zero, List.set_cons_succ]
          refine wpAnyH_ready (rs := [11]) (by kernel_rfl) (by simp) (AllReadyH.cons (o := ⟨some 44, _, _, _, _, _⟩) rfl (fun Kc hKc => ?_) AllReadyH.nil)
          go_simp
          go_at_call 51; refine (cnameOf x Ao co Ab cb Ar cr _).mono ?_; rintro e w' ⟨rfl, hcall⟩; dsimp only
          refine hKc.out _ _ (hHeld.trans (hcall.mono hHeld.size)) (fun hHeld => ?_)
          clear hKc Kc
          try simp only [Act.put, List.setIfInBounds_toArray, List.set_cons_zero, List.set_cons_succ]
          refine wpAnyH_ready (rs := [12]) (by kernel_rfl) (by simp) (AllReadyH.cons (o := ⟨some 45, _, _, _, _, _⟩) rfl (fun Kc hKc => ?_) AllReadyH.nil)
          go_simp
          go_at_call 31; refine (cfindN (p.list.take k) (some ad) c k HK.out (nmB x) kf HKF.out _ V (HLT.out.at (y1.trans (hHeld.mono y1.size)))).mono ?_; rintro e w' ⟨rfl, hcall⟩; dsimp only
          refine hKc.out _ _ (hHeld.trans (hcall.mono hHeld.size)) (fun hHeld => ?_)
          clear hKc Kc
          try simp only [Act.put, List.setIfInBounds_toArray, List.set_cons_zero, List.set_cons_succ]
          refine wpAnyH_take (i := 14) (oi := ⟨some 47, _, _, _, _, _⟩) (v := ?_) rfl (by kernel_rfl) (by kernel_rfl) (by kernel_rfl) (fun _ _ _ h => h) (Or.inl ⟨by rfl, ?_⟩) (by assumption) ?_
          rotate_left
          · intro w hSw; (try dsimp only at hSw); go_simp; (try with_reducible rfl)
          try simp only [Act.put, List.setIfInBounds_toArray, List.set_cons_zero, List.set_cons_succ]
          refine wpAnyH_take (i := 15) (oi := ⟨some 48, _, _, _, _, _⟩) (v := ?_) rfl (by kernel_rfl) (by kernel_rfl) (by kernel_rfl) (fun _ _ _ h => h) (Or.inl ⟨by rfl, ?_⟩) (by assumption) ?_
          rotate_left
          · intro w hSw; (try dsimp only at hSw); go_simp; (try with_reducible rfl)
          try simp only [Act.put, List.setIfInBounds_toArray, List.set_cons_zero, List.set_cons_succ]
          refine wpAnyH_done (by kernel_rfl) ?_ _
          have xF := y1.trans (hHeld.mono y1.size)
          clear hcall hHeld
          go_wp2
          go_round
          case rel => exact ⟨k + 1, by omega, by go_num, Go.Lib.hid (by rw [HPS.out, hg]; simp [hl]), xF⟩
          case measure => simp [intOf]; omega
    · obtain rfl : k = p.list.length := by omega
      have HQ3 : Hid (q = decide ((heldP p : Int) ≤ p.room)) := Go.Lib.hid (by rw [HQ2.out, HT.out]; rfl)
      clear HT HQ2
      go_upto_region 11 with fail
      generalize hW1 : wr = W1 at *
      clear hW1
      have KP : Hid (∀ Y, Below W1.heap.size W1 Y → Y.cell? ⟨w.heap.size, 0, none⟩ = some (.int .i64 p.room) ∧ Y.cell? ⟨w.heap.size, 1, none⟩ = some (.int .i64 p.life) ∧ Y.cell? ⟨w.heap.size, 2, none⟩ = some (.int .i64 p.now) ∧ Y.cell? ⟨w.heap.size, 3, none⟩ = some (.slice A p.list.length c)) := Go.Lib.hid fun Y y => M0.out.keep (x1.trans (y.mono x1.size)) s0
      try simp only [Act.put, List.setIfInBounds_toArray, List.set_cons_zero, List.set_cons_succ]
      refine wp_region_held_drew (S := fun Y => Below W1.heap.size W1 Y) (by kernel_rfl) ?_ (fun hHeld => ?_)
      · exact below_drew (Below.refl _ _)
      refine wpAnyH_take (i := 0) (oi := ⟨some 50, _, _, _, _, _⟩) (v := ?_) rfl (by kernel_rfl) (by kernel_rfl) (by kernel_rfl) (fun _ _ _ h => h) (Or.inl ⟨by rfl, ?_⟩) (by assumption) ?_
      rotate_left
      · intro w hSw; obtain ⟨p0, p1, p2, p3⟩ := KP.out w hSw; (try dsimp only at hSw); go_simp; (try with_reducible rfl)
      try simp only [Act.put, List.setIfInBounds_toArray, List.set_cons_zero, List.set_cons_succ]
      refine wpAnyH_take (i := 2) (oi := ⟨some 52, _, _, _, _, _⟩) (v := ?_) rfl (by kernel_rfl) (by kernel_rfl) (by kernel_rfl) (fun _ _ _ h => h) (Or.inl ⟨by rfl, ?_⟩) (by assumption) ?_
      rotate_left
      · intro w hSw; (try dsimp only at hSw); go_simp; (try with_reducible rfl)
      try simp only [Act.put, List.setIfInBounds_toArray, List.set_cons_zero, List.set_cons_succ]
      refine wpAnyH_take (i := 3) (oi := ⟨some 53, _, _, _, _, _⟩) (v := ?_) rfl (by kernel_rfl) (by kernel_rfl) (by kernel_rfl) (fun _ _ _ h => h) (Or.inl ⟨by rfl, ?_⟩) (by assumption) ?_
      rotate_left
      · intro w hSw; obtain ⟨p0, p1, p2, p3⟩ := KP.out w hSw; (try dsimp only at hSw); go_simp; (try with_reducible rfl)
      try simp only [Act.put, List.setIfInBounds_toArray, List.set_cons_zero, List.set_cons_succ]
      refine wpAnyH_ready (rs := [1]) (by kernel_rfl) (by simp) (AllReadyH.cons (o := ⟨some 51, _, _, _, _, _⟩) rfl (fun Kc hKc => ?_) AllReadyH.nil)
      go_simp
      go_at_call 35; refine (cheld p A c _ V (HP.out.at (x1.trans (hHeld.mono x1.size))) hF).mono ?_; rintro e w' ⟨rfl, hcall⟩; dsimp only
      refine hKc.out _ _ (hHeld.trans (hcall.mono hHeld.size)) (fun hHeld => ?_)
      clear hKc Kc
      try simp only [Act.put, List.setIfInBounds_toArray, List.set_cons_zero, List.set_cons_succ]
      refine wpAnyH_take (i := 4) (oi := ⟨some 54, _, _, _, _, _⟩) (v := ?_) rfl (by kernel_rfl) (by kernel_rfl) (by kernel_rfl) (fun _ _ _ h => h) (Or.inl ⟨by rfl, ?_⟩) (by assumption) ?_
      rotate_left
      · intro w hSw; (try dsimp only at hSw); go_simp; (try with_reducible rfl)
      try simp only [Act.put, List.setIfInBounds_toArray, List.set_cons_zero, List.set_cons_succ]
      refine wpAnyH_take (i := 5) (oi := ⟨some 2, _, _, _, _, _⟩) (v := ?_) rfl (by kernel_rfl) (by kernel_rfl) (by kernel_rfl) (fun _ _ _ h => h) (Or.inl ⟨by rfl, ?_⟩) (by assumption) ?_
      rotate_left
      · intro w hSw; (try dsimp only at hSw); go_simp; (try with_reducible rfl)
      try simp only [Act.put, List.setIfInBounds_toArray, List.set_cons_zero, List.set_cons_succ]
      refine wpAnyH_done (by kernel_rfl) ?_ _
      go_wp2
      go_ret
      exact ⟨ret_bool (by rw [HQ3.out]), b0.trans ((x1.trans (hHeld.mono x1.size)).mono b0.size)⟩
end Go.Proofs.Ytmblkgnjcmneeaa

/- The contract of package reasm's New. -/
namespace Go.Proofs.Ytmblkgnjcmneeaa
open Go.ChangeShapes Go.WideShapes Go.ChangeAt Go.RowKit
set_option linter.unusedVariables false
set_option linter.unusedSimpArgs false

theorem po_empty (w : World) (V : Nat → Prop) (room life now : Int) (lt : ∀ b, V b → b < w.heap.size) : PoAt w V ⟨room, life, now, []⟩ none 0 := ⟨⟨by simp, by omega, fun _ => rfl, .inl rfl⟩, lt⟩
theorem grow_lt {V : Nat → Prop} {w w' : World} (h : ∀ b, V b → b < w.heap.size) (hb : w.heap.size ≤ w'.heap.size) : ∀ b, growV V w w' b → b < w'.heap.size := fun b h' => by
  rcases h' with h' | h'
  · exact Nat.lt_of_lt_of_le (h b h') hb
  · exact h'.2
set_option maxRecDepth 100000 in
set_option maxHeartbeats 4000000 in
theorem cnew : NewC := by
  intro room life w p err hp
  have HP := Go.Lib.hid hp
  clear hp
  have hfew : FewP ⟨room, life, 0, []⟩ := by unfold FewP heldP heldL; omega
  go_enter Try.func16, Try.ntmps16
  go_upto_region 2 with fail
  have y0 : Below w.heap.size w ((w.alloc (oPo ⟨0, 0, 0, []⟩ none 0)).alloc (oPo ⟨room, life, 0, []⟩ none 0)) := below_alloc (below_alloc (Below.refl _ _) (Nat.le_refl _) _) (by simp) _
  have hr : rightP ⟨room, life, 0, []⟩ = decide (1 ≤ room ∧ room ≤ 1048576 ∧ 1 ≤ life ∧ life ≤ 1048576) := by
    rw [rightP_code, Bool.eq_iff_iff]
    simp only [inB, prefB, heldP, heldL, List.length_nil, List.take_nil, List.all_nil, List.map_nil, Bool.and_eq_true, decide_eq_true_eq]
    constructor
    · rintro ⟨⟨a, b⟩, ⟨c, d⟩, _⟩; exact ⟨a, b, c, d⟩
    · rintro ⟨a, b, c, d⟩; exact ⟨⟨a, b⟩, ⟨c, d⟩, ⟨by decide, by decide⟩, by decide, ⟨trivial, List.nodup_nil⟩, decide_eq_true (show ((0 : Nat) : Int) ≤ room by omega)⟩
  have B4 : Bxo (w.alloc (oPo ⟨0, 0, 0, []⟩ none 0)) w.heap.size 42 (poL ⟨0, 0, 0, []⟩ none 0) := Bxo.made w _ _
  have B4' := B4.alloc (oPo ⟨room, life, 0, []⟩ none 0)
  have B6 : Bxo ((w.alloc (oPo ⟨0, 0, 0, []⟩ none 0)).alloc (oPo ⟨room, life, 0, []⟩ none 0)) (w.heap.size + 1) 42 (poL ⟨room, life, 0, []⟩ none 0) := by
    have := Bxo.made (w.alloc (oPo ⟨0, 0, 0, []⟩ none 0)) 42 (poL ⟨room, life, 0, []⟩ none 0)
    simpa using this
  clear B4
  generalize ((w.alloc (oPo ⟨0, 0, 0, []⟩ none 0)).alloc (oPo ⟨room, life, 0, []⟩ none 0)) = W at *
  have H4 := Go.Lib.hid B4'
  have H6 := Go.Lib.hid B6
  have l4 := B4'.lt
  have l6 := B6.lt
  clear B4' B6
  by_cases hN : 1 ≤ room ∧ room ≤ 1048576 ∧ 1 ≤ life ∧ life ≤ 1048576
  · rw [decide_eq_true hN] at hr
    have HE : (⟨room, life, 0, []⟩, 0) = (p, err) := by rw [← HP.out]; unfold newP; rw [if_pos hN]
    injection HE with he1 he2
    subst he1
    subst he2
    clear hN HP
    go_wp2_with (first
      | (refine wpList_load_box rfl 42 _ rfl (w.heap.size + 1) rfl (poL ⟨room, life, 0, []⟩ none 0) _ H6.out Try.underlying42 rfl info_po ?_)
      | (go_at_call 26; refine (cright ⟨room, life, 0, []⟩ none 0 W (fun _ => False) _ hr (po_empty W _ room life 0 (fun _ h => h.elim)) hfew).mono ?_; rintro e w1 ⟨rfl, y1⟩; have H4' := Go.Lib.hid (H4.out.keep y1 l4); have H6' := Go.Lib.hid (H6.out.keep y1 l6); dsimp only)
      | (refine wpList_load_box rfl 42 _ rfl (w.heap.size + 1) rfl (poL ⟨room, life, 0, []⟩ none 0) _ H6'.out Try.underlying42 rfl info_po ?_)
      | (refine wpList_store_box rfl 42 _ _ rfl w.heap.size 0 42 _ (poL ⟨room, life, 0, []⟩ none 0) rfl rfl H4'.out info_po (by show 0 + 4 ≤ 4; omega) (po_one _ _ _) ?_; intro w2 hb2 ho2; have HB2 := Go.Lib.hid hb2; clear hb2))
    have c0 := HB2.out.cell 0 rfl
    have c1 := HB2.out.cell 1 rfl
    have c2 := HB2.out.cell 2 rfl
    have c3 := HB2.out.cell 3 rfl
    have y2 : Below w.heap.size w w2 := (y0.trans (y1.mono (by omega))).trans (ho2.below (Nat.le_refl _))
    refine bodyPost_ret (v := .tuple #[poV ⟨room, life, 0, []⟩ none 0, .int .i64 0]) ?_ rfl ⟨none, 0, rfl, po_empty _ _ _ _ _ (grow_lt (fun _ h => h.elim) y2.size), y2⟩
    simp [results, Try.results16, go_sem, c0, c1, c2, c3]
  · rw [decide_eq_false hN] at hr
    have HE : (⟨0, 0, 0, []⟩, 1) = (p, err) := by rw [← HP.out]; unfold newP; rw [if_neg hN]
    injection HE with he1 he2
    subst he1
    subst he2
    clear hN HP
    go_wp2_with (first
      | (refine wpList_load_box rfl 42 _ rfl (w.heap.size + 1) rfl (poL ⟨room, life, 0, []⟩ none 0) _ H6.out Try.underlying42 rfl info_po ?_)
      | (go_at_call 26; refine (cright ⟨room, life, 0, []⟩ none 0 W (fun _ => False) _ hr (po_empty W _ room life 0 (fun _ h => h.elim)) hfew).mono ?_; rintro e w1 ⟨rfl, y1⟩; have H4' := Go.Lib.hid (H4.out.keep y1 l4); dsimp only)
      | (refine wpList_store_box rfl 42 _ _ rfl w.heap.size 0 42 _ (poL ⟨0, 0, 0, []⟩ none 0) rfl rfl H4'.out info_po (by show 0 + 4 ≤ 4; omega) (po_one _ _ _) ?_; intro w2 hb2 ho2; have HB2 := Go.Lib.hid hb2; clear hb2))
    have c0 := HB2.out.cell 0 rfl
    have c1 := HB2.out.cell 1 rfl
    have c2 := HB2.out.cell 2 rfl
    have c3 := HB2.out.cell 3 rfl
    have y2 : Below w.heap.size w w2 := (y0.trans (y1.mono (by omega))).trans (ho2.below (Nat.le_refl _))
    refine bodyPost_ret (v := .tuple #[poV ⟨0, 0, 0, []⟩ none 0, .int .i64 1]) ?_ rfl ⟨none, 0, rfl, po_empty _ _ _ _ _ (grow_lt (fun _ h => h.elim) y2.size), y2⟩
    simp [results, Try.results16, go_sem, c0, c1, c2, c3]
end Go.Proofs.Ytmblkgnjcmneeaa
