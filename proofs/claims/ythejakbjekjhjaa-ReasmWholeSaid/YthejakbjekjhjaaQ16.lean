/- Lemmas of layer 7, several texts in one. -/
import Derived.Test.YthejakbjekjhjaaQ14
import Derived.Test.YthejakbjekjhjaaQ10
import Derived.Test.YthejakbjekjhjaaQ15
import Derived.Test.YthejakbjekjhjaaQ03
import Derived.Test.YthejakbjekjhjaaQ11
import Derived.Test.YthejakbjekjhjaaQ12
import Derived.Lib.Overlaps
import Derived.Lib.AppendZerosOnto
import Derived.Laws.Externs
/- The landed code's way beside the document's: plain mathematics. -/
namespace Go.Proofs.Ythejakbjekjhjaa
open Go.RowKit
set_option linter.unusedVariables false
set_option linter.unusedSimpArgs false

theorem held_run {r : Rn} : ∀ {l : List Rn}, r ∈ l → r.data.length ≤ heldR l
  | a :: t, h => by
    unfold heldR
    rcases List.mem_cons.1 h with rfl | h
    · omega
    · have := held_run h; omega
theorem held_len (total : Int) : ∀ (l : List Rn) (lo : Int), RunsOk total lo l → l.length ≤ heldR l
  | [], _, _ => Nat.le_refl _
  | a :: t, lo, ⟨h, k⟩ => by
    have := held_len total t _ k
    have := h.len
    simp only [heldR, List.length_cons]; omega
theorem held_bf {b : Bf} : ∀ {l : List Bf}, b ∈ l → heldR b.runs ≤ heldL l
  | a :: t, h => by
    unfold heldL
    rcases List.mem_cons.1 h with rfl | h
    · omega
    · have := held_bf h; omega
theorem RightP.small {p : Po} (h : RightP p) : SmallP p := by
  have hf := h.fits
  have hr := h.r1
  have hm : ∀ b ∈ p.list, heldR b.runs ≤ 1048576 := fun b hb => by
    have := held_bf hb
    unfold heldP at hf; omega
  refine ⟨by have := h.few; omega, fun b hb => by have := (h.good b hb).opts; omega, fun b hb => by rw [(h.good b hb).hbody]; simp, fun b hb => ?_, fun b hb => (h.good b hb).some, fun b hb r hr => ?_⟩
  · have := hm b hb; have := held_len _ _ _ (h.good b hb).runs; omega
  · have := hm b hb; have := held_run hr; omega
theorem nm_one (b : Bf) (x : Pk) : (nmB b == nmX x) = oneN b x := by
  rw [Bool.eq_iff_iff, beq_iff_eq, oneN_iff]
theorem findB_eq (l : List Bf) (x : Pk) : findB l (nmX x) = l.findIdx (fun b => oneN b x) := by
  have e : (fun b => nmB b == nmX x) = (fun b => oneN b x) := funext (fun b => nm_one b x)
  unfold findB
  rw [e]
/-- what is found. -/
theorem find_some {p : Po} {x : Pk} (h : findB p.list (nmX x) < p.list.length) : thereP p x = true ∧ oneN p.list[findB p.list (nmX x)] x = true ∧ ownP p x = p.list[findB p.list (nmX x)] := by
  rw [findB_eq] at h
  have h1 := List.findIdx_getElem (w := h)
  have e : p.list.find? (fun b => oneN b x) = some (p.list[p.list.findIdx (fun b => oneN b x)]'h) := by
    rw [List.find?_eq_some_iff_getElem]
    exact ⟨h1, _, h, rfl, fun j hj => by simpa using List.not_of_lt_findIdx hj⟩
  unfold thereP ownP
  simp only [findB_eq, e]
  exact ⟨rfl, h1, rfl⟩
theorem find_no {p : Po} {x : Pk} (h : ¬ findB p.list (nmX x) < p.list.length) : thereP p x = false ∧ ownP p x = newB p x ∧ findB p.list (nmX x) = p.list.length ∧ ∀ b ∈ p.list, oneN b x = false := by
  have hl := findB_le p.list (nmX x)
  have e : p.list.findIdx (fun b => oneN b x) = p.list.length := by rw [← findB_eq]; omega
  rw [List.findIdx_eq_length] at e
  have e' : p.list.find? (fun b => oneN b x) = none := by
    rw [List.find?_eq_none]
    intro b hb hx
    have := e b hb
    rw [hx] at this; cases this
  unfold thereP ownP
  rw [e']
  exact ⟨rfl, rfl, by omega, fun b hb => by simpa using e b hb⟩
/-- there is but one of a name. -/
theorem one_only {x : Pk} : ∀ {l : List Bf}, (l.map nmB).Nodup → ∀ (k : Nat) (hk : k < l.length), oneN l[k] x = true → ∀ (j : Nat) (hj : j < l.length), j ≠ k → oneN l[j] x = false
  | l, hn, k, hk, h, j, hj, hne => by
    by_cases hx : oneN l[j] x = true
    · exfalso
      have e : nmB l[j] = nmB l[k] := by rw [(oneN_iff _ x).1 hx, (oneN_iff _ x).1 h]
      have := (List.getElem_inj (h₀ := by rw [List.length_map]; exact hj) (h₁ := by rw [List.length_map]; exact hk) hn).1 (by rw [List.getElem_map, List.getElem_map]; exact e)
      exact hne this
    · simpa using hx
theorem filter_all (f : Bf → Bool) : ∀ l : List Bf, (∀ b ∈ l, f b = true) → l.filter f = l := fun l h => List.filter_eq_self.2 h
theorem erase_filter (x : Pk) : ∀ (l : List Bf) (k : Nat) (hk : k < l.length), (l.map nmB).Nodup → oneN l[k] x = true → l.eraseIdx k = l.filter (fun b => !oneN b x)
  | a :: t, 0, hk, hn, h => by
    have h' : oneN a x = true := h
    rw [List.eraseIdx_cons_zero, List.filter_cons_of_neg (by simp [h']), filter_all]
    intro b hb
    obtain ⟨j, hj, rfl⟩ := List.getElem_of_mem hb
    have := one_only hn 0 hk h (j + 1) (by simp; omega) (by omega)
    simpa using this
  | a :: t, k + 1, hk, hn, h => by
    have h0 := one_only hn (k + 1) hk h 0 (by simp) (by omega)
    have h0' : oneN a x = false := h0
    rw [List.eraseIdx_cons_succ, List.filter_cons_of_pos (by simp [h0'])]
    congr 1
    rw [List.map_cons, List.nodup_cons] at hn
    exact erase_filter x t k (by simpa using hk) hn.2 h
theorem set_put (x : Pk) (b : Bf) : ∀ (l : List Bf) (k : Nat) (hk : k < l.length), (l.map nmB).Nodup → oneN l[k] x = true → l.set k b = putL l x b
  | a :: t, 0, hk, hn, h => by
    have h' : oneN a x = true := h
    rw [List.set_cons_zero]
    show b :: t = (if oneN a x then b else a) :: putL t x b
    rw [if_pos h', putL_none]
    intro c hc
    obtain ⟨j, hj, rfl⟩ := List.getElem_of_mem hc
    have := one_only hn 0 hk h (j + 1) (by simp; omega) (by omega)
    simpa using this
  | a :: t, k + 1, hk, hn, h => by
    have h0 := one_only hn (k + 1) hk h 0 (by simp) (by omega)
    have h0' : oneN a x = false := h0
    rw [List.set_cons_succ]
    show a :: t.set k b = (if oneN a x then b else a) :: putL t x b
    rw [if_neg (by simp [h0'])]
    congr 1
    rw [List.map_cons, List.nodup_cons] at hn
    exact set_put x b t k (by simpa using hk) hn.2 h
theorem era_there {p : Po} (h : RightP p) {x : Pk} (hk : findB p.list (nmX x) < p.list.length) : eraP p (findB p.list (nmX x)) = withoutP p x := by
  unfold eraP withoutP
  rw [erase_filter x p.list _ hk h.names (find_some hk).2.1]
/-- with the piece, where the packet is there. -/
theorem with_there {p : Po} (h : RightP p) {x : Pk} (hk : findB p.list (nmX x) < p.list.length) : withP p x = ⟨p.room, p.life, p.now, p.list.set (findB p.list (nmX x)) (joinB p.list[findB p.list (nmX x)] x)⟩ := by
  obtain ⟨a, b, c⟩ := find_some hk
  unfold withP
  rw [if_pos a, c, set_put x _ p.list _ hk h.names b]
theorem with_new {p : Po} {x : Pk} (hk : ¬ findB p.list (nmX x) < p.list.length) : withP p x = ⟨p.room, p.life, p.now, p.list ++ [joinB (newB p x) x]⟩ := by
  obtain ⟨a, b, c, d⟩ := find_no hk
  unfold withP
  rw [a, b]; rfl
/-- and without it again. -/
theorem era_with {p : Po} (h : RightP p) (x : Pk) : eraP (withP p x) (findB p.list (nmX x)) = withoutP p x := by
  by_cases hk : findB p.list (nmX x) < p.list.length
  · rw [with_there h hk, ← era_there h hk]
    unfold eraP
    simp only [List.eraseIdx_set_eq]
  · obtain ⟨a, b, c, d⟩ := find_no hk
    rw [with_new hk]
    unfold eraP withoutP
    congr 1
    show (p.list ++ [joinB (newB p x) x]).eraseIdx (findB p.list (nmX x)) = _
    rw [c, List.eraseIdx_append_of_length_le (Nat.le_refl _), Nat.sub_self, filter_all]
    · simp
    · intro b hb
      rw [d b hb]; rfl
/-- the packet in the pool with the piece. -/
theorem with_at {p : Po} (h : RightP p) (x : Pk) : (withP p x).list[findB p.list (nmX x)]? = some (joinB (ownP p x) x) := by
  by_cases hk : findB p.list (nmX x) < p.list.length
  · rw [with_there h hk, (find_some hk).2.2]
    exact List.getElem?_set_self hk
  · obtain ⟨a, b, c, d⟩ := find_no hk
    rw [with_new hk, b, c]
    exact List.getElem?_concat_length
/-- runs that don't overlap begin at places of their own. -/
theorem no_equal {b : Bf} {x : Pk} {now : Int} (h : PreB b now) (hl : 0 < x.body.length) (hc : clashB b x = false) : ∀ r ∈ b.runs, r.off ≠ x.off := fun r hr e => by
  have := (clash_no hc).2.1 r hr
  have h2 := (runs_lo _ _ _ h.runs r hr).2
  apply this
  unfold overR stopR
  show r.off < x.off + (x.body.length : Int) ∧ x.off < r.off + (r.data.length : Int)
  omega
/-- the end of the document's Take. -/
def takeE (p : Po) (x : Pk) : Tk :=
  if (joinB (ownP p x) x).total < 0 ∨ ((bodyR (joinB (ownP p x) x).runs []).length : Int) ≠ (joinB (ownP p x) x).total then ⟨withP p x, Pk.empty, false, 0⟩
  else
    let h := (joinB (ownP p x) x).head
    let out : Pk := ⟨h.tos, h.id, h.df, h.mf, h.off, h.ttl, h.proto, h.src, h.dst, h.opts, bodyR (joinB (ownP p x) x).runs []⟩
    if mayB out = true then ⟨withoutP p x, out, true, 0⟩ else ⟨withoutP p x, Pk.empty, false, 7⟩
theorem take_end {p : Po} (h : RightP p) {x : Pk} (hm : May x) (hl : 0 < x.body.length) (hc : clashB (ownP p x) x = false) : takeE p x = tkO (withP p x) (findB p.list (nmX x)) (joinB (ownP p x) x) := by
  have hg := join_good (own_pre h x) hm hl hc
  have hw := whole_code hg.runs hg.t0 (List.length_pos_iff.2 hg.some)
  unfold takeE tkO
  rw [era_with h x]
  by_cases hx : (joinB (ownP p x) x).total < 0 ∨ ((bodyR (joinB (ownP p x) x).runs []).length : Int) ≠ (joinB (ownP p x) x).total
  · rw [if_pos hx, if_pos (by rw [hw]; simp [hx])]
  · have hq : ¬ wholeB (joinB (ownP p x) x) = false := by rw [hw]; simp [hx]
    rw [if_neg hx, if_neg (c := wholeB (joinB (ownP p x) x) = false) hq]
    rfl
/-- the ways of the document's Take, by the code's own questions. -/
theorem take_piece {p : Po} {x : Pk} (h : x.mf = false ∧ x.off = 0) : takeP p x = ⟨p, x, true, 0⟩ := by unfold takeP; rw [if_pos h]
theorem take_arg {p : Po} {x : Pk} (h : ¬ (x.mf = false ∧ x.off = 0)) (k : rightP p = false ∨ mayB x = false ∨ x.body.length = 0) : takeP p x = ⟨p, Pk.empty, false, 1⟩ := by unfold takeP; rw [if_neg h, if_pos k]
theorem take_clash {p : Po} {x : Pk} (h : ¬ (x.mf = false ∧ x.off = 0)) (k : ¬ (rightP p = false ∨ mayB x = false ∨ x.body.length = 0)) (c : clashB (ownP p x) x = true) : takeP p x = ⟨withoutP p x, Pk.empty, false, 7⟩ := by unfold takeP; rw [if_neg h, if_neg k, if_pos c]
theorem take_full {p : Po} {x : Pk} (h : ¬ (x.mf = false ∧ x.off = 0)) (k : ¬ (rightP p = false ∨ mayB x = false ∨ x.body.length = 0)) (c : clashB (ownP p x) x = false) (f : (thereP p x = false ∧ 64 ≤ p.list.length) ∨ p.room < (heldP p : Int) + (x.body.length : Int)) : takeP p x = ⟨p, Pk.empty, false, 8⟩ := by unfold takeP; rw [if_neg h, if_neg k, if_neg (by rw [c]; simp), if_pos f]
theorem take_rest {p : Po} {x : Pk} (h : ¬ (x.mf = false ∧ x.off = 0)) (k : ¬ (rightP p = false ∨ mayB x = false ∨ x.body.length = 0)) (c : clashB (ownP p x) x = false) (f : ¬ ((thereP p x = false ∧ 64 ≤ p.list.length) ∨ p.room < (heldP p : Int) + (x.body.length : Int))) : takeP p x = takeE p x := by unfold takeP; rw [if_neg h, if_neg k, if_neg (by rw [c]; simp), if_neg f]; rfl
/-- a new packet clashes with nothing. -/
theorem clash_new (p : Po) (x : Pk) : clashB (newB p x) x = false := by
  unfold clashB newB
  simp
end Go.Proofs.Ythejakbjekjhjaa

/- The contract of package reasm's headOf. -/
namespace Go.Proofs.Ythejakbjekjhjaa
open Go.ChangeShapes Go.WideShapes Go.ChangeAt Go.RowKit
set_option linter.unusedVariables false
set_option linter.unusedSimpArgs false

def hdX (x : Pk) : Pk := ⟨x.tos, x.id, x.df, false, x.off, x.ttl, x.proto, x.src, x.dst, x.opts, []⟩
set_option maxRecDepth 100000 in
set_option maxHeartbeats 4000000 in
theorem cheadOf (x : Pk) (Ao : Option Addr) (co : Nat) (Ab : Option Addr) (cb : Nat) (w : World) (V : Nat → Prop) (hx : PkAt w V x Ao co Ab cb) (ho : x.opts.length ≤ 16777216) :
    Calls Try.prog 45 #[ipV x Ao co Ab cb] w fun e w' => ∃ A2 c2, e = .returned (ipV (hdX x) A2 c2 none 0) ∧ PkAt w' (growV V w w') (hdX x) A2 c2 none 0 ∧ (∀ ad, A2 = some ad → w.heap.size ≤ ad.block) ∧ Below w.heap.size w w' := by
  have HV := Go.Lib.hid hx.lt
  have HS := Go.Lib.hid (And.intro hx.s0 (And.intro hx.s1 (And.intro hx.d0 hx.d1)))
  have y0 : Below w.heap.size w ((w.alloc (oPk x Ao co Ab cb)).alloc (oPk pk0 none 0 none 0)) := below_alloc (below_alloc (Below.refl _ _) (Nat.le_refl _) _) (by simp) _
  have h1 := (Bxo.made w 33 (pkL x Ao co Ab cb)).alloc (oPk pk0 none 0 none 0)
  have h2 : Bxo ((w.alloc (oPk x Ao co Ab cb)).alloc (oPk pk0 none 0 none 0)) (w.heap.size + 1) 33 (pkL pk0 none 0 none 0) := by
    have := Bxo.made (w.alloc (oPk x Ao co Ab cb)) 33 (pkL pk0 none 0 none 0)
    simpa using this
  have hz : ((w.alloc (oPk x Ao co Ab cb)).alloc (oPk pk0 none 0 none 0)).heap.size = w.heap.size + 2 := by simp
  have hxo := hx.at y0
  have HN1 : Hid (¬ V w.heap.size) := Go.Lib.hid (fun h => Nat.lt_irrefl _ (hx.lt _ h))
  have HN2 : Hid (¬ V (w.heap.size + 1)) := Go.Lib.hid (fun h => by have := hx.lt _ h; omega)
  have q1 := hx.o.len
  have q2 := hx.o.cap
  clear hx
  go_enter Try.func45, Try.ntmps45
  go_upto_region 1 with fail
  generalize ((w.alloc (oPk x Ao co Ab cb)).alloc (oPk pk0 none 0 none 0)) = W1 at *
  have H1 := Go.Lib.hid h1
  have H2 := Go.Lib.hid h2
  have HO := Go.Lib.hid hxo.o
  have HLT := Go.Lib.hid hxo.lt
  clear h1 h2 hxo
  go_wp2_with (first
    | (refine wpList_store_any rfl 4 _ _ rfl w.heap.size 3 33 _ [.bool false] _ rfl rfl rfl H1.out info_b1 (by show 3 + 1 ≤ 11; omega) (by simp [Value.oneCell']) ?_; intro w2 hb2 ho2; have K2 := Go.Lib.hid hb2; have c9 := K2.out.cell 9 rfl; clear hb2)
    | (go_at_call 36; refine (ccloneV Ao _ co x.opts w2 V rfl (HO.out.keepH (fun b h => ho2.block b (fun e => HN1.out (e ▸ h)))) (fun b h => by rw [ho2.size]; exact HLT.out b h) ho).mono ?_; rintro e w3 ⟨A2, c2, rfl, hb3, hf3, y3⟩; have HB3 := Go.Lib.hid hb3; have K3 := Go.Lib.hid (K2.out.keep y3 (by rw [ho2.size]; omega)); dsimp only)
    | (refine wpList_store_any rfl 23 _ _ rfl w.heap.size 9 33 _ [.slice A2 x.opts.length c2] _ rfl rfl rfl K3.out info_bs (by show 9 + 1 ≤ 11; omega) (by simp [Value.oneCell']) ?_; intro w4 hb4 ho4; have K4 := Go.Lib.hid hb4; clear hb4)
    | (refine wpList_store_any rfl 23 _ _ rfl w.heap.size 10 33 _ [.slice none 0 0] _ rfl rfl rfl K4.out info_bs (by show 10 + 1 ≤ 11; omega) (by simp [Value.oneCell']) ?_; intro w5 hb5 ho5; have K5 : Hid (Bxo w5 w.heap.size 33 (pkL (hdX x) A2 c2 none 0)) := Go.Lib.hid hb5; clear hb5; have KZ := Go.Lib.hid ((((H2.out.only ho2 (by omega)).keep y3 (by rw [ho2.size]; omega)).only ho4 (by omega)).only ho5 (by omega)))
    | (refine wpList_load_box rfl 33 _ rfl w.heap.size rfl (pkL (hdX x) A2 c2 none 0) _ K5.out Try.underlying33 rfl info_pk ?_)
    | (refine wpList_store_box rfl 33 _ _ rfl (w.heap.size + 1) 0 33 _ (pkL (hdX x) A2 c2 none 0) rfl rfl KZ.out info_pk (by show 0 + 11 ≤ 11; omega) (pk_one _ _ _ _ _) ?_; intro w6 hb6 ho6; have K6 : Hid (Bxo w6 (w.heap.size + 1) 33 (pkL (hdX x) A2 c2 none 0)) := Go.Lib.hid hb6; clear hb6))
  have z3 := y3.size
  have e2 := ho2.size
  have y6 : Below w.heap.size w w6 := ((((y0.trans (ho2.below (Nat.le_refl _))).trans (y3.mono (by omega))).trans (ho4.below (Nat.le_refl _))).trans (ho5.below (Nat.le_refl _))).trans (ho6.below (show w.heap.size ≤ w.heap.size + 1 by omega))
  have d0 := K6.out.cell 0 rfl
  have d1 := K6.out.cell 1 rfl
  have d2 := K6.out.cell 2 rfl
  have d3 := K6.out.cell 3 rfl
  have d4 := K6.out.cell 4 rfl
  have d5 := K6.out.cell 5 rfl
  have d6 := K6.out.cell 6 rfl
  have d7 := K6.out.cell 7 rfl
  have d8 := K6.out.cell 8 rfl
  have d9 := K6.out.cell 9 rfl
  have d10 := K6.out.cell 10 rfl
  refine bodyPost_ret (v := ipV (hdX x) A2 c2 none 0) ?_ rfl ⟨A2, c2, rfl, ⟨HS.out.1, HS.out.2.1, HS.out.2.2.1, HS.out.2.2.2, (((HB3.out.only ho4 (by omega) HN1.out).only ho5 (by omega) HN1.out).only ho6 (by omega) HN2.out).wide (by omega), ⟨by simp [hdX], by omega, fun _ => rfl, .inl rfl⟩, grow_lt HV.out y6.size⟩, fun ad h => by have := hf3 ad h; omega, y6⟩
  simp [results, Try.results45, go_sem, d0, d1, d2, d3, d4, d5, d6, d7, d8, d9, d10]
end Go.Proofs.Ythejakbjekjhjaa

/- The contract of slices.BinarySearchFunc at runs with the closure of putIn. -/
namespace Go.Proofs.Ythejakbjekjhjaa
open Go.ChangeShapes Go.WideShapes Go.ChangeAt Go.RowKit
set_option linter.unusedVariables false
set_option linter.unusedSimpArgs false

set_option maxRecDepth 100000 in
set_option maxHeartbeats 4000000 in
theorem cputIn1 (r : Rn) (Ad : Option Addr) (cd : Nat) (off : Int) (w : World) (h : -9223372036854775808 ≤ r.off - off ∧ r.off - off ≤ 9223372036854775807) :
    Calls Try.prog 43 #[rnV r Ad cd, .int .i64 off] w fun e w' => e = .returned (.int .i64 (r.off - off)) ∧ Below w.heap.size w w' := by
  have e1 := IntWalk.i64_in _ h
  go_enter Try.func43, Try.ntmps43
  go_wp2
  go_ret
  exact ⟨rfl, (Below.refl _ _).alloc (Nat.le_refl _) _⟩
/-- runs whose places rise. -/
def Rises (rs : List Rn) : Prop := ∀ i j (hi : i < rs.length) (hj : j < rs.length), i < j → rs[i].off < rs[j].off
/-- where a run of this place belongs. -/
def Place (rs : List Rn) (off : Int) (k : Nat) : Prop := k ≤ rs.length ∧ (∀ i (h : i < rs.length), i < k → rs[i].off < off) ∧ (∀ i (h : i < rs.length), k ≤ i → off ≤ rs[i].off)
theorem place_up {rs : List Rn} {off : Int} {k : Nat} (hR : Rises rs) (hk : k < rs.length) (h : rs[k].off < off) : ∀ i (h : i < rs.length), i < k + 1 → rs[i].off < off := fun i hi hik => by
  by_cases e : i = k
  · subst e; exact h
  · exact Int.lt_trans (hR i k hi hk (by omega)) h
theorem place_dn {rs : List Rn} {off : Int} {k : Nat} (hR : Rises rs) (hk : k < rs.length) (h : off ≤ rs[k].off) : ∀ i (h : i < rs.length), k ≤ i → off ≤ rs[i].off := fun i hi hik => by
  by_cases e : i = k
  · subst e; exact h
  · exact Int.le_trans h (Int.le_of_lt (hR k i hk hi (by omega)))
set_option maxRecDepth 100000 in
set_option maxHeartbeats 8000000 in
theorem csearch (rs : List Rn) (A : Option Addr) (c : Nat) (off : Int) (w : World) (V : Nat → Prop) (hr : Rs w V A rs) (lt : ∀ b, V b → b < w.heap.size) (hc : rs.length ≤ c) (hn : rs.length ≤ 16777216) (hR : Rises rs) (ho : ∀ r ∈ rs, 0 ≤ r.off ∧ r.off ≤ 65535) (o0 : 0 ≤ off) (o1 : off ≤ 65535) :
    Calls Try.prog 42 #[.slice A rs.length c, .int .i64 off, .func (.func 43) #[] #[]] w fun e w' => ∃ (k : Nat) (f : Bool), e = .returned (.tuple #[.int .i64 k, .bool f]) ∧ Place rs off k ∧ Below w.heap.size w w' := by
  have HR := Go.Lib.hid hr
  have HV := Go.Lib.hid lt
  have HS := Go.Lib.hid hR
  have HO := Go.Lib.hid ho
  clear hr lt hR ho
  go_enter Try.func42, Try.ntmps42
  go_wp2
  go_loopw [9, 10] (fun i j wr => ∃ (a b : Nat), a ≤ b ∧ b ≤ rs.length ∧ i = .int .i64 a ∧ j = .int .i64 b ∧ Hid ((∀ t (h : t < rs.length), t < a → rs[t].off < off) ∧ (∀ t (h : t < rs.length), b ≤ t → off ≤ rs[t].off)) ∧ Below w.heap.size w wr) (fun i j _ => (intOf j).toNat - (intOf i).toNat)
  case atStart => exact ⟨0, rs.length, by omega, by omega, rfl, rfl, Go.Lib.hid ⟨fun t _ h => by omega, fun t h h' => by omega⟩, Below.refl _ _⟩
  case round =>
    rename World => wo
    obtain ⟨a, b, hab, hb, rfl, rfl, HP, x1⟩ := hrel
    by_cases hlt : a < b
    · go_upto_region 5 with fail
      obtain ⟨h, hh⟩ : ∃ h : Nat, ((a : Int) + (b : Int)) / 2 = (h : Int) := ⟨(a + b) / 2, by omega⟩
      simp only [hh]
      have g1 : a ≤ h := by omega
      have g2 : h < b := by omega
      have hl : h < rs.length := by omega
      clear hh
      obtain ⟨ad, Ad, cd, rfl, hb2, r0, r1, rb⟩ := (HR.out.keep (KeepV.of x1 HV.out)).at_ hl
      have hO := HO.out _ (List.getElem_mem hl)
      have HU : Hid (∀ x, rs[h] = x → x.off < off → ∀ t (h' : t < rs.length), t < h + 1 → rs[t].off < off) := Go.Lib.hid (fun x e hx => place_up HS.out hl (by rw [e]; exact hx))
      have HD : Hid (∀ x, rs[h] = x → off ≤ x.off → ∀ t (h' : t < rs.length), h ≤ t → off ≤ rs[t].off) := Go.Lib.hid (fun x e hx => place_dn HS.out hl (by rw [e]; exact hx))
      have i1 : (0 : Int) ≤ (h : Int) := by omega
      have i2 : (h : Int) < (rs.length : Int) := by omega
      clear rb
      generalize hd : rs[h] = y at *
      have HU2 := Go.Lib.hid (HU.out y rfl)
      have HD2 := Go.Lib.hid (HD.out y rfl)
      clear HU HD hd
      obtain ⟨e1, e2⟩ := hO
      by_cases hlo : y.off < off
      · have t1 : y.off - off < 0 := by omega
        go_wp2_with (first
          | (go_at_call 43; refine (cputIn1 y Ad cd off _ (by omega)).mono ?_; rintro e w' ⟨rfl, hcall⟩; dsimp only))
        go_round
        case rel => exact ⟨h + 1, b, by omega, by omega, by go_num, rfl, Go.Lib.hid ⟨HU2.out hlo, HP.out.2⟩, x1.trans (hcall.mono x1.size)⟩
        case measure => simp [intOf]; omega
      · have t1 : ¬ y.off - off < 0 := by omega
        go_wp2_with (first
          | (go_at_call 43; refine (cputIn1 y Ad cd off _ (by omega)).mono ?_; rintro e w' ⟨rfl, hcall⟩; dsimp only))
        go_round
        case rel => exact ⟨a, h, by omega, by omega, rfl, rfl, Go.Lib.hid ⟨HP.out.1, HD2.out (by omega)⟩, x1.trans (hcall.mono x1.size)⟩
        case measure => simp [intOf]; omega
    · obtain rfl : a = b := by omega
      have HPL : Hid (Place rs off a) := Go.Lib.hid ⟨hb, HP.out.1, HP.out.2⟩
      clear HP
      by_cases hlast : a < rs.length
      · obtain ⟨ad, Ad, cd, rfl, hb2, r0, r1, rb⟩ := (HR.out.keep (KeepV.of x1 HV.out)).at_ hlast
        have hO := HO.out _ (List.getElem_mem hlast)
        have i1 : (0 : Int) ≤ (a : Int) := by omega
        have i2 : (a : Int) < (rs.length : Int) := by omega
        clear rb
        generalize hd : rs[a] = y at *
        clear hd
        obtain ⟨e1, e2⟩ := hO
        go_wp2_with (first
          | (go_at_call 43; refine (cputIn1 y Ad cd off _ (by omega)).mono ?_; rintro e w' ⟨rfl, hcall⟩; dsimp only))
        go_ret2
        exact ⟨a, _, rfl, HPL.out, x1.trans (hcall.mono x1.size)⟩
      · have t2 : ¬ (a : Int) < (rs.length : Int) := by omega
        go_wp2
        go_ret2
        exact ⟨a, .inl rfl, HPL.out, x1⟩
end Go.Proofs.Ythejakbjekjhjaa

/- The contract of slices.Insert at runs, one run put in: at the end, in a new row, or in place. -/
namespace Go.Proofs.Ythejakbjekjhjaa
open Go.ChangeShapes Go.WideShapes Go.ChangeAt Go.RowKit
set_option linter.unusedVariables false
set_option linter.unusedSimpArgs false

section
variable {P : Program}
/-- copy into a row of the call's own, elements of several cells. -/
theorem run_copy_row {w : World} (dT sT ty e : TypeId) (k : Nat) (hu : P.underlying dT = some (.slice e)) (hs : (P.info? e).map (·.size) = some k)
    (g o dLen dCap : Nat) (cur : List Value) (hg : Bxo w g e cur) (a : Addr) (sLen sCap : Nat) (cs : List Value) (hn : cs.length = Nat.min sLen dLen * k) (hsrc : ∀ j v, cs[j]? = some v → w.cell? (a.add j) = some v) (h1 : ∀ v ∈ cs, v.oneCell' = true) (hfit : o + cs.length ≤ cur.length) :
    ∃ w' v', (Builtin.copy_ #[dT, sT] ty #[.slice (some ⟨g, o, none⟩) dLen dCap, .slice (some a) sLen sCap]).run P w = .ok v' w' ∧ Bxo w' g e (spl cur o cs) ∧ Only g w w' := by
  have hl := run_loadCells_list (P := P) w a cs hsrc
  have hst := run_storeCells_cells (P := P) g o cs 0 w (fun j hj => by
    simp only [Nat.add_zero]
    rw [hg.cell (o + j) (List.getElem?_eq_getElem (by omega))]; rfl) (fun j hj => hg.frozen _) h1
  simp only [Nat.add_zero] at hst
  obtain ⟨h2, h3⟩ := Bxo.setCells cs o cur w hg
  cases hq : P.info? e with
  | none => simp [hq] at hs
  | some i =>
    have hi : i.size = k := by simpa [hq] using hs
    rw [hn] at hl
    refine ⟨_, goInt (Nat.min sLen dLen), ?_, h2, h3⟩
    simp [Builtin.copy_, run_underlying hu, Builtin.lenOf, Builtin.firstCells, sizeOf, typeInfo, hq, hi, hl, hst]
theorem step_copy_row {op : Oper} {a : Act} {w : World} {K : Act → World → Prop} {Q : Exit → Act → World → Prop} (d s : Operand) (dT sT : TypeId) (ho : op.op = .call { callee := .builtin .copy, args := #[d, s], argTypes := #[dT, sT] })
    (e : TypeId) (k : Nat) (hu : P.underlying dT = some (.slice e)) (hs : (P.info? e).map (·.size) = some k)
    (g o dLen dCap : Nat) (cur : List Value) (hd : a.eval d = .slice (some ⟨g, o, none⟩) dLen dCap) (hg : Bxo w g e cur) (ad : Addr) (sLen sCap : Nat) (cs : List Value) (hx : a.eval s = .slice (some ad) sLen sCap) (hn : cs.length = Nat.min sLen dLen * k) (hsrc : ∀ j v, cs[j]? = some v → w.cell? (ad.add j) = some v) (h1 : ∀ v ∈ cs, v.oneCell' = true) (hfit : o + cs.length ≤ cur.length)
    (h : ∀ w', Bxo w' g e (spl cur o cs) → Only g w w' → ∀ v', K (a.put op.dst v') w') : op.wp P a w K Q := by
  obtain ⟨w', v', hrun, h2, h3⟩ := run_copy_row (P := P) (w := w) dT sT op.type e k hu hs g o dLen dCap cur hg ad sLen sCap cs hn hsrc h1 hfit
  unfold Oper.wp execOp
  simp only [ho, resolve, invoke, builtin, Sem.run_bind, Sem.run_pure, Result.andThen_ok, List.map_toArray, List.map_cons, List.map_nil, hd, hx, hrun]
  exact h w' h2 h3 v'
theorem wpList_copy_row {ops : Array Oper} {rest : List Oper} {op : Oper} {a : Act} {w : World} {Q : Exit → Act → World → Prop} (hgd : Region.wanted op (yielded ops a.tmps) = true) (d s : Operand) (dT sT : TypeId) (ho : op.op = .call { callee := .builtin .copy, args := #[d, s], argTypes := #[dT, sT] })
    (e : TypeId) (k : Nat) (hu : P.underlying dT = some (.slice e)) (hs : (P.info? e).map (·.size) = some k)
    (g o dLen dCap : Nat) (cur : List Value) (hd : a.eval d = .slice (some ⟨g, o, none⟩) dLen dCap) (hg : Bxo w g e cur) (ad : Addr) (sLen sCap : Nat) (cs : List Value) (hx : a.eval s = .slice (some ad) sLen sCap) (hn : cs.length = Nat.min sLen dLen * k) (hsrc : ∀ j v, cs[j]? = some v → w.cell? (ad.add j) = some v) (h1 : ∀ v ∈ cs, v.oneCell' = true) (hfit : o + cs.length ≤ cur.length)
    (h : ∀ w', Bxo w' g e (spl cur o cs) → Only g w w' → ∀ v', wpList P ops Q rest (a.put op.dst v') w') : wpList P ops Q (op :: rest) a w :=
  BigFrame.wpList_want hgd fun _ hK => step_copy_row d s dT sT ho e k hu hs g o dLen dCap cur hd hg ad sLen sCap cs hx hn hsrc h1 hfit (fun w' h2 h3 v' => hK _ _ (h w' h2 h3 v'))
/-- append of so many zero elements to a slice without room: a new row. -/
theorem wpList_append_zeros {ops : Array Oper} {rest : List Oper} {op : Oper} {a : Act} {w : World} {Q : Exit → Act → World → Prop} (hgd : Region.wanted op (yielded ops a.tmps) = true) (s x : Operand) (t tn : TypeId) (ho : op.op = .call { callee := .builtin .append, args := #[s, x], argTypes := #[t, tn] })
    (e : TypeId) (i : TypeInfo) (z : Value) (kn : IntKind) (ht : P.underlying t = some (.slice e)) (htn : P.underlying tn = some (.int kn)) (hi : P.info? e = some i) (hz : i.zero = some z) (hzs : z.cells.size = i.size) (h0s : 0 < i.size)
    (base : Option Addr) (sLen sCap : Nat) (olds : List Value) (hs : a.eval s = .slice base sLen sCap) (hold : (Builtin.firstCells i.size sLen (.slice base sLen sCap)).run P w.drew = .ok olds.toArray w.drew) (hol : olds.length = sLen * i.size)
    (k : Nat) (kq : IntKind) (hx : a.eval x = .int kq (k : Int)) (h0 : 0 < k) (hg : sCap < sLen + k) (hb : (sLen + k) * i.bytes ≤ 140737488355328) (h63 : sLen + k ≤ maxLen)
    (h : ∀ w' c' rest', sLen + k ≤ c' → c' ≤ maxLen → (olds ++ rest').length = c' * i.size → Bxo w' w.heap.size e (olds ++ rest') → Below w.heap.size w w' → w'.heap.size = w.heap.size + 1 → wpList P ops Q rest (a.put op.dst (.slice (some ⟨w.heap.size, 0, none⟩) (sLen + k) c')) w') : wpList P ops Q (op :: rest) a w :=
  BigFrame.wpList_want hgd fun _ hK => by
    unfold maxLen at h63
    have hrun := Lib.run_append_grow_zeros (P := P) w t tn op.type e i z kq kn ht htn hi hz base sLen sCap olds hold k h0 h0s hg (by omega) (Nat.le_trans (Nat.mul_le_mul_right _ (by omega)) (Nat.le_trans hb (by omega))) (growslice_fits hg hb)
    unfold Oper.wp execOp
    simp only [ho, resolve, invoke, builtin, Sem.run_bind, Sem.run_pure, Result.andThen_ok, List.map_toArray, List.map_cons, List.map_nil, hs, hx, hrun]
    have hc1 := grownCap_ge w (sLen + k) sCap e
    have hc2 := grownCap_le_maxLen w (sLen + k) sCap e (by unfold maxLen; omega)
    refine hK _ _ (h _ _ ((Builtin.zeroCells z.cells k).toList ++ (Builtin.zeroCells z.cells (grownCap w (sLen + k) sCap e - (sLen + k))).toList) hc1 hc2 ?_ ?_ ((Below.refl _ _).drew.alloc (Nat.le_refl _) _) (by simp))
    · have z1 : ∀ m, (Builtin.zeroCells z.cells m).toList.length = m * i.size := fun m => by simp [Builtin.zeroCells, hzs]
      rw [List.length_append, List.length_append, z1, z1, hol, ← Nat.add_mul, ← Nat.add_mul]
      congr 1
      omega
    · have := heap_alloc_new w.drew (.cells (olds.toArray ++ Builtin.zeroCells z.cells k ++ Builtin.zeroCells z.cells (grownCap w (sLen + k) sCap e - (sLen + k))) e)
      unfold Bxo
      rw [show (olds ++ ((Builtin.zeroCells z.cells k).toList ++ (Builtin.zeroCells z.cells (grownCap w (sLen + k) sCap e - (sLen + k))).toList)).toArray = olds.toArray ++ Builtin.zeroCells z.cells k ++ Builtin.zeroCells z.cells (grownCap w (sLen + k) sCap e - (sLen + k)) by
        apply Array.toList_inj.1; simp]
      exact this
end
end Go.Proofs.Ythejakbjekjhjaa
