/- Lemmas of layer 7, several texts in one. -/
import Derived.Test.YthejakbjekjhjaaQ11
/- The contract of package reasm's joined. -/
namespace Go.Proofs.Ythejakbjekjhjaa
open Go.ChangeShapes Go.WideShapes Go.ChangeAt Go.RowKit
set_option linter.unusedVariables false
set_option linter.unusedSimpArgs false

/-- the packet that the runs make. -/
def outB (b : Bf) : Pk := ⟨b.head.tos, b.head.id, b.head.df, b.head.mf, b.head.off, b.head.ttl, b.head.proto, b.head.src, b.head.dst, b.head.opts, bodyR b.runs []⟩
/-- ahead of run j: the packet's box names a row of bytes of the call's own. -/
structure JoI (w : World) (b : Bf) (Ao : Option Addr) (co : Nat) (wr : World) (j : Nat) (A : Option Addr) (c : Nat) (l : List UInt8) : Prop where
  below : Below w.heap.size w wr
  zbox : Bxo wr (w.heap.size + 1) 33 (pkL pk0 none 0 none 0)
  box : Bxo wr (w.heap.size + 2) 33 [.int .i64 b.head.tos, .int .i64 b.head.id, .bool b.head.df, .bool b.head.mf, .int .i64 b.head.off, .int .i64 b.head.ttl, .int .i64 b.head.proto, .int .u32 b.head.src, .int .u32 b.head.dst, .slice Ao b.head.opts.length co, .slice A l.length c]
  row : wr.ownsRow (w.heap.size + 3) 5 1 (.slice A l.length c) l.length (l.map bv)
  eq : l = (b.runs.take j).flatMap Rn.data
theorem flat_step (l : List Rn) (k : Nat) (h : k < l.length) : (l.take (k + 1)).flatMap Rn.data = (l.take k).flatMap Rn.data ++ l[k].data := by
  rw [List.take_succ_eq_append_getElem h, List.flatMap_append]; simp
theorem flat_le (l : List Rn) (k : Nat) : ((l.take k).flatMap Rn.data).length ≤ (l.flatMap Rn.data).length := by
  conv => rhs; rw [← List.take_append_drop k l, List.flatMap_append, List.length_append]
  omega
set_option maxRecDepth 100000 in
set_option maxHeartbeats 4000000 in
theorem cjoined (b : Bf) (Ao : Option Addr) (co : Nat) (Ab : Option Addr) (cb : Nat) (Ar : Option Addr) (cr : Nat) (w : World) (V : Nat → Prop) (hB : BfAt w V b Ao co Ab cb Ar cr) (hw : wholeB b = true) (ht : b.total ≤ 65535) :
    Calls Try.prog 47 #[bfV b Ao co Ab cb Ar cr] w fun e w' => ∃ A2 c2, e = .returned (ipV (outB b) Ao co A2 c2) ∧ PkAt w' (growV V w w') (outB b) Ao co A2 c2 ∧ Below w.heap.size w w' := by
  obtain ⟨i0, hi, hz0, hz1, hz2⟩ := info_parts info_byte
  obtain ⟨hf1, hf2⟩ := whole_flat hw
  have HF1 := Go.Lib.hid hf1
  obtain ⟨n, hn⟩ : ∃ n : Nat, b.total = (n : Int) := ⟨(bodyR b.runs []).length, hf2.symm⟩
  have hn2 : (b.runs.flatMap Rn.data).length = n := by rw [← hf1]; omega
  have HV := Go.Lib.hid hB.lt
  have HB0 := Go.Lib.hid hB
  have y0 : Below w.heap.size w ((w.alloc (oBf b Ao co Ab cb Ar cr)).alloc (oPk pk0 none 0 none 0)) := below_alloc (below_alloc (Below.refl _ _) (Nat.le_refl _) _) (by simp) _
  have h1 := (Bxo.made w 42 (bfL b Ao co Ab cb Ar cr)).alloc (oPk pk0 none 0 none 0)
  have h2 : Bxo ((w.alloc (oBf b Ao co Ab cb Ar cr)).alloc (oPk pk0 none 0 none 0)) (w.heap.size + 1) 33 (pkL pk0 none 0 none 0) := by
    have := Bxo.made (w.alloc (oBf b Ao co Ab cb Ar cr)) 33 (pkL pk0 none 0 none 0)
    simpa using this
  have hz : ((w.alloc (oBf b Ao co Ab cb Ar cr)).alloc (oPk pk0 none 0 none 0)).heap.size = w.heap.size + 2 := by simp
  have rlen := hB.rlen
  have rcap := hB.rcap
  have n65 : n ≤ 65535 := by omega
  have HN := Go.Lib.hid hn
  clear hB hf1 hf2 hw ht hn
  go_enter Try.func47, Try.ntmps47
  go_upto_region 1 with fail
  generalize ((w.alloc (oBf b Ao co Ab cb Ar cr)).alloc (oPk pk0 none 0 none 0)) = W at *
  have H1 := Go.Lib.hid h1
  have H2 := Go.Lib.hid h2
  clear h1 h2
  have s3 : W.heap.size < (W.alloc (oPk b.head Ao co Ab cb)).heap.size := by simp
  have e3 : (W.alloc (oPk b.head Ao co Ab cb)).heap.size = w.heap.size + 3 := by simp [hz]
  have y3 : Below w.heap.size w (W.alloc (oPk b.head Ao co Ab cb)) := below_alloc y0 (by omega) _
  have h3 : Bxo (W.alloc (oPk b.head Ao co Ab cb)) (w.heap.size + 2) 33 (pkL b.head Ao co Ab cb) := by
    have := Bxo.made W 33 (pkL b.head Ao co Ab cb)
    rwa [hz] at this
  have K1 := Go.Lib.hid (H1.out.alloc (oPk b.head Ao co Ab cb))
  have K2 := Go.Lib.hid (H2.out.alloc (oPk b.head Ao co Ab cb))
  have K3 := Go.Lib.hid h3
  clear h3
  go_upto_region 2 with (first
    | (refine wpList_load_pk rfl _ rfl ⟨w.heap.size, 5, none⟩ rfl b.head Ao co Ab cb (H1.out.mid 5 _ (sub_get rfl)) ?_)
    | (refine wpList_store_new rfl 33 _ _ rfl _ (pkL b.head Ao co Ab cb).toArray rfl rfl info_pk rfl (pk_one _ _ _ _ _) ?_))
  generalize W.alloc (oPk b.head Ao co Ab cb) = W3 at *
  clear H1 H2 s3
  have c17 := K1.out.cell 17 rfl
  go_upto_region 3 with (first
    | (at_make; refine wpList_make_own _ rfl _ _ 23 rfl (w.heap.size + 3) 5 i0 (.int .u8 0) 1 Try.underlying23 hi hz0 hz1 _ _ b.total n rfl rfl HN.out (by rw [hz2]; omega) (by unfold maxLen; omega) (by omega) ?_; intro w4 ho4 hg4; rw [e3] at ho4; have y4 : Below W3.heap.size W3 w4 := (Below.refl _ _).grown hg4 (Nat.le_refl _) (fun k hk => by cases hk); have HO4 := Go.Lib.hid ho4; have K4 := Go.Lib.hid (K3.out.keep y4 (by omega)); have Z4 := Go.Lib.hid (K2.out.keep y4 (by omega)); have B4 := Go.Lib.hid (K1.out.keep y4 (by omega)); clear ho4 c17)
    | (refine wpList_store_any rfl 23 _ _ rfl (w.heap.size + 2) 10 33 _ [.slice (some ⟨w.heap.size + 3, 0, none⟩) 0 n] _ rfl rfl rfl K4.out info_bs (by show 10 + 1 ≤ 11; omega) (by simp [Value.oneCell']) ?_; intro w5 hb5 ho5; have HB5 := Go.Lib.hid hb5; clear hb5))
  have JI0 : Hid (JoI w b Ao co w5 0 (some ⟨w.heap.size + 3, 0, none⟩) n []) := Go.Lib.hid ⟨(y3.trans (y4.mono (by omega))).trans (ho5.below (by omega)), Z4.out.only ho5 (by omega), HB5.out, own_keep HO4.out (ho5.block _ (by omega)), by simp⟩
  have BX : Hid (Bxo w5 w.heap.size 42 (bfL b Ao co Ab cb Ar cr)) := Go.Lib.hid (B4.out.only ho5 (by omega))
  have c18 := BX.out.cell 18 rfl
  clear K1 K2 K3 K4 Z4 B4 HO4 HB5 y4 ho5 y3
  go_wp2
  clear c18
  go_loopw [15] (fun i wr => ∃ (j : Nat) (A : Option Addr) (c : Nat) (l : List UInt8), j ≤ b.runs.length ∧ i = .int .i64 j ∧ JoI w b Ao co wr j A c l) (fun i _ => b.runs.length - (intOf i).toNat)
  case atStart => exact ⟨0, _, _, _, by omega, rfl, JI0.out⟩
  case round =>
    rename World => wo
    clear JI0
    obtain ⟨j, A, c, l, hj, rfl, hI⟩ := hrel
    have HI := Go.Lib.hid hI
    have wb := hI.below.size
    have wz := hI.box.lt
    have lcap := own_cap hI.row
    unfold maxLen at lcap
    obtain ⟨lc1, lc2⟩ := lcap
    have HL := Go.Lib.hid hI.eq
    clear hI
    by_cases hlt : j < b.runs.length
    · obtain ⟨ad, Ad, cd, rfl, hb, r0, r1, rb⟩ := (HB0.out.at HI.out.below).runs.at_ hlt
      have HS := Go.Lib.hid (flat_step b.runs j hlt)
      have HLE := Go.Lib.hid (flat_le b.runs (j + 1))
      have i1 : (0 : Int) ≤ (j : Int) := by omega
      have i2 : (j : Int) < (b.runs.length : Int) := by omega
      have q7 := rb.len
      have q8 := rb.cap
      have HD := Go.Lib.hid rb
      clear rb
      generalize hd : b.runs[j] = y at *
      clear hd
      have l65 : l.length + y.data.length ≤ 65535 := by
        have h1 := HLE.out
        rw [HS.out, List.length_append, ← HL.out] at h1
        omega
      have y6 : Below wo.heap.size wo (wo.alloc (oRn y Ad cd)) := (Below.refl _ _).alloc (Nat.le_refl _) _
      have M6 := Go.Lib.hid (BoRn.made (w := wo) (r := y) (Ad := Ad) (cd := cd))
      have s6 : wo.heap.size < (wo.alloc (oRn y Ad cd)).heap.size := by simp
      go_upto_region 6 with fail
      generalize wo.alloc (oRn y Ad cd) = W6 at *
      have K6 := Go.Lib.hid (HI.out.box.keep y6 wz)
      have Z6 := Go.Lib.hid (HI.out.zbox.keep y6 HI.out.zbox.lt)
      have R6 := Go.Lib.hid (own_keepA HI.out.row (w' := W6) (fun g hg => by
        rcases own_addr HI.out.row with ⟨hn', _⟩ | ⟨g2, hg2, h1, h2⟩
        · rw [hn'] at hg; cases hg
        · rw [hg2] at hg; injection hg with hg; have hg : g2 = g := hg; subst hg; exact y6.block _ h2))
      have HOB : Hid (∀ g, (Value.slice A l.length c).ownBlock = some g → w.heap.size + 3 ≤ g ∧ g < W6.heap.size) := Go.Lib.hid (fun g hg => World.ownsRow.lt R6.out g hg)
      have HBS := Go.Lib.hid ((HD.out.bs.keep (KeepV.of y6 (fun x hx => Nat.lt_of_lt_of_le (HV.out x hx) wb))).bs (B := W6.heap.size) (fun x hx => by have := HV.out x hx; omega))
      have w6z := y6.size
      have c10 := K6.out.cell 10 rfl
      obtain ⟨d0, d1⟩ := M6.out.cells
      go_wp2_with (first
        | (at_builtin; refine wpList_append_rd rfl _ _ 23 rfl (w.heap.size + 3) 5 i0 (.int .u8 0) 1 Try.underlying23 hi hz0 hz1 hz2 rfl (.slice A l.length c) l.length (l.map bv) rfl R6.out W6.heap.size Ad y.data.length cd (y.data.map bv) rfl (by simp) HD.out.nil HBS.out.rd (bv_one _) (by unfold maxLen; omega) (by omega) (by omega) ?_; intro v7 w7 ho7 hg7 hat7; obtain ⟨A7, c7, rfl⟩ := own_slice ho7; have HO7 := Go.Lib.hid ho7; have HG7 := Go.Lib.hid hg7; have K7 : Hid (Bxo w7 (w.heap.size + 2) 33 _) := Go.Lib.hid ((hg7.block _ (by omega) (fun e => by have := HOB.out _ e.symm; omega)).trans K6.out); have Z7 : Hid (Bxo w7 (w.heap.size + 1) 33 _) := Go.Lib.hid ((hg7.block _ (by omega) (fun e => by have := HOB.out _ e.symm; omega)).trans Z6.out); clear ho7 hg7 hat7 c10 d0 d1)
        | (refine wpList_store_any rfl 23 _ _ rfl (w.heap.size + 2) 10 33 _ [.slice A7 (l.length + y.data.length) c7] _ rfl rfl rfl K7.out info_bs (by show 10 + 1 ≤ 11; omega) (by simp [Value.oneCell']) ?_; intro w8 hb8 ho8; have HB8 := Go.Lib.hid hb8; clear hb8))
      have y7 : Below w.heap.size w w7 := (HI.out.below.trans (y6.mono wb)).grown HG7.out (by omega) (fun k hk => by have := HOB.out k hk; omega)
      have HN2 : Hid (JoI w b Ao co w8 (j + 1) A7 c7 (l ++ y.data)) := Go.Lib.hid ⟨y7.trans (ho8.below (by omega)), Z7.out.only ho8 (by omega), by rw [List.length_append]; exact HB8.out, by
        rw [List.length_append, List.map_append]
        refine own_keepA HO7.out (fun g hg => ho8.block g (fun e => ?_))
        rcases own_addr HO7.out with ⟨hn', _⟩ | ⟨g2, hg2, h1, h2⟩
        · rw [hn'] at hg; cases hg
        · rw [hg2] at hg; injection hg with hg; have hg : g2 = g := hg; omega, by rw [HS.out, ← HL.out]⟩
      go_round
      case rel => exact ⟨j + 1, A7, c7, l ++ y.data, by omega, by go_num, HN2.out⟩
      case measure => simp [intOf]; omega
    · obtain rfl : j = b.runs.length := by omega
      have hl : l = bodyR b.runs [] := by rw [HL.out, List.take_length, HF1.out]
      subst hl
      have K9 : Hid (Bxo wo (w.heap.size + 2) 33 (pkL (outB b) Ao co A c)) := Go.Lib.hid HI.out.box
      have Z9 := Go.Lib.hid HI.out.zbox
      have s1 := HB0.out.hs0
      have s2 := HB0.out.hs1
      have s3 := HB0.out.hd0
      have s4 := HB0.out.hd1
      go_wp2_with (first
        | (refine wpList_load_pk rfl _ rfl ⟨w.heap.size + 2, 0, none⟩ rfl (outB b) Ao co A c K9.out.at ?_)
        | (refine wpList_store_whole rfl 33 _ _ rfl (w.heap.size + 1) _ (pkL (outB b) Ao co A c) rfl rfl Z9.out info_pk rfl (by simp [Value.oneCell']) ?_; intro w9 hb9 ho9; have HB9 := Go.Lib.hid hb9; clear hb9))
      have y9 : Below w.heap.size w w9 := HI.out.below.trans (ho9.below (show w.heap.size ≤ w.heap.size + 1 by omega))
      have hrow := own_keepA HI.out.row (w' := w9) (fun g hg => ho9.block g (fun e => by
        rcases own_addr HI.out.row with ⟨hn', _⟩ | ⟨g2, hg2, h1, h2⟩
        · rw [hn'] at hg; cases hg
        · rw [hg2] at hg; injection hg with hg; have hg : g2 = g := hg; omega))
      have hbs : ByIn w9 (growV V w w9) A c (bodyR b.runs []) := by
        refine ⟨lc1, by omega, fun hn' => ?_, ?_⟩
        · rcases own_addr hrow with ⟨_, _, hz'⟩ | ⟨g2, hg2, _⟩
          · exact hz'
          · rw [hn'] at hg2; cases hg2
        · rcases own_addr hrow with ⟨_, hz', _⟩ | ⟨g2, rfl, h1, h2⟩
          · exact .inl (List.eq_nil_of_length_eq_zero hz')
          · refine .inr ⟨_, rfl, .inr ⟨show w.heap.size ≤ g2 by omega, h2⟩, fun k x hx => ?_⟩
            have hk := (List.getElem?_eq_some_iff.1 hx).1
            rw [Addr.add_mid, Nat.zero_add, own_cells hrow k (by omega), List.getElem?_map, hx]
            rfl
      exact bodyPost_ret (v := ipV (outB b) Ao co A c) (results_cell_row rfl _ _ (w.heap.size + 1) 33 _ _ _ rfl HB9.out Try.underlying33 rfl info_pk) rfl ⟨A, c, rfl, ⟨s1, s2, s3, s4, ((HB0.out.o.keep (KeepV.of y9 HV.out)).more (fun x hx => .inl hx)), hbs, grow_lt HV.out y9.size⟩, y9⟩
end Go.Proofs.Ythejakbjekjhjaa

/- append and clear in a row of the call's own, in place, at elements of several cells; copy within and into it. No condition. -/
namespace Go.Proofs.Ythejakbjekjhjaa
open Go.ChangeShapes Go.WideShapes Go.ChangeAt Go.RowKit
set_option linter.unusedVariables false
set_option linter.unusedSimpArgs false

section
variable {P : Program}
theorem bxo_setRow {w : World} {g : Nat} {e : TypeId} {cur : List Value} (h : Bxo w g e cur) (cs : List Value) : Bxo (w.setRow g cs.toArray) g e cs ∧ Only g w (w.setRow g cs.toArray) := by
  refine ⟨setRow_heap w g _ _ _ _ h, ⟨rfl, rfl, rfl, by simp [World.setRow], fun k hk => ?_⟩⟩
  unfold World.setRow
  simp only [Array.getElem?_modify]
  rw [if_neg (fun e => hk e.symm)]
theorem run_append_row {w : World} (t ty e : TypeId) (i : TypeInfo) (k : Nat) (ht : P.underlying t = some (.slice e)) (hi : P.info? e = some i) (hk : i.size = k)
    (g sLen sCap : Nat) (cur : List Value) (hg : Bxo w g e cur) (ad : Addr) (m c : Nat) (news : List Value) (hl : news.length = m * k) (hnews : ∀ j u, news[j]? = some u → w.cell? (ad.add j) = some u) (h1 : ∀ u ∈ news, u.oneCell' = true)
    (hroom : sLen + m ≤ sCap) (hfit : sLen * k + news.length ≤ cur.length) :
    ∃ w', (Builtin.append_ #[t, t] ty #[.slice (some ⟨g, 0, none⟩) sLen sCap, .slice (some ad) m c]).run P w = .ok (.slice (some ⟨g, 0, none⟩) (sLen + m) sCap) w' ∧ Bxo w' g e (spl cur (sLen * k) news) ∧ Only g w w' := by
  subst hk
  have h := run_append_room (P := P) w t ty e i ht hi g sLen sCap cur.toArray hg ad m c news hl hnews h1 hroom (by simpa using hfit)
  rw [List.toList_toArray] at h
  rw [← spl_eq news cur _ hfit] at h
  obtain ⟨h2, h3⟩ := bxo_setRow hg (spl cur (sLen * i.size) news)
  exact ⟨_, h, h2, h3⟩
theorem step_append_row {op : Oper} {a : Act} {w : World} {K : Act → World → Prop} {Q : Exit → Act → World → Prop} (s x : Operand) (t : TypeId) (ho : op.op = .call { callee := .builtin .append, args := #[s, x], argTypes := #[t, t] })
    (e : TypeId) (i : TypeInfo) (k : Nat) (ht : P.underlying t = some (.slice e)) (hi : P.info? e = some i) (hk : i.size = k)
    (g sLen sCap : Nat) (cur : List Value) (hs : a.eval s = .slice (some ⟨g, 0, none⟩) sLen sCap) (hg : Bxo w g e cur) (ad : Addr) (m c : Nat) (news : List Value) (hx : a.eval x = .slice (some ad) m c) (hl : news.length = m * k) (hnews : ∀ j u, news[j]? = some u → w.cell? (ad.add j) = some u) (h1 : ∀ u ∈ news, u.oneCell' = true)
    (hroom : sLen + m ≤ sCap) (hfit : sLen * k + news.length ≤ cur.length)
    (h : ∀ w', Bxo w' g e (spl cur (sLen * k) news) → Only g w w' → K (a.put op.dst (.slice (some ⟨g, 0, none⟩) (sLen + m) sCap)) w') : op.wp P a w K Q := by
  obtain ⟨w', hrun, h2, h3⟩ := run_append_row (P := P) (w := w) t op.type e i k ht hi hk g sLen sCap cur hg ad m c news hl hnews h1 hroom hfit
  unfold Oper.wp execOp
  simp only [ho, resolve, invoke, builtin, Sem.run_bind, Sem.run_pure, Result.andThen_ok, List.map_toArray, List.map_cons, List.map_nil, hs, hx, hrun]
  exact h w' h2 h3
theorem wpList_append_row {ops : Array Oper} {rest : List Oper} {op : Oper} {a : Act} {w : World} {Q : Exit → Act → World → Prop} (hgd : Region.wanted op (yielded ops a.tmps) = true) (s x : Operand) (t : TypeId) (ho : op.op = .call { callee := .builtin .append, args := #[s, x], argTypes := #[t, t] })
    (e : TypeId) (i : TypeInfo) (k : Nat) (ht : P.underlying t = some (.slice e)) (hi : P.info? e = some i) (hk : i.size = k)
    (g sLen sCap : Nat) (cur : List Value) (hs : a.eval s = .slice (some ⟨g, 0, none⟩) sLen sCap) (hg : Bxo w g e cur) (ad : Addr) (m c : Nat) (news : List Value) (hx : a.eval x = .slice (some ad) m c) (hl : news.length = m * k) (hnews : ∀ j u, news[j]? = some u → w.cell? (ad.add j) = some u) (h1 : ∀ u ∈ news, u.oneCell' = true)
    (hroom : sLen + m ≤ sCap) (hfit : sLen * k + news.length ≤ cur.length)
    (h : ∀ w', Bxo w' g e (spl cur (sLen * k) news) → Only g w w' → wpList P ops Q rest (a.put op.dst (.slice (some ⟨g, 0, none⟩) (sLen + m) sCap)) w') : wpList P ops Q (op :: rest) a w :=
  BigFrame.wpList_want hgd fun _ hK => step_append_row s x t ho e i k ht hi hk g sLen sCap cur hs hg ad m c news hx hl hnews h1 hroom hfit (fun w' h2 h3 => hK _ _ (h w' h2 h3))
theorem zeroCells_mem (z : List Value) (n : Nat) (hz : 0 < z.length) : (Builtin.zeroCells z.toArray n).toList.length = n * z.length ∧ ∀ u ∈ (Builtin.zeroCells z.toArray n).toList, u ∈ z := by
  refine ⟨by simp [Builtin.zeroCells], fun u hu => ?_⟩
  simp only [Builtin.zeroCells, Array.toList_map, List.mem_map] at hu
  obtain ⟨j, _, rfl⟩ := hu
  have hj : j % z.toArray.size < z.length := Nat.mod_lt _ (by simpa using hz)
  rw [List.getElem!_toArray, getElem!_pos z _ hj]
  exact List.getElem_mem hj
/-- clear of some elements at a row's place. -/
theorem wpList_clear_row {ops : Array Oper} {rest : List Oper} {op : Oper} {a : Act} {w : World} {Q : Exit → Act → World → Prop} (hgd : Region.wanted op (yielded ops a.tmps) = true) (x : Operand) (t : TypeId) (ho : op.op = .call { callee := .builtin .clear, args := #[x], argTypes := #[t] })
    (e : TypeId) (z : List Value) (ht : P.underlying t = some (.slice e)) (hv : ∀ w, (zeroValue e).run P w = .ok (.agg z.toArray) w) (hz : 0 < z.length) (h1 : ∀ u ∈ z, u.oneCell' = true)
    (g o m c : Nat) (cur : List Value) (hx : a.eval x = .slice (some ⟨g, o, none⟩) m c) (hg : Bxo w g e cur) (hfit : o + m * z.length ≤ cur.length)
    (h : ∀ w' vs, vs.length = m * z.length → Bxo w' g e (spl cur o vs) → Only g w w' → wpList P ops Q rest (a.put op.dst (.tuple #[])) w') : wpList P ops Q (op :: rest) a w :=
  BigFrame.wpList_want hgd fun _ hK => by
    obtain ⟨z1, z2⟩ := zeroCells_mem z m hz
    have hst := run_storeCells_cells (P := P) g o (Builtin.zeroCells z.toArray m).toList 0 w (fun j hj => by
      simp only [Nat.add_zero]
      rw [hg.cell (o + j) (List.getElem?_eq_getElem (by omega))]; rfl) (fun j hj => hg.frozen _) (fun u hu => h1 u (z2 u hu))
    simp only [Nat.add_zero] at hst
    obtain ⟨h2, h3⟩ := Bxo.setCells (Builtin.zeroCells z.toArray m).toList o cur w hg
    have hrun : (Builtin.clear_ #[t] op.type #[.slice (some ⟨g, o, none⟩) m c]).run P w = .ok (.tuple #[]) (w.setCells g o (Builtin.zeroCells z.toArray m).toList) := by
      cases m with
      | zero =>
        have e0 : (Builtin.zeroCells z.toArray 0).toList = [] := by simp [Builtin.zeroCells]
        rw [e0]
        simp [Builtin.clear_, run_underlying ht, World.setCells]
      | succ m => simp [Builtin.clear_, run_underlying ht, hv, Value.cells, hst]
    unfold Oper.wp execOp
    simp only [ho, resolve, invoke, builtin, Sem.run_bind, Sem.run_pure, Result.andThen_ok, List.map_toArray, List.map_cons, List.map_nil, hx, hrun]
    exact hK _ _ (h _ _ z1 h2 h3)
end
theorem spl_take_le (vs cs : List Value) (o n : Nat) (h : o + vs.length ≤ cs.length) (hn : n ≤ o) : (spl cs o vs).take n = cs.take n := by
  rw [spl_eq vs cs o h, List.append_assoc, List.take_append, List.length_take, Nat.min_eq_left (by omega), show n - o = 0 by omega, List.take_zero, List.append_nil, List.take_take, Nat.min_eq_left hn]
theorem spl_take_all (vs cs : List Value) (o : Nat) (h : o + vs.length ≤ cs.length) : (spl cs o vs).take (o + vs.length) = cs.take o ++ vs := by
  rw [spl_eq vs cs o h, List.take_append, List.length_append, List.length_take, Nat.min_eq_left (by omega), Nat.sub_self, List.take_zero, List.append_nil, List.take_of_length_le (by rw [List.length_append, List.length_take]; omega)]
end Go.Proofs.Ythejakbjekjhjaa

/- The contract of package reasm's copyPacket. -/
namespace Go.Proofs.Ythejakbjekjhjaa
open Go.ChangeShapes Go.WideShapes Go.ChangeAt Go.RowKit
set_option linter.unusedVariables false
set_option linter.unusedSimpArgs false

set_option maxRecDepth 100000 in
set_option maxHeartbeats 4000000 in
theorem ccopyPacket (x : Pk) (Ao : Option Addr) (co : Nat) (Ab : Option Addr) (cb : Nat) (w : World) (V : Nat → Prop) (hx : PkAt w V x Ao co Ab cb) (ho : x.opts.length ≤ 16777216) (hb : x.body.length ≤ 16777216) :
    Calls Try.prog 17 #[ipV x Ao co Ab cb] w fun e w' => ∃ A2 c2 A3 c3, e = .returned (ipV x A2 c2 A3 c3) ∧ PkAt w' (growV V w w') x A2 c2 A3 c3 ∧ Below w.heap.size w w' := by
  have HV := Go.Lib.hid hx.lt
  have HS := Go.Lib.hid (And.intro hx.s0 (And.intro hx.s1 (And.intro hx.d0 hx.d1)))
  have y0 : Below w.heap.size w ((w.alloc (oPk x Ao co Ab cb)).alloc (oPk pk0 none 0 none 0)) := below_alloc (below_alloc (Below.refl _ _) (Nat.le_refl _) _) (by simp) _
  have h1 := (Bxo.made w 33 (pkL x Ao co Ab cb)).alloc (oPk pk0 none 0 none 0)
  have h2 : Bxo ((w.alloc (oPk x Ao co Ab cb)).alloc (oPk pk0 none 0 none 0)) (w.heap.size + 1) 33 (pkL pk0 none 0 none 0) := by
    have := Bxo.made (w.alloc (oPk x Ao co Ab cb)) 33 (pkL pk0 none 0 none 0)
    simpa using this
  have hz : ((w.alloc (oPk x Ao co Ab cb)).alloc (oPk pk0 none 0 none 0)).heap.size = w.heap.size + 2 := by simp
  have hxo := hx.at y0
  have HN1 : Hid (¬ V w.heap.size) := Go.Lib.hid (fun h => Nat.lt_irrefl _ (hx.lt _ h))
  have HN2 : Hid (¬ V (w.heap.size + 1)) := Go.Lib.hid (fun h => by have := hx.lt _ h; omega)
  have q1 := hx.o.len
  have q2 := hx.o.cap
  have q3 := hx.b.len
  have q4 := hx.b.cap
  clear hx
  go_enter Try.func17, Try.ntmps17
  go_upto_region 1 with fail
  generalize ((w.alloc (oPk x Ao co Ab cb)).alloc (oPk pk0 none 0 none 0)) = W at *
  try simp only [Act.put, List.setIfInBounds_toArray, List.set_cons_zero, List.set_cons_succ]
  refine wp_region_held_drew (S := fun Y => Below w.heap.size w Y) (by kernel_rfl) ?_ (fun hHeld => ?_)
  · exact y0.drew
  have H1 : Hid (Bxo W.drew w.heap.size 33 (pkL x Ao co Ab cb)) := Go.Lib.hid h1
  have H2 : Hid (Bxo W.drew (w.heap.size + 1) 33 (pkL pk0 none 0 none 0)) := Go.Lib.hid h2
  have hzd : W.drew.heap.size = w.heap.size + 2 := hz
  have hxd := hxo.at (show Below W.heap.size W W.drew from (Below.refl _ _).drew)
  clear h1 h2 hz hxo y0
  generalize W.drew = W1 at *
  have l1 : w.heap.size < W1.heap.size := by omega
  have l2 : w.heap.size + 1 < W1.heap.size := by omega
  have HO := Go.Lib.hid hxd.o
  have HBo := Go.Lib.hid hxd.b
  have HLT := Go.Lib.hid hxd.lt
  clear hxd
  have c9 := H1.out.cell 9 rfl
  have c10 := H1.out.cell 10 rfl
  refine wpAnyH_take (i := 0) (oi := ⟨some 3, _, _, _, _, _⟩) (v := ?_) rfl (by kernel_rfl) (by kernel_rfl) (by kernel_rfl) (fun _ _ _ h => h) (Or.inl ⟨by rfl, ?_⟩) (by assumption) ?_
  rotate_left
  · intro w hSw; (try dsimp only at hSw); go_simp; (try with_reducible rfl)
  try simp only [Act.put, List.setIfInBounds_toArray, List.set_cons_zero, List.set_cons_succ]
  refine wpAnyH_take (i := 3) (oi := ⟨some 6, _, _, _, _, _⟩) (v := ?_) rfl (by kernel_rfl) (by kernel_rfl) (by kernel_rfl) (fun _ _ _ h => h) (Or.inl ⟨by rfl, ?_⟩) (by assumption) ?_
  rotate_left
  · intro w hSw; (try dsimp only at hSw); go_simp; (try with_reducible rfl)
  try simp only [Act.put, List.setIfInBounds_toArray, List.set_cons_zero, List.set_cons_succ]
  refine wpAnyH_ready (rs := [1, 4]) (by kernel_rfl) (by simp) (AllReadyH.cons (o := ⟨some 4, _, _, _, _, _⟩) rfl (fun Kc hKc => ?_) (AllReadyH.cons (o := ⟨some 7, _, _, _, _, _⟩) rfl (fun Kc hKc => ?_) AllReadyH.nil))
  ·
    go_simp
    refine hKc.out _ _ (hHeld) (fun hHeld => ?_)
    clear hKc Kc
    try simp only [Act.put, List.setIfInBounds_toArray, List.set_cons_zero, List.set_cons_succ]
    refine wpAnyH_ready (rs := [2, 4]) (by kernel_rfl) (by simp) (AllReadyH.cons (o := ⟨some 5, _, _, _, _, _⟩) rfl (fun Kc hKc => ?_) (AllReadyH.cons (o := ⟨some 7, _, _, _, _, _⟩) rfl (fun Kc hKc => ?_) AllReadyH.nil))
    ·
      go_simp
      go_at_call 36; refine (ccloneV Ao _ co x.opts W1 V rfl HO.out HLT.out ho).mono ?_; rintro e w2 ⟨A2, c2, rfl, hb2, hf2, y2⟩; have HB2 := Go.Lib.hid hb2; have c10' := (H1.out.keep y2 l1).cell 10 rfl; dsimp only
      refine hKc.out _ _ (hHeld.trans (y2.mono hHeld.size)) (fun hHeld => ?_)
      clear hKc Kc
      try simp only [Act.put, List.setIfInBounds_toArray, List.set_cons_zero, List.set_cons_succ]
      refine wpAnyH_ready (rs := [4]) (by kernel_rfl) (by simp) (AllReadyH.cons (o := ⟨some 7, _, _, _, _, _⟩) rfl (fun Kc hKc => ?_) AllReadyH.nil)
      go_simp
      refine hKc.out _ _ (hHeld) (fun hHeld => ?_)
      clear hKc Kc
      try simp only [Act.put, List.setIfInBounds_toArray, List.set_cons_zero, List.set_cons_succ]
      refine wpAnyH_take (i := 6) (oi := ⟨some 9, _, _, _, _, _⟩) (v := ?_) rfl (by kernel_rfl) (by kernel_rfl) (by kernel_rfl) (fun _ _ _ h => h) (Or.inl ⟨by rfl, ?_⟩) (by assumption) ?_
      rotate_left
      · intro w hSw; (try dsimp only at hSw); go_simp; (try with_reducible rfl)
      try simp only [Act.put, List.setIfInBounds_toArray, List.set_cons_zero, List.set_cons_succ]
      refine wpAnyH_ready (rs := [5]) (by kernel_rfl) (by simp) (AllReadyH.cons (o := ⟨some 8, _, _, _, _, _⟩) rfl (fun Kc hKc => ?_) AllReadyH.nil)
      go_simp
      go_at_call 36; refine (ccloneV Ab _ cb x.body w2 V rfl (HBo.out.keep (KeepV.of y2 HLT.out)) (fun b h => Nat.lt_of_lt_of_le (HLT.out b h) y2.size) hb).mono ?_; rintro e w3 ⟨A3, c3, rfl, hb3, hf3, y3⟩; have HB3 := Go.Lib.hid hb3; have K1 := Go.Lib.hid ((H1.out.keep y2 l1).keep y3 (Nat.lt_of_lt_of_le l1 y2.size)); have K2 := Go.Lib.hid ((H2.out.keep y2 l2).keep y3 (Nat.lt_of_lt_of_le l2 y2.size)); dsimp only
      refine hKc.out _ _ (hHeld.trans (y3.mono hHeld.size)) (fun hHeld => ?_)
      clear hKc Kc
      try simp only [Act.put, List.setIfInBounds_toArray, List.set_cons_zero, List.set_cons_succ]
      refine wpAnyH_ready (rs := [7]) (by kernel_rfl) (by simp) (AllReadyH.cons (o := ⟨none, _, _, _, _, _⟩) rfl (fun Kc hKc => ?_) AllReadyH.nil)
      rw [if_pos (by rfl)]
      refine step_store_any 23 _ _ rfl w.heap.size 9 33 _ [.slice A2 x.opts.length c2] _ rfl rfl rfl K1.out info_bs (by show 9 + 1 ≤ 11; omega) (by simp [Value.oneCell']) ?_; intro w4 hb4 ho4; have K4 := Go.Lib.hid hb4; clear hb4
      refine hKc.out _ _ (hHeld.trans (ho4.below (Nat.le_refl _))) (fun hHeld => ?_)
      clear hKc Kc
      try simp only [Act.put, List.setIfInBounds_toArray, List.set_cons_zero, List.set_cons_succ]
      refine wpAnyH_take (i := 8) (oi := ⟨some 10, _, _, _, _, _⟩) (v := ?_) rfl (by kernel_rfl) (by kernel_rfl) (by kernel_rfl) (fun _ _ _ h => h) (Or.inl ⟨by rfl, ?_⟩) (by assumption) ?_
      rotate_left
      · intro w hSw; (try dsimp only at hSw); go_simp; (try with_reducible rfl)
      try simp only [Act.put, List.setIfInBounds_toArray, List.set_cons_zero, List.set_cons_succ]
      refine wpAnyH_ready (rs := [9]) (by kernel_rfl) (by simp) (AllReadyH.cons (o := ⟨none, _, _, _, _, _⟩) rfl (fun Kc hKc => ?_) AllReadyH.nil)
      rw [if_pos (by rfl)]
      refine step_store_any 23 _ _ rfl w.heap.size 10 33 _ [.slice A3 x.body.length c3] _ rfl rfl rfl K4.out info_bs (by show 10 + 1 ≤ 11; omega) (by simp [Value.oneCell']) ?_; intro w5 hb5 ho5; have K5 : Hid (Bxo w5 w.heap.size 33 (pkL x A2 c2 A3 c3)) := Go.Lib.hid hb5; clear hb5
      refine hKc.out _ _ (hHeld.trans (ho5.below (Nat.le_refl _))) (fun hHeld => ?_)
      clear hKc Kc
      try simp only [Act.put, List.setIfInBounds_toArray, List.set_cons_zero, List.set_cons_succ]
      refine wpAnyH_done (by kernel_rfl) ?_ _
      have y5 := Go.Lib.hid hHeld
      have KZ := Go.Lib.hid ((K2.out.only ho4 (by omega)).only ho5 (by omega))
      have z2 := y2.size
      have z3 := y3.size
      have LT2 := Go.Lib.hid (fun b h => Nat.lt_of_lt_of_le (HLT.out b h) z2)
      have HO5 := Go.Lib.hid (((HB2.out.call y3 LT2.out).only ho4 (by omega) HN1.out).only ho5 (by omega) HN1.out)
      have HB5 := Go.Lib.hid (((HB3.out.wide z2).only ho4 (by omega) HN1.out).only ho5 (by omega) HN1.out)
      clear hHeld
      go_wp2_with (first
        | (refine wpList_load_box rfl 33 _ rfl w.heap.size rfl (pkL x A2 c2 A3 c3) _ K5.out Try.underlying33 rfl info_pk ?_)
        | (refine wpList_store_box rfl 33 _ _ rfl (w.heap.size + 1) 0 33 _ (pkL x A2 c2 A3 c3) rfl rfl KZ.out info_pk (by show 0 + 11 ≤ 11; omega) (pk_one _ _ _ _ _) ?_; intro w6 hb6 ho6; have K6 : Hid (Bxo w6 (w.heap.size + 1) 33 (pkL x A2 c2 A3 c3)) := Go.Lib.hid hb6; clear hb6))
      have y6 := y5.out.trans (ho6.below (show w.heap.size ≤ w.heap.size + 1 by omega))
      have d0 := K6.out.cell 0 rfl
      have d1 := K6.out.cell 1 rfl
      have d2 := K6.out.cell 2 rfl
      have d3 := K6.out.cell 3 rfl
      have d4 := K6.out.cell 4 rfl
      have d5 := K6.out.cell 5 rfl
      have d6 := K6.out.cell 6 rfl
      have d7 := K6.out.cell 7 rfl
      have d8 := K6.out.cell 8 rfl
      have d9 := K6.out.cell 9 rfl
      have d10 := K6.out.cell 10 rfl
      refine bodyPost_ret (v := ipV x A2 c2 A3 c3) ?_ rfl ⟨A2, c2, A3, c3, rfl, ⟨HS.out.1, HS.out.2.1, HS.out.2.2.1, HS.out.2.2.2, (HO5.out.only ho6 (by omega) HN2.out).wide (by omega), (HB5.out.only ho6 (by omega) HN2.out).wide (by omega), grow_lt HV.out y6.size⟩, y6⟩
      simp [results, Try.results17, go_sem, d0, d1, d2, d3, d4, d5, d6, d7, d8, d9, d10]
    ·
      go_simp
      refine hKc.out _ _ (hHeld) (fun hHeld => ?_)
      clear hKc Kc
      try simp only [Act.put, List.setIfInBounds_toArray, List.set_cons_zero, List.set_cons_succ]
      refine wpAnyH_ready (rs := [2]) (by kernel_rfl) (by simp) (AllReadyH.cons (o := ⟨some 5, _, _, _, _, _⟩) rfl (fun Kc hKc => ?_) AllReadyH.nil)
      go_simp
      go_at_call 36; refine (ccloneV Ao _ co x.opts W1 V rfl HO.out HLT.out ho).mono ?_; rintro e w2 ⟨A2, c2, rfl, hb2, hf2, y2⟩; have HB2 := Go.Lib.hid hb2; have c10' := (H1.out.keep y2 l1).cell 10 rfl; dsimp only
      refine hKc.out _ _ (hHeld.trans (y2.mono hHeld.size)) (fun hHeld => ?_)
      clear hKc Kc
      try simp only [Act.put, List.setIfInBounds_toArray, List.set_cons_zero, List.set_cons_succ]
      refine wpAnyH_take (i := 6) (oi := ⟨some 9, _, _, _, _, _⟩) (v := ?_) rfl (by kernel_rfl) (by kernel_rfl) (by kernel_rfl) (fun _ _ _ h => h) (Or.inl ⟨by rfl, ?_⟩) (by assumption) ?_
      rotate_left
      · intro w hSw; (try dsimp only at hSw); go_simp; (try with_reducible rfl)
      try simp only [Act.put, List.setIfInBounds_toArray, List.set_cons_zero, List.set_cons_succ]
      refine wpAnyH_ready (rs := [5]) (by kernel_rfl) (by simp) (AllReadyH.cons (o := ⟨some 8, _, _, _, _, _⟩) rfl (fun Kc hKc => ?_) AllReadyH.nil)
      go_simp
      go_at_call 36; refine (ccloneV Ab _ cb x.body w2 V rfl (HBo.out.keep (KeepV.of y2 HLT.out)) (fun b h => Nat.lt_of_lt_of_le (HLT.out b h) y2.size) hb).mono ?_; rintro e w3 ⟨A3, c3, rfl, hb3, hf3, y3⟩; have HB3 := Go.Lib.hid hb3; have K1 := Go.Lib.hid ((H1.out.keep y2 l1).keep y3 (Nat.lt_of_lt_of_le l1 y2.size)); have K2 := Go.Lib.hid ((H2.out.keep y2 l2).keep y3 (Nat.lt_of_lt_of_le l2 y2.size)); dsimp only
      refine hKc.out _ _ (hHeld.trans (y3.mono hHeld.size)) (fun hHeld => ?_)
      clear hKc Kc
      try simp only [Act.put, List.setIfInBounds_toArray, List.set_cons_zero, List.set_cons_succ]
      refine wpAnyH_ready (rs := [7]) (by kernel_rfl) (by simp) (AllReadyH.cons (o := ⟨none, _, _, _, _, _⟩) rfl (fun Kc hKc => ?_) AllReadyH.nil)
      rw [if_pos (by rfl)]
      refine step_store_any 23 _ _ rfl w.heap.size 9 33 _ [.slice A2 x.opts.length c2] _ rfl rfl rfl K1.out info_bs (by show 9 + 1 ≤ 11; omega) (by simp [Value.oneCell']) ?_; intro w4 hb4 ho4; have K4 := Go.Lib.hid hb4; clear hb4
      refine hKc.out _ _ (hHeld.trans (ho4.below (Nat.le_refl _))) (fun hHeld => ?_)
      clear hKc Kc
      try simp only [Act.put, List.setIfInBounds_toArray, List.set_cons_zero, List.set_cons_succ]
      refine wpAnyH_take (i := 8) (oi := ⟨some 10, _, _, _, _, _⟩) (v := ?_) rfl (by kernel_rfl) (by kernel_rfl) (by kernel_rfl) (fun _ _ _ h => h) (Or.inl ⟨by rfl, ?_⟩) (by assumption) ?_
      rotate_left
      · intro w hSw; (try dsimp only at hSw); go_simp; (try with_reducible rfl)
      try simp only [Act.put, List.setIfInBounds_toArray, List.set_cons_zero, List.set_cons_succ]
      refine wpAnyH_ready (rs := [9]) (by kernel_rfl) (by simp) (AllReadyH.cons (o := ⟨none, _, _, _, _, _⟩) rfl (fun Kc hKc => ?_) AllReadyH.nil)
      rw [if_pos (by rfl)]
      refine step_store_any 23 _ _ rfl w.heap.size 10 33 _ [.slice A3 x.body.length c3] _ rfl rfl rfl K4.out info_bs (by show 10 + 1 ≤ 11; omega) (by simp [Value.oneCell']) ?_; intro w5 hb5 ho5; have K5 : Hid (Bxo w5 w.heap.size 33 (pkL x A2 c2 A3 c3)) := Go.Lib.hid hb5; clear hb5
      refine hKc.out _ _ (hHeld.trans (ho5.below (Nat.le_refl _))) (fun hHeld => ?_)
      clear hKc Kc
      try simp only [Act.put, List.setIfInBounds_toArray, List.set_cons_zero, List.set_cons_succ]
      refine wpAnyH_done (by kernel_rfl) ?_ _
      have y5 := Go.Lib.hid hHeld
      have KZ := Go.Lib.hid ((K2.out.only ho4 (by omega)).only ho5 (by omega))
      have z2 := y2.size
      have z3 := y3.size
      have LT2 := Go.Lib.hid (fun b h => Nat.lt_of_lt_of_le (HLT.out b h) z2)
      have HO5 := Go.Lib.hid (((HB2.out.call y3 LT2.out).only ho4 (by omega) HN1.out).only ho5 (by omega) HN1.out)
      have HB5 := Go.Lib.hid (((HB3.out.wide z2).only ho4 (by omega) HN1.out).only ho5 (by omega) HN1.out)
      clear hHeld
      go_wp2_with (first
        | (refine wpList_load_box rfl 33 _ rfl w.heap.size rfl (pkL x A2 c2 A3 c3) _ K5.out Try.underlying33 rfl info_pk ?_)
        | (refine wpList_store_box rfl 33 _ _ rfl (w.heap.size + 1) 0 33 _ (pkL x A2 c2 A3 c3) rfl rfl KZ.out info_pk (by show 0 + 11 ≤ 11; omega) (pk_one _ _ _ _ _) ?_; intro w6 hb6 ho6; have K6 : Hid (Bxo w6 (w.heap.size + 1) 33 (pkL x A2 c2 A3 c3)) := Go.Lib.hid hb6; clear hb6))
      have y6 := y5.out.trans (ho6.below (show w.heap.size ≤ w.heap.size + 1 by omega))
      have d0 := K6.out.cell 0 rfl
      have d1 := K6.out.cell 1 rfl
      have d2 := K6.out.cell 2 rfl
      have d3 := K6.out.cell 3 rfl
      have d4 := K6.out.cell 4 rfl
      have d5 := K6.out.cell 5 rfl
      have d6 := K6.out.cell 6 rfl
      have d7 := K6.out.cell 7 rfl
      have d8 := K6.out.cell 8 rfl
      have d9 := K6.out.cell 9 rfl
      have d10 := K6.out.cell 10 rfl
      refine bodyPost_ret (v := ipV x A2 c2 A3 c3) ?_ rfl ⟨A2, c2, A3, c3, rfl, ⟨HS.out.1, HS.out.2.1, HS.out.2.2.1, HS.out.2.2.2, (HO5.out.only ho6 (by omega) HN2.out).wide (by omega), (HB5.out.only ho6 (by omega) HN2.out).wide (by omega), grow_lt HV.out y6.size⟩, y6⟩
      simp [results, Try.results17, go_sem, d0, d1, d2, d3, d4, d5, d6, d7, d8, d9, d10]
  ·
    go_simp
    refine hKc.out _ _ (hHeld) (fun hHeld => ?_)
    clear hKc Kc
    try simp only [Act.put, List.setIfInBounds_toArray, List.set_cons_zero, List.set_cons_succ]
    refine wpAnyH_ready (rs := [1]) (by kernel_rfl) (by simp) (AllReadyH.cons (o := ⟨some 4, _, _, _, _, _⟩) rfl (fun Kc hKc => ?_) AllReadyH.nil)
    go_simp
    refine hKc.out _ _ (hHeld) (fun hHeld => ?_)
    clear hKc Kc
    try simp only [Act.put, List.setIfInBounds_toArray, List.set_cons_zero, List.set_cons_succ]
    refine wpAnyH_ready (rs := [2]) (by kernel_rfl) (by simp) (AllReadyH.cons (o := ⟨some 5, _, _, _, _, _⟩) rfl (fun Kc hKc => ?_) AllReadyH.nil)
    go_simp
    go_at_call 36; refine (ccloneV Ao _ co x.opts W1 V rfl HO.out HLT.out ho).mono ?_; rintro e w2 ⟨A2, c2, rfl, hb2, hf2, y2⟩; have HB2 := Go.Lib.hid hb2; have c10' := (H1.out.keep y2 l1).cell 10 rfl; dsimp only
    refine hKc.out _ _ (hHeld.trans (y2.mono hHeld.size)) (fun hHeld => ?_)
    clear hKc Kc
    try simp only [Act.put, List.setIfInBounds_toArray, List.set_cons_zero, List.set_cons_succ]
    refine wpAnyH_take (i := 6) (oi := ⟨some 9, _, _, _, _, _⟩) (v := ?_) rfl (by kernel_rfl) (by kernel_rfl) (by kernel_rfl) (fun _ _ _ h => h) (Or.inl ⟨by rfl, ?_⟩) (by assumption) ?_
    rotate_left
    · intro w hSw; (try dsimp only at hSw); go_simp; (try with_reducible rfl)
    try simp only [Act.put, List.setIfInBounds_toArray, List.set_cons_zero, List.set_cons_succ]
    refine wpAnyH_ready (rs := [5]) (by kernel_rfl) (by simp) (AllReadyH.cons (o := ⟨some 8, _, _, _, _, _⟩) rfl (fun Kc hKc => ?_) AllReadyH.nil)
    go_simp
    go_at_call 36; refine (ccloneV Ab _ cb x.body w2 V rfl (HBo.out.keep (KeepV.of y2 HLT.out)) (fun b h => Nat.lt_of_lt_of_le (HLT.out b h) y2.size) hb).mono ?_; rintro e w3 ⟨A3, c3, rfl, hb3, hf3, y3⟩; have HB3 := Go.Lib.hid hb3; have K1 := Go.Lib.hid ((H1.out.keep y2 l1).keep y3 (Nat.lt_of_lt_of_le l1 y2.size)); have K2 := Go.Lib.hid ((H2.out.keep y2 l2).keep y3 (Nat.lt_of_lt_of_le l2 y2.size)); dsimp only
    refine hKc.out _ _ (hHeld.trans (y3.mono hHeld.size)) (fun hHeld => ?_)
    clear hKc Kc
    try simp only [Act.put, List.setIfInBounds_toArray, List.set_cons_zero, List.set_cons_succ]
    refine wpAnyH_ready (rs := [7]) (by kernel_rfl) (by simp) (AllReadyH.cons (o := ⟨none, _, _, _, _, _⟩) rfl (fun Kc hKc => ?_) AllReadyH.nil)
    rw [if_pos (by rfl)]
    refine step_store_any 23 _ _ rfl w.heap.size 9 33 _ [.slice A2 x.opts.length c2] _ rfl rfl rfl K1.out info_bs (by show 9 + 1 ≤ 11; omega) (by simp [Value.oneCell']) ?_; intro w4 hb4 ho4; have K4 := Go.Lib.hid hb4; clear hb4
    refine hKc.out _ _ (hHeld.trans (ho4.below (Nat.le_refl _))) (fun hHeld => ?_)
    clear hKc Kc
    try simp only [Act.put, List.setIfInBounds_toArray, List.set_cons_zero, List.set_cons_succ]
    refine wpAnyH_take (i := 8) (oi := ⟨some 10, _, _, _, _, _⟩) (v := ?_) rfl (by kernel_rfl) (by kernel_rfl) (by kernel_rfl) (fun _ _ _ h => h) (Or.inl ⟨by rfl, ?_⟩) (by assumption) ?_
    rotate_left
    · intro w hSw; (try dsimp only at hSw); go_simp; (try with_reducible rfl)
    try simp only [Act.put, List.setIfInBounds_toArray, List.set_cons_zero, List.set_cons_succ]
    refine wpAnyH_ready (rs := [9]) (by kernel_rfl) (by simp) (AllReadyH.cons (o := ⟨none, _, _, _, _, _⟩) rfl (fun Kc hKc => ?_) AllReadyH.nil)
    rw [if_pos (by rfl)]
    refine step_store_any 23 _ _ rfl w.heap.size 10 33 _ [.slice A3 x.body.length c3] _ rfl rfl rfl K4.out info_bs (by show 10 + 1 ≤ 11; omega) (by simp [Value.oneCell']) ?_; intro w5 hb5 ho5; have K5 : Hid (Bxo w5 w.heap.size 33 (pkL x A2 c2 A3 c3)) := Go.Lib.hid hb5; clear hb5
    refine hKc.out _ _ (hHeld.trans (ho5.below (Nat.le_refl _))) (fun hHeld => ?_)
    clear hKc Kc
    try simp only [Act.put, List.setIfInBounds_toArray, List.set_cons_zero, List.set_cons_succ]
    refine wpAnyH_done (by kernel_rfl) ?_ _
    have y5 := Go.Lib.hid hHeld
    have KZ := Go.Lib.hid ((K2.out.only ho4 (by omega)).only ho5 (by omega))
    have z2 := y2.size
    have z3 := y3.size
    have LT2 := Go.Lib.hid (fun b h => Nat.lt_of_lt_of_le (HLT.out b h) z2)
    have HO5 := Go.Lib.hid (((HB2.out.call y3 LT2.out).only ho4 (by omega) HN1.out).only ho5 (by omega) HN1.out)
    have HB5 := Go.Lib.hid (((HB3.out.wide z2).only ho4 (by omega) HN1.out).only ho5 (by omega) HN1.out)
    clear hHeld
    go_wp2_with (first
      | (refine wpList_load_box rfl 33 _ rfl w.heap.size rfl (pkL x A2 c2 A3 c3) _ K5.out Try.underlying33 rfl info_pk ?_)
      | (refine wpList_store_box rfl 33 _ _ rfl (w.heap.size + 1) 0 33 _ (pkL x A2 c2 A3 c3) rfl rfl KZ.out info_pk (by show 0 + 11 ≤ 11; omega) (pk_one _ _ _ _ _) ?_; intro w6 hb6 ho6; have K6 : Hid (Bxo w6 (w.heap.size + 1) 33 (pkL x A2 c2 A3 c3)) := Go.Lib.hid hb6; clear hb6))
    have y6 := y5.out.trans (ho6.below (show w.heap.size ≤ w.heap.size + 1 by omega))
    have d0 := K6.out.cell 0 rfl
    have d1 := K6.out.cell 1 rfl
    have d2 := K6.out.cell 2 rfl
    have d3 := K6.out.cell 3 rfl
    have d4 := K6.out.cell 4 rfl
    have d5 := K6.out.cell 5 rfl
    have d6 := K6.out.cell 6 rfl
    have d7 := K6.out.cell 7 rfl
    have d8 := K6.out.cell 8 rfl
    have d9 := K6.out.cell 9 rfl
    have d10 := K6.out.cell 10 rfl
    refine bodyPost_ret (v := ipV x A2 c2 A3 c3) ?_ rfl ⟨A2, c2, A3, c3, rfl, ⟨HS.out.1, HS.out.2.1, HS.out.2.2.1, HS.out.2.2.2, (HO5.out.only ho6 (by omega) HN2.out).wide (by omega), (HB5.out.only ho6 (by omega) HN2.out).wide (by omega), grow_lt HV.out y6.size⟩, y6⟩
    simp [results, Try.results17, go_sem, d0, d1, d2, d3, d4, d5, d6, d7, d8, d9, d10]
end Go.Proofs.Ythejakbjekjhjaa
