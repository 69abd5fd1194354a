/- Lemmas of layer 7, several texts in one. -/
import Derived.Test.YthejakbjekjhjaaQ18
import Derived.Test.YthejakbjekjhjaaQ11
/- The pool's row where a packet is put back in, where one is appended. -/
namespace Go.Proofs.Ythejakbjekjhjaa
open Go.ChangeShapes Go.WideShapes Go.ChangeAt Go.RowKit
set_option linter.unusedVariables false
set_option linter.unusedSimpArgs false

theorem get_set {α : Type} {es : List α} {e : α} {k : Nat} : ∀ j f, (es.set k e)[j]? = some f → (j = k ∧ f = e) ∨ (j ≠ k ∧ es[j]? = some f) := fun j f hj => by
  rw [List.getElem?_set] at hj
  split at hj
  · rename_i hjk
    first
      | (injection hj with hj; exact .inl ⟨hjk.symm, hj.symm⟩)
      | (split at hj
         · injection hj with hj; exact .inl ⟨hjk.symm, hj.symm⟩
         · cases hj)
  · rename_i hjk; exact .inr ⟨fun e => hjk e.symm, hj⟩
theorem OwnPo.apart {w : World} {base : Nat} {D : Nat → Prop} {A : Option Addr} {c : Nat} {es : List El} (h : OwnPo w base D A c es) {i j : Nat} {a b : El} (ha : es[i]? = some a) (hb : es[j]? = some b) (hne : i ≠ j) : ∀ g, blk a.Ar = some g → blk b.Ar ≠ some g := fun g h1 h2 => by
  have hd := List.pairwise_iff_getElem.1 h.dis
  obtain ⟨hi, rfl⟩ := List.getElem?_eq_some_iff.1 ha
  obtain ⟨hj, rfl⟩ := List.getElem?_eq_some_iff.1 hb
  rcases Nat.lt_or_gt_of_ne hne with hlt | hlt
  · exact hd i j hi hj hlt g h1 h2
  · exact hd j i hj hi hlt g h2 h1
/-- the packet at a place is another now. -/
theorem OwnPo.put {w w10 w11 : World} {base : Nat} {D D' : Nat → Prop} {gL c k : Nat} {es : List El} {e e' : El} {rs' : List Er} (h : OwnPo w base D (some ⟨gL, 0, none⟩) c es) (he : es[k]? = some e) (hel : ElAt w10 base D' e' rs') (hg : w.grownBy w10 (blk e.Ar)) (hDD : ∀ b, D b → D' b) (hDD2 : ∀ b, D' b → D b ∨ (w.heap.size ≤ b ∧ b < w10.heap.size)) (hde' : ∀ g, blk e'.Ar = some g → ¬ D' g) (hAr : blk e'.Ar = blk e.Ar ∨ ∀ g, blk e'.Ar = some g → w.heap.size ≤ g) (hrow : OwnB w11 base (some ⟨gL, 0, none⟩) c (es.set k e')) (ho : Only gL w10 w11) : OwnPo w11 base D' (some ⟨gL, 0, none⟩) c (es.set k e') := by
  obtain ⟨gL', e1, hL1, hL2⟩ := (own_addr h.row).resolve_left (by rintro ⟨h, _⟩; cases h)
  injection e1 with e1
  injection e1 with e1
  subst e1
  have s10 := hg.size
  have s11 := ho.size
  have hm := List.mem_of_getElem? he
  have hDne : ∀ b, D' b → b ≠ gL := fun b hb e => by
    rcases hDD2 b hb with h1 | h1
    · exact h.dl gL rfl (e ▸ h1)
    · omega
  have hArne : ∀ g, blk e'.Ar = some g → g ≠ gL := fun g hg' e2 => by
    rcases hAr with h1 | h1
    · exact (h.de e hm g (h1 ▸ hg')).2 (by rw [e2]; rfl)
    · have := h1 g hg'; omega
  have hold : ∀ b, b < w.heap.size → b ≠ gL → blk e.Ar ≠ some b → w11.heap[b]? = w.heap[b]? := fun b h1 h2 h3 => (ho.block b h2).trans (hg.block b h1 (fun e => h3 e.symm))
  have hDw : ∀ b, D b → w11.heap[b]? = w.heap[b]? := fun b hb => hold b (h.lt b hb) (fun e => h.dl gL rfl (e ▸ hb)) (fun e2 => (h.de e hm b e2).1 hb)
  have hoth : ∀ j f, j ≠ k → es[j]? = some f → ∀ g, blk f.Ar = some g → g < w.heap.size ∧ g ≠ gL ∧ blk e.Ar ≠ some g ∧ ¬ D g := fun j f hj hf g hg' =>
    ⟨h.rlt f (List.mem_of_getElem? hf) g hg', fun e2 => (h.de f (List.mem_of_getElem? hf) g hg').2 (by rw [e2]; rfl), h.apart hf he hj g hg', (h.de f (List.mem_of_getElem? hf) g hg').1⟩
  have hcase : ∀ f, f ∈ es.set k e' → f = e' ∨ ∃ j, j ≠ k ∧ es[j]? = some f := fun f hf => by
    obtain ⟨j, hj⟩ := List.getElem?_of_mem hf
    rcases get_set j f hj with ⟨_, h1⟩ | ⟨h1, h2⟩
    · exact .inl h1
    · exact .inr ⟨j, h1, h2⟩
  refine ⟨hrow, ?_, fun g hg' hd => ?_, ?_, ?_, fun b hb => ?_⟩
  · intro f hf
    rcases hcase f hf with rfl | ⟨j, hj, hf'⟩
    · exact ⟨rs', hel.keep (fun b hb => ho.block b (hDne b hb)) (fun g hg' => ho.block g (hArne g hg'))⟩
    · obtain ⟨rs, hr⟩ := h.els f (List.mem_of_getElem? hf')
      exact ⟨rs, (hr.keep hDw (fun g hg' => by obtain ⟨a, b, c, _⟩ := hoth j f hj hf' g hg'; exact hold g a b c)).more hDD (Nat.le_refl _)⟩
  · injection hg' with hg'
    exact hDne g hd hg'.symm
  · intro f hf g hg'
    rcases hcase f hf with rfl | ⟨j, hj, hf'⟩
    · exact ⟨hde' g hg', fun e2 => by injection e2 with e2; exact hArne g hg' e2.symm⟩
    · obtain ⟨a, b, c', d⟩ := hoth j f hj hf' g hg'
      refine ⟨fun hd => ?_, fun e2 => by injection e2 with e2; exact b e2.symm⟩
      rcases hDD2 g hd with h1 | h1
      · exact d h1
      · omega
  · rw [List.pairwise_iff_getElem]
    intro i j hi hj hij g hg' hg2
    rcases get_set i _ (List.getElem?_eq_getElem hi) with ⟨h1, h2⟩ | ⟨h1, h2⟩ <;> rcases get_set j _ (List.getElem?_eq_getElem hj) with ⟨h3, h4⟩ | ⟨h3, h4⟩
    · omega
    · rw [h2] at hg'
      obtain ⟨a, b, c', d⟩ := hoth j _ h3 h4 g hg2
      rcases hAr with h5 | h5
      · exact c' (h5 ▸ hg')
      · have := h5 g hg'; omega
    · rw [h4] at hg2
      obtain ⟨a, b, c', d⟩ := hoth i _ h1 h2 g hg'
      rcases hAr with h5 | h5
      · exact c' (h5 ▸ hg2)
      · have := h5 g hg2; omega
    · exact h.apart h2 h4 (by omega) g hg' hg2
  · rcases hDD2 b hb with h1 | h1
    · have := h.lt b h1; omega
    · omega
section
variable {w wx w10 w11 : World} {V D D' : Nat → Prop} {base c co cb gL k : Nat} {x : Pk} {Ao Ab : Option Addr} {p p' : Po} {es : List El} {e e' : El} {rs' : List Er}
theorem TkS.put (h : TkS w V base x Ao co Ab cb wx p (some ⟨gL, 0, none⟩) c es D) (he : es[k]? = some e) (hel : ElAt w10 base D' e' rs') (hg : wx.grownBy w10 (blk e.Ar)) (hDD : ∀ b, D b → D' b) (hDD2 : ∀ b, D' b → D b ∨ (wx.heap.size ≤ b ∧ b < w10.heap.size)) (hde' : ∀ g, blk e'.Ar = some g → ¬ D' g) (hAr : blk e'.Ar = blk e.Ar ∨ ∀ g, blk e'.Ar = some g → wx.heap.size ≤ g) (hrow : OwnB w11 base (some ⟨gL, 0, none⟩) c (es.set k e')) (ho : Only gL w10 w11)
    (hm : (es.set k e').map El.b = p'.list) (hr : p'.room = p.room) (hl : p'.life = p.life) (hn : p'.now = p.now) : TkS w V base x Ao co Ab cb w11 p' (some ⟨gL, 0, none⟩) c (es.set k e') D' := by
  have hO := h.own.put he hel hg hDD hDD2 hde' hAr hrow ho
  obtain ⟨gL', e1, hL1, hL2⟩ := (own_addr h.own.row).resolve_left (by rintro ⟨h, _⟩; cases h)
  injection e1 with e1
  injection e1 with e1
  subst e1
  have s10 := hg.size
  have s11 := ho.size
  have z0 := h.bel.size
  have b0 := h.b0
  have b1 := h.b1
  have hme := List.mem_of_getElem? he
  have hArb : ∀ g, blk e.Ar = some g → base ≤ g := fun g hg' => by
    obtain ⟨rs, hr⟩ := h.own.els e hme
    rcases own_addr hr.row with ⟨hn', _⟩ | ⟨g2, hg2, h1, h2⟩
    · rw [hn'] at hg'; cases hg'
    · rw [hg2] at hg'; injection hg' with hg'; have hg' : g2 = g := hg'; omega
  have hold : ∀ b, b < base → w11.heap[b]? = wx.heap[b]? := fun b hb => (ho.block b (by omega)).trans (hg.block b (by omega) (fun e2 => by have := hArb b e2.symm; omega))
  have hlen : p'.list.length = p.list.length := by rw [← hm, List.length_map, List.length_set, ← h.map, List.length_map]
  have hb2 : poL p' (some ⟨gL, 0, none⟩) c = poL p (some ⟨gL, 0, none⟩) c := by
    show [_, _, _, _] = [_, _, _, _]
    rw [hr, hl, hn, hlen]
  exact ⟨(hold _ (by omega)).trans (by rw [hb2]; exact h.b2), (hold _ (by omega)).trans h.b3, (hold _ (by omega)).trans h.b4, (hold _ (by omega)).trans h.b5, hO, hm, fun b hb => by
      rcases hDD2 b hb with h1 | h1
      · exact (h.dv b h1).imp_right (fun k => ⟨k.1, by omega⟩)
      · exact .inr ⟨by omega, by omega⟩, h.vlt, ⟨h.pk.s0, h.pk.s1, h.pk.d0, h.pk.d1, h.pk.o.keepH (fun b hb => hold b (by have := h.vlt b hb; omega)), h.pk.b.keepH (fun b hb => hold b (by have := h.vlt b hb; omega)), fun b hb => by have := h.pk.lt b hb; omega⟩,
      ⟨ho.os.trans (hg.os.trans h.bel.os), ho.tape.trans (hg.tape.trans h.bel.tape), ho.output.trans (hg.output.trans h.bel.output), by omega, fun b hb => (hold b (by omega)).trans (h.bel.block b hb)⟩, b0, by omega⟩
end
end Go.Proofs.Ythejakbjekjhjaa

/- The end of package reasm's Take. -/
namespace Go.Proofs.Ythejakbjekjhjaa
open Go.ChangeShapes Go.WideShapes Go.ChangeAt Go.RowKit
set_option linter.unusedVariables false
set_option linter.unusedSimpArgs false

theorem with_map {p : Po} (h : RightP p) {x : Pk} {es : List El} {k : Nat} (hmap : es.map El.b = p.list) (hkf : findB p.list (nmX x) = k) (hkl : k < p.list.length) {e' : El} (he' : e'.b = joinB (ownP p x) x) : (es.set k e').map El.b = (withP p x).list := by
  subst hkf
  rw [with_there h hkl, List.map_set, hmap, he', (find_some hkl).2.2]
theorem OwnB.cur {w : World} {base gL c k : Nat} {es : List El} (h : OwnB w base (some ⟨gL, 0, none⟩) c es) (hk : k < es.length) (e' : El) : ∃ cur, Bxo w gL 42 cur ∧ k * 19 + 19 ≤ cur.length ∧ ∀ w', Bxo w' gL 42 (spl cur (k * 19) e'.L) → OwnB w' base (some ⟨gL, 0, none⟩) c (es.set k e') := by
  obtain ⟨cur, a1, a2, a3, a4, a5, a6, a7⟩ := own_open h
  refine ⟨cur, a1, by omega, fun w' hb => ?_⟩
  have := own_spl h a1 (vs := e'.L) (o := k * 19) (by show k * 19 + 19 ≤ es.length * 19; omega) hb
  rw [spl_flat El.L 19 El.len es k e' hk] at this
  unfold OwnB
  rw [List.length_set]
  exact this
theorem ctakeOutE (p : Po) (gL c k : Nat) (es : List El) (base : Nat) (D : Nat → Prop) (w : World) (e : El) (he : es[k]? = some e) (hO : OwnPo w base D (some ⟨gL, 0, none⟩) c es) (hp : es.map El.b = p.list) (hn : es.length ≤ 16777216) (hbase : base ≤ w.heap.size)
    (hR : RunsOk e.b.total 0 e.b.runs) (ht1 : e.b.total ≤ 65535) (ho : e.b.head.opts.length ≤ 40) (t : Tk) (htk : tkO p k e.b = t) :
    Calls Try.prog 25 #[poV p (some ⟨gL, 0, none⟩) c, .int .i64 k] w fun z w' => ∃ A' c' Ao co Ab cb, z = .returned (.tuple #[poV t.pool A' c', ipV t.out Ao co Ab cb, .bool t.ok, .int .i64 t.err]) ∧ OutAt w' base D t A' c' Ao co Ab cb ∧ Below base w w' := by
  obtain ⟨hk, rfl⟩ := List.getElem?_eq_some_iff.1 he
  exact ctakeOut p gL c k es base D w hO hp hk hn hbase hR ht1 ho t htk
section
variable {w wx w7 w5 w6 : World} {V D : Nat → Prop} {base c co cb c' co' cb' : Nat} {x : Pk} {A Ao Ab A' Ao' Ab' : Option Addr} {p : Po} {es : List El} {t : Tk}
theorem TkS.out (h : TkS w V base x Ao co Ab cb wx p A c es D) (ho : OutAt w7 base D t A' c' Ao' co' Ab' cb') (y : Below base wx w7) (h5 : Only (w.heap.size + 2) w7 w5) (h6 : Only (w.heap.size + 3) w5 w6) : PoAt w6 (growV V w w6) t.pool A' c' ∧ PkAt w6 (growV V w w6) t.out Ao' co' Ab' cb' ∧ Below w.heap.size w w6 := by
  have s7 := y.size
  have s5 := h5.size
  have s6 := h6.size
  have z0 := h.bel.size
  have b0 := h.b0
  have b1 := h.b1
  have lt : ∀ b, growV V w w6 b → b < w6.heap.size := fun b hb => hb.elim (fun k => by have := h.vlt b k; omega) (fun k => k.2)
  have hU : ∀ b, (D b ∨ (base ≤ b ∧ b < w7.heap.size)) → growV V w w6 b ∧ b ≠ w.heap.size + 2 ∧ b ≠ w.heap.size + 3 := fun b hb => by
    rcases hb with k | k
    · rcases h.dv b k with k2 | k2
      · have := h.vlt b k2; exact ⟨.inl k2, by omega, by omega⟩
      · exact ⟨.inr ⟨by omega, by omega⟩, by omega, by omega⟩
    · exact ⟨.inr ⟨by omega, by omega⟩, by omega, by omega⟩
  have hh : ∀ b, (D b ∨ (base ≤ b ∧ b < w7.heap.size)) → w6.heap[b]? = w7.heap[b]? := fun b hb => (h6.block b (hU b hb).2.2).trans (h5.block b (hU b hb).2.1)
  have kv : KeepV (fun b => D b ∨ (base ≤ b ∧ b < w7.heap.size)) w7 w6 := fun q hq => World.cell?_of_block (hh _ hq)
  obtain ⟨hp, hk⟩ := ho
  refine ⟨⟨(hp.is.keep kv).more (fun b hb => (hU b hb).1), lt⟩, ⟨hk.s0, hk.s1, hk.d0, hk.d1, (hk.o.keepH hh).more (fun b hb => (hU b hb).1), (hk.b.keepH hh).more (fun b hb => (hU b hb).1), lt⟩, ((h.bel.trans (y.mono (by omega))).trans (h5.below (by omega))).trans (h6.below (by omega))⟩
end
/-- ahead of Take's end: the document's answer is the code's. -/
theorem take_code {p : Po} (h : RightP p) {x : Pk} (hm : May x) (hl : x.body.length ≠ 0) (hp : ¬ (x.mf = false ∧ x.off = 0)) (k : ¬ (rightP p = false ∨ mayB x = false ∨ x.body.length = 0)) (hc : clashB (ownP p x) x = false) (hf : ¬ ((thereP p x = false ∧ 64 ≤ p.list.length) ∨ p.room < (heldP p : Int) + (x.body.length : Int))) : takeP p x = tkO (withP p x) (findB p.list (nmX x)) (joinB (ownP p x) x) := by
  rw [take_rest hp k hc hf, take_end h hm (by omega) hc]
end Go.Proofs.Ythejakbjekjhjaa

/- The pool's row where a packet is begun. -/
namespace Go.Proofs.Ythejakbjekjhjaa
open Go.ChangeShapes Go.WideShapes Go.ChangeAt Go.RowKit
set_option linter.unusedVariables false
set_option linter.unusedSimpArgs false

theorem step_append_own {P : Program} {op : Oper} {a : Act} {w : World} {K : Act → World → Prop} {Q : Exit → Act → World → Prop} (s x : Operand) (t : TypeId)
    (ho : op.op = .call { callee := .builtin .append, args := #[s, x], argTypes := #[t, t] })
    (base : Nat) (e : TypeId) (i : TypeInfo) (z : Value) (k bytes : Nat) (ht : P.underlying t = some (.slice e)) (hi : P.info? e = some i) (hz : i.zero = some z)
    (hsize : i.size = k) (hby : i.bytes = bytes) (hzs : z.cells.size = k) (hk : 0 < k)
    (v : Value) (n : Nat) (xs : List Value) (hs : a.eval s = v) (hown : w.ownsRow base e k v n xs)
    (ad : Addr) (m c : Nat) (news : List Value) (hx : a.eval x = .slice (some ad) m c) (hl : news.length = m * k) (hnews : ∀ j u, news[j]? = some u → w.cell? (ad.add j) = some u) (h1 : ∀ u ∈ news, u.oneCell' = true)
    (h63 : n + m ≤ maxLen) (hbytes : (n + m) * bytes ≤ 140737488355328) (hbase : base ≤ w.heap.size)
    (h : ∀ v' w', w'.ownsRow base e k v' (n + m) (xs ++ news) → w.grownBy w' v.ownBlock → (v'.ownBlock = v.ownBlock ∨ v'.ownBlock = some w.heap.size) → K (a.put op.dst v') w') : op.wp P a w K Q := by
  obtain ⟨v', w', hr, h2, h3, h4, h5⟩ := run_append_own_at (P := P) w base t op.type e i z k bytes ht hi hz hsize hby hzs hk v n xs hown ad m c news hl hnews h1 h63 hbytes hbase
  unfold Oper.wp execOp
  simp only [ho, resolve, invoke, builtin, Sem.run_bind, Sem.run_pure, Result.andThen_ok, List.map_toArray, List.map_cons, List.map_nil, hs, hx, hr]
  exact h v' w' h2 h3 h5
theorem PkAt.keepB2 {w w' : World} {V : Nat → Prop} {x : Pk} {A : Option Addr} {c : Nat} {A' : Option Addr} {c' : Nat} (h : PkAt w V x A c A' c') (hk : ∀ b, V b → w'.heap[b]? = w.heap[b]?) (hs : w.heap.size ≤ w'.heap.size) : PkAt w' V x A c A' c' :=
  ⟨h.s0, h.s1, h.d0, h.d1, h.o.keepH hk, h.b.keepH hk, fun b hb => Nat.lt_of_lt_of_le (h.lt b hb) hs⟩
abbrev begE (p : Po) (x : Pk) : El := ⟨newB p x, none, 0, none, 0, none, 0⟩
abbrev begP (p : Po) (x : Pk) : Po := ⟨p.room, p.life, p.now, p.list ++ [newB p x]⟩
section
variable {w wx w12 w13 : World} {V D : Nat → Prop} {base c co cb c' : Nat} {x : Pk} {A A' Ao Ab : Option Addr} {p : Po} {es : List El}
theorem TkS.push (h : TkS w V base x Ao co Ab cb wx p A c es D) (hrow : w12.ownsRow base 42 19 (.slice A' (es.length + 1) c') (es.length + 1) (es.flatMap El.L ++ (begE p x).L)) (hg : wx.grownBy w12 (blk A)) (hat : blk A' = blk A ∨ blk A' = some wx.heap.size) (ho : Only w.heap.size w12 w13) (hb : Bxo w13 w.heap.size 27 (poL (begP p x) A' c')) : TkS w V base x Ao co Ab cb w13 (begP p x) A' c' (es ++ [begE p x]) D := by
  have s12 := hg.size
  have s13 := ho.size
  have z0 := h.bel.size
  have b0 := h.b0
  have b1 := h.b1
  have hAg : ∀ g, blk A = some g → base ≤ g ∧ g < wx.heap.size := fun g hg' => by
    rcases own_addr h.own.row with ⟨hn', _⟩ | ⟨g2, hg2, h1, h2⟩
    · rw [hn'] at hg'; cases hg'
    · rw [hg2] at hg'; injection hg' with hg'; have hg' : g2 = g := hg'; omega
  have hA'g : ∀ g, blk A' = some g → base ≤ g := fun g hg' => by
    rcases hat with h1 | h1
    · exact (hAg g (h1 ▸ hg')).1
    · rw [h1] at hg'; injection hg' with hg'; omega
  have hold : ∀ b, b < wx.heap.size → b ≠ w.heap.size → blk A ≠ some b → w13.heap[b]? = wx.heap[b]? := fun b h1 h2 h3 => (ho.block b h2).trans (hg.block b h1 (fun e => h3 e.symm))
  have hlow : ∀ b, b < base → b ≠ w.heap.size → w13.heap[b]? = wx.heap[b]? := fun b h1 h2 => hold b (by omega) h2 (fun e => by have := hAg b e; omega)
  have hDs : ∀ b, D b → b ≠ w.heap.size := fun b hb => (h.dv b hb).elim (fun k => by have := h.vlt b k; omega) (fun k => by omega)
  have hDw : ∀ b, D b → w13.heap[b]? = wx.heap[b]? := fun b hb => hold b (h.own.lt b hb) (hDs b hb) (fun e => h.own.dl b e hb)
  have hAr : ∀ e ∈ es, ∀ g, blk e.Ar = some g → base ≤ g := fun e he g hg' => by
    obtain ⟨rs, hr⟩ := h.own.els e he
    rcases own_addr hr.row with ⟨hn', _⟩ | ⟨g2, hg2, h1, h2⟩
    · rw [hn'] at hg'; cases hg'
    · rw [hg2] at hg'; injection hg' with hg'; have hg' : g2 = g := hg'; omega
  have hO : OwnPo w13 base D A' c' (es ++ [begE p x]) := by
    refine ⟨?_, ?_, ?_, ?_, ?_, fun b hb => by have := h.own.lt b hb; omega⟩
    · have h2 := own_keepA hrow (w' := w13) (fun g hg' => ho.block g (by have := hA'g g hg'; omega))
      unfold OwnB
      rw [List.length_append, List.flatMap_append]
      simpa using h2
    · intro e he
      rcases List.mem_append.1 he with he | he
      · obtain ⟨rs, hr⟩ := h.own.els e he
        exact ⟨rs, hr.keep hDw (fun g hg' => hold g (h.own.rlt e he g hg') (by have := hAr e he g hg'; omega) (h.own.de e he g hg').2)⟩
      · obtain rfl := List.mem_singleton.1 he
        exact ⟨[], h.pk.s0, h.pk.s1, h.pk.d0, h.pk.d1, (by show (0 : Int) ≤ 0; omega), (by show (0 : Int) ≤ 4294967295; omega), (by show (0 : Int) ≤ 0; omega), (by show (0 : Int) ≤ 4294967295; omega), ⟨Nat.zero_le _, Nat.zero_le _, fun _ => rfl, .inl rfl⟩, ⟨Nat.zero_le _, Nat.zero_le _, fun _ => rfl, .inl rfl⟩, rfl, own_none _ _ _ _, fun r hr => by cases hr⟩
    · intro g hg' hd
      rcases hat with h1 | h1
      · exact h.own.dl g (h1 ▸ hg') hd
      · rw [h1] at hg'; injection hg' with hg'; have := h.own.lt g hd; omega
    · intro e he g hg'
      rcases List.mem_append.1 he with he | he
      · refine ⟨(h.own.de e he g hg').1, fun e2 => ?_⟩
        rcases hat with h1 | h1
        · exact (h.own.de e he g hg').2 (h1 ▸ e2)
        · rw [h1] at e2; injection e2 with e2; have := h.own.rlt e he g hg'; omega
      · obtain rfl := List.mem_singleton.1 he
        cases hg'
    · rw [List.pairwise_append]
      refine ⟨h.own.dis, List.pairwise_singleton _ _, fun a ha b hb g h1 h2 => ?_⟩
      obtain rfl := List.mem_singleton.1 hb
      cases h2
  refine ⟨hb, (hlow _ (by omega) (by omega)).trans h.b3, (hlow _ (by omega) (by omega)).trans h.b4, (hlow _ (by omega) (by omega)).trans h.b5, hO, ?_, fun b hb => (h.dv b hb).imp_right (fun k => ⟨k.1, by omega⟩), h.vlt, ?_, ?_, b0, by omega⟩
  · show (es ++ [begE p x]).map El.b = p.list ++ [newB p x]
    rw [List.map_append, h.map]; rfl
  · exact h.pk.keepB2 (fun b hb => hlow b (by have := h.vlt b hb; omega) (by have := h.vlt b hb; omega)) (by omega)
  · exact ⟨ho.os.trans (hg.os.trans h.bel.os), ho.tape.trans (hg.tape.trans h.bel.tape), ho.output.trans (hg.output.trans h.bel.output), by omega, fun b hb => (hlow b (by omega) (by omega)).trans (h.bel.block b hb)⟩
end
theorem with_map_new {p : Po} {x : Pk} {es : List El} {k : Nat} (hmap : es.map El.b = p.list) (hkf : findB p.list (nmX x) = k) (hkl : ¬ k < p.list.length) {e' : El} (he' : e'.b = joinB (newB p x) x) : ((es ++ [begE p x]).set k e').map El.b = (withP p x).list := by
  subst hkf
  obtain ⟨a, b, c, d⟩ := find_no hkl
  rw [with_new hkl, List.map_set, List.map_append, hmap, he', c]
  simp
end Go.Proofs.Ythejakbjekjhjaa

/- Steps whose new block has a name: an alloc, a row of eight zero bytes; what stays behind a store into a block of its own. -/
namespace Go.Proofs.Ythejakbjekjhjaa
open Go.ChangeShapes Go.WideShapes Go.ChangeAt Go.RowKit
set_option linter.unusedVariables false
set_option linter.unusedSimpArgs false

theorem info_zpo : (Try.prog.info? 27).map (·.zero) = some (some (.agg #[.int .i64 0, .int .i64 0, .int .i64 0, .slice none 0 0])) := by kernel_rfl
theorem info_zpk : (Try.prog.info? 33).map (·.zero) = some (some (.agg #[.int .i64 0, .int .i64 0, .bool false, .bool false, .int .i64 0, .int .i64 0, .int .i64 0, .int .u32 0, .int .u32 0, .slice none 0 0, .slice none 0 0])) := by kernel_rfl
theorem zero_of {P : Program} {ty : TypeId} {z : Value} (h : (P.info? ty).map (·.zero) = some (some z)) (w : World) : (zeroValue ty).run P w = .ok z w := by
  obtain ⟨i, hi, hz⟩ := Option.map_eq_some_iff.1 h
  simp [zeroValue, typeInfo, hi, hz]
theorem step_alloc {P : Program} {op : Oper} {a : Act} {w : World} {K : Act → World → Prop} {Q : Exit → Act → World → Prop} (ty : TypeId) (ho : op.op = .alloc ty) (z : List Value) (hz : (P.info? ty).map (·.zero) = some (some (.agg z.toArray)))
    (h : ∀ g w', (g ≤ w.heap.size ∧ w.heap.size ≤ g) → Bxo w' g ty z → Below w.heap.size w w' → (w'.heap.size ≤ w.heap.size + 1 ∧ w.heap.size + 1 ≤ w'.heap.size) → K (a.put op.dst (.pointer (some ⟨g, 0, none⟩))) w') : op.wp P a w K Q := by
  have hr : (Instr.alloc ty true (.tuple #[])).run P w = .ok (.pointer (some ⟨w.heap.size, 0, none⟩)) (w.alloc (.cells z.toArray ty)) := by
    simp [Instr.alloc, zero_of hz, newVar, newRow, Value.cells]
  unfold Oper.wp execOp
  simp only [ho, Sem.run_bind, Sem.run_pure, Result.andThen_ok, hr]
  exact h _ _ ⟨Nat.le_refl _, Nat.le_refl _⟩ (Bxo.made w ty z) ((Below.refl _ _).alloc (Nat.le_refl _) _) (by simp)
theorem step_make8 {P : Program} {op : Oper} {a : Act} {w : World} {K : Act → World → Prop} {Q : Exit → Act → World → Prop} (t e : TypeId) (x y : Operand) (ho : op.op = .makeSlice t x y) (hx : a.eval x = .int .i64 8) (hy : a.eval y = .int .i64 8)
    (ht : P.underlying t = some (.slice e)) (hz : (P.info? e).map (fun i => (i.zero, i.size, i.bytes)) = some (some (.int .u8 0), 1, 1))
    (h : ∀ g w', (g ≤ w.heap.size ∧ w.heap.size ≤ g) → Bxo w' g e [.int .u8 0, .int .u8 0, .int .u8 0, .int .u8 0, .int .u8 0, .int .u8 0, .int .u8 0, .int .u8 0] → Below w.heap.size w w' → (w'.heap.size ≤ w.heap.size + 1 ∧ w.heap.size + 1 ≤ w'.heap.size) → K (a.put op.dst (.slice (some ⟨g, 0, none⟩) 8 8)) w') : op.wp P a w K Q := by
  obtain ⟨i0, hi, hz0, hz1, hz2⟩ := info_parts hz
  have hr := run_make (P := P) w t e i0 _ ht hi hz0 .i64 .i64 8 8 (by omega) (by omega) (by rw [hz2]; decide) (by omega)
  unfold Oper.wp execOp
  simp only [ho, hx, hy, Sem.run_bind, Sem.run_pure, Result.andThen_ok, hr]
  refine h _ _ ⟨Nat.le_refl _, Nat.le_refl _⟩ ?_ ((Below.refl _ _).alloc (Nat.le_refl _) _) (by simp)
  have hm : madeCells (Value.int .u8 0).cells (Int.toNat 8 * i0.size) = #[.int .u8 0, .int .u8 0, .int .u8 0, .int .u8 0, .int .u8 0, .int .u8 0, .int .u8 0, .int .u8 0] := by rw [hz1]; first | kernel_rfl | (simp [madeCells, Value.cells, Array.range, Array.ofFn, List.range]; done) | (apply Array.ext (by simp [madeCells]); intro i h1 h2; simp [madeCells, Value.cells]; omega)
  rw [hm]
  exact Bxo.made w e _
section
variable {w w' : World} {V : Nat → Prop} {p : Po} {A Ao Ab : Option Addr} {c co cb g : Nat} {x : Pk}
theorem KeepV.only (ho : Only g w w') (hn : ¬ V g) : KeepV V w w' := fun q hq => World.cell?_of_block (ho.block _ (fun e => hn (e ▸ hq)))
theorem PoAt.only (h : PoAt w V p A c) (ho : Only g w w') (hn : ¬ V g) : PoAt w' V p A c := ⟨h.is.keep (KeepV.only ho hn), fun b hb => by have := h.lt b hb; have := ho.size; omega⟩
theorem PkAt.only (h : PkAt w V x Ao co Ab cb) (ho : Only g w w') (hn : ¬ V g) : PkAt w' V x Ao co Ab cb := ⟨h.s0, h.s1, h.d0, h.d1, h.o.keep (KeepV.only ho hn), h.b.keep (KeepV.only ho hn), fun b hb => by have := h.lt b hb; have := ho.size; omega⟩
end
/-- behind 'n, x, ok, e := Take(..)': both results in boxes of their own. -/
structure TkD (W : World) (U : Nat → Prop) (t : Tk) (g9 g10 : Nat) (A : Option Addr) (c : Nat) (Ao : Option Addr) (co : Nat) (Ab : Option Addr) (cb : Nat) (U' : Nat → Prop) (Y : World) : Prop where
  bel : Below W.heap.size W Y
  b9 : Bxo Y g9 27 (poL t.pool A c)
  b10 : Bxo Y g10 33 (pkL t.out Ao co Ab cb)
  po : PoAt Y U' t.pool A c
  pk : PkAt Y U' t.out Ao co Ab cb
  l9 : W.heap.size ≤ g9
  l10 : W.heap.size ≤ g10
  ne : g9 ≠ g10
  n9 : ¬ U' g9
  n10 : ¬ U' g10
  up : ∀ b, U' b → U b ∨ W.heap.size ≤ b
theorem TkD.drew {W : World} {U : Nat → Prop} {t : Tk} {g9 g10 : Nat} {A : Option Addr} {c : Nat} {Ao : Option Addr} {co : Nat} {Ab : Option Addr} {cb : Nat} {U' : Nat → Prop} {Y : World} (h : TkD W U t g9 g10 A c Ao co Ab cb U' Y) : TkD W U t g9 g10 A c Ao co Ab cb U' Y.drew :=
  ⟨below_drew h.bel, h.b9, h.b10, h.po.at (below_drew (Below.refl _ _)), h.pk.at (below_drew (Below.refl _ _)), h.l9, h.l10, h.ne, h.n9, h.n10, h.up⟩
end Go.Proofs.Ythejakbjekjhjaa

/- The contract of package reasm's clashes: a closure, handed to slices.ContainsFunc. -/
namespace Go.Proofs.Ythejakbjekjhjaa
open Go.ChangeShapes Go.WideShapes Go.ChangeAt Go.RowKit
set_option linter.unusedVariables false
set_option linter.unusedSimpArgs false

/-- a run that clashes with a piece from off to stop, the last one or not. -/
def clR (r : Rn) (off stop : Int) (mf : Bool) : Bool := (decide (r.off < stop) && decide (off < stopR r)) || (!mf && decide (stop < stopR r))
set_option maxRecDepth 100000 in
set_option maxHeartbeats 8000000 in
theorem cclash1 (r : Rn) (Ad : Option Addr) (cd : Nat) (ge gx : Nat) (off stop : Int) (mf : Bool) (q : Bool) (hq : clR r off stop mf = q) (w : World) (he : w.cell? ⟨ge, 0, none⟩ = some (.int .i64 stop)) (h4 : w.cell? ⟨gx, 4, none⟩ = some (.int .i64 off)) (h3 : w.cell? ⟨gx, 3, none⟩ = some (.bool mf))
    (s0 : -9223372036854775808 ≤ stopR r) (s1 : stopR r ≤ 9223372036854775807) :
    Calls Try.prog 39 #[rnV r Ad cd, .pointer (some ⟨ge, 0, none⟩), .pointer (some ⟨gx, 0, none⟩)] w fun e w' => e = .returned (.bool q) ∧ Below w.heap.size w w' := by
  have HQ := Go.Lib.hid hq
  have b0 : Below w.heap.size w (w.alloc (oRn r Ad cd)) := (Below.refl _ _).alloc (Nat.le_refl _) _
  have lge := World.block_lt_of_cell? w _ he
  have lgx := World.block_lt_of_cell? w _ h4
  have HR := Go.Lib.hid (BoRn.made (w := w) (r := r) (Ad := Ad) (cd := cd))
  have sR : w.heap.size < (w.alloc (oRn r Ad cd)).heap.size := by simp
  have HE := Go.Lib.hid ((b0.cell (p := ⟨ge, 0, none⟩) lge).trans he)
  have H4 := Go.Lib.hid ((b0.cell (p := ⟨gx, 4, none⟩) lgx).trans h4)
  have H3 := Go.Lib.hid ((b0.cell (p := ⟨gx, 3, none⟩) lgx).trans h3)
  clear he h4 h3 hq
  go_enter Try.func39, Try.ntmps39
  go_upto_region 1 with fail
  generalize w.alloc (oRn r Ad cd) = W at *
  have lge : ge < W.heap.size := Nat.lt_trans lge sR
  have lgx : gx < W.heap.size := Nat.lt_trans lgx sR
  generalize hst : stopR r = st at *
  have HST := Go.Lib.hid hst
  clear hst
  by_cases h1 : r.off < stop
  · by_cases h2 : off < st
    · 
      try simp only [Act.put, List.setIfInBounds_toArray, List.set_cons_zero, List.set_cons_succ]
      refine wp_region_held_drew (S := fun Y => Below W.heap.size W Y) (by kernel_rfl) ?_ (fun hHeld => ?_)
      · exact below_drew (Below.refl _ _)
      refine wpAnyH_take (i := 0) (oi := ⟨some 6, _, _, _, _, _⟩) (v := ?_) rfl (by kernel_rfl) (by kernel_rfl) (by kernel_rfl) (fun _ _ _ h => h) (Or.inl ⟨by rfl, ?_⟩) (by assumption) ?_
      rotate_left
      · intro w hSw; (try dsimp only at hSw); go_simp; (try with_reducible rfl)
      try simp only [Act.put, List.setIfInBounds_toArray, List.set_cons_zero, List.set_cons_succ]
      refine wpAnyH_take (i := 1) (oi := ⟨some 7, _, _, _, _, _⟩) (v := ?_) rfl (by kernel_rfl) (by kernel_rfl) (by kernel_rfl) (fun _ _ _ h => h) (Or.inl ⟨by rfl, ?_⟩) (by assumption) ?_
      rotate_left
      · intro w hSw; obtain ⟨d0, d1⟩ := (HR.out.keep hSw sR).cells; (try dsimp only at hSw); go_simp; (try with_reducible rfl)
      try simp only [Act.put, List.setIfInBounds_toArray, List.set_cons_zero, List.set_cons_succ]
      refine wpAnyH_take (i := 2) (oi := ⟨some 8, _, _, _, _, _⟩) (v := ?_) rfl (by kernel_rfl) (by kernel_rfl) (by kernel_rfl) (fun _ _ _ h => h) (Or.inl ⟨by rfl, ?_⟩) (by assumption) ?_
      rotate_left
      · intro w hSw; have ce := (hSw.cell (p := ⟨ge, 0, none⟩) lge).trans HE.out; (try dsimp only at hSw); go_simp; (try with_reducible rfl)
      try simp only [Act.put, List.setIfInBounds_toArray, List.set_cons_zero, List.set_cons_succ]
      refine wpAnyH_take (i := 3) (oi := ⟨some 9, _, _, _, _, _⟩) (v := ?_) rfl (by kernel_rfl) (by kernel_rfl) (by kernel_rfl) (fun _ _ _ h => h) (Or.inl ⟨by rfl, ?_⟩) (by assumption) ?_
      rotate_left
      · intro w hSw; (try dsimp only at hSw); go_simp; (try with_reducible rfl)
      try simp only [Act.put, List.setIfInBounds_toArray, List.set_cons_zero, List.set_cons_succ]
      refine wpAnyH_take (i := 4) (oi := ⟨some 10, _, _, _, _, _⟩) (v := ?_) rfl (by kernel_rfl) (by kernel_rfl) (by kernel_rfl) (fun _ _ _ h => h) (Or.inl ⟨by rfl, ?_⟩) (by assumption) ?_
      rotate_left
      · intro w hSw; (try dsimp only at hSw); go_simp; (try with_reducible rfl)
      try simp only [Act.put, List.setIfInBounds_toArray, List.set_cons_zero, List.set_cons_succ]
      refine wpAnyH_take (i := 5) (oi := ⟨some 11, _, _, _, _, _⟩) (v := ?_) rfl (by kernel_rfl) (by kernel_rfl) (by kernel_rfl) (fun _ _ _ h => h) (Or.inl ⟨by rfl, ?_⟩) (by assumption) ?_
      rotate_left
      · intro w hSw; (try dsimp only at hSw); go_simp; (try with_reducible rfl)
      try simp only [Act.put, List.setIfInBounds_toArray, List.set_cons_zero, List.set_cons_succ]
      refine wpAnyH_take (i := 6) (oi := ⟨some 12, _, _, _, _, _⟩) (v := ?_) rfl (by kernel_rfl) (by kernel_rfl) (by kernel_rfl) (fun _ _ _ h => h) (Or.inl ⟨by rfl, ?_⟩) (by assumption) ?_
      rotate_left
      · intro w hSw; have c4 := (hSw.cell (p := ⟨gx, 4, none⟩) lgx).trans H4.out; (try dsimp only at hSw); go_simp; (try with_reducible rfl)
      try simp only [Act.put, List.setIfInBounds_toArray, List.set_cons_zero, List.set_cons_succ]
      refine wpAnyH_take (i := 7) (oi := ⟨some 13, _, _, _, _, _⟩) (v := ?_) rfl (by kernel_rfl) (by kernel_rfl) (by kernel_rfl) (fun _ _ _ h => h) (Or.inl ⟨by rfl, ?_⟩) (by assumption) ?_
      rotate_left
      · intro w hSw; obtain ⟨d0, d1⟩ := (HR.out.keep hSw sR).cells; (try dsimp only at hSw); go_simp; (try with_reducible rfl)
      try simp only [Act.put, List.setIfInBounds_toArray, List.set_cons_zero, List.set_cons_succ]
      refine wpAnyH_ready (rs := [8]) (by kernel_rfl) (by simp) (AllReadyH.cons (o := ⟨some 14, _, _, _, _, _⟩) rfl (fun Kc hKc => ?_) AllReadyH.nil)
      go_simp
      go_at_call 40; refine (cendOf r Ad cd _ st HST.out (by omega) (by omega)).mono ?_; rintro e w' ⟨rfl, hcall⟩; dsimp only
      refine hKc.out _ _ (hHeld.trans (hcall.mono hHeld.size)) (fun hHeld => ?_)
      clear hKc Kc
      try simp only [Act.put, List.setIfInBounds_toArray, List.set_cons_zero, List.set_cons_succ]
      refine wpAnyH_take (i := 9) (oi := ⟨some 15, _, _, _, _, _⟩) (v := ?_) rfl (by kernel_rfl) (by kernel_rfl) (by kernel_rfl) (fun _ _ _ h => h) (Or.inl ⟨by rfl, ?_⟩) (by assumption) ?_
      rotate_left
      · intro w hSw; (try dsimp only at hSw); go_simp; (try with_reducible rfl)
      try simp only [Act.put, List.setIfInBounds_toArray, List.set_cons_zero, List.set_cons_succ]
      refine wpAnyH_take (i := 10) (oi := ⟨some 16, _, _, _, _, _⟩) (v := ?_) rfl (by kernel_rfl) (by kernel_rfl) (by kernel_rfl) (fun _ _ _ h => h) (Or.inl ⟨by rfl, ?_⟩) (by assumption) ?_
      rotate_left
      · intro w hSw; (try dsimp only at hSw); go_simp; (try with_reducible rfl)
      try simp only [Act.put, List.setIfInBounds_toArray, List.set_cons_zero, List.set_cons_succ]
      refine wpAnyH_take (i := 11) (oi := ⟨some 5, _, _, _, _, _⟩) (v := ?_) rfl (by kernel_rfl) (by kernel_rfl) (by kernel_rfl) (fun _ _ _ h => h) (Or.inl ⟨by rfl, ?_⟩) (by assumption) ?_
      rotate_left
      · intro w hSw; (try dsimp only at hSw); go_simp; (try with_reducible rfl)
      try simp only [Act.put, List.setIfInBounds_toArray, List.set_cons_zero, List.set_cons_succ]
      refine wpAnyH_done (by kernel_rfl) ?_ _
      have hW := hHeld
      clear hHeld
      go_upto_region 2 with fail
      generalize hw1 : w' = w1 at *
      clear hw1
      try simp only [Act.put, List.setIfInBounds_toArray, List.set_cons_zero, List.set_cons_succ]
      refine wp_region_held_drew (S := fun Y => Below w1.heap.size w1 Y) (by kernel_rfl) ?_ (fun hHeld => ?_)
      · exact below_drew (Below.refl _ _)
      refine wpAnyH_take (i := 0) (oi := ⟨some 17, _, _, _, _, _⟩) (v := ?_) rfl (by kernel_rfl) (by kernel_rfl) (by kernel_rfl) (fun _ _ _ h => h) (Or.inl ⟨by rfl, ?_⟩) (by assumption) ?_
      rotate_left
      · intro w hSw; (try dsimp only at hSw); go_simp; (try with_reducible rfl)
      try simp only [Act.put, List.setIfInBounds_toArray, List.set_cons_zero, List.set_cons_succ]
      refine wpAnyH_take (i := 1) (oi := ⟨some 18, _, _, _, _, _⟩) (v := ?_) rfl (by kernel_rfl) (by kernel_rfl) (by kernel_rfl) (fun _ _ _ h => h) (Or.inl ⟨by rfl, ?_⟩) (by assumption) ?_
      rotate_left
      · intro w hSw; (try dsimp only at hSw); go_simp; (try with_reducible rfl)
      try simp only [Act.put, List.setIfInBounds_toArray, List.set_cons_zero, List.set_cons_succ]
      refine wpAnyH_take (i := 2) (oi := ⟨some 19, _, _, _, _, _⟩) (v := undef) rfl (by kernel_rfl) (by kernel_rfl) (by kernel_rfl) (fun _ _ _ h => h) (Or.inr ⟨by rfl, rfl⟩) (by assumption) ?_
      try simp only [Act.put, List.setIfInBounds_toArray, List.set_cons_zero, List.set_cons_succ]
      refine wpAnyH_take (i := 3) (oi := ⟨some 20, _, _, _, _, _⟩) (v := undef) rfl (by kernel_rfl) (by kernel_rfl) (by kernel_rfl) (fun _ _ _ h => h) (Or.inr ⟨by rfl, rfl⟩) (by assumption) ?_
      try simp only [Act.put, List.setIfInBounds_toArray, List.set_cons_zero, List.set_cons_succ]
      refine wpAnyH_take (i := 4) (oi := ⟨some 21, _, _, _, _, _⟩) (v := undef) rfl (by kernel_rfl) (by kernel_rfl) (by kernel_rfl) (fun _ _ _ h => h) (Or.inr ⟨by rfl, rfl⟩) (by assumption) ?_
      try simp only [Act.put, List.setIfInBounds_toArray, List.set_cons_zero, List.set_cons_succ]
      refine wpAnyH_take (i := 5) (oi := ⟨some 22, _, _, _, _, _⟩) (v := undef) rfl (by kernel_rfl) (by kernel_rfl) (by kernel_rfl) (fun _ _ _ h => h) (Or.inr ⟨by rfl, rfl⟩) (by assumption) ?_
      try simp only [Act.put, List.setIfInBounds_toArray, List.set_cons_zero, List.set_cons_succ]
      refine wpAnyH_take (i := 6) (oi := ⟨some 23, _, _, _, _, _⟩) (v := undef) rfl (by kernel_rfl) (by kernel_rfl) (by kernel_rfl) (fun _ _ _ h => h) (Or.inr ⟨by rfl, rfl⟩) (by assumption) ?_
      try simp only [Act.put, List.setIfInBounds_toArray, List.set_cons_zero, List.set_cons_succ]
      refine wpAnyH_take (i := 7) (oi := ⟨some 24, _, _, _, _, _⟩) (v := undef) rfl (by kernel_rfl) (by kernel_rfl) (by kernel_rfl) (fun _ _ _ h => h) (Or.inr ⟨by rfl, rfl⟩) (by assumption) ?_
      try simp only [Act.put, List.setIfInBounds_toArray, List.set_cons_zero, List.set_cons_succ]
      refine wpAnyH_take (i := 8) (oi := ⟨some 25, _, _, _, _, _⟩) (v := undef) rfl (by kernel_rfl) (by kernel_rfl) (by kernel_rfl) (fun _ _ _ h => h) (Or.inr ⟨by rfl, rfl⟩) (by assumption) ?_
      try simp only [Act.put, List.setIfInBounds_toArray, List.set_cons_zero, List.set_cons_succ]
      refine wpAnyH_take (i := 9) (oi := ⟨some 26, _, _, _, _, _⟩) (v := undef) rfl (by kernel_rfl) (by kernel_rfl) (by kernel_rfl) (fun _ _ _ h => h) (Or.inr ⟨by rfl, rfl⟩) (by assumption) ?_
      try simp only [Act.put, List.setIfInBounds_toArray, List.set_cons_zero, List.set_cons_succ]
      refine wpAnyH_take (i := 10) (oi := ⟨some 27, _, _, _, _, _⟩) (v := undef) rfl (by kernel_rfl) (by kernel_rfl) (by kernel_rfl) (fun _ _ _ h => h) (Or.inr ⟨by rfl, rfl⟩) (by assumption) ?_
      try simp only [Act.put, List.setIfInBounds_toArray, List.set_cons_zero, List.set_cons_succ]
      refine wpAnyH_take (i := 11) (oi := ⟨some 28, _, _, _, _, _⟩) (v := ?_) rfl (by kernel_rfl) (by kernel_rfl) (by kernel_rfl) (fun _ _ _ h => h) (Or.inl ⟨by rfl, ?_⟩) (by assumption) ?_
      rotate_left
      · intro w hSw; (try dsimp only at hSw); go_simp; (try with_reducible rfl)
      try simp only [Act.put, List.setIfInBounds_toArray, List.set_cons_zero, List.set_cons_succ]
      refine wpAnyH_take (i := 12) (oi := ⟨some 4, _, _, _, _, _⟩) (v := ?_) rfl (by kernel_rfl) (by kernel_rfl) (by kernel_rfl) (fun _ _ _ h => h) (Or.inl ⟨by rfl, ?_⟩) (by assumption) ?_
      rotate_left
      · intro w hSw; (try dsimp only at hSw); go_simp; (try with_reducible rfl)
      try simp only [Act.put, List.setIfInBounds_toArray, List.set_cons_zero, List.set_cons_succ]
      refine wpAnyH_done (by kernel_rfl) ?_ _
      have yF := hW.trans (hHeld.mono hW.size)
      clear hHeld
      go_wp2
      go_ret
      exact ⟨ret_bool (by rw [← HQ.out]; unfold clR; rw [HST.out]; first | (simp [*]; done) | (simp [*]; omega)), b0.trans (yF.mono b0.size)⟩
    ·
      try simp only [Act.put, List.setIfInBounds_toArray, List.set_cons_zero, List.set_cons_succ]
      refine wp_region_held_drew (S := fun Y => Below W.heap.size W Y) (by kernel_rfl) ?_ (fun hHeld => ?_)
      · exact below_drew (Below.refl _ _)
      refine wpAnyH_take (i := 0) (oi := ⟨some 6, _, _, _, _, _⟩) (v := ?_) rfl (by kernel_rfl) (by kernel_rfl) (by kernel_rfl) (fun _ _ _ h => h) (Or.inl ⟨by rfl, ?_⟩) (by assumption) ?_
      rotate_left
      · intro w hSw; (try dsimp only at hSw); go_simp; (try with_reducible rfl)
      try simp only [Act.put, List.setIfInBounds_toArray, List.set_cons_zero, List.set_cons_succ]
      refine wpAnyH_take (i := 1) (oi := ⟨some 7, _, _, _, _, _⟩) (v := ?_) rfl (by kernel_rfl) (by kernel_rfl) (by kernel_rfl) (fun _ _ _ h => h) (Or.inl ⟨by rfl, ?_⟩) (by assumption) ?_
      rotate_left
      · intro w hSw; obtain ⟨d0, d1⟩ := (HR.out.keep hSw sR).cells; (try dsimp only at hSw); go_simp; (try with_reducible rfl)
      try simp only [Act.put, List.setIfInBounds_toArray, List.set_cons_zero, List.set_cons_succ]
      refine wpAnyH_take (i := 2) (oi := ⟨some 8, _, _, _, _, _⟩) (v := ?_) rfl (by kernel_rfl) (by kernel_rfl) (by kernel_rfl) (fun _ _ _ h => h) (Or.inl ⟨by rfl, ?_⟩) (by assumption) ?_
      rotate_left
      · intro w hSw; have ce := (hSw.cell (p := ⟨ge, 0, none⟩) lge).trans HE.out; (try dsimp only at hSw); go_simp; (try with_reducible rfl)
      try simp only [Act.put, List.setIfInBounds_toArray, List.set_cons_zero, List.set_cons_succ]
      refine wpAnyH_take (i := 3) (oi := ⟨some 9, _, _, _, _, _⟩) (v := ?_) rfl (by kernel_rfl) (by kernel_rfl) (by kernel_rfl) (fun _ _ _ h => h) (Or.inl ⟨by rfl, ?_⟩) (by assumption) ?_
      rotate_left
      · intro w hSw; (try dsimp only at hSw); go_simp; (try with_reducible rfl)
      try simp only [Act.put, List.setIfInBounds_toArray, List.set_cons_zero, List.set_cons_succ]
      refine wpAnyH_take (i := 4) (oi := ⟨some 10, _, _, _, _, _⟩) (v := ?_) rfl (by kernel_rfl) (by kernel_rfl) (by kernel_rfl) (fun _ _ _ h => h) (Or.inl ⟨by rfl, ?_⟩) (by assumption) ?_
      rotate_left
      · intro w hSw; (try dsimp only at hSw); go_simp; (try with_reducible rfl)
      try simp only [Act.put, List.setIfInBounds_toArray, List.set_cons_zero, List.set_cons_succ]
      refine wpAnyH_take (i := 5) (oi := ⟨some 11, _, _, _, _, _⟩) (v := ?_) rfl (by kernel_rfl) (by kernel_rfl) (by kernel_rfl) (fun _ _ _ h => h) (Or.inl ⟨by rfl, ?_⟩) (by assumption) ?_
      rotate_left
      · intro w hSw; (try dsimp only at hSw); go_simp; (try with_reducible rfl)
      try simp only [Act.put, List.setIfInBounds_toArray, List.set_cons_zero, List.set_cons_succ]
      refine wpAnyH_take (i := 6) (oi := ⟨some 12, _, _, _, _, _⟩) (v := ?_) rfl (by kernel_rfl) (by kernel_rfl) (by kernel_rfl) (fun _ _ _ h => h) (Or.inl ⟨by rfl, ?_⟩) (by assumption) ?_
      rotate_left
      · intro w hSw; have c4 := (hSw.cell (p := ⟨gx, 4, none⟩) lgx).trans H4.out; (try dsimp only at hSw); go_simp; (try with_reducible rfl)
      try simp only [Act.put, List.setIfInBounds_toArray, List.set_cons_zero, List.set_cons_succ]
      refine wpAnyH_take (i := 7) (oi := ⟨some 13, _, _, _, _, _⟩) (v := ?_) rfl (by kernel_rfl) (by kernel_rfl) (by kernel_rfl) (fun _ _ _ h => h) (Or.inl ⟨by rfl, ?_⟩) (by assumption) ?_
      rotate_left
      · intro w hSw; obtain ⟨d0, d1⟩ := (HR.out.keep hSw sR).cells; (try dsimp only at hSw); go_simp; (try with_reducible rfl)
      try simp only [Act.put, List.setIfInBounds_toArray, List.set_cons_zero, List.set_cons_succ]
      refine wpAnyH_ready (rs := [8]) (by kernel_rfl) (by simp) (AllReadyH.cons (o := ⟨some 14, _, _, _, _, _⟩) rfl (fun Kc hKc => ?_) AllReadyH.nil)
      go_simp
      go_at_call 40; refine (cendOf r Ad cd _ st HST.out (by omega) (by omega)).mono ?_; rintro e w' ⟨rfl, hcall⟩; dsimp only
      refine hKc.out _ _ (hHeld.trans (hcall.mono hHeld.size)) (fun hHeld => ?_)
      clear hKc Kc
      try simp only [Act.put, List.setIfInBounds_toArray, List.set_cons_zero, List.set_cons_succ]
      refine wpAnyH_take (i := 9) (oi := ⟨some 15, _, _, _, _, _⟩) (v := ?_) rfl (by kernel_rfl) (by kernel_rfl) (by kernel_rfl) (fun _ _ _ h => h) (Or.inl ⟨by rfl, ?_⟩) (by assumption) ?_
      rotate_left
      · intro w hSw; (try dsimp only at hSw); go_simp; (try with_reducible rfl)
      try simp only [Act.put, List.setIfInBounds_toArray, List.set_cons_zero, List.set_cons_succ]
      refine wpAnyH_take (i := 10) (oi := ⟨some 16, _, _, _, _, _⟩) (v := ?_) rfl (by kernel_rfl) (by kernel_rfl) (by kernel_rfl) (fun _ _ _ h => h) (Or.inl ⟨by rfl, ?_⟩) (by assumption) ?_
      rotate_left
      · intro w hSw; (try dsimp only at hSw); go_simp; (try with_reducible rfl)
      try simp only [Act.put, List.setIfInBounds_toArray, List.set_cons_zero, List.set_cons_succ]
      refine wpAnyH_take (i := 11) (oi := ⟨some 5, _, _, _, _, _⟩) (v := ?_) rfl (by kernel_rfl) (by kernel_rfl) (by kernel_rfl) (fun _ _ _ h => h) (Or.inl ⟨by rfl, ?_⟩) (by assumption) ?_
      rotate_left
      · intro w hSw; (try dsimp only at hSw); go_simp; (try with_reducible rfl)
      try simp only [Act.put, List.setIfInBounds_toArray, List.set_cons_zero, List.set_cons_succ]
      refine wpAnyH_done (by kernel_rfl) ?_ _
      have hW := hHeld
      clear hHeld
      go_upto_region 2 with fail
      generalize hw1 : w' = w1 at *
      clear hw1
      cases mf
      ·
        try simp only [Act.put, List.setIfInBounds_toArray, List.set_cons_zero, List.set_cons_succ]
        refine wp_region_held_drew (S := fun Y => Below w1.heap.size w1 Y) (by kernel_rfl) ?_ (fun hHeld => ?_)
        · exact below_drew (Below.refl _ _)
        refine wpAnyH_take (i := 0) (oi := ⟨some 17, _, _, _, _, _⟩) (v := ?_) rfl (by kernel_rfl) (by kernel_rfl) (by kernel_rfl) (fun _ _ _ h => h) (Or.inl ⟨by rfl, ?_⟩) (by assumption) ?_
        rotate_left
        · intro w hSw; (try dsimp only at hSw); go_simp; (try with_reducible rfl)
        try simp only [Act.put, List.setIfInBounds_toArray, List.set_cons_zero, List.set_cons_succ]
        refine wpAnyH_take (i := 1) (oi := ⟨some 18, _, _, _, _, _⟩) (v := ?_) rfl (by kernel_rfl) (by kernel_rfl) (by kernel_rfl) (fun _ _ _ h => h) (Or.inl ⟨by rfl, ?_⟩) (by assumption) ?_
        rotate_left
        · intro w hSw; (try dsimp only at hSw); go_simp; (try with_reducible rfl)
        try simp only [Act.put, List.setIfInBounds_toArray, List.set_cons_zero, List.set_cons_succ]
        refine wpAnyH_take (i := 2) (oi := ⟨some 19, _, _, _, _, _⟩) (v := ?_) rfl (by kernel_rfl) (by kernel_rfl) (by kernel_rfl) (fun _ _ _ h => h) (Or.inl ⟨by rfl, ?_⟩) (by assumption) ?_
        rotate_left
        · intro w hSw; (try dsimp only at hSw); go_simp; (try with_reducible rfl)
        try simp only [Act.put, List.setIfInBounds_toArray, List.set_cons_zero, List.set_cons_succ]
        refine wpAnyH_take (i := 3) (oi := ⟨some 20, _, _, _, _, _⟩) (v := ?_) rfl (by kernel_rfl) (by kernel_rfl) (by kernel_rfl) (fun _ _ _ h => h) (Or.inl ⟨by rfl, ?_⟩) (by assumption) ?_
        rotate_left
        · intro w hSw; have c3 := ((hW.trans (hSw.mono hW.size)).cell (p := ⟨gx, 3, none⟩) lgx).trans H3.out; (try dsimp only at hSw); go_simp; (try with_reducible rfl)
        try simp only [Act.put, List.setIfInBounds_toArray, List.set_cons_zero, List.set_cons_succ]
        refine wpAnyH_take (i := 4) (oi := ⟨some 21, _, _, _, _, _⟩) (v := ?_) rfl (by kernel_rfl) (by kernel_rfl) (by kernel_rfl) (fun _ _ _ h => h) (Or.inl ⟨by rfl, ?_⟩) (by assumption) ?_
        rotate_left
        · intro w hSw; (try dsimp only at hSw); go_simp; (try with_reducible rfl)
        try simp only [Act.put, List.setIfInBounds_toArray, List.set_cons_zero, List.set_cons_succ]
        refine wpAnyH_take (i := 5) (oi := ⟨some 22, _, _, _, _, _⟩) (v := ?_) rfl (by kernel_rfl) (by kernel_rfl) (by kernel_rfl) (fun _ _ _ h => h) (Or.inl ⟨by rfl, ?_⟩) (by assumption) ?_
        rotate_left
        · intro w hSw; (try dsimp only at hSw); go_simp; (try with_reducible rfl)
        try simp only [Act.put, List.setIfInBounds_toArray, List.set_cons_zero, List.set_cons_succ]
        refine wpAnyH_take (i := 6) (oi := ⟨some 23, _, _, _, _, _⟩) (v := ?_) rfl (by kernel_rfl) (by kernel_rfl) (by kernel_rfl) (fun _ _ _ h => h) (Or.inl ⟨by rfl, ?_⟩) (by assumption) ?_
        rotate_left
        · intro w hSw; obtain ⟨d0, d1⟩ := (HR.out.keep (hW.trans (hSw.mono hW.size)) sR).cells; (try dsimp only at hSw); go_simp; (try with_reducible rfl)
        try simp only [Act.put, List.setIfInBounds_toArray, List.set_cons_zero, List.set_cons_succ]
        refine wpAnyH_take (i := 8) (oi := ⟨some 25, _, _, _, _, _⟩) (v := ?_) rfl (by kernel_rfl) (by kernel_rfl) (by kernel_rfl) (fun _ _ _ h => h) (Or.inl ⟨by rfl, ?_⟩) (by assumption) ?_
        rotate_left
        · intro w hSw; have ce := ((hW.trans (hSw.mono hW.size)).cell (p := ⟨ge, 0, none⟩) lge).trans HE.out; (try dsimp only at hSw); go_simp; (try with_reducible rfl)
        try simp only [Act.put, List.setIfInBounds_toArray, List.set_cons_zero, List.set_cons_succ]
        refine wpAnyH_ready (rs := [7]) (by kernel_rfl) (by simp) (AllReadyH.cons (o := ⟨some 24, _, _, _, _, _⟩) rfl (fun Kc hKc => ?_) AllReadyH.nil)
        go_simp
        go_at_call 40; refine (cendOf r Ad cd _ st HST.out (by omega) (by omega)).mono ?_; rintro e w' ⟨rfl, hcall⟩; dsimp only
        refine hKc.out _ _ (hHeld.trans (hcall.mono hHeld.size)) (fun hHeld => ?_)
        clear hKc Kc
        try simp only [Act.put, List.setIfInBounds_toArray, List.set_cons_zero, List.set_cons_succ]
        refine wpAnyH_take (i := 9) (oi := ⟨some 26, _, _, _, _, _⟩) (v := ?_) rfl (by kernel_rfl) (by kernel_rfl) (by kernel_rfl) (fun _ _ _ h => h) (Or.inl ⟨by rfl, ?_⟩) (by assumption) ?_
        rotate_left
        · intro w hSw; (try dsimp only at hSw); go_simp; (try with_reducible rfl)
        try simp only [Act.put, List.setIfInBounds_toArray, List.set_cons_zero, List.set_cons_succ]
        refine wpAnyH_take (i := 10) (oi := ⟨some 27, _, _, _, _, _⟩) (v := ?_) rfl (by kernel_rfl) (by kernel_rfl) (by kernel_rfl) (fun _ _ _ h => h) (Or.inl ⟨by rfl, ?_⟩) (by assumption) ?_
        rotate_left
        · intro w hSw; (try dsimp only at hSw); go_simp; (try with_reducible rfl)
        try simp only [Act.put, List.setIfInBounds_toArray, List.set_cons_zero, List.set_cons_succ]
        refine wpAnyH_take (i := 11) (oi := ⟨some 28, _, _, _, _, _⟩) (v := ?_) rfl (by kernel_rfl) (by kernel_rfl) (by kernel_rfl) (fun _ _ _ h => h) (Or.inl ⟨by rfl, ?_⟩) (by assumption) ?_
        rotate_left
        · intro w hSw; (try dsimp only at hSw); go_simp; (try with_reducible rfl)
        try simp only [Act.put, List.setIfInBounds_toArray, List.set_cons_zero, List.set_cons_succ]
        refine wpAnyH_take (i := 12) (oi := ⟨some 4, _, _, _, _, _⟩) (v := ?_) rfl (by kernel_rfl) (by kernel_rfl) (by kernel_rfl) (fun _ _ _ h => h) (Or.inl ⟨by rfl, ?_⟩) (by assumption) ?_
        rotate_left
        · intro w hSw; (try dsimp only at hSw); go_simp; (try with_reducible rfl)
        try simp only [Act.put, List.setIfInBounds_toArray, List.set_cons_zero, List.set_cons_succ]
        refine wpAnyH_done (by kernel_rfl) ?_ _
        have yF := hW.trans (hHeld.mono hW.size)
        clear hHeld
        go_wp2
        go_ret
        exact ⟨ret_bool (by rw [← HQ.out]; unfold clR; rw [HST.out]; first | (simp [*]; done) | (simp [*]; omega)), b0.trans (yF.mono b0.size)⟩
      ·
        try simp only [Act.put, List.setIfInBounds_toArray, List.set_cons_zero, List.set_cons_succ]
        refine wp_region_held_drew (S := fun Y => Below w1.heap.size w1 Y) (by kernel_rfl) ?_ (fun hHeld => ?_)
        · exact below_drew (Below.refl _ _)
        refine wpAnyH_take (i := 0) (oi := ⟨some 17, _, _, _, _, _⟩) (v := ?_) rfl (by kernel_rfl) (by kernel_rfl) (by kernel_rfl) (fun _ _ _ h => h) (Or.inl ⟨by rfl, ?_⟩) (by assumption) ?_
        rotate_left
        · intro w hSw; (try dsimp only at hSw); go_simp; (try with_reducible rfl)
        try simp only [Act.put, List.setIfInBounds_toArray, List.set_cons_zero, List.set_cons_succ]
        refine wpAnyH_take (i := 1) (oi := ⟨some 18, _, _, _, _, _⟩) (v := ?_) rfl (by kernel_rfl) (by kernel_rfl) (by kernel_rfl) (fun _ _ _ h => h) (Or.inl ⟨by rfl, ?_⟩) (by assumption) ?_
        rotate_left
        · intro w hSw; (try dsimp only at hSw); go_simp; (try with_reducible rfl)
        try simp only [Act.put, List.setIfInBounds_toArray, List.set_cons_zero, List.set_cons_succ]
        refine wpAnyH_take (i := 2) (oi := ⟨some 19, _, _, _, _, _⟩) (v := ?_) rfl (by kernel_rfl) (by kernel_rfl) (by kernel_rfl) (fun _ _ _ h => h) (Or.inl ⟨by rfl, ?_⟩) (by assumption) ?_
        rotate_left
        · intro w hSw; (try dsimp only at hSw); go_simp; (try with_reducible rfl)
        try simp only [Act.put, List.setIfInBounds_toArray, List.set_cons_zero, List.set_cons_succ]
        refine wpAnyH_take (i := 3) (oi := ⟨some 20, _, _, _, _, _⟩) (v := ?_) rfl (by kernel_rfl) (by kernel_rfl) (by kernel_rfl) (fun _ _ _ h => h) (Or.inl ⟨by rfl, ?_⟩) (by assumption) ?_
        rotate_left
        · intro w hSw; have c3 := ((hW.trans (hSw.mono hW.size)).cell (p := ⟨gx, 3, none⟩) lgx).trans H3.out; (try dsimp only at hSw); go_simp; (try with_reducible rfl)
        try simp only [Act.put, List.setIfInBounds_toArray, List.set_cons_zero, List.set_cons_succ]
        refine wpAnyH_take (i := 4) (oi := ⟨some 21, _, _, _, _, _⟩) (v := ?_) rfl (by kernel_rfl) (by kernel_rfl) (by kernel_rfl) (fun _ _ _ h => h) (Or.inl ⟨by rfl, ?_⟩) (by assumption) ?_
        rotate_left
        · intro w hSw; (try dsimp only at hSw); go_simp; (try with_reducible rfl)
        try simp only [Act.put, List.setIfInBounds_toArray, List.set_cons_zero, List.set_cons_succ]
        refine wpAnyH_take (i := 5) (oi := ⟨some 22, _, _, _, _, _⟩) (v := ?_) rfl (by kernel_rfl) (by kernel_rfl) (by kernel_rfl) (fun _ _ _ h => h) (Or.inl ⟨by rfl, ?_⟩) (by assumption) ?_
        rotate_left
        · intro w hSw; (try dsimp only at hSw); go_simp; (try with_reducible rfl)
        try simp only [Act.put, List.setIfInBounds_toArray, List.set_cons_zero, List.set_cons_succ]
        refine wpAnyH_take (i := 6) (oi := ⟨some 23, _, _, _, _, _⟩) (v := undef) rfl (by kernel_rfl) (by kernel_rfl) (by kernel_rfl) (fun _ _ _ h => h) (Or.inr ⟨by rfl, rfl⟩) (by assumption) ?_
        try simp only [Act.put, List.setIfInBounds_toArray, List.set_cons_zero, List.set_cons_succ]
        refine wpAnyH_take (i := 7) (oi := ⟨some 24, _, _, _, _, _⟩) (v := undef) rfl (by kernel_rfl) (by kernel_rfl) (by kernel_rfl) (fun _ _ _ h => h) (Or.inr ⟨by rfl, rfl⟩) (by assumption) ?_
        try simp only [Act.put, List.setIfInBounds_toArray, List.set_cons_zero, List.set_cons_succ]
        refine wpAnyH_take (i := 8) (oi := ⟨some 25, _, _, _, _, _⟩) (v := undef) rfl (by kernel_rfl) (by kernel_rfl) (by kernel_rfl) (fun _ _ _ h => h) (Or.inr ⟨by rfl, rfl⟩) (by assumption) ?_
        try simp only [Act.put, List.setIfInBounds_toArray, List.set_cons_zero, List.set_cons_succ]
        refine wpAnyH_take (i := 9) (oi := ⟨some 26, _, _, _, _, _⟩) (v := undef) rfl (by kernel_rfl) (by kernel_rfl) (by kernel_rfl) (fun _ _ _ h => h) (Or.inr ⟨by rfl, rfl⟩) (by assumption) ?_
        try simp only [Act.put, List.setIfInBounds_toArray, List.set_cons_zero, List.set_cons_succ]
        refine wpAnyH_take (i := 10) (oi := ⟨some 27, _, _, _, _, _⟩) (v := ?_) rfl (by kernel_rfl) (by kernel_rfl) (by kernel_rfl) (fun _ _ _ h => h) (Or.inl ⟨by rfl, ?_⟩) (by assumption) ?_
        rotate_left
        · intro w hSw; (try dsimp only at hSw); go_simp; (try with_reducible rfl)
        try simp only [Act.put, List.setIfInBounds_toArray, List.set_cons_zero, List.set_cons_succ]
        refine wpAnyH_take (i := 11) (oi := ⟨some 28, _, _, _, _, _⟩) (v := ?_) rfl (by kernel_rfl) (by kernel_rfl) (by kernel_rfl) (fun _ _ _ h => h) (Or.inl ⟨by rfl, ?_⟩) (by assumption) ?_
        rotate_left
        · intro w hSw; (try dsimp only at hSw); go_simp; (try with_reducible rfl)
        try simp only [Act.put, List.setIfInBounds_toArray, List.set_cons_zero, List.set_cons_succ]
        refine wpAnyH_take (i := 12) (oi := ⟨some 4, _, _, _, _, _⟩) (v := ?_) rfl (by kernel_rfl) (by kernel_rfl) (by kernel_rfl) (fun _ _ _ h => h) (Or.inl ⟨by rfl, ?_⟩) (by assumption) ?_
        rotate_left
        · intro w hSw; (try dsimp only at hSw); go_simp; (try with_reducible rfl)
        try simp only [Act.put, List.setIfInBounds_toArray, List.set_cons_zero, List.set_cons_succ]
        refine wpAnyH_done (by kernel_rfl) ?_ _
        have yF := hW.trans (hHeld.mono hW.size)
        clear hHeld
        go_wp2
        go_ret
        exact ⟨ret_bool (by rw [← HQ.out]; unfold clR; rw [HST.out]; first | (simp [*]; done) | (simp [*]; omega)), b0.trans (yF.mono b0.size)⟩
  ·
    try simp only [Act.put, List.setIfInBounds_toArray, List.set_cons_zero, List.set_cons_succ]
    refine wp_region_held_drew (S := fun Y => Below W.heap.size W Y) (by kernel_rfl) ?_ (fun hHeld => ?_)
    · exact below_drew (Below.refl _ _)
    refine wpAnyH_take (i := 0) (oi := ⟨some 6, _, _, _, _, _⟩) (v := ?_) rfl (by kernel_rfl) (by kernel_rfl) (by kernel_rfl) (fun _ _ _ h => h) (Or.inl ⟨by rfl, ?_⟩) (by assumption) ?_
    rotate_left
    · intro w hSw; (try dsimp only at hSw); go_simp; (try with_reducible rfl)
    try simp only [Act.put, List.setIfInBounds_toArray, List.set_cons_zero, List.set_cons_succ]
    refine wpAnyH_take (i := 1) (oi := ⟨some 7, _, _, _, _, _⟩) (v := ?_) rfl (by kernel_rfl) (by kernel_rfl) (by kernel_rfl) (fun _ _ _ h => h) (Or.inl ⟨by rfl, ?_⟩) (by assumption) ?_
    rotate_left
    · intro w hSw; obtain ⟨d0, d1⟩ := (HR.out.keep hSw sR).cells; (try dsimp only at hSw); go_simp; (try with_reducible rfl)
    try simp only [Act.put, List.setIfInBounds_toArray, List.set_cons_zero, List.set_cons_succ]
    refine wpAnyH_take (i := 2) (oi := ⟨some 8, _, _, _, _, _⟩) (v := ?_) rfl (by kernel_rfl) (by kernel_rfl) (by kernel_rfl) (fun _ _ _ h => h) (Or.inl ⟨by rfl, ?_⟩) (by assumption) ?_
    rotate_left
    · intro w hSw; have ce := (hSw.cell (p := ⟨ge, 0, none⟩) lge).trans HE.out; (try dsimp only at hSw); go_simp; (try with_reducible rfl)
    try simp only [Act.put, List.setIfInBounds_toArray, List.set_cons_zero, List.set_cons_succ]
    refine wpAnyH_take (i := 3) (oi := ⟨some 9, _, _, _, _, _⟩) (v := ?_) rfl (by kernel_rfl) (by kernel_rfl) (by kernel_rfl) (fun _ _ _ h => h) (Or.inl ⟨by rfl, ?_⟩) (by assumption) ?_
    rotate_left
    · intro w hSw; (try dsimp only at hSw); go_simp; (try with_reducible rfl)
    try simp only [Act.put, List.setIfInBounds_toArray, List.set_cons_zero, List.set_cons_succ]
    refine wpAnyH_take (i := 4) (oi := ⟨some 10, _, _, _, _, _⟩) (v := ?_) rfl (by kernel_rfl) (by kernel_rfl) (by kernel_rfl) (fun _ _ _ h => h) (Or.inl ⟨by rfl, ?_⟩) (by assumption) ?_
    rotate_left
    · intro w hSw; (try dsimp only at hSw); go_simp; (try with_reducible rfl)
    try simp only [Act.put, List.setIfInBounds_toArray, List.set_cons_zero, List.set_cons_succ]
    refine wpAnyH_take (i := 5) (oi := ⟨some 11, _, _, _, _, _⟩) (v := undef) rfl (by kernel_rfl) (by kernel_rfl) (by kernel_rfl) (fun _ _ _ h => h) (Or.inr ⟨by rfl, rfl⟩) (by assumption) ?_
    try simp only [Act.put, List.setIfInBounds_toArray, List.set_cons_zero, List.set_cons_succ]
    refine wpAnyH_take (i := 6) (oi := ⟨some 12, _, _, _, _, _⟩) (v := undef) rfl (by kernel_rfl) (by kernel_rfl) (by kernel_rfl) (fun _ _ _ h => h) (Or.inr ⟨by rfl, rfl⟩) (by assumption) ?_
    try simp only [Act.put, List.setIfInBounds_toArray, List.set_cons_zero, List.set_cons_succ]
    refine wpAnyH_take (i := 7) (oi := ⟨some 13, _, _, _, _, _⟩) (v := undef) rfl (by kernel_rfl) (by kernel_rfl) (by kernel_rfl) (fun _ _ _ h => h) (Or.inr ⟨by rfl, rfl⟩) (by assumption) ?_
    try simp only [Act.put, List.setIfInBounds_toArray, List.set_cons_zero, List.set_cons_succ]
    refine wpAnyH_take (i := 8) (oi := ⟨some 14, _, _, _, _, _⟩) (v := undef) rfl (by kernel_rfl) (by kernel_rfl) (by kernel_rfl) (fun _ _ _ h => h) (Or.inr ⟨by rfl, rfl⟩) (by assumption) ?_
    try simp only [Act.put, List.setIfInBounds_toArray, List.set_cons_zero, List.set_cons_succ]
    refine wpAnyH_take (i := 9) (oi := ⟨some 15, _, _, _, _, _⟩) (v := undef) rfl (by kernel_rfl) (by kernel_rfl) (by kernel_rfl) (fun _ _ _ h => h) (Or.inr ⟨by rfl, rfl⟩) (by assumption) ?_
    try simp only [Act.put, List.setIfInBounds_toArray, List.set_cons_zero, List.set_cons_succ]
    refine wpAnyH_take (i := 10) (oi := ⟨some 16, _, _, _, _, _⟩) (v := ?_) rfl (by kernel_rfl) (by kernel_rfl) (by kernel_rfl) (fun _ _ _ h => h) (Or.inl ⟨by rfl, ?_⟩) (by assumption) ?_
    rotate_left
    · intro w hSw; (try dsimp only at hSw); go_simp; (try with_reducible rfl)
    try simp only [Act.put, List.setIfInBounds_toArray, List.set_cons_zero, List.set_cons_succ]
    refine wpAnyH_take (i := 11) (oi := ⟨some 5, _, _, _, _, _⟩) (v := ?_) rfl (by kernel_rfl) (by kernel_rfl) (by kernel_rfl) (fun _ _ _ h => h) (Or.inl ⟨by rfl, ?_⟩) (by assumption) ?_
    rotate_left
    · intro w hSw; (try dsimp only at hSw); go_simp; (try with_reducible rfl)
    try simp only [Act.put, List.setIfInBounds_toArray, List.set_cons_zero, List.set_cons_succ]
    refine wpAnyH_done (by kernel_rfl) ?_ _
    have hW := hHeld
    clear hHeld
    go_upto_region 2 with fail
    generalize hw1 : W.drew = w1 at *
    clear hw1
    cases mf
    ·
      try simp only [Act.put, List.setIfInBounds_toArray, List.set_cons_zero, List.set_cons_succ]
      refine wp_region_held_drew (S := fun Y => Below w1.heap.size w1 Y) (by kernel_rfl) ?_ (fun hHeld => ?_)
      · exact below_drew (Below.refl _ _)
      refine wpAnyH_take (i := 0) (oi := ⟨some 17, _, _, _, _, _⟩) (v := ?_) rfl (by kernel_rfl) (by kernel_rfl) (by kernel_rfl) (fun _ _ _ h => h) (Or.inl ⟨by rfl, ?_⟩) (by assumption) ?_
      rotate_left
      · intro w hSw; (try dsimp only at hSw); go_simp; (try with_reducible rfl)
      try simp only [Act.put, List.setIfInBounds_toArray, List.set_cons_zero, List.set_cons_succ]
      refine wpAnyH_take (i := 1) (oi := ⟨some 18, _, _, _, _, _⟩) (v := ?_) rfl (by kernel_rfl) (by kernel_rfl) (by kernel_rfl) (fun _ _ _ h => h) (Or.inl ⟨by rfl, ?_⟩) (by assumption) ?_
      rotate_left
      · intro w hSw; (try dsimp only at hSw); go_simp; (try with_reducible rfl)
      try simp only [Act.put, List.setIfInBounds_toArray, List.set_cons_zero, List.set_cons_succ]
      refine wpAnyH_take (i := 2) (oi := ⟨some 19, _, _, _, _, _⟩) (v := ?_) rfl (by kernel_rfl) (by kernel_rfl) (by kernel_rfl) (fun _ _ _ h => h) (Or.inl ⟨by rfl, ?_⟩) (by assumption) ?_
      rotate_left
      · intro w hSw; (try dsimp only at hSw); go_simp; (try with_reducible rfl)
      try simp only [Act.put, List.setIfInBounds_toArray, List.set_cons_zero, List.set_cons_succ]
      refine wpAnyH_take (i := 3) (oi := ⟨some 20, _, _, _, _, _⟩) (v := ?_) rfl (by kernel_rfl) (by kernel_rfl) (by kernel_rfl) (fun _ _ _ h => h) (Or.inl ⟨by rfl, ?_⟩) (by assumption) ?_
      rotate_left
      · intro w hSw; have c3 := ((hW.trans (hSw.mono hW.size)).cell (p := ⟨gx, 3, none⟩) lgx).trans H3.out; (try dsimp only at hSw); go_simp; (try with_reducible rfl)
      try simp only [Act.put, List.setIfInBounds_toArray, List.set_cons_zero, List.set_cons_succ]
      refine wpAnyH_take (i := 4) (oi := ⟨some 21, _, _, _, _, _⟩) (v := ?_) rfl (by kernel_rfl) (by kernel_rfl) (by kernel_rfl) (fun _ _ _ h => h) (Or.inl ⟨by rfl, ?_⟩) (by assumption) ?_
      rotate_left
      · intro w hSw; (try dsimp only at hSw); go_simp; (try with_reducible rfl)
      try simp only [Act.put, List.setIfInBounds_toArray, List.set_cons_zero, List.set_cons_succ]
      refine wpAnyH_take (i := 5) (oi := ⟨some 22, _, _, _, _, _⟩) (v := ?_) rfl (by kernel_rfl) (by kernel_rfl) (by kernel_rfl) (fun _ _ _ h => h) (Or.inl ⟨by rfl, ?_⟩) (by assumption) ?_
      rotate_left
      · intro w hSw; (try dsimp only at hSw); go_simp; (try with_reducible rfl)
      try simp only [Act.put, List.setIfInBounds_toArray, List.set_cons_zero, List.set_cons_succ]
      refine wpAnyH_take (i := 6) (oi := ⟨some 23, _, _, _, _, _⟩) (v := ?_) rfl (by kernel_rfl) (by kernel_rfl) (by kernel_rfl) (fun _ _ _ h => h) (Or.inl ⟨by rfl, ?_⟩) (by assumption) ?_
      rotate_left
      · intro w hSw; obtain ⟨d0, d1⟩ := (HR.out.keep (hW.trans (hSw.mono hW.size)) sR).cells; (try dsimp only at hSw); go_simp; (try with_reducible rfl)
      try simp only [Act.put, List.setIfInBounds_toArray, List.set_cons_zero, List.set_cons_succ]
      refine wpAnyH_take (i := 8) (oi := ⟨some 25, _, _, _, _, _⟩) (v := ?_) rfl (by kernel_rfl) (by kernel_rfl) (by kernel_rfl) (fun _ _ _ h => h) (Or.inl ⟨by rfl, ?_⟩) (by assumption) ?_
      rotate_left
      · intro w hSw; have ce := ((hW.trans (hSw.mono hW.size)).cell (p := ⟨ge, 0, none⟩) lge).trans HE.out; (try dsimp only at hSw); go_simp; (try with_reducible rfl)
      try simp only [Act.put, List.setIfInBounds_toArray, List.set_cons_zero, List.set_cons_succ]
      refine wpAnyH_ready (rs := [7]) (by kernel_rfl) (by simp) (AllReadyH.cons (o := ⟨some 24, _, _, _, _, _⟩) rfl (fun Kc hKc => ?_) AllReadyH.nil)
      go_simp
      go_at_call 40; refine (cendOf r Ad cd _ st HST.out (by omega) (by omega)).mono ?_; rintro e w' ⟨rfl, hcall⟩; dsimp only
      refine hKc.out _ _ (hHeld.trans (hcall.mono hHeld.size)) (fun hHeld => ?_)
      clear hKc Kc
      try simp only [Act.put, List.setIfInBounds_toArray, List.set_cons_zero, List.set_cons_succ]
      refine wpAnyH_take (i := 9) (oi := ⟨some 26, _, _, _, _, _⟩) (v := ?_) rfl (by kernel_rfl) (by kernel_rfl) (by kernel_rfl) (fun _ _ _ h => h) (Or.inl ⟨by rfl, ?_⟩) (by assumption) ?_
      rotate_left
      · intro w hSw; (try dsimp only at hSw); go_simp; (try with_reducible rfl)
      try simp only [Act.put, List.setIfInBounds_toArray, List.set_cons_zero, List.set_cons_succ]
      refine wpAnyH_take (i := 10) (oi := ⟨some 27, _, _, _, _, _⟩) (v := ?_) rfl (by kernel_rfl) (by kernel_rfl) (by kernel_rfl) (fun _ _ _ h => h) (Or.inl ⟨by rfl, ?_⟩) (by assumption) ?_
      rotate_left
      · intro w hSw; (try dsimp only at hSw); go_simp; (try with_reducible rfl)
      try simp only [Act.put, List.setIfInBounds_toArray, List.set_cons_zero, List.set_cons_succ]
      refine wpAnyH_take (i := 11) (oi := ⟨some 28, _, _, _, _, _⟩) (v := ?_) rfl (by kernel_rfl) (by kernel_rfl) (by kernel_rfl) (fun _ _ _ h => h) (Or.inl ⟨by rfl, ?_⟩) (by assumption) ?_
      rotate_left
      · intro w hSw; (try dsimp only at hSw); go_simp; (try with_reducible rfl)
      try simp only [Act.put, List.setIfInBounds_toArray, List.set_cons_zero, List.set_cons_succ]
      refine wpAnyH_take (i := 12) (oi := ⟨some 4, _, _, _, _, _⟩) (v := ?_) rfl (by kernel_rfl) (by kernel_rfl) (by kernel_rfl) (fun _ _ _ h => h) (Or.inl ⟨by rfl, ?_⟩) (by assumption) ?_
      rotate_left
      · intro w hSw; (try dsimp only at hSw); go_simp; (try with_reducible rfl)
      try simp only [Act.put, List.setIfInBounds_toArray, List.set_cons_zero, List.set_cons_succ]
      refine wpAnyH_done (by kernel_rfl) ?_ _
      have yF := hW.trans (hHeld.mono hW.size)
      clear hHeld
      go_wp2
      go_ret
      exact ⟨ret_bool (by rw [← HQ.out]; unfold clR; rw [HST.out]; first | (simp [*]; done) | (simp [*]; omega)), b0.trans (yF.mono b0.size)⟩
    ·
      try simp only [Act.put, List.setIfInBounds_toArray, List.set_cons_zero, List.set_cons_succ]
      refine wp_region_held_drew (S := fun Y => Below w1.heap.size w1 Y) (by kernel_rfl) ?_ (fun hHeld => ?_)
      · exact below_drew (Below.refl _ _)
      refine wpAnyH_take (i := 0) (oi := ⟨some 17, _, _, _, _, _⟩) (v := ?_) rfl (by kernel_rfl) (by kernel_rfl) (by kernel_rfl) (fun _ _ _ h => h) (Or.inl ⟨by rfl, ?_⟩) (by assumption) ?_
      rotate_left
      · intro w hSw; (try dsimp only at hSw); go_simp; (try with_reducible rfl)
      try simp only [Act.put, List.setIfInBounds_toArray, List.set_cons_zero, List.set_cons_succ]
      refine wpAnyH_take (i := 1) (oi := ⟨some 18, _, _, _, _, _⟩) (v := ?_) rfl (by kernel_rfl) (by kernel_rfl) (by kernel_rfl) (fun _ _ _ h => h) (Or.inl ⟨by rfl, ?_⟩) (by assumption) ?_
      rotate_left
      · intro w hSw; (try dsimp only at hSw); go_simp; (try with_reducible rfl)
      try simp only [Act.put, List.setIfInBounds_toArray, List.set_cons_zero, List.set_cons_succ]
      refine wpAnyH_take (i := 2) (oi := ⟨some 19, _, _, _, _, _⟩) (v := ?_) rfl (by kernel_rfl) (by kernel_rfl) (by kernel_rfl) (fun _ _ _ h => h) (Or.inl ⟨by rfl, ?_⟩) (by assumption) ?_
      rotate_left
      · intro w hSw; (try dsimp only at hSw); go_simp; (try with_reducible rfl)
      try simp only [Act.put, List.setIfInBounds_toArray, List.set_cons_zero, List.set_cons_succ]
      refine wpAnyH_take (i := 3) (oi := ⟨some 20, _, _, _, _, _⟩) (v := ?_) rfl (by kernel_rfl) (by kernel_rfl) (by kernel_rfl) (fun _ _ _ h => h) (Or.inl ⟨by rfl, ?_⟩) (by assumption) ?_
      rotate_left
      · intro w hSw; have c3 := ((hW.trans (hSw.mono hW.size)).cell (p := ⟨gx, 3, none⟩) lgx).trans H3.out; (try dsimp only at hSw); go_simp; (try with_reducible rfl)
      try simp only [Act.put, List.setIfInBounds_toArray, List.set_cons_zero, List.set_cons_succ]
      refine wpAnyH_take (i := 4) (oi := ⟨some 21, _, _, _, _, _⟩) (v := ?_) rfl (by kernel_rfl) (by kernel_rfl) (by kernel_rfl) (fun _ _ _ h => h) (Or.inl ⟨by rfl, ?_⟩) (by assumption) ?_
      rotate_left
      · intro w hSw; (try dsimp only at hSw); go_simp; (try with_reducible rfl)
      try simp only [Act.put, List.setIfInBounds_toArray, List.set_cons_zero, List.set_cons_succ]
      refine wpAnyH_take (i := 5) (oi := ⟨some 22, _, _, _, _, _⟩) (v := ?_) rfl (by kernel_rfl) (by kernel_rfl) (by kernel_rfl) (fun _ _ _ h => h) (Or.inl ⟨by rfl, ?_⟩) (by assumption) ?_
      rotate_left
      · intro w hSw; (try dsimp only at hSw); go_simp; (try with_reducible rfl)
      try simp only [Act.put, List.setIfInBounds_toArray, List.set_cons_zero, List.set_cons_succ]
      refine wpAnyH_take (i := 6) (oi := ⟨some 23, _, _, _, _, _⟩) (v := undef) rfl (by kernel_rfl) (by kernel_rfl) (by kernel_rfl) (fun _ _ _ h => h) (Or.inr ⟨by rfl, rfl⟩) (by assumption) ?_
      try simp only [Act.put, List.setIfInBounds_toArray, List.set_cons_zero, List.set_cons_succ]
      refine wpAnyH_take (i := 7) (oi := ⟨some 24, _, _, _, _, _⟩) (v := undef) rfl (by kernel_rfl) (by kernel_rfl) (by kernel_rfl) (fun _ _ _ h => h) (Or.inr ⟨by rfl, rfl⟩) (by assumption) ?_
      try simp only [Act.put, List.setIfInBounds_toArray, List.set_cons_zero, List.set_cons_succ]
      refine wpAnyH_take (i := 8) (oi := ⟨some 25, _, _, _, _, _⟩) (v := undef) rfl (by kernel_rfl) (by kernel_rfl) (by kernel_rfl) (fun _ _ _ h => h) (Or.inr ⟨by rfl, rfl⟩) (by assumption) ?_
      try simp only [Act.put, List.setIfInBounds_toArray, List.set_cons_zero, List.set_cons_succ]
      refine wpAnyH_take (i := 9) (oi := ⟨some 26, _, _, _, _, _⟩) (v := undef) rfl (by kernel_rfl) (by kernel_rfl) (by kernel_rfl) (fun _ _ _ h => h) (Or.inr ⟨by rfl, rfl⟩) (by assumption) ?_
      try simp only [Act.put, List.setIfInBounds_toArray, List.set_cons_zero, List.set_cons_succ]
      refine wpAnyH_take (i := 10) (oi := ⟨some 27, _, _, _, _, _⟩) (v := ?_) rfl (by kernel_rfl) (by kernel_rfl) (by kernel_rfl) (fun _ _ _ h => h) (Or.inl ⟨by rfl, ?_⟩) (by assumption) ?_
      rotate_left
      · intro w hSw; (try dsimp only at hSw); go_simp; (try with_reducible rfl)
      try simp only [Act.put, List.setIfInBounds_toArray, List.set_cons_zero, List.set_cons_succ]
      refine wpAnyH_take (i := 11) (oi := ⟨some 28, _, _, _, _, _⟩) (v := ?_) rfl (by kernel_rfl) (by kernel_rfl) (by kernel_rfl) (fun _ _ _ h => h) (Or.inl ⟨by rfl, ?_⟩) (by assumption) ?_
      rotate_left
      · intro w hSw; (try dsimp only at hSw); go_simp; (try with_reducible rfl)
      try simp only [Act.put, List.setIfInBounds_toArray, List.set_cons_zero, List.set_cons_succ]
      refine wpAnyH_take (i := 12) (oi := ⟨some 4, _, _, _, _, _⟩) (v := ?_) rfl (by kernel_rfl) (by kernel_rfl) (by kernel_rfl) (fun _ _ _ h => h) (Or.inl ⟨by rfl, ?_⟩) (by assumption) ?_
      rotate_left
      · intro w hSw; (try dsimp only at hSw); go_simp; (try with_reducible rfl)
      try simp only [Act.put, List.setIfInBounds_toArray, List.set_cons_zero, List.set_cons_succ]
      refine wpAnyH_done (by kernel_rfl) ?_ _
      have yF := hW.trans (hHeld.mono hW.size)
      clear hHeld
      go_wp2
      go_ret
      exact ⟨ret_bool (by rw [← HQ.out]; unfold clR; rw [HST.out]; first | (simp [*]; done) | (simp [*]; omega)), b0.trans (yF.mono b0.size)⟩
end Go.Proofs.Ythejakbjekjhjaa
