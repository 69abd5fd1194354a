/- Lemmas of layer 7, several texts in one. -/
import Derived.Test.YthejakbjekjhjaaQ19
import Derived.Test.YthejakbjekjhjaaQ24
import Derived.Test.YthejakbjekjhjaaQ03
import Derived.Test.YthejakbjekjhjaaQ07
import Derived.Lib.SliceRun
import Derived.Test.YthejakbjekjhjaaQ01
/- Rows of packets of a call's own: pieces of a packet that is cut, and the pool that takes them. -/
namespace Go.Proofs.Ythejakbjekjhjaa
open Go.ChangeShapes Go.WideShapes Go.ChangeAt Go.RowKit
set_option linter.unusedVariables false
set_option linter.unusedSimpArgs false

/-- a packet of a row, with where its parts lie. -/
structure Ep where
  p : Pk
  Ao : Option Addr
  co : Nat
  Ab : Option Addr
  cb : Nat
def Ep.L (e : Ep) : List Value := pkL e.p e.Ao e.co e.Ab e.cb
theorem Ep.len (e : Ep) : e.L.length = 11 := rfl
def OwnK (w : World) (base : Nat) (A : Option Addr) (c : Nat) (es : List Ep) : Prop := w.ownsRow base 33 11 (.slice A es.length c) es.length (es.flatMap Ep.L)
theorem info_ipz : (Try.prog.info? 33).map (fun i => (i.zero, i.size, i.bytes)) = some (some (.agg #[.int .i64 0, .int .i64 0, .bool false, .bool false, .int .i64 0, .int .i64 0, .int .i64 0, .int .u32 0, .int .u32 0, .slice none 0 0, .slice none 0 0]), 11, 104) := by kernel_rfl
theorem ep_one (es : List Ep) : ∀ u ∈ es.flatMap Ep.L, u.oneCell' = true := fun u hu => by
  obtain ⟨e, _, he⟩ := List.mem_flatMap.1 hu
  simp only [Ep.L, List.mem_cons, List.not_mem_nil, or_false] at he
  rcases he with rfl | rfl | rfl | rfl | rfl | rfl | rfl | rfl | rfl | rfl | rfl <;> rfl
section
variable {w w' : World} {base : Nat} {A : Option Addr} {c : Nat} {es : List Ep}
theorem OwnK.none_ (w : World) (base : Nat) : OwnK w base none 0 [] := own_none w base _ _
theorem OwnK.keep (h : OwnK w base A c es) (y : Below w.heap.size w w') : OwnK w' base A c es := own_keepA h (fun g hg => y.block g (by
  rcases own_addr h with ⟨rfl, _⟩ | ⟨g', rfl, _, hl⟩
  · cases hg
  · injection hg with hg; subst hg; exact hl))
theorem OwnK.only {b : Nat} (h : OwnK w base A c es) (ho : Only b w w') (hn : ∀ g, blk A = some g → g ≠ b) : OwnK w' base A c es := own_keepA h (fun g hg => ho.block g (hn g hg))
theorem OwnK.cap (h : OwnK w base A c es) : es.length ≤ c ∧ c ≤ 9223372036854775807 := by have := own_cap h; unfold maxLen at this; exact this
theorem OwnK.cell {g : Nat} (h : OwnK w base (some ⟨g, 0, none⟩) c es) {k j : Nat} {v : Value} (hk : k < es.length) (hv : (es[k].L)[j]? = some v) : w.cell? ⟨g, k * 11 + j, none⟩ = some v := by
  have hi : j < 11 := by have := (List.getElem?_eq_some_iff.1 hv).1; rw [Ep.len] at this; exact this
  have : k * 11 + 11 ≤ es.length * 11 := by rw [← Nat.succ_mul]; exact Nat.mul_le_mul_right 11 hk
  rw [own_cells h (k * 11 + j) (by omega), flat_get Ep.L 11 Ep.len es k j hk hi]
  exact hv
/-- a packet of the row, as a walk loads it. -/
theorem OwnK.at_ (h : OwnK w base A c es) {k : Nat} (hk : k < es.length) : ∃ ad : Addr, A = some ad ∧ ∀ Y, Below w.heap.size w Y → ∀ j v, (es[k].L)[j]? = some v → Y.cell? ((ad.add (k * 11)).add j) = some v := by
  rcases own_addr h with ⟨_, hz, _⟩ | ⟨g, rfl, _, _⟩
  · omega
  · refine ⟨_, rfl, fun Y y j v hv => ?_⟩
    rw [Addr.add_mid, Addr.add_mid, Nat.zero_add]
    exact (h.keep y).cell hk hv
/-- its first packets, read. -/
theorem OwnK.rdTake (h : OwnK w base A c es) (k : Nat) : RdC w A ((es.take k).flatMap Ep.L) := by
  rcases own_addr h with ⟨_, hz, _⟩ | ⟨g, rfl, _, _⟩
  · have : es = [] := List.eq_nil_of_length_eq_zero hz
    subst this; exact .inl (by simp)
  · refine .inr ⟨_, rfl, fun j u hj => ?_⟩
    rw [← flat_take Ep.L 11 Ep.len, List.getElem?_take] at hj
    split at hj
    · have hl := (List.getElem?_eq_some_iff.1 hj).1
      rw [flat_len Ep.L 11 Ep.len] at hl
      rw [Addr.add_mid, Nat.zero_add, own_cells h j hl]
      exact hj
    · cases hj
/-- the packets behind one of them, read. -/
theorem OwnK.rdDrop {g : Nat} (h : OwnK w base (some ⟨g, 0, none⟩) c es) {k : Nat} (hk : k < es.length) : RdC w (if c = k + 1 then some ⟨g, 0, none⟩ else some ⟨g, (k + 1) * 11, none⟩) ((es.drop (k + 1)).flatMap Ep.L) := by
  have hc := h.cap.1
  by_cases e : c = k + 1
  · exact .inl (by rw [List.drop_eq_nil_of_le (by omega)]; rfl)
  · rw [if_neg e]
    refine .inr ⟨_, rfl, fun j u hj => ?_⟩
    rw [← flat_drop Ep.L 11 Ep.len, List.getElem?_drop] at hj
    have hl := (List.getElem?_eq_some_iff.1 hj).1
    rw [flat_len Ep.L 11 Ep.len] at hl
    rw [Addr.add_mid, own_cells h _ hl]
    exact hj
end
/-- while a packet is cut: its box, the row of its pieces. -/
structure CutI (w : World) (x : Pk) (Ao : Option Addr) (co : Nat) (Ab : Option Addr) (cb : Nat) (wr : World) (A : Option Addr) (c : Nat) (es : List Ep) (P : List Rn) (at_ : Nat) : Prop where
  below : Below w.heap.size w wr
  box : Bxo wr w.heap.size 33 (pkL x Ao co Ab cb)
  row : OwnK wr (w.heap.size + 1) A c es
  els : ∀ e ∈ es, PkAt w (oldV w) e.p e.Ao e.co e.Ab e.cb
  eq : es.map Ep.p = P.map (fun r => pieceW x r true)
  cut : CutOk x P at_
section
variable {w wr wx wy : World} {x : Pk} {Ao Ab A A' : Option Addr} {co cb c c' at_ : Nat} {es es' : List Ep} {P : List Rn}
theorem CutI.len (h : CutI w x Ao co Ab cb wr A c es P at_) : es.length = P.length := by have := congrArg List.length h.eq; simpa using this
theorem CutI.ne (h : CutI w x Ao co Ab cb wr A c es P at_) : ∀ g, blk A = some g → w.heap.size + 1 ≤ g ∧ g < wr.heap.size := fun g hg => by
  rcases own_addr h.row with ⟨rfl, _⟩ | ⟨g', rfl, h1, h2⟩
  · cases hg
  · injection hg with hg; subst hg; exact ⟨h1, h2⟩
theorem CutI.step (h : CutI w x Ao co Ab cb wr A c es P at_) (y : Below wr.heap.size wr wx) : CutI w x Ao co Ab cb wx A c es P at_ :=
  ⟨h.below.trans (y.mono h.below.size), h.box.keep y h.box.lt, h.row.keep y, h.els, h.eq, h.cut⟩
/-- a store into a box of its own. -/
theorem CutI.only {b : Nat} (h : CutI w x Ao co Ab cb wr A c es P at_) (ho : Only b wr wx) (hb : w.heap.size < b) (hn : ∀ g, blk A = some g → g ≠ b) : CutI w x Ao co Ab cb wx A c es P at_ :=
  ⟨h.below.trans (ho.below (by omega)), h.box.only ho (by omega), h.row.only ho hn, h.els, h.eq, h.cut⟩
end
/-- a piece's bytes: where they lie. -/
theorem ByIn.part {w : World} {V : Nat → Prop} {ad : Addr} {c : Nat} {l : List UInt8} (h : ByIn w V (some ad) c l) {a b : Nat} (hab : a ≤ b) (hb : b ≤ l.length) (hac : a < c) : ByIn w V (some (ad.add a)) (c - a) ((l.take b).drop a) := by
  have e : ((l.take b).drop a).length = b - a := by rw [List.length_drop, List.length_take]; omega
  have := h.len
  have := h.cap
  refine ⟨by omega, by omega, (fun h => by cases h), ?_⟩
  rcases h.bs with h | ⟨ad', e', hlt, hc⟩
  · subst h; exact .inl (by simp)
  · injection e' with e'
    subst e'
    refine .inr ⟨_, rfl, by rw [block_add]; exact hlt, fun j v hj => ?_⟩
    rw [List.getElem?_drop, List.getElem?_take] at hj
    split at hj
    · rw [add_add]; exact hc _ _ hj
    · cases hj
theorem ep_L1 (e : Ep) : ∀ u ∈ e.L, u.oneCell' = true := fun u hu => ep_one [e] u (List.mem_flatMap.2 ⟨e, List.mem_singleton.2 rfl, hu⟩)
section
variable {w wr w9 w10 : World} {x : Pk} {Ao A A' : Option Addr} {adb : Addr} {co cb c c' at_ to_ : Nat} {es : List Ep} {P : List Rn}
/-- the piece from a place to another one. -/
abbrev partR (x : Pk) (a b : Nat) : Rn := ⟨(a : Int), (x.body.take b).drop a⟩
abbrev partE (x : Pk) (more : Bool) (Ao : Option Addr) (co : Nat) (adb : Addr) (cb a b : Nat) : Ep := ⟨pieceW x (partR x a b) more, Ao, co, some (adb.add a), cb - a⟩
theorem part_len (x : Pk) {a b : Nat} (h : a ≤ b) (hb : b ≤ x.body.length) : ((x.body.take b).drop a).length = b - a := by rw [List.length_drop, List.length_take]; omega
/-- a row that a packet was appended to. -/
theorem OwnK.push {w9 w10 : World} {base : Nat} (h : OwnK w9 base A c es) {e : Ep} (hrow : w10.ownsRow base 33 11 (.slice A' (es.length + 1) c') (es.length + 1) (es.flatMap Ep.L ++ e.L)) : OwnK w10 base A' c' (es ++ [e]) := by
  unfold OwnK
  rw [List.length_append, List.flatMap_append]
  simpa using hrow
theorem OwnK.block_ge {base : Nat} (h : OwnK wr base A c es) : ∀ g, blk A = some g → base ≤ g ∧ g < wr.heap.size := fun g hg => by
  rcases own_addr h with ⟨rfl, _⟩ | ⟨g', rfl, h1, h2⟩
  · cases hg
  · injection hg with hg; subst hg; exact ⟨h1, h2⟩
/-- below a block that the row doesn't lie in, nothing turns. -/
theorem grown_below {B : Nat} (hg : w9.grownBy w10 (blk A)) (hA : ∀ g, blk A = some g → B ≤ g) (hB : B ≤ w9.heap.size) : Below B w9 w10 :=
  ⟨hg.os, hg.tape, hg.output, hg.size, fun b hb => hg.block b (by omega) (fun e => by have := hA b e.symm; omega)⟩
theorem CutI.push (h : CutI w x Ao co (some adb) cb w9 A c es P at_) (hV : PkAt w (oldV w) x Ao co (some adb) cb) (t1 : at_ < to_) (t8 : to_ % 8 = 0) (hl : to_ < x.body.length) (hrow : w10.ownsRow (w.heap.size + 1) 33 11 (.slice A' (es.length + 1) c') (es.length + 1) (es.flatMap Ep.L ++ (partE x true Ao co adb cb at_ to_).L)) (hg : w9.grownBy w10 (blk A)) : CutI w x Ao co (some adb) cb w10 A' c' (es ++ [partE x true Ao co adb cb at_ to_]) (P ++ [partR x at_ to_]) to_ := by
  have hlt := h.box.lt
  have hb := grown_below (B := w.heap.size + 1) hg (fun g e => (h.row.block_ge g e).1) (by omega)
  refine ⟨h.below.trans ⟨hb.os, hb.tape, hb.output, hb.size, fun b k => hb.block b (by omega)⟩, h.box.keep hb (by omega), h.row.push hrow, ?_, ?_, h.cut.next t1 t8 hl⟩
  · intro e he
    rcases List.mem_append.1 he with he | he
    · exact h.els e he
    · obtain rfl := List.mem_singleton.1 he
      have hc := hV.b.len
      exact ⟨hV.s0, hV.s1, hV.d0, hV.d1, hV.o, hV.b.part (by omega) (by omega) (by omega), hV.lt⟩
  · rw [List.map_append, List.map_append, h.eq]
    rfl
end
end Go.Proofs.Ythejakbjekjhjaa

/- Pieces that are left, and the pool that has taken the others. -/
namespace Go.Proofs.Ythejakbjekjhjaa
open Go.ChangeShapes Go.WideShapes Go.ChangeAt Go.RowKit
set_option linter.unusedVariables false
set_option linter.unusedSimpArgs false

/-- the pool has taken the pieces that are not left. -/
structure StW (x : Pk) (p : Po) (es : List Ep) : Prop where
  right : RightP p
  st : (es = [] ∧ p.list = []) ∨ ∃ M, WholeP x M ∧ p = poolW x M ∧ es.map Ep.p = unW x M ∧ es ≠ []
section
variable {x : Pk} {p : Po} {es : List Ep} {P : List Rn} {at_ k : Nat}
theorem StW.start (h : CutOk x P at_) (hP : P ≠ []) (hm : May x) (h0 : x.off = 0) (hf : x.mf = false) (hs : x.body.length ≤ 600) (heq : es.map Ep.p = P.map (fun r => pieceW x r true)) {e : Ep} (he : e.p = pieceW x (partR x at_ x.body.length) false) : StW x ⟨1000, 10, 0, []⟩ (es ++ [e]) :=
  ⟨right_new (by omega) (by omega) (by omega) (by omega), .inr ⟨freshM (P ++ [⟨(at_ : Int), x.body.drop at_⟩]), h.whole hP hm h0 hf hs, (pool_fresh x _).symm, by
    rw [un_fresh, List.map_append, heq, List.map_cons, List.map_nil, he]
    unfold partR
    rw [List.take_length], by simp⟩⟩
theorem StW.take (h : StW x p es) (hk : k < es.length) : ∃ t, takeP p es[k].p = t ∧ t.err = 0 ∧ t.ok = (es.take k ++ es.drop (k + 1)).isEmpty ∧ (t.ok = true → t.out = x) ∧ StW x t.pool (es.take k ++ es.drop (k + 1)) := by
  have hkept := (take_kept h.right es[k].p).1.right
  rcases h.st with ⟨h1, _⟩ | ⟨M, W, hp, hes, _⟩
  · subst h1; simp at hk
  · obtain ⟨i, r, hi, hy, hun⟩ := un_at x M k es[k].p (by rw [← hes]; simp [hk])
    have hes' : (es.take k ++ es.drop (k + 1)).map Ep.p = unW x (setM M i r) := by
      rw [hun, ← hes, List.map_append, List.map_take, List.map_drop]
    have hT := W.take (hp ▸ h.right) hi
    rw [← hy, ← hp] at hT
    by_cases hall : allT (setM M i r) = true
    · have he : es.take k ++ es.drop (k + 1) = [] := by
        have := (un_nil x (setM M i r)).2 hall
        rw [← hes'] at this
        exact List.map_eq_nil_iff.1 this
      rw [if_pos hall] at hT
      rw [hT] at hkept
      exact ⟨_, hT, rfl, by rw [he]; rfl, fun _ => rfl, hkept, .inl ⟨he, rfl⟩⟩
    · have he : es.take k ++ es.drop (k + 1) ≠ [] := fun he => hall ((un_nil x (setM M i r)).1 (by rw [← hes', he]; rfl))
      rw [if_neg hall] at hT
      rw [hT] at hkept
      have hb : (es.take k ++ es.drop (k + 1)).isEmpty = false := by simpa using he
      exact ⟨_, hT, rfl, by rw [hb], (fun h => by cases h), hkept, .inr ⟨setM M i r, W.next hi, rfl, hes', he⟩⟩
theorem StW.done (h : StW x p []) : p.list = [] := by
  rcases h.st with ⟨_, h1⟩ | ⟨_, _, _, _, h1⟩
  · exact h1
  · exact absurd rfl h1
theorem StW.left (h : StW x p es) (hk : k < es.length) : (es[k].p).opts.length ≤ 16777216 ∧ (es[k].p).body.length ≤ 16777216 := by
  rcases h.st with ⟨h1, _⟩ | ⟨M, W, hp, hes, _⟩
  · subst h1; simp at hk
  · obtain ⟨i, r, hi, hy, _⟩ := un_at x M k es[k].p (by rw [← hes]; simp [hk])
    have hm := (W.may_piece hi).1
    rw [← hy] at hm
    have := hm.p40
    have := hm.fit
    have := hm.o0
    omega
end
/-- while the pieces are taken: the packet's box, the row of the pieces that are left, the pool's box, the pool. -/
structure PutI (w : World) (x : Pk) (Ao : Option Addr) (co : Nat) (Ab : Option Addr) (cb : Nat) (bp : Nat) (wr : World) (A : Option Addr) (c : Nat) (es : List Ep) (V : Nat → Prop) (p : Po) (Ap : Option Addr) (cp : Nat) : Prop where
  below : Below w.heap.size w wr
  box : Bxo wr w.heap.size 33 (pkL x Ao co Ab cb)
  row : OwnK wr (w.heap.size + 1) A c es
  els : ∀ e ∈ es, PkAt w (oldV w) e.p e.Ao e.co e.Ab e.cb
  pbox : Bxo wr bp 27 (poL p Ap cp)
  po : PoAt wr V p Ap cp
  out : ¬ V bp
  b0 : w.heap.size < bp
  ne : ∀ g, blk A = some g → g ≠ bp
  st : StW x p es
  few : es.length ≤ 20
section
variable {w wr wx wy : World} {x : Pk} {Ao Ab A A' Ap Ap' : Option Addr} {co cb bp c c' cp cp' k : Nat} {es es' : List Ep} {V V' : Nat → Prop} {p q : Po}
theorem PutI.step (h : PutI w x Ao co Ab cb bp wr A c es V p Ap cp) (y : Below wr.heap.size wr wx) : PutI w x Ao co Ab cb bp wx A c es V p Ap cp :=
  ⟨h.below.trans (y.mono h.below.size), h.box.keep y h.box.lt, h.row.keep y, h.els, h.pbox.keep y h.pbox.lt, h.po.at y, h.out, h.b0, h.ne, h.st, h.few⟩
/-- another pool is put into the box, and the pieces that are left into a row of their own. -/
theorem PutI.put {wz : World} {B : Nat} (h : PutI w x Ao co Ab cb bp wr A c es V p Ap cp) (y : Below wr.heap.size wr wx) (hq : PoAt wx V' q Ap' cp') (hn : ¬ V' bp) (ho : Only bp wx wy) (hb : Bxo wy bp 27 (poL q Ap' cp')) (z : Below wy.heap.size wy wz) (hrow : OwnK wz B A' c' es') (hB : wr.heap.size ≤ B) (hsub : ∀ e ∈ es', e ∈ es) (hl : es'.length ≤ es.length) (st : StW x q es') : PutI w x Ao co Ab cb bp wz A' c' es' V' q Ap' cp' := by
  have lx := h.box.lt
  have lp := h.pbox.lt
  have s1 := y.size
  have s2 := ho.size
  have hbel := (h.below.trans (y.mono h.below.size)).trans (ho.below (Nat.le_of_lt h.b0))
  refine ⟨hbel.trans (z.mono hbel.size), ((h.box.keep y lx).only ho (Nat.ne_of_lt h.b0)).keep z (by omega), ?_, fun e he => h.els e (hsub e he), hb.keep z hb.lt, (hq.only ho hn).at z, hn, h.b0, ?_, st, Nat.le_trans hl h.few⟩
  · rcases own_addr hrow with ⟨rfl, hz, rfl⟩ | ⟨g, rfl, h1, h2⟩
    · have : es' = [] := List.eq_nil_of_length_eq_zero hz
      subst this; exact OwnK.none_ _ _
    · obtain ⟨cur, a1, a2, a3, a4, a5, a6, a7⟩ := own_open hrow
      exact own_shut a1 a2 a3 (by omega) a5 a6 a7
  · intro g hg e
    have := hrow.block_ge g hg
    omega
theorem PutI.cell (h : PutI w x Ao co Ab cb bp wr A c es V p Ap cp) (hk : k < es.length) : PkAt w (oldV w) es[k].p es[k].Ao es[k].co es[k].Ab es[k].cb := h.els _ (List.getElem_mem hk)
end
/-- all pieces of a packet that was cut, in a row. -/
structure CutD (w : World) (x : Pk) (Ao : Option Addr) (co : Nat) (Ab : Option Addr) (cb : Nat) (wr : World) (A : Option Addr) (c : Nat) (es : List Ep) : Prop where
  below : Below w.heap.size w wr
  box : Bxo wr w.heap.size 33 (pkL x Ao co Ab cb)
  row : OwnK wr (w.heap.size + 1) A c es
  els : ∀ e ∈ es, PkAt w (oldV w) e.p e.Ao e.co e.Ab e.cb
section
variable {w wr wx w9 w10 : World} {x : Pk} {Ao A A' Ab Ap : Option Addr} {adb : Addr} {co cb c c' cp at_ : Nat} {es : List Ep} {P : List Rn} {V : Nat → Prop} {p : Po}
theorem CutI.last (h : CutI w x Ao co (some adb) cb w9 A c es P at_) (hV : PkAt w (oldV w) x Ao co (some adb) cb) (hrow : w10.ownsRow (w.heap.size + 1) 33 11 (.slice A' (es.length + 1) c') (es.length + 1) (es.flatMap Ep.L ++ (partE x false Ao co adb cb at_ x.body.length).L)) (hg : w9.grownBy w10 (blk A)) : CutD w x Ao co (some adb) cb w10 A' c' (es ++ [partE x false Ao co adb cb at_ x.body.length]) := by
  have hlt := h.box.lt
  have hb := grown_below (B := w.heap.size + 1) hg (fun g e => (h.row.block_ge g e).1) (by omega)
  refine ⟨h.below.trans ⟨hb.os, hb.tape, hb.output, hb.size, fun b k => hb.block b (by omega)⟩, h.box.keep hb (by omega), h.row.push hrow, ?_⟩
  intro e he
  rcases List.mem_append.1 he with he | he
  · exact h.els e he
  · obtain rfl := List.mem_singleton.1 he
    have hc := hV.b.len
    have ht := h.cut.lt
    exact ⟨hV.s0, hV.s1, hV.d0, hV.d1, hV.o, hV.b.part (by omega) (by omega) (by omega), hV.lt⟩
/-- the new pool's box. -/
theorem CutD.start {bp : Nat} (h : CutD w x Ao co Ab cb w10 A c es) (y : Below w10.heap.size w10 wr) (hb : Bxo wr bp 27 (poL p Ap cp)) (hs : w10.heap.size ≤ bp) (hq : PoAt wr V p Ap cp) (hn : ¬ V bp) (st : StW x p es) (few : es.length ≤ 20) : PutI w x Ao co Ab cb bp wr A c es V p Ap cp := by
  have hlt := h.box.lt
  exact ⟨h.below.trans (y.mono h.below.size), h.box.keep y hlt, h.row.keep y, h.els, hb, hq, hn, by omega, fun g hg => by have := h.row.block_ge g hg; omega, st, few⟩
end
section
variable {w w' : World} {base : Nat} {A : Option Addr} {ad : Addr} {c : Nat} {es : List Ep}
/-- the first packets of a row, the packets behind one of them: their cells, from an address on. -/
theorem OwnK.rdFst (h : OwnK w base (some ad) c es) (k : Nat) : ∀ j u, ((es.take k).flatMap Ep.L)[j]? = some u → w.cell? (ad.add j) = some u := fun j u hj => by
  rcases h.rdTake k with h' | ⟨ad', e, h'⟩
  · rw [h'] at hj; cases hj
  · injection e with e; subst e; exact h' j u hj
theorem OwnK.rdIf (h : OwnK w base (some ad) c es) {k : Nat} (hk : k < es.length) : ∃ ad4, (if c = k + 1 then some ad else some (ad.add ((k + 1) * 11))) = some ad4 ∧ ∀ Y, Below w.heap.size w Y → ∀ j u, ((es.drop (k + 1)).flatMap Ep.L)[j]? = some u → Y.cell? (ad4.add j) = some u := by
  have hc := h.cap.1
  by_cases e : c = k + 1
  · refine ⟨ad, if_pos e, fun Y y j u hj => ?_⟩
    rw [List.drop_eq_nil_of_le (by omega)] at hj
    cases hj
  · refine ⟨_, if_neg e, fun Y y j u hj => ?_⟩
    rcases own_addr h with ⟨hn, _⟩ | ⟨g, hg, _, _⟩
    · cases hn
    · injection hg with hg
      subst hg
      rcases (h.keep y).rdDrop hk with h' | ⟨ad', e', h'⟩
      · rw [h'] at hj; cases hj
      · rw [if_neg e] at e'
        injection e' with e'
        have := h' j u hj
        rw [← e'] at this
        rw [Addr.add_mid, Addr.add_mid, Nat.zero_add]
        rw [Addr.add_mid] at this
        exact this
theorem flatK_len (es : List Ep) : (es.flatMap Ep.L).length = es.length * 11 := flat_len Ep.L 11 Ep.len es
end
/-- a block of the call's own grew: nothing below it turns. -/
theorem grown_own {w0 w w' : World} {row : Option Nat} (h : w.grownBy w' row) (hr : ∀ g, row = some g → w0.heap.size ≤ g) (hs : w0.heap.size ≤ w.heap.size) : Below w0.heap.size w w' :=
  ⟨h.os, h.tape, h.output, h.size, fun b hb => h.block b (by omega) (fun e => by have := hr b e.symm; omega)⟩
theorem own_rest {w : World} {base : Nat} {A : Option Addr} {c k : Nat} {es : List Ep} (hk : k < es.length) (h : w.ownsRow base 33 11 (.slice A (0 + k + (es.length - (k + 1))) c) (0 + k + (es.length - (k + 1))) ([] ++ (es.take k).flatMap Ep.L ++ (es.drop (k + 1)).flatMap Ep.L)) : OwnK w base A c (es.take k ++ es.drop (k + 1)) := by
  have e : (es.take k ++ es.drop (k + 1)).length = 0 + k + (es.length - (k + 1)) := by rw [List.length_append, List.length_take, List.length_drop]; omega
  unfold OwnK
  rw [e, List.flatMap_append]
  exact h
end Go.Proofs.Ythejakbjekjhjaa

/- Contracts of the document's own answers for package ip: fits. -/
namespace Go.Proofs.Ythejakbjekjhjaa
open Go.ChangeShapes Go.WideShapes Go.ChangeAt Go.RowKit
set_option linter.unusedVariables false

set_option maxHeartbeats 1000000 in
theorem rfits (p : Pk) (Ao : Option Addr) (co : Nat) (Ab : Option Addr) (cb : Nat) (w : World) (ho : p.opts.length ≤ 16777216) (hb : p.body.length ≤ 16777216) (f0 : 0 ≤ p.off) (f1 : p.off ≤ 65528) :
    Calls Try.prog 31 #[pkV p Ao co Ab cb] w fun e w' => e = .returned (.bool (fitsB p)) ∧ Below w.heap.size w w' := by
  unfold fitsB
  have t1 : ((p.body.length : Int) == 0) = decide (p.body.length = 0) := by rw [Bool.eq_iff_iff]; simp
  go_enter Try.func31, Try.ntmps31
  go_wp2
  all_goals (go_ret; refine ⟨ret_bool ?_, (Below.refl _ _).alloc (Nat.le_refl _) _⟩)
  all_goals first | (simp [*]; done) | (simp; omega) | (rw [Bool.eq_iff_iff]; simp [*]; done) | (rw [Bool.eq_iff_iff]; simp [*]; omega) | (rw [Bool.eq_iff_iff]; simp; omega) | (have hx : 0 < p.body.length := List.length_pos_iff.2 (by assumption); have hy : p.body.length % 8 = 0 := (by omega); simp [*]; done)
end Go.Proofs.Ythejakbjekjhjaa
