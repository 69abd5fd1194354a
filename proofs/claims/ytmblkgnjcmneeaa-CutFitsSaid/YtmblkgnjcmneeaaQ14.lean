/- Lemmas, several texts in one. -/
import Derived.Test.YtmblkgnjcmneeaaQ13
import Derived.Test.YtmblkgnjcmneeaaQ02
import Derived.Test.YtmblkgnjcmneeaaQ01
import Derived.Deep.RegionHeld3
import Derived.Test.YtmblkgnjcmneeaaQ07
/- The pieces that are left, and how a packet is cut: plain mathematics. -/
namespace Go.Proofs.Ytmblkgnjcmneeaa
open Go.RowKit
set_option linter.unusedVariables false

/-- the pieces that are left, in their order. -/
def unW (x : Pk) : Mk → List Pk
  | [] => []
  | (r, true) :: t => unW x t
  | (r, false) :: t => pieceW x r (!t.isEmpty) :: unW x t
theorem un_nil (x : Pk) : ∀ M : Mk, unW x M = [] ↔ allT M = true
  | [] => by simp [unW, allT]
  | (r, true) :: t => by
    have := un_nil x t
    show unW x t = [] ↔ _
    rw [this]
    simp [allT]
  | (r, false) :: t => by simp [unW, allT]
theorem un_at (x : Pk) : ∀ (M : Mk) (k : Nat) (y : Pk), (unW x M)[k]? = some y → ∃ (i : Nat) (r : Rn), M[i]? = some (r, false) ∧ y = pieceW x r (decide (i + 1 < M.length)) ∧ unW x (setM M i r) = (unW x M).take k ++ (unW x M).drop (k + 1)
  | [], k, y, h => by simp [unW] at h
  | (a, true) :: t, k, y, h => by
    obtain ⟨i, r, h1, h2, h3⟩ := un_at x t k y h
    refine ⟨i + 1, r, by simpa using h1, ?_, ?_⟩
    · rw [h2]; congr 1; simp
    · show unW x ((a, true) :: setM t i r) = _
      exact h3
  | (a, false) :: t, 0, y, h => by
    have hy : y = pieceW x a (!t.isEmpty) := by simpa [unW] using h.symm
    refine ⟨0, a, rfl, ?_, ?_⟩
    · rw [hy]; congr 1; cases t <;> simp
    · show unW x ((a, true) :: t) = _
      simp [unW]
  | (a, false) :: t, k + 1, y, h => by
    obtain ⟨i, r, h1, h2, h3⟩ := un_at x t k y (by simpa [unW] using h)
    refine ⟨i + 1, r, by simpa using h1, ?_, ?_⟩
    · rw [h2]; congr 1; simp
    · show unW x ((a, false) :: setM t i r) = _
      have he : (setM t i r).isEmpty = t.isEmpty := by
        have hl := set_length t i r
        rw [Bool.eq_iff_iff, List.isEmpty_iff_length_eq_zero, List.isEmpty_iff_length_eq_zero, hl]
      show pieceW x a (!(setM t i r).isEmpty) :: unW x (setM t i r) = _
      rw [he, h3]
      rfl
/-- a packet that was cut so far. -/
structure CutOk (x : Pk) (P : List Rn) (at_ : Nat) : Prop where
  seq : SeqR 0 P
  held : heldR P = at_
  data : dataR P = x.body.take at_
  m8 : ∀ r ∈ P, r.off % 8 = 0 ∧ r.data.length % 8 = 0
  a8 : at_ % 8 = 0
  lt : at_ < x.body.length
theorem cut_none (x : Pk) (h : 0 < x.body.length) : CutOk x [] 0 := ⟨trivial, rfl, by simp [dataR], (fun r h => by cases h), rfl, h⟩
theorem held_snoc (r : Rn) : ∀ l : List Rn, heldR (l ++ [r]) = heldR l + r.data.length
  | [] => by simp [heldR]
  | a :: t => by simp only [List.cons_append, heldR, held_snoc r t]; omega
theorem data_snoc (r : Rn) : ∀ l : List Rn, dataR (l ++ [r]) = dataR l ++ r.data
  | [] => by simp [dataR]
  | a :: t => by simp only [List.cons_append, dataR, data_snoc r t, List.append_assoc]
theorem seq_snoc (r : Rn) : ∀ (l : List Rn) (k : Int), SeqR k l → r.off = k + (heldR l : Int) → 0 < r.data.length → SeqR k (l ++ [r])
  | [], k, _, h, hl => ⟨by simpa [heldR] using h, hl, trivial⟩
  | a :: t, k, ⟨h1, h2, h3⟩, h, hl => ⟨h1, h2, seq_snoc r t (stopR a) h3 (by rw [h]; unfold stopR; simp only [heldR]; omega) hl⟩
theorem CutOk.next {x : Pk} {P : List Rn} {at_ to_ : Nat} (h : CutOk x P at_) (h1 : at_ < to_) (h8 : to_ % 8 = 0) (hl : to_ < x.body.length) : CutOk x (P ++ [⟨(at_ : Int), (x.body.take to_).drop at_⟩]) to_ := by
  have a8 := h.a8
  have e : ((x.body.take to_).drop at_).length = to_ - at_ := by rw [List.length_drop, List.length_take]; omega
  refine ⟨seq_snoc _ P 0 h.seq (by rw [h.held]; simp) (by rw [e]; omega), ?_, ?_, ?_, h8, hl⟩
  · rw [held_snoc, h.held]; show at_ + ((x.body.take to_).drop at_).length = to_; rw [e]; omega
  · rw [data_snoc, h.data]
    show x.body.take at_ ++ (x.body.take to_).drop at_ = x.body.take to_
    have : x.body.take at_ = (x.body.take to_).take at_ := by rw [List.take_take, Nat.min_eq_left (by omega)]
    rw [this, List.take_append_drop]
  · intro r hr
    rcases List.mem_append.1 hr with hr | hr
    · exact h.m8 r hr
    · rw [List.mem_singleton.1 hr]
      show (at_ : Int) % 8 = 0 ∧ ((x.body.take to_).drop at_).length % 8 = 0
      rw [e]; omega
def freshM (P : List Rn) : Mk := P.map (fun r => (r, false))
theorem fresh_all (P : List Rn) : allR (freshM P) = P := by unfold allR freshM; rw [List.map_map]; exact List.map_id P
theorem fresh_tk : ∀ P : List Rn, tkR (freshM P) = []
  | [] => rfl
  | a :: t => fresh_tk t
theorem un_fresh (x : Pk) (r : Rn) : ∀ P : List Rn, unW x (freshM (P ++ [r])) = P.map (fun a => pieceW x a true) ++ [pieceW x r false]
  | [] => rfl
  | a :: t => by
    have ih := un_fresh x r t
    show pieceW x a (!(freshM (t ++ [r])).isEmpty) :: unW x (freshM (t ++ [r])) = pieceW x a true :: (t.map _ ++ _)
    rw [ih]
    congr 2
    unfold freshM
    simp
theorem CutOk.whole {room : Int} {x : Pk} {P : List Rn} {at_ : Nat} (h : CutOk x P at_) (hP : P ≠ []) (hm : May x) (h0 : x.off = 0) (hf : x.mf = false) (hs : (x.body.length : Int) ≤ room) : WholeP room x (freshM (P ++ [⟨(at_ : Int), x.body.drop at_⟩])) := by
  have lt := h.lt
  have e : (x.body.drop at_).length = x.body.length - at_ := List.length_drop
  refine ⟨hm, h0, hf, ?_, ?_, ?_, ?_, ?_, hs⟩
  · rw [fresh_all]
    exact seq_snoc _ P 0 h.seq (by rw [h.held]; simp) (by rw [e]; omega)
  · rw [fresh_all, data_snoc, h.data]
    show x.body.take at_ ++ x.body.drop at_ = x.body
    exact List.take_append_drop _ _
  · rw [fresh_all]
    intro r hr
    rcases List.mem_append.1 hr with hr | hr
    · exact (h.m8 r hr).1
    · rw [List.mem_singleton.1 hr]
      have := h.a8
      show (at_ : Int) % 8 = 0
      omega
  · intro i r hi hl
    have hlen : (freshM (P ++ [⟨(at_ : Int), x.body.drop at_⟩])).length = P.length + 1 := by simp [freshM]
    rw [hlen] at hl
    unfold freshM at hi
    rw [List.getElem?_map, Option.map_eq_some_iff] at hi
    obtain ⟨s, hs', he⟩ := hi
    have hsr : s = r := by injection he
    rw [List.getElem?_append_left (by omega)] at hs'
    rw [← hsr]
    exact (h.m8 s (List.mem_of_getElem? hs')).2
  · have : 0 < P.length := List.length_pos_iff.2 hP
    simp [freshM]; omega
theorem pool_fresh (room : Int) (x : Pk) (P : List Rn) : poolW room x (freshM P) = ⟨room, 10, 0, []⟩ := by unfold poolW; rw [fresh_tk]; rfl
theorem right_new {room life : Int} (h0 : 1 ≤ room) (h1 : room ≤ 1048576) (h2 : 1 ≤ life) (h3 : life ≤ 1048576) : RightP ⟨room, life, 0, []⟩ :=
  ⟨h0, h1, h2, h3, by show (0 : Int) ≤ 0; omega, by show (0 : Int) ≤ 1099511627776; omega, by simp, (fun b hb => by cases hb), by simp, by show ((0 : Nat) : Int) ≤ room; omega⟩
end Go.Proofs.Ytmblkgnjcmneeaa

/- Rows of packets of a call's own: pieces of a packet that is cut, and the pool that takes them. -/
namespace Go.Proofs.Ytmblkgnjcmneeaa
open Go.ChangeShapes Go.WideShapes Go.ChangeAt Go.RowKit
set_option linter.unusedVariables false
set_option linter.unusedSimpArgs false

/-- a packet of a row, with where its parts lie. -/
structure Ep where
  p : Pk
  Ao : Option Addr
  co : Nat
  Ab : Option Addr
  cb : Nat
def Ep.L (e : Ep) : List Value := pkL e.p e.Ao e.co e.Ab e.cb
theorem Ep.len (e : Ep) : e.L.length = 11 := rfl
def OwnK (w : World) (base : Nat) (A : Option Addr) (c : Nat) (es : List Ep) : Prop := w.ownsRow base 25 11 (.slice A es.length c) es.length (es.flatMap Ep.L)
theorem info_ipz : (Try.prog.info? 25).map (fun i => (i.zero, i.size, i.bytes)) = some (some (.agg #[.int .i64 0, .int .i64 0, .bool false, .bool false, .int .i64 0, .int .i64 0, .int .i64 0, .int .u32 0, .int .u32 0, .slice none 0 0, .slice none 0 0]), 11, 104) := by kernel_rfl
theorem ep_one (es : List Ep) : ∀ u ∈ es.flatMap Ep.L, u.oneCell' = true := fun u hu => by
  obtain ⟨e, _, he⟩ := List.mem_flatMap.1 hu
  simp only [Ep.L, List.mem_cons, List.not_mem_nil, or_false] at he
  rcases he with rfl | rfl | rfl | rfl | rfl | rfl | rfl | rfl | rfl | rfl | rfl <;> rfl
section
variable {w w' : World} {base : Nat} {A : Option Addr} {c : Nat} {es : List Ep}
theorem OwnK.none_ (w : World) (base : Nat) : OwnK w base none 0 [] := own_none w base _ _
theorem OwnK.keep (h : OwnK w base A c es) (y : Below w.heap.size w w') : OwnK w' base A c es := own_keepA h (fun g hg => y.block g (by
  rcases own_addr h with ⟨rfl, _⟩ | ⟨g', rfl, _, hl⟩
  · cases hg
  · injection hg with hg; subst hg; exact hl))
theorem OwnK.only {b : Nat} (h : OwnK w base A c es) (ho : Only b w w') (hn : ∀ g, blk A = some g → g ≠ b) : OwnK w' base A c es := own_keepA h (fun g hg => ho.block g (hn g hg))
theorem OwnK.cap (h : OwnK w base A c es) : es.length ≤ c ∧ c ≤ 9223372036854775807 := by have := own_cap h; unfold maxLen at this; exact this
theorem OwnK.cell {g : Nat} (h : OwnK w base (some ⟨g, 0, none⟩) c es) {k j : Nat} {v : Value} (hk : k < es.length) (hv : (es[k].L)[j]? = some v) : w.cell? ⟨g, k * 11 + j, none⟩ = some v := by
  have hi : j < 11 := by have := (List.getElem?_eq_some_iff.1 hv).1; rw [Ep.len] at this; exact this
  have : k * 11 + 11 ≤ es.length * 11 := by rw [← Nat.succ_mul]; exact Nat.mul_le_mul_right 11 hk
  rw [own_cells h (k * 11 + j) (by omega), flat_get Ep.L 11 Ep.len es k j hk hi]
  exact hv
/-- a packet of the row, as a walk loads it. -/
theorem OwnK.at_ (h : OwnK w base A c es) {k : Nat} (hk : k < es.length) : ∃ ad : Addr, A = some ad ∧ ∀ Y, Below w.heap.size w Y → ∀ j v, (es[k].L)[j]? = some v → Y.cell? ((ad.add (k * 11)).add j) = some v := by
  rcases own_addr h with ⟨_, hz, _⟩ | ⟨g, rfl, _, _⟩
  · omega
  · refine ⟨_, rfl, fun Y y j v hv => ?_⟩
    rw [Addr.add_mid, Addr.add_mid, Nat.zero_add]
    exact (h.keep y).cell hk hv
/-- its first packets, read. -/
theorem OwnK.rdTake (h : OwnK w base A c es) (k : Nat) : RdC w A ((es.take k).flatMap Ep.L) := by
  rcases own_addr h with ⟨_, hz, _⟩ | ⟨g, rfl, _, _⟩
  · have : es = [] := List.eq_nil_of_length_eq_zero hz
    subst this; exact .inl (by simp)
  · refine .inr ⟨_, rfl, fun j u hj => ?_⟩
    rw [← flat_take Ep.L 11 Ep.len, List.getElem?_take] at hj
    split at hj
    · have hl := (List.getElem?_eq_some_iff.1 hj).1
      rw [flat_len Ep.L 11 Ep.len] at hl
      rw [Addr.add_mid, Nat.zero_add, own_cells h j hl]
      exact hj
    · cases hj
/-- the packets behind one of them, read. -/
theorem OwnK.rdDrop {g : Nat} (h : OwnK w base (some ⟨g, 0, none⟩) c es) {k : Nat} (hk : k < es.length) : RdC w (if c = k + 1 then some ⟨g, 0, none⟩ else some ⟨g, (k + 1) * 11, none⟩) ((es.drop (k + 1)).flatMap Ep.L) := by
  have hc := h.cap.1
  by_cases e : c = k + 1
  · exact .inl (by rw [List.drop_eq_nil_of_le (by omega)]; rfl)
  · rw [if_neg e]
    refine .inr ⟨_, rfl, fun j u hj => ?_⟩
    rw [← flat_drop Ep.L 11 Ep.len, List.getElem?_drop] at hj
    have hl := (List.getElem?_eq_some_iff.1 hj).1
    rw [flat_len Ep.L 11 Ep.len] at hl
    rw [Addr.add_mid, own_cells h _ hl]
    exact hj
end
/-- while a packet is cut: its box, the row of its pieces. -/
structure CutI (w : World) (x : Pk) (Ao : Option Addr) (co : Nat) (Ab : Option Addr) (cb : Nat) (wr : World) (A : Option Addr) (c : Nat) (es : List Ep) (P : List Rn) (at_ : Nat) : Prop where
  below : Below w.heap.size w wr
  box : Bxo wr w.heap.size 25 (pkL x Ao co Ab cb)
  row : OwnK wr (w.heap.size + 1) A c es
  els : ∀ e ∈ es, PkAt w (oldV w) e.p e.Ao e.co e.Ab e.cb
  eq : es.map Ep.p = P.map (fun r => pieceW x r true)
  cut : CutOk x P at_
section
variable {w wr wx wy : World} {x : Pk} {Ao Ab A A' : Option Addr} {co cb c c' at_ : Nat} {es es' : List Ep} {P : List Rn}
theorem CutI.len (h : CutI w x Ao co Ab cb wr A c es P at_) : es.length = P.length := by have := congrArg List.length h.eq; simpa using this
theorem CutI.ne (h : CutI w x Ao co Ab cb wr A c es P at_) : ∀ g, blk A = some g → w.heap.size + 1 ≤ g ∧ g < wr.heap.size := fun g hg => by
  rcases own_addr h.row with ⟨rfl, _⟩ | ⟨g', rfl, h1, h2⟩
  · cases hg
  · injection hg with hg; subst hg; exact ⟨h1, h2⟩
theorem CutI.step (h : CutI w x Ao co Ab cb wr A c es P at_) (y : Below wr.heap.size wr wx) : CutI w x Ao co Ab cb wx A c es P at_ :=
  ⟨h.below.trans (y.mono h.below.size), h.box.keep y h.box.lt, h.row.keep y, h.els, h.eq, h.cut⟩
/-- a store into a box of its own. -/
theorem CutI.only {b : Nat} (h : CutI w x Ao co Ab cb wr A c es P at_) (ho : Only b wr wx) (hb : w.heap.size < b) (hn : ∀ g, blk A = some g → g ≠ b) : CutI w x Ao co Ab cb wx A c es P at_ :=
  ⟨h.below.trans (ho.below (by omega)), h.box.only ho (by omega), h.row.only ho hn, h.els, h.eq, h.cut⟩
end
/-- a piece's bytes: where they lie. -/
theorem ByIn.part {w : World} {V : Nat → Prop} {ad : Addr} {c : Nat} {l : List UInt8} (h : ByIn w V (some ad) c l) {a b : Nat} (hab : a ≤ b) (hb : b ≤ l.length) (hac : a < c) : ByIn w V (some (ad.add a)) (c - a) ((l.take b).drop a) := by
  have e : ((l.take b).drop a).length = b - a := by rw [List.length_drop, List.length_take]; omega
  have := h.len
  have := h.cap
  refine ⟨by omega, by omega, (fun h => by cases h), ?_⟩
  rcases h.bs with h | ⟨ad', e', hlt, hc⟩
  · subst h; exact .inl (by simp)
  · injection e' with e'
    subst e'
    refine .inr ⟨_, rfl, by rw [block_add]; exact hlt, fun j v hj => ?_⟩
    rw [List.getElem?_drop, List.getElem?_take] at hj
    split at hj
    · rw [add_add]; exact hc _ _ hj
    · cases hj
theorem ep_L1 (e : Ep) : ∀ u ∈ e.L, u.oneCell' = true := fun u hu => ep_one [e] u (List.mem_flatMap.2 ⟨e, List.mem_singleton.2 rfl, hu⟩)
section
variable {w wr w9 w10 : World} {x : Pk} {Ao A A' : Option Addr} {adb : Addr} {co cb c c' at_ to_ : Nat} {es : List Ep} {P : List Rn}
/-- the piece from a place to another one. -/
abbrev partR (x : Pk) (a b : Nat) : Rn := ⟨(a : Int), (x.body.take b).drop a⟩
abbrev partE (x : Pk) (more : Bool) (Ao : Option Addr) (co : Nat) (adb : Addr) (cb a b : Nat) : Ep := ⟨pieceW x (partR x a b) more, Ao, co, some (adb.add a), cb - a⟩
theorem part_len (x : Pk) {a b : Nat} (h : a ≤ b) (hb : b ≤ x.body.length) : ((x.body.take b).drop a).length = b - a := by rw [List.length_drop, List.length_take]; omega
/-- a row that a packet was appended to. -/
theorem OwnK.push {w9 w10 : World} {base : Nat} (h : OwnK w9 base A c es) {e : Ep} (hrow : w10.ownsRow base 25 11 (.slice A' (es.length + 1) c') (es.length + 1) (es.flatMap Ep.L ++ e.L)) : OwnK w10 base A' c' (es ++ [e]) := by
  unfold OwnK
  rw [List.length_append, List.flatMap_append]
  simpa using hrow
theorem OwnK.block_ge {base : Nat} (h : OwnK wr base A c es) : ∀ g, blk A = some g → base ≤ g ∧ g < wr.heap.size := fun g hg => by
  rcases own_addr h with ⟨rfl, _⟩ | ⟨g', rfl, h1, h2⟩
  · cases hg
  · injection hg with hg; subst hg; exact ⟨h1, h2⟩
/-- below a block that the row doesn't lie in, nothing turns. -/
theorem grown_below {B : Nat} (hg : w9.grownBy w10 (blk A)) (hA : ∀ g, blk A = some g → B ≤ g) (hB : B ≤ w9.heap.size) : Below B w9 w10 :=
  ⟨hg.os, hg.tape, hg.output, hg.size, fun b hb => hg.block b (by omega) (fun e => by have := hA b e.symm; omega)⟩
theorem CutI.push (h : CutI w x Ao co (some adb) cb w9 A c es P at_) (hV : PkAt w (oldV w) x Ao co (some adb) cb) (t1 : at_ < to_) (t8 : to_ % 8 = 0) (hl : to_ < x.body.length) (hrow : w10.ownsRow (w.heap.size + 1) 25 11 (.slice A' (es.length + 1) c') (es.length + 1) (es.flatMap Ep.L ++ (partE x true Ao co adb cb at_ to_).L)) (hg : w9.grownBy w10 (blk A)) : CutI w x Ao co (some adb) cb w10 A' c' (es ++ [partE x true Ao co adb cb at_ to_]) (P ++ [partR x at_ to_]) to_ := by
  have hlt := h.box.lt
  have hb := grown_below (B := w.heap.size + 1) hg (fun g e => (h.row.block_ge g e).1) (by omega)
  refine ⟨h.below.trans ⟨hb.os, hb.tape, hb.output, hb.size, fun b k => hb.block b (by omega)⟩, h.box.keep hb (by omega), h.row.push hrow, ?_, ?_, h.cut.next t1 t8 hl⟩
  · intro e he
    rcases List.mem_append.1 he with he | he
    · exact h.els e he
    · obtain rfl := List.mem_singleton.1 he
      have hc := hV.b.len
      exact ⟨hV.s0, hV.s1, hV.d0, hV.d1, hV.o, hV.b.part (by omega) (by omega) (by omega), hV.lt⟩
  · rw [List.map_append, List.map_append, h.eq]
    rfl
end
end Go.Proofs.Ytmblkgnjcmneeaa

/- Pieces that are left, and the pool that has taken the others. -/
namespace Go.Proofs.Ytmblkgnjcmneeaa
open Go.ChangeShapes Go.WideShapes Go.ChangeAt Go.RowKit
set_option linter.unusedVariables false
set_option linter.unusedSimpArgs false

/-- the pool has taken the pieces that are not left; or nothing is left; or the packet comes alone. -/
structure StW (room : Int) (x : Pk) (p : Po) (es : List Ep) : Prop where
  right : RightP p
  st : (es = [] ∧ p.list = []) ∨ (es.map Ep.p = [x] ∧ p.list = [] ∧ May x ∧ x.off = 0 ∧ x.mf = false) ∨ ∃ M, WholeP room x M ∧ p = poolW room x M ∧ es.map Ep.p = unW x M ∧ es ≠ []
section
variable {room : Int} {x : Pk} {p : Po} {es : List Ep} {P : List Rn} {at_ k : Nat}
theorem StW.start (h : CutOk x P at_) (hP : P ≠ []) (hm : May x) (h0 : x.off = 0) (hf : x.mf = false) (hs : x.body.length ≤ 600) (heq : es.map Ep.p = P.map (fun r => pieceW x r true)) {e : Ep} (he : e.p = pieceW x (partR x at_ x.body.length) false) : StW 1000 x ⟨1000, 10, 0, []⟩ (es ++ [e]) :=
  ⟨right_new (by omega) (by omega) (by omega) (by omega), .inr (.inr ⟨freshM (P ++ [⟨(at_ : Int), x.body.drop at_⟩]), h.whole hP hm h0 hf (by omega), (pool_fresh 1000 x _).symm, by
    rw [un_fresh, List.map_append, heq, List.map_cons, List.map_nil, he]
    unfold partR
    rw [List.take_length], by simp⟩)⟩
/-- pieces that were told by their runs. -/
theorem StW.fresh (r1 : 1 ≤ room) (r2 : room ≤ 1048576) (W : WholeP room x (freshM P)) (heq : es.map Ep.p = unW x (freshM P)) (hP : P ≠ []) : StW room x ⟨room, 10, 0, []⟩ es :=
  ⟨right_new r1 r2 (by omega) (by omega), .inr (.inr ⟨freshM P, W, (pool_fresh room x _).symm, heq, fun h => by
    subst h
    have h1 : unW x (freshM P) = [] := heq.symm
    have := (un_nil x (freshM P)).1 h1
    cases P with
    | nil => exact hP rfl
    | cons a t => simp [freshM, allT] at this⟩)⟩
theorem StW.take (h : StW room x p es) (hk : k < es.length) : ∃ t, takeP p es[k].p = t ∧ t.err = 0 ∧ t.ok = (es.take k ++ es.drop (k + 1)).isEmpty ∧ (t.ok = true → t.out = x) ∧ StW room x t.pool (es.take k ++ es.drop (k + 1)) := by
  have hkept := (take_kept h.right es[k].p).1.right
  rcases h.st with ⟨h1, _⟩ | ⟨h1, h2, hm, h0, hf⟩ | ⟨M, W, hp, hes, _⟩
  · subst h1; simp at hk
  · have hl : es.length = 1 := by have := congrArg List.length h1; simpa using this
    have hk0 : k = 0 := by omega
    subst hk0
    have hx : es[0].p = x := by
      have : (es.map Ep.p)[0]? = some x := by rw [h1]; rfl
      simpa [hk] using this
    have he : es.take 0 ++ es.drop (0 + 1) = [] := by rw [List.take_zero, List.nil_append, List.drop_eq_nil_of_le (by omega)]
    have hT : takeP p es[0].p = ⟨p, x, true, 0⟩ := by
      rw [hx]
      exact take_piece ⟨hf, h0⟩
    rw [hT] at hkept
    exact ⟨_, hT, rfl, by rw [he]; rfl, fun _ => rfl, hkept, .inl ⟨he, h2⟩⟩
  · obtain ⟨i, r, hi, hy, hun⟩ := un_at x M k es[k].p (by rw [← hes]; simp [hk])
    have hes' : (es.take k ++ es.drop (k + 1)).map Ep.p = unW x (setM M i r) := by
      rw [hun, ← hes, List.map_append, List.map_take, List.map_drop]
    have hT := W.take (hp ▸ h.right) hi
    rw [← hy, ← hp] at hT
    by_cases hall : allT (setM M i r) = true
    · have he : es.take k ++ es.drop (k + 1) = [] := by
        have := (un_nil x (setM M i r)).2 hall
        rw [← hes'] at this
        exact List.map_eq_nil_iff.1 this
      rw [if_pos hall] at hT
      rw [hT] at hkept
      exact ⟨_, hT, rfl, by rw [he]; rfl, fun _ => rfl, hkept, .inl ⟨he, rfl⟩⟩
    · have he : es.take k ++ es.drop (k + 1) ≠ [] := fun he => hall ((un_nil x (setM M i r)).1 (by rw [← hes', he]; rfl))
      rw [if_neg hall] at hT
      rw [hT] at hkept
      have hb : (es.take k ++ es.drop (k + 1)).isEmpty = false := by simpa using he
      exact ⟨_, hT, rfl, by rw [hb], (fun h => by cases h), hkept, .inr (.inr ⟨setM M i r, W.next hi, rfl, hes', he⟩)⟩
theorem StW.done (h : StW room x p []) : p.list = [] := by
  rcases h.st with ⟨_, h1⟩ | ⟨_, h1, _⟩ | ⟨_, _, _, _, h1⟩
  · exact h1
  · exact h1
  · exact absurd rfl h1
theorem StW.left (h : StW room x p es) (hk : k < es.length) : (es[k].p).opts.length ≤ 16777216 ∧ (es[k].p).body.length ≤ 16777216 := by
  have hm : ∃ y, May y ∧ es[k].p = y := by
    rcases h.st with ⟨h1, _⟩ | ⟨h1, h2, hm, h0, hf⟩ | ⟨M, W, hp, hes, _⟩
    · subst h1; simp at hk
    · have hl : es.length = 1 := by have := congrArg List.length h1; simpa using this
      have hk0 : k = 0 := by omega
      subst hk0
      have hx : es[0].p = x := by
        have : (es.map Ep.p)[0]? = some x := by rw [h1]; rfl
        simpa [hk] using this
      exact ⟨x, hm, hx⟩
    · obtain ⟨i, r, hi, hy, _⟩ := un_at x M k es[k].p (by rw [← hes]; simp [hk])
      exact ⟨_, (W.may_piece hi).1, hy⟩
  obtain ⟨y, hm, hy⟩ := hm
  rw [hy]
  have := hm.p40
  have := hm.fit
  have := hm.o0
  omega
end
/-- while the pieces are taken: the packet's box, the row of the pieces that are left, the pool's box, the pool. w: the world ahead of it; U: the blocks that the pieces' parts lie in. -/
structure PutI (room : Int) (w : World) (U : Nat → Prop) (x : Pk) (Ao : Option Addr) (co : Nat) (Ab : Option Addr) (cb : Nat) (bx bp : Nat) (wr : World) (A : Option Addr) (c : Nat) (es : List Ep) (V : Nat → Prop) (p : Po) (Ap : Option Addr) (cp : Nat) : Prop where
  below : Below w.heap.size w wr
  box : Bxo wr bx 25 (pkL x Ao co Ab cb)
  row : OwnK wr 0 A c es
  els : ∀ e ∈ es, PkAt w U e.p e.Ao e.co e.Ab e.cb
  pbox : Bxo wr bp 42 (poL p Ap cp)
  po : PoAt wr V p Ap cp
  out : ¬ V bp
  b0 : w.heap.size ≤ bp
  bxn : bx ≠ bp
  ne : ∀ g, blk A = some g → g ≠ bp
  st : StW room x p es
  few : es.length ≤ 100000
theorem OwnK.wide {w : World} {A : Option Addr} {c : Nat} {es : List Ep} {b b' : Nat} (h : OwnK w b A c es) (hb : b' ≤ b) : OwnK w b' A c es := by
  rcases own_addr h with ⟨rfl, hz, rfl⟩ | ⟨g, rfl, h1, h2⟩
  · have : es = [] := List.eq_nil_of_length_eq_zero hz
    subst this; exact OwnK.none_ _ _
  · obtain ⟨cur, a1, a2, a3, a4, a5, a6, a7⟩ := own_open h
    exact own_shut a1 a2 a3 (by omega) a5 a6 a7
section
variable {room : Int} {w wr wx wy : World} {U : Nat → Prop} {x : Pk} {Ao Ab A A' Ap Ap' : Option Addr} {co cb bx bp c c' cp cp' k : Nat} {es es' : List Ep} {V V' : Nat → Prop} {p q : Po}
theorem PutI.step (h : PutI room w U x Ao co Ab cb bx bp wr A c es V p Ap cp) (y : Below wr.heap.size wr wx) : PutI room w U x Ao co Ab cb bx bp wx A c es V p Ap cp :=
  ⟨h.below.trans (y.mono h.below.size), h.box.keep y h.box.lt, h.row.keep y, h.els, h.pbox.keep y h.pbox.lt, h.po.at y, h.out, h.b0, h.bxn, h.ne, h.st, h.few⟩
/-- another pool is put into the box, and the pieces that are left into a row of their own. -/
theorem PutI.put {wz : World} {B : Nat} (h : PutI room w U x Ao co Ab cb bx bp wr A c es V p Ap cp) (y : Below wr.heap.size wr wx) (hq : PoAt wx V' q Ap' cp') (hn : ¬ V' bp) (ho : Only bp wx wy) (hb : Bxo wy bp 42 (poL q Ap' cp')) (z : Below wy.heap.size wy wz) (hrow : OwnK wz B A' c' es') (hB : wr.heap.size ≤ B) (hsub : ∀ e ∈ es', e ∈ es) (hl : es'.length ≤ es.length) (st : StW room x q es') : PutI room w U x Ao co Ab cb bx bp wz A' c' es' V' q Ap' cp' := by
  have lx := h.box.lt
  have lp := h.pbox.lt
  have s1 := y.size
  have s2 := ho.size
  have hbel := (h.below.trans (y.mono h.below.size)).trans (ho.below h.b0)
  refine ⟨hbel.trans (z.mono hbel.size), ((h.box.keep y lx).only ho h.bxn).keep z (by omega), hrow.wide (Nat.zero_le _), fun e he => h.els e (hsub e he), hb.keep z hb.lt, (hq.only ho hn).at z, hn, h.b0, h.bxn, ?_, st, Nat.le_trans hl h.few⟩
  intro g hg e
  have := hrow.block_ge g hg
  omega
theorem PutI.cell (h : PutI room w U x Ao co Ab cb bx bp wr A c es V p Ap cp) (hk : k < es.length) : PkAt w U es[k].p es[k].Ao es[k].co es[k].Ab es[k].cb := h.els _ (List.getElem_mem hk)
end
/-- all pieces of a packet that was cut, in a row. -/
structure CutD (w : World) (x : Pk) (Ao : Option Addr) (co : Nat) (Ab : Option Addr) (cb : Nat) (wr : World) (A : Option Addr) (c : Nat) (es : List Ep) : Prop where
  below : Below w.heap.size w wr
  box : Bxo wr w.heap.size 25 (pkL x Ao co Ab cb)
  row : OwnK wr (w.heap.size + 1) A c es
  els : ∀ e ∈ es, PkAt w (oldV w) e.p e.Ao e.co e.Ab e.cb
section
variable {room : Int} {w wr wx w9 w10 : World} {x : Pk} {Ao A A' Ab Ap : Option Addr} {adb : Addr} {co cb c c' cp at_ : Nat} {es : List Ep} {P : List Rn} {V : Nat → Prop} {p : Po}
theorem CutI.last (h : CutI w x Ao co (some adb) cb w9 A c es P at_) (hV : PkAt w (oldV w) x Ao co (some adb) cb) (hrow : w10.ownsRow (w.heap.size + 1) 25 11 (.slice A' (es.length + 1) c') (es.length + 1) (es.flatMap Ep.L ++ (partE x false Ao co adb cb at_ x.body.length).L)) (hg : w9.grownBy w10 (blk A)) : CutD w x Ao co (some adb) cb w10 A' c' (es ++ [partE x false Ao co adb cb at_ x.body.length]) := by
  have hlt := h.box.lt
  have hb := grown_below (B := w.heap.size + 1) hg (fun g e => (h.row.block_ge g e).1) (by omega)
  refine ⟨h.below.trans ⟨hb.os, hb.tape, hb.output, hb.size, fun b k => hb.block b (by omega)⟩, h.box.keep hb (by omega), h.row.push hrow, ?_⟩
  intro e he
  rcases List.mem_append.1 he with he | he
  · exact h.els e he
  · obtain rfl := List.mem_singleton.1 he
    have hc := hV.b.len
    have ht := h.cut.lt
    exact ⟨hV.s0, hV.s1, hV.d0, hV.d1, hV.o, hV.b.part (by omega) (by omega) (by omega), hV.lt⟩
/-- the new pool's box. -/
theorem CutD.start {bp : Nat} (h : CutD w x Ao co Ab cb w10 A c es) (y : Below w10.heap.size w10 wr) (hb : Bxo wr bp 42 (poL p Ap cp)) (hs : w10.heap.size ≤ bp) (hq : PoAt wr V p Ap cp) (hn : ¬ V bp) (st : StW room x p es) (few : es.length ≤ 100000) : PutI room w (oldV w) x Ao co Ab cb w.heap.size bp wr A c es V p Ap cp := by
  have hlt := h.box.lt
  exact ⟨h.below.trans (y.mono h.below.size), h.box.keep y hlt, (h.row.keep y).wide (Nat.zero_le _), h.els, hb, hq, hn, by omega, by omega, fun g hg => by have := h.row.block_ge g hg; omega, st, few⟩
end
section
variable {w w' : World} {base : Nat} {A : Option Addr} {ad : Addr} {c : Nat} {es : List Ep}
/-- the first packets of a row, the packets behind one of them: their cells, from an address on. -/
theorem OwnK.rdFst (h : OwnK w base (some ad) c es) (k : Nat) : ∀ j u, ((es.take k).flatMap Ep.L)[j]? = some u → w.cell? (ad.add j) = some u := fun j u hj => by
  rcases h.rdTake k with h' | ⟨ad', e, h'⟩
  · rw [h'] at hj; cases hj
  · injection e with e; subst e; exact h' j u hj
theorem OwnK.rdIf (h : OwnK w base (some ad) c es) {k : Nat} (hk : k < es.length) : ∃ ad4, (if c = k + 1 then some ad else some (ad.add ((k + 1) * 11))) = some ad4 ∧ ∀ Y, Below w.heap.size w Y → ∀ j u, ((es.drop (k + 1)).flatMap Ep.L)[j]? = some u → Y.cell? (ad4.add j) = some u := by
  have hc := h.cap.1
  by_cases e : c = k + 1
  · refine ⟨ad, if_pos e, fun Y y j u hj => ?_⟩
    rw [List.drop_eq_nil_of_le (by omega)] at hj
    cases hj
  · refine ⟨_, if_neg e, fun Y y j u hj => ?_⟩
    rcases own_addr h with ⟨hn, _⟩ | ⟨g, hg, _, _⟩
    · cases hn
    · injection hg with hg
      subst hg
      rcases (h.keep y).rdDrop hk with h' | ⟨ad', e', h'⟩
      · rw [h'] at hj; cases hj
      · rw [if_neg e] at e'
        injection e' with e'
        have := h' j u hj
        rw [← e'] at this
        rw [Addr.add_mid, Addr.add_mid, Nat.zero_add]
        rw [Addr.add_mid] at this
        exact this
theorem flatK_len (es : List Ep) : (es.flatMap Ep.L).length = es.length * 11 := flat_len Ep.L 11 Ep.len es
end
/-- a block of the call's own grew: nothing below it turns. -/
theorem grown_own {w0 w w' : World} {row : Option Nat} (h : w.grownBy w' row) (hr : ∀ g, row = some g → w0.heap.size ≤ g) (hs : w0.heap.size ≤ w.heap.size) : Below w0.heap.size w w' :=
  ⟨h.os, h.tape, h.output, h.size, fun b hb => h.block b (by omega) (fun e => by have := hr b e.symm; omega)⟩
theorem own_rest {w : World} {base : Nat} {A : Option Addr} {c k : Nat} {es : List Ep} (hk : k < es.length) (h : w.ownsRow base 25 11 (.slice A (0 + k + (es.length - (k + 1))) c) (0 + k + (es.length - (k + 1))) ([] ++ (es.take k).flatMap Ep.L ++ (es.drop (k + 1)).flatMap Ep.L)) : OwnK w base A c (es.take k ++ es.drop (k + 1)) := by
  have e : (es.take k ++ es.drop (k + 1)).length = 0 + k + (es.length - (k + 1)) := by rw [List.length_append, List.length_take, List.length_drop]; omega
  unfold OwnK
  rw [e, List.flatMap_append]
  exact h
end Go.Proofs.Ytmblkgnjcmneeaa

/- How a packet is cut: plain mathematics. -/
namespace Go.Proofs.Ytmblkgnjcmneeaa
open Go.RowKit
set_option linter.unusedVariables false

/-- the pieces off the body's beginning, at most 'fuel' of them. -/
def cutF : Nat → Nat → Pk → List Pk
  | 0, _, p => [p]
  | f + 1, n, p => if p.body.length ≤ n then [p] else ⟨p.tos, p.id, p.df, true, p.off, p.ttl, p.proto, p.src, p.dst, p.opts, p.body.take n⟩ :: cutF f n ⟨p.tos, p.id, p.df, p.mf, p.off + n, p.ttl, p.proto, p.src, p.dst, p.opts, p.body.drop n⟩
def cutL (n : Nat) (p : Pk) : List Pk := cutF p.body.length n p
def firstC (n : Nat) (p : Pk) : Pk := ⟨p.tos, p.id, p.df, true, p.off, p.ttl, p.proto, p.src, p.dst, p.opts, p.body.take n⟩
def restC (n : Nat) (p : Pk) : Pk := ⟨p.tos, p.id, p.df, p.mf, p.off + n, p.ttl, p.proto, p.src, p.dst, p.opts, p.body.drop n⟩
/-- how many pieces. -/
def numC (n len : Nat) : Nat := if len ≤ n then 1 else (len + n - 1) / n
def pieceAt (p : Pk) (n m i : Nat) : Pk := ⟨p.tos, p.id, p.df, p.mf || decide (i + 1 < m), p.off + (i * n : Nat), p.ttl, p.proto, p.src, p.dst, p.opts, (p.body.drop (i * n)).take n⟩
theorem numC_le {n len : Nat} (h : len ≤ n) : numC n len = 1 := if_pos h
theorem numC_gt {n len : Nat} (hn : 0 < n) (h : n < len) : numC n len = numC n (len - n) + 1 := by
  unfold numC
  rw [if_neg (by omega)]
  split
  · rw [show len + n - 1 = (len - n - 1) + n * 2 by omega, Nat.add_mul_div_left _ _ hn, Nat.div_eq_of_lt (by omega)]
  · rw [show len + n - 1 = (len - n + n - 1) + n by omega, Nat.add_div_right _ hn]
theorem numC_pos (n len : Nat) (hn : 0 < n) : 1 ≤ numC n len := by
  unfold numC
  split
  · omega
  · exact (Nat.le_div_iff_mul_le hn).2 (by omega)
/-- the last piece begins within the body, and they are enough. -/
theorem numC_bounds (n len : Nat) (hn : 0 < n) : len ≤ numC n len * n ∧ (len ≤ n ∨ (numC n len - 1) * n < len) := by
  unfold numC
  split
  · exact ⟨by omega, .inl (by assumption)⟩
  · have h1 := Nat.div_add_mod (len + n - 1) n
    have h2 := Nat.mod_lt (len + n - 1) hn
    rw [Nat.mul_comm] at h1
    refine ⟨by omega, .inr ?_⟩
    rw [Nat.sub_mul]
    omega
theorem cutF_eq {n : Nat} (hn : 0 < n) : ∀ (f : Nat) (p : Pk), p.body.length ≤ f → cutF f n p = (List.range (numC n p.body.length)).map (pieceAt p n (numC n p.body.length))
  | 0, p, h => by
    have h0 : p.body = [] := List.eq_nil_of_length_eq_zero (by omega)
    rw [numC_le (by omega)]
    simp [cutF, pieceAt, h0]
    cases p; simp_all
  | f + 1, p, h => by
    unfold cutF
    split
    · rename_i hle
      rw [numC_le hle]
      simp [pieceAt, List.take_of_length_le hle]
    · rename_i hgt
      have hd : (p.body.drop n).length = p.body.length - n := List.length_drop
      rw [cutF_eq hn f _ (by show (p.body.drop n).length ≤ f; omega)]
      show _ :: (List.range (numC n (p.body.drop n).length)).map _ = _
      rw [hd, numC_gt hn (show n < p.body.length by omega), List.range_succ_eq_map, List.map_cons, List.map_map]
      have h1 := numC_pos n (p.body.length - n) hn
      congr 1
      · simp [pieceAt]; omega
      · refine List.map_congr_left fun i hi => ?_
        simp only [pieceAt, Function.comp, List.drop_drop]
        have e1 : n + i * n = (i + 1) * n := by rw [Nat.succ_mul]; omega
        have e2 : p.off + (n : Int) + ((i * n : Nat) : Int) = p.off + (((i + 1) * n : Nat) : Int) := by rw [Nat.succ_mul]; omega
        have e3 : decide (i + 1 < numC n (p.body.length - n)) = decide (i + 1 + 1 < numC n (p.body.length - n) + 1) := by simp
        simp only [Nat.succ_eq_add_one, e1, e2, e3]
theorem cutL_eq {n : Nat} (hn : 0 < n) (p : Pk) : cutL n p = (List.range (numC n p.body.length)).map (pieceAt p n (numC n p.body.length)) := cutF_eq hn _ p (Nat.le_refl _)
theorem cutL_le {n : Nat} {p : Pk} (hn : 0 < n) (h : p.body.length ≤ n) : cutL n p = [p] := by
  rw [cutL_eq hn, numC_le h]
  simp [pieceAt, List.take_of_length_le h]
theorem cutL_gt {n : Nat} {p : Pk} (hn : 0 < n) (h : n < p.body.length) : cutL n p = firstC n p :: cutL n (restC n p) := by
  have hd : (restC n p).body.length = p.body.length - n := List.length_drop
  rw [cutL_eq hn (restC n p), ← cutF_eq hn (p.body.length - 1) (restC n p) (by omega)]
  unfold cutL
  obtain ⟨k, hk⟩ : ∃ k, p.body.length = k + 1 := ⟨p.body.length - 1, by omega⟩
  rw [hk]
  show (if p.body.length ≤ n then _ else _) = _
  rw [if_neg (by omega)]
  rfl
theorem cutL_len {n : Nat} (hn : 0 < n) (p : Pk) : (cutL n p).length = numC n p.body.length := by rw [cutL_eq hn]; simp
theorem cutL_get {n : Nat} (hn : 0 < n) (p : Pk) (i : Nat) (h : i < (cutL n p).length) : (cutL n p)[i] = pieceAt p n (numC n p.body.length) i := by
  simp [cutL_eq hn]
end Go.Proofs.Ytmblkgnjcmneeaa

/- What is cut: the document's answer; the pieces fit, and are the packet: plain mathematics. -/
namespace Go.Proofs.Ytmblkgnjcmneeaa
open Go.RowKit
set_option linter.unusedVariables false

/-- how many bytes of the body a piece has. -/
def stepC (p : Pk) (mtu : Int) : Int := (mtu - (20 + (p.opts.length : Int))) / 8 * 8
def cutP (p : Pk) (mtu : Int) : List Pk × Int :=
  if mayB p = false ∨ mtu < 28 ∨ 65535 < mtu then ([], 1)
  else if 20 + (p.opts.length : Int) + (p.body.length : Int) ≤ mtu then ([p], 0)
  else if p.df = true then ([], 7)
  else if stepC p mtu < 8 then ([], 4)
  else (cutL (stepC p mtu).toNat p, 0)
/-- a packet that is cut. -/
structure CutR (p : Pk) (mtu : Int) (l : List Pk) (n : Nat) : Prop where
  may : May p
  m0 : 28 ≤ mtu
  m1 : mtu ≤ 65535
  n0 : 0 < n
  eq : l = cutL n p
  fit : p.body.length ≤ n → 20 + (p.opts.length : Int) + (p.body.length : Int) ≤ mtu
  cut : n < p.body.length → n % 8 = 0 ∧ 8 ≤ n ∧ 20 + (p.opts.length : Int) + (n : Int) ≤ mtu ∧ mtu < 20 + (p.opts.length : Int) + (n : Int) + 8 ∧ mtu < 20 + (p.opts.length : Int) + (p.body.length : Int) ∧ p.df = false
theorem cutP_ok {p : Pk} {mtu : Int} {l : List Pk} (h : cutP p mtu = (l, 0)) : ∃ n, CutR p mtu l n := by
  unfold cutP at h
  split at h
  · cases h
  · rename_i h1
    have hM : mayB p = true := by cases hm : mayB p; exact absurd (.inl hm) h1; rfl
    have h28 : 28 ≤ mtu := by omega
    have h65 : mtu ≤ 65535 := by omega
    split at h
    · rename_i h2
      injection h with h _
      refine ⟨p.body.length + 1, (mayB_iff p).1 hM, h28, h65, by omega, ?_, fun _ => h2, fun h => by omega⟩
      rw [← h, cutL_le (by omega) (by omega)]
    · rename_i h2
      split at h
      · cases h
      · rename_i h3
        split at h
        · cases h
        · rename_i h4
          injection h with h _
          have hs : stepC p mtu = ((stepC p mtu).toNat : Int) := by omega
          have hd : stepC p mtu % 8 = 0 ∧ stepC p mtu ≤ mtu - (20 + (p.opts.length : Int)) ∧ mtu - (20 + (p.opts.length : Int)) < stepC p mtu + 8 := by unfold stepC; omega
          refine ⟨(stepC p mtu).toNat, (mayB_iff p).1 hM, h28, h65, by omega, h.symm, fun hb => by omega, fun hb => ⟨by omega, by omega, by omega, by omega, by omega, by cases hdf : p.df; rfl; exact absurd hdf h3⟩⟩
theorem cutP_err {p : Pk} {mtu : Int} {l : List Pk} {e : Int} (h : cutP p mtu = (l, e)) : (e = 0 ∨ (l = [] ∧ (e = 1 ∨ e = 7 ∨ e = 4))) := by
  unfold cutP at h
  split at h
  · injection h with h1 h2; exact .inr ⟨h1.symm, .inl h2.symm⟩
  · split at h
    · injection h with h1 h2; exact .inl h2.symm
    · split at h
      · injection h with h1 h2; exact .inr ⟨h1.symm, .inr (.inl h2.symm)⟩
      · split at h
        · injection h with h1 h2; exact .inr ⟨h1.symm, .inr (.inr h2.symm)⟩
        · injection h with h1 h2; exact .inl h2.symm
section
variable {p : Pk} {mtu : Int} {l : List Pk} {n : Nat}
theorem CutR.len (h : CutR p mtu l n) : l.length = numC n p.body.length := by rw [h.eq, cutL_len h.n0]
theorem CutR.get (h : CutR p mtu l n) {i : Nat} (hi : i < l.length) : l[i] = pieceAt p n l.length i := by
  have := h.len
  have he := h.eq
  subst he
  rw [cutL_get h.n0, this]
theorem CutR.pos (h : CutR p mtu l n) : 0 < l.length := by rw [h.len]; exact numC_pos _ _ h.n0
/-- where a piece begins, and how long it is. -/
theorem CutR.bytes (h : CutR p mtu l n) {i : Nat} (hi : i < l.length) : (i = 0 ∨ (n < p.body.length ∧ i * n < p.body.length)) ∧ (i + 1 < l.length → (i + 1) * n < p.body.length) ∧ (i + 1 = l.length → p.body.length ≤ i * n + n) ∧ (n < p.body.length ∨ l.length = 1) := by
  have hl := h.len
  obtain ⟨b1, b2⟩ := numC_bounds n p.body.length h.n0
  rw [← hl] at b1 b2
  by_cases hn : p.body.length ≤ n
  · have h1 : l.length = 1 := by rw [hl, numC_le hn]
    refine ⟨.inl (by omega), fun k => by omega, fun k => ?_, .inr h1⟩
    have : i = 0 := by omega
    subst this; omega
  · have b3 : (l.length - 1) * n < p.body.length := by rcases b2 with b2 | b2; omega; exact b2
    refine ⟨?_, fun k => ?_, fun k => ?_, .inl (by omega)⟩
    · have := Nat.mul_le_mul_right n (show i ≤ l.length - 1 by omega)
      exact .inr ⟨by omega, by omega⟩
    · have := Nat.mul_le_mul_right n (show i + 1 ≤ l.length - 1 by omega)
      omega
    · rw [← k, Nat.succ_mul] at b1
      omega
theorem CutR.at_len (h : CutR p mtu l n) {i : Nat} (hi : i < l.length) : (pieceAt p n l.length i).body.length = min n (p.body.length - i * n) := by
  show ((p.body.drop (i * n)).take n).length = _
  rw [List.length_take, List.length_drop]
/-- a piece fits, and may be put. -/
theorem CutR.piece (h : CutR p mtu l n) {i : Nat} (hi : i < l.length) : May (pieceAt p n l.length i) ∧ 20 + (p.opts.length : Int) + ((pieceAt p n l.length i).body.length : Int) ≤ mtu := by
  have hm := h.may
  have hb := h.at_len hi
  obtain ⟨c1, c2, c3, c4⟩ := h.bytes hi
  have fit := hm.fit
  have o0 := hm.o0
  have o8 := hm.o8
  have o1 := hm.o1
  have m1 := h.m1
  have e1 : (i + 1) * n = i * n + n := Nat.succ_mul i n
  rw [e1] at c2
  have h8 : n < p.body.length → (i * n) % 8 = 0 := fun hn => by
    have := (h.cut hn).1
    rw [Nat.mul_mod, this]; simp
  have hoff : (pieceAt p n l.length i).off = p.off + ((i * n : Nat) : Int) := rfl
  have hle : (pieceAt p n l.length i).body.length + i * n ≤ p.body.length ∨ i = 0 := by rcases c1 with c1 | c1; exact .inr c1; exact .inl (by rw [hb]; omega)
  have hz : i = 0 → i * n = 0 := fun hi => by subst hi; simp
  refine ⟨⟨hm.t0, hm.t1, hm.l0, hm.l1, hm.r0, hm.r1, hm.i0, hm.i1, by rw [hoff]; omega, ?_, ?_, hm.p40, hm.p4, ?_, ?_⟩, ?_⟩
  · rw [hoff]
    rcases c1 with c1 | ⟨c1, c5⟩
    · have := hz c1; omega
    · have := h8 c1; omega
  · rw [hoff]
    rcases c1 with c1 | ⟨c1, c5⟩
    · have := hz c1; omega
    · have := h8 c1; omega
  · rw [hoff]
    show 20 + (p.opts.length : Int) + (p.off + ((i * n : Nat) : Int)) + _ ≤ _
    rcases hle with hle | hle
    · omega
    · have := hz hle; omega
  · intro hmf
    have hmf' : (p.mf || decide (i + 1 < l.length)) = true := hmf
    rw [Bool.or_eq_true, decide_eq_true_eq] at hmf'
    have n0 := h.n0
    rw [hb]
    by_cases hlast : i + 1 < l.length
    · have hn : n < p.body.length := by rcases c4 with c4 | c4; exact c4; omega
      have := (h.cut hn).1
      have := c2 hlast
      omega
    · have hpm : p.mf = true := by rcases hmf' with hmf' | hmf'; exact hmf'; exact absurd hmf' hlast
      have := hm.mf hpm
      have := c3 (by omega)
      rcases c1 with c1 | ⟨c1, c5⟩
      · have := hz c1; omega
      · have := h8 c1; have := (h.cut c1).1; omega
  · rw [hb]
    by_cases hn : p.body.length ≤ n
    · have := h.fit hn; omega
    · have := (h.cut (by omega)).2.2.1; omega
/-- the bodies of the first pieces, joined. -/
theorem joinC (n : Nat) (b : List UInt8) : ∀ k : Nat, ((List.range k).map (fun i => (b.drop (i * n)).take n)).flatten = b.take (k * n)
  | 0 => by simp
  | k + 1 => by
    rw [List.range_succ, List.map_append, List.flatten_append, joinC n b k, Nat.succ_mul, List.take_add]
    simp
theorem CutR.all (h : CutR p mtu l n) : p.body.take (l.length * n) = p.body := List.take_of_length_le (by rw [h.len]; exact (numC_bounds n p.body.length h.n0).1)
theorem CutR.few (h : CutR p mtu l n) : l.length ≤ p.body.length / 8 + 1 := by
  rw [h.len]
  by_cases hn : p.body.length ≤ n
  · rw [numC_le hn]; omega
  · have b := (numC_bounds n p.body.length h.n0).2
    have h8 := (h.cut (by omega)).2.1
    rcases b with b | b
    · omega
    · have := Nat.mul_le_mul_left (numC n p.body.length - 1) h8
      omega
/-- a piece isn't cut again. -/
theorem CutR.again (h : CutR p mtu l n) {i : Nat} (hi : i < l.length) : cutP l[i] mtu = ([l[i]], 0) := by
  obtain ⟨h1, h2⟩ := h.piece hi
  rw [← h.get hi] at h1 h2
  have m0 := h.m0
  have m1 := h.m1
  have ho : l[i].opts = p.opts := by rw [h.get hi]; rfl
  unfold cutP
  rw [if_neg (by rw [(mayB_iff _).2 h1]; simp; omega), if_pos (by rw [ho]; exact h2)]
theorem numC_anti {n n' b : Nat} (hn : 0 < n) (h : n ≤ n') : numC n' b ≤ numC n b := by
  have a1 := (numC_bounds n b hn).1
  have a2 := (numC_bounds n' b (by omega)).2
  have a3 := numC_pos n b hn
  rcases a2 with a2 | a2
  · rw [numC_le a2]; exact a3
  · apply Nat.le_of_not_lt
    intro hlt
    have := Nat.mul_le_mul_right n' (show numC n b ≤ numC n' b - 1 by omega)
    have := Nat.mul_le_mul_left (numC n b) h
    omega
/-- a wider way takes no more pieces. -/
theorem cut_mono {l' : List Pk} {more : Int} {n' : Nat} (h : CutR p mtu l n) (h' : CutR p more l' n') (hle : mtu ≤ more) : l'.length ≤ l.length := by
  rw [h.len, h'.len]
  by_cases hb' : p.body.length ≤ n'
  · rw [numC_le hb']; exact numC_pos _ _ h.n0
  · have c' := h'.cut (by omega)
    by_cases hb : p.body.length ≤ n
    · have := h.fit hb; omega
    · have c := h.cut (by omega)
      exact numC_anti h.n0 (by omega)
end
end Go.Proofs.Ytmblkgnjcmneeaa

/- The pieces of a packet, cut once more: its runs: plain mathematics. -/
namespace Go.Proofs.Ytmblkgnjcmneeaa
open Go.RowKit
set_option linter.unusedVariables false

/-- pieces of a packet, the last of them with a flag of its own. -/
def unL (x : Pk) : List Rn → Bool → List Pk
  | [], _ => []
  | [r], b => [pieceW x r b]
  | r :: s :: t, b => pieceW x r true :: unL x (s :: t) b
theorem unL_len (x : Pk) (b : Bool) : ∀ P : List Rn, (unL x P b).length = P.length
  | [] => rfl
  | [r] => rfl
  | r :: s :: t => by simp only [unL, List.length_cons, unL_len x b (s :: t)]
theorem unL_fresh (x : Pk) : ∀ P : List Rn, unL x P false = unW x (freshM P)
  | [] => rfl
  | [r] => rfl
  | r :: s :: t => by
    show pieceW x r true :: unL x (s :: t) false = pieceW x r (!(freshM (s :: t)).isEmpty) :: unW x (freshM (s :: t))
    rw [unL_fresh x (s :: t)]
    rfl
theorem unL_append (x : Pk) (b : Bool) (Q : List Rn) (hQ : Q ≠ []) : ∀ P : List Rn, unL x P true ++ unL x Q b = unL x (P ++ Q) b
  | [] => rfl
  | [r] => by
    cases Q with
    | nil => exact absurd rfl hQ
    | cons q t => rfl
  | r :: s :: t => by
    have := unL_append x b Q hQ (s :: t)
    show pieceW x r true :: (unL x (s :: t) true ++ unL x Q b) = pieceW x r true :: unL x ((s :: t) ++ Q) b
    rw [this]
theorem unL_range (x : Pk) (b : Bool) : ∀ (m : Nat) (f : Nat → Rn), (List.range m).map (fun j => pieceW x (f j) (b || decide (j + 1 < m))) = unL x ((List.range m).map f) b
  | 0, f => rfl
  | 1, f => by simp [unL]
  | m + 2, f => by
    have ih := unL_range x b (m + 1) (fun j => f (j + 1))
    rw [List.range_succ_eq_map, List.map_cons, List.map_map, List.map_cons, List.map_map]
    have e1 : (List.range (m + 1)).map ((fun j => pieceW x (f j) (b || decide (j + 1 < m + 2))) ∘ Nat.succ) = (List.range (m + 1)).map (fun j => pieceW x (f (j + 1)) (b || decide (j + 1 < m + 1))) := List.map_congr_left fun j _ => by simp [Function.comp]
    have e2 : (List.range (m + 1)).map (f ∘ Nat.succ) = (List.range (m + 1)).map (fun j => f (j + 1)) := rfl
    rw [e1, e2, ih]
    have hz : (b || decide (0 + 1 < m + 2)) = true := by simp
    rw [hz, List.range_succ_eq_map, List.map_cons]
    rfl
/-- a run, cut into runs. -/
def subR (r : Rn) (n m : Nat) : List Rn := (List.range m).map fun j => ⟨r.off + ((j * n : Nat) : Int), (r.data.drop (j * n)).take n⟩
theorem subR_len (r : Rn) (n m : Nat) : (subR r n m).length = m := by simp [subR]
theorem subR_succ (o : Int) (d : List UInt8) (n m : Nat) : subR ⟨o, d⟩ n (m + 1) = ⟨o, d.take n⟩ :: subR ⟨o + n, d.drop n⟩ n m := by
  unfold subR
  rw [List.range_succ_eq_map, List.map_cons, List.map_map]
  congr 1
  · simp
  · refine List.map_congr_left fun j _ => ?_
    have e1 : n + j * n = (j + 1) * n := by rw [Nat.succ_mul]; omega
    have e2 : o + (n : Int) + ((j * n : Nat) : Int) = o + (((j + 1) * n : Nat) : Int) := by rw [Nat.succ_mul]; omega
    simp only [Function.comp, List.drop_drop, Nat.succ_eq_add_one, e1, e2]
theorem sub_seq {n : Nat} (hn : 0 < n) : ∀ (m : Nat) (o : Int) (d : List UInt8), m * n < d.length → d.length ≤ (m + 1) * n → SeqR o (subR ⟨o, d⟩ n (m + 1)) ∧ heldR (subR ⟨o, d⟩ n (m + 1)) = d.length ∧ dataR (subR ⟨o, d⟩ n (m + 1)) = d
  | 0, o, d, h1, h2 => by
    have e : d.take n = d := List.take_of_length_le (by omega)
    rw [subR_succ, e]
    refine ⟨⟨rfl, by show 0 < d.length; omega, trivial⟩, by show d.length + 0 = d.length; omega, by show d ++ [] = d; simp⟩
  | m + 1, o, d, h1, h2 => by
    rw [Nat.succ_mul] at h1 h2
    have hd : (d.drop n).length = d.length - n := List.length_drop
    have ht : (d.take n).length = n := by rw [List.length_take]; omega
    obtain ⟨a1, a2, a3⟩ := sub_seq hn m (o + n) (d.drop n) (by rw [hd]; omega) (by rw [hd]; omega)
    rw [subR_succ]
    refine ⟨⟨rfl, by show 0 < (d.take n).length; omega, ?_⟩, ?_, ?_⟩
    · have : stopR ⟨o, d.take n⟩ = o + n := by show o + ((d.take n).length : Int) = _; rw [ht]
      rw [this]; exact a1
    · show (d.take n).length + _ = _
      rw [a2, ht, hd]; omega
    · show d.take n ++ _ = d
      rw [a3, List.take_append_drop]
/-- the pieces of a piece. -/
theorem CutR.sub {x : Pk} {r : Rn} {b : Bool} {mtu : Int} {l : List Pk} {n : Nat} (h : CutR (pieceW x r b) mtu l n) : l = unL x (subR r n l.length) b := by
  have hl := h.len
  have he := h.eq
  rw [cutL_eq h.n0, ← hl] at he
  unfold subR
  rw [← unL_range, he, List.length_map, List.length_range]
  refine List.map_congr_left fun j _ => ?_
  rfl
theorem CutR.subOk {x : Pk} {r : Rn} {b : Bool} {mtu : Int} {l : List Pk} {n : Nat} (h : CutR (pieceW x r b) mtu l n) (hd : 0 < r.data.length) : SeqR r.off (subR r n l.length) ∧ heldR (subR r n l.length) = r.data.length ∧ dataR (subR r n l.length) = r.data := by
  have hp := h.pos
  have hl := h.len
  obtain ⟨b1, b2⟩ := numC_bounds n (pieceW x r b).body.length h.n0
  rw [← hl] at b1 b2
  have b1' : r.data.length ≤ l.length * n := b1
  have b2' : r.data.length ≤ n ∨ (l.length - 1) * n < r.data.length := b2
  obtain ⟨m, hm⟩ : ∃ m, l.length = m + 1 := ⟨l.length - 1, by omega⟩
  rw [hm] at b1' b2' ⊢
  refine sub_seq h.n0 m r.off r.data ?_ b1'
  rcases b2' with b2' | b2'
  · have : l.length = 1 := by rw [hl]; exact numC_le b2'
    have : m = 0 := by omega
    subst this; omega
  · simpa using b2'
/-- offsets and lengths by eights; of the last run too, if the whole's length is one. -/
theorem CutR.sub8 {x : Pk} {r : Rn} {b : Bool} {mtu : Int} {l : List Pk} {n : Nat} (h : CutR (pieceW x r b) mtu l n) (h8 : r.off % 8 = 0) : (∀ s ∈ subR r n l.length, s.off % 8 = 0) ∧ (∀ (j : Nat) (s : Rn), (subR r n l.length)[j]? = some s → j + 1 < l.length ∨ r.data.length % 8 = 0 → s.data.length % 8 = 0) := by
  have n0 := h.n0
  have hget : ∀ (j : Nat) (s : Rn), (subR r n l.length)[j]? = some s → j < l.length ∧ s = ⟨r.off + ((j * n : Nat) : Int), (r.data.drop (j * n)).take n⟩ := fun j s hs => by
    unfold subR at hs
    rw [List.getElem?_map, Option.map_eq_some_iff] at hs
    obtain ⟨i, hi, he⟩ := hs
    by_cases hj : j < l.length
    · rw [List.getElem?_range hj] at hi
      injection hi with hi; subst hi; exact ⟨hj, he.symm⟩
    · rw [List.getElem?_eq_none (by simp; omega)] at hi; cases hi
  have hb : ∀ j, j < l.length → (j * n) % 8 = 0 ∧ (j + 1 < l.length → n % 8 = 0 ∧ (j + 1) * n < r.data.length) ∧ (r.data.length % 8 = 0 → min n (r.data.length - j * n) % 8 = 0) := fun j hj => by
    obtain ⟨c1, c2, c3, c4⟩ := h.bytes hj
    have c2' : j + 1 < l.length → (j + 1) * n < r.data.length := c2
    have hc : n < r.data.length → n % 8 = 0 := fun k => (h.cut k).1
    have hm : n % 8 = 0 → (j * n) % 8 = 0 := fun k => by rw [Nat.mul_mod, k]; simp
    have hmul : (j + 1) * n = j * n + n := Nat.succ_mul j n
    rw [hmul] at c2' ⊢
    have c1' : j = 0 ∨ (n < r.data.length ∧ j * n < r.data.length) := c1
    have hz : j = 0 → j * n = 0 := fun k => by subst k; simp
    have c4' : n < r.data.length ∨ l.length = 1 := c4
    refine ⟨?_, fun k => ⟨hc (by have := c2' k; omega), c2' k⟩, fun k => ?_⟩
    · rcases c1' with k | k
      · rw [hz k]
      · exact hm (hc k.1)
    · rcases c4' with k4 | k4
      · have := hc k4; have := hm this; omega
      · have : j = 0 := by omega
        have := hz this
        by_cases hn : n < r.data.length
        · have := hc hn; omega
        · omega
  refine ⟨fun s hs => ?_, fun j s hs hor => ?_⟩
  · obtain ⟨j, hj⟩ := List.getElem?_of_mem hs
    obtain ⟨h1, h2⟩ := hget j s hj
    have := (hb j h1).1
    rw [h2]
    show (r.off + ((j * n : Nat) : Int)) % 8 = 0
    omega
  · obtain ⟨h1, h2⟩ := hget j s hs
    obtain ⟨_, b2, b3⟩ := hb j h1
    rw [h2]
    show ((r.data.drop (j * n)).take n).length % 8 = 0
    rw [List.length_take, List.length_drop]
    rcases hor with k | k
    · have := b2 k
      have hmul : (j + 1) * n = j * n + n := Nat.succ_mul j n
      omega
    · exact b3 k
theorem seq_append : ∀ (P Q : List Rn) (k : Int), SeqR k P → SeqR (k + (heldR P : Int)) Q → SeqR k (P ++ Q)
  | [], Q, k, _, h => by simpa [heldR] using h
  | a :: t, Q, k, ⟨h1, h2, h3⟩, h => by
    have e : stopR a + (heldR t : Int) = k + (heldR (a :: t) : Int) := by unfold stopR; simp only [heldR]; omega
    exact ⟨h1, h2, seq_append t Q _ h3 (by rw [e]; exact h)⟩
theorem held_append : ∀ P Q : List Rn, heldR (P ++ Q) = heldR P + heldR Q
  | [], Q => by simp [heldR]
  | a :: t, Q => by simp only [List.cons_append, heldR, held_append t Q]; omega
theorem data_append : ∀ P Q : List Rn, dataR (P ++ Q) = dataR P ++ dataR Q
  | [], Q => rfl
  | a :: t, Q => by simp only [List.cons_append, dataR, data_append t Q, List.append_assoc]
/-- more runs behind the others. -/
theorem CutOk.more {x : Pk} {P Q : List Rn} {at_ to_ : Nat} (h : CutOk x P at_) (h1 : at_ ≤ to_) (h8 : to_ % 8 = 0) (hl : to_ < x.body.length) (q1 : SeqR (at_ : Int) Q) (q2 : heldR Q = to_ - at_) (q3 : dataR Q = (x.body.take to_).drop at_) (q4 : ∀ r ∈ Q, r.off % 8 = 0 ∧ r.data.length % 8 = 0) : CutOk x (P ++ Q) to_ := by
  refine ⟨seq_append P Q 0 h.seq (by rw [h.held]; simpa using q1), by rw [held_append, h.held, q2]; omega, ?_, ?_, h8, hl⟩
  · rw [data_append, h.data, q3]
    have : x.body.take at_ = (x.body.take to_).take at_ := by rw [List.take_take, Nat.min_eq_left h1]
    rw [this, List.take_append_drop]
  · intro r hr
    rcases List.mem_append.1 hr with hr | hr
    · exact h.m8 r hr
    · exact q4 r hr
/-- all runs of a packet that was cut. -/
theorem CutOk.wholeQ {room : Int} {x : Pk} {P Q : List Rn} {at_ : Nat} (h : CutOk x P at_) (hm : May x) (h0 : x.off = 0) (hf : x.mf = false) (hs : (x.body.length : Int) ≤ room) (q1 : SeqR (at_ : Int) Q) (q3 : dataR Q = x.body.drop at_) (q4 : ∀ r ∈ Q, r.off % 8 = 0) (q5 : ∀ (j : Nat) (s : Rn), Q[j]? = some s → j + 1 < Q.length → s.data.length % 8 = 0) (two : 2 ≤ (P ++ Q).length) : WholeP room x (freshM (P ++ Q)) := by
  refine ⟨hm, h0, hf, ?_, ?_, ?_, ?_, ?_, hs⟩
  · rw [fresh_all]; exact seq_append P Q 0 h.seq (by rw [h.held]; simpa using q1)
  · rw [fresh_all, data_append, h.data, q3, List.take_append_drop]
  · rw [fresh_all]
    intro r hr
    rcases List.mem_append.1 hr with hr | hr
    · exact (h.m8 r hr).1
    · exact q4 r hr
  · intro i r hi hl
    have hlen : (freshM (P ++ Q)).length = P.length + Q.length := by simp [freshM]
    rw [hlen] at hl
    unfold freshM at hi
    rw [List.getElem?_map, Option.map_eq_some_iff] at hi
    obtain ⟨s, hs', he⟩ := hi
    have hsr : s = r := by injection he
    subst hsr
    by_cases hp : i < P.length
    · rw [List.getElem?_append_left hp] at hs'
      exact (h.m8 s (List.mem_of_getElem? hs')).2
    · rw [List.getElem?_append_right (by omega)] at hs'
      exact q5 _ s hs' (by omega)
  · simpa [freshM] using two
end Go.Proofs.Ytmblkgnjcmneeaa

/- What a call that cuts a packet answers; a packet that is cut in a loop, piece by piece. -/
namespace Go.Proofs.Ytmblkgnjcmneeaa
open Go.ChangeShapes Go.WideShapes Go.ChangeAt Go.RowKit
set_option linter.unusedVariables false
set_option linter.unusedSimpArgs false

/-- pieces in a row of the call's own, their parts where the packet's lie or in blocks of the call's own. -/
def CutPost (w : World) (V : Nat → Prop) (l : List Pk) (err : Int) (e : Ending) (w' : World) : Prop :=
  ∃ A c es, e = .returned (.tuple #[.slice A es.length c, .int .i64 err]) ∧ es.map Ep.p = l ∧ OwnK w' w.heap.size A c es ∧ (∀ e ∈ es, PkAt w' (growV V w w') e.p e.Ao e.co e.Ab e.cb) ∧ Below w.heap.size w w'
def lenOf : Value → Nat
  | .slice _ n _ => n
  | _ => 0
section
variable {w w1 w' wr wx : World} {V : Nat → Prop} {p q : Pk} {Ao Ab A Aq : Option Addr} {co cb c cq gl m : Nat} {l : List Pk} {err : Int} {es : List Ep}
theorem CutPost.none_ {k : Int} (h1 : l = []) (h2 : err = k) (y : Below w.heap.size w w') : CutPost w V l err (.returned (.tuple #[.slice none 0 0, .int .i64 k])) w' := by
  subst h1 h2
  exact ⟨none, 0, [], rfl, rfl, OwnK.none_ _ _, (fun e he => by cases he), y⟩
theorem OwnK.made (w : World) (e : Ep) : OwnK (w.alloc (.cells e.L.toArray 25)) w.heap.size (some ⟨w.heap.size, 0, none⟩) 1 [e] :=
  own_shut (Bxo.made w 25 e.L) rfl rfl (Nat.le_refl _) (Nat.le_refl _) (by unfold maxLen; omega) rfl
theorem PkAt.grown (h : PkAt w V p Ao co Ab cb) (y : Below w.heap.size w w') : PkAt w' (growV V w w') p Ao co Ab cb :=
  (h.at y).more (fun b hb => .inl hb) (grow_lt h.lt y.size)
theorem CutPost.one (h1 : l = [p]) (h2 : err = 0) (hp : PkAt w V p Ao co Ab cb) (y : Below w.heap.size w w1) : CutPost w V l err (.returned (.tuple #[.slice (some ⟨w1.heap.size, 0, none⟩) 1 1, .int .i64 0])) (w1.alloc (oPk p Ao co Ab cb)) := by
  subst h1 h2
  have y2 : Below w1.heap.size w1 (w1.alloc (oPk p Ao co Ab cb)) := (Below.refl _ _).alloc (Nat.le_refl _) _
  have y3 := y.trans (y2.mono y.size)
  refine ⟨_, 1, [⟨p, Ao, co, Ab, cb⟩], rfl, rfl, (OwnK.made w1 ⟨p, Ao, co, Ab, cb⟩).wide y.size, fun e he => ?_, y3⟩
  obtain rfl := List.mem_singleton.1 he
  exact hp.grown y3
/-- while a packet is cut: what is left in a box, the row of the pieces. -/
structure LeftI (w : World) (V : Nat → Prop) (p : Pk) (m : Nat) (Ao : Option Addr) (co : Nat) (gl : Nat) (wr : World) (A : Option Addr) (c : Nat) (es : List Ep) (q : Pk) (Aq : Option Addr) (cq : Nat) : Prop where
  below : Below w.heap.size w wr
  box : Bxo wr gl 25 (pkL q Ao co Aq cq)
  row : OwnK wr (gl + 1) A c es
  els : ∀ e ∈ es, PkAt w V e.p e.Ao e.co e.Ab e.cb
  eq : es.map Ep.p ++ cutL m q = cutL m p
  pk : PkAt w V q Ao co Aq cq
  b0 : w.heap.size ≤ gl
  glt : gl < wr.heap.size
  few : es.length + q.body.length ≤ p.body.length
  off : q.off + (q.body.length : Int) = p.off + (p.body.length : Int)
/-- the first piece of what is left. -/
abbrev firstE (q : Pk) (m : Nat) (Ao : Option Addr) (co : Nat) (adq : Addr) (cq : Nat) : Ep := ⟨firstC m q, Ao, co, some adq, cq⟩
theorem ByIn.first {w : World} {V : Nat → Prop} {A : Option Addr} {c : Nat} {l : List UInt8} (h : ByIn w V A c l) (k : Nat) : ByIn w V A c (l.take k) := by
  have := h.len
  refine ⟨by rw [List.length_take]; omega, h.cap, h.nil, ?_⟩
  rcases h.bs with h | ⟨ad, e, hv, hc⟩
  · subst h; exact .inl (by simp)
  · refine .inr ⟨ad, e, hv, fun j b hj => hc j b ?_⟩
    rw [List.getElem?_take] at hj
    split at hj
    · exact hj
    · cases hj
theorem LeftI.step (h : LeftI w V p m Ao co gl wr A c es q Aq cq) (y : Below wr.heap.size wr wx) : LeftI w V p m Ao co gl wx A c es q Aq cq :=
  ⟨h.below.trans (y.mono h.below.size), h.box.keep y h.glt, h.row.keep y, h.els, h.eq, h.pk, h.b0, Nat.lt_of_lt_of_le h.glt y.size, h.few, h.off⟩
theorem LeftI.grown {w9 w10 : World} (h : LeftI w V p m Ao co gl w9 A c es q Aq cq) (hg : w9.grownBy w10 (blk A)) : Below (gl + 1) w9 w10 :=
  grown_below hg (fun g e => (h.row.block_ge g e).1) h.glt
theorem LeftI.next {w9 w10 w12 : World} {A' : Option Addr} {c' : Nat} {adq : Addr} (h : LeftI w V p m Ao co gl w9 A c es q (some adq) cq) (m0 : 0 < m) (hgt : m < q.body.length) (hrow : w10.ownsRow (gl + 1) 25 11 (.slice A' (es.length + 1) c') (es.length + 1) (es.flatMap Ep.L ++ (firstE q m Ao co adq cq).L)) (hg : w9.grownBy w10 (blk A)) (ho : Only gl w10 w12) (hb : Bxo w12 gl 25 (pkL (restC m q) Ao co (some (adq.add m)) (cq - m))) : LeftI w V p m Ao co gl w12 A' c' (es ++ [firstE q m Ao co adq cq]) (restC m q) (some (adq.add m)) (cq - m) := by
  have hb1 := h.grown hg
  have hl := h.pk.b.len
  have b0 := h.b0
  have hr := h.row.push hrow
  have hd : (restC m q).body.length = q.body.length - m := List.length_drop
  refine ⟨(h.below.trans ⟨hb1.os, hb1.tape, hb1.output, hb1.size, fun b k => hb1.block b (by omega)⟩).trans (ho.below b0), hb, hr.only ho (fun g e => by have := hr.block_ge g e; omega), ?_, ?_, ?_, b0, by have := ho.size; have := hb1.size; have := h.glt; omega, ?_, ?_⟩
  · intro e he
    rcases List.mem_append.1 he with he | he
    · exact h.els e he
    · obtain rfl := List.mem_singleton.1 he
      exact ⟨h.pk.s0, h.pk.s1, h.pk.d0, h.pk.d1, h.pk.o, h.pk.b.first m, h.pk.lt⟩
  · rw [List.map_append, ← h.eq, cutL_gt m0 hgt]
    simp
  · have hx := h.pk.b.part (a := m) (b := q.body.length) (by omega) (Nat.le_refl _) (by omega)
    rw [List.take_length] at hx
    exact ⟨h.pk.s0, h.pk.s1, h.pk.d0, h.pk.d1, h.pk.o, hx, h.pk.lt⟩
  · rw [hd, List.length_append]
    have := h.few
    simp only [List.length_cons, List.length_nil]
    omega
  · have := h.off
    rw [hd]
    show q.off + (m : Int) + _ = _
    omega
/-- what is left is the last piece. -/
theorem LeftI.last {w9 w10 : World} {A' : Option Addr} {c' : Nat} {err : Int} (h : LeftI w V p m Ao co gl w9 A c es q Aq cq) (m0 : 0 < m) (hle : q.body.length ≤ m) (hrow : w10.ownsRow (gl + 1) 25 11 (.slice A' (es.length + 1) c') (es.length + 1) (es.flatMap Ep.L ++ (⟨q, Ao, co, Aq, cq⟩ : Ep).L)) (hg : w9.grownBy w10 (blk A)) (h1 : l = cutL m p) (h2 : err = 0) : CutPost w V l err (.returned (.tuple #[.slice A' (es.length + 1) c', .int .i64 0])) w10 := by
  subst h1 h2
  have hb1 := h.grown hg
  have b0 := h.b0
  have y := h.below.trans ⟨hb1.os, hb1.tape, hb1.output, hb1.size, fun b k => hb1.block b (by omega)⟩
  refine ⟨A', c', es ++ [⟨q, Ao, co, Aq, cq⟩], by simp, ?_, (h.row.push hrow).wide (by omega), fun e he => ?_, y⟩
  · rw [List.map_append, ← h.eq, cutL_le m0 hle]
    rfl
  · rcases List.mem_append.1 he with he | he
    · exact (h.els e he).grown y
    · obtain rfl := List.mem_singleton.1 he
      exact h.pk.grown y
end
theorem tmod8z {n : Int} (h : n % 8 = 0) : (Int.tmod n 8 != 0) = false := by
  have : Int.tmod n 8 = 0 := Int.tmod_eq_zero_of_dvd (Int.dvd_of_emod_eq_zero h)
  rw [this]; rfl
theorem tmod8 {n : Int} (h : ¬ n % 8 = 0) : (Int.tmod n 8 != 0) = true := by
  have : Int.tmod n 8 ≠ 0 := fun h2 => h (Int.emod_eq_zero_of_dvd (Int.dvd_of_tmod_eq_zero h2))
  simpa using this
end Go.Proofs.Ytmblkgnjcmneeaa

/- A packet's addresses fit their type. -/
namespace Go.Proofs.Ytmblkgnjcmneeaa
set_option linter.unusedVariables false

structure Rng (p : Pk) : Prop where
  s0 : 0 ≤ p.src
  s1 : p.src ≤ 4294967295
  d0 : 0 ≤ p.dst
  d1 : p.dst ≤ 4294967295
end Go.Proofs.Ytmblkgnjcmneeaa

/- A packet among a law's arguments. -/
namespace Go.Proofs.Ytmblkgnjcmneeaa
open Go.ChangeShapes Go.WideShapes Go.ChangeAt Go.RowKit
set_option linter.unusedVariables false

/-- a packet that came in. -/
structure PkIn (w : World) (p : Pk) (Ao : Option Addr) (co : Nat) (Ab : Option Addr) (cb : Nat) : Prop where
  rng : Rng p
  olen : p.opts.length ≤ co
  ocap : co ≤ 9223372036854775807
  onil : Ao = none → co = 0
  obs : Bs w w.heap.size Ao p.opts
  blen : p.body.length ≤ cb
  bcap : cb ≤ 9223372036854775807
  bnil : Ab = none → cb = 0
  bbs : Bs w w.heap.size Ab p.body
end Go.Proofs.Ytmblkgnjcmneeaa

/- What package cut's functions owe, as propositions; a packet's box at a law's beginning. -/
namespace Go.Proofs.Ytmblkgnjcmneeaa
open Go.ChangeShapes Go.WideShapes Go.ChangeAt Go.RowKit
set_option linter.unusedVariables false
set_option linter.unusedSimpArgs false

def CutC8 : Prop := ∀ (p : Pk) (Ao : Option Addr) (co : Nat) (Ab : Option Addr) (cb : Nat) (mtu : Int) (w : World) (V : Nat → Prop) (l : List Pk) (err : Int), cutP p mtu = (l, err) → PkAt w V p Ao co Ab cb → p.opts.length ≤ 16777216 → p.body.length ≤ 16777216 →
  Calls Try.prog 9 #[ipV p Ao co Ab cb, .int .i64 mtu] w (CutPost w V l err)
def MostC8 : Prop := ∀ (p : Pk) (Ao : Option Addr) (co : Nat) (Ab : Option Addr) (cb : Nat) (mtu : Int) (w : World) (V : Nat → Prop) (l : List Pk) (err : Int), cutP p mtu = (l, err) → PkAt w V p Ao co Ab cb → p.opts.length ≤ 16777216 → p.body.length ≤ 16777216 →
  Calls Try.prog 11 #[ipV p Ao co Ab cb, .int .i64 mtu] w fun e w' => e = .returned (.int .i64 l.length) ∧ Below w.heap.size w w'
theorem most_n (kM : MostC8) (p : Pk) (Ao : Option Addr) (co : Nat) (Ab : Option Addr) (cb : Nat) (mtu : Int) (w : World) (V : Nat → Prop) (l : List Pk) (err : Int) (n : Nat) (hn : l.length = n) (h : cutP p mtu = (l, err)) (hp : PkAt w V p Ao co Ab cb) (ho : p.opts.length ≤ 16777216) (hb : p.body.length ≤ 16777216) :
    Calls Try.prog 11 #[ipV p Ao co Ab cb, .int .i64 mtu] w fun e w' => e = .returned (.int .i64 (n : Int)) ∧ Below w.heap.size w w' := hn ▸ kM p Ao co Ab cb mtu w V l err h hp ho hb
def AwakeC8 : Prop := ∀ w, Calls Try.prog 7 #[] w fun e w' => e = .returned (.bool true) ∧ Below w.heap.size w w'
def shortS (p : Pk) : Bool := decide (p.opts.length ≤ 100) && decide (p.body.length ≤ 3000)
theorem bs_bv8 {w : World} {A : Option Addr} {l : List UInt8} (h : Bs w w.heap.size A l) : Bv w (oldV w) A l := by
  rcases h with h | ⟨ad, e, hlt, hc⟩
  · exact .inl h
  · exact .inr ⟨ad, e, hlt, hc⟩
theorem pk_in {w : World} {p : Pk} {Ao : Option Addr} {co : Nat} {Ab : Option Addr} {cb : Nat} (h : PkIn w p Ao co Ab cb) : PkAt w (oldV w) p Ao co Ab cb :=
  ⟨h.rng.s0, h.rng.s1, h.rng.d0, h.rng.d1, ⟨h.olen, h.ocap, h.onil, bs_bv8 h.obs⟩, ⟨h.blen, h.bcap, h.bnil, bs_bv8 h.bbs⟩, fun b hb => hb⟩
end Go.Proofs.Ytmblkgnjcmneeaa

/- What layer 8's statements begin with: awake. -/
namespace Go.Proofs.Ytmblkgnjcmneeaa
open Go.ChangeShapes Go.WideShapes Go.ChangeAt Go.RowKit
set_option linter.unusedVariables false
set_option linter.unusedSimpArgs false

abbrev x28 : Pk := ⟨0, 0, false, false, 0, 0, 0, 0, 0, [], [0, 0, 0, 0, 0, 0, 0, 0, 0, 0, 0, 0, 0, 0, 0, 0, 0, 0, 0, 0, 0, 0, 0, 0, 0, 0, 0, 0]⟩
abbrev z28 : List Value := [.int .u8 0, .int .u8 0, .int .u8 0, .int .u8 0, .int .u8 0, .int .u8 0, .int .u8 0, .int .u8 0, .int .u8 0, .int .u8 0, .int .u8 0, .int .u8 0, .int .u8 0, .int .u8 0, .int .u8 0, .int .u8 0, .int .u8 0, .int .u8 0, .int .u8 0, .int .u8 0, .int .u8 0, .int .u8 0, .int .u8 0, .int .u8 0, .int .u8 0, .int .u8 0, .int .u8 0, .int .u8 0]
def p28 (k : Nat) (more : Bool) (n : Nat) : Pk := ⟨0, 0, false, more, 8 * (k : Int), 0, 0, 0, 0, [], List.replicate n 0⟩
theorem cut28 : cutP x28 28 = ([p28 0 true 8, p28 1 true 8, p28 2 true 8, p28 3 false 4], 0) := by kernel_rfl
theorem pk28 (w : World) (g : Nat) (hb : Bxo w g 5 z28) {V : Nat → Prop} (hg : V g) (lt : ∀ b, V b → b < w.heap.size) : PkAt w V x28 none 0 (some ⟨g, 0, none⟩) 28 :=
  ⟨by decide, by decide, by decide, by decide, ⟨Nat.zero_le _, Nat.zero_le _, fun _ => rfl, .inl rfl⟩, ⟨by decide, by decide, (fun h => by cases h), .inr ⟨_, rfl, hg, fun j b hj => by
    have e1 : x28.body = List.replicate 28 0 := rfl
    have e2 : z28 = List.replicate 28 (.int .u8 0) := rfl
    rw [e1, List.getElem?_replicate] at hj
    split at hj
    · injection hj with hj
      subst hj
      have hj2 : z28[j]? = some (.int .u8 0) := by rw [e2, List.getElem?_replicate, if_pos (by assumption)]
      exact hb.at j _ hj2
    · cases hj⟩⟩, lt⟩
theorem wpList_make28 {P : Program} {ops : Array Oper} {rest : List Oper} {op : Oper} {a : Act} {w : World} {Q : Exit → Act → World → Prop} (hgd : Region.wanted op (yielded ops a.tmps) = true) (t e : TypeId) (x y : Operand) (ho : op.op = .makeSlice t x y) (hx : a.eval x = .int .i64 28) (hy : a.eval y = .int .i64 28)
    (ht : P.underlying t = some (.slice e)) (hz : (P.info? e).map (fun i => (i.zero, i.size, i.bytes)) = some (some (.int .u8 0), 1, 1))
    (h : ∀ w', Bxo w' w.heap.size e z28 → Below w.heap.size w w' → w.heap.size < w'.heap.size → wpList P ops Q rest (a.put op.dst (.slice (some ⟨w.heap.size, 0, none⟩) 28 28)) w') : wpList P ops Q (op :: rest) a w :=
  BigFrame.wpList_want hgd fun _ hK => by
    obtain ⟨i0, hi, hz0, hz1, hz2⟩ := info_parts hz
    have hr := run_make (P := P) w t e i0 _ ht hi hz0 .i64 .i64 28 28 (by omega) (by omega) (by rw [hz2]; decide) (by omega)
    unfold Oper.wp execOp
    simp only [ho, hx, hy, Sem.run_bind, Sem.run_pure, Result.andThen_ok, hr]
    have hm : madeCells (Value.int .u8 0).cells (Int.toNat 28 * i0.size) = z28.toArray := by rw [hz1]; kernel_rfl
    rw [hm]
    exact hK _ _ (h _ (Bxo.made w e z28) ((Below.refl _ _).alloc (Nat.le_refl _) _) (by simp))
theorem four {es : List Ep} {a b c d : Pk} (h : es.map Ep.p = [a, b, c, d]) : ∃ e0 e1 e2 e3, es = [e0, e1, e2, e3] ∧ e0.p = a ∧ e3.p = d := by
  rcases es with _ | ⟨e0, _ | ⟨e1, _ | ⟨e2, _ | ⟨e3, _ | ⟨e4, t⟩⟩⟩⟩⟩
  · cases h
  · cases h
  · cases h
  · cases h
  · injection h with h1 h
    injection h with h2 h
    injection h with h3 h
    injection h with h4 h
    exact ⟨e0, e1, e2, e3, rfl, h1, h4⟩
  · injection h with h1 h
    injection h with h2 h
    injection h with h3 h
    injection h with h4 h
    cases h
set_option maxRecDepth 100000 in
set_option maxHeartbeats 8000000 in
theorem cawake8 (kC : CutC8) : AwakeC8 := by
  intro w
  go_enter Try.func7, Try.ntmps7
  go_upto_region 2 with (first
    | (refine wpList_make28 rfl 23 5 _ _ rfl rfl rfl Try.underlying23 info_byte ?_; intro w1 hb1 y1 z1; have HB1 := Go.Lib.hid hb1; clear hb1)
    | (go_at_call 9; refine (kC x28 none 0 (some ⟨w.heap.size, 0, none⟩) 28 28 w1 (fun b => b < w1.heap.size) _ 0 cut28 (pk28 w1 w.heap.size HB1.out z1 (fun b h => h)) (by decide) (by decide)).mono ?_; rintro e w4 ⟨A4, c4, es, rfl, hes, hrow, hels, y4⟩; have x4 := y1.trans (y4.mono y1.size); dsimp only))
  obtain ⟨e0, e1, e2, e3, rfl, h0, h3⟩ := four hes
  rcases own_addr hrow with ⟨_, hz, _⟩ | ⟨g, rfl, _, _⟩
  · cases hz
  have c0 := hrow.cell (k := 0) (j := 3) (by show 0 < 4; omega) (v := .bool true) (by show (e0.L)[3]? = _; unfold Ep.L; rw [h0]; rfl)
  have c1 := hrow.cell (k := 3) (j := 4) (by show 3 < 4; omega) (v := .int .i64 24) (by show (e3.L)[4]? = _; unfold Ep.L; rw [h3]; rfl)
  have c2 := hrow.cell (k := 3) (j := 10) (by show 3 < 4; omega) (v := .slice e3.Ab 4 e3.cb) (by show (e3.L)[10]? = _; unfold Ep.L; rw [h3]; rfl)
  have c3 := hrow.cell (k := 3) (j := 3) (by show 3 < 4; omega) (v := .bool false) (by show (e3.L)[3]? = _; unfold Ep.L; rw [h3]; rfl)
  have b4 := hels e3 (by simp)
  have b5 := b4.b.len
  have b6 := b4.b.cap
  rw [h3] at b5
  have b5' : 4 ≤ e3.cb := b5
  have hc := hrow.cap
  clear b4 b5 hels hes hrow h0 h3 y4
  go_wp2_with fail
  go_ret
  exact ⟨rfl, x4⟩
end Go.Proofs.Ytmblkgnjcmneeaa

/- The contract of package cut's mayBePut; plans: how a packet is cut, in memory. -/
namespace Go.Proofs.Ytmblkgnjcmneeaa
open Go.ChangeShapes Go.WideShapes Go.ChangeAt Go.RowKit
set_option linter.unusedVariables false
set_option linter.unusedSimpArgs false

set_option maxRecDepth 100000 in
set_option maxHeartbeats 4000000 in
theorem cmayCut (x : Pk) (Ao : Option Addr) (co : Nat) (Ab : Option Addr) (cb : Nat) (w : World) (V : Nat → Prop) (q : Bool) (hq : mayB x = q) (hx : PkAt w V x Ao co Ab cb) (ho : x.opts.length ≤ 16777216) (hb : x.body.length ≤ 16777216) :
    Calls Try.prog 39 #[ipV x Ao co Ab cb] w fun e w' => e = .returned (.bool q) ∧ Below w.heap.size w w' := by
  have y0 : Below w.heap.size w (w.alloc (oPk x Ao co Ab cb)) := (Below.refl _ _).alloc (Nat.le_refl _) _
  have h1 := Bxo.made w 25 (pkL x Ao co Ab cb)
  have hxo := hx.at y0
  have HQ := Go.Lib.hid hq
  clear hx hq
  go_enter Try.func39, Try.ntmps39
  go_upto_region 1 with fail
  generalize w.alloc (oPk x Ao co Ab cb) = W at *
  have H1 := Go.Lib.hid h1
  have HX := Go.Lib.hid hxo
  clear h1 hxo
  cases q
  · go_wp2_with (first
      | (refine wpList_load_pk rfl _ rfl ⟨w.heap.size, 0, none⟩ rfl x Ao co Ab cb H1.out.at ?_)
      | (go_at_call 13; refine (cputNo x Ao co Ab cb W HQ.out ho hb).mono ?_; rintro e w1 ⟨rfl, y1⟩; dsimp only))
    go_ret
    exact ⟨rfl, y0.trans (y1.mono y0.size)⟩
  · have HM := Go.Lib.hid ((mayB_iff x).1 HQ.out)
    go_wp2_with (first
      | (refine wpList_load_pk rfl _ rfl ⟨w.heap.size, 0, none⟩ rfl x Ao co Ab cb H1.out.at ?_)
      | (go_at_call 13; refine (cputYes x Ao co Ab cb W HM.out HX.out.s0 HX.out.s1 HX.out.d0 HX.out.d1 HX.out.obs HX.out.bbs HX.out.b.nil).mono ?_; rintro e w1 ⟨g1, cc1, rfl, _, y1⟩; dsimp only))
    go_ret
    exact ⟨rfl, y0.trans (y1.mono y0.size)⟩
abbrev plL (p : Pk) (Ao : Option Addr) (co : Nat) (Ab : Option Addr) (cb : Nat) (n m : Int) : List Value := [.int .i64 p.tos, .int .i64 p.id, .bool p.df, .bool p.mf, .int .i64 p.off, .int .i64 p.ttl, .int .i64 p.proto, .int .u32 p.src, .int .u32 p.dst, .slice Ao p.opts.length co, .slice Ab p.body.length cb, .int .i64 n, .int .i64 m]
abbrev plV (p : Pk) (Ao : Option Addr) (co : Nat) (Ab : Option Addr) (cb : Nat) (n m : Int) : Value := .agg #[.int .i64 p.tos, .int .i64 p.id, .bool p.df, .bool p.mf, .int .i64 p.off, .int .i64 p.ttl, .int .i64 p.proto, .int .u32 p.src, .int .u32 p.dst, .slice Ao p.opts.length co, .slice Ab p.body.length cb, .int .i64 n, .int .i64 m]
abbrev oPl (p : Pk) (Ao : Option Addr) (co : Nat) (Ab : Option Addr) (cb : Nat) (n m : Int) : Obj := .cells #[.int .i64 p.tos, .int .i64 p.id, .bool p.df, .bool p.mf, .int .i64 p.off, .int .i64 p.ttl, .int .i64 p.proto, .int .u32 p.src, .int .u32 p.dst, .slice Ao p.opts.length co, .slice Ab p.body.length cb, .int .i64 n, .int .i64 m] 50
theorem info_pl : (Try.prog.info? 50).map (·.size) = some 13 := by kernel_rfl
theorem results_ct {P : Program} {fn : Func} {p u : Tmp} {t1 : TypeId} (h : fn.results = #[.cell p t1, .tmp u]) (tmps : Array Value) (w : World) (g1 : Nat) (c1 : List Value) (d1 : TypeDesc)
    (hp : tmps.getD p undef = .pointer (some ⟨g1, 0, none⟩)) (h1 : Bxo w g1 t1 c1)
    (u1 : P.underlying t1 = some d1) (r1 : (match d1 with | .struct _ | .array _ _ => true | _ => false) = true) (i1 : (P.info? t1).map (·.size) = some c1.length) :
    (results fn tmps).run P w = .ok (.tuple #[.agg c1.toArray, tmps.getD u undef]) w := by
  have hp' : tmps[p]?.getD undef = .pointer (some ⟨g1, 0, none⟩) := by simpa using hp
  have e1 := run_loadVar_row (P := P) w g1 t1 t1 c1.toArray (0, 0) d1 h1 u1 r1 (by simpa using i1)
  simp [results, h, hp', asAddr, e1]
/-- how a packet is cut: m pieces of n bytes each, but the last. -/
structure PlanR (p : Pk) (l : List Pk) (n m : Nat) : Prop where
  may : May p
  eq : l = (List.range m).map (pieceAt p n m)
  m1 : 1 ≤ m
  m2 : m ≤ 65536
  n1 : n ≤ 65535
  bd : ∀ i, i < m → i * n ≤ p.body.length ∧ (i = 0 ∨ i * n < p.body.length)
  mf : ∀ i, i < m → (i * n + n < p.body.length ↔ i + 1 < m)
theorem PlanR.len {p : Pk} {l : List Pk} {n m : Nat} (h : PlanR p l n m) : l.length = m := by rw [h.eq]; simp
theorem PlanR.fit {p : Pk} (h : May p) : PlanR p [p] p.body.length 1 := by
  have := h.fit
  have := h.o0
  refine ⟨h, ?_, by omega, by omega, by omega, fun i hi => ?_, fun i hi => ?_⟩
  · simp [pieceAt]
  · obtain rfl : i = 0 := by omega
    exact ⟨by omega, .inl rfl⟩
  · obtain rfl : i = 0 := by omega
    omega
theorem PlanR.cut {p : Pk} {mtu : Int} {l : List Pk} {n : Nat} (h : CutR p mtu l n) (hn : n < p.body.length) : PlanR p l n l.length := by
  have hm := h.may
  have := hm.fit
  have := hm.o0
  have hf := h.few
  have hp := h.pos
  refine ⟨hm, ?_, hp, by omega, by omega, fun i hi => ?_, fun i hi => ?_⟩
  · apply List.ext_getElem
    · simp
    · intro i h1 h2
      rw [h.get h1]
      simp
  · obtain ⟨c1, _⟩ := h.bytes hi
    rcases c1 with c1 | c1
    · subst c1; exact ⟨by omega, .inl rfl⟩
    · exact ⟨by omega, .inr c1.2⟩
  · obtain ⟨_, c2, c3, _⟩ := h.bytes hi
    rw [Nat.succ_mul] at c2
    constructor
    · intro h1
      rcases Nat.lt_or_ge (i + 1) l.length with h2 | h2
      · exact h2
      · have := c3 (by omega); omega
    · exact c2
def PlanPost (w : World) (p : Pk) (Ao : Option Addr) (co : Nat) (Ab : Option Addr) (cb : Nat) (l : List Pk) (err : Int) (e : Ending) (w' : World) : Prop :=
  Below w.heap.size w w' ∧ ((err ≠ 0 ∧ l = [] ∧ e = .returned (.tuple #[plV pk0 none 0 none 0 0 0, .int .i64 err])) ∨ (err = 0 ∧ ∃ n m : Nat, PlanR p l n m ∧ e = .returned (.tuple #[plV p Ao co Ab cb n m, .int .i64 0])))
end Go.Proofs.Ytmblkgnjcmneeaa
