/- Lemmas, several texts in one. -/
import Derived.Test.YtmblkgnjcmneeaaQ01
import Derived.Test.YtmblkgnjcmneeaaQ06
import Derived.Test.YtmblkgnjcmneeaaQ04
/- Bytes that lie in some blocks or in those that were added since a world: through calls, through stores into a block known. -/
namespace Go.Proofs.Ytmblkgnjcmneeaa
open Go.ChangeShapes Go.WideShapes Go.ChangeAt Go.RowKit
set_option linter.unusedVariables false

section
variable {V : Nat → Prop} {W0 W1 w w' : World} {g B : Nat} {A : Option Addr} {c : Nat} {l : List UInt8}
theorem grow_only (ho : Only g w w') : ∀ b, growV V W1 w b → growV V W1 w' b := fun b h => by
  rcases h with h | h
  · exact .inl h
  · exact .inr ⟨h.1, by rw [ho.size]; exact h.2⟩
theorem grow_call (hs : w.heap.size ≤ w'.heap.size) : ∀ b, growV V W1 w b → growV V W1 w' b := fun b h => by
  rcases h with h | h
  · exact .inl h
  · exact .inr ⟨h.1, Nat.lt_of_lt_of_le h.2 hs⟩
theorem grow_wide (hs : W0.heap.size ≤ W1.heap.size) : ∀ b, growV V W1 w b → growV V W0 w b := fun b h => by
  rcases h with h | h
  · exact .inl h
  · exact .inr ⟨Nat.le_trans hs h.1, h.2⟩
theorem grow_ne (hg : g < W1.heap.size) (hV : ¬ V g) : ∀ b, growV V W1 w b → b ≠ g := fun b h e => by
  subst e
  rcases h with h | h
  · exact hV h
  · omega
theorem ByIn.only (h : ByIn w (growV V W1 w) A c l) (ho : Only g w w') (hg : g < W1.heap.size) (hV : ¬ V g) : ByIn w' (growV V W1 w') A c l :=
  (h.keepH (fun b hb => ho.block b (grow_ne hg hV b hb))).more (grow_only ho)
theorem ByIn.call (h : ByIn w (growV V W1 w) A c l) (hb : Below w.heap.size w w') (lt : ∀ b, V b → b < w.heap.size) : ByIn w' (growV V W1 w') A c l :=
  (h.keepH (fun b h' => hb.block b (by rcases h' with h' | h'; exact lt b h'; exact h'.2))).more (grow_call hb.size)
theorem ByIn.wide (h : ByIn w (growV V W1 w) A c l) (hs : W0.heap.size ≤ W1.heap.size) : ByIn w (growV V W0 w) A c l := h.more (grow_wide hs)
end
/-- nothing, with its fields in sight. -/
abbrev pk0 : Pk := ⟨0, 0, false, false, 0, 0, 0, 0, 0, [], []⟩
abbrev bf0 : Bf := ⟨0, 0, 0, 0, 0, ⟨0, 0, false, false, 0, 0, 0, 0, 0, [], []⟩, false, 0, []⟩
abbrev po0 : Po := ⟨0, 0, 0, []⟩
theorem info_bs : (Try.prog.info? 23).map (·.size) = some 1 := by kernel_rfl
theorem info_b1 : (Try.prog.info? 4).map (·.size) = some 1 := by kernel_rfl
theorem info_i1 : (Try.prog.info? 3).map (·.size) = some 1 := by kernel_rfl
theorem info_sr : (Try.prog.info? 65).map (·.size) = some 1 := by kernel_rfl
theorem info_sb : (Try.prog.info? 40).map (·.size) = some 1 := by kernel_rfl
theorem spl_all (cs vs : List Value) (h : vs.length = cs.length) : spl cs 0 vs = vs := by
  rw [spl_eq vs cs 0 (by omega), List.take_zero, List.nil_append, List.drop_eq_nil_of_le (by omega), List.append_nil]
theorem wpList_store_whole {P : Program} {ops : Array Oper} {rest : List Oper} {op : Oper} {a : Act} {w : World} {Q : Exit → Act → World → Prop} (hgd : Region.wanted op (yielded ops a.tmps) = true) (ty : TypeId) (x y : Operand) (ho : op.op = .store ty x y)
    (g : Nat) (cs vs : List Value) (hx : a.eval x = .pointer (some ⟨g, 0, none⟩)) (hy : a.eval y = .agg vs.toArray) (hc : Bxo w g ty cs)
    (hi : (P.info? ty).map (·.size) = some vs.length) (hs : vs.length = cs.length) (h1 : ∀ u ∈ vs, u.oneCell' = true)
    (h : ∀ w', Bxo w' g ty vs → Only g w w' → wpList P ops Q rest (a.put op.dst undef) w') : wpList P ops Q (op :: rest) a w :=
  wpList_store_any hgd ty x y ho g 0 ty cs vs _ hx hy rfl hc hi (by omega) h1 (fun w' hb ho => h w' (by rw [spl_all cs vs hs] at hb; exact hb) ho)
theorem step_store_whole {P : Program} {op : Oper} {a : Act} {w : World} {K : Act → World → Prop} {Q : Exit → Act → World → Prop} (ty : TypeId) (x y : Operand) (ho : op.op = .store ty x y)
    (g : Nat) (cs vs : List Value) (hx : a.eval x = .pointer (some ⟨g, 0, none⟩)) (hy : a.eval y = .agg vs.toArray) (hc : Bxo w g ty cs)
    (hi : (P.info? ty).map (·.size) = some vs.length) (hs : vs.length = cs.length) (h1 : ∀ u ∈ vs, u.oneCell' = true)
    (h : ∀ w', Bxo w' g ty vs → Only g w w' → K (a.put op.dst undef) w') : op.wp P a w K Q :=
  step_store_any ty x y ho g 0 ty cs vs _ hx hy rfl hc hi (by omega) h1 (fun w' hb ho => h w' (by rw [spl_all cs vs hs] at hb; exact hb) ho)
end Go.Proofs.Ytmblkgnjcmneeaa

/- The contracts of package reasm's mayBePut, begin, Tick$1, putIn$1. -/
namespace Go.Proofs.Ytmblkgnjcmneeaa
open Go.ChangeShapes Go.WideShapes Go.ChangeAt Go.RowKit
set_option linter.unusedVariables false
set_option linter.unusedSimpArgs false

theorem PkAt.obs {w : World} {V : Nat → Prop} {x : Pk} {Ao : Option Addr} {co : Nat} {Ab : Option Addr} {cb : Nat} (h : PkAt w V x Ao co Ab cb) : Bs w w.heap.size Ao x.opts := h.o.bs.bs h.lt
theorem PkAt.bbs {w : World} {V : Nat → Prop} {x : Pk} {Ao : Option Addr} {co : Nat} {Ab : Option Addr} {cb : Nat} (h : PkAt w V x Ao co Ab cb) : Bs w w.heap.size Ab x.body := h.b.bs.bs h.lt
set_option maxRecDepth 100000 in
set_option maxHeartbeats 4000000 in
theorem cmayPut (x : Pk) (Ao : Option Addr) (co : Nat) (Ab : Option Addr) (cb : Nat) (w : World) (V : Nat → Prop) (q : Bool) (hq : mayB x = q) (hx : PkAt w V x Ao co Ab cb) (ho : x.opts.length ≤ 16777216) (hb : x.body.length ≤ 16777216) :
    Calls Try.prog 30 #[ipV x Ao co Ab cb] w fun e w' => e = .returned (.bool q) ∧ Below w.heap.size w w' := by
  have y0 : Below w.heap.size w (w.alloc (oPk x Ao co Ab cb)) := (Below.refl _ _).alloc (Nat.le_refl _) _
  have h1 := Bxo.made w 25 (pkL x Ao co Ab cb)
  have hxo := hx.at y0
  have HQ := Go.Lib.hid hq
  clear hx hq
  go_enter Try.func30, Try.ntmps30
  go_upto_region 1 with fail
  generalize w.alloc (oPk x Ao co Ab cb) = W at *
  have H1 := Go.Lib.hid h1
  have HX := Go.Lib.hid hxo
  clear h1 hxo
  cases q
  · go_wp2_with (first
      | (refine wpList_load_pk rfl _ rfl ⟨w.heap.size, 0, none⟩ rfl x Ao co Ab cb H1.out.at ?_)
      | (go_at_call 13; refine (cputNo x Ao co Ab cb W HQ.out ho hb).mono ?_; rintro e w1 ⟨rfl, y1⟩; dsimp only))
    go_ret
    exact ⟨rfl, y0.trans (y1.mono y0.size)⟩
  · have HM := Go.Lib.hid ((mayB_iff x).1 HQ.out)
    go_wp2_with (first
      | (refine wpList_load_pk rfl _ rfl ⟨w.heap.size, 0, none⟩ rfl x Ao co Ab cb H1.out.at ?_)
      | (go_at_call 13; refine (cputYes x Ao co Ab cb W HM.out HX.out.s0 HX.out.s1 HX.out.d0 HX.out.d1 HX.out.obs HX.out.bbs HX.out.b.nil).mono ?_; rintro e w1 ⟨g1, cc1, rfl, _, y1⟩; dsimp only))
    go_ret
    exact ⟨rfl, y0.trans (y1.mono y0.size)⟩

/-- a packet that is begun. -/
abbrev bgB (x : Pk) (now : Int) : Bf := ⟨x.src, x.dst, x.id, x.proto, now, ⟨0, 0, false, false, 0, 0, 0, 0, 0, [], []⟩, false, -1, []⟩
set_option maxRecDepth 100000 in
set_option maxHeartbeats 4000000 in
theorem cbegin (x : Pk) (Ao : Option Addr) (co : Nat) (Ab : Option Addr) (cb : Nat) (now : Int) (w : World) :
    Calls Try.prog 36 #[ipV x Ao co Ab cb, .int .i64 now] w fun e w' => e = .returned (bfV (bgB x now) none 0 none 0 none 0) ∧ Below w.heap.size w w' := by
  have y0 : Below w.heap.size w ((w.alloc (oPk x Ao co Ab cb)).alloc (oBf bf0 none 0 none 0 none 0)) := below_alloc (below_alloc (Below.refl _ _) (Nat.le_refl _) _) (by simp) _
  have h1 := (Bxo.made w 25 (pkL x Ao co Ab cb)).alloc (oBf bf0 none 0 none 0 none 0)
  have h2 : Bxo ((w.alloc (oPk x Ao co Ab cb)).alloc (oBf bf0 none 0 none 0 none 0)) (w.heap.size + 1) 67 (bfL bf0 none 0 none 0 none 0) := by
    have := Bxo.made (w.alloc (oPk x Ao co Ab cb)) 67 (bfL bf0 none 0 none 0 none 0)
    simpa using this
  go_enter Try.func36, Try.ntmps36
  go_upto_region 1 with fail
  generalize ((w.alloc (oPk x Ao co Ab cb)).alloc (oBf bf0 none 0 none 0 none 0)) = W at *
  have H1 := Go.Lib.hid h1
  have H2 := Go.Lib.hid h2
  clear h1 h2
  have c1 := H1.out.cell 1 rfl
  have c6 := H1.out.cell 6 rfl
  have c7 := H1.out.cell 7 rfl
  have c8 := H1.out.cell 8 rfl
  go_wp2_with (first
    | (refine wpList_store_whole rfl 67 _ _ rfl (w.heap.size + 1) _ (bfL (bgB x now) none 0 none 0 none 0) rfl rfl H2.out info_bf rfl (by simp [Value.oneCell']) ?_; intro w2 hb2 ho2; have K2 := Go.Lib.hid hb2; clear hb2))
  have y2 : Below w.heap.size w w2 := y0.trans (ho2.below (show w.heap.size ≤ w.heap.size + 1 by omega))
  clear c1 c6 c7 c8
  exact bodyPost_ret (v := bfV (bgB x now) none 0 none 0 none 0) (results_cell_row rfl _ _ (w.heap.size + 1) 67 _ _ _ rfl K2.out Try.underlying67 rfl info_bf) rfl ⟨rfl, y2⟩
end Go.Proofs.Ytmblkgnjcmneeaa

/- Pools of a call's own: a row of packets, each with a row of runs of its own; their bytes in blocks that nothing is stored into. -/
namespace Go.Proofs.Ytmblkgnjcmneeaa
open Go.ChangeShapes Go.WideShapes Go.ChangeAt Go.RowKit
set_option linter.unusedVariables false
set_option linter.unusedSimpArgs false

/-- one block may have turned, others were added. -/
structure Gro (g : Nat) (w w' : World) : Prop where
  os : w'.os = w.os
  tape : w'.tape = w.tape
  output : w'.output = w.output
  size : w.heap.size ≤ w'.heap.size
  block : ∀ k, k < w.heap.size → k ≠ g → w'.heap[k]? = w.heap[k]?
section
variable {g B : Nat} {w w' w'' : World} {ty : TypeId} {cs : List Value}
theorem Gro.refl : Gro g w w := ⟨rfl, rfl, rfl, Nat.le_refl _, fun _ _ _ => rfl⟩
theorem Gro.trans (h : Gro g w w') (k : Gro g w' w'') : Gro g w w'' := ⟨k.os.trans h.os, k.tape.trans h.tape, k.output.trans h.output, Nat.le_trans h.size k.size, fun i hi hg => (k.block i (Nat.lt_of_lt_of_le hi h.size) hg).trans (h.block i hi hg)⟩
theorem Only.gro (h : Only g w w') : Gro g w w' := ⟨h.os, h.tape, h.output, Nat.le_of_eq h.size.symm, fun k _ hk => h.block k hk⟩
theorem gro_below (h : Below w.heap.size w w') : Gro g w w' := ⟨h.os, h.tape, h.output, h.size, fun k hk _ => h.block k hk⟩
theorem gro_grown (h : w.grownBy w' (some g)) : Gro g w w' := ⟨h.os, h.tape, h.output, h.size, fun k hk hg => h.block k hk (fun e => hg (by injection e))⟩
theorem Gro.below (h : Gro g w w') (hB : B ≤ g) (hs : B ≤ w.heap.size) : Below B w w' := ⟨h.os, h.tape, h.output, h.size, fun k hk => h.block k (by omega) (by omega)⟩
theorem Bxo.gro {g' : Nat} (h : Bxo w g' ty cs) (hg : Gro g w w') (hne : g' ≠ g) : Bxo w' g' ty cs := (hg.block g' h.lt hne).trans h
end
def blk (A : Option Addr) : Option Nat := A.map Addr.block
theorem own_none_any {w w' : World} {base base' : Nat} {e : TypeId} {size n c : Nat} {xs : List Value} (h : w.ownsRow base e size (.slice none n c) n xs) : w'.ownsRow base' e size (.slice none n c) n xs := by
  refine ⟨h.1, ?_⟩
  rcases h.2 with h | ⟨g, cap, cur, hv, _⟩
  · exact .inl h
  · cases hv
theorem own_addr {w : World} {base : Nat} {e : TypeId} {size n c : Nat} {A : Option Addr} {xs : List Value} (h : w.ownsRow base e size (.slice A n c) n xs) : (A = none ∧ n = 0 ∧ c = 0) ∨ ∃ g, A = some ⟨g, 0, none⟩ ∧ base ≤ g ∧ g < w.heap.size := by
  rcases h.2 with ⟨h, h'⟩ | ⟨g, cap, cur, hv, hb, hh, _⟩
  · injection h with a b c
    exact .inl ⟨a, h', c⟩
  · injection hv with a b c
    exact .inr ⟨g, a, hb, (Array.getElem?_eq_some_iff.1 hh).1⟩
theorem own_keepA {w w' : World} {base : Nat} {e : TypeId} {size n c : Nat} {A : Option Addr} {xs : List Value} (h : w.ownsRow base e size (.slice A n c) n xs) (hk : ∀ g, blk A = some g → w'.heap[g]? = w.heap[g]?) : w'.ownsRow base e size (.slice A n c) n xs := by
  rcases own_addr h with ⟨rfl, _⟩ | ⟨g, rfl, _⟩
  · exact own_none_any h
  · exact own_keep h (hk g rfl)
theorem own_base {w : World} {base base' : Nat} {e : TypeId} {size n c : Nat} {A : Option Addr} {xs : List Value} (h : w.ownsRow base e size (.slice A n c) n xs) (hb : base' ≤ base) : w.ownsRow base' e size (.slice A n c) n xs := by
  refine ⟨h.1, ?_⟩
  rcases h.2 with h | ⟨g, cap, cur, hv, h1, h2⟩
  · exact .inl h
  · exact .inr ⟨g, cap, cur, hv, Nat.le_trans hb h1, h2⟩
theorem own_cap {w : World} {base : Nat} {e : TypeId} {size n c : Nat} {A : Option Addr} {xs : List Value} (h : w.ownsRow base e size (.slice A n c) n xs) : n ≤ c ∧ c ≤ maxLen := by
  rcases h.2 with ⟨h, h'⟩ | ⟨g, cap, cur, hv, hb, hh, h1, h2, _⟩
  · injection h with a b c'; subst c'; subst h'; exact ⟨Nat.le_refl _, by unfold maxLen; omega⟩
  · injection hv with a b c'; subst c'; exact ⟨h1, h2⟩
theorem own_cells {w : World} {base : Nat} {e : TypeId} {size g n c : Nat} {xs : List Value} (h : w.ownsRow base e size (.slice (some ⟨g, 0, none⟩) n c) n xs) (j : Nat) (hj : j < n * size) : w.cell? ⟨g, j, none⟩ = xs[j]? := h.cellAt j hj
/-- a packet of the call's own: bytes in D, and a row of runs. -/
structure ElAt (w : World) (base : Nat) (D : Nat → Prop) (e : El) (rs : List Er) : Prop where
  s0 : 0 ≤ e.b.src
  s1 : e.b.src ≤ 4294967295
  d0 : 0 ≤ e.b.dst
  d1 : e.b.dst ≤ 4294967295
  hs0 : 0 ≤ e.b.head.src
  hs1 : e.b.head.src ≤ 4294967295
  hd0 : 0 ≤ e.b.head.dst
  hd1 : e.b.head.dst ≤ 4294967295
  o : ByIn w D e.Ao e.co e.b.head.opts
  bo : ByIn w D e.Ab e.cb e.b.head.body
  eq : rs.map Er.r = e.b.runs
  row : OwnR w base e.Ar e.cr rs
  data : ∀ r ∈ rs, ByIn w D r.A r.c r.r.data
section
variable {w w' : World} {base base' : Nat} {D D' : Nat → Prop} {e : El} {rs : List Er}
theorem ElAt.keep (h : ElAt w base D e rs) (hD : ∀ b, D b → w'.heap[b]? = w.heap[b]?) (hr : ∀ g, blk e.Ar = some g → w'.heap[g]? = w.heap[g]?) : ElAt w' base D e rs :=
  ⟨h.s0, h.s1, h.d0, h.d1, h.hs0, h.hs1, h.hd0, h.hd1, h.o.keepH hD, h.bo.keepH hD, h.eq, own_keepA h.row hr, fun r hr' => (h.data r hr').keepH hD⟩
theorem ElAt.more (h : ElAt w base D e rs) (hD : ∀ b, D b → D' b) (hb : base' ≤ base) : ElAt w base' D' e rs :=
  ⟨h.s0, h.s1, h.d0, h.d1, h.hs0, h.hs1, h.hd0, h.hd1, h.o.more hD, h.bo.more hD, h.eq, own_base h.row hb, fun r hr' => (h.data r hr').more hD⟩
theorem ElAt.len (h : ElAt w base D e rs) : rs.length = e.b.runs.length := by rw [← h.eq, List.length_map]
/-- runs in a row of the call's own, read. -/
theorem rs_of_own {A : Option Addr} {c : Nat} {U : Nat → Prop} (h : OwnR w base A c rs) (hd : ∀ r ∈ rs, ByIn w D r.A r.c r.r.data) (hD : ∀ b, D b → U b) (hA : ∀ g, blk A = some g → U g) : Rs w U A (rs.map Er.r) := by
  rcases own_addr h with ⟨rfl, hn, _⟩ | ⟨g, rfl, _⟩
  · have : rs = [] := List.eq_nil_of_length_eq_zero hn
    subst this; exact .inl rfl
  · refine .inr ⟨_, rfl, hA g rfl, fun j r hj => ?_⟩
    rw [List.getElem?_map, Option.map_eq_some_iff] at hj
    obtain ⟨e, he, rfl⟩ := hj
    obtain ⟨hjl, rfl⟩ := List.getElem?_eq_some_iff.1 he
    have hc : ∀ i, i < 2 → w.cell? ⟨g, j * 2 + i, none⟩ = (rs[j].L)[i]? := fun i hi => by
      rw [own_cells h (j * 2 + i) (by omega)]
      exact flat_get Er.L 2 Er.len rs j i hjl hi
    refine ⟨by rw [Addr.add_mid, Nat.zero_add]; exact hc 0 (by omega), rs[j].A, rs[j].c, by rw [Addr.add_mid, Nat.zero_add]; exact hc 1 (by omega), (hd _ (List.getElem_mem hjl)).more hD⟩
theorem ElAt.bf (h : ElAt w base D e rs) {U : Nat → Prop} (hD : ∀ b, D b → U b) (hA : ∀ g, blk e.Ar = some g → U g) (lt : ∀ b, U b → b < w.heap.size) : BfAt w U e.b e.Ao e.co e.Ab e.cb e.Ar e.cr := by
  have hc := own_cap h.row
  rw [h.len] at hc
  unfold maxLen at hc
  refine ⟨h.s0, h.s1, h.d0, h.d1, h.hs0, h.hs1, h.hd0, h.hd1, h.o.more hD, h.bo.more hD, hc.1, by omega, fun hn => ?_, by rw [← h.eq]; exact rs_of_own h.row h.data hD hA, lt⟩
  rcases own_addr h.row with ⟨_, _, hz⟩ | ⟨g, hg, _⟩
  · exact hz
  · rw [hn] at hg; cases hg
end
/-- a pool of the call's own. -/
structure OwnPo (w : World) (base : Nat) (D : Nat → Prop) (A : Option Addr) (c : Nat) (es : List El) : Prop where
  row : OwnB w base A c es
  els : ∀ e ∈ es, ∃ rs, ElAt w base D e rs
  dl : ∀ g, blk A = some g → ¬ D g
  de : ∀ e ∈ es, ∀ g, blk e.Ar = some g → ¬ D g ∧ blk A ≠ some g
  dis : es.Pairwise (fun a b => ∀ g, blk a.Ar = some g → blk b.Ar ≠ some g)
  lt : ∀ b, D b → b < w.heap.size
theorem bf_cells {w : World} {g c : Nat} {base : Nat} {es : List El} (h : OwnB w base (some ⟨g, 0, none⟩) c es) (j : Nat) (hj : j < es.length) : ∀ i v, (es[j].L)[i]? = some v → w.cell? ((⟨g, j * 19, none⟩ : Addr).add i) = some v := fun i v hv => by
  have hi : i < 19 := by have := (List.getElem?_eq_some_iff.1 hv).1; rw [El.len] at this; exact this
  rw [Addr.add_mid, own_cells h (j * 19 + i) (by omega), flat_get El.L 19 El.len es j i hj hi]
  exact hv
theorem OwnPo.po {w : World} {base : Nat} {D : Nat → Prop} {A : Option Addr} {c : Nat} {es : List El} (h : OwnPo w base D A c es) {U : Nat → Prop} (hD : ∀ b, D b → U b) (hB : ∀ b, base ≤ b → b < w.heap.size → U b) (lt : ∀ b, U b → b < w.heap.size) (p : Po) (hp : es.map El.b = p.list) : PoAt w U p A c := by
  have hl : p.list.length = es.length := by rw [← hp, List.length_map]
  have hc := own_cap h.row
  unfold maxLen at hc
  refine ⟨⟨by omega, by omega, fun hn => ?_, ?_⟩, lt⟩
  · rcases own_addr h.row with ⟨_, _, hz⟩ | ⟨g, hg, _⟩
    · exact hz
    · rw [hn] at hg; cases hg
  · rcases own_addr h.row with ⟨_, hz, _⟩ | ⟨g, rfl, hg1, hg2⟩
    · exact .inl (List.eq_nil_of_length_eq_zero (by omega))
    · refine .inr ⟨_, rfl, hB g hg1 hg2, fun j b hj => ?_⟩
      rw [← hp, List.getElem?_map, Option.map_eq_some_iff] at hj
      obtain ⟨e, he, rfl⟩ := hj
      obtain ⟨hjl, rfl⟩ := List.getElem?_eq_some_iff.1 he
      obtain ⟨rs, hr⟩ := h.els _ (List.getElem_mem hjl)
      have hb := hr.bf hD (fun g' hg' => by
        rcases own_addr hr.row with ⟨hn, _⟩ | ⟨g2, hg2', h1, h2⟩
        · rw [hn] at hg'; cases hg'
        · rw [hg2'] at hg'; injection hg' with hg'; subst hg'; exact hB _ h1 h2) lt
      have hc' := bf_cells h.row j hjl
      have q : ∀ i v, (es[j].L)[i]? = some v → w.cell? ((⟨g, 0, none⟩ : Addr).add (j * 19 + i)) = some v := fun i v hv => by
        have := hc' i v hv
        rw [Addr.add_mid] at this ⊢
        rwa [Nat.zero_add]
      refine ⟨es[j].Ao, es[j].co, es[j].Ab, es[j].cb, es[j].Ar, es[j].cr, ⟨hb.s0, hb.s1, hb.d0, hb.d1, q 0 _ rfl, q 1 _ rfl, q 2 _ rfl, q 3 _ rfl, q 4 _ rfl, ⟨hb.hs0, hb.hs1, hb.hd0, hb.hd1, ?_, ?_, ?_, ?_, ?_, ?_, ?_, ?_, ?_, ?_, ?_, hb.o, hb.bo⟩, q 16 _ rfl, q 17 _ rfl, q 18 _ rfl, hb.rlen, hb.rcap, hb.rnil, hb.runs⟩⟩
      · exact q 5 _ rfl
      · exact q 6 _ rfl
      · exact q 7 _ rfl
      · exact q 8 _ rfl
      · exact q 9 _ rfl
      · exact q 10 _ rfl
      · exact q 11 _ rfl
      · exact q 12 _ rfl
      · exact q 13 _ rfl
      · exact q 14 _ rfl
      · exact q 15 _ rfl
/-- what copyPool answers: a pool of the call's own that reads as the one that came in. -/
def PoOwn (w0 : World) (V : Nat → Prop) (w : World) (p : Po) (A : Option Addr) (c : Nat) : Prop := ∃ es D, es.map El.b = p.list ∧ OwnPo w w0.heap.size D A c es ∧ (∀ b, D b → growV V w0 w b)
theorem PoOwn.at {w0 w : World} {V : Nat → Prop} {p : Po} {A : Option Addr} {c : Nat} (h : PoOwn w0 V w p A c) (lt : ∀ b, V b → b < w0.heap.size) (hs : w0.heap.size ≤ w.heap.size) : PoAt w (growV V w0 w) p A c := by
  obtain ⟨es, D, hp, ho, hg⟩ := h
  exact ho.po hg (fun b h1 h2 => .inr ⟨h1, h2⟩) (grow_lt lt hs) p hp
end Go.Proofs.Ytmblkgnjcmneeaa

/- The contracts of package reasm's whole, joined. -/
namespace Go.Proofs.Ytmblkgnjcmneeaa
open Go.ChangeShapes Go.WideShapes Go.ChangeAt Go.RowKit
set_option linter.unusedVariables false
set_option linter.unusedSimpArgs false

/-- runs side by side from a place on; where they end. -/
def allB : Int → List Rn → Bool
  | _, [] => true
  | lo, r :: t => (r.off == lo) && allB (stopR r) t
def endR : Int → List Rn → Int
  | lo, [] => lo
  | _, r :: t => endR (stopR r) t
theorem body_all_of (lo : Int) : ∀ (l : List Rn) (lo : Int) (acc : List UInt8), allB lo l = true → (acc.length : Int) = lo → bodyR l acc = acc ++ l.flatMap Rn.data ∧ ((bodyR l acc).length : Int) = endR lo l
  | [], lo, acc, _, h => by simp [bodyR, endR, h]
  | r :: t, lo, acc, h, hl => by
    unfold allB at h
    rw [Bool.and_eq_true, beq_iff_eq] at h
    have e : r.off = (acc.length : Int) := h.1.trans hl.symm
    have ih := body_all_of lo t (stopR r) (acc ++ r.data) h.2 (by rw [List.length_append]; unfold stopR; omega)
    unfold bodyR endR
    rw [if_pos e]
    exact ⟨by rw [ih.1]; simp, ih.2⟩
theorem body_less_of (total : Int) (ht : 0 < total) : ∀ (l : List Rn) (lo : Int) (acc : List UInt8), allB lo l = false → (acc.length : Int) = lo → RunsOk total lo l → ((bodyR l acc).length : Int) < total
  | [], lo, acc, h, _, _ => by simp [allB] at h
  | r :: t, lo, acc, h, hl, ⟨hr, hk⟩ => by
    unfold allB at h
    by_cases e : r.off = lo
    · rw [e, beq_self_eq_true, Bool.true_and] at h
      unfold bodyR
      rw [if_pos (e.trans hl.symm)]
      exact body_less_of total ht t (stopR r) (acc ++ r.data) h (by rw [List.length_append]; unfold stopR; omega) hk
    · unfold bodyR
      rw [if_neg (fun h' => e (h'.trans hl))]
      have h1 := hr.lo
      have h2 := hr.tot ht
      have h3 := hr.len
      unfold stopR at h2
      omega
def wholeB (b : Bf) : Bool := allB 0 b.runs && (endR 0 b.runs == b.total)
theorem whole_code {b : Bf} (h : RunsOk b.total 0 b.runs) (t0 : b.total = -1 ∨ 1 ≤ b.total) (n : 0 < b.runs.length) : wholeB b = decide (¬ (b.total < 0 ∨ ((bodyR b.runs []).length : Int) ≠ b.total)) := by
  unfold wholeB
  cases ha : allB 0 b.runs
  · rcases t0 with t0 | t0
    · rw [Bool.false_and, eq_comm, decide_eq_false_iff_not]; omega
    · have := body_less_of b.total (by omega) b.runs 0 [] ha rfl h
      rw [Bool.false_and, eq_comm, decide_eq_false_iff_not]; omega
  · have := (body_all_of 0 b.runs 0 [] ha rfl).2
    rw [Bool.true_and, ← this, Bool.eq_iff_iff, beq_iff_eq, decide_eq_true_eq]
    omega
theorem whole_flat {b : Bf} (h : wholeB b = true) : bodyR b.runs [] = b.runs.flatMap Rn.data ∧ ((bodyR b.runs []).length : Int) = b.total := by
  unfold wholeB at h
  rw [Bool.and_eq_true, beq_iff_eq] at h
  have := body_all_of 0 b.runs 0 [] h.1 rfl
  exact ⟨by rw [this.1]; rfl, by rw [this.2, h.2]⟩
theorem allB_step (lo : Int) (l : List Rn) (k : Nat) (h : k < l.length) : allB lo (l.drop k) = ((l[k].off == lo) && allB (stopR l[k]) (l.drop (k + 1))) := by rw [List.drop_eq_getElem_cons h]; rfl
theorem endR_step (lo : Int) (l : List Rn) (k : Nat) (h : k < l.length) : endR lo (l.drop k) = endR (stopR l[k]) (l.drop (k + 1)) := by rw [List.drop_eq_getElem_cons h]; rfl
theorem runs_each : ∀ (total lo : Int) (l : List Rn), RunsOk total lo l → 0 ≤ lo → ∀ r ∈ l, 0 ≤ r.off ∧ stopR r ≤ 65535
  | _, _, [], _, _, _, hr => by cases hr
  | total, lo, a :: t, ⟨ha, ht⟩, h0, r, hr => by
    have h1 := ha.lo
    have h2 := ha.len
    rcases List.mem_cons.1 hr with rfl | hr
    · exact ⟨by omega, ha.top⟩
    · exact runs_each total (stopR a) t ht (by unfold stopR; omega) r hr
set_option maxRecDepth 100000 in
set_option maxHeartbeats 4000000 in
theorem cwhole (b : Bf) (Ao : Option Addr) (co : Nat) (Ab : Option Addr) (cb : Nat) (Ar : Option Addr) (cr : Nat) (q : Bool) (hq : wholeB b = q) (w : World) (V : Nat → Prop) (hB : BfAt w V b Ao co Ab cb Ar cr) (hR : RunsOk b.total 0 b.runs) :
    Calls Try.prog 62 #[bfV b Ao co Ab cb Ar cr] w fun e w' => e = .returned (.bool q) ∧ Below w.heap.size w w' := by
  have HE := Go.Lib.hid (runs_each _ _ _ hR (Int.le_refl 0))
  have HQ : Hid (q = (allB 0 b.runs && (endR 0 b.runs == b.total))) := Go.Lib.hid hq.symm
  have b0 : Below w.heap.size w (w.alloc (oBf b Ao co Ab cb Ar cr)) := (Below.refl _ _).alloc (Nat.le_refl _) _
  have h1 := Bxo.made w 67 (bfL b Ao co Ab cb Ar cr)
  have s0 : w.heap.size < (w.alloc (oBf b Ao co Ab cb Ar cr)).heap.size := by simp
  have HB0 := Go.Lib.hid (hB.at b0)
  have rlen := hB.rlen
  have rcap := hB.rcap
  clear hB hq hR
  go_enter Try.func62, Try.ntmps62
  go_upto_region 2 with fail
  generalize w.alloc (oBf b Ao co Ab cb Ar cr) = W at *
  have H1 := Go.Lib.hid h1
  clear h1
  have c18 := H1.out.cell 18 rfl
  go_wp2
  clear c18
  go_loopw [3, 9] (fun n i wr => ∃ (k : Nat) (lo : Int), k ≤ b.runs.length ∧ i = .int .i64 k ∧ n = .int .i64 lo ∧ Hid (allB 0 b.runs = allB lo (b.runs.drop k)) ∧ Hid (endR 0 b.runs = endR lo (b.runs.drop k)) ∧ Below W.heap.size W wr) (fun _ i _ => b.runs.length - (intOf i).toNat)
  case atStart => exact ⟨0, 0, by omega, rfl, rfl, Go.Lib.hid (by simp), Go.Lib.hid (by simp), Below.refl _ _⟩
  case round =>
    obtain ⟨k, lo, hk, rfl, rfl, HA, HN, x1⟩ := hrel
    by_cases hlt : k < b.runs.length
    · obtain ⟨ad, Ad, cd, rfl, hb, r0, r1, rb⟩ := (HB0.out.at x1).runs.at_ hlt
      have HS := Go.Lib.hid (allB_step lo b.runs k hlt)
      have HT := Go.Lib.hid (endR_step lo b.runs k hlt)
      have hE := HE.out _ (List.getElem_mem hlt)
      have i1 : (0 : Int) ≤ (k : Int) := by omega
      have i2 : (k : Int) < (b.runs.length : Int) := by omega
      have q7 := rb.len
      have q8 := rb.cap
      clear rb
      generalize hd : b.runs[k] = y at *
      clear hd
      obtain ⟨e1, e2⟩ := hE
      have e3 : stopR y = y.off + (y.data.length : Int) := rfl
      generalize hst : stopR y = st at *
      have HST := Go.Lib.hid hst
      clear hst
      have y1 := below_alloc x1 x1.size (oRn y Ad cd)
      go_upto_region 5 with fail
      have M1 := Go.Lib.hid (BoRn.made (w := wr) (r := y) (Ad := Ad) (cd := cd))
      generalize wr.alloc (oRn y Ad cd) = W2 at *
      obtain ⟨d0, d1⟩ := M1.out.cells
      by_cases h1 : y.off = lo
      · have t1 : (y.off != lo) = false := by simp [h1]
        have HH : Hid ((y.off == lo) = true) := Go.Lib.hid (by simp [h1])
        clear h1
        go_wp2_with (first
          | (go_at_call 56; refine (cendOf y Ad cd _ st HST.out (by omega) (by omega)).mono ?_; rintro e w' ⟨rfl, hcall⟩; dsimp only))
        go_round
        case rel => exact ⟨k + 1, st, by omega, by go_num, rfl, Go.Lib.hid (by rw [HA.out, HS.out, HH.out]; rfl), Go.Lib.hid (by rw [HN.out, HT.out]), y1.trans (hcall.mono y1.size)⟩
        case measure => simp [intOf]; omega
      · have t1 : (y.off != lo) = true := by simp [h1]
        have HH : Hid ((y.off == lo) = false) := Go.Lib.hid (by simp [h1])
        clear h1
        go_wp2
        go_ret
        exact ⟨ret_bool (by rw [HQ.out, HA.out, HS.out, HH.out]; rfl), b0.trans (y1.mono b0.size)⟩
    · obtain rfl : k = b.runs.length := by omega
      have HF : Hid (q = (lo == b.total)) := Go.Lib.hid (by rw [HQ.out, HA.out, HN.out, List.drop_length]; simp [allB, endR])
      have c17 := (H1.out.keep x1 s0).cell 17 rfl
      go_wp2
      go_ret
      exact ⟨ret_bool HF.out.symm, b0.trans (x1.mono b0.size)⟩
end Go.Proofs.Ytmblkgnjcmneeaa

/- The contract of package reasm's joined. -/
namespace Go.Proofs.Ytmblkgnjcmneeaa
open Go.ChangeShapes Go.WideShapes Go.ChangeAt Go.RowKit
set_option linter.unusedVariables false
set_option linter.unusedSimpArgs false

/-- the packet that the runs make. -/
def outB (b : Bf) : Pk := ⟨b.head.tos, b.head.id, b.head.df, b.head.mf, b.head.off, b.head.ttl, b.head.proto, b.head.src, b.head.dst, b.head.opts, bodyR b.runs []⟩
/-- ahead of run j: the packet's box names a row of bytes of the call's own. -/
structure JoI (w : World) (b : Bf) (Ao : Option Addr) (co : Nat) (wr : World) (j : Nat) (A : Option Addr) (c : Nat) (l : List UInt8) : Prop where
  below : Below w.heap.size w wr
  zbox : Bxo wr (w.heap.size + 1) 25 (pkL pk0 none 0 none 0)
  box : Bxo wr (w.heap.size + 2) 25 [.int .i64 b.head.tos, .int .i64 b.head.id, .bool b.head.df, .bool b.head.mf, .int .i64 b.head.off, .int .i64 b.head.ttl, .int .i64 b.head.proto, .int .u32 b.head.src, .int .u32 b.head.dst, .slice Ao b.head.opts.length co, .slice A l.length c]
  row : wr.ownsRow (w.heap.size + 3) 5 1 (.slice A l.length c) l.length (l.map bv)
  eq : l = (b.runs.take j).flatMap Rn.data
theorem flat_step (l : List Rn) (k : Nat) (h : k < l.length) : (l.take (k + 1)).flatMap Rn.data = (l.take k).flatMap Rn.data ++ l[k].data := by
  rw [List.take_succ_eq_append_getElem h, List.flatMap_append]; simp
theorem flat_le (l : List Rn) (k : Nat) : ((l.take k).flatMap Rn.data).length ≤ (l.flatMap Rn.data).length := by
  conv => rhs; rw [← List.take_append_drop k l, List.flatMap_append, List.length_append]
  omega
set_option maxRecDepth 100000 in
set_option maxHeartbeats 4000000 in
theorem cjoined (b : Bf) (Ao : Option Addr) (co : Nat) (Ab : Option Addr) (cb : Nat) (Ar : Option Addr) (cr : Nat) (w : World) (V : Nat → Prop) (hB : BfAt w V b Ao co Ab cb Ar cr) (hw : wholeB b = true) (ht : b.total ≤ 65535) :
    Calls Try.prog 63 #[bfV b Ao co Ab cb Ar cr] w fun e w' => ∃ A2 c2, e = .returned (ipV (outB b) Ao co A2 c2) ∧ PkAt w' (growV V w w') (outB b) Ao co A2 c2 ∧ Below w.heap.size w w' := by
  obtain ⟨i0, hi, hz0, hz1, hz2⟩ := info_parts info_byte
  obtain ⟨hf1, hf2⟩ := whole_flat hw
  have HF1 := Go.Lib.hid hf1
  obtain ⟨n, hn⟩ : ∃ n : Nat, b.total = (n : Int) := ⟨(bodyR b.runs []).length, hf2.symm⟩
  have hn2 : (b.runs.flatMap Rn.data).length = n := by rw [← hf1]; omega
  have HV := Go.Lib.hid hB.lt
  have HB0 := Go.Lib.hid hB
  have y0 : Below w.heap.size w ((w.alloc (oBf b Ao co Ab cb Ar cr)).alloc (oPk pk0 none 0 none 0)) := below_alloc (below_alloc (Below.refl _ _) (Nat.le_refl _) _) (by simp) _
  have h1 := (Bxo.made w 67 (bfL b Ao co Ab cb Ar cr)).alloc (oPk pk0 none 0 none 0)
  have h2 : Bxo ((w.alloc (oBf b Ao co Ab cb Ar cr)).alloc (oPk pk0 none 0 none 0)) (w.heap.size + 1) 25 (pkL pk0 none 0 none 0) := by
    have := Bxo.made (w.alloc (oBf b Ao co Ab cb Ar cr)) 25 (pkL pk0 none 0 none 0)
    simpa using this
  have hz : ((w.alloc (oBf b Ao co Ab cb Ar cr)).alloc (oPk pk0 none 0 none 0)).heap.size = w.heap.size + 2 := by simp
  have rlen := hB.rlen
  have rcap := hB.rcap
  have n65 : n ≤ 65535 := by omega
  have HN := Go.Lib.hid hn
  clear hB hf1 hf2 hw ht hn
  go_enter Try.func63, Try.ntmps63
  go_upto_region 1 with fail
  generalize ((w.alloc (oBf b Ao co Ab cb Ar cr)).alloc (oPk pk0 none 0 none 0)) = W at *
  have H1 := Go.Lib.hid h1
  have H2 := Go.Lib.hid h2
  clear h1 h2
  have s3 : W.heap.size < (W.alloc (oPk b.head Ao co Ab cb)).heap.size := by simp
  have e3 : (W.alloc (oPk b.head Ao co Ab cb)).heap.size = w.heap.size + 3 := by simp [hz]
  have y3 : Below w.heap.size w (W.alloc (oPk b.head Ao co Ab cb)) := below_alloc y0 (by omega) _
  have h3 : Bxo (W.alloc (oPk b.head Ao co Ab cb)) (w.heap.size + 2) 25 (pkL b.head Ao co Ab cb) := by
    have := Bxo.made W 25 (pkL b.head Ao co Ab cb)
    rwa [hz] at this
  have K1 := Go.Lib.hid (H1.out.alloc (oPk b.head Ao co Ab cb))
  have K2 := Go.Lib.hid (H2.out.alloc (oPk b.head Ao co Ab cb))
  have K3 := Go.Lib.hid h3
  clear h3
  go_upto_region 2 with (first
    | (refine wpList_load_pk rfl _ rfl ⟨w.heap.size, 5, none⟩ rfl b.head Ao co Ab cb (H1.out.mid 5 _ (sub_get rfl)) ?_)
    | (refine wpList_store_new rfl 25 _ _ rfl _ (pkL b.head Ao co Ab cb).toArray rfl rfl info_pk rfl (pk_one _ _ _ _ _) ?_))
  generalize W.alloc (oPk b.head Ao co Ab cb) = W3 at *
  clear H1 H2 s3
  have c17 := K1.out.cell 17 rfl
  go_upto_region 3 with (first
    | (at_make; refine wpList_make_own _ rfl _ _ 23 rfl (w.heap.size + 3) 5 i0 (.int .u8 0) 1 Try.underlying23 hi hz0 hz1 _ _ b.total n rfl rfl HN.out (by rw [hz2]; omega) (by unfold maxLen; omega) (by omega) ?_; intro w4 ho4 hg4; rw [e3] at ho4; have y4 : Below W3.heap.size W3 w4 := (Below.refl _ _).grown hg4 (Nat.le_refl _) (fun k hk => by cases hk); have HO4 := Go.Lib.hid ho4; have K4 := Go.Lib.hid (K3.out.keep y4 (by omega)); have Z4 := Go.Lib.hid (K2.out.keep y4 (by omega)); have B4 := Go.Lib.hid (K1.out.keep y4 (by omega)); clear ho4 c17)
    | (refine wpList_store_any rfl 23 _ _ rfl (w.heap.size + 2) 10 25 _ [.slice (some ⟨w.heap.size + 3, 0, none⟩) 0 n] _ rfl rfl rfl K4.out info_bs (by show 10 + 1 ≤ 11; omega) (by simp [Value.oneCell']) ?_; intro w5 hb5 ho5; have HB5 := Go.Lib.hid hb5; clear hb5))
  have JI0 : Hid (JoI w b Ao co w5 0 (some ⟨w.heap.size + 3, 0, none⟩) n []) := Go.Lib.hid ⟨(y3.trans (y4.mono (by omega))).trans (ho5.below (by omega)), Z4.out.only ho5 (by omega), HB5.out, own_keep HO4.out (ho5.block _ (by omega)), by simp⟩
  have BX : Hid (Bxo w5 w.heap.size 67 (bfL b Ao co Ab cb Ar cr)) := Go.Lib.hid (B4.out.only ho5 (by omega))
  have c18 := BX.out.cell 18 rfl
  clear K1 K2 K3 K4 Z4 B4 HO4 HB5 y4 ho5 y3
  go_wp2
  clear c18
  go_loopw [15] (fun i wr => ∃ (j : Nat) (A : Option Addr) (c : Nat) (l : List UInt8), j ≤ b.runs.length ∧ i = .int .i64 j ∧ JoI w b Ao co wr j A c l) (fun i _ => b.runs.length - (intOf i).toNat)
  case atStart => exact ⟨0, _, _, _, by omega, rfl, JI0.out⟩
  case round =>
    rename World => wo
    clear JI0
    obtain ⟨j, A, c, l, hj, rfl, hI⟩ := hrel
    have HI := Go.Lib.hid hI
    have wb := hI.below.size
    have wz := hI.box.lt
    have lcap := own_cap hI.row
    unfold maxLen at lcap
    obtain ⟨lc1, lc2⟩ := lcap
    have HL := Go.Lib.hid hI.eq
    clear hI
    by_cases hlt : j < b.runs.length
    · obtain ⟨ad, Ad, cd, rfl, hb, r0, r1, rb⟩ := (HB0.out.at HI.out.below).runs.at_ hlt
      have HS := Go.Lib.hid (flat_step b.runs j hlt)
      have HLE := Go.Lib.hid (flat_le b.runs (j + 1))
      have i1 : (0 : Int) ≤ (j : Int) := by omega
      have i2 : (j : Int) < (b.runs.length : Int) := by omega
      have q7 := rb.len
      have q8 := rb.cap
      have HD := Go.Lib.hid rb
      clear rb
      generalize hd : b.runs[j] = y at *
      clear hd
      have l65 : l.length + y.data.length ≤ 65535 := by
        have h1 := HLE.out
        rw [HS.out, List.length_append, ← HL.out] at h1
        omega
      have y6 : Below wo.heap.size wo (wo.alloc (oRn y Ad cd)) := (Below.refl _ _).alloc (Nat.le_refl _) _
      have M6 := Go.Lib.hid (BoRn.made (w := wo) (r := y) (Ad := Ad) (cd := cd))
      have s6 : wo.heap.size < (wo.alloc (oRn y Ad cd)).heap.size := by simp
      go_upto_region 6 with fail
      generalize wo.alloc (oRn y Ad cd) = W6 at *
      have K6 := Go.Lib.hid (HI.out.box.keep y6 wz)
      have Z6 := Go.Lib.hid (HI.out.zbox.keep y6 HI.out.zbox.lt)
      have R6 := Go.Lib.hid (own_keepA HI.out.row (w' := W6) (fun g hg => by
        rcases own_addr HI.out.row with ⟨hn', _⟩ | ⟨g2, hg2, h1, h2⟩
        · rw [hn'] at hg; cases hg
        · rw [hg2] at hg; injection hg with hg; have hg : g2 = g := hg; subst hg; exact y6.block _ h2))
      have HOB : Hid (∀ g, (Value.slice A l.length c).ownBlock = some g → w.heap.size + 3 ≤ g ∧ g < W6.heap.size) := Go.Lib.hid (fun g hg => World.ownsRow.lt R6.out g hg)
      have HBS := Go.Lib.hid ((HD.out.bs.keep (KeepV.of y6 (fun x hx => Nat.lt_of_lt_of_le (HV.out x hx) wb))).bs (B := W6.heap.size) (fun x hx => by have := HV.out x hx; omega))
      have w6z := y6.size
      have c10 := K6.out.cell 10 rfl
      obtain ⟨d0, d1⟩ := M6.out.cells
      go_wp2_with (first
        | (at_builtin; refine wpList_append_rd rfl _ _ 23 rfl (w.heap.size + 3) 5 i0 (.int .u8 0) 1 Try.underlying23 hi hz0 hz1 hz2 rfl (.slice A l.length c) l.length (l.map bv) rfl R6.out W6.heap.size Ad y.data.length cd (y.data.map bv) rfl (by simp) HD.out.nil HBS.out.rd (bv_one _) (by unfold maxLen; omega) (by omega) (by omega) ?_; intro v7 w7 ho7 hg7 hat7; obtain ⟨A7, c7, rfl⟩ := own_slice ho7; have HO7 := Go.Lib.hid ho7; have HG7 := Go.Lib.hid hg7; have K7 : Hid (Bxo w7 (w.heap.size + 2) 25 _) := Go.Lib.hid ((hg7.block _ (by omega) (fun e => by have := HOB.out _ e.symm; omega)).trans K6.out); have Z7 : Hid (Bxo w7 (w.heap.size + 1) 25 _) := Go.Lib.hid ((hg7.block _ (by omega) (fun e => by have := HOB.out _ e.symm; omega)).trans Z6.out); clear ho7 hg7 hat7 c10 d0 d1)
        | (refine wpList_store_any rfl 23 _ _ rfl (w.heap.size + 2) 10 25 _ [.slice A7 (l.length + y.data.length) c7] _ rfl rfl rfl K7.out info_bs (by show 10 + 1 ≤ 11; omega) (by simp [Value.oneCell']) ?_; intro w8 hb8 ho8; have HB8 := Go.Lib.hid hb8; clear hb8))
      have y7 : Below w.heap.size w w7 := (HI.out.below.trans (y6.mono wb)).grown HG7.out (by omega) (fun k hk => by have := HOB.out k hk; omega)
      have HN2 : Hid (JoI w b Ao co w8 (j + 1) A7 c7 (l ++ y.data)) := Go.Lib.hid ⟨y7.trans (ho8.below (by omega)), Z7.out.only ho8 (by omega), by rw [List.length_append]; exact HB8.out, by
        rw [List.length_append, List.map_append]
        refine own_keepA HO7.out (fun g hg => ho8.block g (fun e => ?_))
        rcases own_addr HO7.out with ⟨hn', _⟩ | ⟨g2, hg2, h1, h2⟩
        · rw [hn'] at hg; cases hg
        · rw [hg2] at hg; injection hg with hg; have hg : g2 = g := hg; omega, by rw [HS.out, ← HL.out]⟩
      go_round
      case rel => exact ⟨j + 1, A7, c7, l ++ y.data, by omega, by go_num, HN2.out⟩
      case measure => simp [intOf]; omega
    · obtain rfl : j = b.runs.length := by omega
      have hl : l = bodyR b.runs [] := by rw [HL.out, List.take_length, HF1.out]
      subst hl
      have K9 : Hid (Bxo wo (w.heap.size + 2) 25 (pkL (outB b) Ao co A c)) := Go.Lib.hid HI.out.box
      have Z9 := Go.Lib.hid HI.out.zbox
      have s1 := HB0.out.hs0
      have s2 := HB0.out.hs1
      have s3 := HB0.out.hd0
      have s4 := HB0.out.hd1
      go_wp2_with (first
        | (refine wpList_load_pk rfl _ rfl ⟨w.heap.size + 2, 0, none⟩ rfl (outB b) Ao co A c K9.out.at ?_)
        | (refine wpList_store_whole rfl 25 _ _ rfl (w.heap.size + 1) _ (pkL (outB b) Ao co A c) rfl rfl Z9.out info_pk rfl (by simp [Value.oneCell']) ?_; intro w9 hb9 ho9; have HB9 := Go.Lib.hid hb9; clear hb9))
      have y9 : Below w.heap.size w w9 := HI.out.below.trans (ho9.below (show w.heap.size ≤ w.heap.size + 1 by omega))
      have hrow := own_keepA HI.out.row (w' := w9) (fun g hg => ho9.block g (fun e => by
        rcases own_addr HI.out.row with ⟨hn', _⟩ | ⟨g2, hg2, h1, h2⟩
        · rw [hn'] at hg; cases hg
        · rw [hg2] at hg; injection hg with hg; have hg : g2 = g := hg; omega))
      have hbs : ByIn w9 (growV V w w9) A c (bodyR b.runs []) := by
        refine ⟨lc1, by omega, fun hn' => ?_, ?_⟩
        · rcases own_addr hrow with ⟨_, _, hz'⟩ | ⟨g2, hg2, _⟩
          · exact hz'
          · rw [hn'] at hg2; cases hg2
        · rcases own_addr hrow with ⟨_, hz', _⟩ | ⟨g2, rfl, h1, h2⟩
          · exact .inl (List.eq_nil_of_length_eq_zero hz')
          · refine .inr ⟨_, rfl, .inr ⟨show w.heap.size ≤ g2 by omega, h2⟩, fun k x hx => ?_⟩
            have hk := (List.getElem?_eq_some_iff.1 hx).1
            rw [Addr.add_mid, Nat.zero_add, own_cells hrow k (by omega), List.getElem?_map, hx]
            rfl
      exact bodyPost_ret (v := ipV (outB b) Ao co A c) (results_cell_row rfl _ _ (w.heap.size + 1) 25 _ _ _ rfl HB9.out Try.underlying25 rfl info_pk) rfl ⟨A, c, rfl, ⟨s1, s2, s3, s4, ((HB0.out.o.keep (KeepV.of y9 HV.out)).more (fun x hx => .inl hx)), hbs, grow_lt HV.out y9.size⟩, y9⟩
end Go.Proofs.Ytmblkgnjcmneeaa

/- append and clear in a row of the call's own, in place, at elements of several cells; copy within and into it. No condition. -/
namespace Go.Proofs.Ytmblkgnjcmneeaa
open Go.ChangeShapes Go.WideShapes Go.ChangeAt Go.RowKit
set_option linter.unusedVariables false
set_option linter.unusedSimpArgs false

section
variable {P : Program}
theorem bxo_setRow {w : World} {g : Nat} {e : TypeId} {cur : List Value} (h : Bxo w g e cur) (cs : List Value) : Bxo (w.setRow g cs.toArray) g e cs ∧ Only g w (w.setRow g cs.toArray) := by
  refine ⟨setRow_heap w g _ _ _ _ h, ⟨rfl, rfl, rfl, by simp [World.setRow], fun k hk => ?_⟩⟩
  unfold World.setRow
  simp only [Array.getElem?_modify]
  rw [if_neg (fun e => hk e.symm)]
theorem run_append_row {w : World} (t ty e : TypeId) (i : TypeInfo) (k : Nat) (ht : P.underlying t = some (.slice e)) (hi : P.info? e = some i) (hk : i.size = k)
    (g sLen sCap : Nat) (cur : List Value) (hg : Bxo w g e cur) (ad : Addr) (m c : Nat) (news : List Value) (hl : news.length = m * k) (hnews : ∀ j u, news[j]? = some u → w.cell? (ad.add j) = some u) (h1 : ∀ u ∈ news, u.oneCell' = true)
    (hroom : sLen + m ≤ sCap) (hfit : sLen * k + news.length ≤ cur.length) :
    ∃ w', (Builtin.append_ #[t, t] ty #[.slice (some ⟨g, 0, none⟩) sLen sCap, .slice (some ad) m c]).run P w = .ok (.slice (some ⟨g, 0, none⟩) (sLen + m) sCap) w' ∧ Bxo w' g e (spl cur (sLen * k) news) ∧ Only g w w' := by
  subst hk
  have h := run_append_room (P := P) w t ty e i ht hi g sLen sCap cur.toArray hg ad m c news hl hnews h1 hroom (by simpa using hfit)
  rw [List.toList_toArray] at h
  rw [← spl_eq news cur _ hfit] at h
  obtain ⟨h2, h3⟩ := bxo_setRow hg (spl cur (sLen * i.size) news)
  exact ⟨_, h, h2, h3⟩
theorem step_append_row {op : Oper} {a : Act} {w : World} {K : Act → World → Prop} {Q : Exit → Act → World → Prop} (s x : Operand) (t : TypeId) (ho : op.op = .call { callee := .builtin .append, args := #[s, x], argTypes := #[t, t] })
    (e : TypeId) (i : TypeInfo) (k : Nat) (ht : P.underlying t = some (.slice e)) (hi : P.info? e = some i) (hk : i.size = k)
    (g sLen sCap : Nat) (cur : List Value) (hs : a.eval s = .slice (some ⟨g, 0, none⟩) sLen sCap) (hg : Bxo w g e cur) (ad : Addr) (m c : Nat) (news : List Value) (hx : a.eval x = .slice (some ad) m c) (hl : news.length = m * k) (hnews : ∀ j u, news[j]? = some u → w.cell? (ad.add j) = some u) (h1 : ∀ u ∈ news, u.oneCell' = true)
    (hroom : sLen + m ≤ sCap) (hfit : sLen * k + news.length ≤ cur.length)
    (h : ∀ w', Bxo w' g e (spl cur (sLen * k) news) → Only g w w' → K (a.put op.dst (.slice (some ⟨g, 0, none⟩) (sLen + m) sCap)) w') : op.wp P a w K Q := by
  obtain ⟨w', hrun, h2, h3⟩ := run_append_row (P := P) (w := w) t op.type e i k ht hi hk g sLen sCap cur hg ad m c news hl hnews h1 hroom hfit
  unfold Oper.wp execOp
  simp only [ho, resolve, invoke, builtin, Sem.run_bind, Sem.run_pure, Result.andThen_ok, List.map_toArray, List.map_cons, List.map_nil, hs, hx, hrun]
  exact h w' h2 h3
theorem wpList_append_row {ops : Array Oper} {rest : List Oper} {op : Oper} {a : Act} {w : World} {Q : Exit → Act → World → Prop} (hgd : Region.wanted op (yielded ops a.tmps) = true) (s x : Operand) (t : TypeId) (ho : op.op = .call { callee := .builtin .append, args := #[s, x], argTypes := #[t, t] })
    (e : TypeId) (i : TypeInfo) (k : Nat) (ht : P.underlying t = some (.slice e)) (hi : P.info? e = some i) (hk : i.size = k)
    (g sLen sCap : Nat) (cur : List Value) (hs : a.eval s = .slice (some ⟨g, 0, none⟩) sLen sCap) (hg : Bxo w g e cur) (ad : Addr) (m c : Nat) (news : List Value) (hx : a.eval x = .slice (some ad) m c) (hl : news.length = m * k) (hnews : ∀ j u, news[j]? = some u → w.cell? (ad.add j) = some u) (h1 : ∀ u ∈ news, u.oneCell' = true)
    (hroom : sLen + m ≤ sCap) (hfit : sLen * k + news.length ≤ cur.length)
    (h : ∀ w', Bxo w' g e (spl cur (sLen * k) news) → Only g w w' → wpList P ops Q rest (a.put op.dst (.slice (some ⟨g, 0, none⟩) (sLen + m) sCap)) w') : wpList P ops Q (op :: rest) a w :=
  BigFrame.wpList_want hgd fun _ hK => step_append_row s x t ho e i k ht hi hk g sLen sCap cur hs hg ad m c news hx hl hnews h1 hroom hfit (fun w' h2 h3 => hK _ _ (h w' h2 h3))
theorem zeroCells_mem (z : List Value) (n : Nat) (hz : 0 < z.length) : (Builtin.zeroCells z.toArray n).toList.length = n * z.length ∧ ∀ u ∈ (Builtin.zeroCells z.toArray n).toList, u ∈ z := by
  refine ⟨by simp [Builtin.zeroCells], fun u hu => ?_⟩
  simp only [Builtin.zeroCells, Array.toList_map, List.mem_map] at hu
  obtain ⟨j, _, rfl⟩ := hu
  have hj : j % z.toArray.size < z.length := Nat.mod_lt _ (by simpa using hz)
  rw [List.getElem!_toArray, getElem!_pos z _ hj]
  exact List.getElem_mem hj
/-- clear of some elements at a row's place. -/
theorem wpList_clear_row {ops : Array Oper} {rest : List Oper} {op : Oper} {a : Act} {w : World} {Q : Exit → Act → World → Prop} (hgd : Region.wanted op (yielded ops a.tmps) = true) (x : Operand) (t : TypeId) (ho : op.op = .call { callee := .builtin .clear, args := #[x], argTypes := #[t] })
    (e : TypeId) (z : List Value) (ht : P.underlying t = some (.slice e)) (hv : ∀ w, (zeroValue e).run P w = .ok (.agg z.toArray) w) (hz : 0 < z.length) (h1 : ∀ u ∈ z, u.oneCell' = true)
    (g o m c : Nat) (cur : List Value) (hx : a.eval x = .slice (some ⟨g, o, none⟩) m c) (hg : Bxo w g e cur) (hfit : o + m * z.length ≤ cur.length)
    (h : ∀ w' vs, vs.length = m * z.length → Bxo w' g e (spl cur o vs) → Only g w w' → wpList P ops Q rest (a.put op.dst (.tuple #[])) w') : wpList P ops Q (op :: rest) a w :=
  BigFrame.wpList_want hgd fun _ hK => by
    obtain ⟨z1, z2⟩ := zeroCells_mem z m hz
    have hst := run_storeCells_cells (P := P) g o (Builtin.zeroCells z.toArray m).toList 0 w (fun j hj => by
      simp only [Nat.add_zero]
      rw [hg.cell (o + j) (List.getElem?_eq_getElem (by omega))]; rfl) (fun j hj => hg.frozen _) (fun u hu => h1 u (z2 u hu))
    simp only [Nat.add_zero] at hst
    obtain ⟨h2, h3⟩ := Bxo.setCells (Builtin.zeroCells z.toArray m).toList o cur w hg
    have hrun : (Builtin.clear_ #[t] op.type #[.slice (some ⟨g, o, none⟩) m c]).run P w = .ok (.tuple #[]) (w.setCells g o (Builtin.zeroCells z.toArray m).toList) := by
      cases m with
      | zero =>
        have e0 : (Builtin.zeroCells z.toArray 0).toList = [] := by simp [Builtin.zeroCells]
        rw [e0]
        simp [Builtin.clear_, run_underlying ht, World.setCells]
      | succ m => simp [Builtin.clear_, run_underlying ht, hv, Value.cells, hst]
    unfold Oper.wp execOp
    simp only [ho, resolve, invoke, builtin, Sem.run_bind, Sem.run_pure, Result.andThen_ok, List.map_toArray, List.map_cons, List.map_nil, hx, hrun]
    exact hK _ _ (h _ _ z1 h2 h3)
end
theorem spl_take_le (vs cs : List Value) (o n : Nat) (h : o + vs.length ≤ cs.length) (hn : n ≤ o) : (spl cs o vs).take n = cs.take n := by
  rw [spl_eq vs cs o h, List.append_assoc, List.take_append, List.length_take, Nat.min_eq_left (by omega), show n - o = 0 by omega, List.take_zero, List.append_nil, List.take_take, Nat.min_eq_left hn]
theorem spl_take_all (vs cs : List Value) (o : Nat) (h : o + vs.length ≤ cs.length) : (spl cs o vs).take (o + vs.length) = cs.take o ++ vs := by
  rw [spl_eq vs cs o h, List.take_append, List.length_append, List.length_take, Nat.min_eq_left (by omega), Nat.sub_self, List.take_zero, List.append_nil, List.take_of_length_le (by rw [List.length_append, List.length_take]; omega)]
end Go.Proofs.Ytmblkgnjcmneeaa
