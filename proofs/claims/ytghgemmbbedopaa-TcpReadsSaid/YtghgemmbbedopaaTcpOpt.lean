/- A row of options of a call's own: it grows by one option. -/
import Derived.Test.YtghgemmbbedopaaTcpV
import Derived.Test.YtghgemmbbedopaaClone
namespace Go.Proofs.Ytghgemmbbedopaa
open Go.ChangeShapes Go.WideShapes Go.ChangeAt Go.RowKit
set_option linter.unusedVariables false

theorem info_opt : (Try.prog.info? 39).map (fun i => (i.zero, i.size, i.bytes)) = some (some (.agg #[.int .i64 0, .slice none 0 0]), 2, 32) := by kernel_rfl

/-- bytes that lie from block lo on, below block hi. -/
def BsF (w : World) (lo hi : Nat) (A : Option Addr) (l : List UInt8) : Prop :=
  l = [] ∨ ∃ ad, A = some ad ∧ lo ≤ ad.block ∧ ad.block < hi ∧ ∀ (j : Nat) (b : UInt8), l[j]? = some b → w.cell? (ad.add j) = some (.int .u8 (b.toNat : Int))
theorem BsF.bs {w : World} {lo hi : Nat} {A : Option Addr} {l : List UInt8} (h : BsF w lo hi A l) : Bs w hi A l := by
  rcases h with h | ⟨ad, e, _, h2, h3⟩
  · exact .inl h
  · exact .inr ⟨ad, e, h2, h3⟩
theorem BsF.of {w : World} {lo hi : Nat} {A : Option Addr} {l : List UInt8} (h : Bs w hi A l) (hl : l ≠ [] → ∀ ad, A = some ad → lo ≤ ad.block) : BsF w lo hi A l := by
  by_cases e : l = []
  · exact .inl e
  rcases h with h | ⟨ad, rfl, h2, h3⟩
  · exact .inl h
  · exact .inr ⟨ad, rfl, hl e ad rfl, h2, h3⟩
theorem BsF.below {w w' : World} {lo hi : Nat} {A : Option Addr} {l : List UInt8} (h : BsF w lo hi A l) (hb : Below hi w w') : BsF w' lo hi A l := by
  rcases h with h | ⟨ad, e, h1, h2, h3⟩
  · exact .inl h
  · exact .inr ⟨ad, e, h1, h2, fun j b hj => (hb.cell (by rw [block_add]; exact h2)).trans (h3 j b hj)⟩
theorem BsF.set {w : World} {lo hi : Nat} {A : Option Addr} {l : List UInt8} (h : BsF w lo hi A l) {g : Nat} (hg : g < lo) (k : Nat) (u : Value) : BsF (w.setCell ⟨g, k, none⟩ u) lo hi A l := by
  rcases h with h | ⟨ad, e, h1, h2, h3⟩
  · exact .inl h
  · refine .inr ⟨ad, e, h1, h2, fun j b hj => ?_⟩
    rw [World.cell?_setCell_other w _ (ad.add j) u (fun e => by have := congrArg Addr.block e; rw [block_add] at this; simp at this; omega)]
    exact h3 j b hj
/-- options that lie from block lo on, below block hi. -/
def OsF (w : World) (lo hi : Nat) (A : Option Addr) (os : List Op) : Prop :=
  os = [] ∨ ∃ ad, A = some ad ∧ lo ≤ ad.block ∧ ad.block < hi ∧ ∀ (j : Nat) (o : Op), os[j]? = some o → w.cell? (ad.add (j * 2)) = some (.int .i64 o.kind) ∧
    ∃ Ad cd, w.cell? (ad.add (j * 2 + 1)) = some (.slice Ad o.data.length cd) ∧ BsF w lo hi Ad o.data ∧ o.data.length ≤ cd ∧ cd ≤ 9223372036854775807 ∧ (Ad = none → cd = 0)
theorem OsF.os {w : World} {lo hi : Nat} {A : Option Addr} {os : List Op} (h : OsF w lo hi A os) : Os w hi A os := by
  rcases h with h | ⟨ad, e, _, h2, h3⟩
  · exact .inl h
  · refine .inr ⟨ad, e, h2, fun j o hj => ?_⟩
    obtain ⟨a, Ad, cd, b, c, d⟩ := h3 j o hj
    exact ⟨a, Ad, cd, b, c.bs, d⟩
theorem OsF.more {w : World} {lo hi hi' : Nat} {A : Option Addr} {os : List Op} (h : OsF w lo hi A os) (hh : hi ≤ hi') : OsF w lo hi' A os := by
  rcases h with h | ⟨ad, e, h1, h2, h3⟩
  · exact .inl h
  · refine .inr ⟨ad, e, h1, by omega, fun j o hj => ?_⟩
    obtain ⟨a, Ad, cd, b, c, d⟩ := h3 j o hj
    refine ⟨a, Ad, cd, b, ?_, d⟩
    rcases c with c | ⟨ad, e, c1, c2, c3⟩
    · exact .inl c
    · exact .inr ⟨ad, e, c1, by omega, c3⟩
theorem OsF.below {w w' : World} {lo hi : Nat} {A : Option Addr} {os : List Op} (h : OsF w lo hi A os) (hb : Below hi w w') : OsF w' lo hi A os := by
  rcases h with h | ⟨ad, e, h1, h2, h3⟩
  · exact .inl h
  · refine .inr ⟨ad, e, h1, h2, fun j o hj => ?_⟩
    obtain ⟨a, Ad, cd, b, c, d⟩ := h3 j o hj
    exact ⟨(hb.cell (by rw [block_add]; exact h2)).trans a, Ad, cd, (hb.cell (by rw [block_add]; exact h2)).trans b, c.below hb, d⟩
theorem OsF.set {w : World} {lo hi : Nat} {A : Option Addr} {os : List Op} (h : OsF w lo hi A os) {g : Nat} (hg : g < lo) (k : Nat) (u : Value) : OsF (w.setCell ⟨g, k, none⟩ u) lo hi A os := by
  rcases h with h | ⟨ad, e, h1, h2, h3⟩
  · exact .inl h
  · refine .inr ⟨ad, e, h1, h2, fun j o hj => ?_⟩
    obtain ⟨a, Ad, cd, b, c, d⟩ := h3 j o hj
    have hne : ∀ i, (⟨g, k, none⟩ : Addr) ≠ ad.add i := fun i e => by have := congrArg Addr.block e; rw [block_add] at this; simp at this; omega
    exact ⟨by rw [World.cell?_setCell_other w _ _ u (hne _)]; exact a, Ad, cd, by rw [World.cell?_setCell_other w _ _ u (hne _)]; exact b, c.set hg k u, d⟩
/-- option number j of a row of cells. -/
structure OCell (w : World) (base : Nat) (v : Value) (xs : List Value) (j : Nat) (o : Op) : Prop where
  kind : xs[j * 2]? = some (.int .i64 o.kind)
  data : ∃ Ad cd, xs[j * 2 + 1]? = some (.slice Ad o.data.length cd) ∧ Bs w w.heap.size Ad o.data ∧ o.data.length ≤ cd ∧ cd ≤ 9223372036854775807 ∧ (Ad = none → cd = 0) ∧ (o.data ≠ [] → ∀ ad, Ad = some ad → v.ownBlock ≠ some ad.block ∧ base ≤ ad.block)
/-- a row of options of the call's own, nil or not. -/
structure ORow (w : World) (base : Nat) (v : Value) (os : List Op) : Prop where
  ex : ∃ xs, w.ownsRow base 39 2 v os.length xs ∧ ∀ j o, os[j]? = some o → OCell w base v xs j o
section
variable {w w' : World} {base B : Nat} {v : Value} {os : List Op}
theorem ORow.nil_ : ORow w base (.slice none 0 0) [] := ⟨[], World.ownsRow_nil _ _ _ _, fun j o h => by simp at h⟩
theorem ownsRow_keep {e : TypeId} {s n : Nat} {xs : List Value} (h : w.ownsRow base e s v n xs) (hb : Below w.heap.size w w') : w'.ownsRow base e s v n xs := by
  refine ⟨h.1, ?_⟩
  rcases h.2 with h | ⟨g', cap, cur, hv, hba, hh, hn, hm, hs, ht⟩
  · exact .inl h
  · refine .inr ⟨g', cap, cur, hv, hba, ?_, hn, hm, hs, ht⟩
    rw [hb.block g' (Array.getElem?_eq_some_iff.1 hh).1]; exact hh
theorem ORow.keep (h : ORow w base v os) (hb : Below w.heap.size w w') : ORow w' base v os := by
  obtain ⟨xs, h1, h2⟩ := h.ex
  refine ⟨xs, ownsRow_keep h1 hb, fun j o hj => ?_⟩
  obtain ⟨k, Ad, cd, d1, d2, d3, d4, d5, d6⟩ := h2 j o hj
  exact ⟨k, Ad, cd, d1, (d2.below hb).more hb.size, d3, d4, d5, d6⟩
theorem ORow.lt (h : ORow w base v os) : ∀ q, v.ownBlock = some q → base ≤ q ∧ q < w.heap.size := by
  obtain ⟨xs, h1, _⟩ := h.ex
  exact fun q hq => World.ownsRow.lt h1 q hq
theorem ORow.mono {base' : Nat} (h : ORow w base v os) (hb : base' ≤ base) : ORow w base' v os := by
  obtain ⟨xs, h1, h2⟩ := h.ex
  refine ⟨xs, World.ownsRow.mono h1 hb, fun j o hj => ?_⟩
  obtain ⟨k, Ad, cd, d1, d2, d3, d4, d5, d6⟩ := h2 j o hj
  exact ⟨k, Ad, cd, d1, d2, d3, d4, d5, fun hn ad e => ⟨(d6 hn ad e).1, Nat.le_trans hb (d6 hn ad e).2⟩⟩
theorem ORow.form (h : ORow w base v os) : ∃ A c, v = .slice A os.length c ∧ os.length ≤ c ∧ c ≤ 9223372036854775807 ∧ (A = none → c = 0) ∧ OsF w base w.heap.size A os := by
  obtain ⟨xs, h1, h2⟩ := h.ex
  have h0 := h1
  rcases h1.2 with ⟨rfl, hz⟩ | ⟨g, cap, cur, rfl, hb, hh, hn, hm, hs, ht⟩
  · have hl : os = [] := List.eq_nil_of_length_eq_zero hz
    subst hl
    exact ⟨none, 0, rfl, Nat.le_refl _, by omega, fun _ => rfl, .inl rfl⟩
  · unfold maxLen at hm
    refine ⟨some ⟨g, 0, none⟩, cap, rfl, hn, by omega, (fun h => by cases h), .inr ⟨_, rfl, (h0.lt g rfl).1, (h0.lt g rfl).2, fun j o hj => ?_⟩⟩
    obtain ⟨k, Ad, cd, d1, d2, d3, d4, d5, d6⟩ := h2 j o hj
    refine ⟨(h0.cells rfl) (j * 2) _ k, Ad, cd, (h0.cells rfl) (j * 2 + 1) _ d1, BsF.of d2 (fun hn ad e => (d6 hn ad e).2), d3, d4, d5⟩
end
theorem ORow.drewN {w : World} {base : Nat} {v : Value} {os : List Op} (h : ORow w base v os) (n : Nat) : ORow (w.drewN n) base v os := h.keep (below_dn (Below.refl _ _) n)
/-- bytes stay where a row elsewhere has grown. -/
theorem Bs.grown {w w' : World} {A : Option Addr} {l : List UInt8} {r : Option Nat} (h : Bs w w.heap.size A l) (hg : w.grownBy w' r) (hr : l ≠ [] → ∀ ad, A = some ad → r ≠ some ad.block) : Bs w' w'.heap.size A l := by
  by_cases hl : l = []
  · exact .inl hl
  rcases h with h | ⟨ad, rfl, hlt, hc⟩
  · exact .inl h
  · refine .inr ⟨ad, rfl, Nat.lt_of_lt_of_le hlt hg.size, fun j b hj => ?_⟩
    have := hc j b hj
    have hb := hg.block ad.block hlt (fun e => hr hl ad rfl e.symm)
    rw [← this]
    unfold World.cell?
    rw [block_add, hb]

theorem oRow_more {w w' : World} {base : Nat} {v v' : Value} {os : List Op} {xs : List Value} (hown : w.ownsRow base 39 2 v os.length xs) (hx : ∀ j o, os[j]? = some o → OCell w base v xs j o) {kd : Int} {Ad : Option Addr} {d cd : Nat} {dat : List UInt8} (hd : dat.length = d) (hbs : Bs w w.heap.size Ad dat) (h1 : d ≤ cd) (h2 : cd ≤ 9223372036854775807) (h3 : Ad = none → cd = 0) (h4 : dat ≠ [] → ∀ ad, Ad = some ad → v.ownBlock ≠ some ad.block ∧ base ≤ ad.block)
    (hn : w'.ownsRow base 39 2 v' (os.length + 1) (xs ++ [.int .i64 kd, .slice Ad d cd])) (hg : w.grownBy w' v.ownBlock) (hat : v'.ownBlock = v.ownBlock ∨ v'.ownBlock = some w.heap.size) : ORow w' base v' (os ++ [⟨kd, dat⟩]) := by
  subst hd
  have hxl : xs.length = os.length * 2 := hown.1
  refine ⟨xs ++ [.int .i64 kd, .slice Ad dat.length cd], by rw [List.length_append]; exact hn, fun j o hj => ?_⟩
  have far : ∀ (A : Option Addr) (l : List UInt8), Bs w w.heap.size A l → (l ≠ [] → ∀ ad, A = some ad → v.ownBlock ≠ some ad.block ∧ base ≤ ad.block) → (l ≠ [] → ∀ ad, A = some ad → v'.ownBlock ≠ some ad.block ∧ base ≤ ad.block) := by
    intro A l hb hf hne ad he
    refine ⟨?_, (hf hne ad he).2⟩
    rcases hat with e | e
    · rw [e]; exact (hf hne ad he).1
    · rw [e]
      rcases hb with hb | ⟨ad', e', hlt, _⟩
      · exact absurd hb hne
      · rw [he] at e'; cases e'; intro h; injection h with h; omega
  by_cases hlt : j < os.length
  · rw [List.getElem?_append_left hlt] at hj
    obtain ⟨k, A, c, d1, d2, d3, d4, d5, d6⟩ := hx j o hj
    exact ⟨by rw [List.getElem?_append_left (by omega)]; exact k, A, c, by rw [List.getElem?_append_left (by omega)]; exact d1, d2.grown hg (fun hn ad e => (d6 hn ad e).1), d3, d4, d5, far A o.data d2 d6⟩
  · have e : j = os.length := by
      have := (List.getElem?_eq_some_iff.1 hj).1
      simp at this; omega
    subst e
    rw [List.getElem?_append_right (Nat.le_refl _), Nat.sub_self] at hj
    simp at hj
    subst hj
    exact ⟨by rw [List.getElem?_append_right (by omega), hxl, Nat.sub_self]; rfl, Ad, cd, by rw [List.getElem?_append_right (by omega), hxl, show os.length * 2 + 1 - os.length * 2 = 1 by omega]; rfl, hbs.grown hg (fun hn ad e => (h4 hn ad e).1), h1, h2, h3, far Ad dat hbs h4⟩

/-- append of one option that lies in a block of its own, in a plain region and in one that draws. -/
theorem opS {w : World} {ops : Array Oper} {o : Oper} {a : Act} {K : Act → World → Prop} {Q : Exit → Act → World → Prop} {E : Prop} (hgd : o.guard = none) (s x : Operand)
    (ho : o.op = .call { callee := .builtin .append, args := #[s, x], argTypes := #[23, 23] })
    (base : Nat) (v : Value) (os : List Op) (hs : a.eval s = v) (hown : ORow w base v os)
    (g0 : Nat) (c0 : Nat) (hx : a.eval x = .slice (some ⟨g0, 0, none⟩) 1 c0) (kd : Int) (Ad : Option Addr) (d cd : Nat) (dat : List UInt8)
    (q0 : w.cell? ⟨g0, 0, none⟩ = some (.int .i64 kd)) (q1 : w.cell? ⟨g0, 1, none⟩ = some (.slice Ad d cd)) (hd : dat.length = d) (hbs : Bs w w.heap.size Ad dat) (h1 : d ≤ cd) (h2 : cd ≤ 9223372036854775807) (h3 : Ad = none → cd = 0) (h4 : dat ≠ [] → ∀ ad, Ad = some ad → v.ownBlock ≠ some ad.block ∧ base ≤ ad.block)
    (hl : os.length ≤ 1048576) (hbase : base ≤ w.heap.size)
    (h : ∀ v' w', ORow w' base v' (os ++ [⟨kd, dat⟩]) → Below base w w' → K (a.put o.dst v') w') : if Region.wanted o (yielded ops a.tmps) = true then Oper.wp Try.prog o a w K Q else E := by
  have hw : Region.wanted o (yielded ops a.tmps) = true := by simp [Region.wanted, hgd]
  rw [if_pos hw]
  obtain ⟨i0, hi, hz0, hz1, hz2⟩ := info_parts info_opt
  obtain ⟨xs, hr, hxs⟩ := hown.ex
  obtain ⟨v', w', hrun, n1, n2, _, n4⟩ := run_append_own_at (P := Try.prog) w base 23 o.type 39 i0 _ 2 32 Try.underlying23 hi hz0 hz1 hz2 rfl (by omega) v os.length xs hr ⟨g0, 0, none⟩ 1 c0 [.int .i64 kd, .slice Ad d cd] rfl (by
    intro j u hj
    match j, hj with
    | 0, hj => simp at hj; subst hj; exact q0
    | 1, hj => simp at hj; subst hj; exact q1) (by intro u hu; simp at hu; rcases hu with rfl | rfl <;> rfl) (by unfold maxLen; omega) (by omega) hbase
  unfold Oper.wp execOp
  simp only [ho, resolve, invoke, builtin, Sem.run_bind, Sem.run_pure, Result.andThen_ok, List.map_toArray, List.map_cons, List.map_nil, hs, hx, hrun]
  exact h v' w' (oRow_more hr hxs hd hbs h1 h2 h3 h4 n1 n2 n4) (Below.grown (Below.refl _ _) n2 hbase (fun q hq => (ORow.lt hown q hq).1))
theorem opA {w : World} {ops : Array Oper} {rest : List Oper} {o : Oper} {a : Act} {Q : Exit → Act → World → Prop} (hgd : o.guard = none) (s x : Operand)
    (ho : o.op = .call { callee := .builtin .append, args := #[s, x], argTypes := #[23, 23] })
    (base : Nat) (v : Value) (os : List Op) (hs : a.eval s = v) (hown : ORow w base v os)
    (g0 : Nat) (c0 : Nat) (hx : a.eval x = .slice (some ⟨g0, 0, none⟩) 1 c0) (kd : Int) (Ad : Option Addr) (d cd : Nat) (dat : List UInt8)
    (q0 : w.cell? ⟨g0, 0, none⟩ = some (.int .i64 kd)) (q1 : w.cell? ⟨g0, 1, none⟩ = some (.slice Ad d cd)) (hd : dat.length = d) (hbs : Bs w w.heap.size Ad dat) (h1 : d ≤ cd) (h2 : cd ≤ 9223372036854775807) (h3 : Ad = none → cd = 0) (h4 : dat ≠ [] → ∀ ad, Ad = some ad → v.ownBlock ≠ some ad.block ∧ base ≤ ad.block)
    (hl : os.length ≤ 1048576) (hbase : base ≤ w.heap.size)
    (h : ∀ v' w', ORow w' base v' (os ++ [⟨kd, dat⟩]) → Below base w w' → wpList Try.prog ops Q rest (a.put o.dst v') w') : wpList Try.prog ops Q (o :: rest) a w := by
  obtain ⟨i0, hi, hz0, hz1, hz2⟩ := info_parts info_opt
  obtain ⟨xs, hr, hxs⟩ := hown.ex
  refine wpList_append_own_at w hgd s x 23 ho base 39 i0 _ 2 32 Try.underlying23 hi hz0 hz1 hz2 rfl (by omega) v os.length xs hs hr ⟨g0, 0, none⟩ 1 c0 [.int .i64 kd, .slice Ad d cd] hx rfl (by
    intro j u hj
    match j, hj with
    | 0, hj => simp at hj; subst hj; exact q0
    | 1, hj => simp at hj; subst hj; exact q1) (by intro u hu; simp at hu; rcases hu with rfl | rfl <;> rfl) (by unfold maxLen; omega) (by omega) hbase ?_
  intro v' w' n1 n2 _ n4
  exact h v' w' (oRow_more hr hxs hd hbs h1 h2 h3 h4 n1 n2 n4) (Below.grown (Below.refl _ _) n2 hbase (fun q hq => (ORow.lt hown q hq).1))
end Go.Proofs.Ytghgemmbbedopaa
