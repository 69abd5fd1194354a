/- Lemmas, several texts in one. -/
import Derived.Lib.Hide
import Derived.WalkKit
import Derived.ProofKit
import Derived.OpenShut
import Derived.Below
import Derived.OwnWalk
import Derived.Maps.AppendAt
import Derived.Laws.AppendOwnNone
import Derived.Deep.Draws
import Derived.ChangeSlices
import Derived.ChangeSame
import Derived.Carry
import Derived.IntWalk
import Derived.Laws.BitsAllLaws
import Derived.Test.YtmblkgnjcmneeaaRows
import Derived.Deep.QuietTactic
import Derived.Deep.RegionHeld3
import Derived.BigQuiet
import Derived.Laws.OwnMore
import Derived.Laws.CopyOwn
import Derived.Deep.AppendLies
import Derived.Deep.DeepCutAuto
import Derived.Deep.CutBlock
import Derived.StillTailTactics
import Derived.Deep.Onto
import Derived.Deep.MidRow
import Derived.Deep.WholeRow
import Derived.Lib.SliceRun
/- Memory as it is met in the walks: a slice that reads as a list; a world that has not turned below a block; an append onto a row of the call's own. No condition.  -/
namespace Go.Proofs.Ytmblkgnjcmneeaa
open Go.ChangeShapes Go.WideShapes Go.ChangeAt Go.RowKit

theorem ret_int {k : IntKind} {a b : Int} (h : a = b) : Ending.returned (.int k a) = .returned (.int k b) := by rw [h]
theorem ret_bool {a b : Bool} (h : a = b) : Ending.returned (.bool a) = .returned (.bool b) := by rw [h]

theorem add_shift (ad : Addr) (k j : Nat) (hk : 0 < k) : ({ block := ad.block, off := ad.off + k } : Addr).add j = ad.add (k + j) := by
  unfold Addr.add
  by_cases h : j = 0
  · subst h; rw [if_pos rfl, if_neg (by omega)]; rfl
  · rw [if_neg h, if_neg (by omega)]; simp only [Nat.add_assoc]
theorem add_pos (ad : Addr) (k : Nat) (hk : 0 < k) : ad.add k = { block := ad.block, off := ad.off + k } := by
  unfold Addr.add; rw [if_neg (by omega)]
theorem add_zero (ad : Addr) : ad.add 0 = ad := by unfold Addr.add; simp
theorem add_own (g k : Nat) : (⟨g, 0, none⟩ : Addr).add k = ⟨g, k, none⟩ := by rw [add_plain]; simp

theorem below_dn {B : Nat} {a w : World} (h : Below B a w) (n : Nat) : Below B a (w.drewN n) := ⟨h.os, h.tape, h.output, h.size, h.block⟩
theorem below_drew {B : Nat} {a w : World} (h : Below B a w) : Below B a w.drew := ⟨h.os, h.tape, h.output, h.size, h.block⟩
theorem bcell {W w1 : World} (hb : Below W.heap.size W w1) : (∀ b o, b < W.heap.size → w1.cell? ⟨b, o, none⟩ = W.cell? ⟨b, o, none⟩) ∧ (∀ b o, b < W.heap.size → w1.frozen? ⟨b, o, none⟩ = W.frozen? ⟨b, o, none⟩) :=
  ⟨fun b o h => hb.cell (p := ⟨b, o, none⟩) h, fun b o h => hb.frozen (p := ⟨b, o, none⟩) h⟩
theorem cells_keep {X Y : World} {B k : Nat} {v : Value} (hb : Below X.heap.size X Y) (hB : B < X.heap.size) (h : X.cell? ⟨B, k, none⟩ = some v) : Y.cell? ⟨B, k, none⟩ = some v := ((bcell hb).1 B k hB).trans h
theorem up {P : Program} {f : FuncId} {args : Array Value} {w W : World} {v : Value} (h : Calls P f args w fun e w' => e = .returned v ∧ Below w.heap.size w w') (hb : Below W.heap.size W w) :
    Calls P f args w fun e w' => e = .returned v ∧ Below W.heap.size W w' :=
  h.mono fun _ _ ⟨he, hw⟩ => ⟨he, hb.trans (hw.mono hb.size)⟩

/-- the slice at A reads as these values, below block B. -/
def Rd (w : World) (B : Nat) (A : Option Addr) (xs : List Value) : Prop :=
  xs = [] ∨ ∃ ad, A = some ad ∧ ad.block < B ∧ ∀ (j : Nat) (u : Value), xs[j]? = some u → w.cell? (ad.add j) = some u

section
variable {w w' : World} {B B' : Nat} {A : Option Addr} {xs : List Value}
theorem Rd.keep (h : Rd w B A xs) (hk : ∀ p : Addr, p.block < B → w'.cell? p = w.cell? p) : Rd w' B A xs := by
  rcases h with h | ⟨ad, e, hlt, hc⟩
  · exact .inl h
  · exact .inr ⟨ad, e, hlt, fun j b hj => (hk _ (by rw [block_add]; exact hlt)).trans (hc j b hj)⟩
theorem Rd.below (h : Rd w B A xs) (hb : Below B w w') : Rd w' B A xs := h.keep fun _ hp => hb.cell hp
theorem Rd.drewN (h : Rd w B A xs) (n : Nat) : Rd (w.drewN n) B A xs := h
theorem Rd.drew (h : Rd w B A xs) : Rd w.drew B A xs := h
theorem Rd.more (h : Rd w B A xs) (hB : B ≤ B') : Rd w B' A xs := by
  rcases h with h | ⟨ad, e, hlt, hc⟩
  · exact .inl h
  · exact .inr ⟨ad, e, by omega, hc⟩
theorem Rd.alloc (h : Rd w B A xs) (hB : B ≤ w.heap.size) (o : Obj) : Rd (w.alloc o) B A xs := h.below ((Below.refl _ _).alloc hB o)
theorem Rd.setCell (h : Rd w B A xs) {p : Addr} (hB : B ≤ p.block) (u : Value) : Rd (w.setCell p u) B A xs := h.below ((Below.refl _ _).setCell hB u)
theorem Rd.take (h : Rd w B A xs) (k : Nat) : Rd w B A (xs.take k) := by
  rcases h with h | ⟨ad, e, hlt, hc⟩
  · exact .inl (by rw [h]; simp)
  · exact .inr ⟨ad, e, hlt, fun j b hj => hc j b (by rw [List.getElem?_take] at hj; split at hj <;> simp_all)⟩
/-- the rest behind k, at the address that a cut 's[k:]' has: whatever the capacity. -/
theorem Rd.cut (h : Rd w B A xs) (k cap : Nat) (hc : xs.length ≤ cap) (hk : 0 < k) :
    Rd w B (if cap = k then A else A.map fun ad => { block := ad.block, off := ad.off + k }) (xs.drop k) := by
  by_cases hl : xs.length ≤ k
  · exact .inl (List.drop_of_length_le hl)
  rcases h with h | ⟨ad, rfl, hlt, hcell⟩
  · subst h; simp at hl
  · refine .inr ⟨{ block := ad.block, off := ad.off + k }, by rw [if_neg (by omega)]; rfl, hlt, fun j u hj => ?_⟩
    rw [add_shift ad k j hk]
    exact hcell _ u (by rw [List.getElem?_drop] at hj; exact hj)
theorem Rd.at_ (h : Rd w B A xs) {k : Nat} (hk : k < xs.length) : ∃ ad, A = some ad ∧ ad.block < B ∧ w.cell? (ad.add k) = some xs[k] := by
  rcases h with h | ⟨ad, rfl, hlt, hcell⟩
  · subst h; simp at hk
  · exact ⟨ad, rfl, hlt, hcell k _ (List.getElem?_eq_getElem hk)⟩
/-- a row of the call's own reads as what it owns. -/
theorem rd_of_own {base : Nat} {e : TypeId} {v : Value} {n : Nat} (h : w.ownsRow base e 1 v n xs) :
    ∃ A c, v = .slice A n c ∧ n ≤ c ∧ c ≤ maxLen ∧ (A = none → c = 0) ∧ Rd w w.heap.size A xs := by
  rcases h.2 with ⟨rfl, rfl⟩ | ⟨g, cap, cur, rfl, hb, hh, hn, hm, hs, ht⟩
  · exact ⟨none, 0, rfl, by omega, by unfold maxLen; omega, fun _ => rfl, .inl (List.eq_nil_of_length_eq_zero (by simpa using h.1))⟩
  · exact ⟨_, cap, rfl, hn, hm, fun h => by simp at h, .inr ⟨_, rfl, (h.lt g rfl).2, h.cells rfl⟩⟩
/-- where something is owned, it lies at the head of a block of the call's own; its cells, and that none is frozen. -/
theorem own_form {base : Nat} {e : TypeId} {v : Value} {n : Nat} (h : w.ownsRow base e 1 v n xs) (hn : 0 < n) :
    ∃ g c, v = .slice (some ⟨g, 0, none⟩) n c ∧ base ≤ g ∧ g < w.heap.size ∧ n ≤ c ∧ c ≤ maxLen := by
  rcases h.2 with ⟨rfl, rfl⟩ | ⟨g, cap, cur, rfl, hb, hh, hnc, hm, hs, ht⟩
  · omega
  · exact ⟨g, cap, rfl, hb, (h.lt g rfl).2, hnc, hm⟩
theorem rd_of_own' {base : Nat} {e : TypeId} {A : Option Addr} {c n : Nat} (h : w.ownsRow base e 1 (.slice A n c) n xs) : Rd w w.heap.size A xs := by
  obtain ⟨A', c', he, _, _, _, hr⟩ := rd_of_own h
  injection he with h1 h2 h3
  subst h1
  exact hr
theorem own_cell {base : Nat} {e : TypeId} {g c n : Nat} (h : w.ownsRow base e 1 (.slice (some ⟨g, 0, none⟩) n c) n xs) (j : Nat) (hj : j < xs.length) : w.cell? ⟨g, j, none⟩ = some xs[j] := by
  rw [h.cellAt j (by have := h.1; omega)]; exact List.getElem?_eq_getElem hj
end

/-- append onto a row of the call's own; what is appended: any slice that reads as a list, nil or not. -/
theorem wpList_append_rd {P : Program} {w : World} {ops : Array Oper} {rest : List Oper} {o : Oper} {a : Act} {Q : Exit → Act → World → Prop} (hgd : o.guard = none) (s x : Operand) (t : TypeId)
    (ho : o.op = .call { callee := .builtin .append, args := #[s, x], argTypes := #[t, t] })
    (base : Nat) (e : TypeId) (i : TypeInfo) (z : Value) (bytes : Nat) (ht : P.underlying t = some (.slice e)) (hi : P.info? e = some i) (hz : i.zero = some z)
    (hsize : i.size = 1) (hby : i.bytes = bytes) (hzs : z.cells.size = 1)
    (v : Value) (n : Nat) (xs : List Value) (hs : a.eval s = v) (hown : w.ownsRow base e 1 v n xs)
    (B : Nat) (A : Option Addr) (m c : Nat) (news : List Value) (hx : a.eval x = .slice A m c) (hm : news.length = m) (hc : A = none → c = 0) (hr : Rd w B A news) (h1 : ∀ u ∈ news, u.oneCell' = true)
    (h63 : n + m ≤ maxLen) (hbytes : (n + m) * bytes ≤ 140737488355328) (hbase : base ≤ w.heap.size)
    (h : ∀ v' w', w'.ownsRow base e 1 v' (n + m) (xs ++ news) → w.grownBy w' v.ownBlock → (v'.ownBlock = v.ownBlock ∨ v'.ownBlock = some w.heap.size) → wpList P ops Q rest (a.put o.dst v') w') :
    wpList P ops Q (o :: rest) a w := by
  subst hm
  rcases A with _ | ad
  · have hn : news = [] := by
      rcases hr with h | ⟨ad, h, _⟩
      · exact h
      · cases h
    subst hn
    have := hc rfl
    subst this
    exact wpList_append_own_none hgd s x t ho base e i 1 ht hi v n xs hs hown hx (h v w (by simpa using hown) (World.grownBy.refl w _) (.inl rfl))
  · refine wpList_append_own_at w hgd s x t ho base e i z 1 bytes ht hi hz hsize hby hzs (by omega) v n xs hs hown ad news.length c news hx (by omega) ?_ h1 h63 hbytes hbase (fun v' w' g1 g2 _ g4 => h v' w' g1 g2 g4)
    intro j u hj
    rcases hr with h | ⟨ad', h', _, hcell⟩
    · subst h; simp at hj
    · cases h'; exact hcell j u hj

/-- a copy: append onto an empty literal that was made just now. -/
theorem wpList_copy_rd {P : Program} {w : World} {ops : Array Oper} {rest : List Oper} {o : Oper} {a : Act} {Q : Exit → Act → World → Prop} (hgd : o.guard = none) (s x : Operand) (t : TypeId)
    (ho : o.op = .call { callee := .builtin .append, args := #[s, x], argTypes := #[t, t] })
    (e : TypeId) (i : TypeInfo) (z : Value) (bytes : Nat) (ht : P.underlying t = some (.slice e)) (hi : P.info? e = some i) (hz : i.zero = some z)
    (hsize : i.size = 1) (hby : i.bytes = bytes) (hzs : z.cells.size = 1) (hs : a.eval s = .slice (some ⟨w.heap.size, 0, none⟩) 0 0)
    (B : Nat) (A : Option Addr) (m c : Nat) (news : List Value) (hx : a.eval x = .slice A m c) (hm : news.length = m) (hc : A = none → c = 0) (hr : Rd w B A news) (hB : B ≤ w.heap.size) (h1 : ∀ u ∈ news, u.oneCell' = true)
    (h63 : m ≤ maxLen) (hbytes : m * bytes ≤ 140737488355328)
    (h : ∀ v' w', w'.ownsRow w.heap.size e 1 v' m news → Below w.heap.size w w' → wpList P ops Q rest (a.put o.dst v') w') :
    wpList P ops Q (o :: rest) a (w.alloc (.cells #[] e)) := by
  refine wpList_append_rd hgd s x t ho w.heap.size e i z bytes ht hi hz hsize hby hzs _ 0 [] hs (World.ownsRow_made w #[] 0 (Nat.le_refl _) (by unfold maxLen; omega) (by simp)) B A m c news hx hm hc (hr.alloc hB _) h1 (by simpa using h63) (by simpa using hbytes) (by simp) ?_
  intro v' w' hown hg hat
  rw [Nat.zero_add, List.nil_append] at hown
  exact h v' w' hown (((Below.refl _ _).alloc (Nat.le_refl _) _).grown hg (by simp) (fun k hk => by simp [Value.ownBlock] at hk; omega))

/-- the same, as a step of a region that draws its order. -/
theorem step_append_rd {P : Program} {w : World} {ops : Array Oper} {o : Oper} {a : Act} {K : Act → World → Prop} {Q : Exit → Act → World → Prop} {E : Prop} (hgd : o.guard = none) (s x : Operand) (t : TypeId)
    (ho : o.op = .call { callee := .builtin .append, args := #[s, x], argTypes := #[t, t] })
    (base : Nat) (e : TypeId) (i : TypeInfo) (z : Value) (bytes : Nat) (ht : P.underlying t = some (.slice e)) (hi : P.info? e = some i) (hz : i.zero = some z)
    (hsize : i.size = 1) (hby : i.bytes = bytes) (hzs : z.cells.size = 1)
    (v : Value) (n : Nat) (xs : List Value) (hs : a.eval s = v) (hown : w.ownsRow base e 1 v n xs)
    (B : Nat) (A : Option Addr) (m c : Nat) (news : List Value) (hx : a.eval x = .slice A m c) (hm : news.length = m) (hc : A = none → c = 0) (hr : Rd w B A news) (h1 : ∀ u ∈ news, u.oneCell' = true)
    (h63 : n + m ≤ maxLen) (hbytes : (n + m) * bytes ≤ 140737488355328) (hbase : base ≤ w.heap.size)
    (h : ∀ v' w', w'.ownsRow base e 1 v' (n + m) (xs ++ news) → w.grownBy w' v.ownBlock → (v'.ownBlock = v.ownBlock ∨ v'.ownBlock = some w.heap.size) → K (a.put o.dst v') w') :
    if Region.wanted o (yielded ops a.tmps) = true then Oper.wp P o a w K Q else E := by
  have hw : Region.wanted o (yielded ops a.tmps) = true := by simp [Region.wanted, hgd]
  rw [if_pos hw]
  subst hm
  rcases A with _ | ad
  · have hn : news = [] := by
      rcases hr with h | ⟨ad, h, _⟩
      · exact h
      · cases h
    subst hn
    have := hc rfl
    subst this
    have hrun := run_append_owned_none (P := P) (w := w) base t o.type e i 1 ht hi v n xs hown
    unfold Oper.wp
    simp [execOp, ho, resolve, invoke, builtin, hs, hx, hrun, Result.andThen]
    exact h v w (by simpa using hown) (World.grownBy.refl w _) (.inl rfl)
  · obtain ⟨v', w', hrun, h2, h3, _, h5⟩ := run_append_own_at (P := P) w base t o.type e i z 1 bytes ht hi hz hsize hby hzs (by omega) v n xs hown ad news.length c news (by omega) (by
      intro j u hj
      rcases hr with h | ⟨ad', h', _, hcell⟩
      · subst h; simp at hj
      · cases h'; exact hcell j u hj) h1 h63 hbytes hbase
    unfold Oper.wp execOp
    simp only [ho, resolve, invoke, builtin, Sem.run_bind, Sem.run_pure, Result.andThen_ok, List.map_toArray, List.map_cons, List.map_nil, hs, hx, hrun]
    exact h v' w' h2 h3 h5

/-- a byte as a value. -/
def bv (b : UInt8) : Value := .int .u8 (b.toNat : Int)
theorem bv_one (l : List UInt8) : ∀ u ∈ l.map bv, u.oneCell' = true := by
  intro u hu
  obtain ⟨b, _, rfl⟩ := List.mem_map.1 hu
  rfl
/-- the slice at A reads as these bytes, below block B. -/
def Bs (w : World) (B : Nat) (A : Option Addr) (l : List UInt8) : Prop :=
  l = [] ∨ ∃ ad, A = some ad ∧ ad.block < B ∧ ∀ (j : Nat) (b : UInt8), l[j]? = some b → w.cell? (ad.add j) = some (.int .u8 (b.toNat : Int))
theorem Bs.drewN {w : World} {B : Nat} {A : Option Addr} {l : List UInt8} (h : Bs w B A l) (n : Nat) : Bs (w.drewN n) B A l := h
theorem Bs.below {w w' : World} {B : Nat} {A : Option Addr} {l : List UInt8} (h : Bs w B A l) (hb : Below B w w') : Bs w' B A l := by
  rcases h with h | ⟨ad, e, hlt, hc⟩
  · exact .inl h
  · exact .inr ⟨ad, e, hlt, fun j b hj => (hb.cell (by rw [block_add]; exact hlt)).trans (hc j b hj)⟩
theorem Bs.rd {w : World} {B : Nat} {A : Option Addr} {l : List UInt8} (h : Bs w B A l) : Rd w B A (l.map bv) := by
  rcases h with h | ⟨ad, e, hlt, hc⟩
  · exact .inl (by rw [h]; rfl)
  · refine .inr ⟨ad, e, hlt, fun j u hj => ?_⟩
    rw [List.getElem?_map, Option.map_eq_some_iff] at hj
    obtain ⟨b, hb, rfl⟩ := hj
    exact hc j b hb
theorem Rd.bs {w : World} {B : Nat} {A : Option Addr} {l : List UInt8} (h : Rd w B A (l.map bv)) : Bs w B A l := by
  rcases h with h | ⟨ad, e, hlt, hc⟩
  · exact .inl (by simpa using h)
  · exact .inr ⟨ad, e, hlt, fun j b hj => hc j _ (by rw [List.getElem?_map, hj]; rfl)⟩
theorem Bs.more {w : World} {B B' : Nat} {A : Option Addr} {l : List UInt8} (h : Bs w B A l) (hB : B ≤ B') : Bs w B' A l := by
  rcases h with h | ⟨ad, e, hlt, hc⟩
  · exact .inl h
  · exact .inr ⟨ad, e, by omega, hc⟩
theorem Bs.take {w : World} {B : Nat} {A : Option Addr} {l : List UInt8} (h : Bs w B A l) (k : Nat) : Bs w B A (l.take k) := by
  rcases h with h | ⟨ad, e, hlt, hc⟩
  · exact .inl (by rw [h]; simp)
  · exact .inr ⟨ad, e, hlt, fun j b hj => hc j b (by rw [List.getElem?_take] at hj; split at hj <;> simp_all)⟩
/-- the rest behind k, at the address that a cut 's[k:]' has. -/
theorem Bs.cut {w : World} {B : Nat} {A : Option Addr} {l : List UInt8} (h : Bs w B A l) (k cap : Nat) (hc : l.length ≤ cap) (hk : 0 < k) :
    Bs w B (if cap = k then A else A.map fun ad => { block := ad.block, off := ad.off + k }) (l.drop k) := by
  have := (h.rd).cut k cap (by simpa using hc) hk
  rw [← List.map_drop] at this
  exact this.bs
theorem Bs.at_ {w : World} {B : Nat} {A : Option Addr} {l : List UInt8} (h : Bs w B A l) {k : Nat} (hk : k < l.length) : ∃ ad, A = some ad ∧ ad.block < B ∧ w.cell? (ad.add k) = some (.int .u8 (l[k].toNat : Int)) := by
  rcases h with h | ⟨ad, rfl, hlt, hcell⟩
  · subst h; simp at hk
  · exact ⟨ad, rfl, hlt, hcell k _ (List.getElem?_eq_getElem hk)⟩
theorem Bs.nil_ {w : World} {B : Nat} {A : Option Addr} : Bs w B A [] := .inl rfl
end Go.Proofs.Ytmblkgnjcmneeaa

/- The end of a law's proof: where the call returned true and nothing that was there has turned, the row's promise holds; and a slice of bytes among the arguments, opened. No condition.  -/
namespace Go.Proofs.Ytmblkgnjcmneeaa
open Go.ChangeShapes Go.WideShapes Go.ChangeAt Go.RowKit

section
variable {H : Type} {enc : TypeId × Value → H} {P : Program}

theorem trodAll_stays (hl : laidOutB P = true) {W W' : World} (hb : Below W.heap.size W W') :
    ∀ {ts : List TypeId} {vs : List Value} {ds : List (DataW H)} {ps : List MemPlace}, (ts.all fun t => P.readableRec t && decide (t < P.types.size)) = true → (∀ x ∈ ps, x.block < W.heap.size) →
      DataW.TrodAll enc P W 0 (fun _ => true) true ts vs ds ps → DataW.TrodAll enc P W' 0 (fun b => decide (b < W.heap.size)) true ts vs ds ps
  | [], _, _, _, _, _, h => by
    obtain ⟨rfl, rfl, rfl⟩ := trodAll_nil h
    exact trodAll_mk0
  | t :: ts, _, _, _, hr, hlt, h => by
    obtain ⟨v, vs, d, ds, p, q, rfl, rfl, rfl, h1, h2⟩ := trodAll_cons h
    simp only [List.all_cons, Bool.and_eq_true, decide_eq_true_eq] at hr
    exact trodAll_cons_mk (Below.trod hl hr.1.1 hr.1.2 h1 hb (fun x hx => hlt x (List.mem_append_left _ hx)))
      (trodAll_stays hl hb hr.2 (fun x hx => hlt x (List.mem_append_right _ hx)) h2)

/-- a law's end: it returned true, and below the heap's old size nothing has turned. -/
theorem law_end {f : Func} {s : ChangeSpec} {apart fresh handsOn : Bool} {W W' : World} {args : Array Value} {ds gs : List (DataW H)} {before : List MemPlace} {tb : TypeId}
    (hl : laidOutB P = true) (hr : (f.params.toList.all fun t => P.readableRec t && decide (t < P.types.size)) = true) (hv : s.vars = []) (hrt : f.resultTypes = #[tb]) (htb : P.underlying tb = some .bool)
    (hs : (s.fn H (ds ++ gs)).results = [.lit (.bool true)] ∧ (s.fn H (ds ++ gs)).args = ds ∧ (s.fn H (ds ++ gs)).vars = [])
    (hW : DataW.Whole enc P f.params.toList s.vars apart W args.toList ds gs before) (hb : Below W.heap.size W W') :
    s.post enc P f apart fresh handsOn false W args (.bool true) W' := by
  have hlt : ∀ p ∈ before, p.block < W.heap.size := fun p hp => hW.lt p hp
  obtain ⟨p, q, hA, hV, hpq, _, _⟩ := id hW
  rw [hv] at hV
  obtain ⟨_, rfl⟩ := trodVars_none hV
  rw [List.append_nil] at hpq
  subst hpq
  refine ⟨ds, gs, before, [], before, [], hW, ?_, ?_, ?_, hb.frame _, fun h => by cases h⟩
  · rw [hs.1, hrt]
    exact trodAll_mk1 (shut_bool htb _)
  · rw [hs.2.1]
    exact trodAll_stays hl hb hr hlt hA
  · rw [hv, hs.2.2]
    exact rfl
/-- an argument that is a slice of bytes: nil, empty or not, it reads as a list of bytes. -/
theorem open_bytes {w : World} {base b0 : Nat} {spare : Nat → Bool} {held : Bool} {r : Reach} {t e : TypeId} {v : Value} {d : DataW H} {ps : List MemPlace} (ht : P.underlying t = some (.slice e)) (he : P.underlying e = some (.int .u8)) (hc : P.cellsOf e = 1)
    (hval : Value.okWide P w r b0 t v) (hd : DataW.Trod enc P w base spare held t v d ps) :
    ∃ (A : Option Addr) (l : List UInt8) (cp : Nat), v = .slice A l.length cp ∧ l.length ≤ cp ∧ cp ≤ 9223372036854775807 ∧ (A = none → cp = 0) ∧ Rd w w.heap.size A (l.map bv) := by
  obtain ⟨a0, len, cap, rfl⟩ := okWide_slice ht hval
  obtain ⟨fuel, hf⟩ := hd
  rcases open_ints ht he hc hf with ⟨hcs, _⟩ | ⟨a, len', cap', zs, hcs, _, hl, hm, hz, _, hcell, hwz⟩
  · simp [Value.cells] at hcs
    obtain ⟨rfl, rfl, rfl⟩ := hcs
    exact ⟨none, [], 0, rfl, by simp, by omega, fun _ => rfl, .inl rfl⟩
  · simp [Value.cells] at hcs
    obtain ⟨rfl, rfl, rfl⟩ := hcs
    have hlz : len ≤ zs.length := by rw [hz]; split <;> omega
    have hll : ((zs.take len).map fun n => UInt8.ofNat n.toNat).length = len := by simp; omega
    unfold maxLen at hm
    refine ⟨some a, (zs.take len).map fun n => UInt8.ofNat n.toNat, cap, by rw [hll], by omega, by omega, fun h => (by cases h), ?_⟩
    by_cases h0 : len = 0
    · subst h0; exact .inl (by simp)
    · have hc0 := hcell 0 (by omega)
      have hlt := World.block_lt_of_cell? w _ hc0
      rw [block_add] at hlt
      refine .inr ⟨a, rfl, hlt, fun j u hj => ?_⟩
      rw [List.getElem?_map, Option.map_eq_some_iff] at hj
      obtain ⟨b, hb, rfl⟩ := hj
      rw [List.getElem?_map, Option.map_eq_some_iff] at hb
      obtain ⟨n, hn, rfl⟩ := hb
      rw [List.getElem?_take] at hn
      split at hn
      · rename_i hjl
        have hjz : j < zs.length := by omega
        rw [List.getElem?_eq_getElem hjz] at hn
        obtain rfl := Option.some.inj hn
        rw [hcell j hjz]
        have hw := hwz zs[j] (List.getElem_mem hjz)
        simp only [Lit.wf, Bool.and_eq_true, decide_eq_true_eq] at hw
        have hw0 : 0 ≤ zs[j] ∧ zs[j] ≤ 255 := hw
        have hg : zs.getD j 0 = zs[j] := by simp [List.getD, hjz]
        unfold bv
        rw [hg, UInt8.toNat_ofNat_of_lt' (by show _ < 256; omega)]
        congr 2; omega
      · cases hn
end
end Go.Proofs.Ytmblkgnjcmneeaa

/- The plain mathematics of one's complement sums of words of 16 bits. No condition beyond bounds. -/
namespace Go.Proofs.Ytmblkgnjcmneeaa
open Go.RowKit

/-- what stands above 16 bits is added below, till nothing stands there. -/
def fo (n : Int) : Int := if n ≤ 0 then 0 else (n - 1) % 65535 + 1

theorem fo_lo (n : Int) : 0 ≤ fo n := by unfold fo; split <;> omega
theorem fo_hi (n : Int) : fo n ≤ 65535 := by unfold fo; split <;> omega
theorem fo_small (n : Int) (h0 : 0 ≤ n) (h : n ≤ 65535) : fo n = n := by unfold fo; split <;> omega
theorem fo_step (n : Int) (h : 65535 < n) : fo (n / 65536 + n % 65536) = fo n := by unfold fo; split <;> split <;> omega
theorem fo_fo (a b : Int) (ha : 0 ≤ a) (hb : 0 ≤ b) : fo (fo a + b) = fo (a + b) := by unfold fo; repeat' split <;> try omega
theorem fo_fo' (a b : Int) (ha : 0 ≤ a) (hb : 0 ≤ b) : fo (a + fo b) = fo (a + b) := by rw [Int.add_comm, fo_fo b a hb ha, Int.add_comm]
theorem fo_sub (n : Int) (h : 65535 < n) (h2 : n ≤ 131070) : n - 65535 = fo n := by unfold fo; split <;> omega

theorem u16_not (x : Int) (h0 : 0 ≤ x) (h1 : x ≤ 65535) : bits .xor .u16 65535 x = 65535 - x := by
  rw [u16_xor 65535 x (by omega) (by omega) h0 (by omega)]
  obtain ⟨n, rfl⟩ := Int.eq_ofNat_of_zero_le h0
  have hn : n < 2 ^ 16 := by omega
  have e : (65535 ^^^ n : Nat) = 65535 - n := by
    apply Nat.eq_of_testBit_eq
    intro i
    have h := Nat.testBit_two_pow_sub_succ hn i
    rw [show 2 ^ 16 - (n + 1) = 65535 - n by omega] at h
    rw [h, Nat.testBit_xor]
    have h2 := Nat.testBit_two_pow_sub_one 16 i
    rw [show 2 ^ 16 - 1 = 65535 by omega] at h2
    rw [h2]
    by_cases hi : i < 16
    · simp [hi]
    · have hf : n.testBit i = false := Nat.testBit_lt_two_pow (Nat.lt_of_lt_of_le hn (Nat.pow_le_pow_right (by omega) (by omega)))
      simp [hi, hf]
  show ((65535 ^^^ n : Nat) : Int) = _
  rw [e]; omega

theorem u64_or8 (a b : Int) (a0 : 0 ≤ a) (a1 : a ≤ 255) (b0 : 0 ≤ b) (b1 : b ≤ 255) : bits .or .u64 (a * 256) b = a * 256 + b := by
  rw [u64_or _ _ (by omega) (by omega) b0 (by omega), nat_join 8 _ _ (by omega) (by omega)]
  omega
theorem u16_or8 (a b : Int) (a0 : 0 ≤ a) (a1 : a ≤ 255) (b0 : 0 ≤ b) (b1 : b ≤ 255) : bits .or .u16 (a * 256) b = a * 256 + b := by
  rw [u16_or _ _ (by omega) (by omega) b0 (by omega), nat_join 8 _ _ (by omega) (by omega)]
  omega

/-- what a check sum is when a word that was old is now another. -/
def mend (c o n : Int) : Int := 65535 - fo (fo (65535 - c + (65535 - o)) + n)
theorem mend_lo (c o n : Int) : 0 ≤ mend c o n := by unfold mend; have := fo_hi (fo (65535 - c + (65535 - o)) + n); omega
theorem mend_hi (c o n : Int) : mend c o n ≤ 65535 := by unfold mend; have := fo_lo (fo (65535 - c + (65535 - o)) + n); omega

def pseudo (s d p z : Int) : Int := fo (s / 65536 + s % 65536 + (d / 65536 + d % 65536) + p % 65536 + z % 65536)

/-- the words' total. -/
def tot : List UInt8 → Int
  | [] => 0
  | [a] => 256 * (a.toNat : Int)
  | a :: b :: r => 256 * (a.toNat : Int) + (b.toNat : Int) + tot r
theorem tot_lo : ∀ l : List UInt8, 0 ≤ tot l
  | [] => by simp [tot]
  | [a] => by simp only [tot]; omega
  | a :: b :: r => by have := tot_lo r; simp only [tot]; omega
theorem tot_hi : ∀ l : List UInt8, tot l ≤ 65535 * (l.length : Int)
  | [] => by simp [tot]
  | [a] => by have := a.toNat_lt; simp [tot]; omega
  | a :: b :: r => by have := tot_hi r; have := a.toNat_lt; have := b.toNat_lt; simp [tot]; omega

def wrds : List UInt8 → List Int
  | [] => []
  | [a] => [256 * (a.toNat : Int)]
  | a :: b :: r => (256 * (a.toNat : Int) + (b.toNat : Int)) :: wrds r
theorem wrds_append : ∀ (p q : List UInt8), p.length % 2 = 0 → wrds (p ++ q) = wrds p ++ wrds q
  | [], q, _ => rfl
  | [a], q, h => by simp at h
  | a :: b :: r, q, h => by
    have := wrds_append r q (by simp at h; omega)
    simp only [List.cons_append, wrds, this]
theorem wrds_length : ∀ (p : List UInt8), (wrds p).length = (p.length + 1) / 2
  | [] => rfl
  | [a] => by simp [wrds]
  | a :: b :: r => by have := wrds_length r; simp only [wrds, List.length_cons, this]; omega
theorem wrds_sum : ∀ (p : List UInt8), (wrds p).sum = tot p
  | [] => rfl
  | [a] => by simp [wrds, tot]
  | a :: b :: r => by have := wrds_sum r; simp [wrds, tot, this]
theorem wrds_bd : ∀ (p : List UInt8), ∀ x ∈ wrds p, 0 ≤ x ∧ x ≤ 65535
  | [] => by simp [wrds]
  | [a] => by have := a.toNat_lt; intro x hx; simp [wrds] at hx; omega
  | a :: b :: r => by
    have h1 := a.toNat_lt
    have h2 := b.toNat_lt
    have := wrds_bd r
    intro x hx
    simp only [wrds, List.mem_cons] at hx
    rcases hx with rfl | hx
    · omega
    · exact this x hx
theorem wrds_two (l : List UInt8) (i : Nat) (hi : i % 2 = 0) (h : i + 1 < l.length) : wrds (l.take (i + 2)) = wrds (l.take i) ++ [256 * (l[i].toNat : Int) + (l[i + 1].toNat : Int)] := by
  have e : l.take (i + 2) = l.take i ++ [l[i], l[i + 1]] := by
    rw [show i + 2 = i + 1 + 1 from rfl, List.take_succ_eq_append_getElem (by omega), List.take_succ_eq_append_getElem (by omega), List.append_assoc]; rfl
  rw [e, wrds_append _ _ (by rw [List.length_take, Nat.min_eq_left (by omega)]; exact hi)]
  rfl
theorem wrds_one (l : List UInt8) (i : Nat) (hi : i % 2 = 0) (h : i + 1 = l.length) : wrds (l.take (i + 2)) = wrds (l.take i) ++ [256 * ((l[i]'(by omega)).toNat : Int)] := by
  have e : l.take (i + 2) = l.take i ++ [l[i]] := by
    rw [List.take_of_length_le (by omega)]
    rw [← List.take_succ_eq_append_getElem (by omega), List.take_of_length_le (by omega)]
  rw [e, wrds_append _ _ (by rw [List.length_take, Nat.min_eq_left (by omega)]; exact hi)]
  rfl

end Go.Proofs.Ytmblkgnjcmneeaa

/- The total of words of which one is another; bytes that all are 0; one byte that is another. Plain mathematics. -/
namespace Go.Proofs.Ytmblkgnjcmneeaa
open Go.RowKit

theorem tot_set : ∀ (k : Nat) (l : List UInt8) (a b : UInt8) (h : 2 * k + 1 < l.length),
    tot ((l.set (2 * k) a).set (2 * k + 1) b) = tot l - (256 * (l[2 * k].toNat : Int) + (l[2 * k + 1].toNat : Int)) + (256 * (a.toNat : Int) + (b.toNat : Int))
  | 0, x :: y :: r, a, b, h => by simp [tot]; omega
  | k + 1, x :: y :: r, a, b, h => by
    have ih := tot_set k r a b (by simp at h; omega)
    have e : 2 * (k + 1) = 2 * k + 1 + 1 := by omega
    simp only [e, List.set_cons_succ, List.getElem_cons_succ, tot, ih]
    omega
  | 0, [], a, b, h => by simp at h
  | 0, [x], a, b, h => by simp at h
  | k + 1, [], a, b, h => by simp at h
  | k + 1, [x], a, b, h => by simp at h

def allz (l : List UInt8) : Bool := l.all (· == 0)
theorem allz_tot : ∀ l : List UInt8, allz l = true → tot l = 0
  | [], _ => rfl
  | [a], h => by simp [allz] at h; subst h; rfl
  | a :: b :: r, h => by
    simp only [allz, List.all_cons, Bool.and_eq_true, beq_iff_eq] at h
    obtain ⟨rfl, rfl, h⟩ := h
    have := allz_tot r h
    simp only [tot, this]; rfl
theorem tot_allz : ∀ l : List UInt8, allz l = false → 0 < tot l
  | [], h => by simp [allz] at h
  | [a], h => by
    simp [allz] at h
    have : a.toNat ≠ 0 := fun e => h (UInt8.toNat_inj.1 (by simpa using e))
    simp only [tot]; omega
  | a :: b :: r, h => by
    have hr := tot_lo r
    by_cases ha : a = 0
    · by_cases hb : b = 0
      · subst ha hb
        have := tot_allz r (by simpa [allz] using h)
        simp only [tot]; simp; omega
      · have : b.toNat ≠ 0 := fun e => hb (UInt8.toNat_inj.1 (by simpa using e))
        simp only [tot]; omega
    · have : a.toNat ≠ 0 := fun e => ha (UInt8.toNat_inj.1 (by simpa using e))
      simp only [tot]; omega
theorem allz_snoc (l : List UInt8) (j : Nat) (h : j < l.length) : allz (l.take (j + 1)) = (allz (l.take j) && (l[j] == 0)) := by
  unfold allz
  rw [List.take_succ_eq_append_getElem h, List.all_append]; simp

theorem byte_zero (b : UInt8) : ((b.toNat : Int) == 0) = (b == 0) := by
  by_cases h : b = 0
  · subst h; rfl
  · have : ¬ ((b.toNat : Int) = 0) := fun e => h (UInt8.toNat_inj.1 (by simpa using e))
    rw [beq_eq_false_iff_ne.2 h, beq_eq_false_iff_ne.2 this]
theorem tot_word : ∀ (l : List UInt8) (k : Nat) (h : 2 * k + 1 < l.length) (x y : Int) (_ : (l[2 * k].toNat : Int) = x) (_ : (l[2 * k + 1].toNat : Int) = y), 256 * x + y ≤ tot l := by
  intro l k h x y hx hy
  have := tot_set k l 0 0 h
  have h2 := tot_lo ((l.set (2 * k) 0).set (2 * k + 1) 0)
  rw [hx, hy] at this
  simp at this
  omega

/-- mended, it is that of the changed words, where these are not all 0. -/
theorem mend_fits (T o n : Int) (T0 : 0 ≤ T - o) (o0 : 0 ≤ o) (o1 : o ≤ 65535) (n0 : 0 ≤ n) (h : 0 < T - o + n) : mend (65535 - fo T) o n = 65535 - fo (T - o + n) := by
  unfold mend
  rw [show 65535 - (65535 - fo T) + (65535 - o) = fo T + (65535 - o) from by omega, fo_fo T (65535 - o) (by omega) (by omega), fo_fo (T + (65535 - o)) n (by omega) n0]
  congr 1
  unfold fo; split <;> split <;> omega

def b8 (n : Int) : UInt8 := UInt8.ofNat n.toNat
theorem b8_is (n : Int) (h0 : 0 ≤ n) (h1 : n ≤ 255) : ((b8 n).toNat : Int) = n := by
  unfold b8
  rw [UInt8.toNat_ofNat_of_lt' (by show _ < 256; omega)]; omega

theorem fo_top (n : Int) : fo n = 65535 ↔ 0 < n ∧ n % 65535 = 0 := by unfold fo; split <;> omega
/-- with their own check sum among them words have the sum 65535. -/
theorem stands (T : Int) (h : 0 ≤ T) : fo (T + (65535 - fo T)) = 65535 := by
  rw [fo_top]; unfold fo; split <;> omega
theorem tot_one : ∀ (l : List UInt8) (i : Nat) (b : UInt8) (h : i < l.length), ∃ m : Int, (m = 1 ∨ m = 256) ∧ tot (l.set i b) = tot l + m * ((b.toNat : Int) - (l[i].toNat : Int))
  | [], _, _, h => by simp at h
  | [a], 0, b, _ => ⟨256, .inr rfl, by simp only [List.set_cons_zero, List.getElem_cons_zero, tot]; omega⟩
  | [a], i + 1, b, h => by simp at h
  | a :: c :: r, 0, b, _ => ⟨256, .inr rfl, by simp only [List.set_cons_zero, List.getElem_cons_zero, tot]; omega⟩
  | a :: c :: r, 1, b, _ => ⟨1, .inl rfl, by simp only [List.set_cons_zero, List.set_cons_succ, List.getElem_cons_zero, List.getElem_cons_succ, tot]; omega⟩
  | a :: c :: r, i + 2, b, h => by
    obtain ⟨m, hm, e⟩ := tot_one r i b (by simpa using h)
    exact ⟨m, hm, by simp only [List.set_cons_succ, List.getElem_cons_succ, tot, e]; omega⟩
/-- one byte that is another is seen. -/
theorem seen (l : List UInt8) (i : Nat) (b : UInt8) (h : i < l.length) (hb : b ≠ l[i]) (ht : fo (tot l) = 65535) : fo (tot (l.set i b)) ≠ 65535 := by
  obtain ⟨m, hm, e⟩ := tot_one l i b h
  have h1 : b.toNat ≠ l[i].toNat := fun e => hb (UInt8.toNat_inj.1 e)
  have h2 := b.toNat_lt
  have h3 := l[i].toNat_lt
  intro hf
  rw [fo_top] at ht hf
  rw [e] at hf
  rcases hm with rfl | rfl <;> omega
theorem xor_walk (a : UInt8) (x : Int) (h0 : 0 ≤ x) (h1 : x ≤ 255) : bits .xor .u8 (a.toNat : Int) x = ((a ^^^ b8 x).toNat : Int) := by
  have ha := a.toNat_lt
  rw [u8_xor _ x (by omega) (by omega) h0 (by omega), UInt8.toNat_xor]
  have := b8_is x h0 h1
  rw [Int.toNat_natCast, show x.toNat = (b8 x).toNat from by omega]
theorem xor_other (a : UInt8) (x : Int) (h0 : x ≠ 0) (h1 : 0 ≤ x) (h2 : x ≤ 255) : a ^^^ b8 x ≠ a := by
  intro h
  have : b8 x = 0 := by
    have h' : a ^^^ (a ^^^ b8 x) = a ^^^ a := by rw [h]
    simpa [← UInt8.xor_assoc] using h'
  have e := b8_is x h1 h2
  rw [this] at e
  simp at e
  omega

theorem stand_words (L l1 : List UInt8) (k : Nat) (h : 2 * k + 1 < L.length) (e : l1 = (L.set (2 * k) 0).set (2 * k + 1) 0) :
    fo (tot ((l1.set (2 * k) (b8 ((65535 - fo (tot l1)) / 256))).set (2 * k + 1) (b8 ((65535 - fo (tot l1)) % 256)))) = 65535 := by
  have hl : 2 * k + 1 < l1.length := by rw [e]; simpa using h
  have f1 := fo_lo (tot l1)
  have f2 := fo_hi (tot l1)
  have hz1 : l1[2 * k] = 0 := by subst e; rw [List.getElem_set_ne (by omega), List.getElem_set_self]
  have hz2 : l1[2 * k + 1] = 0 := by subst e; rw [List.getElem_set_self]
  rw [tot_set k l1 _ _ hl, hz1, hz2, b8_is _ (by omega) (by omega), b8_is _ (by omega) (by omega)]
  have := stands (tot l1) (tot_lo l1)
  rw [← this]
  congr 1
  simp; omega
end Go.Proofs.Ytmblkgnjcmneeaa

/- Packets and the bytes of their heads: plain mathematics. No condition beyond bounds. -/
namespace Go.Proofs.Ytmblkgnjcmneeaa
open Go.RowKit

/-- the byte at a place, as a number. -/
def g8 (l : List UInt8) (k : Nat) : Int := ((l.getD k 0).toNat : Int)
theorem g8_lo (l : List UInt8) (k : Nat) : 0 ≤ g8 l k := by unfold g8; omega
theorem g8_hi (l : List UInt8) (k : Nat) : g8 l k ≤ 255 := by unfold g8; have := (l.getD k 0).toNat_lt; omega
theorem g8_at (l : List UInt8) (k : Nat) (h : k < l.length) : g8 l k = (l[k].toNat : Int) := by unfold g8; simp [List.getD, h]
/-- the number of two bytes at a place. -/
def wd (l : List UInt8) (k : Nat) : Int := g8 l k * 256 + g8 l (k + 1)
theorem wd_lo (l : List UInt8) (k : Nat) : 0 ≤ wd l k := by have := g8_lo l k; have := g8_lo l (k + 1); unfold wd; omega
theorem wd_hi (l : List UInt8) (k : Nat) : wd l k ≤ 65535 := by have := g8_hi l k; have := g8_hi l (k + 1); unfold wd; omega
/-- the address at a place. -/
def ad4 (l : List UInt8) (k : Nat) : Int := wd l k * 65536 + wd l (k + 2)
theorem ad4_lo (l : List UInt8) (k : Nat) : 0 ≤ ad4 l k := by have := wd_lo l k; have := wd_lo l (k + 2); unfold ad4; omega
theorem ad4_hi (l : List UInt8) (k : Nat) : ad4 l k ≤ 4294967295 := by have := wd_hi l k; have := wd_hi l (k + 2); unfold ad4; omega

structure Pk where
  tos : Int
  id : Int
  df : Bool
  mf : Bool
  off : Int
  ttl : Int
  proto : Int
  src : Int
  dst : Int
  opts : List UInt8
  body : List UInt8

def Pk.empty : Pk := ⟨0, 0, false, false, 0, 0, 0, 0, 0, [], []⟩
theorem Pk.ext' {p q : Pk} (h1 : p.tos = q.tos) (h2 : p.id = q.id) (h3 : p.df = q.df) (h4 : p.mf = q.mf) (h5 : p.off = q.off) (h6 : p.ttl = q.ttl) (h7 : p.proto = q.proto) (h8 : p.src = q.src) (h9 : p.dst = q.dst) (h10 : p.opts = q.opts) (h11 : p.body = q.body) : p = q := by
  cases p; cases q; simp_all

/-- the two packets' fields are the same. -/
def sameB (p q : Pk) : Bool := p.tos == q.tos && (p.id == q.id && (p.df == q.df && (p.mf == q.mf && (p.off == q.off && (p.ttl == q.ttl && (p.proto == q.proto && (p.src == q.src && (p.dst == q.dst && (p.opts == q.opts && p.body == q.body)))))))))
theorem sameB_iff (p q : Pk) : sameB p q = true ↔ p = q := by
  cases p; cases q; simp [sameB]

/-- do a body and its place fit? -/
def fitsB (p : Pk) : Bool := decide (20 + (p.opts.length : Int) + p.off + (p.body.length : Int) ≤ 65535) && (!p.mf || (decide (0 < p.body.length) && decide (p.body.length % 8 = 0)))
def upB (n m : Int) : Bool := decide (0 ≤ n) && decide (n ≤ m)
/-- may it be put? -/
def mayB (p : Pk) : Bool := upB p.tos 255 && (upB p.ttl 255 && (upB p.proto 255 && (upB p.id 65535 && (upB p.off 65528 && (decide (p.off % 8 = 0) && (decide (p.opts.length ≤ 40) && (decide (p.opts.length % 4 = 0) && fitsB p)))))))
structure May (p : Pk) : Prop where
  t0 : 0 ≤ p.tos
  t1 : p.tos ≤ 255
  l0 : 0 ≤ p.ttl
  l1 : p.ttl ≤ 255
  r0 : 0 ≤ p.proto
  r1 : p.proto ≤ 255
  i0 : 0 ≤ p.id
  i1 : p.id ≤ 65535
  o0 : 0 ≤ p.off
  o1 : p.off ≤ 65528
  o8 : p.off % 8 = 0
  p40 : p.opts.length ≤ 40
  p4 : p.opts.length % 4 = 0
  fit : 20 + (p.opts.length : Int) + p.off + (p.body.length : Int) ≤ 65535
  mf : p.mf = true → 0 < p.body.length ∧ p.body.length % 8 = 0
theorem fitsB_iff (p : Pk) : fitsB p = true ↔ 20 + (p.opts.length : Int) + p.off + (p.body.length : Int) ≤ 65535 ∧ (p.mf = true → 0 < p.body.length ∧ p.body.length % 8 = 0) := by
  unfold fitsB
  cases p.mf <;> simp
theorem mayB_iff (p : Pk) : mayB p = true ↔ May p := by
  unfold mayB upB
  constructor
  · intro h
    simp only [Bool.and_eq_true, decide_eq_true_eq, fitsB_iff] at h
    obtain ⟨⟨a, b⟩, ⟨c, d⟩, ⟨e, f⟩, ⟨g, i⟩, ⟨j, k⟩, l, m, n, o, q⟩ := h
    exact ⟨a, b, c, d, e, f, g, i, j, k, l, m, n, o, q⟩
  · intro h
    simp only [Bool.and_eq_true, decide_eq_true_eq, fitsB_iff]
    exact ⟨⟨h.t0, h.t1⟩, ⟨h.l0, h.l1⟩, ⟨h.r0, h.r1⟩, ⟨h.i0, h.i1⟩, ⟨h.o0, h.o1⟩, h.o8, h.p40, h.p4, h.fit, h.mf⟩

/-- the word that Off shares with its bits. -/
def flg (p : Pk) : Int := p.off / 8 + (if p.mf then 8192 else 0) + (if p.df then 16384 else 0)
/-- how many bytes the head has, and the whole. -/
def hln (p : Pk) : Int := 20 + (p.opts.length : Int)
def whl (p : Pk) : Int := hln p + (p.body.length : Int)
/-- a head of 20 bytes, with a check sum. -/
def hd20 (p : Pk) (check : Int) : List UInt8 :=
  [b8 (64 + hln p / 4), b8 p.tos, b8 (whl p / 256), b8 (whl p % 256), b8 (p.id / 256), b8 (p.id % 256), b8 (flg p / 256), b8 (flg p % 256), b8 p.ttl, b8 p.proto, b8 (check / 256), b8 (check % 256),
    b8 (p.src / 16777216), b8 (p.src / 65536 % 256), b8 (p.src / 256 % 256), b8 (p.src % 256), b8 (p.dst / 16777216), b8 (p.dst / 65536 % 256), b8 (p.dst / 256 % 256), b8 (p.dst % 256)]
def hd (p : Pk) (check : Int) : List UInt8 := hd20 p check ++ p.opts
def chk (p : Pk) : Int := 65535 - fo (tot (hd p 0))
theorem chk_lo (p : Pk) : 0 ≤ chk p := by unfold chk; have := fo_hi (tot (hd p 0)); omega
theorem chk_hi (p : Pk) : chk p ≤ 65535 := by unfold chk; have := fo_lo (tot (hd p 0)); omega
/-- the packet's bytes. -/
def putB (p : Pk) : List UInt8 := hd p (chk p) ++ p.body
theorem hd_length (p : Pk) (c : Int) : (hd p c).length = 20 + p.opts.length := by simp [hd, hd20]; omega
theorem putB_length (p : Pk) : (putB p).length = 20 + p.opts.length + p.body.length := by simp [putB, hd_length]

/-- the packet of these bytes, or the first error. -/
def headN (l : List UInt8) : Int := g8 l 0 % 16 * 4
def prs (l : List UInt8) : Int × Pk :=
  if l.length < 20 then (2, Pk.empty)
  else if g8 l 0 / 16 ≠ 4 ∨ headN l < 20 ∨ (l.length : Int) < headN l then (3, Pk.empty)
  else if wd l 2 < headN l ∨ (l.length : Int) < wd l 2 then (4, Pk.empty)
  else if fo (tot (l.take (headN l).toNat)) ≠ 65535 then (5, Pk.empty)
  else
    let p : Pk := ⟨g8 l 1, wd l 4, decide (wd l 6 / 16384 % 2 = 1), decide (wd l 6 / 8192 % 2 = 1), wd l 6 % 8192 * 8, g8 l 8, g8 l 9, ad4 l 12, ad4 l 16, (l.take (headN l).toNat).drop 20, (l.take (wd l 2).toNat).drop (headN l).toNat⟩
    if 32768 ≤ wd l 6 ∨ fitsB p = false then (7, Pk.empty) else (0, p)
end Go.Proofs.Ytmblkgnjcmneeaa

/- Rows of bytes of a call's own; cells of bytes by their places; an array's element. -/
namespace Go.Proofs.Ytmblkgnjcmneeaa
open Go.ChangeShapes Go.WideShapes Go.ChangeAt Go.RowKit
set_option linter.unusedVariables false

theorem g8_cell {w : World} {B : Nat} {A : Option Addr} {l : List UInt8} (h : Bs w B A l) {k : Nat} (hk : k < l.length) : ∃ ad, A = some ad ∧ ad.block < B ∧ w.cell? (ad.add k) = some (.int .u8 (g8 l k)) := by
  rw [g8_at l k hk]
  exact h.at_ hk
theorem g8_cells {w : World} {B : Nat} {A : Option Addr} {l : List UInt8} (h : Bs w B A l) (hl : 0 < l.length) : ∃ ad, A = some ad ∧ ad.block < B ∧ ∀ k, k < l.length → w.cell? (ad.add k) = some (.int .u8 (g8 l k)) := by
  rcases h with h | ⟨ad, rfl, hlt, hcell⟩
  · subst h; simp at hl
  · exact ⟨ad, rfl, hlt, fun k hk => by rw [g8_at l k hk]; exact hcell k _ (List.getElem?_eq_getElem hk)⟩

/-- a row of bytes of the call's own. -/
def Own (w : World) (base g n c : Nat) (l : List UInt8) : Prop := w.ownsRow base 5 1 (.slice (some ⟨g, 0, none⟩) n c) n (l.map bv)
theorem Own.len {w : World} {base g n c : Nat} {l : List UInt8} (h : Own w base g n c l) : l.length = n := by have := h.1; simpa using this
theorem Own.lt {w : World} {base g n c : Nat} {l : List UInt8} (h : Own w base g n c l) : base ≤ g ∧ g < w.heap.size := World.ownsRow.lt h g rfl
theorem Own.bs {w : World} {base g n c : Nat} {l : List UInt8} (h : Own w base g n c l) : Bs w w.heap.size (some ⟨g, 0, none⟩) l := (rd_of_own' h).bs
theorem Own.stored {w : World} {base g n c : Nat} {l : List UInt8} (h : Own w base g n c l) (j : Nat) (x : Int) (h0 : 0 ≤ x) (h1 : x ≤ 255) :
    Own (w.setCell ⟨g, j, none⟩ (.int .u8 x)) base g n c (l.set j (b8 x)) ∧ Below base w (w.setCell ⟨g, j, none⟩ (.int .u8 x)) := by
  have e : Value.int .u8 x = bv (b8 x) := by unfold bv; rw [b8_is x h0 h1]
  rw [e]
  have hs := World.ownsRow.stored h j (bv (b8 x))
  refine ⟨?_, (Below.refl _ _).setCell h.lt.1 _⟩
  unfold Own
  rw [List.map_set]
  exact hs.1
theorem Own.cap {w : World} {base g n c : Nat} {l : List UInt8} (h : Own w base g n c l) : n ≤ c ∧ c ≤ maxLen := by
  rcases h.2 with ⟨h, _⟩ | ⟨g', cap, cur, hv, hb, hh, hn, hm, hs, ht⟩
  · cases h
  · injection hv with h1 h2 h3; subst h3; exact ⟨hn, hm⟩
theorem Own.below {w w' : World} {base g n c : Nat} {l : List UInt8} (h : Own w base g n c l) (hb : Below w.heap.size w w') : Own w' base g n c l := by
  refine ⟨h.1, ?_⟩
  rcases h.2 with h | ⟨g', cap, cur, hv, hba, hh, hn, hm, hs, ht⟩
  · exact .inl h
  · refine .inr ⟨g', cap, cur, hv, hba, ?_, hn, hm, hs, ht⟩
    rw [hb.block g' (Array.getElem?_eq_some_iff.1 hh).1]; exact hh
theorem Own.cellAt {w : World} {base g n c : Nat} {l : List UInt8} (h : Own w base g n c l) (j : Nat) (hj : j < n) : w.cell? ⟨g, j, none⟩ = some (.int .u8 (g8 l j)) := by
  have := own_cell h j (by have := h.len; simpa [this] using hj)
  rw [this, g8_at l j (by have := h.len; omega)]; simp [bv]
theorem Own.frozenAt {w : World} {base g n c : Nat} {l : List UInt8} (h : Own w base g n c l) (j : Nat) : w.frozen? ⟨g, j, none⟩ = false := World.ownsRow.frozenAt h j

theorem info_int : (Try.prog.info? 3).map (fun i => (i.zero, i.size, i.bytes)) = some (some (.int .i64 0), 1, 8) := by kernel_rfl
theorem info_byte : (Try.prog.info? 5).map (fun i => (i.zero, i.size, i.bytes)) = some (some (.int .u8 0), 1, 1) := by kernel_rfl

theorem own_made (w : World) (base n c : Nat) (hb : base ≤ w.heap.size) (hnc : n ≤ c) (hm : c ≤ maxLen) : Own (w.alloc (.cells (madeCells #[.int .u8 0] c) 5)) base w.heap.size n c (List.replicate n 0) := by
  refine ⟨by simp, .inr ⟨w.heap.size, c, madeCells #[.int .u8 0] c, rfl, hb, heap_alloc_new w _, hnc, hm, by rw [size_madeCells, Nat.mul_one], ?_⟩⟩
  rw [toList_madeCells_one, Nat.mul_one, List.take_replicate, Nat.min_eq_left hnc, List.map_replicate]
  rfl
/-- what lies in the block of a row, and what a splice into it makes. -/
theorem Own.block {w : World} {base g n c : Nat} {l : List UInt8} (h : Own w base g n c l) : ∃ cur : List Value, w.heap[g]? = some (.cells cur.toArray 5 (0, 0)) ∧ cur.length = c ∧ cur.take n = l.map bv := by
  rcases h.2 with ⟨h, _⟩ | ⟨g', cap, cur, hv, hb, hh, hn, hm, hs, ht⟩
  · cases h
  · injection hv with h1 h2 h3
    subst h3
    injection h1 with h1
    injection h1 with h1
    subst h1
    exact ⟨cur.toList, by simpa using hh, by simpa using hs, by simpa using ht⟩
theorem Own.of_block {w : World} {base g n c : Nat} {l : List UInt8} {cur : List Value} (hb : base ≤ g) (hh : w.heap[g]? = some (.cells cur.toArray 5 (0, 0))) (hc : cur.length = c) (hn : n ≤ c) (hm : c ≤ maxLen) (hl : l.length = n) (ht : cur.take n = l.map bv) : Own w base g n c l :=
  ⟨by simpa using hl, .inr ⟨g, c, cur.toArray, rfl, hb, hh, hn, hm, by simpa using hc, by simpa using ht⟩⟩
theorem take_splice {cur : List Value} {l o : List UInt8} (k : Nat) (ht : cur.take (k + o.length) = l.map bv) (hc : k + o.length ≤ cur.length) : (splice cur k (o.map bv)).take (k + o.length) = (l.take k ++ o).map bv := by
  unfold splice
  have e1 : (cur.take k).length = k := by rw [List.length_take]; omega
  have e2 : (l.take k).map bv = cur.take k := by rw [List.map_take, ← ht, List.take_take, Nat.min_eq_left (by omega)]
  rw [List.map_append, e2, List.take_append, e1, List.take_of_length_le (by omega)]
  congr 1
  rw [show k + o.length - k = (o.map bv).length by simp, List.take_append_of_le_length (Nat.le_refl _), List.take_length]

theorem upx {P : Program} {f : FuncId} {args : Array Value} {w W : World} {B : Nat} {v : Value} (h : Calls P f args w fun e w' => e = .returned v ∧ Below w.heap.size w w') (hb : Below B W w) (hB : B ≤ w.heap.size) :
    Calls P f args w fun e w' => e = .returned v ∧ Below w.heap.size w w' ∧ Below B W w' :=
  h.mono fun _ _ ⟨he, hw⟩ => ⟨he, hw, hb.trans (hw.mono hB)⟩
theorem dn0 (w : World) : ∃ m, w = w.drewN m := ⟨0, rfl⟩
/-- an array of ints by value: its element. -/
theorem run_index_arr (t e : TypeId) (n : Nat) (k : IntKind) (i : TypeInfo) (cs : Array Value) (j : Nat) (v : Value) (h : Try.prog.underlying t = some (.array n e)) (he : Try.prog.underlying e = some (.int k)) (hi : Try.prog.info? e = some i) (hs : Try.prog.cellsOf e = 1) (hj : j < n) (hv : cs[j]? = some v) (w : World) :
    (Instr.index t (.agg cs) (.int .i64 (j : Int))).run Try.prog w = .ok v w := by
  simp [Instr.index, run_underlying h, asIntOf, hj, go_sem, run_sizeOf w hi, hs, part, isAgg, run_underlying he, hv]
theorem four_rd (W : World) (a b c d : Int) (ha : 0 ≤ a ∧ a ≤ 255) (hb : 0 ≤ b ∧ b ≤ 255) (hc : 0 ≤ c ∧ c ≤ 255) (hd : 0 ≤ d ∧ d ≤ 255) :
    Rd (W.alloc (.cells #[.int .u8 a, .int .u8 b, .int .u8 c, .int .u8 d] 5)) (W.heap.size + 1) (some ⟨W.heap.size, 0, none⟩) ([b8 a, b8 b, b8 c, b8 d].map bv) := by
  refine .inr ⟨_, rfl, by simp, fun j u hj => ?_⟩
  match j, hj with
  | 0, hj => simp [bv, b8_is a ha.1 ha.2] at hj; subst hj; simp [Addr.add]
  | 1, hj => simp [bv, b8_is b hb.1 hb.2] at hj; subst hj; simp [Addr.add]
  | 2, hj => simp [bv, b8_is c hc.1 hc.2] at hj; subst hj; simp [Addr.add]
  | 3, hj => simp [bv, b8_is d hd.1 hd.2] at hj; subst hj; simp [Addr.add]

end Go.Proofs.Ytmblkgnjcmneeaa

/- Structs of many cells, by value: a load, a store into the block that was made last, as laws of the walk (cell by cell the kernel runs out of memory at nineteen). No condition. -/
namespace Go.Proofs.Ytmblkgnjcmneeaa
open Go.ChangeShapes Go.WideShapes Go.ChangeAt Go.RowKit
set_option linter.unusedVariables false

section
variable {P : Program}
theorem run_loadVar_at (w : World) (ad : Addr) (ty : TypeId) (cs : List Value) (d : TypeDesc) (hc : ∀ j v, cs[j]? = some v → w.cell? (ad.add j) = some v)
    (hu : P.underlying ty = some d) (hd : d.isRow = true) (hi : (P.info? ty).map (·.size) = some cs.length) :
    (loadVar ty ad).run P w = .ok (.agg cs.toArray) w := by
  have hl : (loadCells ad cs.length).run P w = .ok cs.toArray w := run_loadCells_list (P := P) w ad cs hc
  cases hq : P.info? ty with
  | none => simp [hq] at hi
  | some i =>
    have hs : i.size = cs.length := by simpa [hq] using hi
    have hagg : (isAgg ty).run P w = .ok true w := by
      unfold isAgg
      rw [Sem.run_bind, run_underlying hu w]
      cases d <;> simp_all
    simp [loadVar, Sem.run_bind, hagg, sizeOf, typeInfo, hq, hs, hl]
theorem wpList_load_at {ops : Array Oper} {rest : List Oper} {op : Oper} {a : Act} {w : World} {Q : Exit → Act → World → Prop} (hgd : Region.wanted op (yielded ops a.tmps) = true) (ty : TypeId) (x : Operand) (ho : op.op = .load ty x)
    (ad : Addr) (hx : a.eval x = .pointer (some ad)) (cs : List Value) (d : TypeDesc) (hc : ∀ j v, cs[j]? = some v → w.cell? (ad.add j) = some v)
    (hu : P.underlying ty = some d) (hd : d.isRow = true) (hi : (P.info? ty).map (·.size) = some cs.length)
    (h : wpList P ops Q rest (a.put op.dst (.agg cs.toArray)) w) : wpList P ops Q (op :: rest) a w :=
  BigFrame.wpList_want hgd fun _ hK => by
    unfold Oper.wp execOp
    simp only [ho, hx, Instr.loadAt, Instr.sureAddr, Sem.run_bind, Sem.run_pure, Result.andThen_ok, run_loadVar_at w ad ty cs d hc hu hd hi]
    exact hK _ _ h
theorem yieldsIf_load_at {ops : Array Oper} {S : World → Prop} {op : Oper} {a : Act} (hw : Region.wanted op (yielded ops a.tmps) = true) (ty : TypeId) (x : Operand) (ho : op.op = .load ty x)
    (ad : Addr) (hx : a.eval x = .pointer (some ad)) (cs : List Value) (d : TypeDesc) (hS : ∀ w, S w → ∀ j v, cs[j]? = some v → w.cell? (ad.add j) = some v)
    (hu : P.underlying ty = some d) (hd : d.isRow = true) (hi : (P.info? ty).map (·.size) = some cs.length) : YieldsIf P ops S op (.agg cs.toArray) a :=
  .inl ⟨hw, fun w hw' => by
    unfold execOp
    simp only [ho, hx, Instr.loadAt, Instr.sureAddr, Sem.run_bind, Sem.run_pure, Result.andThen_ok, run_loadVar_at w ad ty cs d (hS w hw') hu hd hi]⟩
theorem wpList_store_new {ops : Array Oper} {rest : List Oper} {op : Oper} {a : Act} {w : World} {Q : Exit → Act → World → Prop} (hgd : Region.wanted op (yielded ops a.tmps) = true) (ty : TypeId) (x y : Operand) (ho : op.op = .store ty x y)
    (c c' : Array Value) (hx : a.eval x = .pointer (some ⟨w.heap.size, 0, none⟩)) (hy : a.eval y = .agg c')
    (hi : (P.info? ty).map (·.size) = some c'.size) (hs : c.size = c'.size) (h1 : c'.all (·.oneCell') = true)
    (h : wpList P ops Q rest (a.put op.dst undef) (w.alloc (.cells c' ty))) : wpList P ops Q (op :: rest) a (w.alloc (.cells c ty)) :=
  BigFrame.wpList_want hgd fun _ hK => by
    unfold Oper.wp execOp
    simp only [ho, hx, hy, Instr.storeAt, Instr.sureAddr, Sem.run_bind, Sem.run_pure, Result.andThen_ok, run_storeVar_new (P := P) w ty c c' hi hs h1]
    exact hK _ _ h
end
/-- a block of a struct's own, known whole. -/
def Bxo (w : World) (g : Nat) (ty : TypeId) (cs : List Value) : Prop := w.heap[g]? = some (.cells cs.toArray ty (0, 0))
/-- one block has turned, and nothing else. -/
structure Only (g : Nat) (w w' : World) : Prop where
  os : w'.os = w.os
  tape : w'.tape = w.tape
  output : w'.output = w.output
  size : w'.heap.size = w.heap.size
  block : ∀ k, k ≠ g → w'.heap[k]? = w.heap[k]?
section
variable {w w' w'' : World} {g g' B : Nat} {ty : TypeId} {cs : List Value}
theorem Bxo.lt (h : Bxo w g ty cs) : g < w.heap.size := (Array.getElem?_eq_some_iff.1 h).1
theorem Bxo.made (w : World) (ty : TypeId) (cs : List Value) : Bxo (w.alloc (.cells cs.toArray ty)) w.heap.size ty cs := heap_alloc_new w _
theorem Bxo.keep (h : Bxo w g ty cs) (hb : Below B w w') (hg : g < B) : Bxo w' g ty cs := (hb.block g hg).trans h
theorem Bxo.cell (h : Bxo w g ty cs) (j : Nat) {v : Value} (hj : cs[j]? = some v) : w.cell? ⟨g, j, none⟩ = some v := by
  rw [cell_of_row w g j _ ty _ h]; simpa using hj
theorem Bxo.at (h : Bxo w g ty cs) : ∀ j v, cs[j]? = some v → w.cell? ((⟨g, 0, none⟩ : Addr).add j) = some v := fun j v hj => by
  rw [Addr.add_mid, Nat.zero_add]; exact h.cell j hj
theorem Bxo.frozen (h : Bxo w g ty cs) (j : Nat) : w.frozen? ⟨g, j, none⟩ = false := frozen_of_row w g j _ ty h
theorem Bxo.drew (h : Bxo w g ty cs) : Bxo w.drew g ty cs := h
theorem Bxo.alloc (h : Bxo w g ty cs) (o : Obj) : Bxo (w.alloc o) g ty cs := (Below.heap_alloc w o g h.lt).trans h
theorem Bxo.set (h : Bxo w g ty cs) (j : Nat) (v : Value) : Bxo (w.setCell ⟨g, j, none⟩ v) g ty (cs.set j v) := by
  have := heap_setCell_same w g j cs.toArray ty v h
  rw [List.setIfInBounds_toArray] at this
  exact this
theorem Bxo.other (h : Bxo w g ty cs) {a : Addr} (ha : g ≠ a.block) (v : Value) : Bxo (w.setCell a v) g ty cs := (heap_setCell_other w a g v ha).trans h
theorem Bxo.only (h : Bxo w g ty cs) (ho : Only g' w w') (hg : g ≠ g') : Bxo w' g ty cs := (ho.block g hg).trans h
theorem Only.refl : Only g w w := ⟨rfl, rfl, rfl, rfl, fun _ _ => rfl⟩
theorem Only.trans (h : Only g w w') (h' : Only g w' w'') : Only g w w'' := ⟨h'.os.trans h.os, h'.tape.trans h.tape, h'.output.trans h.output, h'.size.trans h.size, fun k hk => (h'.block k hk).trans (h.block k hk)⟩
theorem Only.below (h : Only g w w') (hB : B ≤ g) : Below B w w' := ⟨h.os, h.tape, h.output, Nat.le_of_eq h.size.symm, fun k hk => h.block k (by omega)⟩
theorem Only.drew (h : Only g w w') : Only g w w'.drew := ⟨h.os, h.tape, h.output, h.size, h.block⟩
theorem Only.set (h : Only g w w') (j : Nat) (v : Value) : Only g w (w'.setCell ⟨g, j, none⟩ v) := ⟨h.os, h.tape, h.output, by rw [← h.size]; simp, fun k hk => (heap_setCell_other w' ⟨g, j, none⟩ k v hk).trans (h.block k hk)⟩
end
/-- cells from a place on, replaced. -/
def spl : List Value → Nat → List Value → List Value
  | cs, _, [] => cs
  | cs, o, v :: r => spl (cs.set o v) (o + 1) r
theorem spl_length : ∀ (vs : List Value) (cs : List Value) (o : Nat), (spl cs o vs).length = cs.length
  | [], _, _ => rfl
  | v :: r, cs, o => by rw [spl, spl_length r]; simp
theorem Bxo.setCells {g : Nat} {ty : TypeId} : ∀ (vs : List Value) (o : Nat) (cs : List Value) (w : World), Bxo w g ty cs → Bxo (w.setCells g o vs) g ty (spl cs o vs) ∧ Only g w (w.setCells g o vs)
  | [], _, _, _, h => ⟨h, Only.refl⟩
  | v :: r, o, cs, w, h => by
    have := Bxo.setCells r (o + 1) (cs.set o v) _ (h.set o v)
    exact ⟨this.1, (Only.refl.set o v).trans this.2⟩
section
variable {P : Program}
/-- the walk's load of a whole block; its store; a store of several cells in the middle. -/
theorem wpList_load_box {ops : Array Oper} {rest : List Oper} {op : Oper} {a : Act} {w : World} {Q : Exit → Act → World → Prop} (hgd : Region.wanted op (yielded ops a.tmps) = true) (ty : TypeId) (x : Operand) (ho : op.op = .load ty x)
    (g : Nat) (hx : a.eval x = .pointer (some ⟨g, 0, none⟩)) (cs : List Value) (d : TypeDesc) (hc : Bxo w g ty cs)
    (hu : P.underlying ty = some d) (hd : d.isRow = true) (hi : (P.info? ty).map (·.size) = some cs.length)
    (h : wpList P ops Q rest (a.put op.dst (.agg cs.toArray)) w) : wpList P ops Q (op :: rest) a w :=
  wpList_load_at hgd ty x ho _ hx cs d hc.at hu hd hi h
theorem run_storeVar_box (w : World) (g o : Nat) (ty sty : TypeId) (cs vs : List Value) (hc : Bxo w g ty cs) (hi : (P.info? sty).map (·.size) = some vs.length) (ho : o + vs.length ≤ cs.length) (h1 : vs.toArray.all (·.oneCell') = true) :
    (storeVar sty ⟨g, o, none⟩ (.agg vs.toArray)).run P w = .ok () (w.setCells g o vs) :=
  run_storeVar_mid w g o sty vs.toArray (fun j hj => ⟨by rw [hc.cell (o + j) (List.getElem?_eq_getElem (Nat.lt_of_lt_of_le (Nat.add_lt_add_left (show j < vs.length from by simpa using hj) o) ho))]; rfl, hc.frozen _⟩) (by simpa using hi) h1
theorem wpList_store_box {ops : Array Oper} {rest : List Oper} {op : Oper} {a : Act} {w : World} {Q : Exit → Act → World → Prop} (hgd : Region.wanted op (yielded ops a.tmps) = true) (sty : TypeId) (x y : Operand) (ho : op.op = .store sty x y)
    (g o : Nat) (ty : TypeId) (cs vs : List Value) (hx : a.eval x = .pointer (some ⟨g, o, none⟩)) (hy : a.eval y = .agg vs.toArray) (hc : Bxo w g ty cs)
    (hi : (P.info? sty).map (·.size) = some vs.length) (hs : o + vs.length ≤ cs.length) (h1 : vs.toArray.all (·.oneCell') = true)
    (h : ∀ w', Bxo w' g ty (spl cs o vs) → Only g w w' → wpList P ops Q rest (a.put op.dst undef) w') : wpList P ops Q (op :: rest) a w :=
  BigFrame.wpList_want hgd fun _ hK => by
    unfold Oper.wp execOp
    simp only [ho, hx, hy, Instr.storeAt, Instr.sureAddr, Sem.run_bind, Sem.run_pure, Result.andThen_ok, run_storeVar_box w g o ty sty cs vs hc hi hs h1]
    obtain ⟨h2, h3⟩ := Bxo.setCells vs o cs w hc
    exact hK _ _ (h _ h2 h3)
/-- .. of a region that draws: one step of it. -/
theorem step_store_box {op : Oper} {a : Act} {w : World} {K : Act → World → Prop} {Q : Exit → Act → World → Prop} (sty : TypeId) (x y : Operand) (ho : op.op = .store sty x y)
    (g o : Nat) (ty : TypeId) (cs vs : List Value) (hx : a.eval x = .pointer (some ⟨g, o, none⟩)) (hy : a.eval y = .agg vs.toArray) (hc : Bxo w g ty cs)
    (hi : (P.info? sty).map (·.size) = some vs.length) (hs : o + vs.length ≤ cs.length) (h1 : vs.toArray.all (·.oneCell') = true)
    (h : ∀ w', Bxo w' g ty (spl cs o vs) → Only g w w' → K (a.put op.dst undef) w') : op.wp P a w K Q := by
  unfold Oper.wp execOp
  simp only [ho, hx, hy, Instr.storeAt, Instr.sureAddr, Sem.run_bind, Sem.run_pure, Result.andThen_ok, run_storeVar_box w g o ty sty cs vs hc hi hs h1]
  obtain ⟨h2, h3⟩ := Bxo.setCells vs o cs w hc
  exact h _ h2 h3
end
end Go.Proofs.Ytmblkgnjcmneeaa

/- Structs of many cells: stores of whatever value, as steps; loads out of the middle. No condition. -/
namespace Go.Proofs.Ytmblkgnjcmneeaa
open Go.ChangeShapes Go.WideShapes Go.ChangeAt Go.RowKit
set_option linter.unusedVariables false

section
variable {P : Program}
theorem run_storeVar_any (w : World) (g o : Nat) (ty sty : TypeId) (cs vs : List Value) (v : Value) (hv : v.cells = vs.toArray) (hc : Bxo w g ty cs) (hi : (P.info? sty).map (·.size) = some vs.length) (ho : o + vs.length ≤ cs.length) (h1 : ∀ u ∈ vs, u.oneCell' = true) :
    (storeVar sty ⟨g, o, none⟩ v).run P w = .ok () (w.setCells g o vs) := by
  have := run_storeCells_cells (P := P) g o vs 0 w (fun j hj => by simp only [Nat.add_zero]; rw [hc.cell (o + j) (List.getElem?_eq_getElem (Nat.lt_of_lt_of_le (Nat.add_lt_add_left hj o) ho))]; rfl) (fun j hj => hc.frozen _) h1
  cases hq : P.info? sty with
  | none => simp [hq] at hi
  | some i =>
    have hs : vs.length = i.size := by simp [hq] at hi; omega
    simp only [Nat.add_zero] at this
    simp [storeVar, sizeOf, typeInfo, hq, hv, hs, this]
theorem wpList_store_any {ops : Array Oper} {rest : List Oper} {op : Oper} {a : Act} {w : World} {Q : Exit → Act → World → Prop} (hgd : Region.wanted op (yielded ops a.tmps) = true) (sty : TypeId) (x y : Operand) (ho : op.op = .store sty x y)
    (g o : Nat) (ty : TypeId) (cs vs : List Value) (v : Value) (hx : a.eval x = .pointer (some ⟨g, o, none⟩)) (hy : a.eval y = v) (hv : v.cells = vs.toArray) (hc : Bxo w g ty cs)
    (hi : (P.info? sty).map (·.size) = some vs.length) (hs : o + vs.length ≤ cs.length) (h1 : ∀ u ∈ vs, u.oneCell' = true)
    (h : ∀ w', Bxo w' g ty (spl cs o vs) → Only g w w' → wpList P ops Q rest (a.put op.dst undef) w') : wpList P ops Q (op :: rest) a w :=
  BigFrame.wpList_want hgd fun _ hK => by
    unfold Oper.wp execOp
    simp only [ho, hx, hy, Instr.storeAt, Instr.sureAddr, Sem.run_bind, Sem.run_pure, Result.andThen_ok, run_storeVar_any w g o ty sty cs vs v hv hc hi hs h1]
    obtain ⟨h2, h3⟩ := Bxo.setCells vs o cs w hc
    exact hK _ _ (h _ h2 h3)
theorem step_store_any {op : Oper} {a : Act} {w : World} {K : Act → World → Prop} {Q : Exit → Act → World → Prop} (sty : TypeId) (x y : Operand) (ho : op.op = .store sty x y)
    (g o : Nat) (ty : TypeId) (cs vs : List Value) (v : Value) (hx : a.eval x = .pointer (some ⟨g, o, none⟩)) (hy : a.eval y = v) (hv : v.cells = vs.toArray) (hc : Bxo w g ty cs)
    (hi : (P.info? sty).map (·.size) = some vs.length) (hs : o + vs.length ≤ cs.length) (h1 : ∀ u ∈ vs, u.oneCell' = true)
    (h : ∀ w', Bxo w' g ty (spl cs o vs) → Only g w w' → K (a.put op.dst undef) w') : op.wp P a w K Q := by
  unfold Oper.wp execOp
  simp only [ho, hx, hy, Instr.storeAt, Instr.sureAddr, Sem.run_bind, Sem.run_pure, Result.andThen_ok, run_storeVar_any w g o ty sty cs vs v hv hc hi hs h1]
  obtain ⟨h2, h3⟩ := Bxo.setCells vs o cs w hc
  exact h _ h2 h3
theorem Bxo.mid {w : World} {g : Nat} {ty : TypeId} {cs : List Value} (h : Bxo w g ty cs) (o : Nat) (vs : List Value) (hs : ∀ j v, vs[j]? = some v → cs[o + j]? = some v) : ∀ j v, vs[j]? = some v → w.cell? ((⟨g, o, none⟩ : Addr).add j) = some v := fun j v hj => by
  rw [Addr.add_mid]; exact h.cell _ (hs j v hj)
theorem sub_get {cs vs : List Value} {o : Nat} (h : (cs.drop o).take vs.length = vs) : ∀ j v, vs[j]? = some v → cs[o + j]? = some v := fun j v hj => by
  rw [← List.getElem?_drop]
  have hl := (List.getElem?_eq_some_iff.1 hj).1
  rw [← h, List.getElem?_take, if_pos hl] at hj
  exact hj
theorem step_load_at {op : Oper} {a : Act} {w : World} {K : Act → World → Prop} {Q : Exit → Act → World → Prop} (ty : TypeId) (x : Operand) (ho : op.op = .load ty x)
    (ad : Addr) (hx : a.eval x = .pointer (some ad)) (cs : List Value) (d : TypeDesc) (hc : ∀ j v, cs[j]? = some v → w.cell? (ad.add j) = some v)
    (hu : P.underlying ty = some d) (hd : d.isRow = true) (hi : (P.info? ty).map (·.size) = some cs.length)
    (h : K (a.put op.dst (.agg cs.toArray)) w) : op.wp P a w K Q := by
  unfold Oper.wp execOp
  simp only [ho, hx, Instr.loadAt, Instr.sureAddr, Sem.run_bind, Sem.run_pure, Result.andThen_ok, run_loadVar_at w ad ty cs d hc hu hd hi]
  exact h
end
end Go.Proofs.Ytmblkgnjcmneeaa

/- Results out of blocks: two structs and two plain ones; a struct and two plain ones. No condition. -/
namespace Go.Proofs.Ytmblkgnjcmneeaa
open Go.ChangeShapes Go.WideShapes Go.ChangeAt Go.RowKit
set_option linter.unusedVariables false

section
variable {P : Program}
theorem results_cctt {fn : Func} {p q u v : Tmp} {t1 t2 : TypeId} (h : fn.results = #[.cell p t1, .cell q t2, .tmp u, .tmp v]) (tmps : Array Value) (w : World) (g1 g2 : Nat) (c1 c2 : List Value) (d1 d2 : TypeDesc)
    (hp : tmps.getD p undef = .pointer (some ⟨g1, 0, none⟩)) (hq : tmps.getD q undef = .pointer (some ⟨g2, 0, none⟩)) (h1 : Bxo w g1 t1 c1) (h2 : Bxo w g2 t2 c2)
    (u1 : P.underlying t1 = some d1) (r1 : (match d1 with | .struct _ | .array _ _ => true | _ => false) = true) (i1 : (P.info? t1).map (·.size) = some c1.length)
    (u2 : P.underlying t2 = some d2) (r2 : (match d2 with | .struct _ | .array _ _ => true | _ => false) = true) (i2 : (P.info? t2).map (·.size) = some c2.length) :
    (results fn tmps).run P w = .ok (.tuple #[.agg c1.toArray, .agg c2.toArray, tmps.getD u undef, tmps.getD v undef]) w := by
  have hp' : tmps[p]?.getD undef = .pointer (some ⟨g1, 0, none⟩) := by simpa using hp
  have hq' : tmps[q]?.getD undef = .pointer (some ⟨g2, 0, none⟩) := by simpa using hq
  have e1 := run_loadVar_row (P := P) w g1 t1 t1 c1.toArray (0, 0) d1 h1 u1 r1 (by simpa using i1)
  have e2 := run_loadVar_row (P := P) w g2 t2 t2 c2.toArray (0, 0) d2 h2 u2 r2 (by simpa using i2)
  simp [results, h, hp', hq', asAddr, e1, e2]
theorem results_ctt {fn : Func} {p u v : Tmp} {t1 : TypeId} (h : fn.results = #[.cell p t1, .tmp u, .tmp v]) (tmps : Array Value) (w : World) (g1 : Nat) (c1 : List Value) (d1 : TypeDesc)
    (hp : tmps.getD p undef = .pointer (some ⟨g1, 0, none⟩)) (h1 : Bxo w g1 t1 c1)
    (u1 : P.underlying t1 = some d1) (r1 : (match d1 with | .struct _ | .array _ _ => true | _ => false) = true) (i1 : (P.info? t1).map (·.size) = some c1.length) :
    (results fn tmps).run P w = .ok (.tuple #[.agg c1.toArray, tmps.getD u undef, tmps.getD v undef]) w := by
  have hp' : tmps[p]?.getD undef = .pointer (some ⟨g1, 0, none⟩) := by simpa using hp
  have e1 := run_loadVar_row (P := P) w g1 t1 t1 c1.toArray (0, 0) d1 h1 u1 r1 (by simpa using i1)
  simp [results, h, hp', asAddr, e1]
end
end Go.Proofs.Ytmblkgnjcmneeaa

/- Pools of packets that are put together: plain mathematics. No condition beyond bounds. -/
namespace Go.Proofs.Ytmblkgnjcmneeaa
open Go.RowKit
set_option linter.unusedVariables false

structure Rn where
  off : Int
  data : List UInt8
structure Bf where
  src : Int
  dst : Int
  id : Int
  proto : Int
  born : Int
  head : Pk
  first : Bool
  total : Int
  runs : List Rn
structure Po where
  room : Int
  life : Int
  now : Int
  list : List Bf
def stopR (r : Rn) : Int := r.off + (r.data.length : Int)
/-- a packet's name. -/
def nmB (b : Bf) : Int × Int × Int × Int := (b.src, b.dst, b.id, b.proto)
def nmX (x : Pk) : Int × Int × Int × Int := (x.src, x.dst, x.id, x.proto)
def oneN (b : Bf) (x : Pk) : Bool := b.src == x.src && (b.dst == x.dst && (b.id == x.id && b.proto == x.proto))
theorem oneN_iff (b : Bf) (x : Pk) : oneN b x = true ↔ nmB b = nmX x := by
  unfold oneN nmB nmX
  simp only [Bool.and_eq_true, beq_iff_eq, Prod.mk.injEq]
/-- how many bytes runs have, a packet's, a pool's. -/
def heldR : List Rn → Nat
  | [] => 0
  | r :: t => r.data.length + heldR t
def heldL : List Bf → Nat
  | [] => 0
  | b :: t => heldR b.runs + heldL t
def heldP (p : Po) : Nat := heldL p.list
/-- runs in their order. -/
structure RunOk (total lo : Int) (r : Rn) : Prop where
  lo : lo ≤ r.off
  len : 0 < r.data.length
  m8 : r.off % 8 = 0
  top : stopR r ≤ 65535
  tot : 0 < total → stopR r ≤ total
def RunsOk (total : Int) : Int → List Rn → Prop
  | _, [] => True
  | lo, r :: t => RunOk total lo r ∧ RunsOk total (stopR r) t
def runB (total lo : Int) (r : Rn) : Bool := decide (lo ≤ r.off) && (decide (0 < r.data.length) && (decide (r.off % 8 = 0) && (decide (stopR r ≤ 65535) && (!decide (0 < total) || decide (stopR r ≤ total)))))
theorem runB_iff (total lo : Int) (r : Rn) : runB total lo r = true ↔ RunOk total lo r := by
  unfold runB
  simp only [Bool.and_eq_true, Bool.or_eq_true, Bool.not_eq_true', decide_eq_true_eq, decide_eq_false_iff_not]
  constructor
  · rintro ⟨a, b, c, d, e⟩
    exact ⟨a, b, c, d, fun h => e.resolve_left (fun n => n h)⟩
  · rintro ⟨a, b, c, d, e⟩
    refine ⟨a, b, c, d, ?_⟩
    by_cases h : 0 < total
    · exact .inr (e h)
    · exact .inl h
def runsB (total : Int) : Int → List Rn → Bool
  | _, [] => true
  | lo, r :: t => runB total lo r && runsB total (stopR r) t
theorem runsB_iff (total : Int) : ∀ (l : List Rn) (lo : Int), runsB total lo l = true ↔ RunsOk total lo l
  | [], lo => by simp [runsB, RunsOk]
  | r :: t, lo => by
    unfold runsB RunsOk
    rw [Bool.and_eq_true, runB_iff, runsB_iff total t]
def firstR : List Rn → Bool
  | [] => false
  | r :: _ => r.off == 0
def sameE (h : Pk) : Bool := sameB h Pk.empty
/-- a packet that is put together is right. -/
structure GoodB (b : Bf) (now : Int) : Prop where
  b0 : 0 ≤ b.born
  b1 : b.born ≤ now
  some : b.runs ≠ []
  t0 : b.total = -1 ∨ 1 ≤ b.total
  t1 : b.total ≤ 65535
  runs : RunsOk b.total 0 b.runs
  first : b.first = firstR b.runs
  opts : b.head.opts.length ≤ 40
  hbody : b.head.body = []
  hmf : b.head.mf = false
  hoff : b.head.off = 0
  hemp : b.first = true ∨ b.head = Pk.empty
def goodB (b : Bf) (now : Int) : Bool :=
  decide (0 ≤ b.born) && (decide (b.born ≤ now) && (decide (0 < b.runs.length) && ((decide (b.total = -1) || decide (1 ≤ b.total)) && (decide (b.total ≤ 65535) && (runsB b.total 0 b.runs && ((b.first == firstR b.runs) && (decide (b.head.opts.length ≤ 40) && (decide (b.head.body.length = 0) && (!b.head.mf && (decide (b.head.off = 0) && (b.first || sameE b.head)))))))))))
theorem goodB_iff (b : Bf) (now : Int) : goodB b now = true ↔ GoodB b now := by
  unfold goodB sameE
  simp only [Bool.and_eq_true, Bool.or_eq_true, Bool.not_eq_true', decide_eq_true_eq, beq_iff_eq, runsB_iff, sameB_iff, List.length_eq_zero_iff, List.length_pos_iff]
  constructor
  · rintro ⟨a, b, c, d, e, f, g, h, i, j, k, l⟩
    exact ⟨a, b, c, d, e, f, g, h, i, j, k, l⟩
  · intro h
    exact ⟨h.b0, h.b1, h.some, h.t0, h.t1, h.runs, h.first, h.opts, h.hbody, h.hmf, h.hoff, h.hemp⟩
/-- a pool is right. -/
structure RightP (p : Po) : Prop where
  r0 : 1 ≤ p.room
  r1 : p.room ≤ 1048576
  l0 : 1 ≤ p.life
  l1 : p.life ≤ 1048576
  n0 : 0 ≤ p.now
  n1 : p.now ≤ 1099511627776
  few : p.list.length ≤ 64
  good : ∀ b ∈ p.list, GoodB b p.now
  names : (p.list.map nmB).Nodup
  fits : (heldP p : Int) ≤ p.room
def rightP (p : Po) : Bool :=
  decide (1 ≤ p.room) && (decide (p.room ≤ 1048576) && (decide (1 ≤ p.life) && (decide (p.life ≤ 1048576) && (decide (0 ≤ p.now) && (decide (p.now ≤ 1099511627776) && (decide (p.list.length ≤ 64) && (p.list.all (fun b => goodB b p.now) && (decide (p.list.map nmB).Nodup && decide ((heldP p : Int) ≤ p.room)))))))))
theorem rightP_iff (p : Po) : rightP p = true ↔ RightP p := by
  unfold rightP
  simp only [Bool.and_eq_true, decide_eq_true_eq, List.all_eq_true, goodB_iff]
  constructor
  · rintro ⟨a, b, c, d, e, f, g, h, i, j⟩
    exact ⟨a, b, c, d, e, f, g, h, i, j⟩
  · intro h
    exact ⟨h.r0, h.r1, h.l0, h.l1, h.n0, h.n1, h.few, h.good, h.names, h.fits⟩

/-- a run among the others, by its place. -/
def insR : List Rn → Rn → List Rn
  | [], r => [r]
  | a :: t, r => if r.off < a.off then r :: a :: t else a :: insR t r
theorem insR_ne (l : List Rn) (r : Rn) : insR l r ≠ [] := by cases l <;> simp [insR]; split <;> simp
theorem heldR_ins (r : Rn) : ∀ l : List Rn, heldR (insR l r) = heldR l + r.data.length
  | [] => by simp [insR, heldR]
  | a :: t => by
    unfold insR
    split
    · simp only [heldR]; omega
    · simp only [heldR, heldR_ins r t]; omega
/-- two runs that overlap. -/
def overR (a r : Rn) : Prop := a.off < stopR r ∧ r.off < stopR a
theorem runs_ins (total : Int) (r : Rn) : ∀ (l : List Rn) (lo : Int), RunsOk total lo l → RunOk total lo r → (∀ a ∈ l, ¬ overR a r) → RunsOk total lo (insR l r)
  | [], lo, _, h, _ => ⟨h, trivial⟩
  | a :: t, lo, hl, h, ho => by
    obtain ⟨ha, ht⟩ := hl
    have ho1 := ho a (by simp)
    unfold overR at ho1
    have la := ha.len
    have lr := h.len
    unfold insR
    split
    · rename_i hlt
      have e : stopR r ≤ a.off := by
        unfold stopR at ho1 ⊢; omega
      exact ⟨h, ⟨e, ha.len, ha.m8, ha.top, ha.tot⟩, ht⟩
    · rename_i hlt
      have e : stopR a ≤ r.off := by
        unfold stopR at ho1 ⊢; omega
      exact ⟨ha, runs_ins total r t (stopR a) ht ⟨e, h.len, h.m8, h.top, h.tot⟩ (fun b hb => ho b (by simp [hb]))⟩
/-- where the packet ends doesn't matter, if all runs end ahead. -/
theorem runs_total (t' : Int) : ∀ (l : List Rn) (total lo : Int), RunsOk total lo l → (∀ a ∈ l, stopR a ≤ t') → RunsOk t' lo l
  | [], _, _, _, _ => trivial
  | a :: t, total, lo, ⟨ha, ht⟩, h => ⟨⟨ha.lo, ha.len, ha.m8, ha.top, fun _ => h a (by simp)⟩, runs_total t' t total _ ht (fun b hb => h b (by simp [hb]))⟩
theorem runs_lo (total : Int) : ∀ (l : List Rn) (lo : Int), RunsOk total lo l → ∀ a ∈ l, lo ≤ a.off ∧ 0 < a.data.length
  | [], _, _, a, h => by cases h
  | b :: t, lo, ⟨hb, ht⟩, a, h => by
    rcases List.mem_cons.1 h with rfl | h
    · exact ⟨hb.lo, hb.len⟩
    · have := runs_lo total t (stopR b) ht a h
      have h1 := hb.lo
      unfold stopR at this
      exact ⟨by omega, this.2⟩
theorem first_ins (total : Int) (l : List Rn) (r : Rn) (hl : RunsOk total 0 l) (h : RunOk total 0 r) (ho : ∀ a ∈ l, ¬ overR a r) : firstR (insR l r) = (firstR l || r.off == 0) := by
  cases l with
  | nil => simp [insR, firstR]
  | cons a t =>
    obtain ⟨ha, ht⟩ := hl
    have ho1 := ho a (by simp)
    unfold overR stopR at ho1
    have la := ha.len
    have lr := h.len
    have a0 := ha.lo
    have r0 := h.lo
    unfold insR
    split
    · rename_i hlt
      have : (a.off == 0) = false := by simp; omega
      simp [firstR, this]
    · rename_i hlt
      have : (r.off == 0) = false := by simp; omega
      simp [firstR, this]

/-- it clashes with what is there. -/
def clashB (b : Bf) (x : Pk) : Bool :=
  (decide (0 < b.total) && (!x.mf || decide (b.total < x.off + (x.body.length : Int)))) ||
    b.runs.any (fun r => (decide (r.off < x.off + (x.body.length : Int)) && decide (x.off < stopR r)) || (!x.mf && decide (x.off + (x.body.length : Int) < stopR r)))
theorem clash_no {b : Bf} {x : Pk} (h : clashB b x = false) : (0 < b.total → x.mf = true ∧ x.off + (x.body.length : Int) ≤ b.total) ∧ (∀ r ∈ b.runs, ¬ overR r ⟨x.off, x.body⟩) ∧ (x.mf = false → ∀ r ∈ b.runs, stopR r ≤ x.off + (x.body.length : Int)) := by
  unfold clashB at h
  rw [Bool.or_eq_false_iff] at h
  obtain ⟨h1, h2⟩ := h
  rw [List.any_eq_false] at h2
  refine ⟨fun h => ?_, fun r hr => ?_, fun hm r hr => ?_⟩
  · rw [decide_eq_true h, Bool.true_and, Bool.or_eq_false_iff] at h1
    obtain ⟨a, b⟩ := h1
    exact ⟨by simpa using a, by simpa using b⟩
  · have := h2 r hr
    simp only [Bool.or_eq_true, Bool.and_eq_true, decide_eq_true_eq, not_or] at this
    unfold overR
    exact this.1
  · have := h2 r hr
    simp only [Bool.or_eq_true, Bool.and_eq_true, decide_eq_true_eq, not_or, Bool.not_eq_true'] at this
    have := this.2
    simp [hm] at this
    exact this
/-- the packet with the piece. -/
def joinB (b : Bf) (x : Pk) : Bf :=
  ⟨b.src, b.dst, b.id, b.proto, b.born, if x.off = 0 then ⟨x.tos, x.id, x.df, false, x.off, x.ttl, x.proto, x.src, x.dst, x.opts, []⟩ else b.head, b.first || x.off == 0, if x.mf then b.total else x.off + (x.body.length : Int), insR b.runs ⟨x.off, x.body⟩⟩
def newB (p : Po) (x : Pk) : Bf := ⟨x.src, x.dst, x.id, x.proto, p.now, Pk.empty, false, -1, []⟩
/-- the bytes from 0 on that are there. -/
def bodyR : List Rn → List UInt8 → List UInt8
  | [], acc => acc
  | r :: t, acc => if r.off = (acc.length : Int) then bodyR t (acc ++ r.data) else acc
/-- what Take answers. -/
structure Tk where
  pool : Po
  out : Pk
  ok : Bool
  err : Int
def withoutP (p : Po) (x : Pk) : Po := ⟨p.room, p.life, p.now, p.list.filter (fun b => !oneN b x)⟩
def putL (l : List Bf) (x : Pk) (b : Bf) : List Bf := l.map (fun a => if oneN a x then b else a)
def ownP (p : Po) (x : Pk) : Bf := (p.list.find? (fun b => oneN b x)).getD (newB p x)
def thereP (p : Po) (x : Pk) : Bool := (p.list.find? (fun b => oneN b x)).isSome
def withP (p : Po) (x : Pk) : Po := ⟨p.room, p.life, p.now, if thereP p x then putL p.list x (joinB (ownP p x) x) else p.list ++ [joinB (ownP p x) x]⟩
def takeP (p : Po) (x : Pk) : Tk :=
  if x.mf = false ∧ x.off = 0 then ⟨p, x, true, 0⟩
  else if rightP p = false ∨ mayB x = false ∨ x.body.length = 0 then ⟨p, Pk.empty, false, 1⟩
  else if clashB (ownP p x) x = true then ⟨withoutP p x, Pk.empty, false, 7⟩
  else if (thereP p x = false ∧ 64 ≤ p.list.length) ∨ p.room < (heldP p : Int) + (x.body.length : Int) then ⟨p, Pk.empty, false, 8⟩
  else if (joinB (ownP p x) x).total < 0 ∨ ((bodyR (joinB (ownP p x) x).runs []).length : Int) ≠ (joinB (ownP p x) x).total then ⟨withP p x, Pk.empty, false, 0⟩
  else
    let h := (joinB (ownP p x) x).head
    let out : Pk := ⟨h.tos, h.id, h.df, h.mf, h.off, h.ttl, h.proto, h.src, h.dst, h.opts, bodyR (joinB (ownP p x) x).runs []⟩
    if mayB out = true then ⟨withoutP p x, out, true, 0⟩ else ⟨withoutP p x, Pk.empty, false, 7⟩
/-- what Tick answers. -/
def tickP (p : Po) (now : Int) : Po × Int × Int :=
  if rightP p = false ∨ now < p.now ∨ 1099511627776 < now then (p, 0, 1)
  else (⟨p.room, p.life, now, p.list.filter (fun b => decide (now < b.born + p.life))⟩, (p.list.length : Int) - ((p.list.filter (fun b => decide (now < b.born + p.life))).length : Int), 0)

theorem heldL_filter (f : Bf → Bool) : ∀ l : List Bf, heldL (l.filter f) ≤ heldL l
  | [] => Nat.le_refl _
  | b :: t => by
    have := heldL_filter f t
    rw [List.filter_cons]
    split
    · simp only [heldL]; omega
    · simp only [heldL]; omega
theorem good_later {b : Bf} {now now' : Int} (h : GoodB b now) (hn : now ≤ now') : GoodB b now' := ⟨h.b0, Int.le_trans h.b1 hn, h.some, h.t0, h.t1, h.runs, h.first, h.opts, h.hbody, h.hmf, h.hoff, h.hemp⟩
theorem right_filter {p : Po} (h : RightP p) (f : Bf → Bool) (now : Int) (h0 : p.now ≤ now) (h1 : now ≤ 1099511627776) : RightP ⟨p.room, p.life, now, p.list.filter f⟩ := by
  refine ⟨h.r0, h.r1, h.l0, h.l1, Int.le_trans h.n0 h0, h1, Nat.le_trans (List.length_filter_le _ _) h.few, fun b hb => good_later (h.good b (List.mem_filter.1 hb).1) h0, ?_, ?_⟩
  · exact (List.filter_sublist.map nmB).nodup h.names
  · have := heldL_filter f p.list
    have hf := h.fits
    unfold heldP at hf ⊢
    show (heldL (p.list.filter f) : Int) ≤ p.room
    omega
theorem right_without {p : Po} (h : RightP p) (x : Pk) : RightP (withoutP p x) := right_filter h _ p.now (Int.le_refl _) h.n1
/-- a right pool stays right as time goes on, and holds no more. -/
theorem tick_right {p : Po} (h : RightP p) {now : Int} (h0 : p.now ≤ now) (h1 : now ≤ 1099511627776) : (tickP p now).2.2 = 0 ∧ RightP (tickP p now).1 ∧ (tickP p now).1.now = now ∧ (tickP p now).1.life = p.life ∧ (tickP p now).1.room = p.room ∧ heldP (tickP p now).1 ≤ heldP p ∧ (∀ b ∈ (tickP p now).1.list, b ∈ p.list ∧ now - b.born < p.life) := by
  have e : tickP p now = (⟨p.room, p.life, now, p.list.filter (fun b => decide (now < b.born + p.life))⟩, (p.list.length : Int) - ((p.list.filter (fun b => decide (now < b.born + p.life))).length : Int), 0) := by
    unfold tickP
    rw [if_neg]
    rintro (h' | h' | h')
    · rw [(rightP_iff p).2 h] at h'; cases h'
    · omega
    · omega
  rw [e]
  refine ⟨rfl, right_filter h _ now h0 h1, rfl, rfl, rfl, heldL_filter _ _, fun b hb => ?_⟩
  have := List.mem_filter.1 hb
  refine ⟨this.1, ?_⟩
  have := this.2
  simp only [decide_eq_true_eq] at this
  omega
end Go.Proofs.Ytmblkgnjcmneeaa

/- Packets, runs and packets that are put together in memory: slices that read as lists of them. -/
namespace Go.Proofs.Ytmblkgnjcmneeaa
open Go.ChangeShapes Go.WideShapes Go.ChangeAt Go.RowKit
set_option linter.unusedVariables false

/-- a cell so far behind another one. -/
theorem add_at (ad : Addr) (k i : Nat) (h : 0 < i) : ad.add (k + i) = { block := (ad.add k).block, off := (ad.add k).off + i } := by
  unfold Addr.add
  by_cases hk : k = 0
  · subst hk; simp [Nat.ne_of_gt h]
  · simp [hk, Nat.add_assoc]
/-- cells of these blocks are as they were. -/
def KeepV (V : Nat → Prop) (w w' : World) : Prop := ∀ p : Addr, V p.block → w'.cell? p = w.cell? p
/-- the blocks of a world; what a call adds to some blocks. -/
abbrev oldV (w : World) : Nat → Prop := fun b => b < w.heap.size
abbrev growV (V : Nat → Prop) (w w' : World) : Nat → Prop := fun b => V b ∨ (w.heap.size ≤ b ∧ b < w'.heap.size)
section
variable {V V' : Nat → Prop} {w w' w'' : World} {B : Nat}
theorem KeepV.refl : KeepV V w w := fun _ _ => rfl
theorem KeepV.trans (h : KeepV V w w') (h' : KeepV V w' w'') : KeepV V w w'' := fun p hp => (h' p hp).trans (h p hp)
theorem KeepV.less (h : KeepV V w w') (hV : ∀ b, V' b → V b) : KeepV V' w w' := fun p hp => h p (hV _ hp)
theorem KeepV.of (hb : Below B w w') (hV : ∀ b, V b → b < B) : KeepV V w w' := fun p hp => hb.cell (hV _ hp)
theorem KeepV.setCell (h : KeepV V w w') {p : Addr} (hp : ¬ V p.block) (u : Value) : KeepV V w (w'.setCell p u) := fun a ha =>
  (World.cell?_setCell_other _ _ _ _ (fun e => hp (by first | (rw [← e]; exact ha) | (rw [e]; exact ha)))).trans (h a ha)
end
/-- the slice at A reads as these bytes, in these blocks. -/
def Bv (w : World) (V : Nat → Prop) (A : Option Addr) (l : List UInt8) : Prop :=
  l = [] ∨ ∃ ad, A = some ad ∧ V ad.block ∧ ∀ (j : Nat) (b : UInt8), l[j]? = some b → w.cell? (ad.add j) = some (.int .u8 (b.toNat : Int))
section
variable {V V' : Nat → Prop} {w w' : World} {B : Nat} {A : Option Addr} {l : List UInt8}
theorem Bv.keep (h : Bv w V A l) (hb : KeepV V w w') : Bv w' V A l := by
  rcases h with h | ⟨ad, e, hlt, hc⟩
  · exact .inl h
  · exact .inr ⟨ad, e, hlt, fun j b hj => (hb _ (by rw [block_add]; exact hlt)).trans (hc j b hj)⟩
theorem Bv.more (h : Bv w V A l) (hB : ∀ b, V b → V' b) : Bv w V' A l := by
  rcases h with h | ⟨ad, e, hlt, hc⟩
  · exact .inl h
  · exact .inr ⟨ad, e, hB _ hlt, hc⟩
theorem Bv.bs (h : Bv w V A l) (hV : ∀ b, V b → b < B) : Bs w B A l := by
  rcases h with h | ⟨ad, e, hlt, hc⟩
  · exact .inl h
  · exact .inr ⟨ad, e, hV _ hlt, hc⟩
theorem Bs.bv (h : Bs w B A l) (hV : ∀ b, b < B → V b) : Bv w V A l := by
  rcases h with h | ⟨ad, e, hlt, hc⟩
  · exact .inl h
  · exact .inr ⟨ad, e, hV _ hlt, hc⟩
end
/-- bytes that a field names. -/
structure ByIn (w : World) (V : Nat → Prop) (A : Option Addr) (c : Nat) (l : List UInt8) : Prop where
  len : l.length ≤ c
  cap : c ≤ 9223372036854775807
  nil : A = none → c = 0
  bs : Bv w V A l
section
variable {w w' : World} {V V' : Nat → Prop} {A : Option Addr} {c : Nat} {l : List UInt8}
theorem ByIn.keep (h : ByIn w V A c l) (hb : KeepV V w w') : ByIn w' V A c l := ⟨h.len, h.cap, h.nil, h.bs.keep hb⟩
theorem ByIn.more (h : ByIn w V A c l) (hB : ∀ b, V b → V' b) : ByIn w V' A c l := ⟨h.len, h.cap, h.nil, h.bs.more hB⟩
end
/-- the slice at A reads as these runs, in these blocks. -/
def Rs (w : World) (V : Nat → Prop) (A : Option Addr) (rs : List Rn) : Prop :=
  rs = [] ∨ ∃ ad, A = some ad ∧ V ad.block ∧ ∀ (j : Nat) (r : Rn), rs[j]? = some r → w.cell? (ad.add (j * 2)) = some (.int .i64 r.off) ∧
    ∃ Ad cd, w.cell? (ad.add (j * 2 + 1)) = some (.slice Ad r.data.length cd) ∧ ByIn w V Ad cd r.data
section
variable {w w' : World} {V V' : Nat → Prop} {A : Option Addr} {rs : List Rn}
theorem Rs.keep (h : Rs w V A rs) (hb : KeepV V w w') : Rs w' V A rs := by
  rcases h with h | ⟨ad, e, hlt, hc⟩
  · exact .inl h
  · refine .inr ⟨ad, e, hlt, fun j o hj => ?_⟩
    obtain ⟨h0, Ad, cd, h1, h2⟩ := hc j o hj
    exact ⟨(hb _ (by rw [block_add]; exact hlt)).trans h0, Ad, cd, (hb _ (by rw [block_add]; exact hlt)).trans h1, h2.keep hb⟩
theorem Rs.more (h : Rs w V A rs) (hB : ∀ b, V b → V' b) : Rs w V' A rs := by
  rcases h with h | ⟨ad, e, hlt, hc⟩
  · exact .inl h
  · refine .inr ⟨ad, e, hB _ hlt, fun j o hj => ?_⟩
    obtain ⟨h0, Ad, cd, h1, h2⟩ := hc j o hj
    exact ⟨h0, Ad, cd, h1, h2.more hB⟩
theorem Rs.take (h : Rs w V A rs) (k : Nat) : Rs w V A (rs.take k) := by
  rcases h with h | ⟨ad, e, hlt, hc⟩
  · exact .inl (by rw [h]; simp)
  · exact .inr ⟨ad, e, hlt, fun j o hj => hc j o (by rw [List.getElem?_take] at hj; split at hj <;> simp_all)⟩
theorem Rs.at_ (h : Rs w V A rs) {k : Nat} (hk : k < rs.length) :
    ∃ ad Ad cd, A = some ad ∧ V ad.block ∧ w.cell? (ad.add (k * 2)) = some (.int .i64 rs[k].off) ∧ w.cell? { block := (ad.add (k * 2)).block, off := (ad.add (k * 2)).off + 1 } = some (.slice Ad rs[k].data.length cd) ∧ ByIn w V Ad cd rs[k].data := by
  rcases h with h | ⟨ad, e, hlt, hc⟩
  · subst h; simp at hk
  · obtain ⟨h0, Ad, cd, h1, h2⟩ := hc k _ (List.getElem?_eq_getElem hk)
    rw [add_at ad (k * 2) 1 (by omega)] at h1
    exact ⟨ad, Ad, cd, e, hlt, h0, h1, h2⟩
theorem Rs.nil_ : Rs w V A [] := .inl rfl
end
/-- eleven cells from a place on are a packet. -/
structure PkCells (w : World) (V : Nat → Prop) (ad : Addr) (k : Nat) (p : Pk) (Ao : Option Addr) (co : Nat) (Ab : Option Addr) (cb : Nat) : Prop where
  s0 : 0 ≤ p.src
  s1 : p.src ≤ 4294967295
  d0 : 0 ≤ p.dst
  d1 : p.dst ≤ 4294967295
  c0 : w.cell? (ad.add k) = some (.int .i64 p.tos)
  c1 : w.cell? (ad.add (k + 1)) = some (.int .i64 p.id)
  c2 : w.cell? (ad.add (k + 2)) = some (.bool p.df)
  c3 : w.cell? (ad.add (k + 3)) = some (.bool p.mf)
  c4 : w.cell? (ad.add (k + 4)) = some (.int .i64 p.off)
  c5 : w.cell? (ad.add (k + 5)) = some (.int .i64 p.ttl)
  c6 : w.cell? (ad.add (k + 6)) = some (.int .i64 p.proto)
  c7 : w.cell? (ad.add (k + 7)) = some (.int .u32 p.src)
  c8 : w.cell? (ad.add (k + 8)) = some (.int .u32 p.dst)
  c9 : w.cell? (ad.add (k + 9)) = some (.slice Ao p.opts.length co)
  c10 : w.cell? (ad.add (k + 10)) = some (.slice Ab p.body.length cb)
  o : ByIn w V Ao co p.opts
  b : ByIn w V Ab cb p.body
section
variable {w w' : World} {V V' : Nat → Prop} {ad : Addr} {k : Nat} {p : Pk} {Ao : Option Addr} {co : Nat} {Ab : Option Addr} {cb : Nat}
theorem PkCells.keep (h : PkCells w V ad k p Ao co Ab cb) (hb : KeepV V w w') (hlt : V ad.block) : PkCells w' V ad k p Ao co Ab cb := by
  have q : ∀ (i : Nat) (v : Value), w.cell? (ad.add i) = some v → w'.cell? (ad.add i) = some v := fun i v e => (hb _ (by rw [block_add]; exact hlt)).trans e
  exact ⟨h.s0, h.s1, h.d0, h.d1, q _ _ h.c0, q _ _ h.c1, q _ _ h.c2, q _ _ h.c3, q _ _ h.c4, q _ _ h.c5, q _ _ h.c6, q _ _ h.c7, q _ _ h.c8, q _ _ h.c9, q _ _ h.c10, h.o.keep hb, h.b.keep hb⟩
theorem PkCells.more (h : PkCells w V ad k p Ao co Ab cb) (hB : ∀ b, V b → V' b) : PkCells w V' ad k p Ao co Ab cb :=
  ⟨h.s0, h.s1, h.d0, h.d1, h.c0, h.c1, h.c2, h.c3, h.c4, h.c5, h.c6, h.c7, h.c8, h.c9, h.c10, h.o.more hB, h.b.more hB⟩
end
/-- the slice at A reads as these packets, in these blocks. -/
def Ps (w : World) (V : Nat → Prop) (A : Option Addr) (xs : List Pk) : Prop :=
  xs = [] ∨ ∃ ad, A = some ad ∧ V ad.block ∧ ∀ (j : Nat) (p : Pk), xs[j]? = some p → ∃ Ao co Ab cb, PkCells w V ad (j * 11) p Ao co Ab cb
section
variable {w w' : World} {V V' : Nat → Prop} {A : Option Addr} {xs : List Pk}
theorem Ps.keep (h : Ps w V A xs) (hb : KeepV V w w') : Ps w' V A xs := by
  rcases h with h | ⟨ad, e, hlt, hc⟩
  · exact .inl h
  · refine .inr ⟨ad, e, hlt, fun j o hj => ?_⟩
    obtain ⟨Ao, co, Ab, cb, h1⟩ := hc j o hj
    exact ⟨Ao, co, Ab, cb, h1.keep hb hlt⟩
theorem Ps.more (h : Ps w V A xs) (hB : ∀ b, V b → V' b) : Ps w V' A xs := by
  rcases h with h | ⟨ad, e, hlt, hc⟩
  · exact .inl h
  · refine .inr ⟨ad, e, hB _ hlt, fun j o hj => ?_⟩
    obtain ⟨Ao, co, Ab, cb, h1⟩ := hc j o hj
    exact ⟨Ao, co, Ab, cb, h1.more hB⟩
theorem Ps.nil_ : Ps w V A [] := .inl rfl
end
/-- nineteen cells from a place on are a packet that is put together. -/
structure BfCells (w : World) (V : Nat → Prop) (ad : Addr) (k : Nat) (b : Bf) (Ao : Option Addr) (co : Nat) (Ab : Option Addr) (cb : Nat) (Ar : Option Addr) (cr : Nat) : Prop where
  s0 : 0 ≤ b.src
  s1 : b.src ≤ 4294967295
  d0 : 0 ≤ b.dst
  d1 : b.dst ≤ 4294967295
  c0 : w.cell? (ad.add k) = some (.int .u32 b.src)
  c1 : w.cell? (ad.add (k + 1)) = some (.int .u32 b.dst)
  c2 : w.cell? (ad.add (k + 2)) = some (.int .i64 b.id)
  c3 : w.cell? (ad.add (k + 3)) = some (.int .i64 b.proto)
  c4 : w.cell? (ad.add (k + 4)) = some (.int .i64 b.born)
  head : PkCells w V ad (k + 5) b.head Ao co Ab cb
  c16 : w.cell? (ad.add (k + 16)) = some (.bool b.first)
  c17 : w.cell? (ad.add (k + 17)) = some (.int .i64 b.total)
  c18 : w.cell? (ad.add (k + 18)) = some (.slice Ar b.runs.length cr)
  rlen : b.runs.length ≤ cr
  rcap : cr ≤ 9223372036854775807
  rnil : Ar = none → cr = 0
  runs : Rs w V Ar b.runs
section
variable {w w' : World} {V V' : Nat → Prop} {ad : Addr} {k : Nat} {b : Bf} {Ao : Option Addr} {co : Nat} {Ab : Option Addr} {cb : Nat} {Ar : Option Addr} {cr : Nat}
theorem BfCells.keep (h : BfCells w V ad k b Ao co Ab cb Ar cr) (hb : KeepV V w w') (hlt : V ad.block) : BfCells w' V ad k b Ao co Ab cb Ar cr := by
  have q : ∀ (i : Nat) (v : Value), w.cell? (ad.add i) = some v → w'.cell? (ad.add i) = some v := fun i v e => (hb _ (by rw [block_add]; exact hlt)).trans e
  exact ⟨h.s0, h.s1, h.d0, h.d1, q _ _ h.c0, q _ _ h.c1, q _ _ h.c2, q _ _ h.c3, q _ _ h.c4, h.head.keep hb hlt, q _ _ h.c16, q _ _ h.c17, q _ _ h.c18, h.rlen, h.rcap, h.rnil, h.runs.keep hb⟩
theorem BfCells.more (h : BfCells w V ad k b Ao co Ab cb Ar cr) (hB : ∀ b, V b → V' b) : BfCells w V' ad k b Ao co Ab cb Ar cr :=
  ⟨h.s0, h.s1, h.d0, h.d1, h.c0, h.c1, h.c2, h.c3, h.c4, h.head.more hB, h.c16, h.c17, h.c18, h.rlen, h.rcap, h.rnil, h.runs.more hB⟩
end
/-- the slice at A reads as these packets that are put together, in these blocks. -/
def Fs (w : World) (V : Nat → Prop) (A : Option Addr) (bs : List Bf) : Prop :=
  bs = [] ∨ ∃ ad, A = some ad ∧ V ad.block ∧ ∀ (j : Nat) (b : Bf), bs[j]? = some b → ∃ Ao co Ab cb Ar cr, BfCells w V ad (j * 19) b Ao co Ab cb Ar cr
section
variable {w w' : World} {V V' : Nat → Prop} {A : Option Addr} {bs : List Bf}
theorem Fs.keep (h : Fs w V A bs) (hb : KeepV V w w') : Fs w' V A bs := by
  rcases h with h | ⟨ad, e, hlt, hc⟩
  · exact .inl h
  · refine .inr ⟨ad, e, hlt, fun j o hj => ?_⟩
    obtain ⟨Ao, co, Ab, cb, Ar, cr, h1⟩ := hc j o hj
    exact ⟨Ao, co, Ab, cb, Ar, cr, h1.keep hb hlt⟩
theorem Fs.more (h : Fs w V A bs) (hB : ∀ b, V b → V' b) : Fs w V' A bs := by
  rcases h with h | ⟨ad, e, hlt, hc⟩
  · exact .inl h
  · refine .inr ⟨ad, e, hB _ hlt, fun j o hj => ?_⟩
    obtain ⟨Ao, co, Ab, cb, Ar, cr, h1⟩ := hc j o hj
    exact ⟨Ao, co, Ab, cb, Ar, cr, h1.more hB⟩
theorem Fs.nil_ : Fs w V A [] := .inl rfl
end
section
variable {w : World} {V : Nat → Prop} {A : Option Addr}
theorem Ps.at_ {xs : List Pk} (h : Ps w V A xs) {k : Nat} (hk : k < xs.length) : ∃ ad Ao co Ab cb, A = some ad ∧ V ad.block ∧ PkCells w V ad (k * 11) xs[k] Ao co Ab cb := by
  rcases h with h | ⟨ad, e, hlt, hc⟩
  · subst h; simp at hk
  · obtain ⟨Ao, co, Ab, cb, h0⟩ := hc k _ (List.getElem?_eq_getElem hk)
    exact ⟨ad, Ao, co, Ab, cb, e, hlt, h0⟩
theorem Fs.at_ {bs : List Bf} (h : Fs w V A bs) {k : Nat} (hk : k < bs.length) : ∃ ad Ao co Ab cb Ar cr, A = some ad ∧ V ad.block ∧ BfCells w V ad (k * 19) bs[k] Ao co Ab cb Ar cr := by
  rcases h with h | ⟨ad, e, hlt, hc⟩
  · subst h; simp at hk
  · obtain ⟨Ao, co, Ab, cb, Ar, cr, h0⟩ := hc k _ (List.getElem?_eq_getElem hk)
    exact ⟨ad, Ao, co, Ab, cb, Ar, cr, e, hlt, h0⟩
end
/-- a cell behind a place, as a walk names it. -/
theorem at_off {w : World} {ad : Addr} {k : Nat} {v : Value} (i : Nat) (h : w.cell? (ad.add (k + i)) = some v) (hi : 0 < i) : w.cell? { block := (ad.add k).block, off := (ad.add k).off + i } = some v := by
  rw [← add_at ad k i hi]; exact h
/- a pool as a value, and in memory. -/
abbrev poV (p : Po) (A_list : Option Addr) (c_list : Nat) : Value := .agg #[.int .i64 p.room, .int .i64 p.life, .int .i64 p.now, .slice A_list p.list.length c_list]
abbrev poO (p : Po) (A_list : Option Addr) (c_list : Nat) : Obj := .cells #[.int .i64 p.room, .int .i64 p.life, .int .i64 p.now, .slice A_list p.list.length c_list] 42
/-- it lies in block b. -/
def poIs (w : World) (b : Nat) (p : Po) (A_list : Option Addr) (c_list : Nat) : Prop := w.cell? ⟨b, 0, none⟩ = some (.int .i64 p.room) ∧ w.cell? ⟨b, 1, none⟩ = some (.int .i64 p.life) ∧ w.cell? ⟨b, 2, none⟩ = some (.int .i64 p.now) ∧ w.cell? ⟨b, 3, none⟩ = some (.slice A_list p.list.length c_list)
section
variable {w w' : World} {b B : Nat} {p : Po} {A_list : Option Addr} {c_list : Nat}
theorem poIs.cells (h : poIs w b p A_list c_list) : w.cell? ⟨b, 0, none⟩ = some (.int .i64 p.room) ∧ w.cell? ⟨b, 1, none⟩ = some (.int .i64 p.life) ∧ w.cell? ⟨b, 2, none⟩ = some (.int .i64 p.now) ∧ w.cell? ⟨b, 3, none⟩ = some (.slice A_list p.list.length c_list) := h
theorem poIs.keep (h : poIs w b p A_list c_list) (hb : Below B w w') (hlt : b < B) : poIs w' b p A_list c_list := by
  obtain ⟨c0, c1, c2, c3⟩ := h
  exact ⟨(hb.cell (p := ⟨b, 0, none⟩) hlt).trans c0, (hb.cell (p := ⟨b, 1, none⟩) hlt).trans c1, (hb.cell (p := ⟨b, 2, none⟩) hlt).trans c2, (hb.cell (p := ⟨b, 3, none⟩) hlt).trans c3⟩
theorem poIs.call (h : poIs w b p A_list c_list) (hb : Below w.heap.size w w') (hlt : b < w.heap.size) : poIs w' b p A_list c_list := h.keep hb hlt
theorem poIs.made : poIs (w.alloc (.cells #[.int .i64 p.room, .int .i64 p.life, .int .i64 p.now, .slice A_list p.list.length c_list] 42)) w.heap.size p A_list c_list := by
  refine ⟨?_, ?_, ?_, ?_⟩ <;> simp [go_sem]
end
structure PoIn (w : World) (V : Nat → Prop) (p : Po) (A : Option Addr) (c : Nat) : Prop where
  len : p.list.length ≤ c
  cap : c ≤ 9223372036854775807
  nil : A = none → c = 0
  fs : Fs w V A p.list
theorem PoIn.keep {w w' : World} {V : Nat → Prop} {p : Po} {A : Option Addr} {c : Nat} (h : PoIn w V p A c) (hb : KeepV V w w') : PoIn w' V p A c := ⟨h.len, h.cap, h.nil, h.fs.keep hb⟩
theorem PoIn.more {w : World} {V V' : Nat → Prop} {p : Po} {A : Option Addr} {c : Nat} (h : PoIn w V p A c) (hB : ∀ b, V b → V' b) : PoIn w V' p A c := ⟨h.len, h.cap, h.nil, h.fs.more hB⟩
/-- .. and these blocks are this world's. -/
structure PoAt (w : World) (V : Nat → Prop) (p : Po) (A : Option Addr) (c : Nat) : Prop where
  is : PoIn w V p A c
  lt : ∀ b, V b → b < w.heap.size
section
variable {w w' : World} {V V' : Nat → Prop} {p : Po} {A : Option Addr} {c : Nat}
theorem PoIn.old (h : PoIn w (oldV w) p A c) : PoAt w (oldV w) p A c := ⟨h, fun _ h => h⟩
theorem PoAt.at (h : PoAt w V p A c) (hb : Below w.heap.size w w') : PoAt w' V p A c := ⟨h.is.keep (KeepV.of hb h.lt), fun b hv => Nat.lt_of_lt_of_le (h.lt b hv) hb.size⟩
theorem PoAt.more (h : PoAt w V p A c) (hV : ∀ b, V b → V' b) (lt : ∀ b, V' b → b < w.heap.size) : PoAt w V' p A c := ⟨h.is.more hV, lt⟩
/-- a store into another block. -/
theorem PoAt.setCell (h : PoAt w V p A c) {ad : Addr} (hn : ¬ V ad.block) (u : Value) : PoAt (w.setCell ad u) V p A c := ⟨h.is.keep (KeepV.refl.setCell hn u), fun b hv => by
  have := h.lt b hv
  simpa [World.setCell] using this⟩
end
/-- a packet as a value. -/
abbrev ipV (x : Pk) (Ao : Option Addr) (co : Nat) (Ab : Option Addr) (cb : Nat) : Value :=
  .agg #[.int .i64 x.tos, .int .i64 x.id, .bool x.df, .bool x.mf, .int .i64 x.off, .int .i64 x.ttl, .int .i64 x.proto, .int .u32 x.src, .int .u32 x.dst, .slice Ao x.opts.length co, .slice Ab x.body.length cb]
/-- a packet's bytes, in these blocks of this world. -/
structure PkAt (w : World) (V : Nat → Prop) (x : Pk) (Ao : Option Addr) (co : Nat) (Ab : Option Addr) (cb : Nat) : Prop where
  s0 : 0 ≤ x.src
  s1 : x.src ≤ 4294967295
  d0 : 0 ≤ x.dst
  d1 : x.dst ≤ 4294967295
  o : ByIn w V Ao co x.opts
  b : ByIn w V Ab cb x.body
  lt : ∀ b, V b → b < w.heap.size
section
variable {w w' : World} {V V' : Nat → Prop} {x : Pk} {Ao : Option Addr} {co : Nat} {Ab : Option Addr} {cb : Nat}
theorem PkAt.at (h : PkAt w V x Ao co Ab cb) (hb : Below w.heap.size w w') : PkAt w' V x Ao co Ab cb :=
  ⟨h.s0, h.s1, h.d0, h.d1, h.o.keep (KeepV.of hb h.lt), h.b.keep (KeepV.of hb h.lt), fun b hv => Nat.lt_of_lt_of_le (h.lt b hv) hb.size⟩
theorem PkAt.more (h : PkAt w V x Ao co Ab cb) (hV : ∀ b, V b → V' b) (lt : ∀ b, V' b → b < w.heap.size) : PkAt w V' x Ao co Ab cb := ⟨h.s0, h.s1, h.d0, h.d1, h.o.more hV, h.b.more hV, lt⟩
theorem PkCells.pk {ad : Addr} {k : Nat} (h : PkCells w V ad k x Ao co Ab cb) (lt : ∀ b, V b → b < w.heap.size) : PkAt w V x Ao co Ab cb := ⟨h.s0, h.s1, h.d0, h.d1, h.o, h.b, lt⟩
end
end Go.Proofs.Ytmblkgnjcmneeaa

/- Packets that are put together, runs, names: as values; their cells, read at once. -/
namespace Go.Proofs.Ytmblkgnjcmneeaa
open Go.ChangeShapes Go.WideShapes Go.ChangeAt Go.RowKit
set_option linter.unusedVariables false

/-- a packet that is put together, as a value. -/
abbrev bfV (b : Bf) (Ao : Option Addr) (co : Nat) (Ab : Option Addr) (cb : Nat) (Ar : Option Addr) (cr : Nat) : Value :=
  .agg #[.int .u32 b.src, .int .u32 b.dst, .int .i64 b.id, .int .i64 b.proto, .int .i64 b.born, .int .i64 b.head.tos, .int .i64 b.head.id, .bool b.head.df, .bool b.head.mf, .int .i64 b.head.off, .int .i64 b.head.ttl, .int .i64 b.head.proto, .int .u32 b.head.src, .int .u32 b.head.dst, .slice Ao b.head.opts.length co, .slice Ab b.head.body.length cb, .bool b.first, .int .i64 b.total, .slice Ar b.runs.length cr]
abbrev bfO (b : Bf) (Ao : Option Addr) (co : Nat) (Ab : Option Addr) (cb : Nat) (Ar : Option Addr) (cr : Nat) : Obj :=
  .cells #[.int .u32 b.src, .int .u32 b.dst, .int .i64 b.id, .int .i64 b.proto, .int .i64 b.born, .int .i64 b.head.tos, .int .i64 b.head.id, .bool b.head.df, .bool b.head.mf, .int .i64 b.head.off, .int .i64 b.head.ttl, .int .i64 b.head.proto, .int .u32 b.head.src, .int .u32 b.head.dst, .slice Ao b.head.opts.length co, .slice Ab b.head.body.length cb, .bool b.first, .int .i64 b.total, .slice Ar b.runs.length cr] 67
/-- what it names, in these blocks. -/
structure BfAt (w : World) (V : Nat → Prop) (b : Bf) (Ao : Option Addr) (co : Nat) (Ab : Option Addr) (cb : Nat) (Ar : Option Addr) (cr : Nat) : Prop where
  s0 : 0 ≤ b.src
  s1 : b.src ≤ 4294967295
  d0 : 0 ≤ b.dst
  d1 : b.dst ≤ 4294967295
  hs0 : 0 ≤ b.head.src
  hs1 : b.head.src ≤ 4294967295
  hd0 : 0 ≤ b.head.dst
  hd1 : b.head.dst ≤ 4294967295
  o : ByIn w V Ao co b.head.opts
  bo : ByIn w V Ab cb b.head.body
  rlen : b.runs.length ≤ cr
  rcap : cr ≤ 9223372036854775807
  rnil : Ar = none → cr = 0
  runs : Rs w V Ar b.runs
  lt : ∀ b, V b → b < w.heap.size
section
variable {w w' : World} {V V' : Nat → Prop} {b : Bf} {Ao : Option Addr} {co : Nat} {Ab : Option Addr} {cb : Nat} {Ar : Option Addr} {cr : Nat}
theorem BfAt.at (h : BfAt w V b Ao co Ab cb Ar cr) (hb : Below w.heap.size w w') : BfAt w' V b Ao co Ab cb Ar cr :=
  have k := KeepV.of hb h.lt
  ⟨h.s0, h.s1, h.d0, h.d1, h.hs0, h.hs1, h.hd0, h.hd1, h.o.keep k, h.bo.keep k, h.rlen, h.rcap, h.rnil, h.runs.keep k, fun b hv => Nat.lt_of_lt_of_le (h.lt b hv) hb.size⟩
theorem BfCells.bf {ad : Addr} {k : Nat} (h : BfCells w V ad k b Ao co Ab cb Ar cr) (lt : ∀ b, V b → b < w.heap.size) : BfAt w V b Ao co Ab cb Ar cr :=
  ⟨h.s0, h.s1, h.d0, h.d1, h.head.s0, h.head.s1, h.head.d0, h.head.d1, h.head.o, h.head.b, h.rlen, h.rcap, h.rnil, h.runs, lt⟩
/-- all nineteen cells, as a walk names them. -/
structure Nine (w : World) (ad : Addr) (b : Bf) (Ao : Option Addr) (co : Nat) (Ab : Option Addr) (cb : Nat) (Ar : Option Addr) (cr : Nat) : Prop where
  c0 : w.cell? ad = some (.int .u32 b.src)
  c1 : w.cell? { block := ad.block, off := ad.off + 1 } = some (.int .u32 b.dst)
  c2 : w.cell? { block := ad.block, off := ad.off + 2 } = some (.int .i64 b.id)
  c3 : w.cell? { block := ad.block, off := ad.off + 3 } = some (.int .i64 b.proto)
  c4 : w.cell? { block := ad.block, off := ad.off + 4 } = some (.int .i64 b.born)
  c5 : w.cell? { block := ad.block, off := ad.off + 5 } = some (.int .i64 b.head.tos)
  c6 : w.cell? { block := ad.block, off := ad.off + 6 } = some (.int .i64 b.head.id)
  c7 : w.cell? { block := ad.block, off := ad.off + 7 } = some (.bool b.head.df)
  c8 : w.cell? { block := ad.block, off := ad.off + 8 } = some (.bool b.head.mf)
  c9 : w.cell? { block := ad.block, off := ad.off + 9 } = some (.int .i64 b.head.off)
  c10 : w.cell? { block := ad.block, off := ad.off + 10 } = some (.int .i64 b.head.ttl)
  c11 : w.cell? { block := ad.block, off := ad.off + 11 } = some (.int .i64 b.head.proto)
  c12 : w.cell? { block := ad.block, off := ad.off + 12 } = some (.int .u32 b.head.src)
  c13 : w.cell? { block := ad.block, off := ad.off + 13 } = some (.int .u32 b.head.dst)
  c14 : w.cell? { block := ad.block, off := ad.off + 14 } = some (.slice Ao b.head.opts.length co)
  c15 : w.cell? { block := ad.block, off := ad.off + 15 } = some (.slice Ab b.head.body.length cb)
  c16 : w.cell? { block := ad.block, off := ad.off + 16 } = some (.bool b.first)
  c17 : w.cell? { block := ad.block, off := ad.off + 17 } = some (.int .i64 b.total)
  c18 : w.cell? { block := ad.block, off := ad.off + 18 } = some (.slice Ar b.runs.length cr)
theorem BfCells.nine {ad : Addr} {k : Nat} (h : BfCells w V ad k b Ao co Ab cb Ar cr) : Nine w (ad.add k) b Ao co Ab cb Ar cr :=
  ⟨h.c0, at_off 1 h.c1 (by omega), at_off 2 h.c2 (by omega), at_off 3 h.c3 (by omega), at_off 4 h.c4 (by omega), at_off 5 h.head.c0 (by omega), at_off 6 h.head.c1 (by omega), at_off 7 h.head.c2 (by omega), at_off 8 h.head.c3 (by omega), at_off 9 h.head.c4 (by omega), at_off 10 h.head.c5 (by omega), at_off 11 h.head.c6 (by omega), at_off 12 h.head.c7 (by omega), at_off 13 h.head.c8 (by omega), at_off 14 h.head.c9 (by omega), at_off 15 h.head.c10 (by omega), at_off 16 h.c16 (by omega), at_off 17 h.c17 (by omega), at_off 18 h.c18 (by omega)⟩
end
/-- .. as a list of cells. -/
abbrev bfL (b : Bf) (Ao : Option Addr) (co : Nat) (Ab : Option Addr) (cb : Nat) (Ar : Option Addr) (cr : Nat) : List Value :=
  [.int .u32 b.src, .int .u32 b.dst, .int .i64 b.id, .int .i64 b.proto, .int .i64 b.born, .int .i64 b.head.tos, .int .i64 b.head.id, .bool b.head.df, .bool b.head.mf, .int .i64 b.head.off, .int .i64 b.head.ttl, .int .i64 b.head.proto, .int .u32 b.head.src, .int .u32 b.head.dst, .slice Ao b.head.opts.length co, .slice Ab b.head.body.length cb, .bool b.first, .int .i64 b.total, .slice Ar b.runs.length cr]
theorem add_add (ad : Addr) (k j : Nat) : (ad.add k).add j = ad.add (k + j) := by
  by_cases h : j = 0
  · subst h; simp [Addr.add]
  · rw [add_at ad k j (by omega)]; unfold Addr.add; simp [h]
theorem list_cells {w : World} {ad : Addr} {cs : List Value} (h : ∀ j (hj : j < cs.length), w.cell? (ad.add j) = some cs[j]) : ∀ j v, cs[j]? = some v → w.cell? (ad.add j) = some v := fun j v hv => by
  obtain ⟨hj, rfl⟩ := List.getElem?_eq_some_iff.1 hv
  exact h j hj
theorem BfCells.all {w : World} {V : Nat → Prop} {b : Bf} {Ao : Option Addr} {co : Nat} {Ab : Option Addr} {cb : Nat} {Ar : Option Addr} {cr : Nat} {ad : Addr} {k : Nat} (h : BfCells w V ad k b Ao co Ab cb Ar cr) : ∀ j v, (bfL b Ao co Ab cb Ar cr)[j]? = some v → w.cell? ((ad.add k).add j) = some v := by
  refine list_cells fun j hj => ?_
  rw [add_add]
  match j, hj with
  | 0, _ => exact h.c0
  | 1, _ => exact h.c1
  | 2, _ => exact h.c2
  | 3, _ => exact h.c3
  | 4, _ => exact h.c4
  | 5, _ => exact h.head.c0
  | 6, _ => exact h.head.c1
  | 7, _ => exact h.head.c2
  | 8, _ => exact h.head.c3
  | 9, _ => exact h.head.c4
  | 10, _ => exact h.head.c5
  | 11, _ => exact h.head.c6
  | 12, _ => exact h.head.c7
  | 13, _ => exact h.head.c8
  | 14, _ => exact h.head.c9
  | 15, _ => exact h.head.c10
  | 16, _ => exact h.c16
  | 17, _ => exact h.c17
  | 18, _ => exact h.c18
  | n + 19, hj => exact absurd hj (by simp)
theorem info_bf : (Try.prog.info? 67).map (·.size) = some 19 := by kernel_rfl
theorem bf_one (b : Bf) (Ao : Option Addr) (co : Nat) (Ab : Option Addr) (cb : Nat) (Ar : Option Addr) (cr : Nat) : (bfL b Ao co Ab cb Ar cr).toArray.all (·.oneCell') = true := all_oneCell_toArray (by simp [Value.oneCell'])
/-- the walk's load of one, and its store into the block that was made last. -/
theorem wpList_load_bf {ops : Array Oper} {rest : List Oper} {op : Oper} {a : Act} {w : World} {Q : Exit → Act → World → Prop} (hgd : Region.wanted op (yielded ops a.tmps) = true) (x : Operand) (ho : op.op = .load 67 x)
    (ad : Addr) (hx : a.eval x = .pointer (some ad)) (b : Bf) (Ao : Option Addr) (co : Nat) (Ab : Option Addr) (cb : Nat) (Ar : Option Addr) (cr : Nat) (hc : ∀ j v, (bfL b Ao co Ab cb Ar cr)[j]? = some v → w.cell? (ad.add j) = some v)
    (h : wpList Try.prog ops Q rest (a.put op.dst (bfV b Ao co Ab cb Ar cr)) w) : wpList Try.prog ops Q (op :: rest) a w :=
  wpList_load_at hgd _ x ho ad hx _ _ hc Try.underlying67 rfl info_bf h
theorem yieldsIf_bf {ops : Array Oper} {S : World → Prop} {op : Oper} {a : Act} (hw : Region.wanted op (yielded ops a.tmps) = true) (x : Operand) (ho : op.op = .load 67 x)
    (ad : Addr) (hx : a.eval x = .pointer (some ad)) (b : Bf) (Ao : Option Addr) (co : Nat) (Ab : Option Addr) (cb : Nat) (Ar : Option Addr) (cr : Nat) (hS : ∀ w, S w → ∀ j v, (bfL b Ao co Ab cb Ar cr)[j]? = some v → w.cell? (ad.add j) = some v) : YieldsIf Try.prog ops S op (bfV b Ao co Ab cb Ar cr) a :=
  yieldsIf_load_at hw _ x ho ad hx _ _ hS Try.underlying67 rfl info_bf
theorem wpList_store_bf {ops : Array Oper} {rest : List Oper} {op : Oper} {a : Act} {w : World} {Q : Exit → Act → World → Prop} (hgd : Region.wanted op (yielded ops a.tmps) = true) (x y : Operand) (ho : op.op = .store 67 x y)
    (c : Array Value) (hx : a.eval x = .pointer (some ⟨w.heap.size, 0, none⟩)) (b : Bf) (Ao : Option Addr) (co : Nat) (Ab : Option Addr) (cb : Nat) (Ar : Option Addr) (cr : Nat) (hy : a.eval y = bfV b Ao co Ab cb Ar cr) (hs : c.size = 19)
    (h : wpList Try.prog ops Q rest (a.put op.dst undef) (w.alloc (bfO b Ao co Ab cb Ar cr))) : wpList Try.prog ops Q (op :: rest) a (w.alloc (.cells c 67)) :=
  wpList_store_new hgd _ x y ho c _ hx hy info_bf hs (bf_one b Ao co Ab cb Ar cr) h
abbrev poL (p : Po) (A : Option Addr) (c : Nat) : List Value := [.int .i64 p.room, .int .i64 p.life, .int .i64 p.now, .slice A p.list.length c]
theorem info_po : (Try.prog.info? 42).map (·.size) = some 4 := by kernel_rfl
theorem po_one (p : Po) (A : Option Addr) (c : Nat) : (poL p A c).toArray.all (·.oneCell') = true := all_oneCell_toArray (by simp [Value.oneCell'])
/-- a run as a value; a name. -/
abbrev rnV (r : Rn) (Ad : Option Addr) (cd : Nat) : Value := .agg #[.int .i64 r.off, .slice Ad r.data.length cd]
abbrev nmV (n : Int × Int × Int × Int) : Value := .agg #[.int .u32 n.1, .int .u32 n.2.1, .int .i64 n.2.2.1, .int .i64 n.2.2.2]
abbrev pkL (x : Pk) (Ao : Option Addr) (co : Nat) (Ab : Option Addr) (cb : Nat) : List Value :=
  [.int .i64 x.tos, .int .i64 x.id, .bool x.df, .bool x.mf, .int .i64 x.off, .int .i64 x.ttl, .int .i64 x.proto, .int .u32 x.src, .int .u32 x.dst, .slice Ao x.opts.length co, .slice Ab x.body.length cb]
theorem info_pk : (Try.prog.info? 25).map (·.size) = some 11 := by kernel_rfl
theorem pk_one (x : Pk) (Ao : Option Addr) (co : Nat) (Ab : Option Addr) (cb : Nat) : (pkL x Ao co Ab cb).toArray.all (·.oneCell') = true := all_oneCell_toArray (by simp [Value.oneCell'])
theorem yieldsIf_pk {ops : Array Oper} {S : World → Prop} {op : Oper} {a : Act} (hw : Region.wanted op (yielded ops a.tmps) = true) (x : Operand) (ho : op.op = .load 25 x)
    (ad : Addr) (hx : a.eval x = .pointer (some ad)) (b : Pk) (Ao : Option Addr) (co : Nat) (Ab : Option Addr) (cb : Nat) (hS : ∀ w, S w → ∀ j v, (pkL b Ao co Ab cb)[j]? = some v → w.cell? (ad.add j) = some v) : YieldsIf Try.prog ops S op (ipV b Ao co Ab cb) a :=
  yieldsIf_load_at hw _ x ho ad hx _ _ hS Try.underlying25 rfl info_pk
theorem wpList_load_pk {ops : Array Oper} {rest : List Oper} {op : Oper} {a : Act} {w : World} {Q : Exit → Act → World → Prop} (hgd : Region.wanted op (yielded ops a.tmps) = true) (x : Operand) (ho : op.op = .load 25 x)
    (ad : Addr) (hx : a.eval x = .pointer (some ad)) (b : Pk) (Ao : Option Addr) (co : Nat) (Ab : Option Addr) (cb : Nat) (hc : ∀ j v, (pkL b Ao co Ab cb)[j]? = some v → w.cell? (ad.add j) = some v)
    (h : wpList Try.prog ops Q rest (a.put op.dst (ipV b Ao co Ab cb)) w) : wpList Try.prog ops Q (op :: rest) a w :=
  wpList_load_at hgd _ x ho ad hx _ _ hc Try.underlying25 rfl info_pk h
/-- a new block of a value's own. -/
theorem below_alloc {w0 w : World} {B : Nat} (h : Below B w0 w) (hB : B ≤ w.heap.size) (o : Obj) : Below B w0 (w.alloc o) := h.trans ((Below.refl _ _).alloc hB _)
theorem heldR_take (l : List Rn) (k : Nat) (h : k < l.length) : heldR (l.take (k + 1)) = heldR (l.take k) + l[k].data.length := by
  induction l generalizing k with
  | nil => simp at h
  | cons a t ih =>
    cases k with
    | zero => simp [heldR]
    | succ k =>
      simp only [List.take_succ_cons, heldR, List.getElem_cons_succ]
      rw [ih k (by simpa using h)]; omega
theorem heldR_le (l : List Rn) (k : Nat) : heldR (l.take k) ≤ heldR l := by
  induction l generalizing k with
  | nil => simp [heldR]
  | cons a t ih => cases k with
    | zero => simp [heldR]
    | succ k => simp only [List.take_succ_cons, heldR]; have := ih k; omega
theorem heldL_take (l : List Bf) (k : Nat) (h : k < l.length) : heldL (l.take (k + 1)) = heldL (l.take k) + heldR l[k].runs := by
  induction l generalizing k with
  | nil => simp at h
  | cons a t ih =>
    cases k with
    | zero => simp [heldL]
    | succ k =>
      simp only [List.take_succ_cons, heldL, List.getElem_cons_succ]
      rw [ih k (by simpa using h)]; omega
theorem heldL_le (l : List Bf) (k : Nat) : heldL (l.take k) ≤ heldL l := by
  induction l generalizing k with
  | nil => simp [heldL]
  | cons a t ih => cases k with
    | zero => simp [heldL]
    | succ k => simp only [List.take_succ_cons, heldL]; have := ih k; omega
end Go.Proofs.Ytmblkgnjcmneeaa

/- Structs in blocks of their own: their cells. -/
namespace Go.Proofs.Ytmblkgnjcmneeaa
open Go.ChangeShapes Go.WideShapes Go.ChangeAt Go.RowKit
set_option linter.unusedVariables false
abbrev oBf (b : Bf) (Ao : Option Addr) (co : Nat) (Ab : Option Addr) (cb : Nat) (Ar : Option Addr) (cr : Nat) : Obj := .cells #[.int .u32 b.src, .int .u32 b.dst, .int .i64 b.id, .int .i64 b.proto, .int .i64 b.born, .int .i64 b.head.tos, .int .i64 b.head.id, .bool b.head.df, .bool b.head.mf, .int .i64 b.head.off, .int .i64 b.head.ttl, .int .i64 b.head.proto, .int .u32 b.head.src, .int .u32 b.head.dst, .slice Ao b.head.opts.length co, .slice Ab b.head.body.length cb, .bool b.first, .int .i64 b.total, .slice Ar b.runs.length cr] 67
def BoBf (w : World) (g : Nat) (b : Bf) (Ao : Option Addr) (co : Nat) (Ab : Option Addr) (cb : Nat) (Ar : Option Addr) (cr : Nat) : Prop := w.cell? ⟨g, 0, none⟩ = some (.int .u32 b.src) ∧ w.cell? ⟨g, 1, none⟩ = some (.int .u32 b.dst) ∧ w.cell? ⟨g, 2, none⟩ = some (.int .i64 b.id) ∧ w.cell? ⟨g, 3, none⟩ = some (.int .i64 b.proto) ∧ w.cell? ⟨g, 4, none⟩ = some (.int .i64 b.born) ∧ w.cell? ⟨g, 5, none⟩ = some (.int .i64 b.head.tos) ∧ w.cell? ⟨g, 6, none⟩ = some (.int .i64 b.head.id) ∧ w.cell? ⟨g, 7, none⟩ = some (.bool b.head.df) ∧ w.cell? ⟨g, 8, none⟩ = some (.bool b.head.mf) ∧ w.cell? ⟨g, 9, none⟩ = some (.int .i64 b.head.off) ∧ w.cell? ⟨g, 10, none⟩ = some (.int .i64 b.head.ttl) ∧ w.cell? ⟨g, 11, none⟩ = some (.int .i64 b.head.proto) ∧ w.cell? ⟨g, 12, none⟩ = some (.int .u32 b.head.src) ∧ w.cell? ⟨g, 13, none⟩ = some (.int .u32 b.head.dst) ∧ w.cell? ⟨g, 14, none⟩ = some (.slice Ao b.head.opts.length co) ∧ w.cell? ⟨g, 15, none⟩ = some (.slice Ab b.head.body.length cb) ∧ w.cell? ⟨g, 16, none⟩ = some (.bool b.first) ∧ w.cell? ⟨g, 17, none⟩ = some (.int .i64 b.total) ∧ w.cell? ⟨g, 18, none⟩ = some (.slice Ar b.runs.length cr)
section
variable {w w' : World} {g B : Nat} {b : Bf} {Ao : Option Addr} {co : Nat} {Ab : Option Addr} {cb : Nat} {Ar : Option Addr} {cr : Nat}
theorem BoBf.cells (h : BoBf w g b Ao co Ab cb Ar cr) : w.cell? ⟨g, 0, none⟩ = some (.int .u32 b.src) ∧ w.cell? ⟨g, 1, none⟩ = some (.int .u32 b.dst) ∧ w.cell? ⟨g, 2, none⟩ = some (.int .i64 b.id) ∧ w.cell? ⟨g, 3, none⟩ = some (.int .i64 b.proto) ∧ w.cell? ⟨g, 4, none⟩ = some (.int .i64 b.born) ∧ w.cell? ⟨g, 5, none⟩ = some (.int .i64 b.head.tos) ∧ w.cell? ⟨g, 6, none⟩ = some (.int .i64 b.head.id) ∧ w.cell? ⟨g, 7, none⟩ = some (.bool b.head.df) ∧ w.cell? ⟨g, 8, none⟩ = some (.bool b.head.mf) ∧ w.cell? ⟨g, 9, none⟩ = some (.int .i64 b.head.off) ∧ w.cell? ⟨g, 10, none⟩ = some (.int .i64 b.head.ttl) ∧ w.cell? ⟨g, 11, none⟩ = some (.int .i64 b.head.proto) ∧ w.cell? ⟨g, 12, none⟩ = some (.int .u32 b.head.src) ∧ w.cell? ⟨g, 13, none⟩ = some (.int .u32 b.head.dst) ∧ w.cell? ⟨g, 14, none⟩ = some (.slice Ao b.head.opts.length co) ∧ w.cell? ⟨g, 15, none⟩ = some (.slice Ab b.head.body.length cb) ∧ w.cell? ⟨g, 16, none⟩ = some (.bool b.first) ∧ w.cell? ⟨g, 17, none⟩ = some (.int .i64 b.total) ∧ w.cell? ⟨g, 18, none⟩ = some (.slice Ar b.runs.length cr) := h
theorem BoBf.keep (h : BoBf w g b Ao co Ab cb Ar cr) (hb : Below B w w') (hlt : g < B) : BoBf w' g b Ao co Ab cb Ar cr := by
  obtain ⟨c0, c1, c2, c3, c4, c5, c6, c7, c8, c9, c10, c11, c12, c13, c14, c15, c16, c17, c18⟩ := h
  exact ⟨(hb.cell (p := ⟨g, 0, none⟩) hlt).trans c0, (hb.cell (p := ⟨g, 1, none⟩) hlt).trans c1, (hb.cell (p := ⟨g, 2, none⟩) hlt).trans c2, (hb.cell (p := ⟨g, 3, none⟩) hlt).trans c3, (hb.cell (p := ⟨g, 4, none⟩) hlt).trans c4, (hb.cell (p := ⟨g, 5, none⟩) hlt).trans c5, (hb.cell (p := ⟨g, 6, none⟩) hlt).trans c6, (hb.cell (p := ⟨g, 7, none⟩) hlt).trans c7, (hb.cell (p := ⟨g, 8, none⟩) hlt).trans c8, (hb.cell (p := ⟨g, 9, none⟩) hlt).trans c9, (hb.cell (p := ⟨g, 10, none⟩) hlt).trans c10, (hb.cell (p := ⟨g, 11, none⟩) hlt).trans c11, (hb.cell (p := ⟨g, 12, none⟩) hlt).trans c12, (hb.cell (p := ⟨g, 13, none⟩) hlt).trans c13, (hb.cell (p := ⟨g, 14, none⟩) hlt).trans c14, (hb.cell (p := ⟨g, 15, none⟩) hlt).trans c15, (hb.cell (p := ⟨g, 16, none⟩) hlt).trans c16, (hb.cell (p := ⟨g, 17, none⟩) hlt).trans c17, (hb.cell (p := ⟨g, 18, none⟩) hlt).trans c18⟩
theorem BoBf.made : BoBf (w.alloc (oBf b Ao co Ab cb Ar cr)) w.heap.size b Ao co Ab cb Ar cr := by
  refine ⟨?_, ?_, ?_, ?_, ?_, ?_, ?_, ?_, ?_, ?_, ?_, ?_, ?_, ?_, ?_, ?_, ?_, ?_, ?_⟩ <;> simp [go_sem]
theorem BoBf.at (h : BoBf w g b Ao co Ab cb Ar cr) : ∀ j v, ([.int .u32 b.src, .int .u32 b.dst, .int .i64 b.id, .int .i64 b.proto, .int .i64 b.born, .int .i64 b.head.tos, .int .i64 b.head.id, .bool b.head.df, .bool b.head.mf, .int .i64 b.head.off, .int .i64 b.head.ttl, .int .i64 b.head.proto, .int .u32 b.head.src, .int .u32 b.head.dst, .slice Ao b.head.opts.length co, .slice Ab b.head.body.length cb, .bool b.first, .int .i64 b.total, .slice Ar b.runs.length cr] : List Value)[j]? = some v → w.cell? ((⟨g, 0, none⟩ : Addr).add j) = some v := by
  obtain ⟨c0, c1, c2, c3, c4, c5, c6, c7, c8, c9, c10, c11, c12, c13, c14, c15, c16, c17, c18⟩ := h
  refine list_cells fun j hj => ?_
  rw [Addr.add_mid, Nat.zero_add]
  match j, hj with
  | 0, _ => exact c0
  | 1, _ => exact c1
  | 2, _ => exact c2
  | 3, _ => exact c3
  | 4, _ => exact c4
  | 5, _ => exact c5
  | 6, _ => exact c6
  | 7, _ => exact c7
  | 8, _ => exact c8
  | 9, _ => exact c9
  | 10, _ => exact c10
  | 11, _ => exact c11
  | 12, _ => exact c12
  | 13, _ => exact c13
  | 14, _ => exact c14
  | 15, _ => exact c15
  | 16, _ => exact c16
  | 17, _ => exact c17
  | 18, _ => exact c18
  | m + 19, hj => exact absurd hj (by simp)
end
abbrev oPk (x : Pk) (Ao : Option Addr) (co : Nat) (Ab : Option Addr) (cb : Nat) : Obj := .cells #[.int .i64 x.tos, .int .i64 x.id, .bool x.df, .bool x.mf, .int .i64 x.off, .int .i64 x.ttl, .int .i64 x.proto, .int .u32 x.src, .int .u32 x.dst, .slice Ao x.opts.length co, .slice Ab x.body.length cb] 25
def BoPk (w : World) (g : Nat) (x : Pk) (Ao : Option Addr) (co : Nat) (Ab : Option Addr) (cb : Nat) : Prop := w.cell? ⟨g, 0, none⟩ = some (.int .i64 x.tos) ∧ w.cell? ⟨g, 1, none⟩ = some (.int .i64 x.id) ∧ w.cell? ⟨g, 2, none⟩ = some (.bool x.df) ∧ w.cell? ⟨g, 3, none⟩ = some (.bool x.mf) ∧ w.cell? ⟨g, 4, none⟩ = some (.int .i64 x.off) ∧ w.cell? ⟨g, 5, none⟩ = some (.int .i64 x.ttl) ∧ w.cell? ⟨g, 6, none⟩ = some (.int .i64 x.proto) ∧ w.cell? ⟨g, 7, none⟩ = some (.int .u32 x.src) ∧ w.cell? ⟨g, 8, none⟩ = some (.int .u32 x.dst) ∧ w.cell? ⟨g, 9, none⟩ = some (.slice Ao x.opts.length co) ∧ w.cell? ⟨g, 10, none⟩ = some (.slice Ab x.body.length cb)
section
variable {w w' : World} {g B : Nat} {x : Pk} {Ao : Option Addr} {co : Nat} {Ab : Option Addr} {cb : Nat}
theorem BoPk.cells (h : BoPk w g x Ao co Ab cb) : w.cell? ⟨g, 0, none⟩ = some (.int .i64 x.tos) ∧ w.cell? ⟨g, 1, none⟩ = some (.int .i64 x.id) ∧ w.cell? ⟨g, 2, none⟩ = some (.bool x.df) ∧ w.cell? ⟨g, 3, none⟩ = some (.bool x.mf) ∧ w.cell? ⟨g, 4, none⟩ = some (.int .i64 x.off) ∧ w.cell? ⟨g, 5, none⟩ = some (.int .i64 x.ttl) ∧ w.cell? ⟨g, 6, none⟩ = some (.int .i64 x.proto) ∧ w.cell? ⟨g, 7, none⟩ = some (.int .u32 x.src) ∧ w.cell? ⟨g, 8, none⟩ = some (.int .u32 x.dst) ∧ w.cell? ⟨g, 9, none⟩ = some (.slice Ao x.opts.length co) ∧ w.cell? ⟨g, 10, none⟩ = some (.slice Ab x.body.length cb) := h
theorem BoPk.keep (h : BoPk w g x Ao co Ab cb) (hb : Below B w w') (hlt : g < B) : BoPk w' g x Ao co Ab cb := by
  obtain ⟨c0, c1, c2, c3, c4, c5, c6, c7, c8, c9, c10⟩ := h
  exact ⟨(hb.cell (p := ⟨g, 0, none⟩) hlt).trans c0, (hb.cell (p := ⟨g, 1, none⟩) hlt).trans c1, (hb.cell (p := ⟨g, 2, none⟩) hlt).trans c2, (hb.cell (p := ⟨g, 3, none⟩) hlt).trans c3, (hb.cell (p := ⟨g, 4, none⟩) hlt).trans c4, (hb.cell (p := ⟨g, 5, none⟩) hlt).trans c5, (hb.cell (p := ⟨g, 6, none⟩) hlt).trans c6, (hb.cell (p := ⟨g, 7, none⟩) hlt).trans c7, (hb.cell (p := ⟨g, 8, none⟩) hlt).trans c8, (hb.cell (p := ⟨g, 9, none⟩) hlt).trans c9, (hb.cell (p := ⟨g, 10, none⟩) hlt).trans c10⟩
theorem BoPk.made : BoPk (w.alloc (oPk x Ao co Ab cb)) w.heap.size x Ao co Ab cb := by
  refine ⟨?_, ?_, ?_, ?_, ?_, ?_, ?_, ?_, ?_, ?_, ?_⟩ <;> simp [go_sem]
theorem BoPk.at (h : BoPk w g x Ao co Ab cb) : ∀ j v, ([.int .i64 x.tos, .int .i64 x.id, .bool x.df, .bool x.mf, .int .i64 x.off, .int .i64 x.ttl, .int .i64 x.proto, .int .u32 x.src, .int .u32 x.dst, .slice Ao x.opts.length co, .slice Ab x.body.length cb] : List Value)[j]? = some v → w.cell? ((⟨g, 0, none⟩ : Addr).add j) = some v := by
  obtain ⟨c0, c1, c2, c3, c4, c5, c6, c7, c8, c9, c10⟩ := h
  refine list_cells fun j hj => ?_
  rw [Addr.add_mid, Nat.zero_add]
  match j, hj with
  | 0, _ => exact c0
  | 1, _ => exact c1
  | 2, _ => exact c2
  | 3, _ => exact c3
  | 4, _ => exact c4
  | 5, _ => exact c5
  | 6, _ => exact c6
  | 7, _ => exact c7
  | 8, _ => exact c8
  | 9, _ => exact c9
  | 10, _ => exact c10
  | m + 11, hj => exact absurd hj (by simp)
end
abbrev oPo (p : Po) (A : Option Addr) (c : Nat) : Obj := .cells #[.int .i64 p.room, .int .i64 p.life, .int .i64 p.now, .slice A p.list.length c] 42
def BoPo (w : World) (g : Nat) (p : Po) (A : Option Addr) (c : Nat) : Prop := w.cell? ⟨g, 0, none⟩ = some (.int .i64 p.room) ∧ w.cell? ⟨g, 1, none⟩ = some (.int .i64 p.life) ∧ w.cell? ⟨g, 2, none⟩ = some (.int .i64 p.now) ∧ w.cell? ⟨g, 3, none⟩ = some (.slice A p.list.length c)
section
variable {w w' : World} {g B : Nat} {p : Po} {A : Option Addr} {c : Nat}
theorem BoPo.cells (h : BoPo w g p A c) : w.cell? ⟨g, 0, none⟩ = some (.int .i64 p.room) ∧ w.cell? ⟨g, 1, none⟩ = some (.int .i64 p.life) ∧ w.cell? ⟨g, 2, none⟩ = some (.int .i64 p.now) ∧ w.cell? ⟨g, 3, none⟩ = some (.slice A p.list.length c) := h
theorem BoPo.keep (h : BoPo w g p A c) (hb : Below B w w') (hlt : g < B) : BoPo w' g p A c := by
  obtain ⟨c0, c1, c2, c3⟩ := h
  exact ⟨(hb.cell (p := ⟨g, 0, none⟩) hlt).trans c0, (hb.cell (p := ⟨g, 1, none⟩) hlt).trans c1, (hb.cell (p := ⟨g, 2, none⟩) hlt).trans c2, (hb.cell (p := ⟨g, 3, none⟩) hlt).trans c3⟩
theorem BoPo.made : BoPo (w.alloc (oPo p A c)) w.heap.size p A c := by
  refine ⟨?_, ?_, ?_, ?_⟩ <;> simp [go_sem]
theorem BoPo.at (h : BoPo w g p A c) : ∀ j v, ([.int .i64 p.room, .int .i64 p.life, .int .i64 p.now, .slice A p.list.length c] : List Value)[j]? = some v → w.cell? ((⟨g, 0, none⟩ : Addr).add j) = some v := by
  obtain ⟨c0, c1, c2, c3⟩ := h
  refine list_cells fun j hj => ?_
  rw [Addr.add_mid, Nat.zero_add]
  match j, hj with
  | 0, _ => exact c0
  | 1, _ => exact c1
  | 2, _ => exact c2
  | 3, _ => exact c3
  | m + 4, hj => exact absurd hj (by simp)
end
abbrev oRn (r : Rn) (Ad : Option Addr) (cd : Nat) : Obj := .cells #[.int .i64 r.off, .slice Ad r.data.length cd] 89
def BoRn (w : World) (g : Nat) (r : Rn) (Ad : Option Addr) (cd : Nat) : Prop := w.cell? ⟨g, 0, none⟩ = some (.int .i64 r.off) ∧ w.cell? ⟨g, 1, none⟩ = some (.slice Ad r.data.length cd)
section
variable {w w' : World} {g B : Nat} {r : Rn} {Ad : Option Addr} {cd : Nat}
theorem BoRn.cells (h : BoRn w g r Ad cd) : w.cell? ⟨g, 0, none⟩ = some (.int .i64 r.off) ∧ w.cell? ⟨g, 1, none⟩ = some (.slice Ad r.data.length cd) := h
theorem BoRn.keep (h : BoRn w g r Ad cd) (hb : Below B w w') (hlt : g < B) : BoRn w' g r Ad cd := by
  obtain ⟨c0, c1⟩ := h
  exact ⟨(hb.cell (p := ⟨g, 0, none⟩) hlt).trans c0, (hb.cell (p := ⟨g, 1, none⟩) hlt).trans c1⟩
theorem BoRn.made : BoRn (w.alloc (oRn r Ad cd)) w.heap.size r Ad cd := by
  refine ⟨?_, ?_⟩ <;> simp [go_sem]
theorem BoRn.at (h : BoRn w g r Ad cd) : ∀ j v, ([.int .i64 r.off, .slice Ad r.data.length cd] : List Value)[j]? = some v → w.cell? ((⟨g, 0, none⟩ : Addr).add j) = some v := by
  obtain ⟨c0, c1⟩ := h
  refine list_cells fun j hj => ?_
  rw [Addr.add_mid, Nat.zero_add]
  match j, hj with
  | 0, _ => exact c0
  | 1, _ => exact c1
  | m + 2, hj => exact absurd hj (by simp)
end
abbrev oNm (n : Int × Int × Int × Int) : Obj := .cells #[.int .u32 n.1, .int .u32 n.2.1, .int .i64 n.2.2.1, .int .i64 n.2.2.2] 62
def BoNm (w : World) (g : Nat) (n : Int × Int × Int × Int) : Prop := w.cell? ⟨g, 0, none⟩ = some (.int .u32 n.1) ∧ w.cell? ⟨g, 1, none⟩ = some (.int .u32 n.2.1) ∧ w.cell? ⟨g, 2, none⟩ = some (.int .i64 n.2.2.1) ∧ w.cell? ⟨g, 3, none⟩ = some (.int .i64 n.2.2.2)
section
variable {w w' : World} {g B : Nat} {n : Int × Int × Int × Int}
theorem BoNm.cells (h : BoNm w g n) : w.cell? ⟨g, 0, none⟩ = some (.int .u32 n.1) ∧ w.cell? ⟨g, 1, none⟩ = some (.int .u32 n.2.1) ∧ w.cell? ⟨g, 2, none⟩ = some (.int .i64 n.2.2.1) ∧ w.cell? ⟨g, 3, none⟩ = some (.int .i64 n.2.2.2) := h
theorem BoNm.keep (h : BoNm w g n) (hb : Below B w w') (hlt : g < B) : BoNm w' g n := by
  obtain ⟨c0, c1, c2, c3⟩ := h
  exact ⟨(hb.cell (p := ⟨g, 0, none⟩) hlt).trans c0, (hb.cell (p := ⟨g, 1, none⟩) hlt).trans c1, (hb.cell (p := ⟨g, 2, none⟩) hlt).trans c2, (hb.cell (p := ⟨g, 3, none⟩) hlt).trans c3⟩
theorem BoNm.made : BoNm (w.alloc (oNm n)) w.heap.size n := by
  refine ⟨?_, ?_, ?_, ?_⟩ <;> simp [go_sem]
theorem BoNm.at (h : BoNm w g n) : ∀ j v, ([.int .u32 n.1, .int .u32 n.2.1, .int .i64 n.2.2.1, .int .i64 n.2.2.2] : List Value)[j]? = some v → w.cell? ((⟨g, 0, none⟩ : Addr).add j) = some v := by
  obtain ⟨c0, c1, c2, c3⟩ := h
  refine list_cells fun j hj => ?_
  rw [Addr.add_mid, Nat.zero_add]
  match j, hj with
  | 0, _ => exact c0
  | 1, _ => exact c1
  | 2, _ => exact c2
  | 3, _ => exact c3
  | m + 4, hj => exact absurd hj (by simp)
end
end Go.Proofs.Ytmblkgnjcmneeaa

/- The contract of bytes.Clone. -/
namespace Go.Proofs.Ytmblkgnjcmneeaa
open Go.ChangeShapes Go.WideShapes Go.ChangeAt Go.RowKit
set_option linter.unusedVariables false

/-- a slice that some call has handed back: it reads as these bytes. -/
structure Gives (w0 w : World) (A : Option Addr) (c : Nat) (l : List UInt8) : Prop where
  len : l.length ≤ c
  cap : c ≤ 9223372036854775807
  nil : A = none → c = 0
  bs : Bs w w.heap.size A l
  fresh : ∀ ad, A = some ad → w0.heap.size ≤ ad.block
  below : Below w0.heap.size w0 w
def Cloned (w0 : World) (n : Nat) (l : List UInt8) (e : Ending) (w : World) : Prop := ∃ A c, e = .returned (.slice A n c) ∧ Gives w0 w A c l

theorem own_gives {w0 w : World} {n : Nat} {v : Value} {l : List UInt8} (h : w.ownsRow w0.heap.size 5 1 v n (l.map bv)) (hb : Below w0.heap.size w0 w) : ∃ A c, v = .slice A n c ∧ Gives w0 w A c l := by
  have hn : l.length = n := by have := h.1; simpa using this
  obtain ⟨A, c, rfl, h1, h2, h3, h4⟩ := rd_of_own h
  unfold maxLen at h2
  refine ⟨A, c, rfl, by omega, by omega, h3, h4.bs, fun ad e => ?_, hb⟩
  subst e
  exact (h.lt ad.block rfl).1

set_option maxHeartbeats 400000 in
theorem cclone (A : Option Addr) (n c : Nat) (l : List UInt8) (B : Nat) (w : World) (hn : l.length = n) (h : Bs w B A l) (hB : B ≤ w.heap.size) (hn2 : n ≤ 16777216) (hnil : A = none → c = 0) (hnc : n ≤ c) :
    Calls Try.prog 40 #[.slice A n c] w (Cloned w n l) := by
  obtain ⟨i0, hi, hz0, hz1, hz2⟩ := info_parts info_byte
  have q := fun (W : World) (a : Option Addr) (n c n' c' : Nat) => Lib.run_eql_slice_nil (P := Try.prog) W _ _ a n c n' c' Try.underlying23
  rcases A with _ | ad
  · have hc := hnil rfl
    subst hc
    obtain rfl : n = 0 := by omega
    have hl : l = [] := List.eq_nil_of_length_eq_zero hn
    subst hl
    clear hn h hnil
    go_enter Try.func40, Try.ntmps40
    go_wp2
    go_ret
    exact ⟨none, 0, rfl, by simp, by omega, fun _ => rfl, .inl rfl, fun _ h => (by cases h), Below.refl _ _⟩
  · have HN := Go.Lib.hid hn
    have HB := Go.Lib.hid h
    have HX := Go.Lib.hid hnil
    clear hn h hnil
    go_enter Try.func40, Try.ntmps40
    go_wp2_with (at_builtin; refine wpList_copy_rd rfl _ _ 23 rfl 5 i0 (.int .u8 0) 1 Try.underlying23 hi hz0 hz1 hz2 rfl rfl B (some ad) n c (l.map bv) rfl (by simpa using HN.out) HX.out HB.out.rd hB (bv_one _) (by unfold maxLen; omega) (by omega) ?_; intro v2 w2 hown2 hb2)
    obtain ⟨A2, c2, rfl, hg⟩ := own_gives hown2 hb2
    go_ret
    exact ⟨A2, c2, rfl, hg⟩
end Go.Proofs.Ytmblkgnjcmneeaa

/- Rows of packets that are put together, and of runs, of a call's own. -/
namespace Go.Proofs.Ytmblkgnjcmneeaa
open Go.ChangeShapes Go.WideShapes Go.ChangeAt Go.RowKit
set_option linter.unusedVariables false
set_option linter.unusedSimpArgs false

section
variable {α : Type} (L : α → List Value) (k : Nat) (hL : ∀ x, (L x).length = k)
include hL
theorem flat_len : ∀ es : List α, (es.flatMap L).length = es.length * k
  | [] => by simp
  | e :: t => by simp only [List.flatMap_cons, List.length_append, hL, flat_len t, List.length_cons]; rw [Nat.succ_mul, Nat.add_comm]
theorem flat_take : ∀ (es : List α) (j : Nat), (es.flatMap L).take (j * k) = (es.take j).flatMap L
  | [], j => by simp
  | e :: t, 0 => by simp
  | e :: t, j + 1 => by
    rw [List.flatMap_cons, List.take_succ_cons, List.flatMap_cons, List.take_append, hL, List.take_of_length_le (by rw [hL, Nat.succ_mul]; omega), ← flat_take t j]
    congr 2
    rw [Nat.succ_mul]; omega
theorem flat_drop : ∀ (es : List α) (j : Nat), (es.flatMap L).drop (j * k) = (es.drop j).flatMap L
  | [], j => by simp
  | e :: t, 0 => by simp
  | e :: t, j + 1 => by
    rw [List.flatMap_cons, List.drop_succ_cons, List.drop_append, hL, List.drop_eq_nil_of_le (by rw [hL, Nat.succ_mul]; omega), List.nil_append, ← flat_drop t j]
    congr 1
    rw [Nat.succ_mul]; omega
theorem flat_get (es : List α) (j i : Nat) (hj : j < es.length) (hi : i < k) : (es.flatMap L)[j * k + i]? = (L es[j])[i]? := by
  rw [← List.getElem?_drop, flat_drop L k hL, List.drop_eq_getElem_cons hj, List.flatMap_cons, List.getElem?_append_left (by rw [hL]; exact hi)]
end
/-- cells replaced from a place on. -/
theorem set_eq {α : Type} : ∀ (l : List α) (o : Nat) (v : α), o < l.length → l.set o v = l.take o ++ v :: l.drop (o + 1)
  | [], _, _, h => by simp at h
  | a :: t, 0, v, _ => by simp
  | a :: t, o + 1, v, h => by simp [set_eq t o v (by simpa using h)]
theorem spl_eq : ∀ (vs cs : List Value) (o : Nat), o + vs.length ≤ cs.length → spl cs o vs = cs.take o ++ vs ++ cs.drop (o + vs.length)
  | [], cs, o, _ => by simp [spl]
  | v :: r, cs, o, h => by
    simp only [List.length_cons] at h
    have ho : o < cs.length := by omega
    rw [spl, spl_eq r _ _ (by simp; omega), set_eq cs o v ho]
    have e1 : (cs.take o ++ v :: cs.drop (o + 1)).take (o + 1) = cs.take o ++ [v] := by
      rw [List.take_append, List.take_of_length_le (by rw [List.length_take]; omega), List.length_take, Nat.min_eq_left (by omega), show o + 1 - o = 1 by omega]
      rfl
    have e2 : (cs.take o ++ v :: cs.drop (o + 1)).drop (o + 1 + r.length) = cs.drop (o + (v :: r).length) := by
      rw [List.drop_append, List.length_take, Nat.min_eq_left (by omega), List.drop_eq_nil_of_le (by rw [List.length_take]; omega), List.nil_append]
      rw [show o + 1 + r.length - o = r.length + 1 by omega, List.drop_succ_cons, List.drop_drop]
      congr 1; simp; omega
    rw [e1, e2]; simp
theorem spl_take (vs cs : List Value) (o n : Nat) (h : o + vs.length ≤ n) (hn : n ≤ cs.length) : (spl cs o vs).take n = spl (cs.take n) o vs := by
  rw [spl_eq vs cs o (by omega), spl_eq vs (cs.take n) o (by rw [List.length_take]; omega)]
  rw [List.take_append, List.take_of_length_le (by rw [List.length_append, List.length_take]; omega), List.length_append, List.length_take, Nat.min_eq_left (by omega), List.take_take, Nat.min_eq_left (by omega), List.drop_take]
theorem spl_flat {α : Type} (L : α → List Value) (k : Nat) (hL : ∀ x, (L x).length = k) (es : List α) (j : Nat) (e : α) (hj : j < es.length) : spl (es.flatMap L) (j * k) (L e) = (es.set j e).flatMap L := by
  have hl := flat_len L k hL es
  have h1 : j * k + k ≤ es.length * k := by rw [← Nat.succ_mul]; exact Nat.mul_le_mul_right k hj
  rw [spl_eq _ _ _ (by rw [hL, hl]; exact h1), hL, set_eq es j e hj, List.flatMap_append, List.flatMap_cons, flat_take L k hL, ← Nat.succ_mul, flat_drop L k hL, List.append_assoc]
/-- a row of the call's own, opened; a store into it. -/
theorem own_open {w : World} {base : Nat} {e : TypeId} {size g n c : Nat} {xs : List Value} (h : w.ownsRow base e size (.slice (some ⟨g, 0, none⟩) n c) n xs) :
    ∃ cur, Bxo w g e cur ∧ cur.length = c * size ∧ cur.take (n * size) = xs ∧ base ≤ g ∧ n ≤ c ∧ c ≤ maxLen ∧ xs.length = n * size := by
  rcases h.2 with ⟨h', _⟩ | ⟨g', cap, cur, hv, hb, hh, hn, hm, hs, ht⟩
  · cases h'
  · injection hv with h1 h2 h3
    subst h3
    injection h1 with h1
    injection h1 with h1
    subst h1
    exact ⟨cur.toList, by unfold Bxo; simpa using hh, by simpa using hs, by simpa using ht, hb, hn, hm, h.1⟩
theorem own_shut {w : World} {base : Nat} {e : TypeId} {size g n c : Nat} {xs cur : List Value} (hb : Bxo w g e cur) (h1 : cur.length = c * size) (h2 : cur.take (n * size) = xs) (h3 : base ≤ g) (h4 : n ≤ c) (h5 : c ≤ maxLen) (h6 : xs.length = n * size) :
    w.ownsRow base e size (.slice (some ⟨g, 0, none⟩) n c) n xs :=
  ⟨h6, .inr ⟨g, c, cur.toArray, rfl, h3, hb, h4, h5, by simpa using h1, by simpa using h2⟩⟩
theorem own_keep {w w' : World} {base : Nat} {e : TypeId} {size g n c : Nat} {xs : List Value} (h : w.ownsRow base e size (.slice (some ⟨g, 0, none⟩) n c) n xs) (hh : w'.heap[g]? = w.heap[g]?) : w'.ownsRow base e size (.slice (some ⟨g, 0, none⟩) n c) n xs := by
  obtain ⟨cur, a1, a2, a3, a4, a5, a6, a7⟩ := own_open h
  exact own_shut (hh.trans a1) a2 a3 a4 a5 a6 a7
theorem own_spl {w w' : World} {base : Nat} {e : TypeId} {size g n c : Nat} {xs cur vs : List Value} {o : Nat} (h : w.ownsRow base e size (.slice (some ⟨g, 0, none⟩) n c) n xs) (hc : Bxo w g e cur) (ho : o + vs.length ≤ n * size) (hb : Bxo w' g e (spl cur o vs)) :
    w'.ownsRow base e size (.slice (some ⟨g, 0, none⟩) n c) n (spl xs o vs) := by
  obtain ⟨cur', a1, a2, a3, a4, a5, a6, a7⟩ := own_open h
  have e : cur' = cur := by
    have := a1.symm.trans hc
    simpa using this
  subst e
  have hle : n * size ≤ cur'.length := by rw [a2]; exact Nat.mul_le_mul_right size a5
  exact own_shut hb (by rw [spl_length]; exact a2) (by rw [spl_take vs cur' o _ ho hle, a3]) a4 a5 a6 (by rw [spl_length]; exact a7)
/-- a run, a packet that is put together, with where its parts lie. -/
structure Er where
  r : Rn
  A : Option Addr
  c : Nat
structure El where
  b : Bf
  Ao : Option Addr
  co : Nat
  Ab : Option Addr
  cb : Nat
  Ar : Option Addr
  cr : Nat
def Er.L (e : Er) : List Value := [.int .i64 e.r.off, .slice e.A e.r.data.length e.c]
def El.L (e : El) : List Value := bfL e.b e.Ao e.co e.Ab e.cb e.Ar e.cr
theorem Er.len (e : Er) : e.L.length = 2 := rfl
theorem El.len (e : El) : e.L.length = 19 := rfl
def OwnR (w : World) (base : Nat) (A : Option Addr) (c : Nat) (rs : List Er) : Prop := w.ownsRow base 89 2 (.slice A rs.length c) rs.length (rs.flatMap Er.L)
def OwnB (w : World) (base : Nat) (A : Option Addr) (c : Nat) (es : List El) : Prop := w.ownsRow base 67 19 (.slice A es.length c) es.length (es.flatMap El.L)
theorem info_run : (Try.prog.info? 89).map (fun i => (i.zero, i.size, i.bytes)) = some (some (.agg #[.int .i64 0, .slice none 0 0]), 2, 32) := by kernel_rfl
theorem info_rn : (Try.prog.info? 89).map (·.size) = some 2 := by kernel_rfl
theorem Bv.keepH {w w' : World} {V : Nat → Prop} {A : Option Addr} {l : List UInt8} (h : Bv w V A l) (hk : ∀ b, V b → w'.heap[b]? = w.heap[b]?) : Bv w' V A l := h.keep (fun p hp => World.cell?_of_block (hk _ hp))
theorem ByIn.keepH {w w' : World} {V : Nat → Prop} {A : Option Addr} {c : Nat} {l : List UInt8} (h : ByIn w V A c l) (hk : ∀ b, V b → w'.heap[b]? = w.heap[b]?) : ByIn w' V A c l := ⟨h.len, h.cap, h.nil, h.bs.keepH hk⟩
end Go.Proofs.Ytmblkgnjcmneeaa

/- Copies of slices of structs: the walk's append at elements of several cells; slices.Clone of runs, of packets that are put together; copyPacket's and headOf's bytes. -/
namespace Go.Proofs.Ytmblkgnjcmneeaa
open Go.ChangeShapes Go.WideShapes Go.ChangeAt Go.RowKit
set_option linter.unusedVariables false
set_option linter.unusedSimpArgs false

/-- the slice at A reads as these cells. -/
def RdC (w : World) (A : Option Addr) (cs : List Value) : Prop := cs = [] ∨ ∃ ad, A = some ad ∧ ∀ (j : Nat) (u : Value), cs[j]? = some u → w.cell? (ad.add j) = some u
theorem RdC.keep {w w' : World} {A : Option Addr} {cs : List Value} (h : RdC w A cs) (hb : Below w.heap.size w w') : RdC w' A cs := by
  rcases h with h | ⟨ad, e, hc⟩
  · exact .inl h
  · refine .inr ⟨ad, e, fun j u hj => ?_⟩
    have := hc j u hj
    rw [← this]
    exact hb.cell (World.block_lt_of_cell? w _ this)
theorem wpList_append_rdK {P : Program} {w : World} {ops : Array Oper} {rest : List Oper} {o : Oper} {a : Act} {Q : Exit → Act → World → Prop} (hgd : o.guard = none) (s x : Operand) (t : TypeId)
    (ho : o.op = .call { callee := .builtin .append, args := #[s, x], argTypes := #[t, t] })
    (base : Nat) (e : TypeId) (i : TypeInfo) (z : Value) (k bytes : Nat) (ht : P.underlying t = some (.slice e)) (hi : P.info? e = some i) (hz : i.zero = some z)
    (hsize : i.size = k) (hby : i.bytes = bytes) (hzs : z.cells.size = k) (hk : 0 < k)
    (v : Value) (n : Nat) (xs : List Value) (hs : a.eval s = v) (hown : w.ownsRow base e k v n xs)
    (A : Option Addr) (m c : Nat) (news : List Value) (hx : a.eval x = .slice A m c) (hm : news.length = m * k) (hc : A = none → c = 0 ∧ m = 0) (hr : RdC w A news) (h1 : ∀ u ∈ news, u.oneCell' = true)
    (h63 : n + m ≤ maxLen) (hbytes : (n + m) * bytes ≤ 140737488355328) (hbase : base ≤ w.heap.size)
    (h : ∀ v' w', w'.ownsRow base e k v' (n + m) (xs ++ news) → w.grownBy w' v.ownBlock → (v'.ownBlock = v.ownBlock ∨ v'.ownBlock = some w.heap.size) → wpList P ops Q rest (a.put o.dst v') w') :
    wpList P ops Q (o :: rest) a w := by
  rcases A with _ | ad
  · obtain ⟨rfl, rfl⟩ := hc rfl
    have hn : news = [] := List.eq_nil_of_length_eq_zero (by simpa using hm)
    subst hn
    exact wpList_append_own_none hgd s x t ho base e i k ht hi v n xs hs hown hx (h v w (by simpa using hown) (World.grownBy.refl w _) (.inl rfl))
  · refine wpList_append_own_at w hgd s x t ho base e i z k bytes ht hi hz hsize hby hzs hk v n xs hs hown ad m c news hx (by omega) ?_ h1 h63 hbytes hbase (fun v' w' g1 g2 _ g4 => h v' w' g1 g2 g4)
    intro j u hj
    rcases hr with h | ⟨ad', h', hcell⟩
    · subst h; simp at hj
    · cases h'; exact hcell j u hj
theorem wpList_copy_rdK {P : Program} {w : World} {ops : Array Oper} {rest : List Oper} {o : Oper} {a : Act} {Q : Exit → Act → World → Prop} (hgd : o.guard = none) (s x : Operand) (t : TypeId)
    (ho : o.op = .call { callee := .builtin .append, args := #[s, x], argTypes := #[t, t] })
    (e : TypeId) (i : TypeInfo) (z : Value) (k bytes : Nat) (ht : P.underlying t = some (.slice e)) (hi : P.info? e = some i) (hz : i.zero = some z)
    (hsize : i.size = k) (hby : i.bytes = bytes) (hzs : z.cells.size = k) (hk : 0 < k) (hs : a.eval s = .slice (some ⟨w.heap.size, 0, none⟩) 0 0)
    (A : Option Addr) (m c : Nat) (news : List Value) (hx : a.eval x = .slice A m c) (hm : news.length = m * k) (hc : A = none → c = 0 ∧ m = 0) (hr : RdC w A news) (h1 : ∀ u ∈ news, u.oneCell' = true)
    (h63 : m ≤ maxLen) (hbytes : m * bytes ≤ 140737488355328)
    (h : ∀ v' w', w'.ownsRow w.heap.size e k v' m news → Below w.heap.size w w' → wpList P ops Q rest (a.put o.dst v') w') :
    wpList P ops Q (o :: rest) a (w.alloc (.cells #[] e)) := by
  refine wpList_append_rdK hgd s x t ho w.heap.size e i z k bytes ht hi hz hsize hby hzs hk _ 0 [] hs (World.ownsRow_made w #[] 0 (Nat.le_refl _) (by unfold maxLen; omega) (by simp)) A m c news hx hm hc (hr.keep ((Below.refl _ _).alloc (Nat.le_refl _) _)) h1 (by simpa using h63) (by simpa using hbytes) (by simp) ?_
  intro v' w' hown hg hat
  rw [Nat.zero_add, List.nil_append] at hown
  exact h v' w' hown (((Below.refl _ _).alloc (Nat.le_refl _) _).grown hg (by simp) (fun k hk => by simp [Value.ownBlock] at hk; omega))
/-- a copy of a row. -/
def CopiedK (w0 : World) (e : TypeId) (k n : Nat) (cs : List Value) (x : Ending) (w : World) : Prop := ∃ A c, x = .returned (.slice A n c) ∧ w.ownsRow w0.heap.size e k (.slice A n c) n cs ∧ Below w0.heap.size w0 w
theorem own_slice {w : World} {base : Nat} {e : TypeId} {k : Nat} {v : Value} {n : Nat} {xs : List Value} (h : w.ownsRow base e k v n xs) : ∃ A c, v = .slice A n c := by
  rcases h.2 with ⟨rfl, rfl⟩ | ⟨g, cap, cur, rfl, _⟩
  · exact ⟨_, _, rfl⟩
  · exact ⟨_, _, rfl⟩
theorem own_none (w : World) (base : Nat) (e : TypeId) (k : Nat) : w.ownsRow base e k (.slice none 0 0) 0 [] := ⟨by simp, .inl ⟨rfl, rfl⟩⟩
set_option maxHeartbeats 400000 in
theorem ccloneR (A : Option Addr) (n c : Nat) (cs : List Value) (w : World) (hm : cs.length = n * 2) (hr : RdC w A cs) (h1 : ∀ u ∈ cs, u.oneCell' = true) (hn : n ≤ 16777216) (hnil : A = none → c = 0) (hnc : n ≤ c) :
    Calls Try.prog 53 #[.slice A n c] w (CopiedK w 89 2 n cs) := by
  obtain ⟨i0, hi, hz0, hz1, hz2⟩ := info_parts info_run
  have q := fun (W : World) (a : Option Addr) (n c n' c' : Nat) => Lib.run_eql_slice_nil (P := Try.prog) W _ _ a n c n' c' Try.underlying65
  rcases A with _ | ad
  · have hc := hnil rfl
    subst hc
    obtain rfl : n = 0 := by omega
    have hl : cs = [] := List.eq_nil_of_length_eq_zero (by simpa using hm)
    subst hl
    clear hm hr hnil
    go_enter Try.func53, Try.ntmps53
    go_wp2
    go_ret
    exact ⟨none, 0, rfl, own_none _ _ _ _, Below.refl _ _⟩
  · have HM := Go.Lib.hid hm
    have HR := Go.Lib.hid hr
    have HX := Go.Lib.hid hnil
    have H1 := Go.Lib.hid h1
    clear hm hr hnil h1
    go_enter Try.func53, Try.ntmps53
    go_wp2_with (at_builtin; refine wpList_copy_rdK rfl _ _ 65 rfl 89 i0 (.agg #[.int .i64 0, .slice none 0 0]) 2 32 Try.underlying65 hi hz0 hz1 hz2 rfl (by omega) rfl (some ad) n c cs rfl HM.out (fun h => by cases h) HR.out H1.out (by unfold maxLen; omega) (by omega) ?_; intro v2 w2 hown2 hb2)
    obtain ⟨A2, c2, rfl⟩ := own_slice hown2
    go_ret
    exact ⟨A2, c2, rfl, hown2, hb2⟩
theorem info_buf : (Try.prog.info? 67).map (fun i => (i.zero, i.size, i.bytes)) = some (some (.agg #[.int .u32 0, .int .u32 0, .int .i64 0, .int .i64 0, .int .i64 0, .int .i64 0, .int .i64 0, .bool false, .bool false, .int .i64 0, .int .i64 0, .int .i64 0, .int .u32 0, .int .u32 0, .slice none 0 0, .slice none 0 0, .bool false, .int .i64 0, .slice none 0 0]), 19, 176) := by kernel_rfl
set_option maxHeartbeats 400000 in
theorem ccloneB (A : Option Addr) (n c : Nat) (cs : List Value) (w : World) (hm : cs.length = n * 19) (hr : RdC w A cs) (h1 : ∀ u ∈ cs, u.oneCell' = true) (hn : n ≤ 16777216) (hnil : A = none → c = 0) (hnc : n ≤ c) :
    Calls Try.prog 52 #[.slice A n c] w (CopiedK w 67 19 n cs) := by
  obtain ⟨i0, hi, hz0, hz1, hz2⟩ := info_parts info_buf
  have q := fun (W : World) (a : Option Addr) (n c n' c' : Nat) => Lib.run_eql_slice_nil (P := Try.prog) W _ _ a n c n' c' Try.underlying40
  rcases A with _ | ad
  · have hc := hnil rfl
    subst hc
    obtain rfl : n = 0 := by omega
    have hl : cs = [] := List.eq_nil_of_length_eq_zero (by simpa using hm)
    subst hl
    clear hm hr hnil
    go_enter Try.func52, Try.ntmps52
    go_wp2
    go_ret
    exact ⟨none, 0, rfl, own_none _ _ _ _, Below.refl _ _⟩
  · have HM := Go.Lib.hid hm
    have HR := Go.Lib.hid hr
    have HX := Go.Lib.hid hnil
    have H1 := Go.Lib.hid h1
    clear hm hr hnil h1
    go_enter Try.func52, Try.ntmps52
    go_wp2_with (at_builtin; refine wpList_copy_rdK rfl _ _ 40 rfl 67 i0 _ 19 176 Try.underlying40 hi hz0 hz1 hz2 rfl (by omega) rfl (some ad) n c cs rfl HM.out (fun h => by cases h) HR.out H1.out (by unfold maxLen; omega) (by omega) ?_; intro v2 w2 hown2 hb2)
    obtain ⟨A2, c2, rfl⟩ := own_slice hown2
    go_ret
    exact ⟨A2, c2, rfl, hown2, hb2⟩
/-- a copy of bytes that came in. -/
theorem ccloneV (A : Option Addr) (n c : Nat) (l : List UInt8) (w : World) (V : Nat → Prop) (hn : l.length = n) (h : ByIn w V A c l) (lt : ∀ b, V b → b < w.heap.size) (hl : n ≤ 16777216) :
    Calls Try.prog 40 #[.slice A n c] w fun e w' => ∃ A' c', e = .returned (.slice A' n c') ∧ ByIn w' (growV V w w') A' c' l ∧ (∀ ad, A' = some ad → w.heap.size ≤ ad.block) ∧ Below w.heap.size w w' := by
  subst hn
  refine (cclone A l.length c l w.heap.size w rfl (h.bs.bs lt) (Nat.le_refl _) hl h.nil h.len).mono ?_
  rintro e w' ⟨A', c', rfl, hg⟩
  refine ⟨A', c', rfl, ⟨hg.len, hg.cap, hg.nil, ?_⟩, hg.fresh, hg.below⟩
  rcases hg.bs with h | ⟨ad, rfl, hlt, hc⟩
  · exact .inl h
  · exact .inr ⟨ad, rfl, .inr ⟨hg.fresh ad rfl, hlt⟩, hc⟩
end Go.Proofs.Ytmblkgnjcmneeaa

/- The contract of the document's own Same of bytes. -/
namespace Go.Proofs.Ytmblkgnjcmneeaa
open Go.ChangeShapes Go.WideShapes Go.ChangeAt Go.RowKit
set_option linter.unusedVariables false

theorem dd (w : World) (m n : Nat) : (w.drewN m).drewN n = w.drewN (m + n) := by simp [World.drewN, Nat.add_assoc]
theorem take_eq_succ (a b : List UInt8) (k : Nat) (ha : k < a.length) (hb : k < b.length) (h : a.take k = b.take k) (he : a[k] = b[k]) : a.take (k + 1) = b.take (k + 1) := by
  rw [List.take_succ_eq_append_getElem ha, List.take_succ_eq_append_getElem hb, h, he]
theorem g8_eq (a b : List UInt8) (k : Nat) (ha : k < a.length) (hb : k < b.length) : (g8 a k != g8 b k) = !(a[k] == b[k]) := by
  rw [g8_at a k ha, g8_at b k hb]
  by_cases h : a[k] = b[k]
  · simp [h]
  · have : ¬ ((a[k].toNat : Int) = (b[k].toNat : Int)) := fun e => h (UInt8.toNat_inj.1 (by omega))
    rw [Bool.eq_iff_iff]; simp [h, this]

set_option maxRecDepth 100000 in
set_option maxHeartbeats 1000000 in
theorem rsame (A : Option Addr) (n c : Nat) (a : List UInt8) (A' : Option Addr) (n' c' : Nat) (b : List UInt8) (B B' : Nat) (w : World) (hn : a.length = n) (hn' : b.length = n') (h : Bs w B A a) (h' : Bs w B' A' b) (hl : n ≤ 16777216) (hl' : n' ≤ 16777216) :
    Calls Try.prog 15 #[.slice A n c, .slice A' n' c'] w fun e w' => e = .returned (.bool (a == b)) ∧ ∃ m, w' = w.drewN m := by
  by_cases hne : n = n'
  · subst hne
    have HA := Go.Lib.hid hn
    have HB := Go.Lib.hid hn'
    have t1 : ((n : Int) != (n : Int)) = false := by simp
    have HX := Go.Lib.hid h
    have HX' := Go.Lib.hid h'
    clear hn hn' h h'
    go_enter Try.func15, Try.ntmps15
    go_wp2
    go_loopw [5] (fun i wr => ∃ k : Nat, k ≤ n ∧ i = .int .i64 k ∧ Hid (a.take k = b.take k) ∧ ∃ m, wr = w.drewN m) (fun i _ => n - (intOf i).toNat)
    case atStart => exact ⟨0, Nat.zero_le _, rfl, Go.Lib.hid rfl, 0, rfl⟩
    case round =>
      obtain ⟨k, hk, rfl, hT, m, rfl⟩ := hrel
      by_cases hlt : k < n
      · obtain ⟨ad, rfl, _, hc⟩ := g8_cell HX.out (k := k) (by rw [HA.out]; exact hlt)
        obtain ⟨ad', rfl, _, hc'⟩ := g8_cell HX'.out (k := k) (by rw [HB.out]; exact hlt)
        have HE := Go.Lib.hid (g8_eq a b k (by rw [HA.out]; exact hlt) (by rw [HB.out]; exact hlt))
        have i0 : (k : Int) < (n : Int) := by omega
        by_cases he : a[k]'(by rw [HA.out]; exact hlt) = b[k]'(by rw [HB.out]; exact hlt)
        · have HS := Go.Lib.hid (take_eq_succ a b k _ _ hT.out he)
          have t2 : (g8 a k != g8 b k) = false := by rw [HE.out]; simp [he]
          clear he HE
          generalize g8 a k = x at *
          generalize g8 b k = y at *
          go_wp2
          go_quiet (fail)
          go_wp2
          go_roundw
          case rel => exact ⟨k + 1, by omega, by go_num, HS, _, rfl⟩
          case measure => simp [intOf]; omega
        · have t2 : (g8 a k != g8 b k) = true := by rw [HE.out]; simp [he]
          have HF : Hid ((a == b) = false) := Go.Lib.hid (by rw [beq_eq_false_iff_ne]; intro e; subst e; exact he rfl)
          clear he HE
          generalize g8 a k = x at *
          generalize g8 b k = y at *
          go_wp2
          go_quiet (fail)
          go_wp2
          go_ret
          exact ⟨ret_bool HF.out.symm, _, dd _ _ _⟩
      · have HF : Hid ((a == b) = true) := Go.Lib.hid (by
          have e := hT.out
          rw [List.take_of_length_le (by rw [HA.out]; omega), List.take_of_length_le (by rw [HB.out]; omega)] at e
          simpa using e)
        go_wp2
        go_ret
        exact ⟨ret_bool HF.out.symm, _, rfl⟩
  · have t1 : ((n : Int) != (n' : Int)) = true := by rw [bne_iff_ne]; omega
    have HF : Hid ((a == b) = false) := Go.Lib.hid (by rw [beq_eq_false_iff_ne]; intro e; subst e; exact hne (by omega))
    clear hn hn' h h'
    go_enter Try.func15, Try.ntmps15
    go_wp2
    go_ret
    exact ⟨ret_bool HF.out.symm, 0, rfl⟩

theorem rsame_d (A : Option Addr) (n c : Nat) (a : List UInt8) (A' : Option Addr) (n' c' : Nat) (b : List UInt8) (B B' : Nat) (w : World) (hn : a.length = n) (hn' : b.length = n') (h : Bs w B A a) (h' : Bs w B' A' b) (hl : n ≤ 16777216) (hl' : n' ≤ 16777216) (r : Bool) (hr : (a == b) = r) :
    Calls Try.prog 15 #[.slice A n c, .slice A' n' c'] w fun e w' => e = .returned (.bool r) ∧ ∃ m, w' = w.drewN m := hr ▸ rsame A n c a A' n' c' b B B' w hn hn' h h' hl hl'

theorem rsame_x (A : Option Addr) (n c : Nat) (a : List UInt8) (A' : Option Addr) (n' c' : Nat) (b : List UInt8) (B B' : Nat) (W X : World) (r : Bool) (hr : (a == b) = r) (hn : a.length = n) (hn' : b.length = n') (h : Bs W B A a) (hB : B ≤ W.heap.size) (h' : Bs W B' A' b) (hB' : B' ≤ W.heap.size) (hl : n ≤ 16777216) (hl' : n' ≤ 16777216) (x : Below W.heap.size W X) :
    Calls Try.prog 15 #[.slice A n c, .slice A' n' c'] X fun e w' => e = .returned (.bool r) ∧ ∃ m, w' = X.drewN m :=
  rsame_d A n c a A' n' c' b B B' X hn hn' (h.below (x.mono hB)) (h'.below (x.mono hB')) hl hl' r hr

end Go.Proofs.Ytmblkgnjcmneeaa
