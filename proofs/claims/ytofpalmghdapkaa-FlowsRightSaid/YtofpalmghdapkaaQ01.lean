/- Lemmas, several texts in one. -/
import Derived.Lib.Hide
import Derived.WalkKit
import Derived.ProofKit
import Derived.OpenShut
import Derived.Below
import Derived.OwnWalk
import Derived.Maps.AppendAt
import Derived.Laws.AppendOwnNone
import Derived.Deep.Draws
import Derived.ChangeSlices
import Derived.ChangeSame
import Derived.Carry
import Derived.IntWalk
import Derived.Laws.BitsAllLaws
import Derived.Test.YtofpalmghdapkaaRows
import Derived.Deep.QuietTactic
import Derived.Deep.RegionHeld3
import Derived.BigQuiet
import Derived.Laws.OwnMore
import Derived.Laws.CopyOwn
import Derived.Deep.AppendLies
import Derived.Deep.DeepCutAuto
import Derived.Deep.CutBlock
import Derived.StillTailTactics
import Derived.Deep.Onto
import Derived.Lib.SliceRun
/- Memory as it is met in the walks: a slice that reads as a list; a world that has not turned below a block; an append onto a row of the call's own. No condition.  -/
namespace Go.Proofs.Ytofpalmghdapkaa
open Go.ChangeShapes Go.WideShapes Go.ChangeAt Go.RowKit

theorem ret_int {k : IntKind} {a b : Int} (h : a = b) : Ending.returned (.int k a) = .returned (.int k b) := by rw [h]
theorem ret_bool {a b : Bool} (h : a = b) : Ending.returned (.bool a) = .returned (.bool b) := by rw [h]

theorem add_shift (ad : Addr) (k j : Nat) (hk : 0 < k) : ({ block := ad.block, off := ad.off + k } : Addr).add j = ad.add (k + j) := by
  unfold Addr.add
  by_cases h : j = 0
  · subst h; rw [if_pos rfl, if_neg (by omega)]; rfl
  · rw [if_neg h, if_neg (by omega)]; simp only [Nat.add_assoc]
theorem add_pos (ad : Addr) (k : Nat) (hk : 0 < k) : ad.add k = { block := ad.block, off := ad.off + k } := by
  unfold Addr.add; rw [if_neg (by omega)]
theorem add_zero (ad : Addr) : ad.add 0 = ad := by unfold Addr.add; simp
theorem add_own (g k : Nat) : (⟨g, 0, none⟩ : Addr).add k = ⟨g, k, none⟩ := by rw [add_plain]; simp

theorem below_dn {B : Nat} {a w : World} (h : Below B a w) (n : Nat) : Below B a (w.drewN n) := ⟨h.os, h.tape, h.output, h.size, h.block⟩
theorem below_drew {B : Nat} {a w : World} (h : Below B a w) : Below B a w.drew := ⟨h.os, h.tape, h.output, h.size, h.block⟩
theorem bcell {W w1 : World} (hb : Below W.heap.size W w1) : (∀ b o, b < W.heap.size → w1.cell? ⟨b, o, none⟩ = W.cell? ⟨b, o, none⟩) ∧ (∀ b o, b < W.heap.size → w1.frozen? ⟨b, o, none⟩ = W.frozen? ⟨b, o, none⟩) :=
  ⟨fun b o h => hb.cell (p := ⟨b, o, none⟩) h, fun b o h => hb.frozen (p := ⟨b, o, none⟩) h⟩
theorem cells_keep {X Y : World} {B k : Nat} {v : Value} (hb : Below X.heap.size X Y) (hB : B < X.heap.size) (h : X.cell? ⟨B, k, none⟩ = some v) : Y.cell? ⟨B, k, none⟩ = some v := ((bcell hb).1 B k hB).trans h
theorem up {P : Program} {f : FuncId} {args : Array Value} {w W : World} {v : Value} (h : Calls P f args w fun e w' => e = .returned v ∧ Below w.heap.size w w') (hb : Below W.heap.size W w) :
    Calls P f args w fun e w' => e = .returned v ∧ Below W.heap.size W w' :=
  h.mono fun _ _ ⟨he, hw⟩ => ⟨he, hb.trans (hw.mono hb.size)⟩

/-- the slice at A reads as these values, below block B. -/
def Rd (w : World) (B : Nat) (A : Option Addr) (xs : List Value) : Prop :=
  xs = [] ∨ ∃ ad, A = some ad ∧ ad.block < B ∧ ∀ (j : Nat) (u : Value), xs[j]? = some u → w.cell? (ad.add j) = some u

section
variable {w w' : World} {B B' : Nat} {A : Option Addr} {xs : List Value}
theorem Rd.keep (h : Rd w B A xs) (hk : ∀ p : Addr, p.block < B → w'.cell? p = w.cell? p) : Rd w' B A xs := by
  rcases h with h | ⟨ad, e, hlt, hc⟩
  · exact .inl h
  · exact .inr ⟨ad, e, hlt, fun j b hj => (hk _ (by rw [block_add]; exact hlt)).trans (hc j b hj)⟩
theorem Rd.below (h : Rd w B A xs) (hb : Below B w w') : Rd w' B A xs := h.keep fun _ hp => hb.cell hp
theorem Rd.drewN (h : Rd w B A xs) (n : Nat) : Rd (w.drewN n) B A xs := h
theorem Rd.drew (h : Rd w B A xs) : Rd w.drew B A xs := h
theorem Rd.more (h : Rd w B A xs) (hB : B ≤ B') : Rd w B' A xs := by
  rcases h with h | ⟨ad, e, hlt, hc⟩
  · exact .inl h
  · exact .inr ⟨ad, e, by omega, hc⟩
theorem Rd.alloc (h : Rd w B A xs) (hB : B ≤ w.heap.size) (o : Obj) : Rd (w.alloc o) B A xs := h.below ((Below.refl _ _).alloc hB o)
theorem Rd.setCell (h : Rd w B A xs) {p : Addr} (hB : B ≤ p.block) (u : Value) : Rd (w.setCell p u) B A xs := h.below ((Below.refl _ _).setCell hB u)
theorem Rd.take (h : Rd w B A xs) (k : Nat) : Rd w B A (xs.take k) := by
  rcases h with h | ⟨ad, e, hlt, hc⟩
  · exact .inl (by rw [h]; simp)
  · exact .inr ⟨ad, e, hlt, fun j b hj => hc j b (by rw [List.getElem?_take] at hj; split at hj <;> simp_all)⟩
/-- the rest behind k, at the address that a cut 's[k:]' has: whatever the capacity. -/
theorem Rd.cut (h : Rd w B A xs) (k cap : Nat) (hc : xs.length ≤ cap) (hk : 0 < k) :
    Rd w B (if cap = k then A else A.map fun ad => { block := ad.block, off := ad.off + k }) (xs.drop k) := by
  by_cases hl : xs.length ≤ k
  · exact .inl (List.drop_of_length_le hl)
  rcases h with h | ⟨ad, rfl, hlt, hcell⟩
  · subst h; simp at hl
  · refine .inr ⟨{ block := ad.block, off := ad.off + k }, by rw [if_neg (by omega)]; rfl, hlt, fun j u hj => ?_⟩
    rw [add_shift ad k j hk]
    exact hcell _ u (by rw [List.getElem?_drop] at hj; exact hj)
theorem Rd.at_ (h : Rd w B A xs) {k : Nat} (hk : k < xs.length) : ∃ ad, A = some ad ∧ ad.block < B ∧ w.cell? (ad.add k) = some xs[k] := by
  rcases h with h | ⟨ad, rfl, hlt, hcell⟩
  · subst h; simp at hk
  · exact ⟨ad, rfl, hlt, hcell k _ (List.getElem?_eq_getElem hk)⟩
/-- a row of the call's own reads as what it owns. -/
theorem rd_of_own {base : Nat} {e : TypeId} {v : Value} {n : Nat} (h : w.ownsRow base e 1 v n xs) :
    ∃ A c, v = .slice A n c ∧ n ≤ c ∧ c ≤ maxLen ∧ (A = none → c = 0) ∧ Rd w w.heap.size A xs := by
  rcases h.2 with ⟨rfl, rfl⟩ | ⟨g, cap, cur, rfl, hb, hh, hn, hm, hs, ht⟩
  · exact ⟨none, 0, rfl, by omega, by unfold maxLen; omega, fun _ => rfl, .inl (List.eq_nil_of_length_eq_zero (by simpa using h.1))⟩
  · exact ⟨_, cap, rfl, hn, hm, fun h => by simp at h, .inr ⟨_, rfl, (h.lt g rfl).2, h.cells rfl⟩⟩
/-- where something is owned, it lies at the head of a block of the call's own; its cells, and that none is frozen. -/
theorem own_form {base : Nat} {e : TypeId} {v : Value} {n : Nat} (h : w.ownsRow base e 1 v n xs) (hn : 0 < n) :
    ∃ g c, v = .slice (some ⟨g, 0, none⟩) n c ∧ base ≤ g ∧ g < w.heap.size ∧ n ≤ c ∧ c ≤ maxLen := by
  rcases h.2 with ⟨rfl, rfl⟩ | ⟨g, cap, cur, rfl, hb, hh, hnc, hm, hs, ht⟩
  · omega
  · exact ⟨g, cap, rfl, hb, (h.lt g rfl).2, hnc, hm⟩
theorem rd_of_own' {base : Nat} {e : TypeId} {A : Option Addr} {c n : Nat} (h : w.ownsRow base e 1 (.slice A n c) n xs) : Rd w w.heap.size A xs := by
  obtain ⟨A', c', he, _, _, _, hr⟩ := rd_of_own h
  injection he with h1 h2 h3
  subst h1
  exact hr
theorem own_cell {base : Nat} {e : TypeId} {g c n : Nat} (h : w.ownsRow base e 1 (.slice (some ⟨g, 0, none⟩) n c) n xs) (j : Nat) (hj : j < xs.length) : w.cell? ⟨g, j, none⟩ = some xs[j] := by
  rw [h.cellAt j (by have := h.1; omega)]; exact List.getElem?_eq_getElem hj
end

/-- append onto a row of the call's own; what is appended: any slice that reads as a list, nil or not. -/
theorem wpList_append_rd {P : Program} {w : World} {ops : Array Oper} {rest : List Oper} {o : Oper} {a : Act} {Q : Exit → Act → World → Prop} (hgd : o.guard = none) (s x : Operand) (t : TypeId)
    (ho : o.op = .call { callee := .builtin .append, args := #[s, x], argTypes := #[t, t] })
    (base : Nat) (e : TypeId) (i : TypeInfo) (z : Value) (bytes : Nat) (ht : P.underlying t = some (.slice e)) (hi : P.info? e = some i) (hz : i.zero = some z)
    (hsize : i.size = 1) (hby : i.bytes = bytes) (hzs : z.cells.size = 1)
    (v : Value) (n : Nat) (xs : List Value) (hs : a.eval s = v) (hown : w.ownsRow base e 1 v n xs)
    (B : Nat) (A : Option Addr) (m c : Nat) (news : List Value) (hx : a.eval x = .slice A m c) (hm : news.length = m) (hc : A = none → c = 0) (hr : Rd w B A news) (h1 : ∀ u ∈ news, u.oneCell' = true)
    (h63 : n + m ≤ maxLen) (hbytes : (n + m) * bytes ≤ 140737488355328) (hbase : base ≤ w.heap.size)
    (h : ∀ v' w', w'.ownsRow base e 1 v' (n + m) (xs ++ news) → w.grownBy w' v.ownBlock → (v'.ownBlock = v.ownBlock ∨ v'.ownBlock = some w.heap.size) → wpList P ops Q rest (a.put o.dst v') w') :
    wpList P ops Q (o :: rest) a w := by
  subst hm
  rcases A with _ | ad
  · have hn : news = [] := by
      rcases hr with h | ⟨ad, h, _⟩
      · exact h
      · cases h
    subst hn
    have := hc rfl
    subst this
    exact wpList_append_own_none hgd s x t ho base e i 1 ht hi v n xs hs hown hx (h v w (by simpa using hown) (World.grownBy.refl w _) (.inl rfl))
  · refine wpList_append_own_at w hgd s x t ho base e i z 1 bytes ht hi hz hsize hby hzs (by omega) v n xs hs hown ad news.length c news hx (by omega) ?_ h1 h63 hbytes hbase (fun v' w' g1 g2 _ g4 => h v' w' g1 g2 g4)
    intro j u hj
    rcases hr with h | ⟨ad', h', _, hcell⟩
    · subst h; simp at hj
    · cases h'; exact hcell j u hj

/-- a copy: append onto an empty literal that was made just now. -/
theorem wpList_copy_rd {P : Program} {w : World} {ops : Array Oper} {rest : List Oper} {o : Oper} {a : Act} {Q : Exit → Act → World → Prop} (hgd : o.guard = none) (s x : Operand) (t : TypeId)
    (ho : o.op = .call { callee := .builtin .append, args := #[s, x], argTypes := #[t, t] })
    (e : TypeId) (i : TypeInfo) (z : Value) (bytes : Nat) (ht : P.underlying t = some (.slice e)) (hi : P.info? e = some i) (hz : i.zero = some z)
    (hsize : i.size = 1) (hby : i.bytes = bytes) (hzs : z.cells.size = 1) (hs : a.eval s = .slice (some ⟨w.heap.size, 0, none⟩) 0 0)
    (B : Nat) (A : Option Addr) (m c : Nat) (news : List Value) (hx : a.eval x = .slice A m c) (hm : news.length = m) (hc : A = none → c = 0) (hr : Rd w B A news) (hB : B ≤ w.heap.size) (h1 : ∀ u ∈ news, u.oneCell' = true)
    (h63 : m ≤ maxLen) (hbytes : m * bytes ≤ 140737488355328)
    (h : ∀ v' w', w'.ownsRow w.heap.size e 1 v' m news → Below w.heap.size w w' → wpList P ops Q rest (a.put o.dst v') w') :
    wpList P ops Q (o :: rest) a (w.alloc (.cells #[] e)) := by
  refine wpList_append_rd hgd s x t ho w.heap.size e i z bytes ht hi hz hsize hby hzs _ 0 [] hs (World.ownsRow_made w #[] 0 (Nat.le_refl _) (by unfold maxLen; omega) (by simp)) B A m c news hx hm hc (hr.alloc hB _) h1 (by simpa using h63) (by simpa using hbytes) (by simp) ?_
  intro v' w' hown hg hat
  rw [Nat.zero_add, List.nil_append] at hown
  exact h v' w' hown (((Below.refl _ _).alloc (Nat.le_refl _) _).grown hg (by simp) (fun k hk => by simp [Value.ownBlock] at hk; omega))

/-- the same, as a step of a region that draws its order. -/
theorem step_append_rd {P : Program} {w : World} {ops : Array Oper} {o : Oper} {a : Act} {K : Act → World → Prop} {Q : Exit → Act → World → Prop} {E : Prop} (hgd : o.guard = none) (s x : Operand) (t : TypeId)
    (ho : o.op = .call { callee := .builtin .append, args := #[s, x], argTypes := #[t, t] })
    (base : Nat) (e : TypeId) (i : TypeInfo) (z : Value) (bytes : Nat) (ht : P.underlying t = some (.slice e)) (hi : P.info? e = some i) (hz : i.zero = some z)
    (hsize : i.size = 1) (hby : i.bytes = bytes) (hzs : z.cells.size = 1)
    (v : Value) (n : Nat) (xs : List Value) (hs : a.eval s = v) (hown : w.ownsRow base e 1 v n xs)
    (B : Nat) (A : Option Addr) (m c : Nat) (news : List Value) (hx : a.eval x = .slice A m c) (hm : news.length = m) (hc : A = none → c = 0) (hr : Rd w B A news) (h1 : ∀ u ∈ news, u.oneCell' = true)
    (h63 : n + m ≤ maxLen) (hbytes : (n + m) * bytes ≤ 140737488355328) (hbase : base ≤ w.heap.size)
    (h : ∀ v' w', w'.ownsRow base e 1 v' (n + m) (xs ++ news) → w.grownBy w' v.ownBlock → (v'.ownBlock = v.ownBlock ∨ v'.ownBlock = some w.heap.size) → K (a.put o.dst v') w') :
    if Region.wanted o (yielded ops a.tmps) = true then Oper.wp P o a w K Q else E := by
  have hw : Region.wanted o (yielded ops a.tmps) = true := by simp [Region.wanted, hgd]
  rw [if_pos hw]
  subst hm
  rcases A with _ | ad
  · have hn : news = [] := by
      rcases hr with h | ⟨ad, h, _⟩
      · exact h
      · cases h
    subst hn
    have := hc rfl
    subst this
    have hrun := run_append_owned_none (P := P) (w := w) base t o.type e i 1 ht hi v n xs hown
    unfold Oper.wp
    simp [execOp, ho, resolve, invoke, builtin, hs, hx, hrun, Result.andThen]
    exact h v w (by simpa using hown) (World.grownBy.refl w _) (.inl rfl)
  · obtain ⟨v', w', hrun, h2, h3, _, h5⟩ := run_append_own_at (P := P) w base t o.type e i z 1 bytes ht hi hz hsize hby hzs (by omega) v n xs hown ad news.length c news (by omega) (by
      intro j u hj
      rcases hr with h | ⟨ad', h', _, hcell⟩
      · subst h; simp at hj
      · cases h'; exact hcell j u hj) h1 h63 hbytes hbase
    unfold Oper.wp execOp
    simp only [ho, resolve, invoke, builtin, Sem.run_bind, Sem.run_pure, Result.andThen_ok, List.map_toArray, List.map_cons, List.map_nil, hs, hx, hrun]
    exact h v' w' h2 h3 h5

/-- a byte as a value. -/
def bv (b : UInt8) : Value := .int .u8 (b.toNat : Int)
theorem bv_one (l : List UInt8) : ∀ u ∈ l.map bv, u.oneCell' = true := by
  intro u hu
  obtain ⟨b, _, rfl⟩ := List.mem_map.1 hu
  rfl
/-- the slice at A reads as these bytes, below block B. -/
def Bs (w : World) (B : Nat) (A : Option Addr) (l : List UInt8) : Prop :=
  l = [] ∨ ∃ ad, A = some ad ∧ ad.block < B ∧ ∀ (j : Nat) (b : UInt8), l[j]? = some b → w.cell? (ad.add j) = some (.int .u8 (b.toNat : Int))
theorem Bs.drewN {w : World} {B : Nat} {A : Option Addr} {l : List UInt8} (h : Bs w B A l) (n : Nat) : Bs (w.drewN n) B A l := h
theorem Bs.below {w w' : World} {B : Nat} {A : Option Addr} {l : List UInt8} (h : Bs w B A l) (hb : Below B w w') : Bs w' B A l := by
  rcases h with h | ⟨ad, e, hlt, hc⟩
  · exact .inl h
  · exact .inr ⟨ad, e, hlt, fun j b hj => (hb.cell (by rw [block_add]; exact hlt)).trans (hc j b hj)⟩
theorem Bs.rd {w : World} {B : Nat} {A : Option Addr} {l : List UInt8} (h : Bs w B A l) : Rd w B A (l.map bv) := by
  rcases h with h | ⟨ad, e, hlt, hc⟩
  · exact .inl (by rw [h]; rfl)
  · refine .inr ⟨ad, e, hlt, fun j u hj => ?_⟩
    rw [List.getElem?_map, Option.map_eq_some_iff] at hj
    obtain ⟨b, hb, rfl⟩ := hj
    exact hc j b hb
theorem Rd.bs {w : World} {B : Nat} {A : Option Addr} {l : List UInt8} (h : Rd w B A (l.map bv)) : Bs w B A l := by
  rcases h with h | ⟨ad, e, hlt, hc⟩
  · exact .inl (by simpa using h)
  · exact .inr ⟨ad, e, hlt, fun j b hj => hc j _ (by rw [List.getElem?_map, hj]; rfl)⟩
theorem Bs.more {w : World} {B B' : Nat} {A : Option Addr} {l : List UInt8} (h : Bs w B A l) (hB : B ≤ B') : Bs w B' A l := by
  rcases h with h | ⟨ad, e, hlt, hc⟩
  · exact .inl h
  · exact .inr ⟨ad, e, by omega, hc⟩
theorem Bs.take {w : World} {B : Nat} {A : Option Addr} {l : List UInt8} (h : Bs w B A l) (k : Nat) : Bs w B A (l.take k) := by
  rcases h with h | ⟨ad, e, hlt, hc⟩
  · exact .inl (by rw [h]; simp)
  · exact .inr ⟨ad, e, hlt, fun j b hj => hc j b (by rw [List.getElem?_take] at hj; split at hj <;> simp_all)⟩
/-- the rest behind k, at the address that a cut 's[k:]' has. -/
theorem Bs.cut {w : World} {B : Nat} {A : Option Addr} {l : List UInt8} (h : Bs w B A l) (k cap : Nat) (hc : l.length ≤ cap) (hk : 0 < k) :
    Bs w B (if cap = k then A else A.map fun ad => { block := ad.block, off := ad.off + k }) (l.drop k) := by
  have := (h.rd).cut k cap (by simpa using hc) hk
  rw [← List.map_drop] at this
  exact this.bs
theorem Bs.at_ {w : World} {B : Nat} {A : Option Addr} {l : List UInt8} (h : Bs w B A l) {k : Nat} (hk : k < l.length) : ∃ ad, A = some ad ∧ ad.block < B ∧ w.cell? (ad.add k) = some (.int .u8 (l[k].toNat : Int)) := by
  rcases h with h | ⟨ad, rfl, hlt, hcell⟩
  · subst h; simp at hk
  · exact ⟨ad, rfl, hlt, hcell k _ (List.getElem?_eq_getElem hk)⟩
theorem Bs.nil_ {w : World} {B : Nat} {A : Option Addr} : Bs w B A [] := .inl rfl
end Go.Proofs.Ytofpalmghdapkaa

/- The end of a law's proof: where the call returned true and nothing that was there has turned, the row's promise holds; and a slice of bytes among the arguments, opened. No condition.  -/
namespace Go.Proofs.Ytofpalmghdapkaa
open Go.ChangeShapes Go.WideShapes Go.ChangeAt Go.RowKit

section
variable {H : Type} {enc : TypeId × Value → H} {P : Program}

theorem trodAll_stays (hl : laidOutB P = true) {W W' : World} (hb : Below W.heap.size W W') :
    ∀ {ts : List TypeId} {vs : List Value} {ds : List (DataW H)} {ps : List MemPlace}, (ts.all fun t => P.readableRec t && decide (t < P.types.size)) = true → (∀ x ∈ ps, x.block < W.heap.size) →
      DataW.TrodAll enc P W 0 (fun _ => true) true ts vs ds ps → DataW.TrodAll enc P W' 0 (fun b => decide (b < W.heap.size)) true ts vs ds ps
  | [], _, _, _, _, _, h => by
    obtain ⟨rfl, rfl, rfl⟩ := trodAll_nil h
    exact trodAll_mk0
  | t :: ts, _, _, _, hr, hlt, h => by
    obtain ⟨v, vs, d, ds, p, q, rfl, rfl, rfl, h1, h2⟩ := trodAll_cons h
    simp only [List.all_cons, Bool.and_eq_true, decide_eq_true_eq] at hr
    exact trodAll_cons_mk (Below.trod hl hr.1.1 hr.1.2 h1 hb (fun x hx => hlt x (List.mem_append_left _ hx)))
      (trodAll_stays hl hb hr.2 (fun x hx => hlt x (List.mem_append_right _ hx)) h2)

/-- a law's end: it returned true, and below the heap's old size nothing has turned. -/
theorem law_end {f : Func} {s : ChangeSpec} {apart fresh handsOn : Bool} {W W' : World} {args : Array Value} {ds gs : List (DataW H)} {before : List MemPlace} {tb : TypeId}
    (hl : laidOutB P = true) (hr : (f.params.toList.all fun t => P.readableRec t && decide (t < P.types.size)) = true) (hv : s.vars = []) (hrt : f.resultTypes = #[tb]) (htb : P.underlying tb = some .bool)
    (hs : (s.fn H (ds ++ gs)).results = [.lit (.bool true)] ∧ (s.fn H (ds ++ gs)).args = ds ∧ (s.fn H (ds ++ gs)).vars = [])
    (hW : DataW.Whole enc P f.params.toList s.vars apart W args.toList ds gs before) (hb : Below W.heap.size W W') :
    s.post enc P f apart fresh handsOn false W args (.bool true) W' := by
  have hlt : ∀ p ∈ before, p.block < W.heap.size := fun p hp => hW.lt p hp
  obtain ⟨p, q, hA, hV, hpq, _, _⟩ := id hW
  rw [hv] at hV
  obtain ⟨_, rfl⟩ := trodVars_none hV
  rw [List.append_nil] at hpq
  subst hpq
  refine ⟨ds, gs, before, [], before, [], hW, ?_, ?_, ?_, hb.frame _, fun h => by cases h⟩
  · rw [hs.1, hrt]
    exact trodAll_mk1 (shut_bool htb _)
  · rw [hs.2.1]
    exact trodAll_stays hl hb hr hlt hA
  · rw [hv, hs.2.2]
    exact rfl
/-- an argument that is a slice of bytes: nil, empty or not, it reads as a list of bytes. -/
theorem open_bytes {w : World} {base b0 : Nat} {spare : Nat → Bool} {held : Bool} {r : Reach} {t e : TypeId} {v : Value} {d : DataW H} {ps : List MemPlace} (ht : P.underlying t = some (.slice e)) (he : P.underlying e = some (.int .u8)) (hc : P.cellsOf e = 1)
    (hval : Value.okWide P w r b0 t v) (hd : DataW.Trod enc P w base spare held t v d ps) :
    ∃ (A : Option Addr) (l : List UInt8) (cp : Nat), v = .slice A l.length cp ∧ l.length ≤ cp ∧ cp ≤ 9223372036854775807 ∧ (A = none → cp = 0) ∧ Rd w w.heap.size A (l.map bv) := by
  obtain ⟨a0, len, cap, rfl⟩ := okWide_slice ht hval
  obtain ⟨fuel, hf⟩ := hd
  rcases open_ints ht he hc hf with ⟨hcs, _⟩ | ⟨a, len', cap', zs, hcs, _, hl, hm, hz, _, hcell, hwz⟩
  · simp [Value.cells] at hcs
    obtain ⟨rfl, rfl, rfl⟩ := hcs
    exact ⟨none, [], 0, rfl, by simp, by omega, fun _ => rfl, .inl rfl⟩
  · simp [Value.cells] at hcs
    obtain ⟨rfl, rfl, rfl⟩ := hcs
    have hlz : len ≤ zs.length := by rw [hz]; split <;> omega
    have hll : ((zs.take len).map fun n => UInt8.ofNat n.toNat).length = len := by simp; omega
    unfold maxLen at hm
    refine ⟨some a, (zs.take len).map fun n => UInt8.ofNat n.toNat, cap, by rw [hll], by omega, by omega, fun h => (by cases h), ?_⟩
    by_cases h0 : len = 0
    · subst h0; exact .inl (by simp)
    · have hc0 := hcell 0 (by omega)
      have hlt := World.block_lt_of_cell? w _ hc0
      rw [block_add] at hlt
      refine .inr ⟨a, rfl, hlt, fun j u hj => ?_⟩
      rw [List.getElem?_map, Option.map_eq_some_iff] at hj
      obtain ⟨b, hb, rfl⟩ := hj
      rw [List.getElem?_map, Option.map_eq_some_iff] at hb
      obtain ⟨n, hn, rfl⟩ := hb
      rw [List.getElem?_take] at hn
      split at hn
      · rename_i hjl
        have hjz : j < zs.length := by omega
        rw [List.getElem?_eq_getElem hjz] at hn
        obtain rfl := Option.some.inj hn
        rw [hcell j hjz]
        have hw := hwz zs[j] (List.getElem_mem hjz)
        simp only [Lit.wf, Bool.and_eq_true, decide_eq_true_eq] at hw
        have hw0 : 0 ≤ zs[j] ∧ zs[j] ≤ 255 := hw
        have hg : zs.getD j 0 = zs[j] := by simp [List.getD, hjz]
        unfold bv
        rw [hg, UInt8.toNat_ofNat_of_lt' (by show _ < 256; omega)]
        congr 2; omega
      · cases hn
end
end Go.Proofs.Ytofpalmghdapkaa

/- The plain mathematics of one's complement sums of words of 16 bits. No condition beyond bounds. -/
namespace Go.Proofs.Ytofpalmghdapkaa
open Go.RowKit

/-- what stands above 16 bits is added below, till nothing stands there. -/
def fo (n : Int) : Int := if n ≤ 0 then 0 else (n - 1) % 65535 + 1

theorem fo_lo (n : Int) : 0 ≤ fo n := by unfold fo; split <;> omega
theorem fo_hi (n : Int) : fo n ≤ 65535 := by unfold fo; split <;> omega
theorem fo_small (n : Int) (h0 : 0 ≤ n) (h : n ≤ 65535) : fo n = n := by unfold fo; split <;> omega
theorem fo_step (n : Int) (h : 65535 < n) : fo (n / 65536 + n % 65536) = fo n := by unfold fo; split <;> split <;> omega
theorem fo_fo (a b : Int) (ha : 0 ≤ a) (hb : 0 ≤ b) : fo (fo a + b) = fo (a + b) := by unfold fo; repeat' split <;> try omega
theorem fo_fo' (a b : Int) (ha : 0 ≤ a) (hb : 0 ≤ b) : fo (a + fo b) = fo (a + b) := by rw [Int.add_comm, fo_fo b a hb ha, Int.add_comm]
theorem fo_sub (n : Int) (h : 65535 < n) (h2 : n ≤ 131070) : n - 65535 = fo n := by unfold fo; split <;> omega

theorem u16_not (x : Int) (h0 : 0 ≤ x) (h1 : x ≤ 65535) : bits .xor .u16 65535 x = 65535 - x := by
  rw [u16_xor 65535 x (by omega) (by omega) h0 (by omega)]
  obtain ⟨n, rfl⟩ := Int.eq_ofNat_of_zero_le h0
  have hn : n < 2 ^ 16 := by omega
  have e : (65535 ^^^ n : Nat) = 65535 - n := by
    apply Nat.eq_of_testBit_eq
    intro i
    have h := Nat.testBit_two_pow_sub_succ hn i
    rw [show 2 ^ 16 - (n + 1) = 65535 - n by omega] at h
    rw [h, Nat.testBit_xor]
    have h2 := Nat.testBit_two_pow_sub_one 16 i
    rw [show 2 ^ 16 - 1 = 65535 by omega] at h2
    rw [h2]
    by_cases hi : i < 16
    · simp [hi]
    · have hf : n.testBit i = false := Nat.testBit_lt_two_pow (Nat.lt_of_lt_of_le hn (Nat.pow_le_pow_right (by omega) (by omega)))
      simp [hi, hf]
  show ((65535 ^^^ n : Nat) : Int) = _
  rw [e]; omega

theorem u64_or8 (a b : Int) (a0 : 0 ≤ a) (a1 : a ≤ 255) (b0 : 0 ≤ b) (b1 : b ≤ 255) : bits .or .u64 (a * 256) b = a * 256 + b := by
  rw [u64_or _ _ (by omega) (by omega) b0 (by omega), nat_join 8 _ _ (by omega) (by omega)]
  omega
theorem u16_or8 (a b : Int) (a0 : 0 ≤ a) (a1 : a ≤ 255) (b0 : 0 ≤ b) (b1 : b ≤ 255) : bits .or .u16 (a * 256) b = a * 256 + b := by
  rw [u16_or _ _ (by omega) (by omega) b0 (by omega), nat_join 8 _ _ (by omega) (by omega)]
  omega

/-- what a check sum is when a word that was old is now another. -/
def mend (c o n : Int) : Int := 65535 - fo (fo (65535 - c + (65535 - o)) + n)
theorem mend_lo (c o n : Int) : 0 ≤ mend c o n := by unfold mend; have := fo_hi (fo (65535 - c + (65535 - o)) + n); omega
theorem mend_hi (c o n : Int) : mend c o n ≤ 65535 := by unfold mend; have := fo_lo (fo (65535 - c + (65535 - o)) + n); omega

def pseudo (s d p z : Int) : Int := fo (s / 65536 + s % 65536 + (d / 65536 + d % 65536) + p % 65536 + z % 65536)

/-- the words' total. -/
def tot : List UInt8 → Int
  | [] => 0
  | [a] => 256 * (a.toNat : Int)
  | a :: b :: r => 256 * (a.toNat : Int) + (b.toNat : Int) + tot r
theorem tot_lo : ∀ l : List UInt8, 0 ≤ tot l
  | [] => by simp [tot]
  | [a] => by simp only [tot]; omega
  | a :: b :: r => by have := tot_lo r; simp only [tot]; omega
theorem tot_hi : ∀ l : List UInt8, tot l ≤ 65535 * (l.length : Int)
  | [] => by simp [tot]
  | [a] => by have := a.toNat_lt; simp [tot]; omega
  | a :: b :: r => by have := tot_hi r; have := a.toNat_lt; have := b.toNat_lt; simp [tot]; omega

def wrds : List UInt8 → List Int
  | [] => []
  | [a] => [256 * (a.toNat : Int)]
  | a :: b :: r => (256 * (a.toNat : Int) + (b.toNat : Int)) :: wrds r
theorem wrds_append : ∀ (p q : List UInt8), p.length % 2 = 0 → wrds (p ++ q) = wrds p ++ wrds q
  | [], q, _ => rfl
  | [a], q, h => by simp at h
  | a :: b :: r, q, h => by
    have := wrds_append r q (by simp at h; omega)
    simp only [List.cons_append, wrds, this]
theorem wrds_length : ∀ (p : List UInt8), (wrds p).length = (p.length + 1) / 2
  | [] => rfl
  | [a] => by simp [wrds]
  | a :: b :: r => by have := wrds_length r; simp only [wrds, List.length_cons, this]; omega
theorem wrds_sum : ∀ (p : List UInt8), (wrds p).sum = tot p
  | [] => rfl
  | [a] => by simp [wrds, tot]
  | a :: b :: r => by have := wrds_sum r; simp [wrds, tot, this]
theorem wrds_bd : ∀ (p : List UInt8), ∀ x ∈ wrds p, 0 ≤ x ∧ x ≤ 65535
  | [] => by simp [wrds]
  | [a] => by have := a.toNat_lt; intro x hx; simp [wrds] at hx; omega
  | a :: b :: r => by
    have h1 := a.toNat_lt
    have h2 := b.toNat_lt
    have := wrds_bd r
    intro x hx
    simp only [wrds, List.mem_cons] at hx
    rcases hx with rfl | hx
    · omega
    · exact this x hx
theorem wrds_two (l : List UInt8) (i : Nat) (hi : i % 2 = 0) (h : i + 1 < l.length) : wrds (l.take (i + 2)) = wrds (l.take i) ++ [256 * (l[i].toNat : Int) + (l[i + 1].toNat : Int)] := by
  have e : l.take (i + 2) = l.take i ++ [l[i], l[i + 1]] := by
    rw [show i + 2 = i + 1 + 1 from rfl, List.take_succ_eq_append_getElem (by omega), List.take_succ_eq_append_getElem (by omega), List.append_assoc]; rfl
  rw [e, wrds_append _ _ (by rw [List.length_take, Nat.min_eq_left (by omega)]; exact hi)]
  rfl
theorem wrds_one (l : List UInt8) (i : Nat) (hi : i % 2 = 0) (h : i + 1 = l.length) : wrds (l.take (i + 2)) = wrds (l.take i) ++ [256 * ((l[i]'(by omega)).toNat : Int)] := by
  have e : l.take (i + 2) = l.take i ++ [l[i]] := by
    rw [List.take_of_length_le (by omega)]
    rw [← List.take_succ_eq_append_getElem (by omega), List.take_of_length_le (by omega)]
  rw [e, wrds_append _ _ (by rw [List.length_take, Nat.min_eq_left (by omega)]; exact hi)]
  rfl

end Go.Proofs.Ytofpalmghdapkaa

/- The total of words of which one is another; bytes that all are 0; one byte that is another. Plain mathematics. -/
namespace Go.Proofs.Ytofpalmghdapkaa
open Go.RowKit

theorem tot_set : ∀ (k : Nat) (l : List UInt8) (a b : UInt8) (h : 2 * k + 1 < l.length),
    tot ((l.set (2 * k) a).set (2 * k + 1) b) = tot l - (256 * (l[2 * k].toNat : Int) + (l[2 * k + 1].toNat : Int)) + (256 * (a.toNat : Int) + (b.toNat : Int))
  | 0, x :: y :: r, a, b, h => by simp [tot]; omega
  | k + 1, x :: y :: r, a, b, h => by
    have ih := tot_set k r a b (by simp at h; omega)
    have e : 2 * (k + 1) = 2 * k + 1 + 1 := by omega
    simp only [e, List.set_cons_succ, List.getElem_cons_succ, tot, ih]
    omega
  | 0, [], a, b, h => by simp at h
  | 0, [x], a, b, h => by simp at h
  | k + 1, [], a, b, h => by simp at h
  | k + 1, [x], a, b, h => by simp at h

def allz (l : List UInt8) : Bool := l.all (· == 0)
theorem allz_tot : ∀ l : List UInt8, allz l = true → tot l = 0
  | [], _ => rfl
  | [a], h => by simp [allz] at h; subst h; rfl
  | a :: b :: r, h => by
    simp only [allz, List.all_cons, Bool.and_eq_true, beq_iff_eq] at h
    obtain ⟨rfl, rfl, h⟩ := h
    have := allz_tot r h
    simp only [tot, this]; rfl
theorem tot_allz : ∀ l : List UInt8, allz l = false → 0 < tot l
  | [], h => by simp [allz] at h
  | [a], h => by
    simp [allz] at h
    have : a.toNat ≠ 0 := fun e => h (UInt8.toNat_inj.1 (by simpa using e))
    simp only [tot]; omega
  | a :: b :: r, h => by
    have hr := tot_lo r
    by_cases ha : a = 0
    · by_cases hb : b = 0
      · subst ha hb
        have := tot_allz r (by simpa [allz] using h)
        simp only [tot]; simp; omega
      · have : b.toNat ≠ 0 := fun e => hb (UInt8.toNat_inj.1 (by simpa using e))
        simp only [tot]; omega
    · have : a.toNat ≠ 0 := fun e => ha (UInt8.toNat_inj.1 (by simpa using e))
      simp only [tot]; omega
theorem allz_snoc (l : List UInt8) (j : Nat) (h : j < l.length) : allz (l.take (j + 1)) = (allz (l.take j) && (l[j] == 0)) := by
  unfold allz
  rw [List.take_succ_eq_append_getElem h, List.all_append]; simp

theorem byte_zero (b : UInt8) : ((b.toNat : Int) == 0) = (b == 0) := by
  by_cases h : b = 0
  · subst h; rfl
  · have : ¬ ((b.toNat : Int) = 0) := fun e => h (UInt8.toNat_inj.1 (by simpa using e))
    rw [beq_eq_false_iff_ne.2 h, beq_eq_false_iff_ne.2 this]
theorem tot_word : ∀ (l : List UInt8) (k : Nat) (h : 2 * k + 1 < l.length) (x y : Int) (_ : (l[2 * k].toNat : Int) = x) (_ : (l[2 * k + 1].toNat : Int) = y), 256 * x + y ≤ tot l := by
  intro l k h x y hx hy
  have := tot_set k l 0 0 h
  have h2 := tot_lo ((l.set (2 * k) 0).set (2 * k + 1) 0)
  rw [hx, hy] at this
  simp at this
  omega

/-- mended, it is that of the changed words, where these are not all 0. -/
theorem mend_fits (T o n : Int) (T0 : 0 ≤ T - o) (o0 : 0 ≤ o) (o1 : o ≤ 65535) (n0 : 0 ≤ n) (h : 0 < T - o + n) : mend (65535 - fo T) o n = 65535 - fo (T - o + n) := by
  unfold mend
  rw [show 65535 - (65535 - fo T) + (65535 - o) = fo T + (65535 - o) from by omega, fo_fo T (65535 - o) (by omega) (by omega), fo_fo (T + (65535 - o)) n (by omega) n0]
  congr 1
  unfold fo; split <;> split <;> omega

def b8 (n : Int) : UInt8 := UInt8.ofNat n.toNat
theorem b8_is (n : Int) (h0 : 0 ≤ n) (h1 : n ≤ 255) : ((b8 n).toNat : Int) = n := by
  unfold b8
  rw [UInt8.toNat_ofNat_of_lt' (by show _ < 256; omega)]; omega

theorem fo_top (n : Int) : fo n = 65535 ↔ 0 < n ∧ n % 65535 = 0 := by unfold fo; split <;> omega
/-- with their own check sum among them words have the sum 65535. -/
theorem stands (T : Int) (h : 0 ≤ T) : fo (T + (65535 - fo T)) = 65535 := by
  rw [fo_top]; unfold fo; split <;> omega
theorem tot_one : ∀ (l : List UInt8) (i : Nat) (b : UInt8) (h : i < l.length), ∃ m : Int, (m = 1 ∨ m = 256) ∧ tot (l.set i b) = tot l + m * ((b.toNat : Int) - (l[i].toNat : Int))
  | [], _, _, h => by simp at h
  | [a], 0, b, _ => ⟨256, .inr rfl, by simp only [List.set_cons_zero, List.getElem_cons_zero, tot]; omega⟩
  | [a], i + 1, b, h => by simp at h
  | a :: c :: r, 0, b, _ => ⟨256, .inr rfl, by simp only [List.set_cons_zero, List.getElem_cons_zero, tot]; omega⟩
  | a :: c :: r, 1, b, _ => ⟨1, .inl rfl, by simp only [List.set_cons_zero, List.set_cons_succ, List.getElem_cons_zero, List.getElem_cons_succ, tot]; omega⟩
  | a :: c :: r, i + 2, b, h => by
    obtain ⟨m, hm, e⟩ := tot_one r i b (by simpa using h)
    exact ⟨m, hm, by simp only [List.set_cons_succ, List.getElem_cons_succ, tot, e]; omega⟩
/-- one byte that is another is seen. -/
theorem seen (l : List UInt8) (i : Nat) (b : UInt8) (h : i < l.length) (hb : b ≠ l[i]) (ht : fo (tot l) = 65535) : fo (tot (l.set i b)) ≠ 65535 := by
  obtain ⟨m, hm, e⟩ := tot_one l i b h
  have h1 : b.toNat ≠ l[i].toNat := fun e => hb (UInt8.toNat_inj.1 e)
  have h2 := b.toNat_lt
  have h3 := l[i].toNat_lt
  intro hf
  rw [fo_top] at ht hf
  rw [e] at hf
  rcases hm with rfl | rfl <;> omega
theorem xor_walk (a : UInt8) (x : Int) (h0 : 0 ≤ x) (h1 : x ≤ 255) : bits .xor .u8 (a.toNat : Int) x = ((a ^^^ b8 x).toNat : Int) := by
  have ha := a.toNat_lt
  rw [u8_xor _ x (by omega) (by omega) h0 (by omega), UInt8.toNat_xor]
  have := b8_is x h0 h1
  rw [Int.toNat_natCast, show x.toNat = (b8 x).toNat from by omega]
theorem xor_other (a : UInt8) (x : Int) (h0 : x ≠ 0) (h1 : 0 ≤ x) (h2 : x ≤ 255) : a ^^^ b8 x ≠ a := by
  intro h
  have : b8 x = 0 := by
    have h' : a ^^^ (a ^^^ b8 x) = a ^^^ a := by rw [h]
    simpa [← UInt8.xor_assoc] using h'
  have e := b8_is x h1 h2
  rw [this] at e
  simp at e
  omega

theorem stand_words (L l1 : List UInt8) (k : Nat) (h : 2 * k + 1 < L.length) (e : l1 = (L.set (2 * k) 0).set (2 * k + 1) 0) :
    fo (tot ((l1.set (2 * k) (b8 ((65535 - fo (tot l1)) / 256))).set (2 * k + 1) (b8 ((65535 - fo (tot l1)) % 256)))) = 65535 := by
  have hl : 2 * k + 1 < l1.length := by rw [e]; simpa using h
  have f1 := fo_lo (tot l1)
  have f2 := fo_hi (tot l1)
  have hz1 : l1[2 * k] = 0 := by subst e; rw [List.getElem_set_ne (by omega), List.getElem_set_self]
  have hz2 : l1[2 * k + 1] = 0 := by subst e; rw [List.getElem_set_self]
  rw [tot_set k l1 _ _ hl, hz1, hz2, b8_is _ (by omega) (by omega), b8_is _ (by omega) (by omega)]
  have := stands (tot l1) (tot_lo l1)
  rw [← this]
  congr 1
  simp; omega
end Go.Proofs.Ytofpalmghdapkaa

/- Packets and the bytes of their heads: plain mathematics. No condition beyond bounds. -/
namespace Go.Proofs.Ytofpalmghdapkaa
open Go.RowKit

/-- the byte at a place, as a number. -/
def g8 (l : List UInt8) (k : Nat) : Int := ((l.getD k 0).toNat : Int)
theorem g8_lo (l : List UInt8) (k : Nat) : 0 ≤ g8 l k := by unfold g8; omega
theorem g8_hi (l : List UInt8) (k : Nat) : g8 l k ≤ 255 := by unfold g8; have := (l.getD k 0).toNat_lt; omega
theorem g8_at (l : List UInt8) (k : Nat) (h : k < l.length) : g8 l k = (l[k].toNat : Int) := by unfold g8; simp [List.getD, h]
/-- the number of two bytes at a place. -/
def wd (l : List UInt8) (k : Nat) : Int := g8 l k * 256 + g8 l (k + 1)
theorem wd_lo (l : List UInt8) (k : Nat) : 0 ≤ wd l k := by have := g8_lo l k; have := g8_lo l (k + 1); unfold wd; omega
theorem wd_hi (l : List UInt8) (k : Nat) : wd l k ≤ 65535 := by have := g8_hi l k; have := g8_hi l (k + 1); unfold wd; omega
/-- the address at a place. -/
def ad4 (l : List UInt8) (k : Nat) : Int := wd l k * 65536 + wd l (k + 2)
theorem ad4_lo (l : List UInt8) (k : Nat) : 0 ≤ ad4 l k := by have := wd_lo l k; have := wd_lo l (k + 2); unfold ad4; omega
theorem ad4_hi (l : List UInt8) (k : Nat) : ad4 l k ≤ 4294967295 := by have := wd_hi l k; have := wd_hi l (k + 2); unfold ad4; omega

structure Pk where
  tos : Int
  id : Int
  df : Bool
  mf : Bool
  off : Int
  ttl : Int
  proto : Int
  src : Int
  dst : Int
  opts : List UInt8
  body : List UInt8

def Pk.empty : Pk := ⟨0, 0, false, false, 0, 0, 0, 0, 0, [], []⟩
theorem Pk.ext' {p q : Pk} (h1 : p.tos = q.tos) (h2 : p.id = q.id) (h3 : p.df = q.df) (h4 : p.mf = q.mf) (h5 : p.off = q.off) (h6 : p.ttl = q.ttl) (h7 : p.proto = q.proto) (h8 : p.src = q.src) (h9 : p.dst = q.dst) (h10 : p.opts = q.opts) (h11 : p.body = q.body) : p = q := by
  cases p; cases q; simp_all

/-- the two packets' fields are the same. -/
def sameB (p q : Pk) : Bool := p.tos == q.tos && (p.id == q.id && (p.df == q.df && (p.mf == q.mf && (p.off == q.off && (p.ttl == q.ttl && (p.proto == q.proto && (p.src == q.src && (p.dst == q.dst && (p.opts == q.opts && p.body == q.body)))))))))
theorem sameB_iff (p q : Pk) : sameB p q = true ↔ p = q := by
  cases p; cases q; simp [sameB]

/-- do a body and its place fit? -/
def fitsB (p : Pk) : Bool := decide (20 + (p.opts.length : Int) + p.off + (p.body.length : Int) ≤ 65535) && (!p.mf || (decide (0 < p.body.length) && decide (p.body.length % 8 = 0)))
def upB (n m : Int) : Bool := decide (0 ≤ n) && decide (n ≤ m)
/-- may it be put? -/
def mayB (p : Pk) : Bool := upB p.tos 255 && (upB p.ttl 255 && (upB p.proto 255 && (upB p.id 65535 && (upB p.off 65528 && (decide (p.off % 8 = 0) && (decide (p.opts.length ≤ 40) && (decide (p.opts.length % 4 = 0) && fitsB p)))))))
structure May (p : Pk) : Prop where
  t0 : 0 ≤ p.tos
  t1 : p.tos ≤ 255
  l0 : 0 ≤ p.ttl
  l1 : p.ttl ≤ 255
  r0 : 0 ≤ p.proto
  r1 : p.proto ≤ 255
  i0 : 0 ≤ p.id
  i1 : p.id ≤ 65535
  o0 : 0 ≤ p.off
  o1 : p.off ≤ 65528
  o8 : p.off % 8 = 0
  p40 : p.opts.length ≤ 40
  p4 : p.opts.length % 4 = 0
  fit : 20 + (p.opts.length : Int) + p.off + (p.body.length : Int) ≤ 65535
  mf : p.mf = true → 0 < p.body.length ∧ p.body.length % 8 = 0
theorem fitsB_iff (p : Pk) : fitsB p = true ↔ 20 + (p.opts.length : Int) + p.off + (p.body.length : Int) ≤ 65535 ∧ (p.mf = true → 0 < p.body.length ∧ p.body.length % 8 = 0) := by
  unfold fitsB
  cases p.mf <;> simp
theorem mayB_iff (p : Pk) : mayB p = true ↔ May p := by
  unfold mayB upB
  constructor
  · intro h
    simp only [Bool.and_eq_true, decide_eq_true_eq, fitsB_iff] at h
    obtain ⟨⟨a, b⟩, ⟨c, d⟩, ⟨e, f⟩, ⟨g, i⟩, ⟨j, k⟩, l, m, n, o, q⟩ := h
    exact ⟨a, b, c, d, e, f, g, i, j, k, l, m, n, o, q⟩
  · intro h
    simp only [Bool.and_eq_true, decide_eq_true_eq, fitsB_iff]
    exact ⟨⟨h.t0, h.t1⟩, ⟨h.l0, h.l1⟩, ⟨h.r0, h.r1⟩, ⟨h.i0, h.i1⟩, ⟨h.o0, h.o1⟩, h.o8, h.p40, h.p4, h.fit, h.mf⟩

/-- the word that Off shares with its bits. -/
def flg (p : Pk) : Int := p.off / 8 + (if p.mf then 8192 else 0) + (if p.df then 16384 else 0)
/-- how many bytes the head has, and the whole. -/
def hln (p : Pk) : Int := 20 + (p.opts.length : Int)
def whl (p : Pk) : Int := hln p + (p.body.length : Int)
/-- a head of 20 bytes, with a check sum. -/
def hd20 (p : Pk) (check : Int) : List UInt8 :=
  [b8 (64 + hln p / 4), b8 p.tos, b8 (whl p / 256), b8 (whl p % 256), b8 (p.id / 256), b8 (p.id % 256), b8 (flg p / 256), b8 (flg p % 256), b8 p.ttl, b8 p.proto, b8 (check / 256), b8 (check % 256),
    b8 (p.src / 16777216), b8 (p.src / 65536 % 256), b8 (p.src / 256 % 256), b8 (p.src % 256), b8 (p.dst / 16777216), b8 (p.dst / 65536 % 256), b8 (p.dst / 256 % 256), b8 (p.dst % 256)]
def hd (p : Pk) (check : Int) : List UInt8 := hd20 p check ++ p.opts
def chk (p : Pk) : Int := 65535 - fo (tot (hd p 0))
theorem chk_lo (p : Pk) : 0 ≤ chk p := by unfold chk; have := fo_hi (tot (hd p 0)); omega
theorem chk_hi (p : Pk) : chk p ≤ 65535 := by unfold chk; have := fo_lo (tot (hd p 0)); omega
/-- the packet's bytes. -/
def putB (p : Pk) : List UInt8 := hd p (chk p) ++ p.body
theorem hd_length (p : Pk) (c : Int) : (hd p c).length = 20 + p.opts.length := by simp [hd, hd20]; omega
theorem putB_length (p : Pk) : (putB p).length = 20 + p.opts.length + p.body.length := by simp [putB, hd_length]

/-- the packet of these bytes, or the first error. -/
def headN (l : List UInt8) : Int := g8 l 0 % 16 * 4
def prs (l : List UInt8) : Int × Pk :=
  if l.length < 20 then (2, Pk.empty)
  else if g8 l 0 / 16 ≠ 4 ∨ headN l < 20 ∨ (l.length : Int) < headN l then (3, Pk.empty)
  else if wd l 2 < headN l ∨ (l.length : Int) < wd l 2 then (4, Pk.empty)
  else if fo (tot (l.take (headN l).toNat)) ≠ 65535 then (5, Pk.empty)
  else
    let p : Pk := ⟨g8 l 1, wd l 4, decide (wd l 6 / 16384 % 2 = 1), decide (wd l 6 / 8192 % 2 = 1), wd l 6 % 8192 * 8, g8 l 8, g8 l 9, ad4 l 12, ad4 l 16, (l.take (headN l).toNat).drop 20, (l.take (wd l 2).toNat).drop (headN l).toNat⟩
    if 32768 ≤ wd l 6 ∨ fitsB p = false then (7, Pk.empty) else (0, p)
end Go.Proofs.Ytofpalmghdapkaa

/- Rows of bytes of a call's own; cells of bytes by their places; an array's element. -/
namespace Go.Proofs.Ytofpalmghdapkaa
open Go.ChangeShapes Go.WideShapes Go.ChangeAt Go.RowKit
set_option linter.unusedVariables false

theorem g8_cell {w : World} {B : Nat} {A : Option Addr} {l : List UInt8} (h : Bs w B A l) {k : Nat} (hk : k < l.length) : ∃ ad, A = some ad ∧ ad.block < B ∧ w.cell? (ad.add k) = some (.int .u8 (g8 l k)) := by
  rw [g8_at l k hk]
  exact h.at_ hk
theorem g8_cells {w : World} {B : Nat} {A : Option Addr} {l : List UInt8} (h : Bs w B A l) (hl : 0 < l.length) : ∃ ad, A = some ad ∧ ad.block < B ∧ ∀ k, k < l.length → w.cell? (ad.add k) = some (.int .u8 (g8 l k)) := by
  rcases h with h | ⟨ad, rfl, hlt, hcell⟩
  · subst h; simp at hl
  · exact ⟨ad, rfl, hlt, fun k hk => by rw [g8_at l k hk]; exact hcell k _ (List.getElem?_eq_getElem hk)⟩

/-- a row of bytes of the call's own. -/
def Own (w : World) (base g n c : Nat) (l : List UInt8) : Prop := w.ownsRow base 5 1 (.slice (some ⟨g, 0, none⟩) n c) n (l.map bv)
theorem Own.len {w : World} {base g n c : Nat} {l : List UInt8} (h : Own w base g n c l) : l.length = n := by have := h.1; simpa using this
theorem Own.lt {w : World} {base g n c : Nat} {l : List UInt8} (h : Own w base g n c l) : base ≤ g ∧ g < w.heap.size := World.ownsRow.lt h g rfl
theorem Own.bs {w : World} {base g n c : Nat} {l : List UInt8} (h : Own w base g n c l) : Bs w w.heap.size (some ⟨g, 0, none⟩) l := (rd_of_own' h).bs
theorem Own.stored {w : World} {base g n c : Nat} {l : List UInt8} (h : Own w base g n c l) (j : Nat) (x : Int) (h0 : 0 ≤ x) (h1 : x ≤ 255) :
    Own (w.setCell ⟨g, j, none⟩ (.int .u8 x)) base g n c (l.set j (b8 x)) ∧ Below base w (w.setCell ⟨g, j, none⟩ (.int .u8 x)) := by
  have e : Value.int .u8 x = bv (b8 x) := by unfold bv; rw [b8_is x h0 h1]
  rw [e]
  have hs := World.ownsRow.stored h j (bv (b8 x))
  refine ⟨?_, (Below.refl _ _).setCell h.lt.1 _⟩
  unfold Own
  rw [List.map_set]
  exact hs.1
theorem Own.cap {w : World} {base g n c : Nat} {l : List UInt8} (h : Own w base g n c l) : n ≤ c ∧ c ≤ maxLen := by
  rcases h.2 with ⟨h, _⟩ | ⟨g', cap, cur, hv, hb, hh, hn, hm, hs, ht⟩
  · cases h
  · injection hv with h1 h2 h3; subst h3; exact ⟨hn, hm⟩
theorem Own.below {w w' : World} {base g n c : Nat} {l : List UInt8} (h : Own w base g n c l) (hb : Below w.heap.size w w') : Own w' base g n c l := by
  refine ⟨h.1, ?_⟩
  rcases h.2 with h | ⟨g', cap, cur, hv, hba, hh, hn, hm, hs, ht⟩
  · exact .inl h
  · refine .inr ⟨g', cap, cur, hv, hba, ?_, hn, hm, hs, ht⟩
    rw [hb.block g' (Array.getElem?_eq_some_iff.1 hh).1]; exact hh
theorem Own.cellAt {w : World} {base g n c : Nat} {l : List UInt8} (h : Own w base g n c l) (j : Nat) (hj : j < n) : w.cell? ⟨g, j, none⟩ = some (.int .u8 (g8 l j)) := by
  have := own_cell h j (by have := h.len; simpa [this] using hj)
  rw [this, g8_at l j (by have := h.len; omega)]; simp [bv]
theorem Own.frozenAt {w : World} {base g n c : Nat} {l : List UInt8} (h : Own w base g n c l) (j : Nat) : w.frozen? ⟨g, j, none⟩ = false := World.ownsRow.frozenAt h j

theorem info_int : (Try.prog.info? 3).map (fun i => (i.zero, i.size, i.bytes)) = some (some (.int .i64 0), 1, 8) := by kernel_rfl
theorem info_byte : (Try.prog.info? 5).map (fun i => (i.zero, i.size, i.bytes)) = some (some (.int .u8 0), 1, 1) := by kernel_rfl

theorem own_made (w : World) (base n c : Nat) (hb : base ≤ w.heap.size) (hnc : n ≤ c) (hm : c ≤ maxLen) : Own (w.alloc (.cells (madeCells #[.int .u8 0] c) 5)) base w.heap.size n c (List.replicate n 0) := by
  refine ⟨by simp, .inr ⟨w.heap.size, c, madeCells #[.int .u8 0] c, rfl, hb, heap_alloc_new w _, hnc, hm, by rw [size_madeCells, Nat.mul_one], ?_⟩⟩
  rw [toList_madeCells_one, Nat.mul_one, List.take_replicate, Nat.min_eq_left hnc, List.map_replicate]
  rfl
/-- what lies in the block of a row, and what a splice into it makes. -/
theorem Own.block {w : World} {base g n c : Nat} {l : List UInt8} (h : Own w base g n c l) : ∃ cur : List Value, w.heap[g]? = some (.cells cur.toArray 5 (0, 0)) ∧ cur.length = c ∧ cur.take n = l.map bv := by
  rcases h.2 with ⟨h, _⟩ | ⟨g', cap, cur, hv, hb, hh, hn, hm, hs, ht⟩
  · cases h
  · injection hv with h1 h2 h3
    subst h3
    injection h1 with h1
    injection h1 with h1
    subst h1
    exact ⟨cur.toList, by simpa using hh, by simpa using hs, by simpa using ht⟩
theorem Own.of_block {w : World} {base g n c : Nat} {l : List UInt8} {cur : List Value} (hb : base ≤ g) (hh : w.heap[g]? = some (.cells cur.toArray 5 (0, 0))) (hc : cur.length = c) (hn : n ≤ c) (hm : c ≤ maxLen) (hl : l.length = n) (ht : cur.take n = l.map bv) : Own w base g n c l :=
  ⟨by simpa using hl, .inr ⟨g, c, cur.toArray, rfl, hb, hh, hn, hm, by simpa using hc, by simpa using ht⟩⟩
theorem take_splice {cur : List Value} {l o : List UInt8} (k : Nat) (ht : cur.take (k + o.length) = l.map bv) (hc : k + o.length ≤ cur.length) : (splice cur k (o.map bv)).take (k + o.length) = (l.take k ++ o).map bv := by
  unfold splice
  have e1 : (cur.take k).length = k := by rw [List.length_take]; omega
  have e2 : (l.take k).map bv = cur.take k := by rw [List.map_take, ← ht, List.take_take, Nat.min_eq_left (by omega)]
  rw [List.map_append, e2, List.take_append, e1, List.take_of_length_le (by omega)]
  congr 1
  rw [show k + o.length - k = (o.map bv).length by simp, List.take_append_of_le_length (Nat.le_refl _), List.take_length]

theorem upx {P : Program} {f : FuncId} {args : Array Value} {w W : World} {B : Nat} {v : Value} (h : Calls P f args w fun e w' => e = .returned v ∧ Below w.heap.size w w') (hb : Below B W w) (hB : B ≤ w.heap.size) :
    Calls P f args w fun e w' => e = .returned v ∧ Below w.heap.size w w' ∧ Below B W w' :=
  h.mono fun _ _ ⟨he, hw⟩ => ⟨he, hw, hb.trans (hw.mono hB)⟩
theorem dn0 (w : World) : ∃ m, w = w.drewN m := ⟨0, rfl⟩
/-- an array of ints by value: its element. -/
theorem run_index_arr (t e : TypeId) (n : Nat) (k : IntKind) (i : TypeInfo) (cs : Array Value) (j : Nat) (v : Value) (h : Try.prog.underlying t = some (.array n e)) (he : Try.prog.underlying e = some (.int k)) (hi : Try.prog.info? e = some i) (hs : Try.prog.cellsOf e = 1) (hj : j < n) (hv : cs[j]? = some v) (w : World) :
    (Instr.index t (.agg cs) (.int .i64 (j : Int))).run Try.prog w = .ok v w := by
  simp [Instr.index, run_underlying h, asIntOf, hj, go_sem, run_sizeOf w hi, hs, part, isAgg, run_underlying he, hv]
theorem four_rd (W : World) (a b c d : Int) (ha : 0 ≤ a ∧ a ≤ 255) (hb : 0 ≤ b ∧ b ≤ 255) (hc : 0 ≤ c ∧ c ≤ 255) (hd : 0 ≤ d ∧ d ≤ 255) :
    Rd (W.alloc (.cells #[.int .u8 a, .int .u8 b, .int .u8 c, .int .u8 d] 5)) (W.heap.size + 1) (some ⟨W.heap.size, 0, none⟩) ([b8 a, b8 b, b8 c, b8 d].map bv) := by
  refine .inr ⟨_, rfl, by simp, fun j u hj => ?_⟩
  match j, hj with
  | 0, hj => simp [bv, b8_is a ha.1 ha.2] at hj; subst hj; simp [Addr.add]
  | 1, hj => simp [bv, b8_is b hb.1 hb.2] at hj; subst hj; simp [Addr.add]
  | 2, hj => simp [bv, b8_is c hc.1 hc.2] at hj; subst hj; simp [Addr.add]
  | 3, hj => simp [bv, b8_is d hd.1 hd.2] at hj; subst hj; simp [Addr.add]

end Go.Proofs.Ytofpalmghdapkaa

/- The contract of bytes.Clone. -/
namespace Go.Proofs.Ytofpalmghdapkaa
open Go.ChangeShapes Go.WideShapes Go.ChangeAt Go.RowKit
set_option linter.unusedVariables false

/-- a slice that some call has handed back: it reads as these bytes. -/
structure Gives (w0 w : World) (A : Option Addr) (c : Nat) (l : List UInt8) : Prop where
  len : l.length ≤ c
  cap : c ≤ 9223372036854775807
  nil : A = none → c = 0
  bs : Bs w w.heap.size A l
  fresh : ∀ ad, A = some ad → w0.heap.size ≤ ad.block
  below : Below w0.heap.size w0 w
def Cloned (w0 : World) (n : Nat) (l : List UInt8) (e : Ending) (w : World) : Prop := ∃ A c, e = .returned (.slice A n c) ∧ Gives w0 w A c l

theorem own_gives {w0 w : World} {n : Nat} {v : Value} {l : List UInt8} (h : w.ownsRow w0.heap.size 5 1 v n (l.map bv)) (hb : Below w0.heap.size w0 w) : ∃ A c, v = .slice A n c ∧ Gives w0 w A c l := by
  have hn : l.length = n := by have := h.1; simpa using this
  obtain ⟨A, c, rfl, h1, h2, h3, h4⟩ := rd_of_own h
  unfold maxLen at h2
  refine ⟨A, c, rfl, by omega, by omega, h3, h4.bs, fun ad e => ?_, hb⟩
  subst e
  exact (h.lt ad.block rfl).1

end Go.Proofs.Ytofpalmghdapkaa

/- Contracts of package ip's small functions. -/
namespace Go.Proofs.Ytofpalmghdapkaa
open Go.ChangeShapes Go.WideShapes Go.ChangeAt Go.RowKit
set_option linter.unusedVariables false

/-- a packet as a value: its slices' addresses and capacities. -/
abbrev pkV (p : Pk) (Ao : Option Addr) (co : Nat) (Ab : Option Addr) (cb : Nat) : Value :=
  .agg #[.int .i64 p.tos, .int .i64 p.id, .bool p.df, .bool p.mf, .int .i64 p.off, .int .i64 p.ttl, .int .i64 p.proto, .int .u32 p.src, .int .u32 p.dst, .slice Ao p.opts.length co, .slice Ab p.body.length cb]

theorem mod8 (n : Nat) : (((n : Int) % 8) == 0) = decide (n % 8 = 0) := by rw [Bool.eq_iff_iff]; simp; omega
theorem mod4 (n : Nat) : (((n : Int) % 4) == 0) = decide (n % 4 = 0) := by rw [Bool.eq_iff_iff]; simp; omega

end Go.Proofs.Ytofpalmghdapkaa

/- Contracts of package ip's writing functions: a word, an address, a head. -/
namespace Go.Proofs.Ytofpalmghdapkaa
open Go.ChangeShapes Go.WideShapes Go.ChangeAt Go.RowKit
set_option linter.unusedVariables false

theorem nat_or_two (a : Nat) (ha : a < 8192) : (16384 + a) ||| 8192 = 24576 + a := by
  have e1 : 16384 + a = 2 * 2 ^ 13 ||| a := by rw [nat_join 13 (2 * 2 ^ 13) a (by omega) (by omega)]
  have e2 : 24576 + a = 3 * 2 ^ 13 ||| a := by rw [nat_join 13 (3 * 2 ^ 13) a (by omega) (by omega)]
  rw [e1, e2, Nat.or_assoc, Nat.or_comm a, ← Nat.or_assoc]; rfl
theorem nat_or_one (a : Nat) (ha : a < 8192) : a ||| 8192 = 8192 + a := by
  have e1 : 8192 + a = 1 * 2 ^ 13 ||| a := by rw [nat_join 13 (1 * 2 ^ 13) a (by omega) (by omega)]
  rw [e1, Nat.or_comm]
theorem nat_or_df (a : Nat) (ha : a < 8192) : a ||| 16384 = 16384 + a := by
  have e1 : 16384 + a = 1 * 2 ^ 14 ||| a := by rw [nat_join 14 (1 * 2 ^ 14) a (by omega) (by omega)]
  rw [e1, Nat.or_comm]
theorem u16_bit (x b : Int) (n m : Nat) (r : Nat) (hx : x = (n : Int)) (hb : b = (m : Int)) (h1 : n ≤ 65535) (h2 : m ≤ 65535) (h : n ||| m = r) : bits .or .u16 x b = (r : Int) := by
  subst hx hb
  rw [u16_or _ _ (by omega) (by omega) (by omega) (by omega), Int.toNat_natCast, Int.toNat_natCast, h]

section
variable {p : Pk} {Ao : Option Addr} {co : Nat} {Ab : Option Addr} {cb : Nat} {w w' w'' : World}
end

theorem or64 : ∀ x : Fin 64, bits .or .i64 64 (x.val : Int) = 64 + (x.val : Int) := by decide +kernel
theorem i64_or64 (x : Int) (h0 : 0 ≤ x) (h1 : x < 64) : bits .or .i64 64 x = 64 + x := by
  have := or64 ⟨x.toNat, by omega⟩
  simpa [Int.toNat_of_nonneg h0] using this
theorem flg_lo (p : Pk) (h : 0 ≤ p.off) : 0 ≤ flg p := by unfold flg; split <;> split <;> omega
theorem flg_hi (p : Pk) (h : p.off ≤ 65528) : flg p ≤ 65535 := by unfold flg; split <;> split <;> omega

theorem sets_head (n m : Nat) (hn : n = 20 + m) (x0 x1 x2 x3 x4 x5 x6 x7 x8 x9 x12 x13 x14 x15 x16 x17 x18 x19 : UInt8) :
    ((((((((((((((((((List.replicate n (0 : UInt8)).set 0 x0).set 1 x1).set 2 x2).set (2 + 1) x3).set 4 x4).set (4 + 1) x5).set 6 x6).set (6 + 1) x7).set 8 x8).set 9 x9).set 12 x12).set (12 + 1) x13).set (12 + 2) x14).set (12 + 2 + 1) x15).set 16 x16).set (16 + 1) x17).set (16 + 2) x18).set (16 + 2 + 1) x19
      = [x0, x1, x2, x3, x4, x5, x6, x7, x8, x9, 0, 0, x12, x13, x14, x15, x16, x17, x18, x19] ++ List.replicate m 0 := by
  subst hn
  rw [← List.replicate_append_replicate]
  generalize List.replicate m (0 : UInt8) = R
  have e : List.replicate 20 (0 : UInt8) ++ R = 0 :: 0 :: 0 :: 0 :: 0 :: 0 :: 0 :: 0 :: 0 :: 0 :: 0 :: 0 :: 0 :: 0 :: 0 :: 0 :: 0 :: 0 :: 0 :: 0 :: R := rfl
  rw [e]
  simp only [List.set_cons_succ, List.set_cons_zero, Nat.reduceAdd, List.cons_append, List.nil_append]

end Go.Proofs.Ytofpalmghdapkaa

/- Contracts of package ip's word, addr. -/
namespace Go.Proofs.Ytofpalmghdapkaa
open Go.ChangeShapes Go.WideShapes Go.ChangeAt Go.RowKit
set_option linter.unusedVariables false

theorem u32_or16 (a b : Int) (a0 : 0 ≤ a) (a1 : a ≤ 65535) (b0 : 0 ≤ b) (b1 : b ≤ 65535) : bits .or .u32 (a * 65536) b = a * 65536 + b := by
  rw [u32_or _ _ (by omega) (by omega) b0 (by omega), nat_join 16 _ _ (by omega) (by omega)]
  omega

end Go.Proofs.Ytofpalmghdapkaa

/- Contracts of package ip's reading functions: a copy, the lengths. -/
namespace Go.Proofs.Ytofpalmghdapkaa
open Go.ChangeShapes Go.WideShapes Go.ChangeAt Go.RowKit
set_option linter.unusedVariables false

theorem u8_mask4 (x : Int) (h0 : 0 ≤ x) (h1 : x ≤ 255) : bits .and .u8 x 15 = x % 16 := by
  rw [u8_and x 15 h0 (by omega) (by omega) (by omega)]
  show ((x.toNat &&& 15 : Nat) : Int) = _
  rw [nat_mask4]; omega

/-- how long a head says that it is, and the whole; or the first error. -/
def measE (l : List UInt8) : Int :=
  if l.length < 20 then 2
  else if g8 l 0 / 16 ≠ 4 ∨ headN l < 20 ∨ (l.length : Int) < headN l then 3
  else if wd l 2 < headN l ∨ (l.length : Int) < wd l 2 then 4
  else 0

end Go.Proofs.Ytofpalmghdapkaa

/- Contracts of package ip's reading functions: a head's parts, a packet. -/
namespace Go.Proofs.Ytofpalmghdapkaa
open Go.ChangeShapes Go.WideShapes Go.ChangeAt Go.RowKit
set_option linter.unusedVariables false

theorem u16_mask13 (x : Int) (h0 : 0 ≤ x) (h1 : x ≤ 65535) : bits .and .u16 x 8191 = x % 8192 := by
  rw [u16_and x 8191 h0 (by omega) (by omega) (by omega)]
  show ((x.toNat &&& 8191 : Nat) : Int) = _
  rw [nat_mask13]; omega
theorem u16_b14 (x : Int) (h0 : 0 ≤ x) (h1 : x ≤ 65535) : bits .and .u16 x 16384 = x / 16384 % 2 * 16384 := by
  rw [u16_and x 16384 h0 (by omega) (by omega) (by omega)]
  show ((x.toNat &&& 2 ^ 14 : Nat) : Int) = _
  rw [nat_bit]; omega
theorem u16_b13 (x : Int) (h0 : 0 ≤ x) (h1 : x ≤ 65535) : bits .and .u16 x 8192 = x / 8192 % 2 * 8192 := by
  rw [u16_and x 8192 h0 (by omega) (by omega) (by omega)]
  show ((x.toNat &&& 2 ^ 13 : Nat) : Int) = _
  rw [nat_bit]; omega
theorem u16_b15 (x : Int) (h0 : 0 ≤ x) (h1 : x ≤ 65535) : bits .and .u16 x 32768 = x / 32768 % 2 * 32768 := by
  rw [u16_and x 32768 h0 (by omega) (by omega) (by omega)]
  show ((x.toNat &&& 2 ^ 15 : Nat) : Int) = _
  rw [nat_bit]; omega

/-- the packet of a head and a body. -/
def rdP (l body : List UInt8) : Pk := ⟨g8 l 1, wd l 4, decide (wd l 6 / 16384 % 2 = 1), decide (wd l 6 / 8192 % 2 = 1), wd l 6 % 8192 * 8, g8 l 8, g8 l 9, ad4 l 12, ad4 l 16, l.drop 20, body⟩

/-- what a call hands back that gives a packet in new memory. -/
structure GivesPk (w0 w : World) (p : Pk) (Ao : Option Addr) (co : Nat) (Ab : Option Addr) (cb : Nat) : Prop where
  olen : p.opts.length ≤ co
  ocap : co ≤ 9223372036854775807
  onil : Ao = none → co = 0
  obs : Bs w w.heap.size Ao p.opts
  ofresh : ∀ ad, Ao = some ad → w0.heap.size ≤ ad.block
  blen : p.body.length ≤ cb
  bcap : cb ≤ 9223372036854775807
  bnil : Ab = none → cb = 0
  bbs : Bs w w.heap.size Ab p.body
  bfresh : ∀ ad, Ab = some ad → w0.heap.size ≤ ad.block
  below : Below w0.heap.size w0 w
theorem Bs.far {w : World} {B : Nat} {A : Option Addr} {l : List UInt8} (h : Bs w B A l) (p : Addr) (u : Value) (hp : ∀ ad, A = some ad → p.block ≠ ad.block) : Bs (w.setCell p u) B A l := by
  rcases h with h | ⟨ad, rfl, hlt, hc⟩
  · exact .inl h
  · refine .inr ⟨ad, rfl, hlt, fun j b hj => ?_⟩
    rw [World.cell?_setCell_other w p (ad.add j) u (fun e => hp ad rfl (by rw [e, block_add]))]
    exact hc j b hj

theorem rdS {w w' : World} {ad : Addr} {x y z : Value} (hlt : ad.block < w.heap.size) (c1 : w.cell? ⟨ad.block, ad.off + 1, none⟩ = some x) (c8 : w.cell? ⟨ad.block, ad.off + 8, none⟩ = some y) (c9 : w.cell? ⟨ad.block, ad.off + 9, none⟩ = some z) (hb : Below w.heap.size w w') :
    w'.cell? ⟨ad.block, ad.off + 1, none⟩ = some x ∧ w'.cell? ⟨ad.block, ad.off + 8, none⟩ = some y ∧ w'.cell? ⟨ad.block, ad.off + 9, none⟩ = some z ∧ Below w.heap.size w w' :=
  ⟨(hb.cell (p := ⟨ad.block, ad.off + 1, none⟩) hlt).trans c1, (hb.cell (p := ⟨ad.block, ad.off + 8, none⟩) hlt).trans c8, (hb.cell (p := ⟨ad.block, ad.off + 9, none⟩) hlt).trans c9, hb⟩

theorem rdB {a b c : Prop} {B : Nat} {w w' : World} (h : a ∧ b ∧ c ∧ Below B w w') : Below B w w' := h.2.2.2
theorem below_set {B : Nat} {a w : World} (h : Below B a w) (k : Nat) (u : Value) : Below B a (w.setCell ⟨B, k, none⟩ u) := h.setCell (Nat.le_refl _) u
theorem below_set11 {B : Nat} {a w : World} (h : Below B a w) (u0 u1 u2 u3 u4 u5 u6 u7 u8 u9 u10 : Value) :
    Below B a (((((((((((w.setCell ⟨B, 0, none⟩ u0).setCell ⟨B, 1, none⟩ u1).setCell ⟨B, 2, none⟩ u2).setCell ⟨B, 3, none⟩ u3).setCell ⟨B, 4, none⟩ u4).setCell ⟨B, 5, none⟩ u5).setCell ⟨B, 6, none⟩ u6).setCell ⟨B, 7, none⟩ u7).setCell ⟨B, 8, none⟩ u8).setCell ⟨B, 9, none⟩ u9).setCell ⟨B, 10, none⟩ u10) :=
  below_set (below_set (below_set (below_set (below_set (below_set (below_set (below_set (below_set (below_set (below_set h _ _) _ _) _ _) _ _) _ _) _ _) _ _) _ _) _ _) _ _) _ _
theorem bs_set11 {g B : Nat} {w : World} {A : Option Addr} {l : List UInt8} (h : Bs w B A l) (hf : ∀ ad, A = some ad → g ≠ ad.block) (u0 u1 u2 u3 u4 u5 u6 u7 u8 u9 u10 : Value) :
    Bs (((((((((((w.setCell ⟨g, 0, none⟩ u0).setCell ⟨g, 1, none⟩ u1).setCell ⟨g, 2, none⟩ u2).setCell ⟨g, 3, none⟩ u3).setCell ⟨g, 4, none⟩ u4).setCell ⟨g, 5, none⟩ u5).setCell ⟨g, 6, none⟩ u6).setCell ⟨g, 7, none⟩ u7).setCell ⟨g, 8, none⟩ u8).setCell ⟨g, 9, none⟩ u9).setCell ⟨g, 10, none⟩ u10) B A l :=
  ((((((((((h.far ⟨g, 0, none⟩ u0 hf).far ⟨g, 1, none⟩ u1 hf).far ⟨g, 2, none⟩ u2 hf).far ⟨g, 3, none⟩ u3 hf).far ⟨g, 4, none⟩ u4 hf).far ⟨g, 5, none⟩ u5 hf).far ⟨g, 6, none⟩ u6 hf).far ⟨g, 7, none⟩ u7 hf).far ⟨g, 8, none⟩ u8 hf).far ⟨g, 9, none⟩ u9 hf).far ⟨g, 10, none⟩ u10 hf
theorem size_set11 (g : Nat) (w : World) (u0 u1 u2 u3 u4 u5 u6 u7 u8 u9 u10 : Value) :
    (((((((((((w.setCell ⟨g, 0, none⟩ u0).setCell ⟨g, 1, none⟩ u1).setCell ⟨g, 2, none⟩ u2).setCell ⟨g, 3, none⟩ u3).setCell ⟨g, 4, none⟩ u4).setCell ⟨g, 5, none⟩ u5).setCell ⟨g, 6, none⟩ u6).setCell ⟨g, 7, none⟩ u7).setCell ⟨g, 8, none⟩ u8).setCell ⟨g, 9, none⟩ u9).setCell ⟨g, 10, none⟩ u10).heap.size = w.heap.size := by simp
end Go.Proofs.Ytofpalmghdapkaa

/- The contract of package ip's Parse. -/
namespace Go.Proofs.Ytofpalmghdapkaa
open Go.ChangeShapes Go.WideShapes Go.ChangeAt Go.RowKit
set_option linter.unusedVariables false

theorem prs_meas (l : List UInt8) (h : measE l ≠ 0) : prs l = (measE l, Pk.empty) := by
  unfold measE at h ⊢
  unfold prs
  split
  · rfl
  · split
    · rfl
    · split
      · rfl
      · rename_i h1 h2 h3
        rw [if_neg h1, if_neg h2, if_neg h3] at h
        exact absurd rfl h
theorem meas_ok (l : List UInt8) (h : measE l = 0) : 20 ≤ l.length ∧ 20 ≤ headN l ∧ headN l ≤ l.length ∧ headN l ≤ wd l 2 ∧ wd l 2 ≤ l.length := by
  unfold measE at h
  split at h
  · cases h
  · split at h
    · cases h
    · split at h
      · cases h
      · omega
theorem prs_ok (l : List UInt8) (h : measE l = 0) : prs l = if fo (tot (l.take (headN l).toNat)) ≠ 65535 then (5, Pk.empty) else if 32768 ≤ wd l 6 ∨ fitsB (rdP (l.take (headN l).toNat) ((l.take (wd l 2).toNat).drop (headN l).toNat)) = false then (7, Pk.empty) else (0, rdP (l.take (headN l).toNat) ((l.take (wd l 2).toNat).drop (headN l).toNat)) := by
  obtain ⟨m1, m2, m3, m4, m5⟩ := meas_ok l h
  have t : ∀ k, k < 20 → g8 (l.take (headN l).toNat) k = g8 l k := by
    intro k hk
    rw [g8_at _ k (by rw [List.length_take]; omega), g8_at l k (by omega), List.getElem_take]
  have tw : ∀ k, k < 19 → wd (l.take (headN l).toNat) k = wd l k := by
    intro k hk
    unfold wd; rw [t k (by omega), t (k + 1) (by omega)]
  have ta : ∀ k, k < 17 → ad4 (l.take (headN l).toNat) k = ad4 l k := by
    intro k hk
    unfold ad4; rw [tw k (by omega), tw (k + 2) (by omega)]
  have hp : rdP (l.take (headN l).toNat) ((l.take (wd l 2).toNat).drop (headN l).toNat) = ⟨g8 l 1, wd l 4, decide (wd l 6 / 16384 % 2 = 1), decide (wd l 6 / 8192 % 2 = 1), wd l 6 % 8192 * 8, g8 l 8, g8 l 9, ad4 l 12, ad4 l 16, (l.take (headN l).toNat).drop 20, (l.take (wd l 2).toNat).drop (headN l).toNat⟩ := by
    unfold rdP
    rw [t 1 (by omega), tw 4 (by omega), tw 6 (by omega), t 8 (by omega), t 9 (by omega), ta 12 (by omega), ta 16 (by omega)]
  rw [hp]
  have h3 : ¬ (g8 l 0 / 16 ≠ 4 ∨ headN l < 20 ∨ (l.length : Int) < headN l) := by
    intro h3
    unfold measE at h
    rw [if_neg (by omega), if_pos h3] at h
    cases h
  unfold prs
  rw [if_neg (by omega), if_neg h3, if_neg (by omega)]

/-- what Parse hands back. -/
def Parsed (w : World) (l : List UInt8) (e : Ending) (w' : World) : Prop := ∃ Ao co Ab cb, e = .returned (.tuple #[pkV (prs l).2 Ao co Ab cb, .int .i64 (prs l).1]) ∧ GivesPk w w' (prs l).2 Ao co Ab cb
theorem gives_empty {w w' : World} (h : Below w.heap.size w w') : GivesPk w w' Pk.empty none 0 none 0 :=
  ⟨Nat.le_refl _, by omega, fun _ => rfl, .inl rfl, fun _ h => (by cases h), Nat.le_refl _, by omega, fun _ => rfl, .inl rfl, fun _ h => (by cases h), h⟩

end Go.Proofs.Ytofpalmghdapkaa

/- A packet's addresses fit their type. -/
namespace Go.Proofs.Ytofpalmghdapkaa
set_option linter.unusedVariables false

structure Rng (p : Pk) : Prop where
  s0 : 0 ≤ p.src
  s1 : p.src ≤ 4294967295
  d0 : 0 ≤ p.dst
  d1 : p.dst ≤ 4294967295
end Go.Proofs.Ytofpalmghdapkaa

/- A packet is read from its bytes as it was put, and what is read is put as it was: plain mathematics. -/
namespace Go.Proofs.Ytofpalmghdapkaa
open Go.RowKit
set_option linter.unusedVariables false

theorem b8i (n : Int) (h0 : 0 ≤ n) (h1 : n ≤ 255) : ((b8 n).toNat : Int) = n := b8_is n h0 h1
theorem g8_cons0 (a : UInt8) (r : List UInt8) : g8 (a :: r) 0 = (a.toNat : Int) := rfl
theorem g8_cons (a : UInt8) (r : List UInt8) (k : Nat) : g8 (a :: r) (k + 1) = g8 r k := rfl

theorem hd_set (p : Pk) (c : Int) : ((hd p 0).set 10 (b8 (c / 256))).set (10 + 1) (b8 (c % 256)) = hd p c := by
  unfold hd hd20
  simp only [List.set_cons_succ, List.set_cons_zero, Nat.reduceAdd, List.cons_append, List.nil_append]
theorem hd_sum (p : Pk) : fo (tot (hd p (chk p))) = 65535 := by
  have h := stand_words (hd p 0) (hd p 0) 5 (by rw [hd_length]; omega) (by
    unfold hd hd20
    simp only [List.set_cons_succ, List.set_cons_zero, List.cons_append, List.nil_append]
    rfl)
  have e : (2 * 5 : Nat) = 10 := rfl
  rw [e] at h
  have h2 : 65535 - fo (tot (hd p 0)) = chk p := rfl
  rw [h2, hd_set] at h
  exact h

theorem flg_parts (p : Pk) (h : May p) : decide (flg p / 16384 % 2 = 1) = p.df ∧ decide (flg p / 8192 % 2 = 1) = p.mf ∧ flg p % 8192 * 8 = p.off ∧ flg p < 32768 ∧ 0 ≤ flg p := by
  have h0 := h.o0
  have h1 := h.o1
  have h8 := h.o8
  unfold flg
  cases p.df <;> cases p.mf <;> simp <;> omega

theorem put_bytes (p : Pk) (c : Int) (R : List UInt8) (h : May p) (hr : Rng p) (c0 : 0 ≤ c) (c1 : c ≤ 65535) :
    g8 (hd p c ++ R) 0 = 64 + hln p / 4 ∧ g8 (hd p c ++ R) 1 = p.tos ∧ wd (hd p c ++ R) 2 = whl p ∧ wd (hd p c ++ R) 4 = p.id ∧ wd (hd p c ++ R) 6 = flg p ∧ g8 (hd p c ++ R) 8 = p.ttl ∧ g8 (hd p c ++ R) 9 = p.proto ∧ ad4 (hd p c ++ R) 12 = p.src ∧ ad4 (hd p c ++ R) 16 = p.dst := by
  obtain ⟨t0, t1, l0, l1, r0, r1, d0, d1, f0, f1, f8, p40, p4, fit, mf⟩ := h
  obtain ⟨s0, s1, e0, e1⟩ := hr
  have w0 : 0 ≤ whl p := by unfold whl hln; omega
  have w1 : whl p ≤ 65535 := by unfold whl hln; omega
  have q0 := (by unfold flg; split <;> split <;> omega : 0 ≤ flg p)
  have q1 := (by unfold flg; split <;> split <;> omega : flg p ≤ 65535)
  have n0 : 0 ≤ 64 + hln p / 4 := by unfold hln; omega
  have n1 : 64 + hln p / 4 ≤ 255 := by unfold hln; omega
  have e : hd p c ++ R = b8 (64 + hln p / 4) :: b8 p.tos :: b8 (whl p / 256) :: b8 (whl p % 256) :: b8 (p.id / 256) :: b8 (p.id % 256) :: b8 (flg p / 256) :: b8 (flg p % 256) :: b8 p.ttl :: b8 p.proto :: b8 (c / 256) :: b8 (c % 256) ::
    b8 (p.src / 16777216) :: b8 (p.src / 65536 % 256) :: b8 (p.src / 256 % 256) :: b8 (p.src % 256) :: b8 (p.dst / 16777216) :: b8 (p.dst / 65536 % 256) :: b8 (p.dst / 256 % 256) :: b8 (p.dst % 256) :: (p.opts ++ R) := by
    unfold hd hd20; simp
  rw [e]
  unfold ad4 wd
  simp only [Nat.reduceAdd]
  refine ⟨?_, ?_, ?_, ?_, ?_, ?_, ?_, ?_, ?_⟩ <;> simp only [show ∀ (a : UInt8) (r : List UInt8), g8 (a :: r) 0 = (a.toNat : Int) from fun _ _ => rfl, show ∀ (a : UInt8) (r : List UInt8) (k : Nat), g8 (a :: r) (k + 1) = g8 r k from fun _ _ _ => rfl]
  · exact b8i _ n0 n1
  · exact b8i _ t0 t1
  · rw [b8i _ (by omega) (by omega), b8i _ (by omega) (by omega)]; omega
  · rw [b8i _ (by omega) (by omega), b8i _ (by omega) (by omega)]; omega
  · rw [b8i _ (by omega) (by omega), b8i _ (by omega) (by omega)]; omega
  · exact b8i _ l0 l1
  · exact b8i _ r0 r1
  · rw [b8i _ (by omega) (by omega), b8i _ (by omega) (by omega), b8i _ (by omega) (by omega), b8i _ (by omega) (by omega)]; omega
  · rw [b8i _ (by omega) (by omega), b8i _ (by omega) (by omega), b8i _ (by omega) (by omega), b8i _ (by omega) (by omega)]; omega

theorem hd_take (p : Pk) (c : Int) (R : List UInt8) : (hd p c ++ R).take (hln p).toNat = hd p c := by
  have e : (hln p).toNat = (hd p c).length := by rw [hd_length]; unfold hln; omega
  rw [e, List.take_left]
/-- what is put is read as it was, whatever stands behind it. -/
theorem prs_put (p : Pk) (R : List UInt8) (h : May p) (hr : Rng p) : prs (putB p ++ R) = (0, p) := by
  obtain ⟨g0, g1, g2, g4, g6, g8', g9, g12, g16⟩ := put_bytes p (chk p) (p.body ++ R) h hr (chk_lo p) (chk_hi p)
  have el : putB p ++ R = hd p (chk p) ++ (p.body ++ R) := by unfold putB; rw [List.append_assoc]
  rw [el]
  have hl : ((hd p (chk p) ++ (p.body ++ R)).length : Int) = whl p + R.length := by rw [List.length_append, List.length_append, hd_length]; unfold whl hln; omega
  have hh : hln p = 20 + (p.opts.length : Int) := rfl
  have hw : whl p = hln p + (p.body.length : Int) := rfl
  have p4 := h.p4
  have p40 := h.p40
  obtain ⟨d1, d2, d3, d4, d5⟩ := flg_parts p h
  have hn : headN (hd p (chk p) ++ (p.body ++ R)) = hln p := by unfold headN; rw [g0]; omega
  have hfit : fitsB p = true := by rw [fitsB_iff]; exact ⟨h.fit, h.mf⟩
  have e1 : ((hd p (chk p)).drop 20) = p.opts := by
    unfold hd
    rw [List.drop_append_of_le_length (by simp [hd20])]
    simp [hd20]
  have e2 : ((hd p (chk p) ++ (p.body ++ R)).take (whl p).toNat).drop (hln p).toNat = p.body := by
    have a : (hln p).toNat = (hd p (chk p)).length := by rw [hd_length]; omega
    have b : (whl p).toNat = (hd p (chk p)).length + p.body.length := by rw [hd_length]; omega
    rw [b, List.take_length_add_append, a, List.drop_left]
    simp
  unfold prs
  rw [if_neg (by omega), if_neg (by rw [g0, hn]; omega), if_neg (by rw [g2, hn]; omega), if_neg (by rw [hn, hd_take, hd_sum]; simp)]
  dsimp only
  rw [g1, g2, g4, g6, g8', g9, g12, g16, hn, hd_take, d1, d2, d3, e1, e2]
  rw [if_neg]
  intro hc
  rcases hc with hc | hc
  · omega
  · have : fitsB ⟨p.tos, p.id, p.df, p.mf, p.off, p.ttl, p.proto, p.src, p.dst, p.opts, p.body⟩ = fitsB p := rfl
    rw [this, hfit] at hc
    cases hc

theorem prs_code (l : List UInt8) (h : (prs l).1 = 0) : measE l = 0 ∧ fo (tot (l.take (headN l).toNat)) = 65535 ∧ wd l 6 < 32768 ∧ (prs l).2 = rdP (l.take (headN l).toNat) ((l.take (wd l 2).toNat).drop (headN l).toNat) := by
  by_cases hM : measE l = 0
  · rw [prs_ok l hM] at h ⊢
    by_cases hS : fo (tot (l.take (headN l).toNat)) = 65535
    · rw [if_neg (by simpa using hS)] at h ⊢
      by_cases hf : 32768 ≤ wd l 6 ∨ fitsB (rdP (l.take (headN l).toNat) ((l.take (wd l 2).toNat).drop (headN l).toNat)) = false
      · rw [if_pos hf] at h; cases h
      · rw [if_neg hf]
        exact ⟨hM, hS, by omega, rfl⟩
    · rw [if_pos hS] at h; cases h
  · rw [prs_meas l hM] at h; exact absurd h hM
theorem prs_empty (l : List UInt8) (h : (prs l).1 ≠ 0) : (prs l).2 = Pk.empty := by
  by_cases hM : measE l = 0
  · rw [prs_ok l hM] at h ⊢
    split
    · rfl
    · rename_i h1
      rw [if_neg h1] at h
      split
      · rfl
      · rename_i h2
        rw [if_neg h2] at h
        exact absurd rfl h
  · rw [prs_meas l hM]
/-- one byte of a head that is another is seen. -/
theorem spoilt (p : Pk) (h : May p) (hr : Rng p) (i : Nat) (b : UInt8) (hi : i < 20 + p.opts.length) (hb : b ≠ (putB p)[i]'(by rw [putB_length]; omega)) :
    ((prs ((putB p).set i b)).1 ≠ 0 ∨ (i = 0 ∧ (prs ((putB p).set i b)).2.opts.length ≠ p.opts.length)) := by
  by_cases hc : (prs ((putB p).set i b)).1 = 0
  · right
    obtain ⟨hM, hS, _, hP⟩ := prs_code _ hc
    have hlen : ((putB p).set i b).length = 20 + p.opts.length + p.body.length := by rw [List.length_set, putB_length]
    have hk : headN ((putB p).set i b) ≠ hln p := by
      intro hk
      rw [hk] at hS
      have e : ((putB p).set i b).take (hln p).toNat = (hd p (chk p)).set i b := by
        have a : (hln p).toNat = (hd p (chk p)).length := by rw [hd_length]; unfold hln; omega
        unfold putB
        rw [List.set_append_left _ _ (by rw [hd_length]; omega), a]
        have : (hd p (chk p)).length = ((hd p (chk p)).set i b).length := by simp
        rw [this, List.take_left]
      rw [e] at hS
      have hx : (putB p)[i]'(by rw [putB_length]; omega) = (hd p (chk p))[i]'(by rw [hd_length]; omega) := by
        simp only [putB]
        rw [List.getElem_append_left]
      rw [hx] at hb
      exact seen (hd p (chk p)) i b (by rw [hd_length]; omega) hb (hd_sum p) hS
    obtain ⟨m1, m2, m3, m4, m5⟩ := meas_ok _ hM
    have h0 : i = 0 := by
      by_cases h0 : i = 0
      · exact h0
      · exfalso
        apply hk
        have g : g8 ((putB p).set i b) 0 = g8 (putB p) 0 := by
          rw [g8_at _ 0 (by omega), g8_at _ 0 (by rw [putB_length]; omega), List.getElem_set_ne h0]
        unfold headN
        rw [g]
        have := (put_bytes p (chk p) p.body h hr (chk_lo p) (chk_hi p)).1
        have e : putB p = hd p (chk p) ++ p.body := rfl
        rw [e, this]
        have := h.p4
        have := h.p40
        unfold hln; omega
    refine ⟨h0, ?_⟩
    rw [hP]
    show ((((putB p).set i b).take (headN ((putB p).set i b)).toNat).drop 20).length ≠ _
    rw [List.length_drop, List.length_take]
    unfold hln at hk
    omega
  · exact .inl hc

theorem b8_g8 (l : List UInt8) (k : Nat) (h : k < l.length) : b8 (g8 l k) = l[k] := by
  rw [g8_at l k h]
  apply UInt8.toNat_inj.1
  have := b8_is (l[k].toNat : Int) (by omega) (by have := l[k].toNat_lt; omega)
  omega
theorem wd_hi8 (l : List UInt8) (k : Nat) : wd l k / 256 = g8 l k := by have := g8_lo l (k + 1); have := g8_hi l (k + 1); unfold wd; omega
theorem wd_lo8 (l : List UInt8) (k : Nat) : wd l k % 256 = g8 l (k + 1) := by have := g8_lo l (k + 1); have := g8_hi l (k + 1); unfold wd; omega
theorem flg_rd (l b : List UInt8) (h0 : 0 ≤ wd l 6) (h : wd l 6 < 32768) : flg (rdP l b) = wd l 6 := by
  unfold flg
  rw [show (rdP l b).off = wd l 6 % 8192 * 8 from rfl, show (rdP l b).mf = decide (wd l 6 / 8192 % 2 = 1) from rfl, show (rdP l b).df = decide (wd l 6 / 16384 % 2 = 1) from rfl]
  by_cases h1 : wd l 6 / 8192 % 2 = 1 <;> by_cases h2 : wd l 6 / 16384 % 2 = 1 <;> simp [h1, h2] <;> omega
/-- what is read is put as it was, but for the check sum. -/
theorem put_prs (l : List UInt8) (h : (prs l).1 = 0) : (putB (prs l).2).length ≤ l.length ∧ (putB (prs l).2).take 10 = l.take 10 ∧ (putB (prs l).2).drop 12 = (l.take (putB (prs l).2).length).drop 12 ∧ 20 ≤ (putB (prs l).2).length := by
  obtain ⟨hM, hS, h6, hP⟩ := prs_code l h
  obtain ⟨m1, m2, m3, m4, m5⟩ := meas_ok l hM
  obtain ⟨k, hk⟩ : ∃ k : Nat, (k : Int) = headN l := ⟨(headN l).toNat, by omega⟩
  obtain ⟨q, hq⟩ : ∃ q : Nat, (q : Int) = wd l 2 := ⟨(wd l 2).toNat, by omega⟩
  have ek : (headN l).toNat = k := by omega
  have eq : (wd l 2).toNat = q := by omega
  rw [ek, eq] at hP
  have h16 : g8 l 0 / 16 = 4 := by
    unfold measE at hM
    rw [if_neg (by omega)] at hM
    by_cases h : g8 l 0 / 16 ≠ 4 ∨ headN l < 20 ∨ (l.length : Int) < headN l
    · rw [if_pos h] at hM; cases hM
    · omega
  have t : ∀ i, i < 20 → g8 (l.take k) i = g8 l i := by
    intro i hi
    rw [g8_at _ i (by rw [List.length_take]; omega), g8_at l i (by omega), List.getElem_take]
  have tw : ∀ i, i < 19 → wd (l.take k) i = wd l i := by
    intro i hi
    unfold wd; rw [t i (by omega), t (i + 1) (by omega)]
  rw [hP]
  have hf := flg_rd (l.take k) ((l.take q).drop k) (wd_lo _ _) (by rw [tw 6 (by omega)]; exact h6)
  have ho : (rdP (l.take k) ((l.take q).drop k)).opts.length = k - 20 := by show ((l.take k).drop 20).length = _; rw [List.length_drop, List.length_take]; omega
  have hb : (rdP (l.take k) ((l.take q).drop k)).body.length = q - k := by show ((l.take q).drop k).length = _; rw [List.length_drop, List.length_take]; omega
  have hlen : (putB (rdP (l.take k) ((l.take q).drop k))).length = q := by rw [putB_length, ho, hb]; omega
  have h1 : 64 + hln (rdP (l.take k) ((l.take q).drop k)) / 4 = g8 l 0 := by
    have b0 := g8_lo l 0
    have hh : headN l = g8 l 0 % 16 * 4 := rfl
    unfold hln; rw [ho]; omega
  have h2 : whl (rdP (l.take k) ((l.take q).drop k)) = wd l 2 := by unfold whl hln; rw [ho, hb]; omega
  have hE : putB (rdP (l.take k) ((l.take q).drop k)) = [l[0]'(by omega), l[1]'(by omega), l[2]'(by omega), l[3]'(by omega), l[4]'(by omega), l[5]'(by omega), l[6]'(by omega), l[7]'(by omega), l[8]'(by omega), l[9]'(by omega), b8 (chk (rdP (l.take k) ((l.take q).drop k)) / 256), b8 (chk (rdP (l.take k) ((l.take q).drop k)) % 256), l[12]'(by omega), l[13]'(by omega), l[14]'(by omega), l[15]'(by omega), l[16]'(by omega), l[17]'(by omega), l[18]'(by omega), l[19]'(by omega)] ++ (l.take q).drop 20 := by
    have hs : (rdP (l.take k) ((l.take q).drop k)).src = wd l 12 * 65536 + wd l 14 := by show ad4 (l.take k) 12 = _; unfold ad4; rw [tw 12 (by omega), tw (12 + 2) (by omega)]
    have hd_ : (rdP (l.take k) ((l.take q).drop k)).dst = wd l 16 * 65536 + wd l 18 := by show ad4 (l.take k) 16 = _; unfold ad4; rw [tw 16 (by omega), tw (16 + 2) (by omega)]
    have b12 := wd_lo l 12
    have b12' := wd_hi l 12
    have b14 := wd_lo l 14
    have b14' := wd_hi l 14
    have b16 := wd_lo l 16
    have b16' := wd_hi l 16
    have b18 := wd_lo l 18
    have b18' := wd_hi l 18
    have tail : (rdP (l.take k) ((l.take q).drop k)).opts ++ (rdP (l.take k) ((l.take q).drop k)).body = (l.take q).drop 20 := by
      show (l.take k).drop 20 ++ (l.take q).drop k = _
      have e : l.take k = (l.take q).take k := by rw [List.take_take, Nat.min_eq_left (by omega)]
      have e2 : (l.take q).drop k = ((l.take q).drop 20).drop (k - 20) := by rw [List.drop_drop]; congr 1; omega
      rw [e, List.drop_take, e2, List.take_append_drop]
    unfold putB hd
    rw [List.append_assoc, tail]
    congr 1
    unfold hd20
    rw [h1, h2, hf, tw 6 (by omega), hs, hd_, wd_hi8, wd_lo8, wd_hi8, wd_lo8, b8_g8 l 0 (by omega), b8_g8 l 2 (by omega), b8_g8 l (2 + 1) (by omega), b8_g8 l 6 (by omega), b8_g8 l (6 + 1) (by omega)]
    rw [show (rdP (l.take k) ((l.take q).drop k)).tos = g8 (l.take k) 1 from rfl, show (rdP (l.take k) ((l.take q).drop k)).id = wd (l.take k) 4 from rfl, show (rdP (l.take k) ((l.take q).drop k)).ttl = g8 (l.take k) 8 from rfl, show (rdP (l.take k) ((l.take q).drop k)).proto = g8 (l.take k) 9 from rfl]
    rw [t 1 (by omega), tw 4 (by omega), t 8 (by omega), t 9 (by omega), wd_hi8, wd_lo8, b8_g8 l 1 (by omega), b8_g8 l 4 (by omega), b8_g8 l (4 + 1) (by omega), b8_g8 l 8 (by omega), b8_g8 l 9 (by omega)]
    rw [show (wd l 12 * 65536 + wd l 14) / 16777216 = wd l 12 / 256 from by omega, show (wd l 12 * 65536 + wd l 14) / 65536 % 256 = wd l 12 % 256 from by omega, show (wd l 12 * 65536 + wd l 14) / 256 % 256 = wd l 14 / 256 from by omega, show (wd l 12 * 65536 + wd l 14) % 256 = wd l 14 % 256 from by omega]
    rw [show (wd l 16 * 65536 + wd l 18) / 16777216 = wd l 16 / 256 from by omega, show (wd l 16 * 65536 + wd l 18) / 65536 % 256 = wd l 16 % 256 from by omega, show (wd l 16 * 65536 + wd l 18) / 256 % 256 = wd l 18 / 256 from by omega, show (wd l 16 * 65536 + wd l 18) % 256 = wd l 18 % 256 from by omega]
    rw [wd_hi8, wd_lo8, wd_hi8, wd_lo8, wd_hi8, wd_lo8, wd_hi8, wd_lo8, b8_g8 l 12 (by omega), b8_g8 l (12 + 1) (by omega), b8_g8 l 14 (by omega), b8_g8 l (14 + 1) (by omega), b8_g8 l 16 (by omega), b8_g8 l (16 + 1) (by omega), b8_g8 l 18 (by omega), b8_g8 l (18 + 1) (by omega)]
  have hL : l.take q = [l[0]'(by omega), l[1]'(by omega), l[2]'(by omega), l[3]'(by omega), l[4]'(by omega), l[5]'(by omega), l[6]'(by omega), l[7]'(by omega), l[8]'(by omega), l[9]'(by omega), l[10]'(by omega), l[11]'(by omega), l[12]'(by omega), l[13]'(by omega), l[14]'(by omega), l[15]'(by omega), l[16]'(by omega), l[17]'(by omega), l[18]'(by omega), l[19]'(by omega)] ++ (l.take q).drop 20 := by
    have e := (List.take_append_drop 20 (l.take q)).symm
    rw [List.take_take, Nat.min_eq_left (by omega)] at e
    rw [e]
    congr 1
    · apply List.ext_getElem
      · simp; omega
      · intro i h1 h2
        rw [List.getElem_take]
        have hi : i < 20 := by simpa using h2
        match i, hi with
        | 0, _ => rfl
        | 1, _ => rfl
        | 2, _ => rfl
        | 3, _ => rfl
        | 4, _ => rfl
        | 5, _ => rfl
        | 6, _ => rfl
        | 7, _ => rfl
        | 8, _ => rfl
        | 9, _ => rfl
        | 10, _ => rfl
        | 11, _ => rfl
        | 12, _ => rfl
        | 13, _ => rfl
        | 14, _ => rfl
        | 15, _ => rfl
        | 16, _ => rfl
        | 17, _ => rfl
        | 18, _ => rfl
        | 19, _ => rfl
        | n + 20, h => exact absurd h (by omega)
    · rw [← e]
  refine ⟨by rw [hlen]; omega, ?_, ?_, by rw [hlen]; omega⟩
  · have e : l.take 10 = (l.take q).take 10 := by rw [List.take_take, Nat.min_eq_left (by omega)]
    rw [e, hE, hL]
    rfl
  · rw [hlen, hE, hL]
    rfl
end Go.Proofs.Ytofpalmghdapkaa

/- Segments and their bytes: plain mathematics. No condition beyond bounds. -/
namespace Go.Proofs.Ytofpalmghdapkaa
open Go.RowKit
set_option linter.unusedVariables false

structure Op where
  kind : Int
  data : List UInt8
structure Tc where
  sport : Int
  dport : Int
  seq : Int
  ack : Int
  flags : Int
  win : Int
  urg : Int
  opts : List Op
  body : List UInt8
def Tc.empty : Tc := ⟨0, 0, 0, 0, 0, 0, 0, [], []⟩
def sameO (a b : Op) : Bool := a.kind == b.kind && a.data == b.data
theorem sameO_iff (a b : Op) : sameO a b = true ↔ a = b := by cases a; cases b; simp [sameO]

/-- one of the five kinds of which there is at most one each. -/
def five (k : Int) : Bool := (decide (2 ≤ k) && decide (k ≤ 5)) || k == 8
/-- has an option of this kind so much data? -/
def okLen (k : Int) (d : Nat) : Bool :=
  if k = 2 then d == 2 else if k = 3 then d == 1 else if k = 4 then d == 0 else if k = 5 then (d != 0 && decide (d ≤ 32)) && d % 8 == 0 else if k = 8 then d == 8 else true
/-- how many bytes options have. -/
def olen : List Op → Nat
  | [] => 0
  | o :: r => 2 + o.data.length + olen r
theorem olen_append : ∀ (a b : List Op), olen (a ++ b) = olen a + olen b
  | [], b => by simp [olen]
  | o :: r, b => by have := olen_append r b; simp only [List.cons_append, olen, this]; omega
theorem olen_take_succ (os : List Op) (i : Nat) (h : i < os.length) : olen (os.take (i + 1)) = olen (os.take i) + (2 + os[i].data.length) := by
  rw [List.take_succ_eq_append_getElem h, olen_append]
  simp [olen]
theorem olen_take_le (os : List Op) (i : Nat) : olen (os.take i) ≤ olen os := by
  have := olen_append (os.take i) (os.drop i)
  rw [List.take_append_drop] at this
  omega
/-- is there one of the same kind, of the five, ahead of place i? -/
def twin (os : List Op) (i : Nat) (k : Int) : Bool := (os.take i).any fun o => o.kind == k && five k
/-- is the option at place i right, behind those ahead of it? -/
def goodAt (os : List Op) (i : Nat) : Bool :=
  match os[i]? with
  | none => false
  | some o => decide (2 ≤ o.kind) && (decide (o.kind ≤ 255) && (okLen o.kind o.data.length && (!twin os i o.kind && decide (olen (os.take (i + 1)) ≤ 40))))
def rightB (os : List Op) : Bool := (List.range os.length).all (goodAt os)
theorem rightB_iff (os : List Op) : rightB os = true ↔ ∀ i, i < os.length → goodAt os i = true := by simp [rightB]
structure Good (os : List Op) (i : Nat) (h : i < os.length) : Prop where
  k0 : 2 ≤ os[i].kind
  k1 : os[i].kind ≤ 255
  len : okLen os[i].kind os[i].data.length = true
  tw : twin os i os[i].kind = false
  n40 : olen (os.take (i + 1)) ≤ 40
theorem goodAt_iff (os : List Op) (i : Nat) (h : i < os.length) : goodAt os i = true ↔ Good os i h := by
  unfold goodAt
  rw [List.getElem?_eq_getElem h]
  simp only [Bool.and_eq_true, decide_eq_true_eq, Bool.not_eq_true']
  exact ⟨fun ⟨a, b, c, d, e⟩ => ⟨a, b, c, d, e⟩, fun h => ⟨h.k0, h.k1, h.len, h.tw, h.n40⟩⟩
theorem right_olen (os : List Op) (h : rightB os = true) : olen os ≤ 40 := by
  rw [rightB_iff] at h
  by_cases h0 : os.length = 0
  · rw [List.length_eq_zero_iff.1 h0]; simp [olen]
  · have := ((goodAt_iff os (os.length - 1) (by omega)).1 (h _ (by omega))).n40
    rw [show os.length - 1 + 1 = os.length by omega, List.take_length] at this
    exact this
theorem goodAt_append (a b : List Op) (i : Nat) (h : i < a.length) : goodAt (a ++ b) i = goodAt a i := by
  unfold goodAt twin
  rw [List.getElem?_append_left h, List.take_append_of_le_length (by omega), List.take_append_of_le_length (by omega)]
theorem right_prefix (a b : List Op) (h : rightB (a ++ b) = true) : rightB a = true := by
  rw [rightB_iff] at h ⊢
  intro i hi
  have := h i (by rw [List.length_append]; omega)
  rwa [goodAt_append a b i hi] at this
theorem right_nil : rightB [] = true := rfl
/-- one option more. -/
theorem right_snoc (a : List Op) (o : Op) (h : rightB a = true) : rightB (a ++ [o]) = goodAt (a ++ [o]) a.length := by
  rw [Bool.eq_iff_iff, rightB_iff]
  constructor
  · intro h2; exact h2 _ (by simp)
  · intro h2 i hi
    by_cases e : i = a.length
    · subst e; exact h2
    · have hl : i < a.length := by simp at hi; omega
      rw [goodAt_append a [o] i hl]
      exact (rightB_iff a).1 h i hl
theorem right_first (o : Op) : True := trivial

/-- the bytes of options. -/
def opB (o : Op) : List UInt8 := b8 o.kind :: b8 (2 + o.data.length) :: o.data
def opsB : List Op → List UInt8
  | [] => []
  | o :: r => opB o ++ opsB r
theorem opsB_append : ∀ (a b : List Op), opsB (a ++ b) = opsB a ++ opsB b
  | [], b => rfl
  | o :: r, b => by have := opsB_append r b; simp only [List.cons_append, opsB, this, List.append_assoc]
theorem opsB_length : ∀ (os : List Op), (opsB os).length = olen os
  | [] => rfl
  | o :: r => by have := opsB_length r; simp only [opsB, olen, opB, List.length_append, List.length_cons, this]; omega
theorem opsB_take_succ (os : List Op) (i : Nat) (h : i < os.length) : opsB (os.take (i + 1)) = opsB (os.take i) ++ opB os[i] := by
  rw [List.take_succ_eq_append_getElem h, opsB_append]
  simp [opsB]
/-- how many bytes 0 stand behind so many bytes of options. -/
def padN (n : Nat) : Nat := (4 - n % 4) % 4
theorem padN_spec (n : Nat) : (n + padN n) % 4 = 0 ∧ padN n < 4 := by unfold padN; omega
def padB (os : List Op) : List UInt8 := opsB os ++ List.replicate (padN (olen os)) 0
theorem padB_length (os : List Op) : (padB os).length = olen os + padN (olen os) := by simp [padB, opsB_length]

def two (n : Int) : List UInt8 := [b8 (n / 256), b8 (n % 256)]
def four (n : Int) : List UInt8 := [b8 (n / 16777216), b8 (n / 65536 % 256), b8 (n / 256 % 256), b8 (n % 256)]
/-- how long the head is. -/
def thl (os : List Op) : Nat := 20 + (olen os + padN (olen os))
theorem thl_four (os : List Op) : thl os % 4 = 0 := by unfold thl; have := padN_spec (olen os); omega
/-- a segment's bytes, with a check sum. -/
def seg20 (t : Tc) (check : Int) : List UInt8 :=
  [b8 (t.sport / 256), b8 (t.sport % 256), b8 (t.dport / 256), b8 (t.dport % 256), b8 (t.seq / 16777216), b8 (t.seq / 65536 % 256), b8 (t.seq / 256 % 256), b8 (t.seq % 256), b8 (t.ack / 16777216), b8 (t.ack / 65536 % 256), b8 (t.ack / 256 % 256), b8 (t.ack % 256),
    b8 ((thl t.opts : Int) / 4 * 16), b8 t.flags, b8 (t.win / 256), b8 (t.win % 256), b8 (check / 256), b8 (check % 256), b8 (t.urg / 256), b8 (t.urg % 256)]
def segB (t : Tc) (check : Int) : List UInt8 := seg20 t check ++ (padB t.opts ++ t.body)
theorem segB_length (t : Tc) (c : Int) : (segB t c).length = thl t.opts + t.body.length := by simp [segB, seg20, padB_length, thl]; omega
/-- the sum with the pseudo head. -/
def sumT (proto : Int) (src dst : Int) (l : List UInt8) : Int := fo (pseudo src dst proto (l.length : Int) + fo (tot l))
theorem sumT_lo (p src dst : Int) (l : List UInt8) : 0 ≤ sumT p src dst l := fo_lo _
theorem sumT_hi (p src dst : Int) (l : List UInt8) : sumT p src dst l ≤ 65535 := fo_hi _
def chkT (src dst : Int) (t : Tc) : Int := 65535 - sumT 6 src dst (segB t 0)
theorem chkT_lo (src dst : Int) (t : Tc) : 0 ≤ chkT src dst t := by have := sumT_hi 6 src dst (segB t 0); unfold chkT; omega
theorem chkT_hi (src dst : Int) (t : Tc) : chkT src dst t ≤ 65535 := by have := sumT_lo 6 src dst (segB t 0); unfold chkT; omega
def putT (src dst : Int) (t : Tc) : List UInt8 := segB t (chkT src dst t)
theorem putT_length (src dst : Int) (t : Tc) : (putT src dst t).length = thl t.opts + t.body.length := segB_length _ _

structure MayT (t : Tc) : Prop where
  s0 : 0 ≤ t.sport
  s1 : t.sport ≤ 65535
  d0 : 0 ≤ t.dport
  d1 : t.dport ≤ 65535
  w0 : 0 ≤ t.win
  w1 : t.win ≤ 65535
  u0 : 0 ≤ t.urg
  u1 : t.urg ≤ 65535
  f0 : 0 ≤ t.flags
  f1 : t.flags ≤ 255
  opts : rightB t.opts = true
  fit : thl t.opts + t.body.length ≤ 65535
def inB (n m : Int) : Bool := decide (0 ≤ n) && decide (n ≤ m)
def mayT (t : Tc) : Bool := inB t.sport 65535 && (inB t.dport 65535 && (inB t.win 65535 && (inB t.urg 65535 && (inB t.flags 255 && (rightB t.opts && decide (thl t.opts + t.body.length ≤ 65535))))))
theorem mayT_iff (t : Tc) : mayT t = true ↔ MayT t := by
  unfold mayT inB
  simp only [Bool.and_eq_true, decide_eq_true_eq]
  constructor
  · rintro ⟨⟨a, b⟩, ⟨c, d⟩, ⟨e, f⟩, ⟨g, i⟩, ⟨j, k⟩, l, m⟩
    exact ⟨a, b, c, d, e, f, g, i, j, k, l, m⟩
  · intro h
    exact ⟨⟨h.s0, h.s1⟩, ⟨h.d0, h.d1⟩, ⟨h.w0, h.w1⟩, ⟨h.u0, h.u1⟩, ⟨h.f0, h.f1⟩, h.opts, h.fit⟩

/-- the options of these bytes, behind those that came; none: there is one that is none. -/
def pOpts : Nat → List UInt8 → List Op → Option (List Op)
  | 0, _, acc => some acc
  | _ + 1, [], acc => some acc
  | f + 1, k :: r, acc =>
    if k = 0 then some acc
    else if k = 1 then pOpts f r acc
    else
      match r with
      | [] => none
      | n :: r =>
        if n.toNat < 2 ∨ r.length < n.toNat - 2 then none
        else if rightB (acc ++ [⟨(k.toNat : Int), r.take (n.toNat - 2)⟩]) then pOpts f (r.drop (n.toNat - 2)) (acc ++ [⟨(k.toNat : Int), r.take (n.toNat - 2)⟩]) else none

/-- how long the head says that it is. -/
def tsz (l : List UInt8) : Int := g8 l 12 / 16 * 4
def prsT (src dst : Int) (l : List UInt8) : Int × Tc :=
  if 65535 < l.length then (4, Tc.empty)
  else if l.length < 20 then (2, Tc.empty)
  else if tsz l < 20 ∨ (l.length : Int) < tsz l then (3, Tc.empty)
  else if sumT 6 src dst l ≠ 65535 then (5, Tc.empty)
  else
    match pOpts 60 ((l.take (tsz l).toNat).drop 20) [] with
    | none => (6, Tc.empty)
    | some os => (0, ⟨wd l 0, wd l 2, ad4 l 4, ad4 l 8, g8 l 13, wd l 14, wd l 18, os, l.drop (tsz l).toNat⟩)

/-- what is put is read as it was. -/
theorem pOpts_put : ∀ (os : List Op) (f m : Nat) (acc : List Op), (opsB os).length + m ≤ f → rightB (acc ++ os) = true → pOpts f (opsB os ++ List.replicate m 0) acc = some (acc ++ os)
  | [], f, m, acc, _, h => by
    simp only [opsB, List.nil_append, List.append_nil]
    cases f with
    | zero => rfl
    | succ f =>
      cases m with
      | zero => rfl
      | succ m => simp [List.replicate_succ, pOpts]
  | o :: r, f, m, acc, hf, h => by
    have hg := (goodAt_iff (acc ++ o :: r) acc.length (by simp)).1 ((rightB_iff _).1 h _ (by simp))
    have e0 : (acc ++ o :: r)[acc.length]'(by simp) = o := by simp
    have k0 := hg.k0
    have k1 := hg.k1
    rw [e0] at k0 k1
    have n40 := right_olen _ h
    rw [olen_append] at n40
    simp only [olen] at n40
    simp only [opsB, opB, List.length_append, List.length_cons] at hf
    cases f with
    | zero => omega
    | succ f =>
      have b1 := b8_is o.kind (by omega) k1
      have b2 := b8_is (2 + o.data.length) (by omega) (by omega)
      have hk : ¬ b8 o.kind = 0 := fun e => by rw [e] at b1; simp at b1; omega
      have hk1 : ¬ b8 o.kind = 1 := fun e => by rw [e] at b1; simp at b1; omega
      have e2 : (b8 (2 + (o.data.length : Int))).toNat = 2 + o.data.length := by omega
      simp only [opsB, opB, List.cons_append, List.append_assoc]
      rw [pOpts, if_neg hk, if_neg hk1, e2, if_neg (by simp), show 2 + o.data.length - 2 = o.data.length by omega, List.take_left, List.drop_left, b1]
      have h' : rightB (acc ++ [o] ++ r) = true := by simpa using h
      have hs := right_prefix _ _ h'
      rw [if_pos hs, pOpts_put r f m (acc ++ [o]) (by omega) h']
      simp

/-- what is read of them is right, and no longer than they. -/
theorem pOpts_right : ∀ (f : Nat) (l : List UInt8) (acc os : List Op), rightB acc = true → pOpts f l acc = some os → rightB os = true ∧ olen os ≤ olen acc + l.length
  | 0, l, acc, os, h, e => by simp only [pOpts, Option.some.injEq] at e; subst e; exact ⟨h, by omega⟩
  | f + 1, [], acc, os, h, e => by simp only [pOpts, Option.some.injEq] at e; subst e; exact ⟨h, by omega⟩
  | f + 1, [k], acc, os, h, e => by
    rw [pOpts] at e
    split at e
    · simp only [Option.some.injEq] at e; subst e; exact ⟨h, by omega⟩
    · split at e
      · have := pOpts_right f [] acc os h e
        exact ⟨this.1, by have := this.2; simp at this ⊢; omega⟩
      · simp at e
  | f + 1, k :: n :: r, acc, os, h, e => by
    rw [pOpts] at e
    split at e
    · simp only [Option.some.injEq] at e; subst e; exact ⟨h, by omega⟩
    · split at e
      · have := pOpts_right f (n :: r) acc os h e
        exact ⟨this.1, by have := this.2; simp at this ⊢; omega⟩
      · split at e
        · simp at e
        · rename_i hn
          split at e
          · rename_i hr
            have := pOpts_right f _ _ os hr e
            refine ⟨this.1, ?_⟩
            have h2 := this.2
            rw [olen_append] at h2
            simp only [olen, List.length_take, List.length_drop, List.length_cons] at h2 ⊢
            omega
          · simp at e

theorem g8_list (l : List UInt8) (k : Nat) : True := trivial
theorem seg_bytes (t : Tc) (c : Int) (h : MayT t) (hq : 0 ≤ t.seq ∧ t.seq ≤ 4294967295) (ha : 0 ≤ t.ack ∧ t.ack ≤ 4294967295) :
    wd (segB t c) 0 = t.sport ∧ wd (segB t c) 2 = t.dport ∧ ad4 (segB t c) 4 = t.seq ∧ ad4 (segB t c) 8 = t.ack ∧ tsz (segB t c) = (thl t.opts : Int) ∧ g8 (segB t c) 13 = t.flags ∧ wd (segB t c) 14 = t.win ∧ wd (segB t c) 18 = t.urg := by
  obtain ⟨s0, s1, d0, d1, w0, w1, u0, u1, f0, f1, ho, fit⟩ := h
  have h40 := right_olen _ ho
  have h4 := thl_four t.opts
  have hp := padN_spec (olen t.opts)
  have h60 : thl t.opts ≤ 60 := by unfold thl; omega
  have h20 : 20 ≤ thl t.opts := by unfold thl; omega
  unfold segB seg20 tsz ad4 wd
  simp only [List.cons_append, List.nil_append, Nat.reduceAdd]
  refine ⟨?_, ?_, ?_, ?_, ?_, ?_, ?_, ?_⟩ <;> simp only [show ∀ (a : UInt8) (r : List UInt8), g8 (a :: r) 0 = (a.toNat : Int) from fun _ _ => rfl, show ∀ (a : UInt8) (r : List UInt8) (k : Nat), g8 (a :: r) (k + 1) = g8 r k from fun _ _ _ => rfl]
  · rw [b8_is _ (by omega) (by omega), b8_is _ (by omega) (by omega)]; omega
  · rw [b8_is _ (by omega) (by omega), b8_is _ (by omega) (by omega)]; omega
  · rw [b8_is _ (by omega) (by omega), b8_is _ (by omega) (by omega), b8_is _ (by omega) (by omega), b8_is _ (by omega) (by omega)]; omega
  · rw [b8_is _ (by omega) (by omega), b8_is _ (by omega) (by omega), b8_is _ (by omega) (by omega), b8_is _ (by omega) (by omega)]; omega
  · rw [b8_is _ (by omega) (by omega)]; omega
  · rw [b8_is _ (by omega) (by omega)]
  · rw [b8_is _ (by omega) (by omega), b8_is _ (by omega) (by omega)]; omega
  · rw [b8_is _ (by omega) (by omega), b8_is _ (by omega) (by omega)]; omega

/-- the check sum stands at 16. -/
theorem seg_set (t : Tc) (c : Int) : ((segB t 0).set 16 (b8 (c / 256))).set (16 + 1) (b8 (c % 256)) = segB t c := by
  unfold segB seg20
  simp only [List.set_cons_succ, List.set_cons_zero, Nat.reduceAdd, List.cons_append, List.nil_append]
theorem tot_seg (t : Tc) (c : Int) (h0 : 0 ≤ c) (h1 : c ≤ 65535) : tot (segB t c) = tot (segB t 0) + c := by
  rw [← seg_set t c]
  have := tot_set 8 (segB t 0) (b8 (c / 256)) (b8 (c % 256)) (by rw [segB_length]; unfold thl; omega)
  simp only [Nat.reduceMul, Nat.reduceAdd] at this
  simp only [Nat.reduceAdd]
  have z : (segB t 0)[16]'(by rw [segB_length]; unfold thl; omega) = 0 := rfl
  have z1 : (segB t 0)[17]'(by rw [segB_length]; unfold thl; omega) = 0 := rfl
  rw [this, z, z1, b8_is _ (by omega) (by omega), b8_is _ (by omega) (by omega)]
  simp; omega
theorem pseudo_lo (s d p z : Int) : 0 ≤ pseudo s d p z := fo_lo _
/-- the sum of what is put fits. -/
theorem sum_put (src dst : Int) (t : Tc) : sumT 6 src dst (putT src dst t) = 65535 := by
  have c0 := chkT_lo src dst t
  have c1 := chkT_hi src dst t
  have t0 := tot_lo (segB t 0)
  have p0 := pseudo_lo src dst 6 (((segB t 0).length : Nat) : Int)
  have hl : (putT src dst t).length = (segB t 0).length := by rw [putT_length, segB_length]
  unfold sumT
  rw [hl, show tot (putT src dst t) = tot (segB t 0) + chkT src dst t from tot_seg t _ c0 c1, fo_fo' _ _ p0 (by omega)]
  have hc : chkT src dst t = 65535 - fo (pseudo src dst 6 ((segB t 0).length : Int) + tot (segB t 0)) := by
    unfold chkT sumT; rw [fo_fo' _ _ p0 t0]
  rw [hc]
  have := stands (pseudo src dst 6 ((segB t 0).length : Int) + tot (segB t 0)) (by omega)
  rw [← this]
  congr 1
  omega
theorem seg_opts (t : Tc) (c : Int) : ((segB t c).take (thl t.opts)).drop 20 = padB t.opts ∧ (segB t c).drop (thl t.opts) = t.body := by
  have hl : (seg20 t c ++ padB t.opts).length = thl t.opts := by simp [seg20, padB_length, thl]; omega
  have e : segB t c = (seg20 t c ++ padB t.opts) ++ t.body := by unfold segB; rw [List.append_assoc]
  rw [e, ← hl]
  constructor
  · rw [List.take_left, show 20 = (seg20 t c).length from rfl, List.drop_left]
  · rw [List.drop_left]
/-- what is put is parsed as it was. -/
theorem prs_putT (src dst : Int) (t : Tc) (h : MayT t) (hq : 0 ≤ t.seq ∧ t.seq ≤ 4294967295) (ha : 0 ≤ t.ack ∧ t.ack ≤ 4294967295) : prsT src dst (putT src dst t) = (0, t) := by
  obtain ⟨g0, g2, g4, g8', g12, g13, g14, g18⟩ := seg_bytes t (chkT src dst t) h hq ha
  have hl := putT_length src dst t
  have fit := h.fit
  have h20 : 20 ≤ thl t.opts := by unfold thl; omega
  have h40 := right_olen _ h.opts
  have hp := padN_spec (olen t.opts)
  obtain ⟨o1, o2⟩ := seg_opts t (chkT src dst t)
  have hs := sum_put src dst t
  have hx : tsz (putT src dst t) = (thl t.opts : Int) := g12
  have eo : pOpts 60 (padB t.opts) [] = some t.opts := by
    have := pOpts_put t.opts 60 (padN (olen t.opts)) [] (by rw [opsB_length]; omega) (by simpa using h.opts)
    exact this
  unfold prsT
  rw [if_neg (by omega), if_neg (by omega), if_neg (by rw [hx]; omega), if_neg (by rw [hs]; simp), hx]
  have ex : ((thl t.opts : Int)).toNat = thl t.opts := by omega
  rw [ex]
  unfold putT
  rw [o1, eo, g0, g2, g4, g8', g13, g14, g18, o2]

/-- what is read may be put, and is no longer then. -/
theorem prsT_ok (src dst : Int) (l : List UInt8) (h : (prsT src dst l).1 = 0) : MayT (prsT src dst l).2 ∧ (0 ≤ (prsT src dst l).2.seq ∧ (prsT src dst l).2.seq ≤ 4294967295) ∧ (0 ≤ (prsT src dst l).2.ack ∧ (prsT src dst l).2.ack ≤ 4294967295) ∧
    thl (prsT src dst l).2.opts + (prsT src dst l).2.body.length ≤ l.length := by
  unfold prsT at h ⊢
  split at h
  · cases h
  · rename_i h1
    rw [if_neg h1]
    split at h
    · cases h
    · rename_i h2
      rw [if_neg h2]
      split at h
      · cases h
      · rename_i h3
        rw [if_neg h3]
        split at h
        · cases h
        · rename_i h4
          rw [if_neg h4]
          cases hp : pOpts 60 ((l.take (tsz l).toNat).drop 20) [] with
          | none => rw [hp] at h; cases h
          | some os =>
            dsimp only
            obtain ⟨hr, hn⟩ := pOpts_right _ _ _ _ right_nil hp
            simp only [olen, List.length_drop, List.length_take] at hn
            have hz : tsz l % 4 = 0 := by unfold tsz; omega
            have hf : thl os + (l.drop (tsz l).toNat).length ≤ l.length := by
              rw [List.length_drop]
              have := padN_spec (olen os)
              unfold thl
              omega
            refine ⟨⟨wd_lo _ _, wd_hi _ _, wd_lo _ _, wd_hi _ _, wd_lo _ _, wd_hi _ _, wd_lo _ _, wd_hi _ _, g8_lo _ _, g8_hi _ _, hr, by dsimp only; omega⟩, ⟨ad4_lo _ _, ad4_hi _ _⟩, ⟨ad4_lo _ _, ad4_hi _ _⟩, hf⟩
end Go.Proofs.Ytofpalmghdapkaa

/- Segments of which one byte is another, or one of whose addresses is: plain mathematics. -/
namespace Go.Proofs.Ytofpalmghdapkaa
open Go.RowKit
set_option linter.unusedVariables false

theorem sum_one (p src dst : Int) (l : List UInt8) (i : Nat) (b : UInt8) (h : i < l.length) (hb : b ≠ l[i]) (ht : sumT p src dst l = 65535) : sumT p src dst (l.set i b) ≠ 65535 := by
  obtain ⟨m, hm, e⟩ := tot_one l i b h
  have h1 : b.toNat ≠ l[i].toNat := fun e => hb (UInt8.toNat_inj.1 e)
  have h2 := b.toNat_lt
  have h3 := l[i].toNat_lt
  have p0 := pseudo_lo src dst p ((l.length : Nat) : Int)
  have t0 := tot_lo l
  have t1 := tot_lo (l.set i b)
  unfold sumT at ht ⊢
  rw [List.length_set]
  rw [fo_fo' _ _ p0 t0] at ht
  rw [fo_fo' _ _ p0 t1]
  generalize pseudo src dst p ((l.length : Nat) : Int) = P at *
  intro hf
  rw [fo_top] at ht hf
  rw [e] at hf
  rcases hm with rfl | rfl <;> omega
theorem prsT_sum (src dst : Int) (l : List UInt8) (h : sumT 6 src dst l ≠ 65535) : (prsT src dst l).1 ≠ 0 := by
  unfold prsT
  intro hc
  split at hc
  · cases hc
  · split at hc
    · cases hc
    · split at hc
      · cases hc
      · simp at hc
theorem prsT_five (src dst : Int) (l : List UInt8) (h : sumT 6 src dst l ≠ 65535) (h1 : l.length ≤ 65535) (h2 : 20 ≤ l.length) (h3 : 20 ≤ tsz l) (h4 : tsz l ≤ l.length) : (prsT src dst l).1 = 5 := by
  unfold prsT
  rw [if_neg (by omega), if_neg (by omega), if_neg (by omega), if_pos h]
/-- one byte of a segment that is another is seen. -/
theorem spoiltT (src dst : Int) (t : Tc) (i : Nat) (b : UInt8) (hi : i < thl t.opts + t.body.length) (hb : b ≠ (putT src dst t)[i]'(by rw [putT_length]; omega)) : (prsT src dst ((putT src dst t).set i b)).1 ≠ 0 :=
  prsT_sum _ _ _ (sum_one 6 src dst _ i b (by rw [putT_length]; omega) hb (sum_put src dst t))
/-- an address that is another by one byte is seen. -/
theorem spoiltA (src src' dst e : Int) (t : Tc) (hm : MayT t) (hq : 0 ≤ t.seq ∧ t.seq ≤ 4294967295) (ha : 0 ≤ t.ack ∧ t.ack ≤ 4294967295) (hs : 0 ≤ src) (hd : 0 ≤ dst) (hs' : 0 ≤ src') (h1 : src' / 65536 = src / 65536) (h2 : src' % 65536 = src % 65536 + 256 * e) (h3 : e ≠ 0) (h4 : -255 ≤ e) (h5 : e ≤ 255) :
    (prsT src' dst (putT src dst t)).1 = 5 := by
  have hl := putT_length src dst t
  have fit := hm.fit
  have h20 : 20 ≤ thl t.opts := by unfold thl; omega
  have g12 := (seg_bytes t (chkT src dst t) hm hq ha).2.2.2.2.1
  have hx : tsz (putT src dst t) = (thl t.opts : Int) := g12
  refine prsT_five src' dst _ ?_ (by omega) (by omega) (by rw [hx]; omega) (by rw [hx]; omega)
  have ht := sum_put src dst t
  have t0 := tot_lo (putT src dst t)
  have p0 := pseudo_lo src dst 6 (((putT src dst t).length : Nat) : Int)
  have p1 := pseudo_lo src' dst 6 (((putT src dst t).length : Nat) : Int)
  unfold sumT at ht ⊢
  rw [fo_fo' _ _ p0 t0] at ht
  rw [fo_fo' _ _ p1 t0]
  unfold pseudo at ht ⊢
  have z0 : 0 ≤ (((putT src dst t).length : Nat) : Int) % 65536 := by omega
  generalize (((putT src dst t).length : Nat) : Int) % 65536 = z at *
  generalize tot (putT src dst t) = T at *
  rw [fo_fo _ _ (by omega) t0] at ht
  rw [fo_fo _ _ (by omega) t0]
  rw [fo_top] at ht
  intro hf
  rw [fo_top] at hf
  omega
end Go.Proofs.Ytofpalmghdapkaa

/- Datagrams and their bytes: plain mathematics. No condition beyond bounds. -/
namespace Go.Proofs.Ytofpalmghdapkaa
open Go.RowKit
set_option linter.unusedVariables false

structure Ud where
  sport : Int
  dport : Int
  nosum : Bool
  body : List UInt8
def Ud.empty : Ud := ⟨0, 0, false, []⟩
def sameU (a b : Ud) : Bool := a.sport == b.sport && (a.dport == b.dport && (a.nosum == b.nosum && a.body == b.body))
theorem sameU_iff (a b : Ud) : sameU a b = true ↔ a = b := by cases a; cases b; simp [sameU]
/-- a datagram's bytes, with a check sum. -/
def udB (u : Ud) (check : Int) : List UInt8 :=
  [b8 (u.sport / 256), b8 (u.sport % 256), b8 (u.dport / 256), b8 (u.dport % 256), b8 ((8 + (u.body.length : Int)) / 256), b8 ((8 + (u.body.length : Int)) % 256), b8 (check / 256), b8 (check % 256)] ++ u.body
theorem udB_length (u : Ud) (c : Int) : (udB u c).length = 8 + u.body.length := by simp [udB]; omega
/-- its check sum: none is 0, and of a sum that is 0 65535 is told. -/
def chkU0 (src dst : Int) (u : Ud) : Int := 65535 - sumT 17 src dst (udB u 0)
def chkU (src dst : Int) (u : Ud) : Int := if u.nosum then 0 else if chkU0 src dst u = 0 then 65535 else chkU0 src dst u
theorem chkU0_lo (src dst : Int) (u : Ud) : 0 ≤ chkU0 src dst u := by have := sumT_hi 17 src dst (udB u 0); unfold chkU0; omega
theorem chkU0_hi (src dst : Int) (u : Ud) : chkU0 src dst u ≤ 65535 := by have := sumT_lo 17 src dst (udB u 0); unfold chkU0; omega
theorem chkU_lo (src dst : Int) (u : Ud) : 0 ≤ chkU src dst u := by have := chkU0_lo src dst u; unfold chkU; split <;> (try split) <;> omega
theorem chkU_hi (src dst : Int) (u : Ud) : chkU src dst u ≤ 65535 := by have := chkU0_hi src dst u; unfold chkU; split <;> (try split) <;> omega
theorem chkU_zero (src dst : Int) (u : Ud) : chkU src dst u = 0 ↔ u.nosum = true := by
  have := chkU0_lo src dst u
  unfold chkU
  cases u.nosum <;> simp
  split <;> omega
def putU (src dst : Int) (u : Ud) : List UInt8 := udB u (chkU src dst u)
theorem putU_length (src dst : Int) (u : Ud) : (putU src dst u).length = 8 + u.body.length := udB_length _ _
structure MayU (u : Ud) : Prop where
  s0 : 0 ≤ u.sport
  s1 : u.sport ≤ 65535
  d0 : 0 ≤ u.dport
  d1 : u.dport ≤ 65535
  fit : u.body.length ≤ 65527
def mayU (u : Ud) : Bool := inB u.sport 65535 && (inB u.dport 65535 && decide (u.body.length ≤ 65527))
theorem mayU_iff (u : Ud) : mayU u = true ↔ MayU u := by
  unfold mayU inB
  simp only [Bool.and_eq_true, decide_eq_true_eq]
  exact ⟨fun ⟨⟨a, b⟩, ⟨c, d⟩, e⟩ => ⟨a, b, c, d, e⟩, fun h => ⟨⟨h.s0, h.s1⟩, ⟨h.d0, h.d1⟩, h.fit⟩⟩

def prsU (src dst : Int) (l : List UInt8) : Int × Ud :=
  if l.length < 8 then (2, Ud.empty)
  else if wd l 4 < 8 ∨ (l.length : Int) < wd l 4 then (4, Ud.empty)
  else if 0 < wd l 6 ∧ sumT 17 src dst (l.take (wd l 4).toNat) ≠ 65535 then (5, Ud.empty)
  else (0, ⟨wd l 0, wd l 2, wd l 6 == 0, (l.take (wd l 4).toNat).drop 8⟩)

theorem ud_bytes (u : Ud) (c : Int) (R : List UInt8) (h : MayU u) (c0 : 0 ≤ c) (c1 : c ≤ 65535) :
    wd (udB u c ++ R) 0 = u.sport ∧ wd (udB u c ++ R) 2 = u.dport ∧ wd (udB u c ++ R) 4 = 8 + (u.body.length : Int) ∧ wd (udB u c ++ R) 6 = c := by
  obtain ⟨s0, s1, d0, d1, fit⟩ := h
  unfold udB wd
  simp only [List.cons_append, List.nil_append, Nat.reduceAdd]
  refine ⟨?_, ?_, ?_, ?_⟩ <;> simp only [show ∀ (a : UInt8) (r : List UInt8), g8 (a :: r) 0 = (a.toNat : Int) from fun _ _ => rfl, show ∀ (a : UInt8) (r : List UInt8) (k : Nat), g8 (a :: r) (k + 1) = g8 r k from fun _ _ _ => rfl]
  all_goals (rw [b8_is _ (by omega) (by omega), b8_is _ (by omega) (by omega)]; omega)
theorem ud_set (u : Ud) (c : Int) : ((udB u 0).set 6 (b8 (c / 256))).set (6 + 1) (b8 (c % 256)) = udB u c := by
  unfold udB
  simp only [List.set_cons_succ, List.set_cons_zero, Nat.reduceAdd, List.cons_append, List.nil_append]
theorem tot_ud (u : Ud) (c : Int) (h0 : 0 ≤ c) (h1 : c ≤ 65535) : tot (udB u c) = tot (udB u 0) + c := by
  rw [← ud_set u c]
  have := tot_set 3 (udB u 0) (b8 (c / 256)) (b8 (c % 256)) (by rw [udB_length]; omega)
  simp only [Nat.reduceMul, Nat.reduceAdd] at this
  simp only [Nat.reduceAdd]
  have z : (udB u 0)[6]'(by rw [udB_length]; omega) = 0 := rfl
  have z1 : (udB u 0)[7]'(by rw [udB_length]; omega) = 0 := rfl
  rw [this, z, z1, b8_is _ (by omega) (by omega), b8_is _ (by omega) (by omega)]
  simp; omega
/-- the sum of what is put fits. -/
theorem sum_putU (src dst : Int) (u : Ud) (h : u.nosum = false) : sumT 17 src dst (putU src dst u) = 65535 := by
  have c0 := chkU_lo src dst u
  have c1 := chkU_hi src dst u
  have t0 := tot_lo (udB u 0)
  have p0 := pseudo_lo src dst 17 (((udB u 0).length : Nat) : Int)
  have hl : (putU src dst u).length = (udB u 0).length := by rw [putU_length, udB_length]
  unfold sumT
  rw [hl, show tot (putU src dst u) = tot (udB u 0) + chkU src dst u from tot_ud u _ c0 c1, fo_fo' _ _ p0 (by omega)]
  have hc : chkU0 src dst u = 65535 - fo (pseudo src dst 17 ((udB u 0).length : Int) + tot (udB u 0)) := by
    unfold chkU0 sumT; rw [fo_fo' _ _ p0 t0]
  have hs := stands (pseudo src dst 17 ((udB u 0).length : Int) + tot (udB u 0)) (by omega)
  unfold chkU
  rw [if_neg (by rw [h]; simp)]
  generalize pseudo src dst 17 ((udB u 0).length : Int) = P at *
  split
  · rename_i hz
    rw [hc] at hz
    have hf : fo (P + tot (udB u 0)) = 65535 := by omega
    rw [fo_top] at hf ⊢
    omega
  · rw [hc]
    rw [← hs]
    congr 1
    omega
/-- what is put is parsed as it was, whatever stands behind it. -/
theorem prs_putU (src dst : Int) (u : Ud) (R : List UInt8) (h : MayU u) : prsU src dst (putU src dst u ++ R) = (0, u) := by
  obtain ⟨g0, g2, g4, g6⟩ := ud_bytes u (chkU src dst u) R h (chkU_lo _ _ _) (chkU_hi _ _ _)
  have hl := putU_length src dst u
  have e : putU src dst u = udB u (chkU src dst u) := rfl
  have hk : (8 + (u.body.length : Int)).toNat = (putU src dst u).length := by omega
  unfold prsU
  rw [List.length_append, e, g4, g6, ← e]
  rw [if_neg (by omega), if_neg (by omega), hk, List.take_left]
  have hd : (putU src dst u).drop 8 = u.body := rfl
  rw [hd, e, g0, g2, ← e]
  cases hn : u.nosum with
  | true =>
    have hz := (chkU_zero src dst u).2 hn
    rw [if_neg (by omega), hz]
    show (0, _) = (0, u)
    rw [show ((0 : Int) == 0) = u.nosum from by rw [hn]; rfl]
  | false =>
    have hz : chkU src dst u ≠ 0 := fun h => by rw [(chkU_zero src dst u).1 h] at hn; cases hn
    rw [if_neg (by rw [sum_putU src dst u hn]; simp), show (chkU src dst u == 0) = u.nosum from by rw [hn]; simpa using hz]
theorem mayU_empty : MayU Ud.empty := ⟨by decide, by decide, by decide, by decide, by decide⟩
/-- what is read may be put, and is put as it was. -/
theorem prsU_ok (src dst : Int) (l : List UInt8) (h : (prsU src dst l).1 = 0) : MayU (prsU src dst l).2 ∧ (putU src dst (prsU src dst l).2).length ≤ l.length := by
  unfold prsU at h ⊢
  split at h
  · cases h
  · rename_i h1
    rw [if_neg h1]
    split at h
    · cases h
    · rename_i h2
      rw [if_neg h2]
      split at h
      · cases h
      · rename_i h3
        rw [if_neg h3]
        have := wd_hi l 4
        dsimp only
        rw [putU_length]
        dsimp only
        refine ⟨⟨wd_lo _ _, wd_hi _ _, wd_lo _ _, wd_hi _ _, ?_⟩, ?_⟩
        · dsimp only; rw [List.length_drop, List.length_take]; omega
        · rw [List.length_drop, List.length_take]; omega

theorem b8g (l : List UInt8) (k : Nat) (h : k < l.length) : b8 (g8 l k) = l[k] := by
  rw [g8_at l k h]
  apply UInt8.toNat_inj.1
  have := b8_is (l[k].toNat : Int) (by omega) (by have := l[k].toNat_lt; omega)
  omega
theorem take8 : ∀ (l : List UInt8), 8 ≤ l.length → l.take 8 = [b8 (g8 l 0), b8 (g8 l 1), b8 (g8 l 2), b8 (g8 l 3), b8 (g8 l 4), b8 (g8 l 5), b8 (g8 l 6), b8 (g8 l 7)] := by
  intro l h
  rw [b8g l 0 (by omega), b8g l 1 (by omega), b8g l 2 (by omega), b8g l 3 (by omega), b8g l 4 (by omega), b8g l 5 (by omega), b8g l 6 (by omega), b8g l 7 (by omega)]
  match l, h with
  | a :: b :: c :: d :: e :: f :: g :: i :: r, _ => rfl
theorem wd_hi' (l : List UInt8) (k : Nat) : wd l k / 256 = g8 l k := by have := g8_lo l (k + 1); have := g8_hi l (k + 1); unfold wd; omega
theorem wd_lo' (l : List UInt8) (k : Nat) : wd l k % 256 = g8 l (k + 1) := by have := g8_lo l (k + 1); have := g8_hi l (k + 1); unfold wd; omega
theorem g8_takeU (l : List UInt8) (n k : Nat) (h : k < n) : g8 (l.take n) k = g8 l k := by
  unfold g8
  rw [List.getD, List.getD, List.getElem?_take]
  simp [h]
theorem wd_takeU (l : List UInt8) (n k : Nat) (h : k + 1 < n) : wd (l.take n) k = wd l k := by
  unfold wd; rw [g8_takeU l n k (by omega), g8_takeU l n (k + 1) h]
theorem sumT_pos (src dst : Int) (hs : 0 ≤ src) (hd : 0 ≤ dst) (l : List UInt8) : 0 < pseudo src dst 17 ((l.length : Nat) : Int) + tot l := by
  have := tot_lo l
  have h : 0 < pseudo src dst 17 ((l.length : Nat) : Int) := by
    unfold pseudo fo
    rw [if_neg (by omega)]
    omega
  omega
/-- what is read is put as it was. -/
theorem prsU_back (src dst : Int) (hs : 0 ≤ src) (hd : 0 ≤ dst) (l : List UInt8) (h : (prsU src dst l).1 = 0) : putU src dst (prsU src dst l).2 = l.take (putU src dst (prsU src dst l).2).length := by
  obtain ⟨hM, hL⟩ := prsU_ok src dst l h
  unfold prsU at h
  split at h
  · cases h
  · rename_i h1
    split at h
    · cases h
    · rename_i h2
      split at h
      · cases h
      · rename_i h3
        have e : (prsU src dst l).2 = ⟨wd l 0, wd l 2, wd l 6 == 0, (l.take (wd l 4).toNat).drop 8⟩ := by
          unfold prsU; rw [if_neg h1, if_neg h2, if_neg h3]
        rw [e]
        have h4 := wd_hi l 4
        obtain ⟨n, hn⟩ : ∃ n : Nat, (n : Int) = wd l 4 := ⟨(wd l 4).toNat, by omega⟩
        have hnn : (wd l 4).toNat = n := by omega
        rw [hnn] at h3 ⊢
        have hb : ((l.take n).drop 8).length = n - 8 := by rw [List.length_drop, List.length_take]; omega
        rw [putU_length]
        dsimp only
        rw [hb, show 8 + (n - 8) = n by omega]
        have hcheck : chkU src dst ⟨wd l 0, wd l 2, wd l 6 == 0, (l.take n).drop 8⟩ = wd l 6 → putU src dst ⟨wd l 0, wd l 2, wd l 6 == 0, (l.take n).drop 8⟩ = l.take n := by
          intro hc
          unfold putU
          rw [hc]
          unfold udB
          dsimp only
          rw [hb, show (8 : Int) + ((n - 8 : Nat) : Int) = wd l 4 by omega]
          simp only [wd_hi', wd_lo', Nat.reduceAdd]
          have := take8 (l.take n) (by rw [List.length_take]; omega)
          rw [g8_takeU l n 0 (by omega), g8_takeU l n 1 (by omega), g8_takeU l n 2 (by omega), g8_takeU l n 3 (by omega), g8_takeU l n 4 (by omega), g8_takeU l n 5 (by omega), g8_takeU l n 6 (by omega), g8_takeU l n 7 (by omega)] at this
          rw [← this, List.take_append_drop]
        apply hcheck
        by_cases hz : wd l 6 = 0
        · rw [hz]; rfl
        · have hz6 := wd_lo l 6
          have hz7 := wd_hi l 6
          have hsum : sumT 17 src dst (l.take n) = 65535 := by
            by_cases hq : sumT 17 src dst (l.take n) = 65535
            · exact hq
            · exact absurd ⟨by omega, hq⟩ h3
          have hx : l.take n = udB ⟨wd l 0, wd l 2, wd l 6 == 0, (l.take n).drop 8⟩ (wd l 6) := by
            unfold udB
            dsimp only
            rw [hb, show (8 : Int) + ((n - 8 : Nat) : Int) = wd l 4 by omega]
            simp only [wd_hi', wd_lo', Nat.reduceAdd]
            have := take8 (l.take n) (by rw [List.length_take]; omega)
            rw [g8_takeU l n 0 (by omega), g8_takeU l n 1 (by omega), g8_takeU l n 2 (by omega), g8_takeU l n 3 (by omega), g8_takeU l n 4 (by omega), g8_takeU l n 5 (by omega), g8_takeU l n 6 (by omega), g8_takeU l n 7 (by omega)] at this
            rw [← this, List.take_append_drop]
          rw [hx] at hsum
          have hnb : (wd l 6 == 0) = false := by simpa using hz
          rw [hnb] at hsum ⊢
          generalize hu : (⟨wd l 0, wd l 2, false, (l.take n).drop 8⟩ : Ud) = u at hsum
          have hnu : u.nosum = false := by rw [← hu]
          unfold sumT at hsum
          have hl : (udB u (wd l 6)).length = (udB u 0).length := by rw [udB_length, udB_length]
          have p0 := pseudo_lo src dst 17 (((udB u 0).length : Nat) : Int)
          have t0 := tot_lo (udB u 0)
          have pp := sumT_pos src dst hs hd (udB u 0)
          rw [hl, tot_ud u _ hz6 hz7, fo_fo' _ _ p0 (by omega)] at hsum
          unfold chkU
          rw [if_neg (by rw [hnu]; simp)]
          have hc : chkU0 src dst u = 65535 - fo (pseudo src dst 17 ((udB u 0).length : Int) + tot (udB u 0)) := by
            unfold chkU0 sumT; rw [fo_fo' _ _ p0 t0]
          generalize pseudo src dst 17 ((udB u 0).length : Int) = P at *
          have hf := fo_hi (P + tot (udB u 0))
          have hl' := fo_lo (P + tot (udB u 0))
          rw [fo_top] at hsum
          have hfe : fo (P + tot (udB u 0)) = (P + tot (udB u 0) - 1) % 65535 + 1 := by unfold fo; rw [if_neg (by omega)]
          rw [hc, hfe]
          split <;> omega
/-- one byte that is another is seen, unless there is no sum then. -/
theorem spoiltU (src dst : Int) (u : Ud) (h : MayU u) (hn : u.nosum = false) (i : Nat) (b : UInt8) (hi : i < 8 + u.body.length) (h4 : i ≠ 4) (h5 : i ≠ 5) (hb : b ≠ (putU src dst u)[i]'(by rw [putU_length]; omega)) :
    (prsU src dst ((putU src dst u).set i b)).1 ≠ 0 ∨ ((prsU src dst ((putU src dst u).set i b)).2.nosum = true ∧ g8 ((putU src dst u).set i b) 6 = 0 ∧ g8 ((putU src dst u).set i b) 7 = 0) := by
  have hl := putU_length src dst u
  have hls : ((putU src dst u).set i b).length = 8 + u.body.length := by rw [List.length_set, hl]
  have g4 := (ud_bytes u (chkU src dst u) [] h (chkU_lo _ _ _) (chkU_hi _ _ _)).2.2.1
  rw [List.append_nil] at g4
  have e4 : wd ((putU src dst u).set i b) 4 = 8 + (u.body.length : Int) := by
    rw [← g4]
    show _ = wd (putU src dst u) 4
    unfold wd
    rw [g8_at _ 4 (by omega), g8_at _ 5 (by omega), g8_at _ 4 (by omega), g8_at _ 5 (by omega), List.getElem_set_ne h4, List.getElem_set_ne h5]
  have fit := h.fit
  have ht : ((putU src dst u).set i b).take (8 + (u.body.length : Int)).toNat = (putU src dst u).set i b := by
    rw [List.take_of_length_le (by omega)]
  unfold prsU
  rw [e4, if_neg (by omega), if_neg (by omega), ht]
  have hs := sum_one 17 src dst _ i b (by omega) hb (sum_putU src dst u hn)
  by_cases hz : wd ((putU src dst u).set i b) 6 = 0
  · right
    rw [if_neg (by omega), hz]
    have a := g8_lo ((putU src dst u).set i b) 6
    have c := g8_lo ((putU src dst u).set i b) 7
    simp only [wd, Nat.reduceAdd] at hz
    refine ⟨rfl, by omega, by omega⟩
  · left
    have := wd_lo ((putU src dst u).set i b) 6
    rw [if_pos ⟨by omega, hs⟩]
    simp
end Go.Proofs.Ytofpalmghdapkaa

/- Messages of control and their bytes, and the packets that they are about: plain mathematics. No condition beyond bounds. -/
namespace Go.Proofs.Ytofpalmghdapkaa
open Go.RowKit
set_option linter.unusedVariables false

structure Ic where
  type : Int
  code : Int
  rest : Int
  body : List UInt8
def Ic.empty : Ic := ⟨0, 0, 0, []⟩
def sameI (a b : Ic) : Bool := a.type == b.type && (a.code == b.code && (a.rest == b.rest && a.body == b.body))
theorem sameI_iff (a b : Ic) : sameI a b = true ↔ a = b := by cases a; cases b; simp [sameI]
def icB (m : Ic) (c : Int) : List UInt8 := [b8 m.type, b8 m.code, b8 (c / 256), b8 (c % 256), b8 (m.rest / 16777216), b8 (m.rest / 65536 % 256), b8 (m.rest / 256 % 256), b8 (m.rest % 256)] ++ m.body
theorem icB_length (m : Ic) (c : Int) : (icB m c).length = 8 + m.body.length := by simp [icB]; omega
def chkI (m : Ic) : Int := 65535 - fo (tot (icB m 0))
theorem chkI_lo (m : Ic) : 0 ≤ chkI m := by unfold chkI; have := fo_hi (tot (icB m 0)); omega
theorem chkI_hi (m : Ic) : chkI m ≤ 65535 := by unfold chkI; have := fo_lo (tot (icB m 0)); omega
def putI (m : Ic) : List UInt8 := icB m (chkI m)
theorem putI_length (m : Ic) : (putI m).length = 8 + m.body.length := icB_length _ _
structure MayI (m : Ic) : Prop where
  t0 : 0 ≤ m.type
  t1 : m.type ≤ 255
  c0 : 0 ≤ m.code
  c1 : m.code ≤ 255
  fit : m.body.length ≤ 65527
def mayI (m : Ic) : Bool := inB m.type 255 && (inB m.code 255 && decide (m.body.length ≤ 65527))
theorem mayI_iff (m : Ic) : mayI m = true ↔ MayI m := by
  unfold mayI inB
  simp only [Bool.and_eq_true, decide_eq_true_eq]
  exact ⟨fun ⟨⟨a, b⟩, ⟨c, d⟩, e⟩ => ⟨a, b, c, d, e⟩, fun h => ⟨⟨h.t0, h.t1⟩, ⟨h.c0, h.c1⟩, h.fit⟩⟩
def errK (k : Int) : Bool := k == 3 || (k == 4 || (k == 11 || k == 12))
def prsI (l : List UInt8) : Int × Ic :=
  if l.length < 8 then (2, Ic.empty)
  else if 65535 < l.length then (4, Ic.empty)
  else if fo (tot l) ≠ 65535 then (5, Ic.empty)
  else (0, ⟨g8 l 0, g8 l 1, ad4 l 4, l.drop 8⟩)

/-- the sum is taken without its own place: that of a word 0. -/
theorem tot_skip (m : Ic) : tot ([b8 m.type, b8 m.code] ++ ([b8 (m.rest / 16777216), b8 (m.rest / 65536 % 256), b8 (m.rest / 256 % 256), b8 (m.rest % 256)] ++ m.body)) = tot (icB m 0) := by
  have z : b8 ((0 : Int) / 256) = 0 := rfl
  have z' : b8 ((0 : Int) % 256) = 0 := rfl
  unfold icB
  rw [z, z']
  simp [tot]
theorem ic_bytes (m : Ic) (c : Int) (h : MayI m) (hr : 0 ≤ m.rest ∧ m.rest ≤ 4294967295) : g8 (icB m c) 0 = m.type ∧ g8 (icB m c) 1 = m.code ∧ ad4 (icB m c) 4 = m.rest := by
  obtain ⟨t0, t1, c0, c1, fit⟩ := h
  unfold icB ad4 wd
  simp only [List.cons_append, List.nil_append, Nat.reduceAdd]
  refine ⟨?_, ?_, ?_⟩ <;> simp only [show ∀ (a : UInt8) (r : List UInt8), g8 (a :: r) 0 = (a.toNat : Int) from fun _ _ => rfl, show ∀ (a : UInt8) (r : List UInt8) (k : Nat), g8 (a :: r) (k + 1) = g8 r k from fun _ _ _ => rfl]
  · rw [b8_is _ (by omega) (by omega)]
  · rw [b8_is _ (by omega) (by omega)]
  · rw [b8_is _ (by omega) (by omega), b8_is _ (by omega) (by omega), b8_is _ (by omega) (by omega), b8_is _ (by omega) (by omega)]; omega
theorem ic_set (m : Ic) (c : Int) : ((icB m 0).set 2 (b8 (c / 256))).set (2 + 1) (b8 (c % 256)) = icB m c := by
  unfold icB
  simp only [List.set_cons_succ, List.set_cons_zero, Nat.reduceAdd, List.cons_append, List.nil_append]
theorem tot_ic (m : Ic) (c : Int) (h0 : 0 ≤ c) (h1 : c ≤ 65535) : tot (icB m c) = tot (icB m 0) + c := by
  rw [← ic_set m c]
  have := tot_set 1 (icB m 0) (b8 (c / 256)) (b8 (c % 256)) (by rw [icB_length]; omega)
  simp only [Nat.reduceMul, Nat.reduceAdd] at this
  simp only [Nat.reduceAdd]
  have z : (icB m 0)[2]'(by rw [icB_length]; omega) = 0 := rfl
  have z1 : (icB m 0)[3]'(by rw [icB_length]; omega) = 0 := rfl
  rw [this, z, z1, b8_is _ (by omega) (by omega), b8_is _ (by omega) (by omega)]
  simp; omega
theorem sum_putI (m : Ic) : fo (tot (putI m)) = 65535 := by
  have := stands (tot (icB m 0)) (tot_lo _)
  unfold putI
  rw [tot_ic m _ (chkI_lo m) (chkI_hi m)]
  exact this
/-- what is put is parsed as it was. -/
theorem prs_putI (m : Ic) (h : MayI m) (hr : 0 ≤ m.rest ∧ m.rest ≤ 4294967295) : prsI (putI m) = (0, m) := by
  obtain ⟨g0, g1, g4⟩ := ic_bytes m (chkI m) h hr
  have hl := putI_length m
  have fit := h.fit
  have e : putI m = icB m (chkI m) := rfl
  unfold prsI
  rw [if_neg (by omega), if_neg (by omega), if_neg (by rw [sum_putI]; simp), e, g0, g1, g4]
  rfl
theorem prsI_ok (l : List UInt8) (h : (prsI l).1 = 0) : MayI (prsI l).2 ∧ (0 ≤ (prsI l).2.rest ∧ (prsI l).2.rest ≤ 4294967295) ∧ (putI (prsI l).2).length = l.length ∧ (putI (prsI l).2).drop 4 = l.drop 4 ∧ g8 (putI (prsI l).2) 0 = g8 l 0 ∧ g8 (putI (prsI l).2) 1 = g8 l 1 := by
  unfold prsI at h
  split at h
  · cases h
  · rename_i h1
    split at h
    · cases h
    · rename_i h2
      split at h
      · cases h
      · rename_i h3
        have e : (prsI l).2 = ⟨g8 l 0, g8 l 1, ad4 l 4, l.drop 8⟩ := by unfold prsI; rw [if_neg h1, if_neg h2, if_neg h3]
        rw [e]
        have hM : MayI ⟨g8 l 0, g8 l 1, ad4 l 4, l.drop 8⟩ := ⟨g8_lo _ _, g8_hi _ _, g8_lo _ _, g8_hi _ _, by dsimp only; rw [List.length_drop]; omega⟩
        have hr : 0 ≤ ad4 l 4 ∧ ad4 l 4 ≤ 4294967295 := ⟨ad4_lo _ _, ad4_hi _ _⟩
        obtain ⟨g0, g1, _⟩ := ic_bytes ⟨g8 l 0, g8 l 1, ad4 l 4, l.drop 8⟩ (chkI ⟨g8 l 0, g8 l 1, ad4 l 4, l.drop 8⟩) hM hr
        refine ⟨hM, hr, ?_, ?_, g0, g1⟩
        · rw [putI_length]; dsimp only; rw [List.length_drop]; omega
        · unfold putI icB
          dsimp only
          have a4 := g8_lo l 4
          have a5 := g8_lo l 5
          have a6 := g8_lo l 6
          have a7 := g8_lo l 7
          have b4 := g8_hi l 4
          have b5 := g8_hi l 5
          have b6 := g8_hi l 6
          have b7 := g8_hi l 7
          have e1 : ad4 l 4 / 16777216 = g8 l 4 := by simp only [ad4, wd, Nat.reduceAdd]; omega
          have e2 : ad4 l 4 / 65536 % 256 = g8 l 5 := by simp only [ad4, wd, Nat.reduceAdd]; omega
          have e3 : ad4 l 4 / 256 % 256 = g8 l 6 := by simp only [ad4, wd, Nat.reduceAdd]; omega
          have e4 : ad4 l 4 % 256 = g8 l 7 := by simp only [ad4, wd, Nat.reduceAdd]; omega
          rw [e1, e2, e3, e4, b8g l 4 (by omega), b8g l 5 (by omega), b8g l 6 (by omega), b8g l 7 (by omega)]
          have h8 : 8 ≤ l.length := by omega
          rw [List.drop_eq_getElem_cons (l := l) (i := 4) (by omega), List.drop_eq_getElem_cons (l := l) (i := 5) (by omega), List.drop_eq_getElem_cons (l := l) (i := 6) (by omega), List.drop_eq_getElem_cons (l := l) (i := 7) (by omega)]
          rfl

/-- the packet that an error is about: its first error, or it. -/
def aboutI (m : Ic) : Int × Pk :=
  if errK m.type = false then (1, Pk.empty)
  else if m.body.length < 20 then (2, Pk.empty)
  else if g8 m.body 0 / 16 ≠ 4 ∨ headN m.body < 20 ∨ (m.body.length : Int) < headN m.body then (3, Pk.empty)
  else if wd m.body 2 < headN m.body then (4, Pk.empty)
  else if fo (tot (m.body.take (headN m.body).toNat)) ≠ 65535 then (5, Pk.empty)
  else if (m.body.length : Int) - headN m.body < 8 ∧ (m.body.length : Int) < wd m.body 2 then (2, Pk.empty)
  else (0, ⟨g8 m.body 1, wd m.body 4, decide (wd m.body 6 / 16384 % 2 = 1), decide (wd m.body 6 / 8192 % 2 = 1), wd m.body 6 % 8192 * 8, g8 m.body 8, g8 m.body 9, ad4 m.body 12, ad4 m.body 16, (m.body.take (headN m.body).toNat).drop 20, (m.body.take (wd m.body 2).toNat).drop (headN m.body).toNat⟩)
/-- is this packet itself an error's? -/
def ownErr (p : Pk) : Bool := p.proto == 1 && (decide (0 < p.body.length) && errK (g8 p.body 0))
/-- an error that is told of a packet. -/
def tellI (kind code rest : Int) (l : List UInt8) : Int × Ic :=
  if errK kind = false ∨ code < 0 ∨ 255 < code then (1, Ic.empty)
  else if (prs l).1 ≠ 0 then ((prs l).1, Ic.empty)
  else if 0 < (prs l).2.off ∨ ownErr (prs l).2 = true then (14, Ic.empty)
  else (0, ⟨kind, code, rest, l.take (20 + (prs l).2.opts.length + min 8 (prs l).2.body.length)⟩)

theorem putB_front (p : Pk) : (putB p).take (20 + p.opts.length + min 8 p.body.length) = hd p (chk p) ++ p.body.take 8 := by
  have h : 20 + p.opts.length = (hd p (chk p)).length := by rw [hd_length]
  unfold putB
  rw [h, List.take_length_add_append]
  congr 1
  by_cases h8 : p.body.length ≤ 8
  · rw [Nat.min_eq_right h8, List.take_of_length_le (Nat.le_refl _), List.take_of_length_le h8]
  · rw [Nat.min_eq_left (by omega)]
/-- an error that is told of a packet is about that one: its head, and the beginning of its body. -/
theorem about_front (p : Pk) (h : May p) (hr : Rng p) (x : Ic) (ht : errK x.type = true) (hb : x.body = (putB p).take (20 + p.opts.length + min 8 p.body.length)) :
    aboutI x = (0, ⟨p.tos, p.id, p.df, p.mf, p.off, p.ttl, p.proto, p.src, p.dst, p.opts, p.body.take 8⟩) := by
  rw [putB_front] at hb
  obtain ⟨g0, g1, g2, g4, g6, g8', g9, g12, g16⟩ := put_bytes p (chk p) (p.body.take 8) h hr (chk_lo p) (chk_hi p)
  have hl : ((hd p (chk p) ++ p.body.take 8).length : Int) = hln p + (min 8 p.body.length : Nat) := by rw [List.length_append, hd_length, List.length_take]; unfold hln; omega
  have hh : hln p = 20 + (p.opts.length : Int) := rfl
  have hw : whl p = hln p + (p.body.length : Int) := rfl
  have p4 := h.p4
  have p40 := h.p40
  obtain ⟨d1, d2, d3, d4, d5⟩ := flg_parts p h
  have hn : headN (hd p (chk p) ++ p.body.take 8) = hln p := by unfold headN; rw [g0]; omega
  have e1 : ((hd p (chk p)).drop 20) = p.opts := by
    unfold hd
    rw [List.drop_append_of_le_length (by simp [hd20])]
    simp [hd20]
  have e2 : ((hd p (chk p) ++ p.body.take 8).take (whl p).toNat).drop (hln p).toNat = p.body.take 8 := by
    have a : (hln p).toNat = (hd p (chk p)).length := by rw [hd_length]; omega
    rw [List.take_of_length_le (by omega), a, List.drop_left]
  unfold aboutI
  rw [if_neg (by rw [ht]; simp), hb, if_neg (by omega), if_neg (by rw [g0, hn]; omega), if_neg (by rw [g2, hn]; omega), if_neg (by rw [hn, hd_take, hd_sum]; simp), if_neg (by rw [hn, g2]; omega)]
  rw [g1, g2, g4, g6, g8', g9, g12, g16, hn, hd_take, d1, d2, d3, e1, e2]
theorem tell_put (p : Pk) (h : May p) (hr : Rng p) (rest : Int) : tellI 3 1 rest (putB p) = if 0 < p.off ∨ ownErr p = true then (14, Ic.empty) else (0, ⟨3, 1, rest, (putB p).take (20 + p.opts.length + min 8 p.body.length)⟩) := by
  have e := prs_put p [] h hr
  rw [List.append_nil] at e
  unfold tellI
  rw [if_neg (by simp [errK]), e, if_neg (by simp)]
end Go.Proofs.Ytofpalmghdapkaa

/- Options that are read first and asked whether they are right last: plain mathematics. -/
namespace Go.Proofs.Ytofpalmghdapkaa
open Go.RowKit
set_option linter.unusedVariables false

/-- the options of these bytes, behind those that came, right or not. -/
def rOpts : Nat → List UInt8 → List Op → Option (List Op)
  | 0, _, acc => some acc
  | _ + 1, [], acc => some acc
  | f + 1, k :: r, acc =>
    if k = 0 then some acc
    else if k = 1 then rOpts f r acc
    else
      match r with
      | [] => none
      | n :: r =>
        if n.toNat < 2 ∨ r.length < n.toNat - 2 then none
        else rOpts f (r.drop (n.toNat - 2)) (acc ++ [⟨(k.toNat : Int), r.take (n.toNat - 2)⟩])
/-- what was there ahead stays ahead. -/
theorem rOpts_ahead : ∀ (f : Nat) (l : List UInt8) (acc os : List Op), rOpts f l acc = some os → ∃ b, os = acc ++ b
  | 0, l, acc, os, e => by simp only [rOpts, Option.some.injEq] at e; exact ⟨[], by simp [e]⟩
  | f + 1, [], acc, os, e => by simp only [rOpts, Option.some.injEq] at e; exact ⟨[], by simp [e]⟩
  | f + 1, [k], acc, os, e => by
    rw [rOpts] at e
    split at e
    · simp only [Option.some.injEq] at e; exact ⟨[], by simp [e]⟩
    · split at e
      · exact rOpts_ahead f [] acc os e
      · simp at e
  | f + 1, k :: n :: r, acc, os, e => by
    rw [rOpts] at e
    split at e
    · simp only [Option.some.injEq] at e; exact ⟨[], by simp [e]⟩
    · split at e
      · exact rOpts_ahead f (n :: r) acc os e
      · split at e
        · simp at e
        · obtain ⟨b, hb⟩ := rOpts_ahead f _ _ os e
          exact ⟨_, by rw [hb, List.append_assoc]⟩
theorem pOpts_rOpts : ∀ (f : Nat) (l : List UInt8) (acc : List Op), rightB acc = true → pOpts f l acc = (match rOpts f l acc with | none => none | some os => if rightB os then some os else none)
  | 0, l, acc, h => by simp [rOpts, pOpts, h]
  | f + 1, [], acc, h => by simp [rOpts, pOpts, h]
  | f + 1, [k], acc, h => by
    rw [rOpts, pOpts]
    split
    · simp [h]
    · split
      · exact pOpts_rOpts f [] acc h
      · rfl
  | f + 1, k :: n :: r, acc, h => by
    rw [rOpts, pOpts]
    split
    · simp [h]
    · split
      · exact pOpts_rOpts f (n :: r) acc h
      · split
        · rfl
        · by_cases hr : rightB (acc ++ [⟨(k.toNat : Int), r.take (n.toNat - 2)⟩]) = true
          · rw [if_pos hr]; exact pOpts_rOpts f _ _ hr
          · rw [if_neg hr]
            cases e : rOpts f (r.drop (n.toNat - 2)) (acc ++ [⟨(k.toNat : Int), r.take (n.toNat - 2)⟩]) with
            | none => rfl
            | some os =>
              obtain ⟨b, hb⟩ := rOpts_ahead f _ _ os e
              have : ¬ rightB os = true := fun hos => hr (right_prefix _ b (hb ▸ hos))
              dsimp only
              rw [if_neg this]
/-- one step of the reading, by the bytes at a place. -/
theorem rOpts_end (f : Nat) (l : List UInt8) (p : Nat) (acc : List Op) (h : l.length ≤ p) : rOpts f (l.drop p) acc = some acc := by
  rw [List.drop_of_length_le h]; cases f <;> rfl
theorem rOpts_zero (f : Nat) (l : List UInt8) (p : Nat) (acc : List Op) (h : p < l.length) (h0 : g8 l p = 0) : rOpts (f + 1) (l.drop p) acc = some acc := by
  rw [g8_at l p h] at h0
  have e : l[p] = 0 := UInt8.toNat_inj.1 (by simp; omega)
  cases hd : l.drop (p + 1) with
  | nil => rw [List.drop_eq_getElem_cons h, hd, e, rOpts, if_pos rfl]
  | cons n r => rw [List.drop_eq_getElem_cons h, hd, e, rOpts, if_pos rfl]
theorem rOpts_one (f : Nat) (l : List UInt8) (p : Nat) (acc : List Op) (h : p < l.length) (h1 : g8 l p = 1) : rOpts (f + 1) (l.drop p) acc = rOpts f (l.drop (p + 1)) acc := by
  rw [g8_at l p h] at h1
  have e : l[p] = 1 := UInt8.toNat_inj.1 (by simp; omega)
  cases hd : l.drop (p + 1) with
  | nil => rw [List.drop_eq_getElem_cons h, hd, e, rOpts, if_neg (by decide), if_pos rfl]
  | cons n r => rw [List.drop_eq_getElem_cons h, hd, e, rOpts, if_neg (by decide), if_pos rfl]
theorem rOpts_bad (f : Nat) (l : List UInt8) (p : Nat) (acc : List Op) (h : p < l.length) (h0 : g8 l p ≠ 0) (h1 : g8 l p ≠ 1) (hb : l.length ≤ p + 1 ∨ g8 l (p + 1) < 2 ∨ (l.length : Int) < p + g8 l (p + 1)) : rOpts (f + 1) (l.drop p) acc = none := by
  rw [g8_at l p h] at h0 h1
  have e0 : ¬ l[p] = 0 := fun e => h0 (by rw [e]; rfl)
  have e1 : ¬ l[p] = 1 := fun e => h1 (by rw [e]; rfl)
  rw [List.drop_eq_getElem_cons h]
  by_cases hl : p + 1 < l.length
  · rw [List.drop_eq_getElem_cons hl, rOpts, if_neg e0, if_neg e1]
    rw [g8_at l (p + 1) hl] at hb
    rw [if_pos]
    rw [List.length_drop]
    rcases hb with hb | hb | hb
    · omega
    · left; omega
    · by_cases h2 : (l[p + 1]).toNat < 2
      · left; exact h2
      · right; omega
  · rw [List.drop_of_length_le (by omega), rOpts, if_neg e0, if_neg e1]
theorem rOpts_step (f : Nat) (l : List UInt8) (p : Nat) (acc : List Op) (n : Nat) (hn : (n : Int) = g8 l (p + 1)) (h : p + 1 < l.length) (h0 : g8 l p ≠ 0) (h1 : g8 l p ≠ 1) (h2 : 2 ≤ n) (h3 : p + n ≤ l.length) :
    rOpts (f + 1) (l.drop p) acc = rOpts f (l.drop (p + n)) (acc ++ [⟨g8 l p, (l.take (p + n)).drop (p + 2)⟩]) := by
  rw [g8_at l (p + 1) h] at hn
  have hk := g8_at l p (by omega)
  rw [hk] at h0 h1 ⊢
  have e0 : ¬ l[p] = 0 := fun e => h0 (by rw [e]; rfl)
  have e1 : ¬ l[p] = 1 := fun e => h1 (by rw [e]; rfl)
  have hn' : l[p + 1].toNat = n := by omega
  rw [List.drop_eq_getElem_cons (show p < l.length by omega), List.drop_eq_getElem_cons h, rOpts, if_neg e0, if_neg e1]
  rw [hn', if_neg (by rw [List.length_drop]; omega)]
  have d1 : (l.drop (p + 1 + 1)).drop (n - 2) = l.drop (p + n) := by rw [List.drop_drop]; congr 1; omega
  have d2 : (l.drop (p + 1 + 1)).take (n - 2) = (l.take (p + n)).drop (p + 2) := by rw [List.drop_take]; congr 1; omega
  rw [d1, d2]

/-- how long the head says that it is, if that fits; or the first error. -/
def tmE (l : List UInt8) : Int := if 65535 < l.length then 4 else if l.length < 20 then 2 else if tsz l < 20 ∨ (l.length : Int) < tsz l then 3 else 0
def tmH (l : List UInt8) : Int := if tmE l = 0 then tsz l else 0
theorem tmE_ok {l : List UInt8} (h : tmE l = 0) : l.length ≤ 65535 ∧ 20 ≤ l.length ∧ 20 ≤ tsz l ∧ tsz l ≤ l.length ∧ tsz l ≤ 60 := by
  unfold tmE at h
  split at h
  · cases h
  · split at h
    · cases h
    · split at h
      · cases h
      · have := g8_hi l 12
        have : tsz l = g8 l 12 / 16 * 4 := rfl
        omega
theorem prsT_meas {src dst : Int} {l : List UInt8} (h : tmE l ≠ 0) : prsT src dst l = (tmE l, Tc.empty) := by
  unfold prsT
  unfold tmE at h ⊢
  split
  · rfl
  · split
    · rfl
    · split
      · rfl
      · rename_i h1 h2 h3
        rw [if_neg h1, if_neg h2, if_neg h3] at h
        exact absurd rfl h
/-- what is read, the head's length and the sum being right. -/
theorem prsT_read {src dst : Int} {l : List UInt8} (h : tmE l = 0) (hs : sumT 6 src dst l = 65535) : prsT src dst l =
    (match rOpts 60 ((l.take (tsz l).toNat).drop 20) [] with
    | none => (6, Tc.empty)
    | some os => if rightB os = true then (0, ⟨wd l 0, wd l 2, ad4 l 4, ad4 l 8, g8 l 13, wd l 14, wd l 18, os, l.drop (tsz l).toNat⟩) else (6, Tc.empty)) := by
  obtain ⟨m1, m2, m3, m4, m5⟩ := tmE_ok h
  unfold prsT
  rw [if_neg (by omega), if_neg (by omega), if_neg (by omega), if_neg (by omega), pOpts_rOpts 60 _ [] right_nil]
  cases rOpts 60 ((l.take (tsz l).toNat).drop 20) [] with
  | none => rfl
  | some os =>
    dsimp only
    split <;> rename_i hr
    · split at hr
      · cases hr
      · rename_i hb; rw [if_neg hb]
    · split at hr
      · rename_i hb; rw [if_pos hb]; cases hr; rfl
      · cases hr
end Go.Proofs.Ytofpalmghdapkaa
