/- Lemmas, several texts in one. -/
import Derived.Lib.Hide
import Derived.WalkKit
import Derived.ProofKit
import Derived.OpenShut
import Derived.Below
import Derived.OwnWalk
import Derived.Maps.AppendAt
import Derived.Laws.AppendOwnNone
import Derived.Deep.Draws
import Derived.ChangeSlices
import Derived.ChangeSame
import Derived.Carry
import Derived.IntWalk
import Derived.Laws.BitsAllLaws
import Derived.Test.YtmgkkgpdnopeaaaRows
import Derived.Deep.QuietTactic
import Derived.Deep.RegionHeld3
import Derived.BigQuiet
import Derived.Laws.OwnMore
import Derived.Laws.CopyOwn
import Derived.Deep.AppendLies
import Derived.Deep.DeepCutAuto
import Derived.Deep.CutBlock
import Derived.StillTailTactics
import Derived.Deep.Onto
import Derived.Lib.SliceRun
/- Memory as it is met in the walks: a slice that reads as a list; a world that has not turned below a block; an append onto a row of the call's own. No condition.  -/
namespace Go.Proofs.Ytmgkkgpdnopeaaa
open Go.ChangeShapes Go.WideShapes Go.ChangeAt Go.RowKit

theorem ret_int {k : IntKind} {a b : Int} (h : a = b) : Ending.returned (.int k a) = .returned (.int k b) := by rw [h]
theorem ret_bool {a b : Bool} (h : a = b) : Ending.returned (.bool a) = .returned (.bool b) := by rw [h]

theorem add_shift (ad : Addr) (k j : Nat) (hk : 0 < k) : ({ block := ad.block, off := ad.off + k } : Addr).add j = ad.add (k + j) := by
  unfold Addr.add
  by_cases h : j = 0
  · subst h; rw [if_pos rfl, if_neg (by omega)]; rfl
  · rw [if_neg h, if_neg (by omega)]; simp only [Nat.add_assoc]
theorem add_pos (ad : Addr) (k : Nat) (hk : 0 < k) : ad.add k = { block := ad.block, off := ad.off + k } := by
  unfold Addr.add; rw [if_neg (by omega)]
theorem add_zero (ad : Addr) : ad.add 0 = ad := by unfold Addr.add; simp
theorem add_own (g k : Nat) : (⟨g, 0, none⟩ : Addr).add k = ⟨g, k, none⟩ := by rw [add_plain]; simp

theorem below_dn {B : Nat} {a w : World} (h : Below B a w) (n : Nat) : Below B a (w.drewN n) := ⟨h.os, h.tape, h.output, h.size, h.block⟩
theorem below_drew {B : Nat} {a w : World} (h : Below B a w) : Below B a w.drew := ⟨h.os, h.tape, h.output, h.size, h.block⟩
theorem bcell {W w1 : World} (hb : Below W.heap.size W w1) : (∀ b o, b < W.heap.size → w1.cell? ⟨b, o, none⟩ = W.cell? ⟨b, o, none⟩) ∧ (∀ b o, b < W.heap.size → w1.frozen? ⟨b, o, none⟩ = W.frozen? ⟨b, o, none⟩) :=
  ⟨fun b o h => hb.cell (p := ⟨b, o, none⟩) h, fun b o h => hb.frozen (p := ⟨b, o, none⟩) h⟩
theorem cells_keep {X Y : World} {B k : Nat} {v : Value} (hb : Below X.heap.size X Y) (hB : B < X.heap.size) (h : X.cell? ⟨B, k, none⟩ = some v) : Y.cell? ⟨B, k, none⟩ = some v := ((bcell hb).1 B k hB).trans h
theorem up {P : Program} {f : FuncId} {args : Array Value} {w W : World} {v : Value} (h : Calls P f args w fun e w' => e = .returned v ∧ Below w.heap.size w w') (hb : Below W.heap.size W w) :
    Calls P f args w fun e w' => e = .returned v ∧ Below W.heap.size W w' :=
  h.mono fun _ _ ⟨he, hw⟩ => ⟨he, hb.trans (hw.mono hb.size)⟩

/-- the slice at A reads as these values, below block B. -/
def Rd (w : World) (B : Nat) (A : Option Addr) (xs : List Value) : Prop :=
  xs = [] ∨ ∃ ad, A = some ad ∧ ad.block < B ∧ ∀ (j : Nat) (u : Value), xs[j]? = some u → w.cell? (ad.add j) = some u

section
variable {w w' : World} {B B' : Nat} {A : Option Addr} {xs : List Value}
theorem Rd.keep (h : Rd w B A xs) (hk : ∀ p : Addr, p.block < B → w'.cell? p = w.cell? p) : Rd w' B A xs := by
  rcases h with h | ⟨ad, e, hlt, hc⟩
  · exact .inl h
  · exact .inr ⟨ad, e, hlt, fun j b hj => (hk _ (by rw [block_add]; exact hlt)).trans (hc j b hj)⟩
theorem Rd.below (h : Rd w B A xs) (hb : Below B w w') : Rd w' B A xs := h.keep fun _ hp => hb.cell hp
theorem Rd.drewN (h : Rd w B A xs) (n : Nat) : Rd (w.drewN n) B A xs := h
theorem Rd.drew (h : Rd w B A xs) : Rd w.drew B A xs := h
theorem Rd.more (h : Rd w B A xs) (hB : B ≤ B') : Rd w B' A xs := by
  rcases h with h | ⟨ad, e, hlt, hc⟩
  · exact .inl h
  · exact .inr ⟨ad, e, by omega, hc⟩
theorem Rd.alloc (h : Rd w B A xs) (hB : B ≤ w.heap.size) (o : Obj) : Rd (w.alloc o) B A xs := h.below ((Below.refl _ _).alloc hB o)
theorem Rd.setCell (h : Rd w B A xs) {p : Addr} (hB : B ≤ p.block) (u : Value) : Rd (w.setCell p u) B A xs := h.below ((Below.refl _ _).setCell hB u)
theorem Rd.take (h : Rd w B A xs) (k : Nat) : Rd w B A (xs.take k) := by
  rcases h with h | ⟨ad, e, hlt, hc⟩
  · exact .inl (by rw [h]; simp)
  · exact .inr ⟨ad, e, hlt, fun j b hj => hc j b (by rw [List.getElem?_take] at hj; split at hj <;> simp_all)⟩
/-- the rest behind k, at the address that a cut 's[k:]' has: whatever the capacity. -/
theorem Rd.cut (h : Rd w B A xs) (k cap : Nat) (hc : xs.length ≤ cap) (hk : 0 < k) :
    Rd w B (if cap = k then A else A.map fun ad => { block := ad.block, off := ad.off + k }) (xs.drop k) := by
  by_cases hl : xs.length ≤ k
  · exact .inl (List.drop_of_length_le hl)
  rcases h with h | ⟨ad, rfl, hlt, hcell⟩
  · subst h; simp at hl
  · refine .inr ⟨{ block := ad.block, off := ad.off + k }, by rw [if_neg (by omega)]; rfl, hlt, fun j u hj => ?_⟩
    rw [add_shift ad k j hk]
    exact hcell _ u (by rw [List.getElem?_drop] at hj; exact hj)
theorem Rd.at_ (h : Rd w B A xs) {k : Nat} (hk : k < xs.length) : ∃ ad, A = some ad ∧ ad.block < B ∧ w.cell? (ad.add k) = some xs[k] := by
  rcases h with h | ⟨ad, rfl, hlt, hcell⟩
  · subst h; simp at hk
  · exact ⟨ad, rfl, hlt, hcell k _ (List.getElem?_eq_getElem hk)⟩
/-- a row of the call's own reads as what it owns. -/
theorem rd_of_own {base : Nat} {e : TypeId} {v : Value} {n : Nat} (h : w.ownsRow base e 1 v n xs) :
    ∃ A c, v = .slice A n c ∧ n ≤ c ∧ c ≤ maxLen ∧ (A = none → c = 0) ∧ Rd w w.heap.size A xs := by
  rcases h.2 with ⟨rfl, rfl⟩ | ⟨g, cap, cur, rfl, hb, hh, hn, hm, hs, ht⟩
  · exact ⟨none, 0, rfl, by omega, by unfold maxLen; omega, fun _ => rfl, .inl (List.eq_nil_of_length_eq_zero (by simpa using h.1))⟩
  · exact ⟨_, cap, rfl, hn, hm, fun h => by simp at h, .inr ⟨_, rfl, (h.lt g rfl).2, h.cells rfl⟩⟩
/-- where something is owned, it lies at the head of a block of the call's own; its cells, and that none is frozen. -/
theorem own_form {base : Nat} {e : TypeId} {v : Value} {n : Nat} (h : w.ownsRow base e 1 v n xs) (hn : 0 < n) :
    ∃ g c, v = .slice (some ⟨g, 0, none⟩) n c ∧ base ≤ g ∧ g < w.heap.size ∧ n ≤ c ∧ c ≤ maxLen := by
  rcases h.2 with ⟨rfl, rfl⟩ | ⟨g, cap, cur, rfl, hb, hh, hnc, hm, hs, ht⟩
  · omega
  · exact ⟨g, cap, rfl, hb, (h.lt g rfl).2, hnc, hm⟩
theorem rd_of_own' {base : Nat} {e : TypeId} {A : Option Addr} {c n : Nat} (h : w.ownsRow base e 1 (.slice A n c) n xs) : Rd w w.heap.size A xs := by
  obtain ⟨A', c', he, _, _, _, hr⟩ := rd_of_own h
  injection he with h1 h2 h3
  subst h1
  exact hr
theorem own_cell {base : Nat} {e : TypeId} {g c n : Nat} (h : w.ownsRow base e 1 (.slice (some ⟨g, 0, none⟩) n c) n xs) (j : Nat) (hj : j < xs.length) : w.cell? ⟨g, j, none⟩ = some xs[j] := by
  rw [h.cellAt j (by have := h.1; omega)]; exact List.getElem?_eq_getElem hj
end

/-- append onto a row of the call's own; what is appended: any slice that reads as a list, nil or not. -/
theorem wpList_append_rd {P : Program} {w : World} {ops : Array Oper} {rest : List Oper} {o : Oper} {a : Act} {Q : Exit → Act → World → Prop} (hgd : o.guard = none) (s x : Operand) (t : TypeId)
    (ho : o.op = .call { callee := .builtin .append, args := #[s, x], argTypes := #[t, t] })
    (base : Nat) (e : TypeId) (i : TypeInfo) (z : Value) (bytes : Nat) (ht : P.underlying t = some (.slice e)) (hi : P.info? e = some i) (hz : i.zero = some z)
    (hsize : i.size = 1) (hby : i.bytes = bytes) (hzs : z.cells.size = 1)
    (v : Value) (n : Nat) (xs : List Value) (hs : a.eval s = v) (hown : w.ownsRow base e 1 v n xs)
    (B : Nat) (A : Option Addr) (m c : Nat) (news : List Value) (hx : a.eval x = .slice A m c) (hm : news.length = m) (hc : A = none → c = 0) (hr : Rd w B A news) (h1 : ∀ u ∈ news, u.oneCell' = true)
    (h63 : n + m ≤ maxLen) (hbytes : (n + m) * bytes ≤ 140737488355328) (hbase : base ≤ w.heap.size)
    (h : ∀ v' w', w'.ownsRow base e 1 v' (n + m) (xs ++ news) → w.grownBy w' v.ownBlock → (v'.ownBlock = v.ownBlock ∨ v'.ownBlock = some w.heap.size) → wpList P ops Q rest (a.put o.dst v') w') :
    wpList P ops Q (o :: rest) a w := by
  subst hm
  rcases A with _ | ad
  · have hn : news = [] := by
      rcases hr with h | ⟨ad, h, _⟩
      · exact h
      · cases h
    subst hn
    have := hc rfl
    subst this
    exact wpList_append_own_none hgd s x t ho base e i 1 ht hi v n xs hs hown hx (h v w (by simpa using hown) (World.grownBy.refl w _) (.inl rfl))
  · refine wpList_append_own_at w hgd s x t ho base e i z 1 bytes ht hi hz hsize hby hzs (by omega) v n xs hs hown ad news.length c news hx (by omega) ?_ h1 h63 hbytes hbase (fun v' w' g1 g2 _ g4 => h v' w' g1 g2 g4)
    intro j u hj
    rcases hr with h | ⟨ad', h', _, hcell⟩
    · subst h; simp at hj
    · cases h'; exact hcell j u hj

/-- a copy: append onto an empty literal that was made just now. -/
theorem wpList_copy_rd {P : Program} {w : World} {ops : Array Oper} {rest : List Oper} {o : Oper} {a : Act} {Q : Exit → Act → World → Prop} (hgd : o.guard = none) (s x : Operand) (t : TypeId)
    (ho : o.op = .call { callee := .builtin .append, args := #[s, x], argTypes := #[t, t] })
    (e : TypeId) (i : TypeInfo) (z : Value) (bytes : Nat) (ht : P.underlying t = some (.slice e)) (hi : P.info? e = some i) (hz : i.zero = some z)
    (hsize : i.size = 1) (hby : i.bytes = bytes) (hzs : z.cells.size = 1) (hs : a.eval s = .slice (some ⟨w.heap.size, 0, none⟩) 0 0)
    (B : Nat) (A : Option Addr) (m c : Nat) (news : List Value) (hx : a.eval x = .slice A m c) (hm : news.length = m) (hc : A = none → c = 0) (hr : Rd w B A news) (hB : B ≤ w.heap.size) (h1 : ∀ u ∈ news, u.oneCell' = true)
    (h63 : m ≤ maxLen) (hbytes : m * bytes ≤ 140737488355328)
    (h : ∀ v' w', w'.ownsRow w.heap.size e 1 v' m news → Below w.heap.size w w' → wpList P ops Q rest (a.put o.dst v') w') :
    wpList P ops Q (o :: rest) a (w.alloc (.cells #[] e)) := by
  refine wpList_append_rd hgd s x t ho w.heap.size e i z bytes ht hi hz hsize hby hzs _ 0 [] hs (World.ownsRow_made w #[] 0 (Nat.le_refl _) (by unfold maxLen; omega) (by simp)) B A m c news hx hm hc (hr.alloc hB _) h1 (by simpa using h63) (by simpa using hbytes) (by simp) ?_
  intro v' w' hown hg hat
  rw [Nat.zero_add, List.nil_append] at hown
  exact h v' w' hown (((Below.refl _ _).alloc (Nat.le_refl _) _).grown hg (by simp) (fun k hk => by simp [Value.ownBlock] at hk; omega))

/-- the same, as a step of a region that draws its order. -/
theorem step_append_rd {P : Program} {w : World} {ops : Array Oper} {o : Oper} {a : Act} {K : Act → World → Prop} {Q : Exit → Act → World → Prop} {E : Prop} (hgd : o.guard = none) (s x : Operand) (t : TypeId)
    (ho : o.op = .call { callee := .builtin .append, args := #[s, x], argTypes := #[t, t] })
    (base : Nat) (e : TypeId) (i : TypeInfo) (z : Value) (bytes : Nat) (ht : P.underlying t = some (.slice e)) (hi : P.info? e = some i) (hz : i.zero = some z)
    (hsize : i.size = 1) (hby : i.bytes = bytes) (hzs : z.cells.size = 1)
    (v : Value) (n : Nat) (xs : List Value) (hs : a.eval s = v) (hown : w.ownsRow base e 1 v n xs)
    (B : Nat) (A : Option Addr) (m c : Nat) (news : List Value) (hx : a.eval x = .slice A m c) (hm : news.length = m) (hc : A = none → c = 0) (hr : Rd w B A news) (h1 : ∀ u ∈ news, u.oneCell' = true)
    (h63 : n + m ≤ maxLen) (hbytes : (n + m) * bytes ≤ 140737488355328) (hbase : base ≤ w.heap.size)
    (h : ∀ v' w', w'.ownsRow base e 1 v' (n + m) (xs ++ news) → w.grownBy w' v.ownBlock → (v'.ownBlock = v.ownBlock ∨ v'.ownBlock = some w.heap.size) → K (a.put o.dst v') w') :
    if Region.wanted o (yielded ops a.tmps) = true then Oper.wp P o a w K Q else E := by
  have hw : Region.wanted o (yielded ops a.tmps) = true := by simp [Region.wanted, hgd]
  rw [if_pos hw]
  subst hm
  rcases A with _ | ad
  · have hn : news = [] := by
      rcases hr with h | ⟨ad, h, _⟩
      · exact h
      · cases h
    subst hn
    have := hc rfl
    subst this
    have hrun := run_append_owned_none (P := P) (w := w) base t o.type e i 1 ht hi v n xs hown
    unfold Oper.wp
    simp [execOp, ho, resolve, invoke, builtin, hs, hx, hrun, Result.andThen]
    exact h v w (by simpa using hown) (World.grownBy.refl w _) (.inl rfl)
  · obtain ⟨v', w', hrun, h2, h3, _, h5⟩ := run_append_own_at (P := P) w base t o.type e i z 1 bytes ht hi hz hsize hby hzs (by omega) v n xs hown ad news.length c news (by omega) (by
      intro j u hj
      rcases hr with h | ⟨ad', h', _, hcell⟩
      · subst h; simp at hj
      · cases h'; exact hcell j u hj) h1 h63 hbytes hbase
    unfold Oper.wp execOp
    simp only [ho, resolve, invoke, builtin, Sem.run_bind, Sem.run_pure, Result.andThen_ok, List.map_toArray, List.map_cons, List.map_nil, hs, hx, hrun]
    exact h v' w' h2 h3 h5

/-- a byte as a value. -/
def bv (b : UInt8) : Value := .int .u8 (b.toNat : Int)
theorem bv_one (l : List UInt8) : ∀ u ∈ l.map bv, u.oneCell' = true := by
  intro u hu
  obtain ⟨b, _, rfl⟩ := List.mem_map.1 hu
  rfl
/-- the slice at A reads as these bytes, below block B. -/
def Bs (w : World) (B : Nat) (A : Option Addr) (l : List UInt8) : Prop :=
  l = [] ∨ ∃ ad, A = some ad ∧ ad.block < B ∧ ∀ (j : Nat) (b : UInt8), l[j]? = some b → w.cell? (ad.add j) = some (.int .u8 (b.toNat : Int))
theorem Bs.drewN {w : World} {B : Nat} {A : Option Addr} {l : List UInt8} (h : Bs w B A l) (n : Nat) : Bs (w.drewN n) B A l := h
theorem Bs.below {w w' : World} {B : Nat} {A : Option Addr} {l : List UInt8} (h : Bs w B A l) (hb : Below B w w') : Bs w' B A l := by
  rcases h with h | ⟨ad, e, hlt, hc⟩
  · exact .inl h
  · exact .inr ⟨ad, e, hlt, fun j b hj => (hb.cell (by rw [block_add]; exact hlt)).trans (hc j b hj)⟩
theorem Bs.rd {w : World} {B : Nat} {A : Option Addr} {l : List UInt8} (h : Bs w B A l) : Rd w B A (l.map bv) := by
  rcases h with h | ⟨ad, e, hlt, hc⟩
  · exact .inl (by rw [h]; rfl)
  · refine .inr ⟨ad, e, hlt, fun j u hj => ?_⟩
    rw [List.getElem?_map, Option.map_eq_some_iff] at hj
    obtain ⟨b, hb, rfl⟩ := hj
    exact hc j b hb
theorem Rd.bs {w : World} {B : Nat} {A : Option Addr} {l : List UInt8} (h : Rd w B A (l.map bv)) : Bs w B A l := by
  rcases h with h | ⟨ad, e, hlt, hc⟩
  · exact .inl (by simpa using h)
  · exact .inr ⟨ad, e, hlt, fun j b hj => hc j _ (by rw [List.getElem?_map, hj]; rfl)⟩
theorem Bs.more {w : World} {B B' : Nat} {A : Option Addr} {l : List UInt8} (h : Bs w B A l) (hB : B ≤ B') : Bs w B' A l := by
  rcases h with h | ⟨ad, e, hlt, hc⟩
  · exact .inl h
  · exact .inr ⟨ad, e, by omega, hc⟩
theorem Bs.take {w : World} {B : Nat} {A : Option Addr} {l : List UInt8} (h : Bs w B A l) (k : Nat) : Bs w B A (l.take k) := by
  rcases h with h | ⟨ad, e, hlt, hc⟩
  · exact .inl (by rw [h]; simp)
  · exact .inr ⟨ad, e, hlt, fun j b hj => hc j b (by rw [List.getElem?_take] at hj; split at hj <;> simp_all)⟩
/-- the rest behind k, at the address that a cut 's[k:]' has. -/
theorem Bs.cut {w : World} {B : Nat} {A : Option Addr} {l : List UInt8} (h : Bs w B A l) (k cap : Nat) (hc : l.length ≤ cap) (hk : 0 < k) :
    Bs w B (if cap = k then A else A.map fun ad => { block := ad.block, off := ad.off + k }) (l.drop k) := by
  have := (h.rd).cut k cap (by simpa using hc) hk
  rw [← List.map_drop] at this
  exact this.bs
theorem Bs.at_ {w : World} {B : Nat} {A : Option Addr} {l : List UInt8} (h : Bs w B A l) {k : Nat} (hk : k < l.length) : ∃ ad, A = some ad ∧ ad.block < B ∧ w.cell? (ad.add k) = some (.int .u8 (l[k].toNat : Int)) := by
  rcases h with h | ⟨ad, rfl, hlt, hcell⟩
  · subst h; simp at hk
  · exact ⟨ad, rfl, hlt, hcell k _ (List.getElem?_eq_getElem hk)⟩
theorem Bs.nil_ {w : World} {B : Nat} {A : Option Addr} : Bs w B A [] := .inl rfl
end Go.Proofs.Ytmgkkgpdnopeaaa

/- The end of a law's proof: where the call returned true and nothing that was there has turned, the row's promise holds; and a slice of bytes among the arguments, opened. No condition.  -/
namespace Go.Proofs.Ytmgkkgpdnopeaaa
open Go.ChangeShapes Go.WideShapes Go.ChangeAt Go.RowKit

section
variable {H : Type} {enc : TypeId × Value → H} {P : Program}

theorem trodAll_stays (hl : laidOutB P = true) {W W' : World} (hb : Below W.heap.size W W') :
    ∀ {ts : List TypeId} {vs : List Value} {ds : List (DataW H)} {ps : List MemPlace}, (ts.all fun t => P.readableRec t && decide (t < P.types.size)) = true → (∀ x ∈ ps, x.block < W.heap.size) →
      DataW.TrodAll enc P W 0 (fun _ => true) true ts vs ds ps → DataW.TrodAll enc P W' 0 (fun b => decide (b < W.heap.size)) true ts vs ds ps
  | [], _, _, _, _, _, h => by
    obtain ⟨rfl, rfl, rfl⟩ := trodAll_nil h
    exact trodAll_mk0
  | t :: ts, _, _, _, hr, hlt, h => by
    obtain ⟨v, vs, d, ds, p, q, rfl, rfl, rfl, h1, h2⟩ := trodAll_cons h
    simp only [List.all_cons, Bool.and_eq_true, decide_eq_true_eq] at hr
    exact trodAll_cons_mk (Below.trod hl hr.1.1 hr.1.2 h1 hb (fun x hx => hlt x (List.mem_append_left _ hx)))
      (trodAll_stays hl hb hr.2 (fun x hx => hlt x (List.mem_append_right _ hx)) h2)

/-- a law's end: it returned true, and below the heap's old size nothing has turned. -/
theorem law_end {f : Func} {s : ChangeSpec} {apart fresh handsOn : Bool} {W W' : World} {args : Array Value} {ds gs : List (DataW H)} {before : List MemPlace} {tb : TypeId}
    (hl : laidOutB P = true) (hr : (f.params.toList.all fun t => P.readableRec t && decide (t < P.types.size)) = true) (hv : s.vars = []) (hrt : f.resultTypes = #[tb]) (htb : P.underlying tb = some .bool)
    (hs : (s.fn H (ds ++ gs)).results = [.lit (.bool true)] ∧ (s.fn H (ds ++ gs)).args = ds ∧ (s.fn H (ds ++ gs)).vars = [])
    (hW : DataW.Whole enc P f.params.toList s.vars apart W args.toList ds gs before) (hb : Below W.heap.size W W') :
    s.post enc P f apart fresh handsOn false W args (.bool true) W' := by
  have hlt : ∀ p ∈ before, p.block < W.heap.size := fun p hp => hW.lt p hp
  obtain ⟨p, q, hA, hV, hpq, _, _⟩ := id hW
  rw [hv] at hV
  obtain ⟨_, rfl⟩ := trodVars_none hV
  rw [List.append_nil] at hpq
  subst hpq
  refine ⟨ds, gs, before, [], before, [], hW, ?_, ?_, ?_, hb.frame _, fun h => by cases h⟩
  · rw [hs.1, hrt]
    exact trodAll_mk1 (shut_bool htb _)
  · rw [hs.2.1]
    exact trodAll_stays hl hb hr hlt hA
  · rw [hv, hs.2.2]
    exact rfl
/-- an argument that is a slice of bytes: nil, empty or not, it reads as a list of bytes. -/
theorem open_bytes {w : World} {base b0 : Nat} {spare : Nat → Bool} {held : Bool} {r : Reach} {t e : TypeId} {v : Value} {d : DataW H} {ps : List MemPlace} (ht : P.underlying t = some (.slice e)) (he : P.underlying e = some (.int .u8)) (hc : P.cellsOf e = 1)
    (hval : Value.okWide P w r b0 t v) (hd : DataW.Trod enc P w base spare held t v d ps) :
    ∃ (A : Option Addr) (l : List UInt8) (cp : Nat), v = .slice A l.length cp ∧ l.length ≤ cp ∧ cp ≤ 9223372036854775807 ∧ (A = none → cp = 0) ∧ Rd w w.heap.size A (l.map bv) := by
  obtain ⟨a0, len, cap, rfl⟩ := okWide_slice ht hval
  obtain ⟨fuel, hf⟩ := hd
  rcases open_ints ht he hc hf with ⟨hcs, _⟩ | ⟨a, len', cap', zs, hcs, _, hl, hm, hz, _, hcell, hwz⟩
  · simp [Value.cells] at hcs
    obtain ⟨rfl, rfl, rfl⟩ := hcs
    exact ⟨none, [], 0, rfl, by simp, by omega, fun _ => rfl, .inl rfl⟩
  · simp [Value.cells] at hcs
    obtain ⟨rfl, rfl, rfl⟩ := hcs
    have hlz : len ≤ zs.length := by rw [hz]; split <;> omega
    have hll : ((zs.take len).map fun n => UInt8.ofNat n.toNat).length = len := by simp; omega
    unfold maxLen at hm
    refine ⟨some a, (zs.take len).map fun n => UInt8.ofNat n.toNat, cap, by rw [hll], by omega, by omega, fun h => (by cases h), ?_⟩
    by_cases h0 : len = 0
    · subst h0; exact .inl (by simp)
    · have hc0 := hcell 0 (by omega)
      have hlt := World.block_lt_of_cell? w _ hc0
      rw [block_add] at hlt
      refine .inr ⟨a, rfl, hlt, fun j u hj => ?_⟩
      rw [List.getElem?_map, Option.map_eq_some_iff] at hj
      obtain ⟨b, hb, rfl⟩ := hj
      rw [List.getElem?_map, Option.map_eq_some_iff] at hb
      obtain ⟨n, hn, rfl⟩ := hb
      rw [List.getElem?_take] at hn
      split at hn
      · rename_i hjl
        have hjz : j < zs.length := by omega
        rw [List.getElem?_eq_getElem hjz] at hn
        obtain rfl := Option.some.inj hn
        rw [hcell j hjz]
        have hw := hwz zs[j] (List.getElem_mem hjz)
        simp only [Lit.wf, Bool.and_eq_true, decide_eq_true_eq] at hw
        have hw0 : 0 ≤ zs[j] ∧ zs[j] ≤ 255 := hw
        have hg : zs.getD j 0 = zs[j] := by simp [List.getD, hjz]
        unfold bv
        rw [hg, UInt8.toNat_ofNat_of_lt' (by show _ < 256; omega)]
        congr 2; omega
      · cases hn
end
end Go.Proofs.Ytmgkkgpdnopeaaa

/- The plain mathematics of one's complement sums of words of 16 bits. No condition beyond bounds. -/
namespace Go.Proofs.Ytmgkkgpdnopeaaa
open Go.RowKit

/-- what stands above 16 bits is added below, till nothing stands there. -/
def fo (n : Int) : Int := if n ≤ 0 then 0 else (n - 1) % 65535 + 1

theorem fo_lo (n : Int) : 0 ≤ fo n := by unfold fo; split <;> omega
theorem fo_hi (n : Int) : fo n ≤ 65535 := by unfold fo; split <;> omega
theorem fo_small (n : Int) (h0 : 0 ≤ n) (h : n ≤ 65535) : fo n = n := by unfold fo; split <;> omega
theorem fo_step (n : Int) (h : 65535 < n) : fo (n / 65536 + n % 65536) = fo n := by unfold fo; split <;> split <;> omega
theorem fo_fo (a b : Int) (ha : 0 ≤ a) (hb : 0 ≤ b) : fo (fo a + b) = fo (a + b) := by unfold fo; repeat' split <;> try omega
theorem fo_fo' (a b : Int) (ha : 0 ≤ a) (hb : 0 ≤ b) : fo (a + fo b) = fo (a + b) := by rw [Int.add_comm, fo_fo b a hb ha, Int.add_comm]
theorem fo_sub (n : Int) (h : 65535 < n) (h2 : n ≤ 131070) : n - 65535 = fo n := by unfold fo; split <;> omega

theorem u16_not (x : Int) (h0 : 0 ≤ x) (h1 : x ≤ 65535) : bits .xor .u16 65535 x = 65535 - x := by
  rw [u16_xor 65535 x (by omega) (by omega) h0 (by omega)]
  obtain ⟨n, rfl⟩ := Int.eq_ofNat_of_zero_le h0
  have hn : n < 2 ^ 16 := by omega
  have e : (65535 ^^^ n : Nat) = 65535 - n := by
    apply Nat.eq_of_testBit_eq
    intro i
    have h := Nat.testBit_two_pow_sub_succ hn i
    rw [show 2 ^ 16 - (n + 1) = 65535 - n by omega] at h
    rw [h, Nat.testBit_xor]
    have h2 := Nat.testBit_two_pow_sub_one 16 i
    rw [show 2 ^ 16 - 1 = 65535 by omega] at h2
    rw [h2]
    by_cases hi : i < 16
    · simp [hi]
    · have hf : n.testBit i = false := Nat.testBit_lt_two_pow (Nat.lt_of_lt_of_le hn (Nat.pow_le_pow_right (by omega) (by omega)))
      simp [hi, hf]
  show ((65535 ^^^ n : Nat) : Int) = _
  rw [e]; omega

theorem u64_or8 (a b : Int) (a0 : 0 ≤ a) (a1 : a ≤ 255) (b0 : 0 ≤ b) (b1 : b ≤ 255) : bits .or .u64 (a * 256) b = a * 256 + b := by
  rw [u64_or _ _ (by omega) (by omega) b0 (by omega), nat_join 8 _ _ (by omega) (by omega)]
  omega
theorem u16_or8 (a b : Int) (a0 : 0 ≤ a) (a1 : a ≤ 255) (b0 : 0 ≤ b) (b1 : b ≤ 255) : bits .or .u16 (a * 256) b = a * 256 + b := by
  rw [u16_or _ _ (by omega) (by omega) b0 (by omega), nat_join 8 _ _ (by omega) (by omega)]
  omega

/-- what a check sum is when a word that was old is now another. -/
def mend (c o n : Int) : Int := 65535 - fo (fo (65535 - c + (65535 - o)) + n)
theorem mend_lo (c o n : Int) : 0 ≤ mend c o n := by unfold mend; have := fo_hi (fo (65535 - c + (65535 - o)) + n); omega
theorem mend_hi (c o n : Int) : mend c o n ≤ 65535 := by unfold mend; have := fo_lo (fo (65535 - c + (65535 - o)) + n); omega

def pseudo (s d p z : Int) : Int := fo (s / 65536 + s % 65536 + (d / 65536 + d % 65536) + p % 65536 + z % 65536)

/-- the words' total. -/
def tot : List UInt8 → Int
  | [] => 0
  | [a] => 256 * (a.toNat : Int)
  | a :: b :: r => 256 * (a.toNat : Int) + (b.toNat : Int) + tot r
theorem tot_lo : ∀ l : List UInt8, 0 ≤ tot l
  | [] => by simp [tot]
  | [a] => by simp only [tot]; omega
  | a :: b :: r => by have := tot_lo r; simp only [tot]; omega
theorem tot_hi : ∀ l : List UInt8, tot l ≤ 65535 * (l.length : Int)
  | [] => by simp [tot]
  | [a] => by have := a.toNat_lt; simp [tot]; omega
  | a :: b :: r => by have := tot_hi r; have := a.toNat_lt; have := b.toNat_lt; simp [tot]; omega

def wrds : List UInt8 → List Int
  | [] => []
  | [a] => [256 * (a.toNat : Int)]
  | a :: b :: r => (256 * (a.toNat : Int) + (b.toNat : Int)) :: wrds r
theorem wrds_append : ∀ (p q : List UInt8), p.length % 2 = 0 → wrds (p ++ q) = wrds p ++ wrds q
  | [], q, _ => rfl
  | [a], q, h => by simp at h
  | a :: b :: r, q, h => by
    have := wrds_append r q (by simp at h; omega)
    simp only [List.cons_append, wrds, this]
theorem wrds_length : ∀ (p : List UInt8), (wrds p).length = (p.length + 1) / 2
  | [] => rfl
  | [a] => by simp [wrds]
  | a :: b :: r => by have := wrds_length r; simp only [wrds, List.length_cons, this]; omega
theorem wrds_sum : ∀ (p : List UInt8), (wrds p).sum = tot p
  | [] => rfl
  | [a] => by simp [wrds, tot]
  | a :: b :: r => by have := wrds_sum r; simp [wrds, tot, this]
theorem wrds_bd : ∀ (p : List UInt8), ∀ x ∈ wrds p, 0 ≤ x ∧ x ≤ 65535
  | [] => by simp [wrds]
  | [a] => by have := a.toNat_lt; intro x hx; simp [wrds] at hx; omega
  | a :: b :: r => by
    have h1 := a.toNat_lt
    have h2 := b.toNat_lt
    have := wrds_bd r
    intro x hx
    simp only [wrds, List.mem_cons] at hx
    rcases hx with rfl | hx
    · omega
    · exact this x hx
theorem wrds_two (l : List UInt8) (i : Nat) (hi : i % 2 = 0) (h : i + 1 < l.length) : wrds (l.take (i + 2)) = wrds (l.take i) ++ [256 * (l[i].toNat : Int) + (l[i + 1].toNat : Int)] := by
  have e : l.take (i + 2) = l.take i ++ [l[i], l[i + 1]] := by
    rw [show i + 2 = i + 1 + 1 from rfl, List.take_succ_eq_append_getElem (by omega), List.take_succ_eq_append_getElem (by omega), List.append_assoc]; rfl
  rw [e, wrds_append _ _ (by rw [List.length_take, Nat.min_eq_left (by omega)]; exact hi)]
  rfl
theorem wrds_one (l : List UInt8) (i : Nat) (hi : i % 2 = 0) (h : i + 1 = l.length) : wrds (l.take (i + 2)) = wrds (l.take i) ++ [256 * ((l[i]'(by omega)).toNat : Int)] := by
  have e : l.take (i + 2) = l.take i ++ [l[i]] := by
    rw [List.take_of_length_le (by omega)]
    rw [← List.take_succ_eq_append_getElem (by omega), List.take_of_length_le (by omega)]
  rw [e, wrds_append _ _ (by rw [List.length_take, Nat.min_eq_left (by omega)]; exact hi)]
  rfl

end Go.Proofs.Ytmgkkgpdnopeaaa

/- The total of words of which one is another; bytes that all are 0; one byte that is another. Plain mathematics. -/
namespace Go.Proofs.Ytmgkkgpdnopeaaa
open Go.RowKit

theorem tot_set : ∀ (k : Nat) (l : List UInt8) (a b : UInt8) (h : 2 * k + 1 < l.length),
    tot ((l.set (2 * k) a).set (2 * k + 1) b) = tot l - (256 * (l[2 * k].toNat : Int) + (l[2 * k + 1].toNat : Int)) + (256 * (a.toNat : Int) + (b.toNat : Int))
  | 0, x :: y :: r, a, b, h => by simp [tot]; omega
  | k + 1, x :: y :: r, a, b, h => by
    have ih := tot_set k r a b (by simp at h; omega)
    have e : 2 * (k + 1) = 2 * k + 1 + 1 := by omega
    simp only [e, List.set_cons_succ, List.getElem_cons_succ, tot, ih]
    omega
  | 0, [], a, b, h => by simp at h
  | 0, [x], a, b, h => by simp at h
  | k + 1, [], a, b, h => by simp at h
  | k + 1, [x], a, b, h => by simp at h

def allz (l : List UInt8) : Bool := l.all (· == 0)
theorem allz_tot : ∀ l : List UInt8, allz l = true → tot l = 0
  | [], _ => rfl
  | [a], h => by simp [allz] at h; subst h; rfl
  | a :: b :: r, h => by
    simp only [allz, List.all_cons, Bool.and_eq_true, beq_iff_eq] at h
    obtain ⟨rfl, rfl, h⟩ := h
    have := allz_tot r h
    simp only [tot, this]; rfl
theorem tot_allz : ∀ l : List UInt8, allz l = false → 0 < tot l
  | [], h => by simp [allz] at h
  | [a], h => by
    simp [allz] at h
    have : a.toNat ≠ 0 := fun e => h (UInt8.toNat_inj.1 (by simpa using e))
    simp only [tot]; omega
  | a :: b :: r, h => by
    have hr := tot_lo r
    by_cases ha : a = 0
    · by_cases hb : b = 0
      · subst ha hb
        have := tot_allz r (by simpa [allz] using h)
        simp only [tot]; simp; omega
      · have : b.toNat ≠ 0 := fun e => hb (UInt8.toNat_inj.1 (by simpa using e))
        simp only [tot]; omega
    · have : a.toNat ≠ 0 := fun e => ha (UInt8.toNat_inj.1 (by simpa using e))
      simp only [tot]; omega
theorem allz_snoc (l : List UInt8) (j : Nat) (h : j < l.length) : allz (l.take (j + 1)) = (allz (l.take j) && (l[j] == 0)) := by
  unfold allz
  rw [List.take_succ_eq_append_getElem h, List.all_append]; simp

theorem byte_zero (b : UInt8) : ((b.toNat : Int) == 0) = (b == 0) := by
  by_cases h : b = 0
  · subst h; rfl
  · have : ¬ ((b.toNat : Int) = 0) := fun e => h (UInt8.toNat_inj.1 (by simpa using e))
    rw [beq_eq_false_iff_ne.2 h, beq_eq_false_iff_ne.2 this]
theorem tot_word : ∀ (l : List UInt8) (k : Nat) (h : 2 * k + 1 < l.length) (x y : Int) (_ : (l[2 * k].toNat : Int) = x) (_ : (l[2 * k + 1].toNat : Int) = y), 256 * x + y ≤ tot l := by
  intro l k h x y hx hy
  have := tot_set k l 0 0 h
  have h2 := tot_lo ((l.set (2 * k) 0).set (2 * k + 1) 0)
  rw [hx, hy] at this
  simp at this
  omega

/-- mended, it is that of the changed words, where these are not all 0. -/
theorem mend_fits (T o n : Int) (T0 : 0 ≤ T - o) (o0 : 0 ≤ o) (o1 : o ≤ 65535) (n0 : 0 ≤ n) (h : 0 < T - o + n) : mend (65535 - fo T) o n = 65535 - fo (T - o + n) := by
  unfold mend
  rw [show 65535 - (65535 - fo T) + (65535 - o) = fo T + (65535 - o) from by omega, fo_fo T (65535 - o) (by omega) (by omega), fo_fo (T + (65535 - o)) n (by omega) n0]
  congr 1
  unfold fo; split <;> split <;> omega

def b8 (n : Int) : UInt8 := UInt8.ofNat n.toNat
theorem b8_is (n : Int) (h0 : 0 ≤ n) (h1 : n ≤ 255) : ((b8 n).toNat : Int) = n := by
  unfold b8
  rw [UInt8.toNat_ofNat_of_lt' (by show _ < 256; omega)]; omega

theorem fo_top (n : Int) : fo n = 65535 ↔ 0 < n ∧ n % 65535 = 0 := by unfold fo; split <;> omega
/-- with their own check sum among them words have the sum 65535. -/
theorem stands (T : Int) (h : 0 ≤ T) : fo (T + (65535 - fo T)) = 65535 := by
  rw [fo_top]; unfold fo; split <;> omega
theorem tot_one : ∀ (l : List UInt8) (i : Nat) (b : UInt8) (h : i < l.length), ∃ m : Int, (m = 1 ∨ m = 256) ∧ tot (l.set i b) = tot l + m * ((b.toNat : Int) - (l[i].toNat : Int))
  | [], _, _, h => by simp at h
  | [a], 0, b, _ => ⟨256, .inr rfl, by simp only [List.set_cons_zero, List.getElem_cons_zero, tot]; omega⟩
  | [a], i + 1, b, h => by simp at h
  | a :: c :: r, 0, b, _ => ⟨256, .inr rfl, by simp only [List.set_cons_zero, List.getElem_cons_zero, tot]; omega⟩
  | a :: c :: r, 1, b, _ => ⟨1, .inl rfl, by simp only [List.set_cons_zero, List.set_cons_succ, List.getElem_cons_zero, List.getElem_cons_succ, tot]; omega⟩
  | a :: c :: r, i + 2, b, h => by
    obtain ⟨m, hm, e⟩ := tot_one r i b (by simpa using h)
    exact ⟨m, hm, by simp only [List.set_cons_succ, List.getElem_cons_succ, tot, e]; omega⟩
/-- one byte that is another is seen. -/
theorem seen (l : List UInt8) (i : Nat) (b : UInt8) (h : i < l.length) (hb : b ≠ l[i]) (ht : fo (tot l) = 65535) : fo (tot (l.set i b)) ≠ 65535 := by
  obtain ⟨m, hm, e⟩ := tot_one l i b h
  have h1 : b.toNat ≠ l[i].toNat := fun e => hb (UInt8.toNat_inj.1 e)
  have h2 := b.toNat_lt
  have h3 := l[i].toNat_lt
  intro hf
  rw [fo_top] at ht hf
  rw [e] at hf
  rcases hm with rfl | rfl <;> omega
theorem xor_walk (a : UInt8) (x : Int) (h0 : 0 ≤ x) (h1 : x ≤ 255) : bits .xor .u8 (a.toNat : Int) x = ((a ^^^ b8 x).toNat : Int) := by
  have ha := a.toNat_lt
  rw [u8_xor _ x (by omega) (by omega) h0 (by omega), UInt8.toNat_xor]
  have := b8_is x h0 h1
  rw [Int.toNat_natCast, show x.toNat = (b8 x).toNat from by omega]
theorem xor_other (a : UInt8) (x : Int) (h0 : x ≠ 0) (h1 : 0 ≤ x) (h2 : x ≤ 255) : a ^^^ b8 x ≠ a := by
  intro h
  have : b8 x = 0 := by
    have h' : a ^^^ (a ^^^ b8 x) = a ^^^ a := by rw [h]
    simpa [← UInt8.xor_assoc] using h'
  have e := b8_is x h1 h2
  rw [this] at e
  simp at e
  omega

theorem stand_words (L l1 : List UInt8) (k : Nat) (h : 2 * k + 1 < L.length) (e : l1 = (L.set (2 * k) 0).set (2 * k + 1) 0) :
    fo (tot ((l1.set (2 * k) (b8 ((65535 - fo (tot l1)) / 256))).set (2 * k + 1) (b8 ((65535 - fo (tot l1)) % 256)))) = 65535 := by
  have hl : 2 * k + 1 < l1.length := by rw [e]; simpa using h
  have f1 := fo_lo (tot l1)
  have f2 := fo_hi (tot l1)
  have hz1 : l1[2 * k] = 0 := by subst e; rw [List.getElem_set_ne (by omega), List.getElem_set_self]
  have hz2 : l1[2 * k + 1] = 0 := by subst e; rw [List.getElem_set_self]
  rw [tot_set k l1 _ _ hl, hz1, hz2, b8_is _ (by omega) (by omega), b8_is _ (by omega) (by omega)]
  have := stands (tot l1) (tot_lo l1)
  rw [← this]
  congr 1
  simp; omega
end Go.Proofs.Ytmgkkgpdnopeaaa

/- Packets and the bytes of their heads: plain mathematics. No condition beyond bounds. -/
namespace Go.Proofs.Ytmgkkgpdnopeaaa
open Go.RowKit

/-- the byte at a place, as a number. -/
def g8 (l : List UInt8) (k : Nat) : Int := ((l.getD k 0).toNat : Int)
theorem g8_lo (l : List UInt8) (k : Nat) : 0 ≤ g8 l k := by unfold g8; omega
theorem g8_hi (l : List UInt8) (k : Nat) : g8 l k ≤ 255 := by unfold g8; have := (l.getD k 0).toNat_lt; omega
theorem g8_at (l : List UInt8) (k : Nat) (h : k < l.length) : g8 l k = (l[k].toNat : Int) := by unfold g8; simp [List.getD, h]
/-- the number of two bytes at a place. -/
def wd (l : List UInt8) (k : Nat) : Int := g8 l k * 256 + g8 l (k + 1)
theorem wd_lo (l : List UInt8) (k : Nat) : 0 ≤ wd l k := by have := g8_lo l k; have := g8_lo l (k + 1); unfold wd; omega
theorem wd_hi (l : List UInt8) (k : Nat) : wd l k ≤ 65535 := by have := g8_hi l k; have := g8_hi l (k + 1); unfold wd; omega
/-- the address at a place. -/
def ad4 (l : List UInt8) (k : Nat) : Int := wd l k * 65536 + wd l (k + 2)
theorem ad4_lo (l : List UInt8) (k : Nat) : 0 ≤ ad4 l k := by have := wd_lo l k; have := wd_lo l (k + 2); unfold ad4; omega
theorem ad4_hi (l : List UInt8) (k : Nat) : ad4 l k ≤ 4294967295 := by have := wd_hi l k; have := wd_hi l (k + 2); unfold ad4; omega

structure Pk where
  tos : Int
  id : Int
  df : Bool
  mf : Bool
  off : Int
  ttl : Int
  proto : Int
  src : Int
  dst : Int
  opts : List UInt8
  body : List UInt8

def Pk.empty : Pk := ⟨0, 0, false, false, 0, 0, 0, 0, 0, [], []⟩
theorem Pk.ext' {p q : Pk} (h1 : p.tos = q.tos) (h2 : p.id = q.id) (h3 : p.df = q.df) (h4 : p.mf = q.mf) (h5 : p.off = q.off) (h6 : p.ttl = q.ttl) (h7 : p.proto = q.proto) (h8 : p.src = q.src) (h9 : p.dst = q.dst) (h10 : p.opts = q.opts) (h11 : p.body = q.body) : p = q := by
  cases p; cases q; simp_all

/-- the two packets' fields are the same. -/
def sameB (p q : Pk) : Bool := p.tos == q.tos && (p.id == q.id && (p.df == q.df && (p.mf == q.mf && (p.off == q.off && (p.ttl == q.ttl && (p.proto == q.proto && (p.src == q.src && (p.dst == q.dst && (p.opts == q.opts && p.body == q.body)))))))))
theorem sameB_iff (p q : Pk) : sameB p q = true ↔ p = q := by
  cases p; cases q; simp [sameB]

/-- do a body and its place fit? -/
def fitsB (p : Pk) : Bool := decide (20 + (p.opts.length : Int) + p.off + (p.body.length : Int) ≤ 65535) && (!p.mf || (decide (0 < p.body.length) && decide (p.body.length % 8 = 0)))
def upB (n m : Int) : Bool := decide (0 ≤ n) && decide (n ≤ m)
/-- may it be put? -/
def mayB (p : Pk) : Bool := upB p.tos 255 && (upB p.ttl 255 && (upB p.proto 255 && (upB p.id 65535 && (upB p.off 65528 && (decide (p.off % 8 = 0) && (decide (p.opts.length ≤ 40) && (decide (p.opts.length % 4 = 0) && fitsB p)))))))
structure May (p : Pk) : Prop where
  t0 : 0 ≤ p.tos
  t1 : p.tos ≤ 255
  l0 : 0 ≤ p.ttl
  l1 : p.ttl ≤ 255
  r0 : 0 ≤ p.proto
  r1 : p.proto ≤ 255
  i0 : 0 ≤ p.id
  i1 : p.id ≤ 65535
  o0 : 0 ≤ p.off
  o1 : p.off ≤ 65528
  o8 : p.off % 8 = 0
  p40 : p.opts.length ≤ 40
  p4 : p.opts.length % 4 = 0
  fit : 20 + (p.opts.length : Int) + p.off + (p.body.length : Int) ≤ 65535
  mf : p.mf = true → 0 < p.body.length ∧ p.body.length % 8 = 0
theorem fitsB_iff (p : Pk) : fitsB p = true ↔ 20 + (p.opts.length : Int) + p.off + (p.body.length : Int) ≤ 65535 ∧ (p.mf = true → 0 < p.body.length ∧ p.body.length % 8 = 0) := by
  unfold fitsB
  cases p.mf <;> simp
theorem mayB_iff (p : Pk) : mayB p = true ↔ May p := by
  unfold mayB upB
  constructor
  · intro h
    simp only [Bool.and_eq_true, decide_eq_true_eq, fitsB_iff] at h
    obtain ⟨⟨a, b⟩, ⟨c, d⟩, ⟨e, f⟩, ⟨g, i⟩, ⟨j, k⟩, l, m, n, o, q⟩ := h
    exact ⟨a, b, c, d, e, f, g, i, j, k, l, m, n, o, q⟩
  · intro h
    simp only [Bool.and_eq_true, decide_eq_true_eq, fitsB_iff]
    exact ⟨⟨h.t0, h.t1⟩, ⟨h.l0, h.l1⟩, ⟨h.r0, h.r1⟩, ⟨h.i0, h.i1⟩, ⟨h.o0, h.o1⟩, h.o8, h.p40, h.p4, h.fit, h.mf⟩

/-- the word that Off shares with its bits. -/
def flg (p : Pk) : Int := p.off / 8 + (if p.mf then 8192 else 0) + (if p.df then 16384 else 0)
/-- how many bytes the head has, and the whole. -/
def hln (p : Pk) : Int := 20 + (p.opts.length : Int)
def whl (p : Pk) : Int := hln p + (p.body.length : Int)
/-- a head of 20 bytes, with a check sum. -/
def hd20 (p : Pk) (check : Int) : List UInt8 :=
  [b8 (64 + hln p / 4), b8 p.tos, b8 (whl p / 256), b8 (whl p % 256), b8 (p.id / 256), b8 (p.id % 256), b8 (flg p / 256), b8 (flg p % 256), b8 p.ttl, b8 p.proto, b8 (check / 256), b8 (check % 256),
    b8 (p.src / 16777216), b8 (p.src / 65536 % 256), b8 (p.src / 256 % 256), b8 (p.src % 256), b8 (p.dst / 16777216), b8 (p.dst / 65536 % 256), b8 (p.dst / 256 % 256), b8 (p.dst % 256)]
def hd (p : Pk) (check : Int) : List UInt8 := hd20 p check ++ p.opts
def chk (p : Pk) : Int := 65535 - fo (tot (hd p 0))
theorem chk_lo (p : Pk) : 0 ≤ chk p := by unfold chk; have := fo_hi (tot (hd p 0)); omega
theorem chk_hi (p : Pk) : chk p ≤ 65535 := by unfold chk; have := fo_lo (tot (hd p 0)); omega
/-- the packet's bytes. -/
def putB (p : Pk) : List UInt8 := hd p (chk p) ++ p.body
theorem hd_length (p : Pk) (c : Int) : (hd p c).length = 20 + p.opts.length := by simp [hd, hd20]; omega
theorem putB_length (p : Pk) : (putB p).length = 20 + p.opts.length + p.body.length := by simp [putB, hd_length]

/-- the packet of these bytes, or the first error. -/
def headN (l : List UInt8) : Int := g8 l 0 % 16 * 4
def prs (l : List UInt8) : Int × Pk :=
  if l.length < 20 then (2, Pk.empty)
  else if g8 l 0 / 16 ≠ 4 ∨ headN l < 20 ∨ (l.length : Int) < headN l then (3, Pk.empty)
  else if wd l 2 < headN l ∨ (l.length : Int) < wd l 2 then (4, Pk.empty)
  else if fo (tot (l.take (headN l).toNat)) ≠ 65535 then (5, Pk.empty)
  else
    let p : Pk := ⟨g8 l 1, wd l 4, decide (wd l 6 / 16384 % 2 = 1), decide (wd l 6 / 8192 % 2 = 1), wd l 6 % 8192 * 8, g8 l 8, g8 l 9, ad4 l 12, ad4 l 16, (l.take (headN l).toNat).drop 20, (l.take (wd l 2).toNat).drop (headN l).toNat⟩
    if 32768 ≤ wd l 6 ∨ fitsB p = false then (7, Pk.empty) else (0, p)
end Go.Proofs.Ytmgkkgpdnopeaaa

/- Rows of bytes of a call's own; cells of bytes by their places; an array's element. -/
namespace Go.Proofs.Ytmgkkgpdnopeaaa
open Go.ChangeShapes Go.WideShapes Go.ChangeAt Go.RowKit
set_option linter.unusedVariables false

theorem g8_cell {w : World} {B : Nat} {A : Option Addr} {l : List UInt8} (h : Bs w B A l) {k : Nat} (hk : k < l.length) : ∃ ad, A = some ad ∧ ad.block < B ∧ w.cell? (ad.add k) = some (.int .u8 (g8 l k)) := by
  rw [g8_at l k hk]
  exact h.at_ hk
theorem g8_cells {w : World} {B : Nat} {A : Option Addr} {l : List UInt8} (h : Bs w B A l) (hl : 0 < l.length) : ∃ ad, A = some ad ∧ ad.block < B ∧ ∀ k, k < l.length → w.cell? (ad.add k) = some (.int .u8 (g8 l k)) := by
  rcases h with h | ⟨ad, rfl, hlt, hcell⟩
  · subst h; simp at hl
  · exact ⟨ad, rfl, hlt, fun k hk => by rw [g8_at l k hk]; exact hcell k _ (List.getElem?_eq_getElem hk)⟩

/-- a row of bytes of the call's own. -/
def Own (w : World) (base g n c : Nat) (l : List UInt8) : Prop := w.ownsRow base 5 1 (.slice (some ⟨g, 0, none⟩) n c) n (l.map bv)
theorem Own.len {w : World} {base g n c : Nat} {l : List UInt8} (h : Own w base g n c l) : l.length = n := by have := h.1; simpa using this
theorem Own.lt {w : World} {base g n c : Nat} {l : List UInt8} (h : Own w base g n c l) : base ≤ g ∧ g < w.heap.size := World.ownsRow.lt h g rfl
theorem Own.bs {w : World} {base g n c : Nat} {l : List UInt8} (h : Own w base g n c l) : Bs w w.heap.size (some ⟨g, 0, none⟩) l := (rd_of_own' h).bs
theorem Own.stored {w : World} {base g n c : Nat} {l : List UInt8} (h : Own w base g n c l) (j : Nat) (x : Int) (h0 : 0 ≤ x) (h1 : x ≤ 255) :
    Own (w.setCell ⟨g, j, none⟩ (.int .u8 x)) base g n c (l.set j (b8 x)) ∧ Below base w (w.setCell ⟨g, j, none⟩ (.int .u8 x)) := by
  have e : Value.int .u8 x = bv (b8 x) := by unfold bv; rw [b8_is x h0 h1]
  rw [e]
  have hs := World.ownsRow.stored h j (bv (b8 x))
  refine ⟨?_, (Below.refl _ _).setCell h.lt.1 _⟩
  unfold Own
  rw [List.map_set]
  exact hs.1
theorem Own.cap {w : World} {base g n c : Nat} {l : List UInt8} (h : Own w base g n c l) : n ≤ c ∧ c ≤ maxLen := by
  rcases h.2 with ⟨h, _⟩ | ⟨g', cap, cur, hv, hb, hh, hn, hm, hs, ht⟩
  · cases h
  · injection hv with h1 h2 h3; subst h3; exact ⟨hn, hm⟩
theorem Own.below {w w' : World} {base g n c : Nat} {l : List UInt8} (h : Own w base g n c l) (hb : Below w.heap.size w w') : Own w' base g n c l := by
  refine ⟨h.1, ?_⟩
  rcases h.2 with h | ⟨g', cap, cur, hv, hba, hh, hn, hm, hs, ht⟩
  · exact .inl h
  · refine .inr ⟨g', cap, cur, hv, hba, ?_, hn, hm, hs, ht⟩
    rw [hb.block g' (Array.getElem?_eq_some_iff.1 hh).1]; exact hh
theorem Own.cellAt {w : World} {base g n c : Nat} {l : List UInt8} (h : Own w base g n c l) (j : Nat) (hj : j < n) : w.cell? ⟨g, j, none⟩ = some (.int .u8 (g8 l j)) := by
  have := own_cell h j (by have := h.len; simpa [this] using hj)
  rw [this, g8_at l j (by have := h.len; omega)]; simp [bv]
theorem Own.frozenAt {w : World} {base g n c : Nat} {l : List UInt8} (h : Own w base g n c l) (j : Nat) : w.frozen? ⟨g, j, none⟩ = false := World.ownsRow.frozenAt h j

theorem info_int : (Try.prog.info? 3).map (fun i => (i.zero, i.size, i.bytes)) = some (some (.int .i64 0), 1, 8) := by kernel_rfl
theorem info_byte : (Try.prog.info? 5).map (fun i => (i.zero, i.size, i.bytes)) = some (some (.int .u8 0), 1, 1) := by kernel_rfl

theorem own_made (w : World) (base n c : Nat) (hb : base ≤ w.heap.size) (hnc : n ≤ c) (hm : c ≤ maxLen) : Own (w.alloc (.cells (madeCells #[.int .u8 0] c) 5)) base w.heap.size n c (List.replicate n 0) := by
  refine ⟨by simp, .inr ⟨w.heap.size, c, madeCells #[.int .u8 0] c, rfl, hb, heap_alloc_new w _, hnc, hm, by rw [size_madeCells, Nat.mul_one], ?_⟩⟩
  rw [toList_madeCells_one, Nat.mul_one, List.take_replicate, Nat.min_eq_left hnc, List.map_replicate]
  rfl
/-- what lies in the block of a row, and what a splice into it makes. -/
theorem Own.block {w : World} {base g n c : Nat} {l : List UInt8} (h : Own w base g n c l) : ∃ cur : List Value, w.heap[g]? = some (.cells cur.toArray 5 (0, 0)) ∧ cur.length = c ∧ cur.take n = l.map bv := by
  rcases h.2 with ⟨h, _⟩ | ⟨g', cap, cur, hv, hb, hh, hn, hm, hs, ht⟩
  · cases h
  · injection hv with h1 h2 h3
    subst h3
    injection h1 with h1
    injection h1 with h1
    subst h1
    exact ⟨cur.toList, by simpa using hh, by simpa using hs, by simpa using ht⟩
theorem Own.of_block {w : World} {base g n c : Nat} {l : List UInt8} {cur : List Value} (hb : base ≤ g) (hh : w.heap[g]? = some (.cells cur.toArray 5 (0, 0))) (hc : cur.length = c) (hn : n ≤ c) (hm : c ≤ maxLen) (hl : l.length = n) (ht : cur.take n = l.map bv) : Own w base g n c l :=
  ⟨by simpa using hl, .inr ⟨g, c, cur.toArray, rfl, hb, hh, hn, hm, by simpa using hc, by simpa using ht⟩⟩
theorem take_splice {cur : List Value} {l o : List UInt8} (k : Nat) (ht : cur.take (k + o.length) = l.map bv) (hc : k + o.length ≤ cur.length) : (splice cur k (o.map bv)).take (k + o.length) = (l.take k ++ o).map bv := by
  unfold splice
  have e1 : (cur.take k).length = k := by rw [List.length_take]; omega
  have e2 : (l.take k).map bv = cur.take k := by rw [List.map_take, ← ht, List.take_take, Nat.min_eq_left (by omega)]
  rw [List.map_append, e2, List.take_append, e1, List.take_of_length_le (by omega)]
  congr 1
  rw [show k + o.length - k = (o.map bv).length by simp, List.take_append_of_le_length (Nat.le_refl _), List.take_length]

theorem upx {P : Program} {f : FuncId} {args : Array Value} {w W : World} {B : Nat} {v : Value} (h : Calls P f args w fun e w' => e = .returned v ∧ Below w.heap.size w w') (hb : Below B W w) (hB : B ≤ w.heap.size) :
    Calls P f args w fun e w' => e = .returned v ∧ Below w.heap.size w w' ∧ Below B W w' :=
  h.mono fun _ _ ⟨he, hw⟩ => ⟨he, hw, hb.trans (hw.mono hB)⟩
theorem dn0 (w : World) : ∃ m, w = w.drewN m := ⟨0, rfl⟩
/-- an array of ints by value: its element. -/
theorem run_index_arr (t e : TypeId) (n : Nat) (k : IntKind) (i : TypeInfo) (cs : Array Value) (j : Nat) (v : Value) (h : Try.prog.underlying t = some (.array n e)) (he : Try.prog.underlying e = some (.int k)) (hi : Try.prog.info? e = some i) (hs : Try.prog.cellsOf e = 1) (hj : j < n) (hv : cs[j]? = some v) (w : World) :
    (Instr.index t (.agg cs) (.int .i64 (j : Int))).run Try.prog w = .ok v w := by
  simp [Instr.index, run_underlying h, asIntOf, hj, go_sem, run_sizeOf w hi, hs, part, isAgg, run_underlying he, hv]
theorem four_rd (W : World) (a b c d : Int) (ha : 0 ≤ a ∧ a ≤ 255) (hb : 0 ≤ b ∧ b ≤ 255) (hc : 0 ≤ c ∧ c ≤ 255) (hd : 0 ≤ d ∧ d ≤ 255) :
    Rd (W.alloc (.cells #[.int .u8 a, .int .u8 b, .int .u8 c, .int .u8 d] 5)) (W.heap.size + 1) (some ⟨W.heap.size, 0, none⟩) ([b8 a, b8 b, b8 c, b8 d].map bv) := by
  refine .inr ⟨_, rfl, by simp, fun j u hj => ?_⟩
  match j, hj with
  | 0, hj => simp [bv, b8_is a ha.1 ha.2] at hj; subst hj; simp [Addr.add]
  | 1, hj => simp [bv, b8_is b hb.1 hb.2] at hj; subst hj; simp [Addr.add]
  | 2, hj => simp [bv, b8_is c hc.1 hc.2] at hj; subst hj; simp [Addr.add]
  | 3, hj => simp [bv, b8_is d hd.1 hd.2] at hj; subst hj; simp [Addr.add]

end Go.Proofs.Ytmgkkgpdnopeaaa

/- The contract of bytes.Clone. -/
namespace Go.Proofs.Ytmgkkgpdnopeaaa
open Go.ChangeShapes Go.WideShapes Go.ChangeAt Go.RowKit
set_option linter.unusedVariables false

/-- a slice that some call has handed back: it reads as these bytes. -/
structure Gives (w0 w : World) (A : Option Addr) (c : Nat) (l : List UInt8) : Prop where
  len : l.length ≤ c
  cap : c ≤ 9223372036854775807
  nil : A = none → c = 0
  bs : Bs w w.heap.size A l
  fresh : ∀ ad, A = some ad → w0.heap.size ≤ ad.block
  below : Below w0.heap.size w0 w
def Cloned (w0 : World) (n : Nat) (l : List UInt8) (e : Ending) (w : World) : Prop := ∃ A c, e = .returned (.slice A n c) ∧ Gives w0 w A c l

theorem own_gives {w0 w : World} {n : Nat} {v : Value} {l : List UInt8} (h : w.ownsRow w0.heap.size 5 1 v n (l.map bv)) (hb : Below w0.heap.size w0 w) : ∃ A c, v = .slice A n c ∧ Gives w0 w A c l := by
  have hn : l.length = n := by have := h.1; simpa using this
  obtain ⟨A, c, rfl, h1, h2, h3, h4⟩ := rd_of_own h
  unfold maxLen at h2
  refine ⟨A, c, rfl, by omega, by omega, h3, h4.bs, fun ad e => ?_, hb⟩
  subst e
  exact (h.lt ad.block rfl).1

set_option maxHeartbeats 400000 in
theorem cclone (A : Option Addr) (n c : Nat) (l : List UInt8) (B : Nat) (w : World) (hn : l.length = n) (h : Bs w B A l) (hB : B ≤ w.heap.size) (hn2 : n ≤ 16777216) (hnil : A = none → c = 0) (hnc : n ≤ c) :
    Calls Try.prog 83 #[.slice A n c] w (Cloned w n l) := by
  obtain ⟨i0, hi, hz0, hz1, hz2⟩ := info_parts info_byte
  have q := fun (W : World) (a : Option Addr) (n c n' c' : Nat) => Lib.run_eql_slice_nil (P := Try.prog) W _ _ a n c n' c' Try.underlying23
  rcases A with _ | ad
  · have hc := hnil rfl
    subst hc
    obtain rfl : n = 0 := by omega
    have hl : l = [] := List.eq_nil_of_length_eq_zero hn
    subst hl
    clear hn h hnil
    go_enter Try.func83, Try.ntmps83
    go_wp2
    go_ret
    exact ⟨none, 0, rfl, by simp, by omega, fun _ => rfl, .inl rfl, fun _ h => (by cases h), Below.refl _ _⟩
  · have HN := Go.Lib.hid hn
    have HB := Go.Lib.hid h
    have HX := Go.Lib.hid hnil
    clear hn h hnil
    go_enter Try.func83, Try.ntmps83
    go_wp2_with (at_builtin; refine wpList_copy_rd rfl _ _ 23 rfl 5 i0 (.int .u8 0) 1 Try.underlying23 hi hz0 hz1 hz2 rfl rfl B (some ad) n c (l.map bv) rfl (by simpa using HN.out) HX.out HB.out.rd hB (bv_one _) (by unfold maxLen; omega) (by omega) ?_; intro v2 w2 hown2 hb2)
    obtain ⟨A2, c2, rfl, hg⟩ := own_gives hown2 hb2
    go_ret
    exact ⟨A2, c2, rfl, hg⟩
end Go.Proofs.Ytmgkkgpdnopeaaa

/- Contracts of package csum's Sum and Of. -/
namespace Go.Proofs.Ytmgkkgpdnopeaaa
open Go.ChangeShapes Go.WideShapes Go.ChangeAt Go.RowKit

set_option maxHeartbeats 400000 in
theorem cfold (n : Int) (h0 : 0 ≤ n) (h1 : n ≤ 4611686018427387904) (w : World) :
    Calls Try.prog 79 #[.int .u64 n] w fun e w' => e = .returned (.int .u16 (fo n)) ∧ w = w' := by
  go_enter Try.func79, Try.ntmps79
  go_wp2
  go_loop [0] (fun t => ∃ m : Int, 0 ≤ m ∧ m ≤ 4611686018427387904 ∧ Hid (fo m = fo n) ∧ t = .int .u64 m) (fun t => (intOf t).toNat)
  case atStart => exact ⟨n, h0, h1, rfl, rfl⟩
  case round =>
    obtain ⟨m, m0, m1, hm, rfl⟩ := hrel
    by_cases hlt : 65535 < m
    · have hn := u64_and m 65535 m0 (by omega) (by omega) (by omega)
      have e2 : ((m.toNat &&& (65535:Int).toNat : Nat) : Int) = m % 65536 := by
        show ((m.toNat &&& 65535 : Nat) : Int) = _
        rw [nat_mask16]; omega
      rw [e2] at hn
      clear e2
      go_wp2
      go_round
      case rel => exact ⟨_, by omega, by omega, (fo_step m hlt).trans hm.out, rfl⟩
      case measure => simp [intOf]; omega
    · go_wp2
      go_ret
      exact ⟨ret_int (by rw [← hm.out, fo_small m m0 (by omega)]), rfl⟩

set_option maxHeartbeats 1000000 in
theorem csum (A : Option Addr) (c : Nat) (l : List UInt8) (B : Nat) (w : World) (h : Bs w B A l) (hl : l.length ≤ 16777216) (hlc : l.length ≤ c) (hc : c ≤ maxLen) :
    Calls Try.prog 56 #[.slice A l.length c] w fun e w' => e = .returned (.int .u16 (fo (tot l))) ∧ ∃ n, w' = w.drewN n := by
  unfold maxLen at hc
  go_enter Try.func56, Try.ntmps56
  go_wp2
  go_loopw [0, 3] (fun v t wr => ∃ (A' : Option Addr) (c' : Nat) (r : List UInt8) (s : Int), v = .slice A' r.length c' ∧ t = .int .u64 s ∧ 0 ≤ s ∧ Hid (s + tot r = tot l) ∧ Bs w B A' r ∧ r.length ≤ l.length ∧ r.length ≤ c' ∧ c' ≤ 9223372036854775807 ∧ ∃ n, wr = w.drewN n) (fun v _ _ => match v with | .slice _ n _ => n | _ => 0)
  case atStart => exact ⟨A, c, l, 0, rfl, rfl, by omega, by show 0 + tot l = tot l; omega, h, by omega, by omega, by omega, 0, rfl⟩
  case round =>
    obtain ⟨A', c', r, s, rfl, rfl, s0, hs, hb, hrl, hrc, hc', n, rfl⟩ := hrel
    have hb1 := tot_lo r
    have hb2 := tot_hi l
    have hb3 : s ≤ 65535 * (l.length : Int) := by have := hs.out; omega
    rcases r with _ | ⟨a, _ | ⟨b, r⟩⟩
    · have HS : Hid (s = tot l) := by have := hs.out; simp [tot] at this; exact this
      clear hs
      go_wp2_with (go_at_call 79; refine (cfold _ (by omega) (by omega) _).mono ?_; rintro e w' ⟨rfl, rfl⟩)
      go_ret
      exact ⟨ret_int (by rw [HS.out]), _, rfl⟩
    · rcases hb with hb | ⟨ad, rfl, hbl, hcell⟩
      · cases hb
      have ha := hcell 0 a rfl
      have ha1 := a.toNat_lt
      have hcell0 : (w.drewN n).cell? ad = some (.int .u8 (a.toNat : Int)) := ha
      clear hcell ha
      have HS : Hid (s + a.toNat * 256 = tot l) := by have := hs.out; simp only [tot] at this; show _ = _; omega
      clear hs
      simp only [tot] at hb1
      have hb4 : s + a.toNat * 256 ≤ 65535 * (l.length : Int) := by have := HS.out; omega
      go_wp2_with (go_at_call 79; refine (cfold _ (by omega) (by omega) _).mono ?_; rintro e w' ⟨rfl, rfl⟩)
      go_ret
      exact ⟨ret_int (by rw [HS.out]), _, rfl⟩
    · rcases hb with hb | ⟨ad, rfl, hbl, hcell⟩
      · cases hb
      have hc0 : w.cell? ad = some (.int .u8 (a.toNat : Int)) := hcell 0 a rfl
      have hc1 : w.cell? { block := ad.block, off := ad.off + 1 } = some (.int .u8 (b.toNat : Int)) := hcell 1 b rfl
      have ha1 := a.toNat_lt
      have hb1 := b.toNat_lt
      have HC := Go.Lib.hid hcell
      clear hcell
      have hlen : (a :: b :: r).length = r.length + 2 := rfl
      obtain ⟨m, hm⟩ : ∃ m, r.length + 2 = m := ⟨_, rfl⟩
      rw [hlen, hm] at hrl hrc ⊢
      have HM := Go.Lib.hid hm
      have hm2 : 2 ≤ m := by omega
      have hi0 : 0 < m := by omega
      have hi1 : (1 : Int) < (m : Int) := by omega
      have htr := tot_lo r
      have HS : Hid (s + (a.toNat * 256 + b.toNat) + tot r = tot l) := by have := hs.out; simp only [tot] at this; show _ = _; omega
      have hs2 : s + (a.toNat * 256 + b.toNat) ≤ 65535 * (l.length : Int) := by have := HS.out; omega
      clear hs hlen hm
      have ho := u64_or8 a.toNat b.toNat (by omega) (by omega) (by omega) (by omega)
      have hw := IntWalk.u64_in (s + (a.toNat * 256 + b.toNat)) (by omega)
      go_wp2
      go_quiet (fail)
      go_wp2
      go_roundw
      case rel =>
        refine ⟨_, c' - 2, r, _, by rw [← HM.out]; rfl, rfl, by omega, HS, ?_, by have := HM.out; omega, by have := HM.out; omega, by omega, _, rfl⟩
        by_cases hr : r = []
        · exact .inl hr
        · have : 0 < r.length := List.length_pos_iff.2 hr
          refine .inr ⟨{ block := ad.block, off := ad.off + 2 }, by rw [if_neg (by have := HM.out; omega)], hbl, fun j x hj => ?_⟩
          rw [add_shift ad 2 j (by omega), Nat.add_comm]
          exact HC.out (j + 2) x (by simpa using hj)
      case measure => simp; omega
end Go.Proofs.Ytmgkkgpdnopeaaa

/- Contract of the check sum of bytes. -/
namespace Go.Proofs.Ytmgkkgpdnopeaaa
open Go.ChangeShapes Go.WideShapes Go.ChangeAt Go.RowKit


set_option maxHeartbeats 400000 in
theorem cof (A : Option Addr) (c : Nat) (l : List UInt8) (B : Nat) (w : World) (h : Bs w B A l) (hl : l.length ≤ 16777216) (hlc : l.length ≤ c) (hc : c ≤ maxLen) :
    Calls Try.prog 34 #[.slice A l.length c] w fun e w' => e = .returned (.int .u16 (65535 - fo (tot l))) ∧ ∃ n, w' = w.drewN n := by
  have x1 := u16_not _ (fo_lo (tot l)) (fo_hi (tot l))
  have k1 : IntKind.u16.signed = false := rfl
  have k2 : IntKind.u16.max = 65535 := rfl
  go_enter Try.func34, Try.ntmps34
  go_wp2_with (go_at_call 56; refine (csum A c l B _ h hl hlc hc).mono ?_; rintro e w' ⟨rfl, n, rfl⟩)
  go_ret
  exact ⟨rfl, _, rfl⟩
end Go.Proofs.Ytmgkkgpdnopeaaa

/- Contracts of package ip's small functions. -/
namespace Go.Proofs.Ytmgkkgpdnopeaaa
open Go.ChangeShapes Go.WideShapes Go.ChangeAt Go.RowKit
set_option linter.unusedVariables false

/-- a packet as a value: its slices' addresses and capacities. -/
abbrev pkV (p : Pk) (Ao : Option Addr) (co : Nat) (Ab : Option Addr) (cb : Nat) : Value :=
  .agg #[.int .i64 p.tos, .int .i64 p.id, .bool p.df, .bool p.mf, .int .i64 p.off, .int .i64 p.ttl, .int .i64 p.proto, .int .u32 p.src, .int .u32 p.dst, .slice Ao p.opts.length co, .slice Ab p.body.length cb]

theorem mod8 (n : Nat) : (((n : Int) % 8) == 0) = decide (n % 8 = 0) := by rw [Bool.eq_iff_iff]; simp; omega
theorem mod4 (n : Nat) : (((n : Int) % 4) == 0) = decide (n % 4 = 0) := by rw [Bool.eq_iff_iff]; simp; omega

end Go.Proofs.Ytmgkkgpdnopeaaa

/- Contracts of package ip's writing functions: a word, an address, a head. -/
namespace Go.Proofs.Ytmgkkgpdnopeaaa
open Go.ChangeShapes Go.WideShapes Go.ChangeAt Go.RowKit
set_option linter.unusedVariables false

theorem nat_or_two (a : Nat) (ha : a < 8192) : (16384 + a) ||| 8192 = 24576 + a := by
  have e1 : 16384 + a = 2 * 2 ^ 13 ||| a := by rw [nat_join 13 (2 * 2 ^ 13) a (by omega) (by omega)]
  have e2 : 24576 + a = 3 * 2 ^ 13 ||| a := by rw [nat_join 13 (3 * 2 ^ 13) a (by omega) (by omega)]
  rw [e1, e2, Nat.or_assoc, Nat.or_comm a, ← Nat.or_assoc]; rfl
theorem nat_or_one (a : Nat) (ha : a < 8192) : a ||| 8192 = 8192 + a := by
  have e1 : 8192 + a = 1 * 2 ^ 13 ||| a := by rw [nat_join 13 (1 * 2 ^ 13) a (by omega) (by omega)]
  rw [e1, Nat.or_comm]
theorem nat_or_df (a : Nat) (ha : a < 8192) : a ||| 16384 = 16384 + a := by
  have e1 : 16384 + a = 1 * 2 ^ 14 ||| a := by rw [nat_join 14 (1 * 2 ^ 14) a (by omega) (by omega)]
  rw [e1, Nat.or_comm]
theorem u16_bit (x b : Int) (n m : Nat) (r : Nat) (hx : x = (n : Int)) (hb : b = (m : Int)) (h1 : n ≤ 65535) (h2 : m ≤ 65535) (h : n ||| m = r) : bits .or .u16 x b = (r : Int) := by
  subst hx hb
  rw [u16_or _ _ (by omega) (by omega) (by omega) (by omega), Int.toNat_natCast, Int.toNat_natCast, h]

/-- a packet that was boxed by the call is still there. -/
def Bx (p : Pk) (Ao : Option Addr) (co : Nat) (Ab : Option Addr) (cb : Nat) (w w' : World) : Prop :=
  Below (w.heap.size + 1) (w.alloc (.cells #[.int .i64 p.tos, .int .i64 p.id, .bool p.df, .bool p.mf, .int .i64 p.off, .int .i64 p.ttl, .int .i64 p.proto, .int .u32 p.src, .int .u32 p.dst, .slice Ao p.opts.length co, .slice Ab p.body.length cb] 25)) w'
section
variable {p : Pk} {Ao : Option Addr} {co : Nat} {Ab : Option Addr} {cb : Nat} {w w' w'' : World}
theorem Bx.start : Bx p Ao co Ab cb w (w.alloc (.cells #[.int .i64 p.tos, .int .i64 p.id, .bool p.df, .bool p.mf, .int .i64 p.off, .int .i64 p.ttl, .int .i64 p.proto, .int .u32 p.src, .int .u32 p.dst, .slice Ao p.opts.length co, .slice Ab p.body.length cb] 25)) := Below.refl _ _
theorem Bx.size (h : Bx p Ao co Ab cb w w') : w.heap.size + 1 ≤ w'.heap.size := by have := Below.size h; simpa using this
theorem Bx.step (h : Bx p Ao co Ab cb w w') (hb : Below (w.heap.size + 1) w' w'') : Bx p Ao co Ab cb w w'' := Below.trans h hb
theorem Bx.call (h : Bx p Ao co Ab cb w w') (hb : Below w'.heap.size w' w'') : Bx p Ao co Ab cb w w'' := Below.trans h (hb.mono h.size)
theorem Bx.below (h : Bx p Ao co Ab cb w w') : Below w.heap.size w w' := ((Below.refl _ _).alloc (Nat.le_refl _) _).trans (Below.mono h (Nat.le_succ _))
theorem Bx.cells (h : Bx p Ao co Ab cb w w') : w'.cell? ⟨w.heap.size, 0, none⟩ = some (.int .i64 p.tos) ∧ w'.cell? ⟨w.heap.size, 1, none⟩ = some (.int .i64 p.id) ∧ w'.cell? ⟨w.heap.size, 2, none⟩ = some (.bool p.df) ∧ w'.cell? ⟨w.heap.size, 3, none⟩ = some (.bool p.mf) ∧ w'.cell? ⟨w.heap.size, 4, none⟩ = some (.int .i64 p.off) ∧ w'.cell? ⟨w.heap.size, 5, none⟩ = some (.int .i64 p.ttl) ∧ w'.cell? ⟨w.heap.size, 6, none⟩ = some (.int .i64 p.proto) ∧ w'.cell? ⟨w.heap.size, 7, none⟩ = some (.int .u32 p.src) ∧ w'.cell? ⟨w.heap.size, 8, none⟩ = some (.int .u32 p.dst) ∧ w'.cell? ⟨w.heap.size, 9, none⟩ = some (.slice Ao p.opts.length co) ∧ w'.cell? ⟨w.heap.size, 10, none⟩ = some (.slice Ab p.body.length cb) := by
  have hc := fun (o : Nat) => Below.cell h (p := ⟨w.heap.size, o, none⟩) (Nat.lt_succ_self _)
  refine ⟨?_, ?_, ?_, ?_, ?_, ?_, ?_, ?_, ?_, ?_, ?_⟩ <;> (refine (hc _).trans ?_; simp [go_sem])
end

theorem cof_n (A : Option Addr) (n c : Nat) (l : List UInt8) (B : Nat) (w : World) (hn : l.length = n) (h : Bs w B A l) (hl : n ≤ 16777216) (hlc : n ≤ c) (hc : c ≤ 9223372036854775807) :
    Calls Try.prog 34 #[.slice A n c] w fun e w' => e = .returned (.int .u16 (65535 - fo (tot l))) ∧ ∃ n, w' = w.drewN n := by
  subst hn
  exact cof A c l B w h hl hlc (by unfold maxLen; omega)

theorem or64 : ∀ x : Fin 64, bits .or .i64 64 (x.val : Int) = 64 + (x.val : Int) := by decide +kernel
theorem i64_or64 (x : Int) (h0 : 0 ≤ x) (h1 : x < 64) : bits .or .i64 64 x = 64 + x := by
  have := or64 ⟨x.toNat, by omega⟩
  simpa [Int.toNat_of_nonneg h0] using this
theorem flg_lo (p : Pk) (h : 0 ≤ p.off) : 0 ≤ flg p := by unfold flg; split <;> split <;> omega
theorem flg_hi (p : Pk) (h : p.off ≤ 65528) : flg p ≤ 65535 := by unfold flg; split <;> split <;> omega

theorem sets_head (n m : Nat) (hn : n = 20 + m) (x0 x1 x2 x3 x4 x5 x6 x7 x8 x9 x12 x13 x14 x15 x16 x17 x18 x19 : UInt8) :
    ((((((((((((((((((List.replicate n (0 : UInt8)).set 0 x0).set 1 x1).set 2 x2).set (2 + 1) x3).set 4 x4).set (4 + 1) x5).set 6 x6).set (6 + 1) x7).set 8 x8).set 9 x9).set 12 x12).set (12 + 1) x13).set (12 + 2) x14).set (12 + 2 + 1) x15).set 16 x16).set (16 + 1) x17).set (16 + 2) x18).set (16 + 2 + 1) x19
      = [x0, x1, x2, x3, x4, x5, x6, x7, x8, x9, 0, 0, x12, x13, x14, x15, x16, x17, x18, x19] ++ List.replicate m 0 := by
  subst hn
  rw [← List.replicate_append_replicate]
  generalize List.replicate m (0 : UInt8) = R
  have e : List.replicate 20 (0 : UInt8) ++ R = 0 :: 0 :: 0 :: 0 :: 0 :: 0 :: 0 :: 0 :: 0 :: 0 :: 0 :: 0 :: 0 :: 0 :: 0 :: 0 :: 0 :: 0 :: 0 :: 0 :: R := rfl
  rw [e]
  simp only [List.set_cons_succ, List.set_cons_zero, Nat.reduceAdd, List.cons_append, List.nil_append]

end Go.Proofs.Ytmgkkgpdnopeaaa

/- The contract of package ip's Put. -/
namespace Go.Proofs.Ytmgkkgpdnopeaaa
open Go.ChangeShapes Go.WideShapes Go.ChangeAt Go.RowKit
set_option linter.unusedVariables false

section
variable {p : Pk} {Ao : Option Addr} {co : Nat} {Ab : Option Addr} {cb : Nat} {w w' w'' : World}
/-- all that is known of a boxed packet, at once. -/
theorem Bx.all (h : Bx p Ao co Ab cb w w') : w'.cell? ⟨w.heap.size, 0, none⟩ = some (.int .i64 p.tos) ∧ w'.cell? ⟨w.heap.size, 1, none⟩ = some (.int .i64 p.id) ∧ w'.cell? ⟨w.heap.size, 2, none⟩ = some (.bool p.df) ∧ w'.cell? ⟨w.heap.size, 3, none⟩ = some (.bool p.mf) ∧ w'.cell? ⟨w.heap.size, 4, none⟩ = some (.int .i64 p.off) ∧ w'.cell? ⟨w.heap.size, 5, none⟩ = some (.int .i64 p.ttl) ∧ w'.cell? ⟨w.heap.size, 6, none⟩ = some (.int .i64 p.proto) ∧ w'.cell? ⟨w.heap.size, 7, none⟩ = some (.int .u32 p.src) ∧ w'.cell? ⟨w.heap.size, 8, none⟩ = some (.int .u32 p.dst) ∧ w'.cell? ⟨w.heap.size, 9, none⟩ = some (.slice Ao p.opts.length co) ∧ w'.cell? ⟨w.heap.size, 10, none⟩ = some (.slice Ab p.body.length cb) ∧ Bx p Ao co Ab cb w w' := by
  obtain ⟨h0, h1, h2, h3, h4, h5, h6, h7, h8, h9, h10⟩ := h.cells
  exact ⟨h0, h1, h2, h3, h4, h5, h6, h7, h8, h9, h10, h⟩
end

end Go.Proofs.Ytmgkkgpdnopeaaa

/- Contracts of package ip's word, addr. -/
namespace Go.Proofs.Ytmgkkgpdnopeaaa
open Go.ChangeShapes Go.WideShapes Go.ChangeAt Go.RowKit
set_option linter.unusedVariables false

theorem u32_or16 (a b : Int) (a0 : 0 ≤ a) (a1 : a ≤ 65535) (b0 : 0 ≤ b) (b1 : b ≤ 65535) : bits .or .u32 (a * 65536) b = a * 65536 + b := by
  rw [u32_or _ _ (by omega) (by omega) b0 (by omega), nat_join 16 _ _ (by omega) (by omega)]
  omega

end Go.Proofs.Ytmgkkgpdnopeaaa

/- Contracts of package ip's reading functions: a copy, the lengths. -/
namespace Go.Proofs.Ytmgkkgpdnopeaaa
open Go.ChangeShapes Go.WideShapes Go.ChangeAt Go.RowKit
set_option linter.unusedVariables false

theorem u8_mask4 (x : Int) (h0 : 0 ≤ x) (h1 : x ≤ 255) : bits .and .u8 x 15 = x % 16 := by
  rw [u8_and x 15 h0 (by omega) (by omega) (by omega)]
  show ((x.toNat &&& 15 : Nat) : Int) = _
  rw [nat_mask4]; omega

/-- how long a head says that it is, and the whole; or the first error. -/
def measE (l : List UInt8) : Int :=
  if l.length < 20 then 2
  else if g8 l 0 / 16 ≠ 4 ∨ headN l < 20 ∨ (l.length : Int) < headN l then 3
  else if wd l 2 < headN l ∨ (l.length : Int) < wd l 2 then 4
  else 0

end Go.Proofs.Ytmgkkgpdnopeaaa

/- Contracts of package ip's reading functions: a head's parts, a packet. -/
namespace Go.Proofs.Ytmgkkgpdnopeaaa
open Go.ChangeShapes Go.WideShapes Go.ChangeAt Go.RowKit
set_option linter.unusedVariables false

theorem u16_mask13 (x : Int) (h0 : 0 ≤ x) (h1 : x ≤ 65535) : bits .and .u16 x 8191 = x % 8192 := by
  rw [u16_and x 8191 h0 (by omega) (by omega) (by omega)]
  show ((x.toNat &&& 8191 : Nat) : Int) = _
  rw [nat_mask13]; omega
theorem u16_b14 (x : Int) (h0 : 0 ≤ x) (h1 : x ≤ 65535) : bits .and .u16 x 16384 = x / 16384 % 2 * 16384 := by
  rw [u16_and x 16384 h0 (by omega) (by omega) (by omega)]
  show ((x.toNat &&& 2 ^ 14 : Nat) : Int) = _
  rw [nat_bit]; omega
theorem u16_b13 (x : Int) (h0 : 0 ≤ x) (h1 : x ≤ 65535) : bits .and .u16 x 8192 = x / 8192 % 2 * 8192 := by
  rw [u16_and x 8192 h0 (by omega) (by omega) (by omega)]
  show ((x.toNat &&& 2 ^ 13 : Nat) : Int) = _
  rw [nat_bit]; omega
theorem u16_b15 (x : Int) (h0 : 0 ≤ x) (h1 : x ≤ 65535) : bits .and .u16 x 32768 = x / 32768 % 2 * 32768 := by
  rw [u16_and x 32768 h0 (by omega) (by omega) (by omega)]
  show ((x.toNat &&& 2 ^ 15 : Nat) : Int) = _
  rw [nat_bit]; omega

/-- the packet of a head and a body. -/
def rdP (l body : List UInt8) : Pk := ⟨g8 l 1, wd l 4, decide (wd l 6 / 16384 % 2 = 1), decide (wd l 6 / 8192 % 2 = 1), wd l 6 % 8192 * 8, g8 l 8, g8 l 9, ad4 l 12, ad4 l 16, l.drop 20, body⟩

/-- what a call hands back that gives a packet in new memory. -/
structure GivesPk (w0 w : World) (p : Pk) (Ao : Option Addr) (co : Nat) (Ab : Option Addr) (cb : Nat) : Prop where
  olen : p.opts.length ≤ co
  ocap : co ≤ 9223372036854775807
  onil : Ao = none → co = 0
  obs : Bs w w.heap.size Ao p.opts
  ofresh : ∀ ad, Ao = some ad → w0.heap.size ≤ ad.block
  blen : p.body.length ≤ cb
  bcap : cb ≤ 9223372036854775807
  bnil : Ab = none → cb = 0
  bbs : Bs w w.heap.size Ab p.body
  bfresh : ∀ ad, Ab = some ad → w0.heap.size ≤ ad.block
  below : Below w0.heap.size w0 w
theorem Bs.far {w : World} {B : Nat} {A : Option Addr} {l : List UInt8} (h : Bs w B A l) (p : Addr) (u : Value) (hp : ∀ ad, A = some ad → p.block ≠ ad.block) : Bs (w.setCell p u) B A l := by
  rcases h with h | ⟨ad, rfl, hlt, hc⟩
  · exact .inl h
  · refine .inr ⟨ad, rfl, hlt, fun j b hj => ?_⟩
    rw [World.cell?_setCell_other w p (ad.add j) u (fun e => hp ad rfl (by rw [e, block_add]))]
    exact hc j b hj

/-- a world in which an empty packet lies in the newest block. -/
abbrev Zw (w : World) : World := w.alloc (.cells #[.int .i64 0, .int .i64 0, .bool false, .bool false, .int .i64 0, .int .i64 0, .int .i64 0, .int .u32 0, .int .u32 0, .slice none 0 0, .slice none 0 0] 25)
theorem Zw.below {w X : World} (x : Below (w.heap.size + 1) (Zw w) X) : Below w.heap.size w X := ((Below.refl _ _).alloc (Nat.le_refl _) _).trans (x.mono (Nat.le_succ _))
theorem Zw.size {w X : World} (x : Below (w.heap.size + 1) (Zw w) X) : w.heap.size + 1 ≤ X.heap.size := by have := x.size; simpa using this
theorem cclone2 (A : Option Addr) (n c : Nat) (l : List UInt8) (w X : World) (hn : l.length = n) (h : Bs w w.heap.size A l) (hn2 : n ≤ 16777216) (hnil : A = none → c = 0) (hnc : n ≤ c) (x : Below (w.heap.size + 1) (Zw w) X) :
    Calls Try.prog 83 #[.slice A n c] X fun e w' => Cloned X n l e w' ∧ Below (w.heap.size + 1) (Zw w) w' :=
  (cclone A n c l w.heap.size X hn (h.below (Zw.below x)) (Zw.below x).size hn2 hnil hnc).mono fun e w' ⟨A', c', he, hg⟩ => ⟨⟨A', c', he, hg⟩, x.trans (hg.below.mono (Zw.size x))⟩

theorem rdS {w w' : World} {ad : Addr} {x y z : Value} (hlt : ad.block < w.heap.size) (c1 : w.cell? ⟨ad.block, ad.off + 1, none⟩ = some x) (c8 : w.cell? ⟨ad.block, ad.off + 8, none⟩ = some y) (c9 : w.cell? ⟨ad.block, ad.off + 9, none⟩ = some z) (hb : Below w.heap.size w w') :
    w'.cell? ⟨ad.block, ad.off + 1, none⟩ = some x ∧ w'.cell? ⟨ad.block, ad.off + 8, none⟩ = some y ∧ w'.cell? ⟨ad.block, ad.off + 9, none⟩ = some z ∧ Below w.heap.size w w' :=
  ⟨(hb.cell (p := ⟨ad.block, ad.off + 1, none⟩) hlt).trans c1, (hb.cell (p := ⟨ad.block, ad.off + 8, none⟩) hlt).trans c8, (hb.cell (p := ⟨ad.block, ad.off + 9, none⟩) hlt).trans c9, hb⟩

theorem rdB {a b c : Prop} {B : Nat} {w w' : World} (h : a ∧ b ∧ c ∧ Below B w w') : Below B w w' := h.2.2.2
theorem below_set {B : Nat} {a w : World} (h : Below B a w) (k : Nat) (u : Value) : Below B a (w.setCell ⟨B, k, none⟩ u) := h.setCell (Nat.le_refl _) u
theorem below_set11 {B : Nat} {a w : World} (h : Below B a w) (u0 u1 u2 u3 u4 u5 u6 u7 u8 u9 u10 : Value) :
    Below B a (((((((((((w.setCell ⟨B, 0, none⟩ u0).setCell ⟨B, 1, none⟩ u1).setCell ⟨B, 2, none⟩ u2).setCell ⟨B, 3, none⟩ u3).setCell ⟨B, 4, none⟩ u4).setCell ⟨B, 5, none⟩ u5).setCell ⟨B, 6, none⟩ u6).setCell ⟨B, 7, none⟩ u7).setCell ⟨B, 8, none⟩ u8).setCell ⟨B, 9, none⟩ u9).setCell ⟨B, 10, none⟩ u10) :=
  below_set (below_set (below_set (below_set (below_set (below_set (below_set (below_set (below_set (below_set (below_set h _ _) _ _) _ _) _ _) _ _) _ _) _ _) _ _) _ _) _ _) _ _
theorem bs_set11 {g B : Nat} {w : World} {A : Option Addr} {l : List UInt8} (h : Bs w B A l) (hf : ∀ ad, A = some ad → g ≠ ad.block) (u0 u1 u2 u3 u4 u5 u6 u7 u8 u9 u10 : Value) :
    Bs (((((((((((w.setCell ⟨g, 0, none⟩ u0).setCell ⟨g, 1, none⟩ u1).setCell ⟨g, 2, none⟩ u2).setCell ⟨g, 3, none⟩ u3).setCell ⟨g, 4, none⟩ u4).setCell ⟨g, 5, none⟩ u5).setCell ⟨g, 6, none⟩ u6).setCell ⟨g, 7, none⟩ u7).setCell ⟨g, 8, none⟩ u8).setCell ⟨g, 9, none⟩ u9).setCell ⟨g, 10, none⟩ u10) B A l :=
  ((((((((((h.far ⟨g, 0, none⟩ u0 hf).far ⟨g, 1, none⟩ u1 hf).far ⟨g, 2, none⟩ u2 hf).far ⟨g, 3, none⟩ u3 hf).far ⟨g, 4, none⟩ u4 hf).far ⟨g, 5, none⟩ u5 hf).far ⟨g, 6, none⟩ u6 hf).far ⟨g, 7, none⟩ u7 hf).far ⟨g, 8, none⟩ u8 hf).far ⟨g, 9, none⟩ u9 hf).far ⟨g, 10, none⟩ u10 hf
theorem size_set11 (g : Nat) (w : World) (u0 u1 u2 u3 u4 u5 u6 u7 u8 u9 u10 : Value) :
    (((((((((((w.setCell ⟨g, 0, none⟩ u0).setCell ⟨g, 1, none⟩ u1).setCell ⟨g, 2, none⟩ u2).setCell ⟨g, 3, none⟩ u3).setCell ⟨g, 4, none⟩ u4).setCell ⟨g, 5, none⟩ u5).setCell ⟨g, 6, none⟩ u6).setCell ⟨g, 7, none⟩ u7).setCell ⟨g, 8, none⟩ u8).setCell ⟨g, 9, none⟩ u9).setCell ⟨g, 10, none⟩ u10).heap.size = w.heap.size := by simp
/-- a packet of noughts that lies in a block of the call's own. -/
def Zx (B : Nat) (w : World) : Prop := w.heap[B]? = some (.cells #[.int .i64 0, .int .i64 0, .bool false, .bool false, .int .i64 0, .int .i64 0, .int .i64 0, .int .u32 0, .int .u32 0, .slice none 0 0, .slice none 0 0] 25 (0, 0))
theorem zx_of {w w' : World} (h : Below (w.heap.size + 1) (w.alloc (.cells #[.int .i64 0, .int .i64 0, .bool false, .bool false, .int .i64 0, .int .i64 0, .int .i64 0, .int .u32 0, .int .u32 0, .slice none 0 0, .slice none 0 0] 25)) w') :
    (w'.cell? ⟨w.heap.size, 0, none⟩ = some (.int .i64 0) ∧ w'.cell? ⟨w.heap.size, 1, none⟩ = some (.int .i64 0) ∧ w'.cell? ⟨w.heap.size, 2, none⟩ = some (.bool false) ∧ w'.cell? ⟨w.heap.size, 3, none⟩ = some (.bool false) ∧ w'.cell? ⟨w.heap.size, 4, none⟩ = some (.int .i64 0) ∧ w'.cell? ⟨w.heap.size, 5, none⟩ = some (.int .i64 0) ∧ w'.cell? ⟨w.heap.size, 6, none⟩ = some (.int .i64 0) ∧ w'.cell? ⟨w.heap.size, 7, none⟩ = some (.int .u32 0) ∧ w'.cell? ⟨w.heap.size, 8, none⟩ = some (.int .u32 0) ∧ w'.cell? ⟨w.heap.size, 9, none⟩ = some (.slice none 0 0) ∧ w'.cell? ⟨w.heap.size, 10, none⟩ = some (.slice none 0 0)) ∧
    (∀ o, w'.frozen? ⟨w.heap.size, o, none⟩ = false) := by
  have hc := fun (o : Nat) => Below.cell h (p := ⟨w.heap.size, o, none⟩) (Nat.lt_succ_self _)
  refine ⟨⟨?_, ?_, ?_, ?_, ?_, ?_, ?_, ?_, ?_, ?_, ?_⟩, fun o => ?_⟩
  · refine (hc _).trans ?_; simp [go_sem]
  · refine (hc _).trans ?_; simp [go_sem]
  · refine (hc _).trans ?_; simp [go_sem]
  · refine (hc _).trans ?_; simp [go_sem]
  · refine (hc _).trans ?_; simp [go_sem]
  · refine (hc _).trans ?_; simp [go_sem]
  · refine (hc _).trans ?_; simp [go_sem]
  · refine (hc _).trans ?_; simp [go_sem]
  · refine (hc _).trans ?_; simp [go_sem]
  · refine (hc _).trans ?_; simp [go_sem]
  · refine (hc _).trans ?_; simp [go_sem]
  · refine (Below.frozen h (p := ⟨w.heap.size, o, none⟩) (Nat.lt_succ_self _)).trans ?_; simp [go_sem]

end Go.Proofs.Ytmgkkgpdnopeaaa

/- The contract of package ip's Parse. -/
namespace Go.Proofs.Ytmgkkgpdnopeaaa
open Go.ChangeShapes Go.WideShapes Go.ChangeAt Go.RowKit
set_option linter.unusedVariables false

theorem csum_n (A : Option Addr) (n c : Nat) (l : List UInt8) (B : Nat) (w : World) (hn : l.length = n) (h : Bs w B A l) (hl : n ≤ 16777216) (hlc : n ≤ c) (hc : c ≤ 9223372036854775807) :
    Calls Try.prog 56 #[.slice A n c] w fun e w' => e = .returned (.int .u16 (fo (tot l))) ∧ ∃ n, w' = w.drewN n := by
  subst hn
  exact csum A c l B w h hl hlc (by unfold maxLen; omega)

theorem prs_meas (l : List UInt8) (h : measE l ≠ 0) : prs l = (measE l, Pk.empty) := by
  unfold measE at h ⊢
  unfold prs
  split
  · rfl
  · split
    · rfl
    · split
      · rfl
      · rename_i h1 h2 h3
        rw [if_neg h1, if_neg h2, if_neg h3] at h
        exact absurd rfl h
theorem meas_ok (l : List UInt8) (h : measE l = 0) : 20 ≤ l.length ∧ 20 ≤ headN l ∧ headN l ≤ l.length ∧ headN l ≤ wd l 2 ∧ wd l 2 ≤ l.length := by
  unfold measE at h
  split at h
  · cases h
  · split at h
    · cases h
    · split at h
      · cases h
      · omega
theorem prs_ok (l : List UInt8) (h : measE l = 0) : prs l = if fo (tot (l.take (headN l).toNat)) ≠ 65535 then (5, Pk.empty) else if 32768 ≤ wd l 6 ∨ fitsB (rdP (l.take (headN l).toNat) ((l.take (wd l 2).toNat).drop (headN l).toNat)) = false then (7, Pk.empty) else (0, rdP (l.take (headN l).toNat) ((l.take (wd l 2).toNat).drop (headN l).toNat)) := by
  obtain ⟨m1, m2, m3, m4, m5⟩ := meas_ok l h
  have t : ∀ k, k < 20 → g8 (l.take (headN l).toNat) k = g8 l k := by
    intro k hk
    rw [g8_at _ k (by rw [List.length_take]; omega), g8_at l k (by omega), List.getElem_take]
  have tw : ∀ k, k < 19 → wd (l.take (headN l).toNat) k = wd l k := by
    intro k hk
    unfold wd; rw [t k (by omega), t (k + 1) (by omega)]
  have ta : ∀ k, k < 17 → ad4 (l.take (headN l).toNat) k = ad4 l k := by
    intro k hk
    unfold ad4; rw [tw k (by omega), tw (k + 2) (by omega)]
  have hp : rdP (l.take (headN l).toNat) ((l.take (wd l 2).toNat).drop (headN l).toNat) = ⟨g8 l 1, wd l 4, decide (wd l 6 / 16384 % 2 = 1), decide (wd l 6 / 8192 % 2 = 1), wd l 6 % 8192 * 8, g8 l 8, g8 l 9, ad4 l 12, ad4 l 16, (l.take (headN l).toNat).drop 20, (l.take (wd l 2).toNat).drop (headN l).toNat⟩ := by
    unfold rdP
    rw [t 1 (by omega), tw 4 (by omega), tw 6 (by omega), t 8 (by omega), t 9 (by omega), ta 12 (by omega), ta 16 (by omega)]
  rw [hp]
  have h3 : ¬ (g8 l 0 / 16 ≠ 4 ∨ headN l < 20 ∨ (l.length : Int) < headN l) := by
    intro h3
    unfold measE at h
    rw [if_neg (by omega), if_pos h3] at h
    cases h
  unfold prs
  rw [if_neg (by omega), if_neg h3, if_neg (by omega)]

/-- what Parse hands back. -/
def Parsed (w : World) (l : List UInt8) (e : Ending) (w' : World) : Prop := ∃ Ao co Ab cb, e = .returned (.tuple #[pkV (prs l).2 Ao co Ab cb, .int .i64 (prs l).1]) ∧ GivesPk w w' (prs l).2 Ao co Ab cb
theorem gives_empty {w w' : World} (h : Below w.heap.size w w') : GivesPk w w' Pk.empty none 0 none 0 :=
  ⟨Nat.le_refl _, by omega, fun _ => rfl, .inl rfl, fun _ h => (by cases h), Nat.le_refl _, by omega, fun _ => rfl, .inl rfl, fun _ h => (by cases h), h⟩

end Go.Proofs.Ytmgkkgpdnopeaaa

/- A packet's addresses fit their type. -/
namespace Go.Proofs.Ytmgkkgpdnopeaaa
set_option linter.unusedVariables false

structure Rng (p : Pk) : Prop where
  s0 : 0 ≤ p.src
  s1 : p.src ≤ 4294967295
  d0 : 0 ≤ p.dst
  d1 : p.dst ≤ 4294967295
end Go.Proofs.Ytmgkkgpdnopeaaa
