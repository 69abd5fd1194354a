/- Lemmas, several texts in one. -/
import Derived.Lib.Hide
import Derived.WalkKit
import Derived.ProofKit
import Derived.OpenShut
import Derived.Below
import Derived.OwnWalk
import Derived.Maps.AppendAt
import Derived.Laws.AppendOwnNone
import Derived.Deep.Draws
import Derived.ChangeSlices
import Derived.ChangeSame
import Derived.Carry
import Derived.Test.YtoghcefamoefpaaGreatDoorRows
import Derived.IntWalk
import Derived.Laws.BitsAllLaws
import Derived.Deep.QuietTactic
import Derived.Deep.RegionHeld3
import Derived.BigQuiet
import Derived.Laws.OwnMore
import Derived.Laws.CopyOwn
import Derived.Deep.AppendLies
import Derived.Deep.DeepCutAuto
import Derived.Deep.CutBlock
import Derived.StillTailTactics
import Derived.Deep.Onto
import Derived.Deep.MidRow
import Derived.Deep.WholeRow
/- Memory as it is met in the walks: a slice that reads as a list; a world that has not turned below a block; an append onto a row of the call's own. No condition.  -/
namespace Go.Proofs.YtoghcefamoefpaaGreatDoor
open Go.ChangeShapes Go.WideShapes Go.ChangeAt Go.RowKit

theorem ret_int {k : IntKind} {a b : Int} (h : a = b) : Ending.returned (.int k a) = .returned (.int k b) := by rw [h]
theorem ret_bool {a b : Bool} (h : a = b) : Ending.returned (.bool a) = .returned (.bool b) := by rw [h]

theorem add_shift (ad : Addr) (k j : Nat) (hk : 0 < k) : ({ block := ad.block, off := ad.off + k } : Addr).add j = ad.add (k + j) := by
  unfold Addr.add
  by_cases h : j = 0
  · subst h; rw [if_pos rfl, if_neg (by omega)]; rfl
  · rw [if_neg h, if_neg (by omega)]; simp only [Nat.add_assoc]
theorem add_pos (ad : Addr) (k : Nat) (hk : 0 < k) : ad.add k = { block := ad.block, off := ad.off + k } := by
  unfold Addr.add; rw [if_neg (by omega)]
theorem add_zero (ad : Addr) : ad.add 0 = ad := by unfold Addr.add; simp
theorem add_own (g k : Nat) : (⟨g, 0, none⟩ : Addr).add k = ⟨g, k, none⟩ := by rw [add_plain]; simp

theorem below_dn {B : Nat} {a w : World} (h : Below B a w) (n : Nat) : Below B a (w.drewN n) := ⟨h.os, h.tape, h.output, h.size, h.block⟩
theorem below_drew {B : Nat} {a w : World} (h : Below B a w) : Below B a w.drew := ⟨h.os, h.tape, h.output, h.size, h.block⟩
theorem bcell {W w1 : World} (hb : Below W.heap.size W w1) : (∀ b o, b < W.heap.size → w1.cell? ⟨b, o, none⟩ = W.cell? ⟨b, o, none⟩) ∧ (∀ b o, b < W.heap.size → w1.frozen? ⟨b, o, none⟩ = W.frozen? ⟨b, o, none⟩) :=
  ⟨fun b o h => hb.cell (p := ⟨b, o, none⟩) h, fun b o h => hb.frozen (p := ⟨b, o, none⟩) h⟩
theorem cells_keep {X Y : World} {B k : Nat} {v : Value} (hb : Below X.heap.size X Y) (hB : B < X.heap.size) (h : X.cell? ⟨B, k, none⟩ = some v) : Y.cell? ⟨B, k, none⟩ = some v := ((bcell hb).1 B k hB).trans h
theorem up {P : Program} {f : FuncId} {args : Array Value} {w W : World} {v : Value} (h : Calls P f args w fun e w' => e = .returned v ∧ Below w.heap.size w w') (hb : Below W.heap.size W w) :
    Calls P f args w fun e w' => e = .returned v ∧ Below W.heap.size W w' :=
  h.mono fun _ _ ⟨he, hw⟩ => ⟨he, hb.trans (hw.mono hb.size)⟩

/-- the slice at A reads as these values, below block B. -/
def Rd (w : World) (B : Nat) (A : Option Addr) (xs : List Value) : Prop :=
  xs = [] ∨ ∃ ad, A = some ad ∧ ad.block < B ∧ ∀ (j : Nat) (u : Value), xs[j]? = some u → w.cell? (ad.add j) = some u

section
variable {w w' : World} {B B' : Nat} {A : Option Addr} {xs : List Value}
theorem Rd.keep (h : Rd w B A xs) (hk : ∀ p : Addr, p.block < B → w'.cell? p = w.cell? p) : Rd w' B A xs := by
  rcases h with h | ⟨ad, e, hlt, hc⟩
  · exact .inl h
  · exact .inr ⟨ad, e, hlt, fun j b hj => (hk _ (by rw [block_add]; exact hlt)).trans (hc j b hj)⟩
theorem Rd.below (h : Rd w B A xs) (hb : Below B w w') : Rd w' B A xs := h.keep fun _ hp => hb.cell hp
theorem Rd.drewN (h : Rd w B A xs) (n : Nat) : Rd (w.drewN n) B A xs := h
theorem Rd.drew (h : Rd w B A xs) : Rd w.drew B A xs := h
theorem Rd.more (h : Rd w B A xs) (hB : B ≤ B') : Rd w B' A xs := by
  rcases h with h | ⟨ad, e, hlt, hc⟩
  · exact .inl h
  · exact .inr ⟨ad, e, by omega, hc⟩
theorem Rd.alloc (h : Rd w B A xs) (hB : B ≤ w.heap.size) (o : Obj) : Rd (w.alloc o) B A xs := h.below ((Below.refl _ _).alloc hB o)
theorem Rd.setCell (h : Rd w B A xs) {p : Addr} (hB : B ≤ p.block) (u : Value) : Rd (w.setCell p u) B A xs := h.below ((Below.refl _ _).setCell hB u)
theorem Rd.take (h : Rd w B A xs) (k : Nat) : Rd w B A (xs.take k) := by
  rcases h with h | ⟨ad, e, hlt, hc⟩
  · exact .inl (by rw [h]; simp)
  · exact .inr ⟨ad, e, hlt, fun j b hj => hc j b (by rw [List.getElem?_take] at hj; split at hj <;> simp_all)⟩
/-- the rest behind k, at the address that a cut 's[k:]' has: whatever the capacity. -/
theorem Rd.cut (h : Rd w B A xs) (k cap : Nat) (hc : xs.length ≤ cap) (hk : 0 < k) :
    Rd w B (if cap = k then A else A.map fun ad => { block := ad.block, off := ad.off + k }) (xs.drop k) := by
  by_cases hl : xs.length ≤ k
  · exact .inl (List.drop_of_length_le hl)
  rcases h with h | ⟨ad, rfl, hlt, hcell⟩
  · subst h; simp at hl
  · refine .inr ⟨{ block := ad.block, off := ad.off + k }, by rw [if_neg (by omega)]; rfl, hlt, fun j u hj => ?_⟩
    rw [add_shift ad k j hk]
    exact hcell _ u (by rw [List.getElem?_drop] at hj; exact hj)
theorem Rd.at_ (h : Rd w B A xs) {k : Nat} (hk : k < xs.length) : ∃ ad, A = some ad ∧ ad.block < B ∧ w.cell? (ad.add k) = some xs[k] := by
  rcases h with h | ⟨ad, rfl, hlt, hcell⟩
  · subst h; simp at hk
  · exact ⟨ad, rfl, hlt, hcell k _ (List.getElem?_eq_getElem hk)⟩
/-- a row of the call's own reads as what it owns. -/
theorem rd_of_own {base : Nat} {e : TypeId} {v : Value} {n : Nat} (h : w.ownsRow base e 1 v n xs) :
    ∃ A c, v = .slice A n c ∧ n ≤ c ∧ c ≤ maxLen ∧ (A = none → c = 0) ∧ Rd w w.heap.size A xs := by
  rcases h.2 with ⟨rfl, rfl⟩ | ⟨g, cap, cur, rfl, hb, hh, hn, hm, hs, ht⟩
  · exact ⟨none, 0, rfl, by omega, by unfold maxLen; omega, fun _ => rfl, .inl (List.eq_nil_of_length_eq_zero (by simpa using h.1))⟩
  · exact ⟨_, cap, rfl, hn, hm, fun h => by simp at h, .inr ⟨_, rfl, (h.lt g rfl).2, h.cells rfl⟩⟩
/-- where something is owned, it lies at the head of a block of the call's own; its cells, and that none is frozen. -/
theorem own_form {base : Nat} {e : TypeId} {v : Value} {n : Nat} (h : w.ownsRow base e 1 v n xs) (hn : 0 < n) :
    ∃ g c, v = .slice (some ⟨g, 0, none⟩) n c ∧ base ≤ g ∧ g < w.heap.size ∧ n ≤ c ∧ c ≤ maxLen := by
  rcases h.2 with ⟨rfl, rfl⟩ | ⟨g, cap, cur, rfl, hb, hh, hnc, hm, hs, ht⟩
  · omega
  · exact ⟨g, cap, rfl, hb, (h.lt g rfl).2, hnc, hm⟩
theorem rd_of_own' {base : Nat} {e : TypeId} {A : Option Addr} {c n : Nat} (h : w.ownsRow base e 1 (.slice A n c) n xs) : Rd w w.heap.size A xs := by
  obtain ⟨A', c', he, _, _, _, hr⟩ := rd_of_own h
  injection he with h1 h2 h3
  subst h1
  exact hr
theorem own_cell {base : Nat} {e : TypeId} {g c n : Nat} (h : w.ownsRow base e 1 (.slice (some ⟨g, 0, none⟩) n c) n xs) (j : Nat) (hj : j < xs.length) : w.cell? ⟨g, j, none⟩ = some xs[j] := by
  rw [h.cellAt j (by have := h.1; omega)]; exact List.getElem?_eq_getElem hj
end

/-- append onto a row of the call's own; what is appended: any slice that reads as a list, nil or not. -/
theorem wpList_append_rd {P : Program} {w : World} {ops : Array Oper} {rest : List Oper} {o : Oper} {a : Act} {Q : Exit → Act → World → Prop} (hgd : o.guard = none) (s x : Operand) (t : TypeId)
    (ho : o.op = .call { callee := .builtin .append, args := #[s, x], argTypes := #[t, t] })
    (base : Nat) (e : TypeId) (i : TypeInfo) (z : Value) (bytes : Nat) (ht : P.underlying t = some (.slice e)) (hi : P.info? e = some i) (hz : i.zero = some z)
    (hsize : i.size = 1) (hby : i.bytes = bytes) (hzs : z.cells.size = 1)
    (v : Value) (n : Nat) (xs : List Value) (hs : a.eval s = v) (hown : w.ownsRow base e 1 v n xs)
    (B : Nat) (A : Option Addr) (m c : Nat) (news : List Value) (hx : a.eval x = .slice A m c) (hm : news.length = m) (hc : A = none → c = 0) (hr : Rd w B A news) (h1 : ∀ u ∈ news, u.oneCell' = true)
    (h63 : n + m ≤ maxLen) (hbytes : (n + m) * bytes ≤ 140737488355328) (hbase : base ≤ w.heap.size)
    (h : ∀ v' w', w'.ownsRow base e 1 v' (n + m) (xs ++ news) → w.grownBy w' v.ownBlock → (v'.ownBlock = v.ownBlock ∨ v'.ownBlock = some w.heap.size) → wpList P ops Q rest (a.put o.dst v') w') :
    wpList P ops Q (o :: rest) a w := by
  subst hm
  rcases A with _ | ad
  · have hn : news = [] := by
      rcases hr with h | ⟨ad, h, _⟩
      · exact h
      · cases h
    subst hn
    have := hc rfl
    subst this
    exact wpList_append_own_none hgd s x t ho base e i 1 ht hi v n xs hs hown hx (h v w (by simpa using hown) (World.grownBy.refl w _) (.inl rfl))
  · refine wpList_append_own_at w hgd s x t ho base e i z 1 bytes ht hi hz hsize hby hzs (by omega) v n xs hs hown ad news.length c news hx (by omega) ?_ h1 h63 hbytes hbase (fun v' w' g1 g2 _ g4 => h v' w' g1 g2 g4)
    intro j u hj
    rcases hr with h | ⟨ad', h', _, hcell⟩
    · subst h; simp at hj
    · cases h'; exact hcell j u hj

/-- a copy: append onto an empty literal that was made just now. -/
theorem wpList_copy_rd {P : Program} {w : World} {ops : Array Oper} {rest : List Oper} {o : Oper} {a : Act} {Q : Exit → Act → World → Prop} (hgd : o.guard = none) (s x : Operand) (t : TypeId)
    (ho : o.op = .call { callee := .builtin .append, args := #[s, x], argTypes := #[t, t] })
    (e : TypeId) (i : TypeInfo) (z : Value) (bytes : Nat) (ht : P.underlying t = some (.slice e)) (hi : P.info? e = some i) (hz : i.zero = some z)
    (hsize : i.size = 1) (hby : i.bytes = bytes) (hzs : z.cells.size = 1) (hs : a.eval s = .slice (some ⟨w.heap.size, 0, none⟩) 0 0)
    (B : Nat) (A : Option Addr) (m c : Nat) (news : List Value) (hx : a.eval x = .slice A m c) (hm : news.length = m) (hc : A = none → c = 0) (hr : Rd w B A news) (hB : B ≤ w.heap.size) (h1 : ∀ u ∈ news, u.oneCell' = true)
    (h63 : m ≤ maxLen) (hbytes : m * bytes ≤ 140737488355328)
    (h : ∀ v' w', w'.ownsRow w.heap.size e 1 v' m news → Below w.heap.size w w' → wpList P ops Q rest (a.put o.dst v') w') :
    wpList P ops Q (o :: rest) a (w.alloc (.cells #[] e)) := by
  refine wpList_append_rd hgd s x t ho w.heap.size e i z bytes ht hi hz hsize hby hzs _ 0 [] hs (World.ownsRow_made w #[] 0 (Nat.le_refl _) (by unfold maxLen; omega) (by simp)) B A m c news hx hm hc (hr.alloc hB _) h1 (by simpa using h63) (by simpa using hbytes) (by simp) ?_
  intro v' w' hown hg hat
  rw [Nat.zero_add, List.nil_append] at hown
  exact h v' w' hown (((Below.refl _ _).alloc (Nat.le_refl _) _).grown hg (by simp) (fun k hk => by simp [Value.ownBlock] at hk; omega))

/-- the same, as a step of a region that draws its order. -/
theorem step_append_rd {P : Program} {w : World} {ops : Array Oper} {o : Oper} {a : Act} {K : Act → World → Prop} {Q : Exit → Act → World → Prop} {E : Prop} (hgd : o.guard = none) (s x : Operand) (t : TypeId)
    (ho : o.op = .call { callee := .builtin .append, args := #[s, x], argTypes := #[t, t] })
    (base : Nat) (e : TypeId) (i : TypeInfo) (z : Value) (bytes : Nat) (ht : P.underlying t = some (.slice e)) (hi : P.info? e = some i) (hz : i.zero = some z)
    (hsize : i.size = 1) (hby : i.bytes = bytes) (hzs : z.cells.size = 1)
    (v : Value) (n : Nat) (xs : List Value) (hs : a.eval s = v) (hown : w.ownsRow base e 1 v n xs)
    (B : Nat) (A : Option Addr) (m c : Nat) (news : List Value) (hx : a.eval x = .slice A m c) (hm : news.length = m) (hc : A = none → c = 0) (hr : Rd w B A news) (h1 : ∀ u ∈ news, u.oneCell' = true)
    (h63 : n + m ≤ maxLen) (hbytes : (n + m) * bytes ≤ 140737488355328) (hbase : base ≤ w.heap.size)
    (h : ∀ v' w', w'.ownsRow base e 1 v' (n + m) (xs ++ news) → w.grownBy w' v.ownBlock → (v'.ownBlock = v.ownBlock ∨ v'.ownBlock = some w.heap.size) → K (a.put o.dst v') w') :
    if Region.wanted o (yielded ops a.tmps) = true then Oper.wp P o a w K Q else E := by
  have hw : Region.wanted o (yielded ops a.tmps) = true := by simp [Region.wanted, hgd]
  rw [if_pos hw]
  subst hm
  rcases A with _ | ad
  · have hn : news = [] := by
      rcases hr with h | ⟨ad, h, _⟩
      · exact h
      · cases h
    subst hn
    have := hc rfl
    subst this
    have hrun := run_append_owned_none (P := P) (w := w) base t o.type e i 1 ht hi v n xs hown
    unfold Oper.wp
    simp [execOp, ho, resolve, invoke, builtin, hs, hx, hrun, Result.andThen]
    exact h v w (by simpa using hown) (World.grownBy.refl w _) (.inl rfl)
  · obtain ⟨v', w', hrun, h2, h3, _, h5⟩ := run_append_own_at (P := P) w base t o.type e i z 1 bytes ht hi hz hsize hby hzs (by omega) v n xs hown ad news.length c news (by omega) (by
      intro j u hj
      rcases hr with h | ⟨ad', h', _, hcell⟩
      · subst h; simp at hj
      · cases h'; exact hcell j u hj) h1 h63 hbytes hbase
    unfold Oper.wp execOp
    simp only [ho, resolve, invoke, builtin, Sem.run_bind, Sem.run_pure, Result.andThen_ok, List.map_toArray, List.map_cons, List.map_nil, hs, hx, hrun]
    exact h v' w' h2 h3 h5

/-- a byte as a value. -/
def bv (b : UInt8) : Value := .int .u8 (b.toNat : Int)
theorem bv_one (l : List UInt8) : ∀ u ∈ l.map bv, u.oneCell' = true := by
  intro u hu
  obtain ⟨b, _, rfl⟩ := List.mem_map.1 hu
  rfl
/-- the slice at A reads as these bytes, below block B. -/
def Bs (w : World) (B : Nat) (A : Option Addr) (l : List UInt8) : Prop :=
  l = [] ∨ ∃ ad, A = some ad ∧ ad.block < B ∧ ∀ (j : Nat) (b : UInt8), l[j]? = some b → w.cell? (ad.add j) = some (.int .u8 (b.toNat : Int))
theorem Bs.drewN {w : World} {B : Nat} {A : Option Addr} {l : List UInt8} (h : Bs w B A l) (n : Nat) : Bs (w.drewN n) B A l := h
theorem Bs.below {w w' : World} {B : Nat} {A : Option Addr} {l : List UInt8} (h : Bs w B A l) (hb : Below B w w') : Bs w' B A l := by
  rcases h with h | ⟨ad, e, hlt, hc⟩
  · exact .inl h
  · exact .inr ⟨ad, e, hlt, fun j b hj => (hb.cell (by rw [block_add]; exact hlt)).trans (hc j b hj)⟩
theorem Bs.rd {w : World} {B : Nat} {A : Option Addr} {l : List UInt8} (h : Bs w B A l) : Rd w B A (l.map bv) := by
  rcases h with h | ⟨ad, e, hlt, hc⟩
  · exact .inl (by rw [h]; rfl)
  · refine .inr ⟨ad, e, hlt, fun j u hj => ?_⟩
    rw [List.getElem?_map, Option.map_eq_some_iff] at hj
    obtain ⟨b, hb, rfl⟩ := hj
    exact hc j b hb
theorem Rd.bs {w : World} {B : Nat} {A : Option Addr} {l : List UInt8} (h : Rd w B A (l.map bv)) : Bs w B A l := by
  rcases h with h | ⟨ad, e, hlt, hc⟩
  · exact .inl (by simpa using h)
  · exact .inr ⟨ad, e, hlt, fun j b hj => hc j _ (by rw [List.getElem?_map, hj]; rfl)⟩
theorem Bs.more {w : World} {B B' : Nat} {A : Option Addr} {l : List UInt8} (h : Bs w B A l) (hB : B ≤ B') : Bs w B' A l := by
  rcases h with h | ⟨ad, e, hlt, hc⟩
  · exact .inl h
  · exact .inr ⟨ad, e, by omega, hc⟩
theorem Bs.take {w : World} {B : Nat} {A : Option Addr} {l : List UInt8} (h : Bs w B A l) (k : Nat) : Bs w B A (l.take k) := by
  rcases h with h | ⟨ad, e, hlt, hc⟩
  · exact .inl (by rw [h]; simp)
  · exact .inr ⟨ad, e, hlt, fun j b hj => hc j b (by rw [List.getElem?_take] at hj; split at hj <;> simp_all)⟩
/-- the rest behind k, at the address that a cut 's[k:]' has. -/
theorem Bs.cut {w : World} {B : Nat} {A : Option Addr} {l : List UInt8} (h : Bs w B A l) (k cap : Nat) (hc : l.length ≤ cap) (hk : 0 < k) :
    Bs w B (if cap = k then A else A.map fun ad => { block := ad.block, off := ad.off + k }) (l.drop k) := by
  have := (h.rd).cut k cap (by simpa using hc) hk
  rw [← List.map_drop] at this
  exact this.bs
theorem Bs.at_ {w : World} {B : Nat} {A : Option Addr} {l : List UInt8} (h : Bs w B A l) {k : Nat} (hk : k < l.length) : ∃ ad, A = some ad ∧ ad.block < B ∧ w.cell? (ad.add k) = some (.int .u8 (l[k].toNat : Int)) := by
  rcases h with h | ⟨ad, rfl, hlt, hcell⟩
  · subst h; simp at hk
  · exact ⟨ad, rfl, hlt, hcell k _ (List.getElem?_eq_getElem hk)⟩
theorem Bs.nil_ {w : World} {B : Nat} {A : Option Addr} : Bs w B A [] := .inl rfl
end Go.Proofs.YtoghcefamoefpaaGreatDoor

/- The end of a law's proof: where the call returned true and nothing that was there has turned, the row's promise holds; and a slice of bytes among the arguments, opened. No condition.  -/
namespace Go.Proofs.YtoghcefamoefpaaGreatDoor
open Go.ChangeShapes Go.WideShapes Go.ChangeAt Go.RowKit

section
variable {H : Type} {enc : TypeId × Value → H} {P : Program}

theorem trodAll_stays (hl : laidOutB P = true) {W W' : World} (hb : Below W.heap.size W W') :
    ∀ {ts : List TypeId} {vs : List Value} {ds : List (DataW H)} {ps : List MemPlace}, (ts.all fun t => P.readableRec t && decide (t < P.types.size)) = true → (∀ x ∈ ps, x.block < W.heap.size) →
      DataW.TrodAll enc P W 0 (fun _ => true) true ts vs ds ps → DataW.TrodAll enc P W' 0 (fun b => decide (b < W.heap.size)) true ts vs ds ps
  | [], _, _, _, _, _, h => by
    obtain ⟨rfl, rfl, rfl⟩ := trodAll_nil h
    exact trodAll_mk0
  | t :: ts, _, _, _, hr, hlt, h => by
    obtain ⟨v, vs, d, ds, p, q, rfl, rfl, rfl, h1, h2⟩ := trodAll_cons h
    simp only [List.all_cons, Bool.and_eq_true, decide_eq_true_eq] at hr
    exact trodAll_cons_mk (Below.trod hl hr.1.1 hr.1.2 h1 hb (fun x hx => hlt x (List.mem_append_left _ hx)))
      (trodAll_stays hl hb hr.2 (fun x hx => hlt x (List.mem_append_right _ hx)) h2)

/-- a law's end: it returned true, and below the heap's old size nothing has turned. -/
theorem law_end {f : Func} {s : ChangeSpec} {apart fresh handsOn : Bool} {W W' : World} {args : Array Value} {ds gs : List (DataW H)} {before : List MemPlace} {tb : TypeId}
    (hl : laidOutB P = true) (hr : (f.params.toList.all fun t => P.readableRec t && decide (t < P.types.size)) = true) (hv : s.vars = []) (hrt : f.resultTypes = #[tb]) (htb : P.underlying tb = some .bool)
    (hs : (s.fn H (ds ++ gs)).results = [.lit (.bool true)] ∧ (s.fn H (ds ++ gs)).args = ds ∧ (s.fn H (ds ++ gs)).vars = [])
    (hW : DataW.Whole enc P f.params.toList s.vars apart W args.toList ds gs before) (hb : Below W.heap.size W W') :
    s.post enc P f apart fresh handsOn false W args (.bool true) W' := by
  have hlt : ∀ p ∈ before, p.block < W.heap.size := fun p hp => hW.lt p hp
  obtain ⟨p, q, hA, hV, hpq, _, _⟩ := id hW
  rw [hv] at hV
  obtain ⟨_, rfl⟩ := trodVars_none hV
  rw [List.append_nil] at hpq
  subst hpq
  refine ⟨ds, gs, before, [], before, [], hW, ?_, ?_, ?_, hb.frame _, fun h => by cases h⟩
  · rw [hs.1, hrt]
    exact trodAll_mk1 (shut_bool htb _)
  · rw [hs.2.1]
    exact trodAll_stays hl hb hr hlt hA
  · rw [hv, hs.2.2]
    exact rfl
/-- an argument that is a slice of bytes: nil, empty or not, it reads as a list of bytes. -/
theorem open_bytes {w : World} {base b0 : Nat} {spare : Nat → Bool} {held : Bool} {r : Reach} {t e : TypeId} {v : Value} {d : DataW H} {ps : List MemPlace} (ht : P.underlying t = some (.slice e)) (he : P.underlying e = some (.int .u8)) (hc : P.cellsOf e = 1)
    (hval : Value.okWide P w r b0 t v) (hd : DataW.Trod enc P w base spare held t v d ps) :
    ∃ (A : Option Addr) (l : List UInt8) (cp : Nat), v = .slice A l.length cp ∧ l.length ≤ cp ∧ cp ≤ 9223372036854775807 ∧ (A = none → cp = 0) ∧ Rd w w.heap.size A (l.map bv) := by
  obtain ⟨a0, len, cap, rfl⟩ := okWide_slice ht hval
  obtain ⟨fuel, hf⟩ := hd
  rcases open_ints ht he hc hf with ⟨hcs, _⟩ | ⟨a, len', cap', zs, hcs, _, hl, hm, hz, _, hcell, hwz⟩
  · simp [Value.cells] at hcs
    obtain ⟨rfl, rfl, rfl⟩ := hcs
    exact ⟨none, [], 0, rfl, by simp, by omega, fun _ => rfl, .inl rfl⟩
  · simp [Value.cells] at hcs
    obtain ⟨rfl, rfl, rfl⟩ := hcs
    have hlz : len ≤ zs.length := by rw [hz]; split <;> omega
    have hll : ((zs.take len).map fun n => UInt8.ofNat n.toNat).length = len := by simp; omega
    unfold maxLen at hm
    refine ⟨some a, (zs.take len).map fun n => UInt8.ofNat n.toNat, cap, by rw [hll], by omega, by omega, fun h => (by cases h), ?_⟩
    by_cases h0 : len = 0
    · subst h0; exact .inl (by simp)
    · have hc0 := hcell 0 (by omega)
      have hlt := World.block_lt_of_cell? w _ hc0
      rw [block_add] at hlt
      refine .inr ⟨a, rfl, hlt, fun j u hj => ?_⟩
      rw [List.getElem?_map, Option.map_eq_some_iff] at hj
      obtain ⟨b, hb, rfl⟩ := hj
      rw [List.getElem?_map, Option.map_eq_some_iff] at hb
      obtain ⟨n, hn, rfl⟩ := hb
      rw [List.getElem?_take] at hn
      split at hn
      · rename_i hjl
        have hjz : j < zs.length := by omega
        rw [List.getElem?_eq_getElem hjz] at hn
        obtain rfl := Option.some.inj hn
        rw [hcell j hjz]
        have hw := hwz zs[j] (List.getElem_mem hjz)
        simp only [Lit.wf, Bool.and_eq_true, decide_eq_true_eq] at hw
        have hw0 : 0 ≤ zs[j] ∧ zs[j] ≤ 255 := hw
        have hg : zs.getD j 0 = zs[j] := by simp [List.getD, hjz]
        unfold bv
        rw [hg, UInt8.toNat_ofNat_of_lt' (by show _ < 256; omega)]
        congr 2; omega
      · cases hn
end
end Go.Proofs.YtoghcefamoefpaaGreatDoor

/- Texts: words, numbers, addresses: plain mathematics. -/
namespace Go.Proofs.YtoghcefamoefpaaGreatDoor
set_option linter.unusedVariables false

abbrev Tx := List UInt8
/-- a text split at a sign. -/
def splitB (c : UInt8) : Tx → List Tx
  | [] => [[]]
  | x :: xs => if x == c then [] :: splitB c xs else match splitB c xs with
    | [] => [[x]]
    | h :: t => (x :: h) :: t
theorem split_ne (c : UInt8) (s : Tx) : splitB c s ≠ [] := by
  cases s with
  | nil => simp [splitB]
  | cons x xs =>
    unfold splitB
    split
    · simp
    · split <;> simp
theorem split_cons {c x : UInt8} (h : x ≠ c) (xs : Tx) : ∃ a t, splitB c xs = a :: t ∧ splitB c (x :: xs) = (x :: a) :: t := by
  cases hs : splitB c xs with
  | nil => exact absurd hs (split_ne c xs)
  | cons a t =>
    refine ⟨a, t, rfl, ?_⟩
    rw [splitB, if_neg (by simpa using h), hs]
theorem split_none {c : UInt8} : ∀ {s : Tx}, c ∉ s → splitB c s = [s]
  | [], _ => rfl
  | x :: xs, h => by
    have hx : x ≠ c := fun e => h (by simp [e])
    obtain ⟨a, t, h1, h2⟩ := split_cons hx xs
    rw [split_none (s := xs) (fun hm => h (by simp [hm]))] at h1
    injection h1 with h1 h3
    rw [h2, ← h1, ← h3]
theorem split_at {c : UInt8} (b : Tx) : ∀ {a : Tx}, c ∉ a → splitB c (a ++ c :: b) = a :: splitB c b
  | [], _ => by
    show splitB c (c :: b) = _
    rw [splitB, if_pos (by simp)]
  | x :: xs, h => by
    have hx : x ≠ c := fun e => h (by simp [e])
    obtain ⟨a, t, h1, h2⟩ := split_cons hx (xs ++ c :: b)
    rw [split_at b (a := xs) (fun hm => h (by simp [hm]))] at h1
    injection h1 with h1 h3
    show splitB c (x :: (xs ++ c :: b)) = _
    rw [h2, ← h1, ← h3]
/-- digits. -/
def natD (n : Nat) : Tx := if h : n < 10 then [UInt8.ofNat (48 + n)] else natD (n / 10) ++ [UInt8.ofNat (48 + n % 10)]
termination_by n
decreasing_by omega
def valD (s : Tx) : Nat := s.foldl (fun a d => a * 10 + (d.toNat - 48)) 0
def isD (d : UInt8) : Bool := decide (48 ≤ d.toNat) && decide (d.toNat ≤ 57)
theorem isD_iff (d : UInt8) : isD d = true ↔ 48 ≤ d.toNat ∧ d.toNat ≤ 57 := by unfold isD; rw [Bool.and_eq_true, decide_eq_true_eq, decide_eq_true_eq]
theorem dig_toNat {k : Nat} (h : k < 10) : (UInt8.ofNat (48 + k)).toNat = 48 + k := by
  rw [UInt8.toNat_ofNat']
  omega
theorem dig_isD {k : Nat} (h : k < 10) : isD (UInt8.ofNat (48 + k)) = true := by
  rw [isD_iff, dig_toNat h]
  omega
theorem natD_small {n : Nat} (h : n < 10) : natD n = [UInt8.ofNat (48 + n)] := by rw [natD, dif_pos h]
theorem natD_big {n : Nat} (h : ¬ n < 10) : natD n = natD (n / 10) ++ [UInt8.ofNat (48 + n % 10)] := by rw [natD, dif_neg h]
theorem natD_all (n : Nat) : ∀ d ∈ natD n, isD d = true := by
  induction n using Nat.strongRecOn with
  | _ n ih =>
    by_cases h : n < 10
    · rw [natD_small h]
      intro d hd
      rw [List.mem_singleton.1 hd]
      exact dig_isD h
    · rw [natD_big h]
      intro d hd
      rcases List.mem_append.1 hd with hd | hd
      · exact ih (n / 10) (by omega) d hd
      · rw [List.mem_singleton.1 hd]
        exact dig_isD (Nat.mod_lt _ (by omega))
theorem natD_ne (n : Nat) : natD n ≠ [] := by
  by_cases h : n < 10
  · rw [natD_small h]; simp
  · rw [natD_big h]; simp
theorem valD_snoc (s : Tx) (d : UInt8) : valD (s ++ [d]) = valD s * 10 + (d.toNat - 48) := by
  unfold valD
  rw [List.foldl_append]
  rfl
theorem valD_natD (n : Nat) : valD (natD n) = n := by
  induction n using Nat.strongRecOn with
  | _ n ih =>
    by_cases h : n < 10
    · rw [natD_small h]
      show 0 * 10 + ((UInt8.ofNat (48 + n)).toNat - 48) = n
      rw [dig_toNat h]
      omega
    · rw [natD_big h, valD_snoc, ih (n / 10) (by omega), dig_toNat (Nat.mod_lt _ (by omega))]
      omega
theorem natD_head {n : Nat} {d : UInt8} {t : Tx} (h : natD n = d :: t) (hd : d = 48) : t = [] := by
  induction n using Nat.strongRecOn generalizing t with
  | _ n ih =>
    by_cases hn : n < 10
    · rw [natD_small hn] at h
      injection h with _ h
      exact h.symm
    · rw [natD_big hn] at h
      cases ht : natD (n / 10) with
      | nil => exact absurd ht (natD_ne _)
      | cons d' t' =>
        rw [ht] at h
        injection h with h1 h2
        have h3 := ih (n / 10) (by omega) (t := t') (by rw [ht, h1])
        have hv := valD_natD (n / 10)
        rw [ht, h3, h1, hd] at hv
        have : valD [48] = 0 := rfl
        omega
theorem natD_len {n : Nat} : ∀ {k : Nat}, n < 10 ^ (k + 1) → (natD n).length ≤ k + 1 := by
  induction n using Nat.strongRecOn with
  | _ n ih =>
    intro k h
    by_cases hn : n < 10
    · rw [natD_small hn]
      show 1 ≤ k + 1
      omega
    · rw [natD_big hn, List.length_append]
      cases k with
      | zero => simp at h; omega
      | succ k =>
        have := ih (n / 10) (by omega) (k := k) (by rw [Nat.pow_succ] at h; omega)
        show _ + 1 ≤ _
        omega
/-- a number's text. -/
def numT (n : Int) : Tx := if n < 0 then 45 :: natD n.natAbs else natD n.natAbs
def digP (minus : Bool) (t : Tx) : Option Int :=
  if t == [] || (decide (10 < t.length) || (t.head? == some 48 && decide (1 < t.length))) then none
  else if t.all isD then (if minus then (if valD t ≤ 2147483648 then some (-(valD t : Int)) else none) else (if valD t ≤ 2147483647 then some (valD t : Int) else none)) else none
/-- a number, read. -/
def numP (s : Tx) : Option Int := match s with
  | 45 :: t => digP true t
  | _ => digP false s
theorem digP_nat {n : Nat} {minus : Bool} (h1 : n ≤ if minus then 2147483648 else 2147483647) : digP minus (natD n) = some (if minus then -(n : Int) else (n : Int)) := by
  have hl : (natD n).length ≤ 10 := natD_len (k := 9) (by cases minus <;> simp at h1 <;> omega)
  have hc : (natD n == [] || (decide (10 < (natD n).length) || ((natD n).head? == some 48 && decide (1 < (natD n).length)))) = false := by
    cases hn : natD n with
    | nil => exact absurd hn (natD_ne n)
    | cons d t =>
      rw [hn] at hl
      rw [decide_eq_false (by omega)]
      by_cases hd : d = 48
      · have ht := natD_head hn hd
        subst ht hd
        decide
      · have : ((d :: t).head? == some 48) = false := by simpa using hd
        rw [this]
        rfl
  unfold digP
  rw [hc, if_neg (by simp), if_pos (List.all_eq_true.2 (natD_all n)), valD_natD]
  cases minus
  · simp only [Bool.false_eq_true, if_false] at h1 ⊢
    rw [if_pos h1]
  · simp only [if_true] at h1 ⊢
    rw [if_pos h1]
theorem numP_num {n : Int} (h : -2147483648 ≤ n ∧ n ≤ 2147483647) : numP (numT n) = some n := by
  unfold numT
  split
  · next hn =>
    show digP true (natD n.natAbs) = _
    rw [digP_nat (by simp; omega)]
    simp
    omega
  · next hn =>
    have e : numP (natD n.natAbs) = digP false (natD n.natAbs) := by
      cases hd : natD n.natAbs with
      | nil => exact absurd hd (natD_ne _)
      | cons d t =>
        have := natD_all n.natAbs d (by rw [hd]; simp)
        rw [isD_iff] at this
        unfold numP
        split
        · next he =>
          injection he with he _
          rw [he] at this
          have q : (45 : UInt8).toNat = 45 := rfl
          omega
        · rfl
    rw [e, digP_nat (by simp; omega)]
    simp
    omega
/-- signs that a number doesn't have. -/
theorem num_mem {n : Int} {c : UInt8} (h : c ∈ numT n) : c = 45 ∨ isD c = true := by
  unfold numT at h
  split at h
  · rcases List.mem_cons.1 h with h | h
    · exact .inl h
    · exact .inr (natD_all _ _ h)
  · exact .inr (natD_all _ _ h)
theorem num_ne (n : Int) : numT n ≠ [] := by
  unfold numT
  split
  · simp
  · exact natD_ne _
theorem not_num {c : UInt8} (n : Int) (h1 : c ≠ 45) (h2 : isD c = false) : c ∉ numT n := fun h => by
  rcases num_mem h with e | e
  · exact h1 e
  · rw [h2] at e; cases e
theorem num_len {n : Int} {k : Nat} (h : n.natAbs < 10 ^ (k + 1)) : (numT n).length ≤ k + 2 := by
  unfold numT
  have := natD_len h
  split
  · show _ + 1 ≤ _; omega
  · omega
/-- an address. -/
def byteP (s : Tx) : Option Int := match numP s with
  | some n => if 0 ≤ n ∧ n ≤ 255 then some n else none
  | none => none
def addrP (s : Tx) : Option Int := match splitB 46 s with
  | [a, b, c, d] => match byteP a, byteP b, byteP c, byteP d with
    | some p, some q, some r, some t => some (((p * 256 + q) * 256 + r) * 256 + t)
    | _, _, _, _ => none
  | _ => none
def addrT (a : Int) : Tx := numT (a / 16777216) ++ 46 :: (numT (a / 65536 % 256) ++ 46 :: (numT (a / 256 % 256) ++ 46 :: numT (a % 256)))
theorem byteP_num {n : Int} (h : 0 ≤ n ∧ n ≤ 255) : byteP (numT n) = some n := by
  unfold byteP
  rw [numP_num (by omega)]
  dsimp only
  rw [if_pos h]
theorem addrP_addr {a : Int} (h : 0 ≤ a ∧ a ≤ 4294967295) : addrP (addrT a) = some a := by
  have hd : ∀ n : Int, (46 : UInt8) ∉ numT n := fun n => not_num n (by decide) (by decide)
  unfold addrP addrT
  rw [split_at _ (hd _), split_at _ (hd _), split_at _ (hd _), split_none (hd _)]
  dsimp only
  rw [byteP_num (by omega), byteP_num (by omega), byteP_num (by omega), byteP_num (by omega)]
  dsimp only
  congr 1
  omega
theorem addr_mem {a : Int} {c : UInt8} (h : c ∈ addrT a) : c = 46 ∨ c = 45 ∨ isD c = true := by
  unfold addrT at h
  rcases List.mem_append.1 h with h | h
  · exact .inr (num_mem h)
  rcases List.mem_cons.1 h with h | h
  · exact .inl h
  rcases List.mem_append.1 h with h | h
  · exact .inr (num_mem h)
  rcases List.mem_cons.1 h with h | h
  · exact .inl h
  rcases List.mem_append.1 h with h | h
  · exact .inr (num_mem h)
  rcases List.mem_cons.1 h with h | h
  · exact .inl h
  · exact .inr (num_mem h)
theorem not_addr {c : UInt8} (a : Int) (h0 : c ≠ 46) (h1 : c ≠ 45) (h2 : isD c = false) : c ∉ addrT a := fun h => by
  rcases addr_mem h with e | e | e
  · exact h0 e
  · exact h1 e
  · rw [h2] at e; cases e
/-- a net. -/
def netP (s : Tx) : Option (Int × Int) := match splitB 47 s with
  | [a, b] => match addrP a, numP b with
    | some n, some k => some (n, k)
    | _, _ => none
  | _ => none
def netT (n k : Int) : Tx := addrT n ++ 47 :: numT k
theorem netP_net {n k : Int} (hn : 0 ≤ n ∧ n ≤ 4294967295) (hk : -2147483648 ≤ k ∧ k ≤ 2147483647) : netP (netT n k) = some (n, k) := by
  unfold netP netT
  rw [split_at _ (not_addr n (by decide) (by decide) (by decide)), split_none (not_num k (by decide) (by decide))]
  dsimp only
  rw [addrP_addr hn, numP_num hk]
theorem not_net {c : UInt8} (n k : Int) (h : c ≠ 47) (h0 : c ≠ 46) (h1 : c ≠ 45) (h2 : isD c = false) : c ∉ netT n k := fun hm => by
  unfold netT at hm
  rcases List.mem_append.1 hm with hm | hm
  · exact not_addr n h0 h1 h2 hm
  rcases List.mem_cons.1 hm with hm | hm
  · exact h hm
  · exact not_num k h1 h2 hm
/-- words. -/
def wordsB (s : Tx) : List Tx := (splitB 32 s).filter (fun w => w != [])
structure WordB (w : Tx) : Prop where
  ne : w ≠ []
  no : (32 : UInt8) ∉ w
theorem words_cons {w : Tx} (h : WordB w) (s : Tx) : wordsB (w ++ 32 :: s) = w :: wordsB s := by
  unfold wordsB
  rw [split_at s h.no, List.filter_cons, if_pos (by simpa using h.ne)]
theorem words_one {w : Tx} (h : WordB w) : wordsB w = [w] := by
  unfold wordsB
  rw [split_none h.no, List.filter_cons, if_pos (by simpa using h.ne)]
  rfl
theorem words_blank (s : Tx) : wordsB (32 :: s) = wordsB s := by
  unfold wordsB
  rw [show (32 : UInt8) :: s = [] ++ 32 :: s from rfl, split_at s (by simp), List.filter_cons, if_neg (by simp)]
theorem words_nil : wordsB [] = [] := rfl
theorem num_word (n : Int) : WordB (numT n) := ⟨num_ne n, not_num n (by decide) (by decide)⟩
theorem addr_word (a : Int) : WordB (addrT a) := ⟨by
  unfold addrT
  intro e
  have := congrArg List.length e
  simp at this, not_addr a (by decide) (by decide) (by decide)⟩
theorem net_word (n k : Int) : WordB (netT n k) := ⟨by
  unfold netT
  intro e
  have := congrArg List.length e
  simp at this, not_net n k (by decide) (by decide) (by decide) (by decide)⟩
end Go.Proofs.YtoghcefamoefpaaGreatDoor

/- Routes: plain mathematics. -/
namespace Go.Proofs.YtoghcefamoefpaaGreatDoor
set_option linter.unusedVariables false

structure Rt where
  net : Int
  bits : Int
  zone : Int
  mtu : Int
abbrev rt0 : Rt := ⟨0, 0, 0, 0⟩
abbrev rtN : Rt := ⟨0, -1, 0, 0⟩
structure RngRt (r : Rt) : Prop where
  net : 0 ≤ r.net ∧ r.net ≤ 4294967295
def powR (b : Int) : Int := 2 ^ (32 - b).toNat
theorem powR_pos (b : Int) : 0 < powR b := Int.pow_pos (by decide)
def inN (addr net bits : Int) : Bool := decide (0 ≤ bits) && (decide (bits ≤ 32) && addr / powR bits == net / powR bits)
def okR (r : Rt) : Bool := (decide (0 ≤ r.bits) && decide (r.bits ≤ 32)) && ((decide (0 ≤ r.zone) && decide (r.zone ≤ 7)) && ((decide (68 ≤ r.mtu) && decide (r.mtu ≤ 65535)) && r.net % powR r.bits == 0))
def sameN (a b : Rt) : Bool := a.net == b.net && a.bits == b.bits
def atR (l : List Rt) (i : Nat) : Rt := l.getD i rt0
def newAt (l : List Rt) (i : Nat) : Bool := (List.range i).all fun k => !sameN (atR l k) (atR l i)
def okAt (l : List Rt) (i : Nat) : Bool := decide (i < 64) && (okR (atR l i) && newAt l i)
def rightR (l : List Rt) : Bool := (List.range l.length).all (okAt l)
def stepR (addr : Int) (b r : Rt) : Rt := if decide (b.bits < r.bits) && inN addr r.net r.bits then r else b
def bestR (l : List Rt) (addr : Int) : Rt := l.foldl (stepR addr) rtN
def findR (l : List Rt) (addr : Int) : Rt × Bool := if rightR l && decide (0 ≤ (bestR l addr).bits) then (bestR l addr, true) else (rt0, false)
def zoneR (l : List Rt) (addr : Int) : Int := if (findR l addr).2 then (findR l addr).1.zone else -1
theorem atR_get {l : List Rt} {i : Nat} (h : i < l.length) : atR l i = l[i] := by unfold atR; rw [List.getD_eq_getElem?_getD, List.getElem?_eq_getElem h]; rfl
theorem inN_iff (addr net bits : Int) : inN addr net bits = true ↔ 0 ≤ bits ∧ bits ≤ 32 ∧ addr / powR bits = net / powR bits := by
  unfold inN
  simp only [Bool.and_eq_true, decide_eq_true_eq, beq_iff_eq]
theorem okR_iff (r : Rt) : okR r = true ↔ (0 ≤ r.bits ∧ r.bits ≤ 32) ∧ (0 ≤ r.zone ∧ r.zone ≤ 7) ∧ (68 ≤ r.mtu ∧ r.mtu ≤ 65535) ∧ r.net % powR r.bits = 0 := by
  unfold okR
  simp only [Bool.and_eq_true, decide_eq_true_eq, beq_iff_eq]
theorem sameN_iff (a b : Rt) : sameN a b = true ↔ a.net = b.net ∧ a.bits = b.bits := by
  unfold sameN
  simp only [Bool.and_eq_true, beq_iff_eq]
structure RightR (l : List Rt) : Prop where
  few : l.length ≤ 64
  ok : ∀ r ∈ l, okR r = true
  once : l.Pairwise (fun a b => sameN a b = false)
theorem rightR_iff (l : List Rt) : rightR l = true ↔ RightR l := by
  unfold rightR
  rw [List.all_eq_true]
  constructor
  · intro h
    have h' : ∀ i, i < l.length → i < 64 ∧ okR (atR l i) = true ∧ newAt l i = true := fun i hi => by
      have := h i (List.mem_range.2 hi)
      unfold okAt at this
      simpa [Bool.and_eq_true] using this
    refine ⟨?_, fun r hr => ?_, List.pairwise_iff_getElem.2 fun i j hi hj hij => ?_⟩
    · rcases Nat.lt_or_ge 64 l.length with q | q
      · have := (h' 64 q).1; omega
      · exact q
    · obtain ⟨i, hi, rfl⟩ := List.getElem_of_mem hr
      have := (h' i hi).2.1
      rwa [atR_get hi] at this
    · have := (h' j hj).2.2
      unfold newAt at this
      rw [List.all_eq_true] at this
      have := this i (List.mem_range.2 hij)
      rw [atR_get hi, atR_get hj] at this
      simpa using this
  · rintro ⟨h1, h2, h3⟩ i hi
    rw [List.mem_range] at hi
    unfold okAt
    rw [Bool.and_eq_true, Bool.and_eq_true, decide_eq_true_eq]
    refine ⟨by omega, by rw [atR_get hi]; exact h2 _ (List.getElem_mem hi), ?_⟩
    unfold newAt
    rw [List.all_eq_true]
    intro k hk
    rw [List.mem_range] at hk
    rw [atR_get (show k < l.length by omega), atR_get hi, List.pairwise_iff_getElem.1 h3 k i (by omega) hi hk]
    rfl
/-- the best one so far. -/
structure BestR (l : List Rt) (addr : Int) (b : Rt) : Prop where
  from_ : b = rtN ∨ (b ∈ l ∧ inN addr b.net b.bits = true)
  most : ∀ r ∈ l, inN addr r.net r.bits = true → r.bits ≤ b.bits
theorem BestR.step {l : List Rt} {addr : Int} {b : Rt} (h : BestR l addr b) (r : Rt) : BestR (l ++ [r]) addr (stepR addr b r) := by
  unfold stepR
  by_cases hc : (decide (b.bits < r.bits) && inN addr r.net r.bits) = true
  · rw [if_pos hc]
    rw [Bool.and_eq_true, decide_eq_true_eq] at hc
    refine ⟨.inr ⟨by simp, hc.2⟩, fun x hx hi => ?_⟩
    rcases List.mem_append.1 hx with hx | hx
    · have := h.most x hx hi; omega
    · rw [List.mem_singleton.1 hx]; exact Int.le_refl _
  · rw [if_neg hc]
    refine ⟨h.from_.imp id (fun q => ⟨List.mem_append_left _ q.1, q.2⟩), fun x hx hi => ?_⟩
    rcases List.mem_append.1 hx with hx | hx
    · exact h.most x hx hi
    · rw [List.mem_singleton.1 hx] at hi ⊢
      rcases Int.lt_or_le b.bits r.bits with q | q
      · rw [decide_eq_true q, hi] at hc; simp at hc
      · exact q
theorem bestR_snoc (l : List Rt) (r : Rt) (addr : Int) : bestR (l ++ [r]) addr = stepR addr (bestR l addr) r := by
  unfold bestR
  rw [List.foldl_append]
  rfl
theorem bestR_is (l : List Rt) (addr : Int) : BestR l addr (bestR l addr) := by
  have : ∀ n, BestR (l.take n) addr (bestR (l.take n) addr) := fun n => by
    induction n with
    | zero => exact ⟨.inl rfl, fun r h => by cases h⟩
    | succ n ih =>
      rcases Nat.lt_or_ge n l.length with h | h
      · rw [← List.take_append_getElem h, bestR_snoc]
        exact ih.step _
      · rw [List.take_of_length_le (by omega)] at ih ⊢
        exact ih
  have h := this l.length
  rwa [List.take_length] at h
theorem in_bits {addr net bits : Int} (h : inN addr net bits = true) : 0 ≤ bits := ((inN_iff _ _ _).1 h).1
/-- what Find answers. -/
theorem find_yes {l : List Rt} {addr : Int} {r : Rt} (h : findR l addr = (r, true)) : RightR l ∧ r ∈ l ∧ inN addr r.net r.bits = true ∧ ∀ x ∈ l, inN addr x.net x.bits = true → x.bits ≤ r.bits := by
  unfold findR at h
  by_cases hc : (rightR l && decide (0 ≤ (bestR l addr).bits)) = true
  · rw [if_pos hc] at h
    injection h with h _
    rw [Bool.and_eq_true, decide_eq_true_eq] at hc
    have b := bestR_is l addr
    rw [h] at b hc
    have hm := b.from_.resolve_left (fun e => by rw [e] at hc; simp at hc)
    exact ⟨(rightR_iff l).1 hc.1, hm.1, hm.2, b.most⟩
  · rw [if_neg hc] at h
    cases h
theorem find_no {l : List Rt} {addr : Int} {r : Rt} (h : findR l addr = (r, false)) : r = rt0 ∧ (RightR l → ∀ x ∈ l, inN addr x.net x.bits = false) := by
  unfold findR at h
  by_cases hc : (rightR l && decide (0 ≤ (bestR l addr).bits)) = true
  · rw [if_pos hc] at h
    cases h
  · rw [if_neg hc] at h
    injection h with h _
    refine ⟨h.symm, fun hr x hx => ?_⟩
    cases hi : inN addr x.net x.bits
    · rfl
    · have h1 := (bestR_is l addr).most x hx hi
      have h2 := in_bits hi
      rw [(rightR_iff l).2 hr, decide_eq_true (show 0 ≤ (bestR l addr).bits by omega)] at hc
      simp at hc
theorem find_wrong {l : List Rt} {addr : Int} (h : ¬ RightR l) : findR l addr = (rt0, false) := by
  unfold findR
  have : rightR l = false := by
    cases hr : rightR l
    · rfl
    · exact absurd ((rightR_iff l).1 hr) h
  rw [this, if_neg (by simp)]
/-- nets of as many bits that both have an address are one. -/
theorem in_same {addr : Int} {a b : Rt} (ha : okR a = true) (hb : okR b = true) (h1 : inN addr a.net a.bits = true) (h2 : inN addr b.net b.bits = true) (e : a.bits = b.bits) : sameN a b = true := by
  rw [sameN_iff]
  refine ⟨?_, e⟩
  have q1 := ((inN_iff _ _ _).1 h1).2.2
  have q2 := ((inN_iff _ _ _).1 h2).2.2
  have m1 := ((okR_iff a).1 ha).2.2.2
  have m2 := ((okR_iff b).1 hb).2.2.2
  rw [e] at q1 m1
  have d1 := Int.mul_ediv_add_emod a.net (powR b.bits)
  have d2 := Int.mul_ediv_add_emod b.net (powR b.bits)
  rw [m1, ← q1] at d1
  rw [m2, ← q2] at d2
  omega
/-- in a right list the best one is alone. -/
theorem RightR.same {l : List Rt} (h : RightR l) {a b : Rt} (ha : a ∈ l) (hb : b ∈ l) (e : sameN a b = true) : a = b := by
  obtain ⟨i, hi, rfl⟩ := List.getElem_of_mem ha
  obtain ⟨j, hj, rfl⟩ := List.getElem_of_mem hb
  rcases Nat.lt_trichotomy i j with q | q | q
  · rw [List.pairwise_iff_getElem.1 h.once i j hi hj q] at e; cases e
  · subst q; rfl
  · have := List.pairwise_iff_getElem.1 h.once j i hj hi q
    rw [sameN_iff] at e
    rw [(sameN_iff _ _).2 ⟨e.1.symm, e.2.symm⟩] at this
    cases this
theorem find_is {l : List Rt} (h : RightR l) {addr : Int} {r : Rt} (hr : r ∈ l) (hi : inN addr r.net r.bits = true) (hm : ∀ x ∈ l, inN addr x.net x.bits = true → x.bits ≤ r.bits) : findR l addr = (r, true) := by
  cases hf : findR l addr with
  | mk x o =>
    cases o
    · have := (find_no hf).2 h r hr
      rw [hi] at this
      cases this
    · obtain ⟨_, h1, h2, h3⟩ := find_yes hf
      have h4 := hm x h1 h2
      have h5 := h3 r hr hi
      rw [h.same h1 hr (in_same (h.ok _ h1) (h.ok _ hr) h2 hi (by omega))]
theorem find_isnt {l : List Rt} {addr : Int} (hn : ∀ x ∈ l, inN addr x.net x.bits = false) : findR l addr = (rt0, false) := by
  cases hf : findR l addr with
  | mk x o =>
    cases o
    · rw [(find_no hf).1]
    · obtain ⟨_, h1, h2, _⟩ := find_yes hf
      rw [hn x h1] at h2
      cases h2
theorem RightR.perm {l l' : List Rt} (h : RightR l) (p : l'.Perm l) : RightR l' :=
  ⟨by rw [p.length_eq]; exact h.few, fun r hr => h.ok r (p.mem_iff.1 hr), (p.pairwise_iff (fun {a b} hs => by
    cases hb : sameN b a
    · rfl
    · rw [sameN_iff] at hb
      rw [(sameN_iff _ _).2 ⟨hb.1.symm, hb.2.symm⟩] at hs
      cases hs)).2 h.once⟩
/-- the order of routes doesn't matter. -/
theorem find_permR {l l' : List Rt} (h : RightR l) (p : l'.Perm l) (addr : Int) : findR l' addr = findR l addr := by
  cases hf : findR l addr with
  | mk x o =>
    cases o
    · obtain ⟨e, hn⟩ := find_no hf
      rw [e]
      exact find_isnt fun y hy => hn h y (p.mem_iff.1 hy)
    · obtain ⟨_, h1, h2, h3⟩ := find_yes hf
      exact find_is (h.perm p) (p.mem_iff.2 h1) h2 fun y hy => h3 y (p.mem_iff.1 hy)
/-- one more changes the way of no address but those in its net. -/
theorem find_more {l : List Rt} {m : Rt} (h : RightR (l ++ [m])) (addr : Int) : (findR (l ++ [m]) addr = (m, true) ∧ inN addr m.net m.bits = true) ∨ findR (l ++ [m]) addr = findR l addr := by
  have hl : RightR l := ⟨by have := h.few; rw [List.length_append] at this; omega, fun r hr => h.ok r (List.mem_append_left _ hr), (List.pairwise_append.1 h.once).1⟩
  cases hf : findR (l ++ [m]) addr with
  | mk x o =>
    cases o
    · obtain ⟨e, hn⟩ := find_no hf
      rw [e]
      exact .inr (find_isnt fun y hy => hn h y (List.mem_append_left _ hy)).symm
    · obtain ⟨_, h1, h2, h3⟩ := find_yes hf
      rcases List.mem_append.1 h1 with h1 | h1
      · exact .inr (find_is hl h1 h2 fun y hy => h3 y (List.mem_append_left _ hy)).symm
      · rw [List.mem_singleton.1 h1] at h2 ⊢
        exact .inl ⟨rfl, h2⟩
theorem rightR_more {l : List Rt} {m : Rt} (h : RightR (l ++ [m])) : RightR l := ⟨by have := h.few; rw [List.length_append] at this; omega, fun r hr => h.ok r (List.mem_append_left _ hr), (List.pairwise_append.1 h.once).1⟩
/-! nets. -/
theorem powR_32 : powR 32 = 1 := rfl
theorem powR_0 : powR 0 = 4294967296 := by decide
theorem in_none {addr net : Int} (h1 : 0 ≤ addr ∧ addr ≤ 4294967295) (h2 : 0 ≤ net ∧ net ≤ 4294967295) : inN addr net 0 = true := by
  rw [inN_iff, powR_0]
  omega
theorem in_all (addr net : Int) : inN addr net 32 = (addr == net) := by
  unfold inN
  rw [powR_32, Int.ediv_one, Int.ediv_one]
  rfl
theorem in_33 (addr net : Int) : inN addr net 33 = false := by
  unfold inN
  rfl
theorem in_turn (addr net bits : Int) : inN net addr bits = inN addr net bits := by
  rw [Bool.eq_iff_iff, inN_iff, inN_iff]
  constructor
  · rintro ⟨a, b, c⟩; exact ⟨a, b, c.symm⟩
  · rintro ⟨a, b, c⟩; exact ⟨a, b, c.symm⟩
theorem in_fewer {addr net n m : Int} (h : inN addr net n = true) (h0 : 0 ≤ m) (hm : m ≤ n) : inN addr net m = true := by
  rw [inN_iff] at h ⊢
  obtain ⟨a, b, c⟩ := h
  refine ⟨h0, by omega, ?_⟩
  have e : powR m = powR n * 2 ^ (n - m).toNat := by
    unfold powR
    rw [← Int.pow_add]
    congr 1
    omega
  rw [e, ← Int.ediv_ediv_of_nonneg (Int.le_of_lt (powR_pos n)), ← Int.ediv_ediv_of_nonneg (Int.le_of_lt (powR_pos n)), c]
end Go.Proofs.YtoghcefamoefpaaGreatDoor

/- A tuple: its numbers. -/
namespace Go.Proofs.YtoghcefamoefpaaGreatDoor
set_option linter.unusedVariables false

structure Tp where
  proto : Int
  src : Int
  sport : Int
  dst : Int
  dport : Int
abbrev tp0 : Tp := ⟨0, 0, 0, 0, 0⟩
def sameTp (a b : Tp) : Bool := a.proto == b.proto && (a.src == b.src && (a.sport == b.sport && (a.dst == b.dst && a.dport == b.dport)))
theorem sameTp_iff (a b : Tp) : sameTp a b = true ↔ a = b := by cases a; cases b; simp [sameTp]
/-- what a tuple's numbers may be in memory. -/
structure RngTp (t : Tp) : Prop where
  s0 : 0 ≤ t.src
  s1 : t.src ≤ 4294967295
  d0 : 0 ≤ t.dst
  d1 : t.dst ≤ 4294967295
def turnT (t : Tp) : Tp := ⟨t.proto, t.dst, t.dport, t.src, t.sport⟩
theorem turn_turn (t : Tp) : turnT (turnT t) = t := rfl
def inT (n m : Int) : Bool := decide (0 ≤ n) && decide (n < m)
def rightT (t : Tp) : Bool := inT t.proto 256 && (inT t.sport 65536 && inT t.dport 65536)
theorem rightT_iff (t : Tp) : rightT t = true ↔ (0 ≤ t.proto ∧ t.proto < 256) ∧ (0 ≤ t.sport ∧ t.sport < 65536) ∧ (0 ≤ t.dport ∧ t.dport < 65536) := by simp [rightT, inT]
theorem right_turn (t : Tp) : rightT (turnT t) = rightT t := by
  rw [Bool.eq_iff_iff, rightT_iff, rightT_iff]
  unfold turnT
  dsimp only
  omega
theorem turn_same (t : Tp) : turnT t = t ↔ t.src = t.dst ∧ t.sport = t.dport := by
  cases t
  simp [turnT]
  omega
end Go.Proofs.YtoghcefamoefpaaGreatDoor

/- Rules: plain mathematics. -/
namespace Go.Proofs.YtoghcefamoefpaaGreatDoor
set_option linter.unusedVariables false

structure Ru where
  fr : Int
  «to» : Int
  proto : Int
  src : Int
  dst : Int
  sbits : Int
  dbits : Int
  lo : Int
  hi : Int
  act : Int
abbrev ru0 : Ru := ⟨0, 0, 0, 0, 0, 0, 0, 0, 0, 0⟩
structure RngRu (r : Ru) : Prop where
  src : 0 ≤ r.src ∧ r.src ≤ 4294967295
  dst : 0 ≤ r.dst ∧ r.dst ≤ 4294967295
structure OkU (r : Ru) : Prop where
  fr : -1 ≤ r.fr ∧ r.fr ≤ 7
  «to» : -1 ≤ r.to ∧ r.to ≤ 7
  proto : 0 ≤ r.proto ∧ r.proto ≤ 255
  sbits : 0 ≤ r.sbits ∧ r.sbits ≤ 32
  dbits : 0 ≤ r.dbits ∧ r.dbits ≤ 32
  lo : 0 ≤ r.lo ∧ r.lo ≤ 65535
  hi : 0 ≤ r.hi ∧ r.hi ≤ 65535
  span : r.lo ≤ r.hi
  act : r.act = 1 ∨ r.act = 2
def btw (a x b : Int) : Bool := decide (a ≤ x) && decide (x ≤ b)
theorem btw_iff (a x b : Int) : btw a x b = true ↔ a ≤ x ∧ x ≤ b := by unfold btw; rw [Bool.and_eq_true, decide_eq_true_eq, decide_eq_true_eq]
def okU (r : Ru) : Bool := btw (-1) r.fr 7 && (btw (-1) r.to 7 && (btw 0 r.proto 255 && (btw 0 r.sbits 32 && (btw 0 r.dbits 32 && (btw 0 r.lo 65535 && (btw 0 r.hi 65535 && (decide (r.lo ≤ r.hi) && (r.act == 1 || r.act == 2))))))))
theorem okU_iff (r : Ru) : okU r = true ↔ OkU r := by
  unfold okU
  simp only [Bool.and_eq_true, btw_iff, decide_eq_true_eq, Bool.or_eq_true, beq_iff_eq]
  exact ⟨fun ⟨a, b, c, d, e, f, g, h, i⟩ => ⟨a, b, c, d, e, f, g, h, i⟩, fun ⟨a, b, c, d, e, f, g, h, i⟩ => ⟨a, b, c, d, e, f, g, h, i⟩⟩
theorem okU_not {r : Ru} {q : Bool} (hq : okU r = q) (h : ¬ OkU r) : q = false := by
  cases q
  · rfl
  · exact absurd ((okU_iff r).1 hq) h
def rightU (l : List Ru) : Bool := decide (l.length ≤ 64) && l.all okU
theorem rightU_iff (l : List Ru) : rightU l = true ↔ l.length ≤ 64 ∧ ∀ r ∈ l, okU r = true := by
  unfold rightU
  rw [Bool.and_eq_true, decide_eq_true_eq, List.all_eq_true]
/-- its zones fit. -/
def zoneU (r : Ru) (f t : Int) : Bool := (r.fr == -1 || r.fr == f) && (r.to == -1 || r.to == t)
def portU (r : Ru) (tp : Tp) : Bool := (r.proto == 0 || r.proto == tp.proto) && btw r.lo tp.dport r.hi
def fitsU (r : Ru) (f t : Int) (tp : Tp) : Bool := zoneU r f t && (portU r tp && (inN tp.src r.src r.sbits && inN tp.dst r.dst r.dbits))
def firstU (p : Ru → Bool) : List Ru → Int → Int × Int
  | [], _ => (1, -1)
  | r :: rs, k => if p r then (r.act, k) else firstU p rs (k + 1)
def askU (l : List Ru) (f t : Int) (tp : Tp) : Int × Int := if rightU l then firstU (fitsU · f t tp) l 0 else (1, -1)
def atU (l : List Ru) (i : Nat) : Ru := l.getD i ru0
theorem atU_get {l : List Ru} {i : Nat} (h : i < l.length) : atU l i = l[i] := by unfold atU; rw [List.getD_eq_getElem?_getD, List.getElem?_eq_getElem h]; rfl
theorem first_at (p : Ru → Bool) : ∀ (l : List Ru) (k : Int) (i : Nat), i < l.length → p (atU l i) = true → (∀ j, j < i → p (atU l j) = false) → firstU p l k = ((atU l i).act, k + i)
  | [], k, i, h, _, _ => by simp at h
  | r :: rs, k, 0, _, h, _ => by
    have h' : p r = true := h
    unfold firstU
    rw [if_pos h']
    show (r.act, k) = (r.act, k + ((0 : Nat) : Int))
    simp
  | r :: rs, k, i + 1, hi, h, hn => by
    have h0 : p r = false := hn 0 (by omega)
    unfold firstU
    rw [if_neg (by rw [h0]; simp), first_at p rs (k + 1) i (by simpa using hi) h (fun j hj => hn (j + 1) (by omega))]
    show ((atU rs i).act, _) = ((atU rs i).act, _)
    rw [show k + 1 + (i : Int) = k + ((i + 1 : Nat) : Int) by omega]
theorem first_no (p : Ru → Bool) : ∀ (l : List Ru) (k : Int), (∀ j, j < l.length → p (atU l j) = false) → firstU p l k = (1, -1)
  | [], _, _ => rfl
  | r :: rs, k, h => by
    have h0 : p r = false := h 0 (by simp)
    unfold firstU
    rw [if_neg (by rw [h0]; simp)]
    exact first_no p rs (k + 1) (fun j hj => h (j + 1) (by simpa using hj))
/-- what a list says, with its place. -/
theorem first_cases (p : Ru → Bool) (l : List Ru) : (∃ i, i < l.length ∧ p (atU l i) = true ∧ (∀ j, j < i → p (atU l j) = false) ∧ ∀ k, firstU p l k = ((atU l i).act, k + i)) ∨ ((∀ j, j < l.length → p (atU l j) = false) ∧ ∀ k, firstU p l k = (1, -1)) := by
  by_cases h : ∃ i, i < l.length ∧ p (atU l i) = true
  · left
    obtain ⟨i, hi, hp, hm⟩ : ∃ i, i < l.length ∧ p (atU l i) = true ∧ ∀ j, j < i → p (atU l j) = false := by
      obtain ⟨n, h1, h2⟩ := h
      induction n using Nat.strongRecOn with
      | _ n ih =>
        by_cases hx : ∃ j, j < n ∧ p (atU l j) = true
        · obtain ⟨j, hj, hp⟩ := hx
          exact ih j hj (by omega) hp
        · refine ⟨n, h1, h2, fun j hj => ?_⟩
          cases hp : p (atU l j)
          · rfl
          · exact absurd ⟨j, hj, hp⟩ hx
    exact ⟨i, hi, hp, hm, fun k => first_at p l k i hi hp hm⟩
  · right
    have hn : ∀ j, j < l.length → p (atU l j) = false := fun j hj => by
      cases hp : p (atU l j)
      · rfl
      · exact absurd ⟨j, hj, hp⟩ h
    exact ⟨hn, fun k => first_no p l k hn⟩
theorem ask_at {l : List Ru} {f t : Int} {tp : Tp} (hr : rightU l = true) {i : Nat} (hi : i < l.length) (h : fitsU (atU l i) f t tp = true) (hn : ∀ j, j < i → fitsU (atU l j) f t tp = false) : askU l f t tp = ((atU l i).act, (i : Int)) := by
  unfold askU
  rw [if_pos hr, first_at _ l 0 i hi h hn, Int.zero_add]
theorem ask_no {l : List Ru} {f t : Int} {tp : Tp} (hn : ∀ j, j < l.length → fitsU (atU l j) f t tp = false) : askU l f t tp = (1, -1) := by
  unfold askU
  rw [first_no _ l 0 hn]
  simp
theorem ask_wrong {l : List Ru} {f t : Int} {tp : Tp} (h : rightU l = false) : askU l f t tp = (1, -1) := by
  unfold askU
  rw [h, if_neg (by simp)]
theorem right_behind {l : List Ru} {r : Ru} (h : rightU (l ++ [r]) = true) : rightU l = true ∧ rightU (r :: l) = true := by
  rw [rightU_iff] at h
  rw [List.length_append, List.length_singleton] at h
  refine ⟨(rightU_iff l).2 ⟨by omega, fun x hx => h.2 x (List.mem_append_left _ hx)⟩, (rightU_iff _).2 ⟨by rw [List.length_cons]; exact h.1, fun x hx => ?_⟩⟩
  rcases List.mem_cons.1 hx with rfl | hx
  · exact h.2 x (by simp)
  · exact h.2 x (List.mem_append_left _ hx)
theorem atU_left {l k : List Ru} {i : Nat} (h : i < l.length) : atU (l ++ k) i = atU l i := by
  unfold atU
  rw [List.getD_eq_getElem?_getD, List.getD_eq_getElem?_getD, List.getElem?_append_left h]
theorem atU_last (l : List Ru) (r : Ru) : atU (l ++ [r]) l.length = r := by
  unfold atU
  rw [List.getD_eq_getElem?_getD, List.getElem?_append_right (Nat.le_refl _), Nat.sub_self]
  rfl
/-- behind all rules, and ahead of them. -/
structure BehindU (l : List Ru) (r : Ru) (f t : Int) (tp : Tp) (a b c : Int × Int) (fits : Bool) : Prop where
  left : 0 ≤ a.2 → b = a
  right : a.2 < 0 → a = (1, -1) ∧ (decide (0 ≤ b.2) = fits)
  yes : fits = true → c = (r.act, 0)
  no : fits = false → c.1 = a.1 ∧ ((0 ≤ a.2 ∧ c.2 = a.2 + 1) ∨ (a.2 = -1 ∧ c.2 = -1))
theorem behindU {l : List Ru} {r : Ru} {f t : Int} {tp : Tp} (h : rightU (l ++ [r]) = true) : BehindU l r f t tp (askU l f t tp) (askU (l ++ [r]) f t tp) (askU (r :: l) f t tp) (fitsU r f t tp) := by
  obtain ⟨h1, h2⟩ := right_behind h
  have hc0 : fitsU r f t tp = true → askU (r :: l) f t tp = (r.act, 0) := fun e => by
    unfold askU firstU
    rw [if_pos h2, if_pos e]
  have hc1 : fitsU r f t tp = false → askU (r :: l) f t tp = firstU (fitsU · f t tp) l (0 + 1) := fun e => by
    unfold askU
    rw [if_pos h2]
    show (if fitsU r f t tp then _ else _) = _
    rw [e, if_neg (by simp)]
  rcases first_cases (fitsU · f t tp) l with ⟨i, hi, hp, hm, hf⟩ | ⟨hn, hf⟩
  · have ha : askU l f t tp = ((atU l i).act, (i : Int)) := ask_at h1 hi hp hm
    have hb : askU (l ++ [r]) f t tp = ((atU l i).act, (i : Int)) := by
      rw [← atU_left (k := [r]) hi]
      exact ask_at h (by rw [List.length_append]; omega) (by rw [atU_left hi]; exact hp) (fun j hj => by rw [atU_left (by omega)]; exact hm j hj)
    rw [ha, hb]
    refine ⟨fun _ => rfl, fun e => ?_, hc0, fun e => ?_⟩
    · have e' : (i : Int) < 0 := e
      omega
    · rw [hc1 e, hf]
      exact ⟨rfl, .inl ⟨by show (0 : Int) ≤ i; omega, by show 0 + 1 + (i : Int) = i + 1; omega⟩⟩
  · have ha : askU l f t tp = (1, -1) := ask_no hn
    rw [ha]
    refine ⟨fun e => ?_, fun _ => ⟨rfl, ?_⟩, hc0, fun e => ?_⟩
    · have e' : (0 : Int) ≤ -1 := e
      omega
    · cases hfit : fitsU r f t tp
      · rw [ask_no (l := l ++ [r]) (fun j hj => by
          rw [List.length_append, List.length_singleton] at hj
          rcases Nat.lt_or_ge j l.length with q | q
          · rw [atU_left q]; exact hn j q
          · have : j = l.length := by omega
            rw [this, atU_last]; exact hfit)]
        rfl
      · rw [ask_at h (i := l.length) (by rw [List.length_append]; simp) (by rw [atU_last]; exact hfit) (fun j hj => by rw [atU_left hj]; exact hn j hj)]
        show decide ((0 : Int) ≤ (l.length : Int)) = true
        rw [decide_eq_true_eq]
        omega
    · rw [hc1 e, hf]
      exact ⟨rfl, .inr ⟨rfl, rfl⟩⟩
/-- the places of the rules whose zones fit. -/
def placesU (l : List Ru) (f t : Int) (k : Nat) : List Nat := (List.range k).filter fun i => zoneU (atU l i) f t
def pairsU (l : List Ru) (f t : Int) : List Nat := if rightU l then placesU l f t l.length else []
theorem places_yes {l : List Ru} {f t : Int} {k : Nat} (h : zoneU (atU l k) f t = true) : placesU l f t (k + 1) = placesU l f t k ++ [k] := by
  unfold placesU
  rw [List.range_succ, List.filter_append]
  simp [h]
theorem places_no {l : List Ru} {f t : Int} {k : Nat} (h : zoneU (atU l k) f t = false) : placesU l f t (k + 1) = placesU l f t k := by
  unfold placesU
  rw [List.range_succ, List.filter_append]
  simp [h]
theorem places_len (l : List Ru) (f t : Int) (k : Nat) : (placesU l f t k).length ≤ k := by
  unfold placesU
  have := List.length_filter_le (fun i => zoneU (atU l i) f t) (List.range k)
  simpa using this
theorem places_pre (l : List Ru) (f t : Int) {k m : Nat} (h : k ≤ m) : ∃ s, placesU l f t m = placesU l f t k ++ s := by
  unfold placesU
  obtain ⟨d, rfl⟩ := Nat.exists_eq_add_of_le h
  rw [List.range_add, List.filter_append]
  exact ⟨_, rfl⟩
/-- any zones, protocols, nets, ports. -/
theorem fits_any {f t : Int} {tp : Tp} (hr : RngTp tp) (p a : Int) : fitsU ⟨-1, -1, p, 0, 0, 0, 0, 0, 65535, a⟩ f t tp = ((p == 0 || p == tp.proto) && btw 0 tp.dport 65535) := by
  unfold fitsU zoneU portU
  dsimp only
  rw [in_none ⟨hr.s0, hr.s1⟩ (by decide), in_none ⟨hr.d0, hr.d1⟩ (by decide)]
  simp
end Go.Proofs.YtoghcefamoefpaaGreatDoor

/- Configurations: plain mathematics: what may be, what a line says, what is shown. -/
namespace Go.Proofs.YtoghcefamoefpaaGreatDoor
set_option linter.unusedVariables false

structure Fw where
  proto : Int
  port : Int
  addr : Int
  «to» : Int
  proxy : Bool
structure Cf where
  routes : List Rt
  rules : List Ru
  outside : Int
  pub : Int
  lo : Int
  hi : Int
  fwds : List Fw
  tcp : Int
  other : Int
  budget : Int
abbrev cf0 : Cf := ⟨[], [], 0, 0, 0, 0, [], 0, 0, 0⟩
abbrev cfD : Cf := ⟨[], [], 0, 0, 1024, 65535, [], 1000, 100, 10⟩
def fw0 : Fw := ⟨0, 0, 0, 0, false⟩
def atF (l : List Fw) (i : Nat) : Fw := l.getD i fw0
theorem atF_get {l : List Fw} {i : Nat} (h : i < l.length) : atF l i = l[i] := by unfold atF; rw [List.getD_eq_getElem?_getD, List.getElem?_eq_getElem h]; rfl
/-- a forward that may be. -/
structure OkF (lo hi : Int) (f : Fw) : Prop where
  proto : f.proto = 6 ∨ f.proto = 17
  proxy : f.proxy = true → f.proto = 6
  port : 1 ≤ f.port ∧ f.port ≤ 65535
  «to» : 1 ≤ f.to ∧ f.to ≤ 65535
  out : ¬ (lo ≤ f.port ∧ f.port ≤ hi)
def okF (lo hi : Int) (f : Fw) : Bool := (f.proto == 6 || f.proto == 17) && ((!f.proxy || f.proto == 6) && (btw 1 f.port 65535 && (btw 1 f.to 65535 && !btw lo f.port hi)))
theorem okF_iff (lo hi : Int) (f : Fw) : okF lo hi f = true ↔ OkF lo hi f := by
  unfold okF
  simp only [Bool.and_eq_true, Bool.or_eq_true, beq_iff_eq, btw_iff, Bool.not_eq_true']
  constructor
  · rintro ⟨a, b, c, d, e⟩
    refine ⟨a, fun hp => ?_, c, d, fun hb => ?_⟩
    · rw [hp] at b
      exact b.resolve_left (by simp)
    · rw [(btw_iff _ _ _).2 hb] at e
      cases e
  · rintro ⟨a, b, c, d, e⟩
    refine ⟨a, ?_, c, d, ?_⟩
    · cases hp : f.proxy
      · exact .inl rfl
      · exact .inr (b hp)
    · cases hb : btw lo f.port hi
      · rfl
      · exact absurd ((btw_iff _ _ _).1 hb) e
def sameFP (a b : Fw) : Bool := a.proto == b.proto && a.port == b.port
theorem sameFP_iff (a b : Fw) : sameFP a b = true ↔ a.proto = b.proto ∧ a.port = b.port := by
  unfold sameFP
  rw [Bool.and_eq_true, beq_iff_eq, beq_iff_eq]
structure RightF (lo hi : Int) (l : List Fw) : Prop where
  few : l.length ≤ 32
  ok : ∀ f ∈ l, OkF lo hi f
  once : l.Pairwise (fun a b => sameFP a b = false)
def newF (l : List Fw) (i : Nat) : Bool := (List.range i).all fun k => !sameFP (atF l k) (atF l i)
def okAtF (lo hi : Int) (l : List Fw) (i : Nat) : Bool := decide (i < 32) && (okF lo hi (atF l i) && newF l i)
def rightFw (lo hi : Int) (l : List Fw) : Bool := (List.range l.length).all (okAtF lo hi l)
theorem rightFw_iff (lo hi : Int) (l : List Fw) : rightFw lo hi l = true ↔ RightF lo hi l := by
  unfold rightFw
  rw [List.all_eq_true]
  constructor
  · intro h
    have h' : ∀ i, i < l.length → i < 32 ∧ okF lo hi (atF l i) = true ∧ newF l i = true := fun i hi => by
      have := h i (List.mem_range.2 hi)
      unfold okAtF at this
      simpa [Bool.and_eq_true] using this
    refine ⟨?_, fun r hr => ?_, List.pairwise_iff_getElem.2 fun i j hi hj hij => ?_⟩
    · rcases Nat.lt_or_ge 32 l.length with q | q
      · have := (h' 32 q).1; omega
      · exact q
    · obtain ⟨i, hi, rfl⟩ := List.getElem_of_mem hr
      have := (h' i hi).2.1
      rw [atF_get hi] at this
      exact (okF_iff _ _ _).1 this
    · have := (h' j hj).2.2
      unfold newF at this
      rw [List.all_eq_true] at this
      have := this i (List.mem_range.2 hij)
      rw [atF_get hi, atF_get hj] at this
      simpa using this
  · rintro ⟨h1, h2, h3⟩ i hi
    rw [List.mem_range] at hi
    unfold okAtF
    rw [Bool.and_eq_true, Bool.and_eq_true, decide_eq_true_eq]
    refine ⟨by omega, by rw [atF_get hi, okF_iff]; exact h2 _ (List.getElem_mem hi), ?_⟩
    unfold newF
    rw [List.all_eq_true]
    intro k hk
    rw [List.mem_range] at hk
    rw [atF_get (show k < l.length by omega), atF_get hi, List.pairwise_iff_getElem.1 h3 k i (by omega) hi hk]
    rfl
/-- a configuration that may be. -/
structure RightC (c : Cf) : Prop where
  routes : rightR c.routes = true
  rules : rightU c.rules = true
  outside : 0 ≤ c.outside ∧ c.outside ≤ 7
  lo : 1 ≤ c.lo
  span : c.lo ≤ c.hi
  hi : c.hi ≤ 65535
  tcp : 1 ≤ c.tcp ∧ c.tcp ≤ 1048576
  other : 1 ≤ c.other ∧ c.other ≤ 1048576
  budget : 0 ≤ c.budget ∧ c.budget ≤ 1000
  fwds : RightF c.lo c.hi c.fwds
def rightCf (c : Cf) : Bool := rightR c.routes && (rightU c.rules && (btw 0 c.outside 7 && (decide (1 ≤ c.lo) && (decide (c.lo ≤ c.hi) && (decide (c.hi ≤ 65535) && (btw 1 c.tcp 1048576 && (btw 1 c.other 1048576 && (btw 0 c.budget 1000 && rightFw c.lo c.hi c.fwds))))))))
theorem rightCf_iff (c : Cf) : rightCf c = true ↔ RightC c := by
  unfold rightCf
  simp only [Bool.and_eq_true, btw_iff, decide_eq_true_eq, rightFw_iff]
  exact ⟨fun ⟨a, b, c, d, e, f, g, h, i, j⟩ => ⟨a, b, c, d, e, f, g, h, i, j⟩, fun ⟨a, b, c, d, e, f, g, h, i, j⟩ => ⟨a, b, c, d, e, f, g, h, i, j⟩⟩
/-- what its numbers are in memory. -/
structure RngC (c : Cf) : Prop where
  routes : ∀ r ∈ c.routes, RngRt r
  rules : ∀ r ∈ c.rules, RngRu r
  pub : 0 ≤ c.pub ∧ c.pub ≤ 4294967295
  fwds : ∀ f ∈ c.fwds, 0 ≤ f.addr ∧ f.addr ≤ 4294967295
/-! what lines say. -/
abbrev kRoute : Tx := [114, 111, 117, 116, 101]
abbrev kRule : Tx := [114, 117, 108, 101]
abbrev kOutside : Tx := [111, 117, 116, 115, 105, 100, 101]
abbrev kPublic : Tx := [112, 117, 98, 108, 105, 99]
abbrev kForward : Tx := [102, 111, 114, 119, 97, 114, 100]
abbrev kLife : Tx := [108, 105, 102, 101]
abbrev kBudget : Tx := [98, 117, 100, 103, 101, 116]
abbrev kAllow : Tx := [97, 108, 108, 111, 119]
abbrev kDeny : Tx := [100, 101, 110, 121]
abbrev kProxy : Tx := [112, 114, 111, 120, 121]
def routeP (c : Cf) : List Tx → Option Cf
  | [a, z, m] => match netP a, numP z, numP m with
    | some (n, b), some z, some m => some { c with routes := c.routes ++ [⟨n, b, z, m⟩] }
    | _, _, _ => none
  | _ => none
def actP (s : Tx) : Option Int := if s == kAllow then some 2 else if s == kDeny then some 1 else none
def ruleP (c : Cf) : List Tx → Option Cf
  | [a1, a2, a3, a4, a5, a6, a7, a8] => match numP a1, numP a2, numP a3, netP a4, netP a5, numP a6, numP a7, actP a8 with
    | some f, some t, some p, some (s, sb), some (d, db), some lo, some hi, some a => some { c with rules := c.rules ++ [⟨f, t, p, s, d, sb, db, lo, hi, a⟩] }
    | _, _, _, _, _, _, _, _ => none
  | _ => none
def outsideP (c : Cf) : List Tx → Option Cf
  | [a] => match numP a with
    | some n => some { c with outside := n }
    | none => none
  | _ => none
def publicP (c : Cf) : List Tx → Option Cf
  | [a, l, h] => match addrP a, numP l, numP h with
    | some a, some l, some h => some { c with pub := a, lo := l, hi := h }
    | _, _, _ => none
  | _ => none
def proxyP : List Tx → Option Bool
  | [] => some false
  | [p] => if p == kProxy then some true else none
  | _ => none
def forwardP (c : Cf) : List Tx → Option Cf
  | a1 :: a2 :: a3 :: a4 :: rest => match numP a1, numP a2, addrP a3, numP a4, proxyP rest with
    | some p, some q, some a, some t, some x => some { c with fwds := c.fwds ++ [⟨p, q, a, t, x⟩] }
    | _, _, _, _, _ => none
  | _ => none
def lifeP (c : Cf) : List Tx → Option Cf
  | [a, b] => match numP a, numP b with
    | some t, some o => some { c with tcp := t, other := o }
    | _, _ => none
  | _ => none
def budgetP (c : Cf) : List Tx → Option Cf
  | [a] => match numP a with
    | some n => some { c with budget := n }
    | none => none
  | _ => none
/-- the line's reader by its first word; none: it has no such word. -/
def kindP (w : Tx) : Option (Cf → List Tx → Option Cf) :=
  if w == kRoute then some routeP else if w == kRule then some ruleP else if w == kOutside then some outsideP else if w == kPublic then some publicP else if w == kForward then some forwardP else if w == kLife then some lifeP else if w == kBudget then some budgetP else none
/-- a line: the configuration then, or its error. -/
def lineP (c : Cf) (s : Tx) : Except Int Cf := match wordsB s with
  | [] => .ok c
  | w :: ws => if w.head? == some 35 then .ok c else match kindP w with
    | none => .error 13
    | some p => match p c ws with
      | none => .error 11
      | some d => .ok d
/-- lines from the i-th on. -/
def linesP : List Tx → Nat → Cf → Cf × Int × Int
  | [], _, c => if rightCf c then (c, 0, 0) else (cf0, 1, 0)
  | s :: ss, i, c => if 512 ≤ i ∨ 256 < s.length then (cf0, 12, (i : Int) + 1) else match lineP c s with
    | .error e => (cf0, e, (i : Int) + 1)
    | .ok d => linesP ss (i + 1) d
def parseP (s : Tx) : Cf × Int × Int := linesP (splitB 10 s) 0 cfD
/-! what is shown. -/
def routeT (r : Rt) : Tx := kRoute ++ 32 :: (netT r.net r.bits ++ 32 :: (numT r.zone ++ 32 :: numT r.mtu))
def actT (a : Int) : Tx := if a = 2 then kAllow else kDeny
def ruleT (r : Ru) : Tx := kRule ++ 32 :: (numT r.fr ++ 32 :: (numT r.to ++ 32 :: (numT r.proto ++ 32 :: (netT r.src r.sbits ++ 32 :: (netT r.dst r.dbits ++ 32 :: (numT r.lo ++ 32 :: (numT r.hi ++ 32 :: actT r.act)))))))
def outsideT (c : Cf) : Tx := kOutside ++ 32 :: numT c.outside
def publicT (c : Cf) : Tx := kPublic ++ 32 :: (addrT c.pub ++ 32 :: (numT c.lo ++ 32 :: numT c.hi))
def forwardT (f : Fw) : Tx := kForward ++ 32 :: (numT f.proto ++ 32 :: (numT f.port ++ 32 :: (addrT f.addr ++ 32 :: (numT f.to ++ (if f.proxy then 32 :: kProxy else [])))))
def lifeT (c : Cf) : Tx := kLife ++ 32 :: (numT c.tcp ++ 32 :: numT c.other)
def budgetT (n : Int) : Tx := kBudget ++ 32 :: numT n
def showLines (c : Cf) : List Tx := c.routes.map routeT ++ (c.rules.map ruleT ++ (outsideT c :: publicT c :: (c.fwds.map forwardT ++ [lifeT c, budgetT c.budget])))
/-- lines, each with a newline behind it. -/
def linesT (l : List Tx) : Tx := l.flatMap (· ++ [10])
def showP (c : Cf) : Tx := linesT (showLines c)
theorem split_lines {l : List Tx} (h : ∀ s ∈ l, (10 : UInt8) ∉ s) (t : Tx) : splitB 10 (linesT l ++ t) = l ++ splitB 10 t := by
  induction l with
  | nil => rfl
  | cons s ss ih =>
    show splitB 10 ((s ++ [10] ++ linesT ss) ++ t) = _
    rw [List.append_assoc, List.append_assoc]
    show splitB 10 (s ++ 10 :: (linesT ss ++ t)) = _
    rw [split_at _ (h s (by simp)), ih (fun x hx => h x (by simp [hx]))]
    rfl
/-- lines that are taken. -/
theorem lines_ok : ∀ (l : List Tx) (i : Nat) (c : Cf) (rest : List Tx) (f : Tx → Cf → Cf), i + l.length ≤ 512 → (∀ s ∈ l, s.length ≤ 256) → (∀ s ∈ l, ∀ c, lineP c s = .ok (f s c)) → linesP (l ++ rest) i c = linesP rest (i + l.length) (l.foldl (fun c s => f s c) c)
  | [], i, c, rest, f, _, _, _ => rfl
  | s :: ss, i, c, rest, f, h1, h2, h3 => by
    have hl : (s :: ss).length = ss.length + 1 := rfl
    show linesP (s :: (ss ++ rest)) i c = _
    rw [linesP, if_neg (by have := h2 s (by simp); omega), h3 s (by simp)]
    dsimp only
    rw [lines_ok ss (i + 1) _ rest f (by omega) (fun x hx => h2 x (by simp [hx])) (fun x hx => h3 x (by simp [hx])), hl, List.foldl_cons]
    congr 1
    omega
theorem line_step {s : Tx} {ss : List Tx} {i : Nat} {c d : Cf} (hi : i < 512) (hs : s.length ≤ 256) (h : lineP c s = .ok d) : linesP (s :: ss) i c = linesP ss (i + 1) d := by
  rw [linesP, if_neg (by omega), h]
/-! each line, read. -/
theorem line_kind {c d : Cf} {s w : Tx} {ws : List Tx} {p : Cf → List Tx → Option Cf} (h1 : wordsB s = w :: ws) (h2 : (w.head? == some 35) = false) (h3 : kindP w = some p) (h4 : p c ws = some d) : lineP c s = .ok d := by
  unfold lineP
  rw [h1]
  dsimp only
  rw [h2, if_neg (by simp), h3]
  dsimp only
  rw [h4]
theorem word_lit {w : Tx} (h1 : (w == []) = false) (h2 : w.contains 32 = false) : WordB w := ⟨by simpa using h1, by simpa using h2⟩
theorem kRoute_w : WordB kRoute := word_lit rfl rfl
theorem kRule_w : WordB kRule := word_lit rfl rfl
theorem kOutside_w : WordB kOutside := word_lit rfl rfl
theorem kPublic_w : WordB kPublic := word_lit rfl rfl
theorem kForward_w : WordB kForward := word_lit rfl rfl
theorem kLife_w : WordB kLife := word_lit rfl rfl
theorem kBudget_w : WordB kBudget := word_lit rfl rfl
theorem kProxy_w : WordB kProxy := word_lit rfl rfl
theorem act_w (a : Int) : WordB (actT a) := by unfold actT; split <;> exact word_lit rfl rfl
abbrev I32 (n : Int) : Prop := -2147483648 ≤ n ∧ n ≤ 2147483647
theorem line_route (c : Cf) (r : Rt) (hn : RngRt r) (hb : I32 r.bits) (hz : I32 r.zone) (hm : I32 r.mtu) : lineP c (routeT r) = .ok { c with routes := c.routes ++ [r] } := by
  refine line_kind (w := kRoute) (ws := [netT r.net r.bits, numT r.zone, numT r.mtu]) (p := routeP) ?_ rfl rfl ?_
  · unfold routeT
    rw [words_cons kRoute_w, words_cons (net_word _ _), words_cons (num_word _), words_one (num_word _)]
  · unfold routeP
    dsimp only
    rw [netP_net hn.net hb, numP_num hz, numP_num hm]
theorem actP_act {a : Int} (h : a = 1 ∨ a = 2) : actP (actT a) = some a := by
  rcases h with rfl | rfl <;> rfl
theorem line_rule (c : Cf) (r : Ru) (hn : RngRu r) (h : OkU r) : lineP c (ruleT r) = .ok { c with rules := c.rules ++ [r] } := by
  refine line_kind (w := kRule) (ws := [numT r.fr, numT r.to, numT r.proto, netT r.src r.sbits, netT r.dst r.dbits, numT r.lo, numT r.hi, actT r.act]) (p := ruleP) ?_ rfl rfl ?_
  · unfold ruleT
    rw [words_cons kRule_w, words_cons (num_word _), words_cons (num_word _), words_cons (num_word _), words_cons (net_word _ _), words_cons (net_word _ _), words_cons (num_word _), words_cons (num_word _), words_one (act_w _)]
  · have h1 := h.fr
    have h2 := h.to
    have h3 := h.proto
    have h4 := h.sbits
    have h5 := h.dbits
    have h6 := h.lo
    have h7 := h.hi
    unfold ruleP
    dsimp only
    rw [numP_num (by omega), numP_num (by omega), numP_num (by omega), netP_net hn.src (by omega), netP_net hn.dst (by omega), numP_num (by omega), numP_num (by omega), actP_act h.act]
theorem line_outside (c : Cf) (n : Int) (h : I32 n) : lineP c (kOutside ++ 32 :: numT n) = .ok { c with outside := n } := by
  refine line_kind (w := kOutside) (ws := [numT n]) (p := outsideP) ?_ rfl rfl ?_
  · rw [words_cons kOutside_w, words_one (num_word _)]
  · unfold outsideP
    dsimp only
    rw [numP_num h]
theorem line_public (c : Cf) (a l u : Int) (ha : 0 ≤ a ∧ a ≤ 4294967295) (hl : I32 l) (hu : I32 u) : lineP c (kPublic ++ 32 :: (addrT a ++ 32 :: (numT l ++ 32 :: numT u))) = .ok { c with pub := a, lo := l, hi := u } := by
  refine line_kind (w := kPublic) (ws := [addrT a, numT l, numT u]) (p := publicP) ?_ rfl rfl ?_
  · rw [words_cons kPublic_w, words_cons (addr_word _), words_cons (num_word _), words_one (num_word _)]
  · unfold publicP
    dsimp only
    rw [addrP_addr ha, numP_num hl, numP_num hu]
theorem line_forward (c : Cf) (f : Fw) (ha : 0 ≤ f.addr ∧ f.addr ≤ 4294967295) (h1 : I32 f.proto) (h2 : I32 f.port) (h3 : I32 f.to) : lineP c (forwardT f) = .ok { c with fwds := c.fwds ++ [f] } := by
  obtain ⟨p, q, a, t, x⟩ := f
  dsimp only at ha h1 h2 h3
  cases x
  · refine line_kind (w := kForward) (ws := [numT p, numT q, addrT a, numT t]) (p := forwardP) ?_ rfl rfl ?_
    · unfold forwardT
      dsimp only
      rw [if_neg (by simp), List.append_nil, words_cons kForward_w, words_cons (num_word _), words_cons (num_word _), words_cons (addr_word _), words_one (num_word _)]
    · unfold forwardP
      dsimp only
      rw [numP_num h1, numP_num h2, addrP_addr ha, numP_num h3]
      rfl
  · refine line_kind (w := kForward) (ws := [numT p, numT q, addrT a, numT t, kProxy]) (p := forwardP) ?_ rfl rfl ?_
    · unfold forwardT
      dsimp only
      rw [if_pos rfl, words_cons kForward_w, words_cons (num_word _), words_cons (num_word _), words_cons (addr_word _), words_cons (num_word _), words_one kProxy_w]
    · unfold forwardP
      dsimp only
      rw [numP_num h1, numP_num h2, addrP_addr ha, numP_num h3]
      rfl
theorem line_life (c : Cf) (t o : Int) (ht : I32 t) (ho : I32 o) : lineP c (kLife ++ 32 :: (numT t ++ 32 :: numT o)) = .ok { c with tcp := t, other := o } := by
  refine line_kind (w := kLife) (ws := [numT t, numT o]) (p := lifeP) ?_ rfl rfl ?_
  · rw [words_cons kLife_w, words_cons (num_word _), words_one (num_word _)]
  · unfold lifeP
    dsimp only
    rw [numP_num ht, numP_num ho]
theorem line_budget (c : Cf) (n : Int) (h : I32 n) : lineP c (budgetT n) = .ok { c with budget := n } := by
  refine line_kind (w := kBudget) (ws := [numT n]) (p := budgetP) ?_ rfl rfl ?_
  · unfold budgetT
    rw [words_cons kBudget_w, words_one (num_word _)]
  · unfold budgetP
    dsimp only
    rw [numP_num h]
end Go.Proofs.YtoghcefamoefpaaGreatDoor

/- Configurations: what is shown is read as it was; of lines that say the same thing the last one counts. -/
namespace Go.Proofs.YtoghcefamoefpaaGreatDoor
set_option linter.unusedVariables false

/-! no newline, and not too long. -/
structure LineB (s : Tx) : Prop where
  no : (10 : UInt8) ∉ s
  len : s.length ≤ 256
theorem no_num (n : Int) : (10 : UInt8) ∉ numT n := not_num n (by decide) (by decide)
theorem no_addr (a : Int) : (10 : UInt8) ∉ addrT a := not_addr a (by decide) (by decide) (by decide)
theorem no_net (a k : Int) : (10 : UInt8) ∉ netT a k := not_net a k (by decide) (by decide) (by decide) (by decide)
theorem no_act (a : Int) : (10 : UInt8) ∉ actT a := by unfold actT; split <;> decide
theorem no_app {a b : Tx} (ha : (10 : UInt8) ∉ a) (hb : (10 : UInt8) ∉ b) : (10 : UInt8) ∉ a ++ 32 :: b := fun h => by
  rcases List.mem_append.1 h with h | h
  · exact ha h
  · rcases List.mem_cons.1 h with h | h
    · cases h
    · exact hb h
theorem len_app {a b : Tx} {m n : Nat} (ha : a.length ≤ m) (hb : b.length ≤ n) : (a ++ 32 :: b).length ≤ m + n + 1 := by
  rw [List.length_append, List.length_cons]
  omega
theorem len_i32 {n : Int} (h : I32 n) : (numT n).length ≤ 11 := num_len (k := 9) (by omega)
theorem len_addr {a : Int} (h : 0 ≤ a ∧ a ≤ 4294967295) : (addrT a).length ≤ 19 := by
  have h1 := num_len (n := a / 16777216) (k := 2) (by omega)
  have h2 := num_len (n := a / 65536 % 256) (k := 2) (by omega)
  have h3 := num_len (n := a / 256 % 256) (k := 2) (by omega)
  have h4 := num_len (n := a % 256) (k := 2) (by omega)
  unfold addrT
  simp only [List.length_append, List.length_cons]
  omega
theorem len_net {a k : Int} (h : 0 ≤ a ∧ a ≤ 4294967295) (hk : I32 k) : (netT a k).length ≤ 31 := by
  have h1 := len_addr h
  have h2 := len_i32 hk
  unfold netT
  simp only [List.length_append, List.length_cons]
  omega
theorem len_act (a : Int) : (actT a).length ≤ 5 := by unfold actT; split <;> decide
theorem route_line {r : Rt} (hn : RngRt r) (hb : I32 r.bits) (hz : I32 r.zone) (hm : I32 r.mtu) : LineB (routeT r) :=
  ⟨no_app (by decide) (no_app (no_net _ _) (no_app (no_num _) (no_num _))), Nat.le_trans (len_app (m := 5) (by decide) (len_app (len_net hn.net hb) (len_app (len_i32 hz) (len_i32 hm)))) (by omega)⟩
theorem rule_line {r : Ru} (hn : RngRu r) (h : OkU r) : LineB (ruleT r) := by
  have h1 := h.fr
  have h2 := h.to
  have h3 := h.proto
  have h4 := h.sbits
  have h5 := h.dbits
  have h6 := h.lo
  have h7 := h.hi
  exact ⟨no_app (by decide) (no_app (no_num _) (no_app (no_num _) (no_app (no_num _) (no_app (no_net _ _) (no_app (no_net _ _) (no_app (no_num _) (no_app (no_num _) (no_act _)))))))),
    Nat.le_trans (len_app (m := 4) (by decide) (len_app (len_i32 (by omega)) (len_app (len_i32 (by omega)) (len_app (len_i32 (by omega)) (len_app (len_net hn.src (by omega)) (len_app (len_net hn.dst (by omega)) (len_app (len_i32 (by omega)) (len_app (len_i32 (by omega)) (len_act _))))))))) (by omega)⟩
theorem one_line {k : Tx} {n : Int} (hk : (10 : UInt8) ∉ k) (hl : k.length ≤ 10) (h : I32 n) : LineB (k ++ 32 :: numT n) := ⟨no_app hk (no_num _), Nat.le_trans (len_app hl (len_i32 h)) (by omega)⟩
theorem public_line {a l u : Int} (ha : 0 ≤ a ∧ a ≤ 4294967295) (hl : I32 l) (hu : I32 u) : LineB (kPublic ++ 32 :: (addrT a ++ 32 :: (numT l ++ 32 :: numT u))) :=
  ⟨no_app (by decide) (no_app (no_addr _) (no_app (no_num _) (no_num _))), Nat.le_trans (len_app (m := 6) (by decide) (len_app (len_addr ha) (len_app (len_i32 hl) (len_i32 hu)))) (by omega)⟩
theorem forward_line {f : Fw} (ha : 0 ≤ f.addr ∧ f.addr ≤ 4294967295) (h1 : I32 f.proto) (h2 : I32 f.port) (h3 : I32 f.to) : LineB (forwardT f) := by
  unfold forwardT
  split
  · exact ⟨no_app (by decide) (no_app (no_num _) (no_app (no_num _) (no_app (no_addr _) (no_app (no_num _) (by decide))))), Nat.le_trans (len_app (m := 7) (by decide) (len_app (len_i32 h1) (len_app (len_i32 h2) (len_app (len_addr ha) (len_app (n := 5) (len_i32 h3) (by decide)))))) (by omega)⟩
  · rw [List.append_nil]
    exact ⟨no_app (by decide) (no_app (no_num _) (no_app (no_num _) (no_app (no_addr _) (no_num _)))), Nat.le_trans (len_app (m := 7) (by decide) (len_app (len_i32 h1) (len_app (len_i32 h2) (len_app (len_addr ha) (len_i32 h3))))) (by omega)⟩
theorem life_line {t o : Int} (ht : I32 t) (ho : I32 o) : LineB (kLife ++ 32 :: (numT t ++ 32 :: numT o)) := ⟨no_app (by decide) (no_app (no_num _) (no_num _)), Nat.le_trans (len_app (m := 4) (by decide) (len_app (len_i32 ht) (len_i32 ho))) (by omega)⟩
theorem budget_line {n : Int} (h : I32 n) : LineB (budgetT n) := one_line (by decide) (by decide) h
/-! runs of lines. -/
theorem i32_of {a b n : Int} (h : a ≤ n ∧ n ≤ b) (ha : -2147483648 ≤ a) (hb : b ≤ 2147483647) : I32 n := by omega
theorem okR_i32 {r : Rt} (h : okR r = true) : I32 r.bits ∧ I32 r.zone ∧ I32 r.mtu := by
  have := (okR_iff r).1 h
  omega
theorem lines_routes : ∀ (l : List Rt) (rest : List Tx) (i : Nat) (c : Cf), (∀ r ∈ l, RngRt r ∧ okR r = true) → i + l.length ≤ 512 → linesP (l.map routeT ++ rest) i c = linesP rest (i + l.length) { c with routes := c.routes ++ l }
  | [], rest, i, c, _, _ => by simp
  | r :: l, rest, i, c, h, hi => by
    have hl : (r :: l).length = l.length + 1 := rfl
    obtain ⟨hn, ho⟩ := h r (by simp)
    obtain ⟨h1, h2, h3⟩ := okR_i32 ho
    show linesP (routeT r :: (l.map routeT ++ rest)) i c = _
    rw [line_step (by omega) (route_line hn h1 h2 h3).len (line_route c r hn h1 h2 h3), lines_routes l rest (i + 1) _ (fun x hx => h x (by simp [hx])) (by omega)]
    congr 1
    · omega
    · simp
theorem lines_rules : ∀ (l : List Ru) (rest : List Tx) (i : Nat) (c : Cf), (∀ r ∈ l, RngRu r ∧ OkU r) → i + l.length ≤ 512 → linesP (l.map ruleT ++ rest) i c = linesP rest (i + l.length) { c with rules := c.rules ++ l }
  | [], rest, i, c, _, _ => by simp
  | r :: l, rest, i, c, h, hi => by
    have hl : (r :: l).length = l.length + 1 := rfl
    obtain ⟨hn, ho⟩ := h r (by simp)
    show linesP (ruleT r :: (l.map ruleT ++ rest)) i c = _
    rw [line_step (by omega) (rule_line hn ho).len (line_rule c r hn ho), lines_rules l rest (i + 1) _ (fun x hx => h x (by simp [hx])) (by omega)]
    congr 1
    · omega
    · simp
structure FwI (f : Fw) : Prop where
  addr : 0 ≤ f.addr ∧ f.addr ≤ 4294967295
  proto : I32 f.proto
  port : I32 f.port
  «to» : I32 f.to
theorem lines_fwds : ∀ (l : List Fw) (rest : List Tx) (i : Nat) (c : Cf), (∀ f ∈ l, FwI f) → i + l.length ≤ 512 → linesP (l.map forwardT ++ rest) i c = linesP rest (i + l.length) { c with fwds := c.fwds ++ l }
  | [], rest, i, c, _, _ => by simp
  | r :: l, rest, i, c, h, hi => by
    have hl : (r :: l).length = l.length + 1 := rfl
    have ho := h r (by simp)
    show linesP (forwardT r :: (l.map forwardT ++ rest)) i c = _
    rw [line_step (by omega) (forward_line ho.addr ho.proto ho.port ho.to).len (line_forward c r ho.addr ho.proto ho.port ho.to), lines_fwds l rest (i + 1) _ (fun x hx => h x (by simp [hx])) (by omega)]
    congr 1
    · omega
    · simp
theorem okF_i {lo hi : Int} {f : Fw} (h : OkF lo hi f) (ha : 0 ≤ f.addr ∧ f.addr ≤ 4294967295) : FwI f := by
  have h1 := h.proto
  have h2 := h.port
  have h3 := h.to
  exact ⟨ha, by omega, by omega, by omega⟩
theorem RightC.sizes {c : Cf} (h : RightC c) : c.routes.length ≤ 64 ∧ c.rules.length ≤ 64 ∧ c.fwds.length ≤ 32 := ⟨((rightR_iff _).1 h.routes).few, ((rightU_iff _).1 h.rules).1, h.fwds.few⟩
/-- all lines of what is shown. -/
theorem lines_show {c : Cf} (h : RightC c) (hr : RngC c) (rest : List Tx) {i : Nat} (hi : i ≤ 300) (d : Cf) (h1 : d.routes = []) (h2 : d.rules = []) (h3 : d.fwds = []) : ∃ k, k ≤ i + 164 ∧ linesP (showLines c ++ rest) i d = linesP rest k c := by
  obtain ⟨n1, n2, n3⟩ := h.sizes
  have f1 : ∀ r ∈ c.routes, RngRt r ∧ okR r = true := fun r hm => ⟨hr.routes r hm, ((rightR_iff _).1 h.routes).ok r hm⟩
  have f2 : ∀ r ∈ c.rules, RngRu r ∧ OkU r := fun r hm => ⟨hr.rules r hm, (okU_iff r).1 (((rightU_iff _).1 h.rules).2 r hm)⟩
  have f3 : ∀ f ∈ c.fwds, FwI f := fun f hm => okF_i (h.fwds.ok f hm) (hr.fwds f hm)
  have g1 := h.outside
  have g2 := h.lo
  have g3 := h.span
  have g4 := h.hi
  have g5 := h.tcp
  have g6 := h.other
  have g7 := h.budget
  refine ⟨i + c.routes.length + c.rules.length + 1 + 1 + c.fwds.length + 1 + 1, by omega, ?_⟩
  have es : showLines c ++ rest = c.routes.map routeT ++ (c.rules.map ruleT ++ ((kOutside ++ 32 :: numT c.outside) :: (kPublic ++ 32 :: (addrT c.pub ++ 32 :: (numT c.lo ++ 32 :: numT c.hi))) :: (c.fwds.map forwardT ++ ((kLife ++ 32 :: (numT c.tcp ++ 32 :: numT c.other)) :: (budgetT c.budget) :: rest)))) := by
    unfold showLines outsideT publicT lifeT
    simp only [List.append_assoc, List.cons_append, List.nil_append]
  rw [es, lines_routes _ _ _ _ f1 (by omega), lines_rules _ _ _ _ f2 (by omega)]
  rw [line_step (by omega) (one_line (by decide) (by decide) (by omega)).len (line_outside _ _ (by omega))]
  rw [line_step (by omega) (public_line hr.pub (by omega) (by omega)).len (line_public _ _ _ _ hr.pub (by omega) (by omega)), lines_fwds _ _ _ _ f3 (by omega)]
  rw [line_step (by omega) (life_line (by omega) (by omega)).len (line_life _ _ _ (by omega) (by omega)), line_step (by omega) (budget_line (by omega)).len (line_budget _ _ (by omega))]
  simp only [h1, h2, h3, List.nil_append]
theorem show_line {c : Cf} (h : RightC c) (hr : RngC c) : ∀ s ∈ showLines c, LineB s := by
  have g1 := h.outside
  have g2 := h.lo
  have g3 := h.span
  have g4 := h.hi
  have g5 := h.tcp
  have g6 := h.other
  have g7 := h.budget
  intro s hs
  unfold showLines at hs
  rcases List.mem_append.1 hs with hs | hs
  · obtain ⟨r, hm, rfl⟩ := List.mem_map.1 hs
    obtain ⟨h1, h2, h3⟩ := okR_i32 (((rightR_iff _).1 h.routes).ok r hm)
    exact route_line (hr.routes r hm) h1 h2 h3
  rcases List.mem_append.1 hs with hs | hs
  · obtain ⟨r, hm, rfl⟩ := List.mem_map.1 hs
    exact rule_line (hr.rules r hm) ((okU_iff r).1 (((rightU_iff _).1 h.rules).2 r hm))
  rcases List.mem_cons.1 hs with rfl | hs
  · exact one_line (by decide) (by decide) (by omega)
  rcases List.mem_cons.1 hs with rfl | hs
  · exact public_line hr.pub (by omega) (by omega)
  rcases List.mem_append.1 hs with hs | hs
  · obtain ⟨f, hm, rfl⟩ := List.mem_map.1 hs
    have ho := okF_i (h.fwds.ok f hm) (hr.fwds f hm)
    exact forward_line ho.addr ho.proto ho.port ho.to
  rcases List.mem_cons.1 hs with rfl | hs
  · exact life_line (by omega) (by omega)
  · rw [List.mem_singleton.1 hs]
    exact budget_line (by omega)
theorem show_no {c : Cf} (h : RightC c) (hr : RngC c) : ∀ s ∈ showLines c, (10 : UInt8) ∉ s := fun s hs => (show_line h hr s hs).no
theorem lines_len : ∀ {l : List Tx}, (∀ s ∈ l, LineB s) → (linesT l).length ≤ l.length * 257
  | [], _ => by simp [linesT]
  | s :: ss, h => by
    have h1 := (h s (by simp)).len
    have h2 := lines_len (l := ss) (fun x hx => h x (by simp [hx]))
    have h3 : (s :: ss).length = ss.length + 1 := rfl
    show ((s ++ [10]) ++ linesT ss).length ≤ _
    rw [List.length_append, List.length_append, List.length_cons]
    show s.length + 1 + _ ≤ _
    omega
theorem show_len {c : Cf} (h : RightC c) (hr : RngC c) : (showP c).length ≤ 50000 := by
  have h1 := lines_len (show_line h hr)
  obtain ⟨n1, n2, n3⟩ := h.sizes
  have h2 : (showLines c).length = c.routes.length + (c.rules.length + (c.fwds.length + 4)) := by
    unfold showLines
    simp only [List.length_append, List.length_map, List.length_cons, List.length_nil]
  unfold showP
  rw [h2] at h1
  omega
theorem line_nil (c : Cf) : lineP c [] = .ok c := rfl
/-- what is shown is read as it was. -/
theorem parse_show {c : Cf} (h : RightC c) (hr : RngC c) : parseP (showP c) = (c, 0, 0) := by
  unfold parseP showP
  have e := split_lines (show_no h hr) []
  rw [List.append_nil] at e
  rw [e]
  obtain ⟨k, hk, e2⟩ := lines_show h hr (splitB 10 []) (i := 0) (by omega) cfD rfl rfl rfl
  rw [e2]
  show linesP [[]] k c = _
  rw [line_step (by omega) (by decide) (line_nil c)]
  show (if rightCf c then _ else _) = _
  rw [(rightCf_iff c).2 h, if_pos rfl]
/-! of lines that say the same thing the last one counts. -/
theorem line_remark (c : Cf) : lineP c [35, 32, 120] = .ok c := rfl
theorem line_blanks (c : Cf) : lineP c [32, 32, 32] = .ok c := rfl
theorem line_budget2 (c : Cf) : lineP c (32 :: 32 :: (kBudget ++ 32 :: 32 :: numT 7)) = .ok { c with budget := 7 } := by
  refine line_kind (w := kBudget) (ws := [numT 7]) (p := budgetP) ?_ rfl rfl ?_
  · rw [words_blank, words_blank, words_cons kBudget_w, words_blank, words_one (num_word _)]
  · unfold budgetP
    dsimp only
    rw [numP_num (by omega)]
theorem line_budget3 (c : Cf) (n : Int) (h : I32 n) : lineP c (32 :: (kBudget ++ 32 :: (numT n ++ [32, 32]))) = .ok { c with budget := n } := by
  refine line_kind (w := kBudget) (ws := [numT n]) (p := budgetP) ?_ rfl rfl ?_
  · rw [words_blank, words_cons kBudget_w]
    show kBudget :: wordsB (numT n ++ 32 :: [32]) = _
    rw [words_cons (num_word _)]
    rfl
  · unfold budgetP
    dsimp only
    rw [numP_num h]
/-- what stands ahead of, and behind, what is shown. -/
abbrev preT : Tx := [35, 32, 120, 10, 10, 32, 32, 98, 117, 100, 103, 101, 116, 32, 32, 55, 10]
abbrev postT (n : Int) : Tx := [32, 32, 32, 10, 32, 98, 117, 100, 103, 101, 116, 32] ++ numT n ++ [32, 32]
theorem numT_7 : numT 7 = [55] := by
  unfold numT
  rw [if_neg (by decide), natD_small (by decide)]
  rfl
theorem parse_last {c : Cf} (h : RightC c) (hr : RngC c) {n : Int} (hn : 0 ≤ n ∧ n ≤ 255) : parseP (preT ++ showP c ++ postT n) = ({ c with budget := n }, 0, 0) := by
  have hl : preT ++ showP c ++ postT n = linesT ([[35, 32, 120], [], 32 :: 32 :: (kBudget ++ 32 :: 32 :: numT 7)] ++ showLines c ++ [[32, 32, 32]]) ++ (32 :: (kBudget ++ 32 :: (numT n ++ [32, 32]))) := by
    rw [numT_7]
    unfold showP linesT
    rw [List.flatMap_append, List.flatMap_append]
    show preT ++ _ ++ postT n = _
    simp [postT]
  unfold parseP
  have hno : ∀ s ∈ [[35, 32, 120], [], 32 :: 32 :: (kBudget ++ 32 :: 32 :: numT 7)] ++ showLines c ++ [[32, 32, 32]], (10 : UInt8) ∉ s := fun s hs => by
    rcases List.mem_append.1 hs with hs | hs
    · rcases List.mem_append.1 hs with hs | hs
      · rw [numT_7] at hs
        simp only [List.mem_cons, List.not_mem_nil, or_false] at hs
        rcases hs with rfl | rfl | rfl <;> decide
      · exact show_no h hr s hs
    · rw [List.mem_singleton.1 hs]; decide
  have hno2 : (10 : UInt8) ∉ (32 :: (kBudget ++ 32 :: (numT n ++ [32, 32]))) := fun hm => by
    rcases List.mem_cons.1 hm with hm | hm
    · cases hm
    · refine no_app (by decide) (fun hm => ?_) hm
      rcases List.mem_append.1 hm with hm | hm
      · exact no_num n hm
      · simp at hm
  rw [hl, split_lines hno, split_none hno2, List.append_assoc, List.append_assoc]
  show linesP ([35, 32, 120] :: ([] :: ((32 :: 32 :: (kBudget ++ 32 :: 32 :: numT 7)) :: (showLines c ++ ([[32, 32, 32]] ++ [_]))))) 0 cfD = _
  rw [line_step (by omega) (by decide) (line_remark _), line_step (by omega) (by decide) (line_nil _), line_step (by omega) (by rw [numT_7]; decide) (line_budget2 _)]
  obtain ⟨k, hk, e2⟩ := lines_show h hr ([[32, 32, 32]] ++ [32 :: (kBudget ++ 32 :: (numT n ++ [32, 32]))]) (i := 0 + 1 + 1 + 1) (by omega) { cfD with budget := 7 } rfl rfl rfl
  rw [e2]
  show linesP ([32, 32, 32] :: [_]) k c = _
  have hl2 : (32 :: (kBudget ++ 32 :: (numT n ++ [32, 32]))).length ≤ 256 := by
    have := len_i32 (n := n) (by omega)
    simp only [List.length_append, List.length_cons, List.length_nil]
    omega
  rw [line_step (by omega) (by decide) (line_blanks c), line_step (by omega) hl2 (line_budget3 c n (by omega))]
  have hr2 : RightC { c with budget := n } := ⟨h.routes, h.rules, h.outside, h.lo, h.span, h.hi, h.tcp, h.other, by show 0 ≤ n ∧ n ≤ 1000; omega, h.fwds⟩
  show (if rightCf { c with budget := n } then _ else _) = _
  rw [(rightCf_iff _).2 hr2, if_pos rfl]
end Go.Proofs.YtoghcefamoefpaaGreatDoor

/- Configurations: what any text is read as: one that may be, or none and an error. -/
namespace Go.Proofs.YtoghcefamoefpaaGreatDoor
set_option linter.unusedVariables false

theorem byteP_rng {s : Tx} {n : Int} (h : byteP s = some n) : 0 ≤ n ∧ n ≤ 255 := by
  unfold byteP at h
  split at h
  · split at h
    · next hn => injection h with h; rw [← h]; exact hn
    · cases h
  · cases h
theorem addrP_rng {s : Tx} {a : Int} (h : addrP s = some a) : 0 ≤ a ∧ a ≤ 4294967295 := by
  unfold addrP at h
  split at h
  · split at h
    · next h1 h2 h3 h4 =>
      have := byteP_rng h1
      have := byteP_rng h2
      have := byteP_rng h3
      have := byteP_rng h4
      injection h with h
      omega
    · cases h
  · cases h
theorem netP_rng {s : Tx} {n k : Int} (h : netP s = some (n, k)) : 0 ≤ n ∧ n ≤ 4294967295 := by
  unfold netP at h
  split at h
  · split at h
    · next h1 h2 =>
      injection h with h
      injection h with h _
      rw [← h]
      exact addrP_rng h1
    · cases h
  · cases h
theorem RngC.route {c : Cf} (h : RngC c) {r : Rt} (hr : RngRt r) : RngC { c with routes := c.routes ++ [r] } := ⟨fun x hx => (List.mem_append.1 hx).elim (h.routes x) (fun e => by rw [List.mem_singleton.1 e]; exact hr), h.rules, h.pub, h.fwds⟩
theorem RngC.rule {c : Cf} (h : RngC c) {r : Ru} (hr : RngRu r) : RngC { c with rules := c.rules ++ [r] } := ⟨h.routes, fun x hx => (List.mem_append.1 hx).elim (h.rules x) (fun e => by rw [List.mem_singleton.1 e]; exact hr), h.pub, h.fwds⟩
theorem RngC.fwd {c : Cf} (h : RngC c) {f : Fw} (hf : 0 ≤ f.addr ∧ f.addr ≤ 4294967295) : RngC { c with fwds := c.fwds ++ [f] } := ⟨h.routes, h.rules, h.pub, fun x hx => (List.mem_append.1 hx).elim (h.fwds x) (fun e => by rw [List.mem_singleton.1 e]; exact hf)⟩
theorem routeP_rng {c d : Cf} {ws : List Tx} (h : RngC c) (e : routeP c ws = some d) : RngC d := by
  unfold routeP at e
  split at e
  · split at e
    · next h1 h2 h3 =>
      injection e with e
      rw [← e]
      exact h.route ⟨netP_rng h1⟩
    · cases e
  · cases e
theorem ruleP_rng {c d : Cf} {ws : List Tx} (h : RngC c) (e : ruleP c ws = some d) : RngC d := by
  unfold ruleP at e
  split at e
  · split at e
    · next h1 h2 h3 h4 h5 h6 h7 h8 =>
      injection e with e
      rw [← e]
      exact h.rule ⟨netP_rng h4, netP_rng h5⟩
    · cases e
  · cases e
theorem outsideP_rng {c d : Cf} {ws : List Tx} (h : RngC c) (e : outsideP c ws = some d) : RngC d := by
  unfold outsideP at e
  split at e
  · split at e
    · injection e with e
      rw [← e]
      exact ⟨h.routes, h.rules, h.pub, h.fwds⟩
    · cases e
  · cases e
theorem publicP_rng {c d : Cf} {ws : List Tx} (h : RngC c) (e : publicP c ws = some d) : RngC d := by
  unfold publicP at e
  split at e
  · split at e
    · next h1 h2 h3 =>
      injection e with e
      rw [← e]
      exact ⟨h.routes, h.rules, addrP_rng h1, h.fwds⟩
    · cases e
  · cases e
theorem forwardP_rng {c d : Cf} {ws : List Tx} (h : RngC c) (e : forwardP c ws = some d) : RngC d := by
  unfold forwardP at e
  split at e
  · split at e
    · next h1 h2 h3 h4 h5 =>
      injection e with e
      rw [← e]
      exact h.fwd (addrP_rng h3)
    · cases e
  · cases e
theorem lifeP_rng {c d : Cf} {ws : List Tx} (h : RngC c) (e : lifeP c ws = some d) : RngC d := by
  unfold lifeP at e
  split at e
  · split at e
    · injection e with e
      rw [← e]
      exact ⟨h.routes, h.rules, h.pub, h.fwds⟩
    · cases e
  · cases e
theorem budgetP_rng {c d : Cf} {ws : List Tx} (h : RngC c) (e : budgetP c ws = some d) : RngC d := by
  unfold budgetP at e
  split at e
  · split at e
    · injection e with e
      rw [← e]
      exact ⟨h.routes, h.rules, h.pub, h.fwds⟩
    · cases e
  · cases e
theorem kind_rng {w : Tx} {p : Cf → List Tx → Option Cf} (hp : kindP w = some p) {c d : Cf} {ws : List Tx} (h : RngC c) (e : p c ws = some d) : RngC d := by
  unfold kindP at hp
  split at hp
  · injection hp with hp; subst hp; exact routeP_rng h e
  split at hp
  · injection hp with hp; subst hp; exact ruleP_rng h e
  split at hp
  · injection hp with hp; subst hp; exact outsideP_rng h e
  split at hp
  · injection hp with hp; subst hp; exact publicP_rng h e
  split at hp
  · injection hp with hp; subst hp; exact forwardP_rng h e
  split at hp
  · injection hp with hp; subst hp; exact lifeP_rng h e
  split at hp
  · injection hp with hp; subst hp; exact budgetP_rng h e
  · cases hp
theorem line_rng {c d : Cf} {s : Tx} (h : RngC c) (e : lineP c s = .ok d) : RngC d := by
  unfold lineP at e
  split at e
  · injection e with e; rw [← e]; exact h
  · split at e
    · injection e with e; rw [← e]; exact h
    · split at e
      · cases e
      · next hp =>
        split at e
        · cases e
        · next hd =>
          injection e with e
          rw [← e]
          exact kind_rng hp h hd
theorem line_err {c : Cf} {s : Tx} {k : Int} (e : lineP c s = .error k) : k = 11 ∨ k = 13 := by
  unfold lineP at e
  split at e
  · cases e
  · split at e
    · cases e
    · split at e
      · injection e with e; exact .inr e.symm
      · split at e
        · injection e with e; exact .inl e.symm
        · cases e
/-- what any lines are read as. -/
structure ReadC (q : Cf × Int × Int) : Prop where
  is : (RightC q.1 ∧ RngC q.1 ∧ q.2.1 = 0 ∧ q.2.2 = 0) ∨ (q.1 = cf0 ∧ (q.2.1 = 1 ∨ q.2.1 = 11 ∨ q.2.1 = 12 ∨ q.2.1 = 13) ∧ 0 ≤ q.2.2)
theorem lines_read : ∀ (l : List Tx) (i : Nat) (c : Cf), RngC c → ReadC (linesP l i c)
  | [], i, c, h => by
    unfold linesP
    split
    · next hr => exact ⟨.inl ⟨(rightCf_iff c).1 hr, h, rfl, rfl⟩⟩
    · exact ⟨.inr ⟨rfl, .inl rfl, Int.le_refl _⟩⟩
  | s :: ss, i, c, h => by
    unfold linesP
    split
    · exact ⟨.inr ⟨rfl, .inr (.inr (.inl rfl)), by dsimp only; omega⟩⟩
    · split
      · next e he => exact ⟨.inr ⟨rfl, (line_err he).elim (fun q => .inr (.inl q)) (fun q => .inr (.inr (.inr q))), by dsimp only; omega⟩⟩
      · next d hd => exact lines_read ss (i + 1) d (line_rng h hd)
theorem parse_read (s : Tx) : ReadC (parseP s) := lines_read _ _ _ ⟨(fun r h => by cases h), (fun r h => by cases h), (by decide), (fun r h => by cases h)⟩
/-! two that are the same. -/
def sameFw (a b : Fw) : Bool := a.proto == b.proto && (a.port == b.port && (a.addr == b.addr && (a.to == b.to && a.proxy == b.proxy)))
theorem sameFw_iff (a b : Fw) : sameFw a b = true ↔ a = b := by
  obtain ⟨a1, a2, a3, a4, a5⟩ := a
  obtain ⟨b1, b2, b3, b4, b5⟩ := b
  unfold sameFw
  simp
end Go.Proofs.YtoghcefamoefpaaGreatDoor

/- The plain mathematics of one's complement sums of words of 16 bits. No condition beyond bounds. -/
namespace Go.Proofs.YtoghcefamoefpaaGreatDoor
open Go.RowKit

/-- what stands above 16 bits is added below, till nothing stands there. -/
def fo (n : Int) : Int := if n ≤ 0 then 0 else (n - 1) % 65535 + 1

theorem fo_lo (n : Int) : 0 ≤ fo n := by unfold fo; split <;> omega
theorem fo_hi (n : Int) : fo n ≤ 65535 := by unfold fo; split <;> omega
theorem fo_small (n : Int) (h0 : 0 ≤ n) (h : n ≤ 65535) : fo n = n := by unfold fo; split <;> omega
theorem fo_step (n : Int) (h : 65535 < n) : fo (n / 65536 + n % 65536) = fo n := by unfold fo; split <;> split <;> omega
theorem fo_fo (a b : Int) (ha : 0 ≤ a) (hb : 0 ≤ b) : fo (fo a + b) = fo (a + b) := by unfold fo; repeat' split <;> try omega
theorem fo_fo' (a b : Int) (ha : 0 ≤ a) (hb : 0 ≤ b) : fo (a + fo b) = fo (a + b) := by rw [Int.add_comm, fo_fo b a hb ha, Int.add_comm]
theorem fo_sub (n : Int) (h : 65535 < n) (h2 : n ≤ 131070) : n - 65535 = fo n := by unfold fo; split <;> omega

theorem u16_not (x : Int) (h0 : 0 ≤ x) (h1 : x ≤ 65535) : bits .xor .u16 65535 x = 65535 - x := by
  rw [u16_xor 65535 x (by omega) (by omega) h0 (by omega)]
  obtain ⟨n, rfl⟩ := Int.eq_ofNat_of_zero_le h0
  have hn : n < 2 ^ 16 := by omega
  have e : (65535 ^^^ n : Nat) = 65535 - n := by
    apply Nat.eq_of_testBit_eq
    intro i
    have h := Nat.testBit_two_pow_sub_succ hn i
    rw [show 2 ^ 16 - (n + 1) = 65535 - n by omega] at h
    rw [h, Nat.testBit_xor]
    have h2 := Nat.testBit_two_pow_sub_one 16 i
    rw [show 2 ^ 16 - 1 = 65535 by omega] at h2
    rw [h2]
    by_cases hi : i < 16
    · simp [hi]
    · have hf : n.testBit i = false := Nat.testBit_lt_two_pow (Nat.lt_of_lt_of_le hn (Nat.pow_le_pow_right (by omega) (by omega)))
      simp [hi, hf]
  show ((65535 ^^^ n : Nat) : Int) = _
  rw [e]; omega

theorem u64_or8 (a b : Int) (a0 : 0 ≤ a) (a1 : a ≤ 255) (b0 : 0 ≤ b) (b1 : b ≤ 255) : bits .or .u64 (a * 256) b = a * 256 + b := by
  rw [u64_or _ _ (by omega) (by omega) b0 (by omega), nat_join 8 _ _ (by omega) (by omega)]
  omega
theorem u16_or8 (a b : Int) (a0 : 0 ≤ a) (a1 : a ≤ 255) (b0 : 0 ≤ b) (b1 : b ≤ 255) : bits .or .u16 (a * 256) b = a * 256 + b := by
  rw [u16_or _ _ (by omega) (by omega) b0 (by omega), nat_join 8 _ _ (by omega) (by omega)]
  omega

/-- what a check sum is when a word that was old is now another. -/
def mend (c o n : Int) : Int := 65535 - fo (fo (65535 - c + (65535 - o)) + n)
theorem mend_lo (c o n : Int) : 0 ≤ mend c o n := by unfold mend; have := fo_hi (fo (65535 - c + (65535 - o)) + n); omega
theorem mend_hi (c o n : Int) : mend c o n ≤ 65535 := by unfold mend; have := fo_lo (fo (65535 - c + (65535 - o)) + n); omega

def pseudo (s d p z : Int) : Int := fo (s / 65536 + s % 65536 + (d / 65536 + d % 65536) + p % 65536 + z % 65536)

/-- the words' total. -/
def tot : List UInt8 → Int
  | [] => 0
  | [a] => 256 * (a.toNat : Int)
  | a :: b :: r => 256 * (a.toNat : Int) + (b.toNat : Int) + tot r
theorem tot_lo : ∀ l : List UInt8, 0 ≤ tot l
  | [] => by simp [tot]
  | [a] => by simp only [tot]; omega
  | a :: b :: r => by have := tot_lo r; simp only [tot]; omega
theorem tot_hi : ∀ l : List UInt8, tot l ≤ 65535 * (l.length : Int)
  | [] => by simp [tot]
  | [a] => by have := a.toNat_lt; simp [tot]; omega
  | a :: b :: r => by have := tot_hi r; have := a.toNat_lt; have := b.toNat_lt; simp [tot]; omega

def wrds : List UInt8 → List Int
  | [] => []
  | [a] => [256 * (a.toNat : Int)]
  | a :: b :: r => (256 * (a.toNat : Int) + (b.toNat : Int)) :: wrds r
theorem wrds_append : ∀ (p q : List UInt8), p.length % 2 = 0 → wrds (p ++ q) = wrds p ++ wrds q
  | [], q, _ => rfl
  | [a], q, h => by simp at h
  | a :: b :: r, q, h => by
    have := wrds_append r q (by simp at h; omega)
    simp only [List.cons_append, wrds, this]
theorem wrds_length : ∀ (p : List UInt8), (wrds p).length = (p.length + 1) / 2
  | [] => rfl
  | [a] => by simp [wrds]
  | a :: b :: r => by have := wrds_length r; simp only [wrds, List.length_cons, this]; omega
theorem wrds_sum : ∀ (p : List UInt8), (wrds p).sum = tot p
  | [] => rfl
  | [a] => by simp [wrds, tot]
  | a :: b :: r => by have := wrds_sum r; simp [wrds, tot, this]
theorem wrds_bd : ∀ (p : List UInt8), ∀ x ∈ wrds p, 0 ≤ x ∧ x ≤ 65535
  | [] => by simp [wrds]
  | [a] => by have := a.toNat_lt; intro x hx; simp [wrds] at hx; omega
  | a :: b :: r => by
    have h1 := a.toNat_lt
    have h2 := b.toNat_lt
    have := wrds_bd r
    intro x hx
    simp only [wrds, List.mem_cons] at hx
    rcases hx with rfl | hx
    · omega
    · exact this x hx
theorem wrds_two (l : List UInt8) (i : Nat) (hi : i % 2 = 0) (h : i + 1 < l.length) : wrds (l.take (i + 2)) = wrds (l.take i) ++ [256 * (l[i].toNat : Int) + (l[i + 1].toNat : Int)] := by
  have e : l.take (i + 2) = l.take i ++ [l[i], l[i + 1]] := by
    rw [show i + 2 = i + 1 + 1 from rfl, List.take_succ_eq_append_getElem (by omega), List.take_succ_eq_append_getElem (by omega), List.append_assoc]; rfl
  rw [e, wrds_append _ _ (by rw [List.length_take, Nat.min_eq_left (by omega)]; exact hi)]
  rfl
theorem wrds_one (l : List UInt8) (i : Nat) (hi : i % 2 = 0) (h : i + 1 = l.length) : wrds (l.take (i + 2)) = wrds (l.take i) ++ [256 * ((l[i]'(by omega)).toNat : Int)] := by
  have e : l.take (i + 2) = l.take i ++ [l[i]] := by
    rw [List.take_of_length_le (by omega)]
    rw [← List.take_succ_eq_append_getElem (by omega), List.take_of_length_le (by omega)]
  rw [e, wrds_append _ _ (by rw [List.length_take, Nat.min_eq_left (by omega)]; exact hi)]
  rfl

end Go.Proofs.YtoghcefamoefpaaGreatDoor

/- The total of words of which one is another; bytes that all are 0; one byte that is another. Plain mathematics. -/
namespace Go.Proofs.YtoghcefamoefpaaGreatDoor
open Go.RowKit

theorem tot_set : ∀ (k : Nat) (l : List UInt8) (a b : UInt8) (h : 2 * k + 1 < l.length),
    tot ((l.set (2 * k) a).set (2 * k + 1) b) = tot l - (256 * (l[2 * k].toNat : Int) + (l[2 * k + 1].toNat : Int)) + (256 * (a.toNat : Int) + (b.toNat : Int))
  | 0, x :: y :: r, a, b, h => by simp [tot]; omega
  | k + 1, x :: y :: r, a, b, h => by
    have ih := tot_set k r a b (by simp at h; omega)
    have e : 2 * (k + 1) = 2 * k + 1 + 1 := by omega
    simp only [e, List.set_cons_succ, List.getElem_cons_succ, tot, ih]
    omega
  | 0, [], a, b, h => by simp at h
  | 0, [x], a, b, h => by simp at h
  | k + 1, [], a, b, h => by simp at h
  | k + 1, [x], a, b, h => by simp at h

def allz (l : List UInt8) : Bool := l.all (· == 0)
theorem allz_tot : ∀ l : List UInt8, allz l = true → tot l = 0
  | [], _ => rfl
  | [a], h => by simp [allz] at h; subst h; rfl
  | a :: b :: r, h => by
    simp only [allz, List.all_cons, Bool.and_eq_true, beq_iff_eq] at h
    obtain ⟨rfl, rfl, h⟩ := h
    have := allz_tot r h
    simp only [tot, this]; rfl
theorem tot_allz : ∀ l : List UInt8, allz l = false → 0 < tot l
  | [], h => by simp [allz] at h
  | [a], h => by
    simp [allz] at h
    have : a.toNat ≠ 0 := fun e => h (UInt8.toNat_inj.1 (by simpa using e))
    simp only [tot]; omega
  | a :: b :: r, h => by
    have hr := tot_lo r
    by_cases ha : a = 0
    · by_cases hb : b = 0
      · subst ha hb
        have := tot_allz r (by simpa [allz] using h)
        simp only [tot]; simp; omega
      · have : b.toNat ≠ 0 := fun e => hb (UInt8.toNat_inj.1 (by simpa using e))
        simp only [tot]; omega
    · have : a.toNat ≠ 0 := fun e => ha (UInt8.toNat_inj.1 (by simpa using e))
      simp only [tot]; omega
theorem allz_snoc (l : List UInt8) (j : Nat) (h : j < l.length) : allz (l.take (j + 1)) = (allz (l.take j) && (l[j] == 0)) := by
  unfold allz
  rw [List.take_succ_eq_append_getElem h, List.all_append]; simp

theorem byte_zero (b : UInt8) : ((b.toNat : Int) == 0) = (b == 0) := by
  by_cases h : b = 0
  · subst h; rfl
  · have : ¬ ((b.toNat : Int) = 0) := fun e => h (UInt8.toNat_inj.1 (by simpa using e))
    rw [beq_eq_false_iff_ne.2 h, beq_eq_false_iff_ne.2 this]
theorem tot_word : ∀ (l : List UInt8) (k : Nat) (h : 2 * k + 1 < l.length) (x y : Int) (_ : (l[2 * k].toNat : Int) = x) (_ : (l[2 * k + 1].toNat : Int) = y), 256 * x + y ≤ tot l := by
  intro l k h x y hx hy
  have := tot_set k l 0 0 h
  have h2 := tot_lo ((l.set (2 * k) 0).set (2 * k + 1) 0)
  rw [hx, hy] at this
  simp at this
  omega

/-- mended, it is that of the changed words, where these are not all 0. -/
theorem mend_fits (T o n : Int) (T0 : 0 ≤ T - o) (o0 : 0 ≤ o) (o1 : o ≤ 65535) (n0 : 0 ≤ n) (h : 0 < T - o + n) : mend (65535 - fo T) o n = 65535 - fo (T - o + n) := by
  unfold mend
  rw [show 65535 - (65535 - fo T) + (65535 - o) = fo T + (65535 - o) from by omega, fo_fo T (65535 - o) (by omega) (by omega), fo_fo (T + (65535 - o)) n (by omega) n0]
  congr 1
  unfold fo; split <;> split <;> omega

def b8 (n : Int) : UInt8 := UInt8.ofNat n.toNat
theorem b8_is (n : Int) (h0 : 0 ≤ n) (h1 : n ≤ 255) : ((b8 n).toNat : Int) = n := by
  unfold b8
  rw [UInt8.toNat_ofNat_of_lt' (by show _ < 256; omega)]; omega

theorem fo_top (n : Int) : fo n = 65535 ↔ 0 < n ∧ n % 65535 = 0 := by unfold fo; split <;> omega
/-- with their own check sum among them words have the sum 65535. -/
theorem stands (T : Int) (h : 0 ≤ T) : fo (T + (65535 - fo T)) = 65535 := by
  rw [fo_top]; unfold fo; split <;> omega
theorem tot_one : ∀ (l : List UInt8) (i : Nat) (b : UInt8) (h : i < l.length), ∃ m : Int, (m = 1 ∨ m = 256) ∧ tot (l.set i b) = tot l + m * ((b.toNat : Int) - (l[i].toNat : Int))
  | [], _, _, h => by simp at h
  | [a], 0, b, _ => ⟨256, .inr rfl, by simp only [List.set_cons_zero, List.getElem_cons_zero, tot]; omega⟩
  | [a], i + 1, b, h => by simp at h
  | a :: c :: r, 0, b, _ => ⟨256, .inr rfl, by simp only [List.set_cons_zero, List.getElem_cons_zero, tot]; omega⟩
  | a :: c :: r, 1, b, _ => ⟨1, .inl rfl, by simp only [List.set_cons_zero, List.set_cons_succ, List.getElem_cons_zero, List.getElem_cons_succ, tot]; omega⟩
  | a :: c :: r, i + 2, b, h => by
    obtain ⟨m, hm, e⟩ := tot_one r i b (by simpa using h)
    exact ⟨m, hm, by simp only [List.set_cons_succ, List.getElem_cons_succ, tot, e]; omega⟩
/-- one byte that is another is seen. -/
theorem seen (l : List UInt8) (i : Nat) (b : UInt8) (h : i < l.length) (hb : b ≠ l[i]) (ht : fo (tot l) = 65535) : fo (tot (l.set i b)) ≠ 65535 := by
  obtain ⟨m, hm, e⟩ := tot_one l i b h
  have h1 : b.toNat ≠ l[i].toNat := fun e => hb (UInt8.toNat_inj.1 e)
  have h2 := b.toNat_lt
  have h3 := l[i].toNat_lt
  intro hf
  rw [fo_top] at ht hf
  rw [e] at hf
  rcases hm with rfl | rfl <;> omega
theorem xor_walk (a : UInt8) (x : Int) (h0 : 0 ≤ x) (h1 : x ≤ 255) : bits .xor .u8 (a.toNat : Int) x = ((a ^^^ b8 x).toNat : Int) := by
  have ha := a.toNat_lt
  rw [u8_xor _ x (by omega) (by omega) h0 (by omega), UInt8.toNat_xor]
  have := b8_is x h0 h1
  rw [Int.toNat_natCast, show x.toNat = (b8 x).toNat from by omega]
theorem xor_other (a : UInt8) (x : Int) (h0 : x ≠ 0) (h1 : 0 ≤ x) (h2 : x ≤ 255) : a ^^^ b8 x ≠ a := by
  intro h
  have : b8 x = 0 := by
    have h' : a ^^^ (a ^^^ b8 x) = a ^^^ a := by rw [h]
    simpa [← UInt8.xor_assoc] using h'
  have e := b8_is x h1 h2
  rw [this] at e
  simp at e
  omega

theorem stand_words (L l1 : List UInt8) (k : Nat) (h : 2 * k + 1 < L.length) (e : l1 = (L.set (2 * k) 0).set (2 * k + 1) 0) :
    fo (tot ((l1.set (2 * k) (b8 ((65535 - fo (tot l1)) / 256))).set (2 * k + 1) (b8 ((65535 - fo (tot l1)) % 256)))) = 65535 := by
  have hl : 2 * k + 1 < l1.length := by rw [e]; simpa using h
  have f1 := fo_lo (tot l1)
  have f2 := fo_hi (tot l1)
  have hz1 : l1[2 * k] = 0 := by subst e; rw [List.getElem_set_ne (by omega), List.getElem_set_self]
  have hz2 : l1[2 * k + 1] = 0 := by subst e; rw [List.getElem_set_self]
  rw [tot_set k l1 _ _ hl, hz1, hz2, b8_is _ (by omega) (by omega), b8_is _ (by omega) (by omega)]
  have := stands (tot l1) (tot_lo l1)
  rw [← this]
  congr 1
  simp; omega
end Go.Proofs.YtoghcefamoefpaaGreatDoor

/- Packets and the bytes of their heads: plain mathematics. No condition beyond bounds. -/
namespace Go.Proofs.YtoghcefamoefpaaGreatDoor
open Go.RowKit

/-- the byte at a place, as a number. -/
def g8 (l : List UInt8) (k : Nat) : Int := ((l.getD k 0).toNat : Int)
theorem g8_lo (l : List UInt8) (k : Nat) : 0 ≤ g8 l k := by unfold g8; omega
theorem g8_hi (l : List UInt8) (k : Nat) : g8 l k ≤ 255 := by unfold g8; have := (l.getD k 0).toNat_lt; omega
theorem g8_at (l : List UInt8) (k : Nat) (h : k < l.length) : g8 l k = (l[k].toNat : Int) := by unfold g8; simp [List.getD, h]
/-- the number of two bytes at a place. -/
def wd (l : List UInt8) (k : Nat) : Int := g8 l k * 256 + g8 l (k + 1)
theorem wd_lo (l : List UInt8) (k : Nat) : 0 ≤ wd l k := by have := g8_lo l k; have := g8_lo l (k + 1); unfold wd; omega
theorem wd_hi (l : List UInt8) (k : Nat) : wd l k ≤ 65535 := by have := g8_hi l k; have := g8_hi l (k + 1); unfold wd; omega
/-- the address at a place. -/
def ad4 (l : List UInt8) (k : Nat) : Int := wd l k * 65536 + wd l (k + 2)
theorem ad4_lo (l : List UInt8) (k : Nat) : 0 ≤ ad4 l k := by have := wd_lo l k; have := wd_lo l (k + 2); unfold ad4; omega
theorem ad4_hi (l : List UInt8) (k : Nat) : ad4 l k ≤ 4294967295 := by have := wd_hi l k; have := wd_hi l (k + 2); unfold ad4; omega

structure Pk where
  tos : Int
  id : Int
  df : Bool
  mf : Bool
  off : Int
  ttl : Int
  proto : Int
  src : Int
  dst : Int
  opts : List UInt8
  body : List UInt8

def Pk.empty : Pk := ⟨0, 0, false, false, 0, 0, 0, 0, 0, [], []⟩
theorem Pk.ext' {p q : Pk} (h1 : p.tos = q.tos) (h2 : p.id = q.id) (h3 : p.df = q.df) (h4 : p.mf = q.mf) (h5 : p.off = q.off) (h6 : p.ttl = q.ttl) (h7 : p.proto = q.proto) (h8 : p.src = q.src) (h9 : p.dst = q.dst) (h10 : p.opts = q.opts) (h11 : p.body = q.body) : p = q := by
  cases p; cases q; simp_all

/-- the two packets' fields are the same. -/
def sameB (p q : Pk) : Bool := p.tos == q.tos && (p.id == q.id && (p.df == q.df && (p.mf == q.mf && (p.off == q.off && (p.ttl == q.ttl && (p.proto == q.proto && (p.src == q.src && (p.dst == q.dst && (p.opts == q.opts && p.body == q.body)))))))))
theorem sameB_iff (p q : Pk) : sameB p q = true ↔ p = q := by
  cases p; cases q; simp [sameB]

/-- do a body and its place fit? -/
def fitsB (p : Pk) : Bool := decide (20 + (p.opts.length : Int) + p.off + (p.body.length : Int) ≤ 65535) && (!p.mf || (decide (0 < p.body.length) && decide (p.body.length % 8 = 0)))
def upB (n m : Int) : Bool := decide (0 ≤ n) && decide (n ≤ m)
/-- may it be put? -/
def mayB (p : Pk) : Bool := upB p.tos 255 && (upB p.ttl 255 && (upB p.proto 255 && (upB p.id 65535 && (upB p.off 65528 && (decide (p.off % 8 = 0) && (decide (p.opts.length ≤ 40) && (decide (p.opts.length % 4 = 0) && fitsB p)))))))
structure May (p : Pk) : Prop where
  t0 : 0 ≤ p.tos
  t1 : p.tos ≤ 255
  l0 : 0 ≤ p.ttl
  l1 : p.ttl ≤ 255
  r0 : 0 ≤ p.proto
  r1 : p.proto ≤ 255
  i0 : 0 ≤ p.id
  i1 : p.id ≤ 65535
  o0 : 0 ≤ p.off
  o1 : p.off ≤ 65528
  o8 : p.off % 8 = 0
  p40 : p.opts.length ≤ 40
  p4 : p.opts.length % 4 = 0
  fit : 20 + (p.opts.length : Int) + p.off + (p.body.length : Int) ≤ 65535
  mf : p.mf = true → 0 < p.body.length ∧ p.body.length % 8 = 0
theorem fitsB_iff (p : Pk) : fitsB p = true ↔ 20 + (p.opts.length : Int) + p.off + (p.body.length : Int) ≤ 65535 ∧ (p.mf = true → 0 < p.body.length ∧ p.body.length % 8 = 0) := by
  unfold fitsB
  cases p.mf <;> simp
theorem mayB_iff (p : Pk) : mayB p = true ↔ May p := by
  unfold mayB upB
  constructor
  · intro h
    simp only [Bool.and_eq_true, decide_eq_true_eq, fitsB_iff] at h
    obtain ⟨⟨a, b⟩, ⟨c, d⟩, ⟨e, f⟩, ⟨g, i⟩, ⟨j, k⟩, l, m, n, o, q⟩ := h
    exact ⟨a, b, c, d, e, f, g, i, j, k, l, m, n, o, q⟩
  · intro h
    simp only [Bool.and_eq_true, decide_eq_true_eq, fitsB_iff]
    exact ⟨⟨h.t0, h.t1⟩, ⟨h.l0, h.l1⟩, ⟨h.r0, h.r1⟩, ⟨h.i0, h.i1⟩, ⟨h.o0, h.o1⟩, h.o8, h.p40, h.p4, h.fit, h.mf⟩

/-- the word that Off shares with its bits. -/
def flg (p : Pk) : Int := p.off / 8 + (if p.mf then 8192 else 0) + (if p.df then 16384 else 0)
/-- how many bytes the head has, and the whole. -/
def hln (p : Pk) : Int := 20 + (p.opts.length : Int)
def whl (p : Pk) : Int := hln p + (p.body.length : Int)
/-- a head of 20 bytes, with a check sum. -/
def hd20 (p : Pk) (check : Int) : List UInt8 :=
  [b8 (64 + hln p / 4), b8 p.tos, b8 (whl p / 256), b8 (whl p % 256), b8 (p.id / 256), b8 (p.id % 256), b8 (flg p / 256), b8 (flg p % 256), b8 p.ttl, b8 p.proto, b8 (check / 256), b8 (check % 256),
    b8 (p.src / 16777216), b8 (p.src / 65536 % 256), b8 (p.src / 256 % 256), b8 (p.src % 256), b8 (p.dst / 16777216), b8 (p.dst / 65536 % 256), b8 (p.dst / 256 % 256), b8 (p.dst % 256)]
def hd (p : Pk) (check : Int) : List UInt8 := hd20 p check ++ p.opts
def chk (p : Pk) : Int := 65535 - fo (tot (hd p 0))
theorem chk_lo (p : Pk) : 0 ≤ chk p := by unfold chk; have := fo_hi (tot (hd p 0)); omega
theorem chk_hi (p : Pk) : chk p ≤ 65535 := by unfold chk; have := fo_lo (tot (hd p 0)); omega
/-- the packet's bytes. -/
def putB (p : Pk) : List UInt8 := hd p (chk p) ++ p.body
theorem hd_length (p : Pk) (c : Int) : (hd p c).length = 20 + p.opts.length := by simp [hd, hd20]; omega
theorem putB_length (p : Pk) : (putB p).length = 20 + p.opts.length + p.body.length := by simp [putB, hd_length]

/-- the packet of these bytes, or the first error. -/
def headN (l : List UInt8) : Int := g8 l 0 % 16 * 4
def prs (l : List UInt8) : Int × Pk :=
  if l.length < 20 then (2, Pk.empty)
  else if g8 l 0 / 16 ≠ 4 ∨ headN l < 20 ∨ (l.length : Int) < headN l then (3, Pk.empty)
  else if wd l 2 < headN l ∨ (l.length : Int) < wd l 2 then (4, Pk.empty)
  else if fo (tot (l.take (headN l).toNat)) ≠ 65535 then (5, Pk.empty)
  else
    let p : Pk := ⟨g8 l 1, wd l 4, decide (wd l 6 / 16384 % 2 = 1), decide (wd l 6 / 8192 % 2 = 1), wd l 6 % 8192 * 8, g8 l 8, g8 l 9, ad4 l 12, ad4 l 16, (l.take (headN l).toNat).drop 20, (l.take (wd l 2).toNat).drop (headN l).toNat⟩
    if 32768 ≤ wd l 6 ∨ fitsB p = false then (7, Pk.empty) else (0, p)
end Go.Proofs.YtoghcefamoefpaaGreatDoor

/- Rows of bytes of a call's own; cells of bytes by their places; an array's element. -/
namespace Go.Proofs.YtoghcefamoefpaaGreatDoor
open Go.ChangeShapes Go.WideShapes Go.ChangeAt Go.RowKit
set_option linter.unusedVariables false

theorem g8_cell {w : World} {B : Nat} {A : Option Addr} {l : List UInt8} (h : Bs w B A l) {k : Nat} (hk : k < l.length) : ∃ ad, A = some ad ∧ ad.block < B ∧ w.cell? (ad.add k) = some (.int .u8 (g8 l k)) := by
  rw [g8_at l k hk]
  exact h.at_ hk
theorem g8_cells {w : World} {B : Nat} {A : Option Addr} {l : List UInt8} (h : Bs w B A l) (hl : 0 < l.length) : ∃ ad, A = some ad ∧ ad.block < B ∧ ∀ k, k < l.length → w.cell? (ad.add k) = some (.int .u8 (g8 l k)) := by
  rcases h with h | ⟨ad, rfl, hlt, hcell⟩
  · subst h; simp at hl
  · exact ⟨ad, rfl, hlt, fun k hk => by rw [g8_at l k hk]; exact hcell k _ (List.getElem?_eq_getElem hk)⟩

/-- a row of bytes of the call's own. -/
def Own (w : World) (base g n c : Nat) (l : List UInt8) : Prop := w.ownsRow base 5 1 (.slice (some ⟨g, 0, none⟩) n c) n (l.map bv)
theorem Own.len {w : World} {base g n c : Nat} {l : List UInt8} (h : Own w base g n c l) : l.length = n := by have := h.1; simpa using this
theorem Own.lt {w : World} {base g n c : Nat} {l : List UInt8} (h : Own w base g n c l) : base ≤ g ∧ g < w.heap.size := World.ownsRow.lt h g rfl
theorem Own.bs {w : World} {base g n c : Nat} {l : List UInt8} (h : Own w base g n c l) : Bs w w.heap.size (some ⟨g, 0, none⟩) l := (rd_of_own' h).bs
theorem Own.stored {w : World} {base g n c : Nat} {l : List UInt8} (h : Own w base g n c l) (j : Nat) (x : Int) (h0 : 0 ≤ x) (h1 : x ≤ 255) :
    Own (w.setCell ⟨g, j, none⟩ (.int .u8 x)) base g n c (l.set j (b8 x)) ∧ Below base w (w.setCell ⟨g, j, none⟩ (.int .u8 x)) := by
  have e : Value.int .u8 x = bv (b8 x) := by unfold bv; rw [b8_is x h0 h1]
  rw [e]
  have hs := World.ownsRow.stored h j (bv (b8 x))
  refine ⟨?_, (Below.refl _ _).setCell h.lt.1 _⟩
  unfold Own
  rw [List.map_set]
  exact hs.1
theorem Own.cap {w : World} {base g n c : Nat} {l : List UInt8} (h : Own w base g n c l) : n ≤ c ∧ c ≤ maxLen := by
  rcases h.2 with ⟨h, _⟩ | ⟨g', cap, cur, hv, hb, hh, hn, hm, hs, ht⟩
  · cases h
  · injection hv with h1 h2 h3; subst h3; exact ⟨hn, hm⟩
theorem Own.below {w w' : World} {base g n c : Nat} {l : List UInt8} (h : Own w base g n c l) (hb : Below w.heap.size w w') : Own w' base g n c l := by
  refine ⟨h.1, ?_⟩
  rcases h.2 with h | ⟨g', cap, cur, hv, hba, hh, hn, hm, hs, ht⟩
  · exact .inl h
  · refine .inr ⟨g', cap, cur, hv, hba, ?_, hn, hm, hs, ht⟩
    rw [hb.block g' (Array.getElem?_eq_some_iff.1 hh).1]; exact hh
theorem Own.cellAt {w : World} {base g n c : Nat} {l : List UInt8} (h : Own w base g n c l) (j : Nat) (hj : j < n) : w.cell? ⟨g, j, none⟩ = some (.int .u8 (g8 l j)) := by
  have := own_cell h j (by have := h.len; simpa [this] using hj)
  rw [this, g8_at l j (by have := h.len; omega)]; simp [bv]
theorem Own.frozenAt {w : World} {base g n c : Nat} {l : List UInt8} (h : Own w base g n c l) (j : Nat) : w.frozen? ⟨g, j, none⟩ = false := World.ownsRow.frozenAt h j

theorem info_int : (Tryz.prog.info? 3).map (fun i => (i.zero, i.size, i.bytes)) = some (some (.int .i64 0), 1, 8) := by kernel_rfl
theorem info_byte : (Tryz.prog.info? 5).map (fun i => (i.zero, i.size, i.bytes)) = some (some (.int .u8 0), 1, 1) := by kernel_rfl

theorem own_made (w : World) (base n c : Nat) (hb : base ≤ w.heap.size) (hnc : n ≤ c) (hm : c ≤ maxLen) : Own (w.alloc (.cells (madeCells #[.int .u8 0] c) 5)) base w.heap.size n c (List.replicate n 0) := by
  refine ⟨by simp, .inr ⟨w.heap.size, c, madeCells #[.int .u8 0] c, rfl, hb, heap_alloc_new w _, hnc, hm, by rw [size_madeCells, Nat.mul_one], ?_⟩⟩
  rw [toList_madeCells_one, Nat.mul_one, List.take_replicate, Nat.min_eq_left hnc, List.map_replicate]
  rfl
/-- what lies in the block of a row, and what a splice into it makes. -/
theorem Own.block {w : World} {base g n c : Nat} {l : List UInt8} (h : Own w base g n c l) : ∃ cur : List Value, w.heap[g]? = some (.cells cur.toArray 5 (0, 0)) ∧ cur.length = c ∧ cur.take n = l.map bv := by
  rcases h.2 with ⟨h, _⟩ | ⟨g', cap, cur, hv, hb, hh, hn, hm, hs, ht⟩
  · cases h
  · injection hv with h1 h2 h3
    subst h3
    injection h1 with h1
    injection h1 with h1
    subst h1
    exact ⟨cur.toList, by simpa using hh, by simpa using hs, by simpa using ht⟩
theorem Own.of_block {w : World} {base g n c : Nat} {l : List UInt8} {cur : List Value} (hb : base ≤ g) (hh : w.heap[g]? = some (.cells cur.toArray 5 (0, 0))) (hc : cur.length = c) (hn : n ≤ c) (hm : c ≤ maxLen) (hl : l.length = n) (ht : cur.take n = l.map bv) : Own w base g n c l :=
  ⟨by simpa using hl, .inr ⟨g, c, cur.toArray, rfl, hb, hh, hn, hm, by simpa using hc, by simpa using ht⟩⟩
theorem take_splice {cur : List Value} {l o : List UInt8} (k : Nat) (ht : cur.take (k + o.length) = l.map bv) (hc : k + o.length ≤ cur.length) : (splice cur k (o.map bv)).take (k + o.length) = (l.take k ++ o).map bv := by
  unfold splice
  have e1 : (cur.take k).length = k := by rw [List.length_take]; omega
  have e2 : (l.take k).map bv = cur.take k := by rw [List.map_take, ← ht, List.take_take, Nat.min_eq_left (by omega)]
  rw [List.map_append, e2, List.take_append, e1, List.take_of_length_le (by omega)]
  congr 1
  rw [show k + o.length - k = (o.map bv).length by simp, List.take_append_of_le_length (Nat.le_refl _), List.take_length]

theorem upx {P : Program} {f : FuncId} {args : Array Value} {w W : World} {B : Nat} {v : Value} (h : Calls P f args w fun e w' => e = .returned v ∧ Below w.heap.size w w') (hb : Below B W w) (hB : B ≤ w.heap.size) :
    Calls P f args w fun e w' => e = .returned v ∧ Below w.heap.size w w' ∧ Below B W w' :=
  h.mono fun _ _ ⟨he, hw⟩ => ⟨he, hw, hb.trans (hw.mono hB)⟩
theorem dn0 (w : World) : ∃ m, w = w.drewN m := ⟨0, rfl⟩
/-- an array of ints by value: its element. -/
theorem run_index_arr (t e : TypeId) (n : Nat) (k : IntKind) (i : TypeInfo) (cs : Array Value) (j : Nat) (v : Value) (h : Tryz.prog.underlying t = some (.array n e)) (he : Tryz.prog.underlying e = some (.int k)) (hi : Tryz.prog.info? e = some i) (hs : Tryz.prog.cellsOf e = 1) (hj : j < n) (hv : cs[j]? = some v) (w : World) :
    (Instr.index t (.agg cs) (.int .i64 (j : Int))).run Tryz.prog w = .ok v w := by
  simp [Instr.index, run_underlying h, asIntOf, hj, go_sem, run_sizeOf w hi, hs, part, isAgg, run_underlying he, hv]
theorem four_rd (W : World) (a b c d : Int) (ha : 0 ≤ a ∧ a ≤ 255) (hb : 0 ≤ b ∧ b ≤ 255) (hc : 0 ≤ c ∧ c ≤ 255) (hd : 0 ≤ d ∧ d ≤ 255) :
    Rd (W.alloc (.cells #[.int .u8 a, .int .u8 b, .int .u8 c, .int .u8 d] 5)) (W.heap.size + 1) (some ⟨W.heap.size, 0, none⟩) ([b8 a, b8 b, b8 c, b8 d].map bv) := by
  refine .inr ⟨_, rfl, by simp, fun j u hj => ?_⟩
  match j, hj with
  | 0, hj => simp [bv, b8_is a ha.1 ha.2] at hj; subst hj; simp [Addr.add]
  | 1, hj => simp [bv, b8_is b hb.1 hb.2] at hj; subst hj; simp [Addr.add]
  | 2, hj => simp [bv, b8_is c hc.1 hc.2] at hj; subst hj; simp [Addr.add]
  | 3, hj => simp [bv, b8_is d hd.1 hd.2] at hj; subst hj; simp [Addr.add]

end Go.Proofs.YtoghcefamoefpaaGreatDoor

/- Structs of many cells, by value: a load, a store into the block that was made last, as laws of the walk (cell by cell the kernel runs out of memory at nineteen). No condition. -/
namespace Go.Proofs.YtoghcefamoefpaaGreatDoor
open Go.ChangeShapes Go.WideShapes Go.ChangeAt Go.RowKit
set_option linter.unusedVariables false

section
variable {P : Program}
theorem run_loadVar_at (w : World) (ad : Addr) (ty : TypeId) (cs : List Value) (d : TypeDesc) (hc : ∀ j v, cs[j]? = some v → w.cell? (ad.add j) = some v)
    (hu : P.underlying ty = some d) (hd : d.isRow = true) (hi : (P.info? ty).map (·.size) = some cs.length) :
    (loadVar ty ad).run P w = .ok (.agg cs.toArray) w := by
  have hl : (loadCells ad cs.length).run P w = .ok cs.toArray w := run_loadCells_list (P := P) w ad cs hc
  cases hq : P.info? ty with
  | none => simp [hq] at hi
  | some i =>
    have hs : i.size = cs.length := by simpa [hq] using hi
    have hagg : (isAgg ty).run P w = .ok true w := by
      unfold isAgg
      rw [Sem.run_bind, run_underlying hu w]
      cases d <;> simp_all
    simp [loadVar, Sem.run_bind, hagg, sizeOf, typeInfo, hq, hs, hl]
theorem wpList_load_at {ops : Array Oper} {rest : List Oper} {op : Oper} {a : Act} {w : World} {Q : Exit → Act → World → Prop} (hgd : Region.wanted op (yielded ops a.tmps) = true) (ty : TypeId) (x : Operand) (ho : op.op = .load ty x)
    (ad : Addr) (hx : a.eval x = .pointer (some ad)) (cs : List Value) (d : TypeDesc) (hc : ∀ j v, cs[j]? = some v → w.cell? (ad.add j) = some v)
    (hu : P.underlying ty = some d) (hd : d.isRow = true) (hi : (P.info? ty).map (·.size) = some cs.length)
    (h : wpList P ops Q rest (a.put op.dst (.agg cs.toArray)) w) : wpList P ops Q (op :: rest) a w :=
  BigFrame.wpList_want hgd fun _ hK => by
    unfold Oper.wp execOp
    simp only [ho, hx, Instr.loadAt, Instr.sureAddr, Sem.run_bind, Sem.run_pure, Result.andThen_ok, run_loadVar_at w ad ty cs d hc hu hd hi]
    exact hK _ _ h
theorem yieldsIf_load_at {ops : Array Oper} {S : World → Prop} {op : Oper} {a : Act} (hw : Region.wanted op (yielded ops a.tmps) = true) (ty : TypeId) (x : Operand) (ho : op.op = .load ty x)
    (ad : Addr) (hx : a.eval x = .pointer (some ad)) (cs : List Value) (d : TypeDesc) (hS : ∀ w, S w → ∀ j v, cs[j]? = some v → w.cell? (ad.add j) = some v)
    (hu : P.underlying ty = some d) (hd : d.isRow = true) (hi : (P.info? ty).map (·.size) = some cs.length) : YieldsIf P ops S op (.agg cs.toArray) a :=
  .inl ⟨hw, fun w hw' => by
    unfold execOp
    simp only [ho, hx, Instr.loadAt, Instr.sureAddr, Sem.run_bind, Sem.run_pure, Result.andThen_ok, run_loadVar_at w ad ty cs d (hS w hw') hu hd hi]⟩
theorem wpList_store_new {ops : Array Oper} {rest : List Oper} {op : Oper} {a : Act} {w : World} {Q : Exit → Act → World → Prop} (hgd : Region.wanted op (yielded ops a.tmps) = true) (ty : TypeId) (x y : Operand) (ho : op.op = .store ty x y)
    (c c' : Array Value) (hx : a.eval x = .pointer (some ⟨w.heap.size, 0, none⟩)) (hy : a.eval y = .agg c')
    (hi : (P.info? ty).map (·.size) = some c'.size) (hs : c.size = c'.size) (h1 : c'.all (·.oneCell') = true)
    (h : wpList P ops Q rest (a.put op.dst undef) (w.alloc (.cells c' ty))) : wpList P ops Q (op :: rest) a (w.alloc (.cells c ty)) :=
  BigFrame.wpList_want hgd fun _ hK => by
    unfold Oper.wp execOp
    simp only [ho, hx, hy, Instr.storeAt, Instr.sureAddr, Sem.run_bind, Sem.run_pure, Result.andThen_ok, run_storeVar_new (P := P) w ty c c' hi hs h1]
    exact hK _ _ h
end
/-- a block of a struct's own, known whole. -/
def Bxo (w : World) (g : Nat) (ty : TypeId) (cs : List Value) : Prop := w.heap[g]? = some (.cells cs.toArray ty (0, 0))
/-- one block has turned, and nothing else. -/
structure Only (g : Nat) (w w' : World) : Prop where
  os : w'.os = w.os
  tape : w'.tape = w.tape
  output : w'.output = w.output
  size : w'.heap.size = w.heap.size
  block : ∀ k, k ≠ g → w'.heap[k]? = w.heap[k]?
section
variable {w w' w'' : World} {g g' B : Nat} {ty : TypeId} {cs : List Value}
theorem Bxo.lt (h : Bxo w g ty cs) : g < w.heap.size := (Array.getElem?_eq_some_iff.1 h).1
theorem Bxo.made (w : World) (ty : TypeId) (cs : List Value) : Bxo (w.alloc (.cells cs.toArray ty)) w.heap.size ty cs := heap_alloc_new w _
theorem Bxo.keep (h : Bxo w g ty cs) (hb : Below B w w') (hg : g < B) : Bxo w' g ty cs := (hb.block g hg).trans h
theorem Bxo.cell (h : Bxo w g ty cs) (j : Nat) {v : Value} (hj : cs[j]? = some v) : w.cell? ⟨g, j, none⟩ = some v := by
  rw [cell_of_row w g j _ ty _ h]; simpa using hj
theorem Bxo.at (h : Bxo w g ty cs) : ∀ j v, cs[j]? = some v → w.cell? ((⟨g, 0, none⟩ : Addr).add j) = some v := fun j v hj => by
  rw [Addr.add_mid, Nat.zero_add]; exact h.cell j hj
theorem Bxo.frozen (h : Bxo w g ty cs) (j : Nat) : w.frozen? ⟨g, j, none⟩ = false := frozen_of_row w g j _ ty h
theorem Bxo.drew (h : Bxo w g ty cs) : Bxo w.drew g ty cs := h
theorem Bxo.alloc (h : Bxo w g ty cs) (o : Obj) : Bxo (w.alloc o) g ty cs := (Below.heap_alloc w o g h.lt).trans h
theorem Bxo.set (h : Bxo w g ty cs) (j : Nat) (v : Value) : Bxo (w.setCell ⟨g, j, none⟩ v) g ty (cs.set j v) := by
  have := heap_setCell_same w g j cs.toArray ty v h
  rw [List.setIfInBounds_toArray] at this
  exact this
theorem Bxo.other (h : Bxo w g ty cs) {a : Addr} (ha : g ≠ a.block) (v : Value) : Bxo (w.setCell a v) g ty cs := (heap_setCell_other w a g v ha).trans h
theorem Bxo.only (h : Bxo w g ty cs) (ho : Only g' w w') (hg : g ≠ g') : Bxo w' g ty cs := (ho.block g hg).trans h
theorem Only.refl : Only g w w := ⟨rfl, rfl, rfl, rfl, fun _ _ => rfl⟩
theorem Only.trans (h : Only g w w') (h' : Only g w' w'') : Only g w w'' := ⟨h'.os.trans h.os, h'.tape.trans h.tape, h'.output.trans h.output, h'.size.trans h.size, fun k hk => (h'.block k hk).trans (h.block k hk)⟩
theorem Only.below (h : Only g w w') (hB : B ≤ g) : Below B w w' := ⟨h.os, h.tape, h.output, Nat.le_of_eq h.size.symm, fun k hk => h.block k (by omega)⟩
theorem Only.drew (h : Only g w w') : Only g w w'.drew := ⟨h.os, h.tape, h.output, h.size, h.block⟩
theorem Only.set (h : Only g w w') (j : Nat) (v : Value) : Only g w (w'.setCell ⟨g, j, none⟩ v) := ⟨h.os, h.tape, h.output, by rw [← h.size]; simp, fun k hk => (heap_setCell_other w' ⟨g, j, none⟩ k v hk).trans (h.block k hk)⟩
end
/-- cells from a place on, replaced. -/
def spl : List Value → Nat → List Value → List Value
  | cs, _, [] => cs
  | cs, o, v :: r => spl (cs.set o v) (o + 1) r
theorem spl_length : ∀ (vs : List Value) (cs : List Value) (o : Nat), (spl cs o vs).length = cs.length
  | [], _, _ => rfl
  | v :: r, cs, o => by rw [spl, spl_length r]; simp
theorem Bxo.setCells {g : Nat} {ty : TypeId} : ∀ (vs : List Value) (o : Nat) (cs : List Value) (w : World), Bxo w g ty cs → Bxo (w.setCells g o vs) g ty (spl cs o vs) ∧ Only g w (w.setCells g o vs)
  | [], _, _, _, h => ⟨h, Only.refl⟩
  | v :: r, o, cs, w, h => by
    have := Bxo.setCells r (o + 1) (cs.set o v) _ (h.set o v)
    exact ⟨this.1, (Only.refl.set o v).trans this.2⟩
section
variable {P : Program}
/-- the walk's load of a whole block; its store; a store of several cells in the middle. -/
theorem wpList_load_box {ops : Array Oper} {rest : List Oper} {op : Oper} {a : Act} {w : World} {Q : Exit → Act → World → Prop} (hgd : Region.wanted op (yielded ops a.tmps) = true) (ty : TypeId) (x : Operand) (ho : op.op = .load ty x)
    (g : Nat) (hx : a.eval x = .pointer (some ⟨g, 0, none⟩)) (cs : List Value) (d : TypeDesc) (hc : Bxo w g ty cs)
    (hu : P.underlying ty = some d) (hd : d.isRow = true) (hi : (P.info? ty).map (·.size) = some cs.length)
    (h : wpList P ops Q rest (a.put op.dst (.agg cs.toArray)) w) : wpList P ops Q (op :: rest) a w :=
  wpList_load_at hgd ty x ho _ hx cs d hc.at hu hd hi h
theorem run_storeVar_box (w : World) (g o : Nat) (ty sty : TypeId) (cs vs : List Value) (hc : Bxo w g ty cs) (hi : (P.info? sty).map (·.size) = some vs.length) (ho : o + vs.length ≤ cs.length) (h1 : vs.toArray.all (·.oneCell') = true) :
    (storeVar sty ⟨g, o, none⟩ (.agg vs.toArray)).run P w = .ok () (w.setCells g o vs) :=
  run_storeVar_mid w g o sty vs.toArray (fun j hj => ⟨by rw [hc.cell (o + j) (List.getElem?_eq_getElem (Nat.lt_of_lt_of_le (Nat.add_lt_add_left (show j < vs.length from by simpa using hj) o) ho))]; rfl, hc.frozen _⟩) (by simpa using hi) h1
theorem wpList_store_box {ops : Array Oper} {rest : List Oper} {op : Oper} {a : Act} {w : World} {Q : Exit → Act → World → Prop} (hgd : Region.wanted op (yielded ops a.tmps) = true) (sty : TypeId) (x y : Operand) (ho : op.op = .store sty x y)
    (g o : Nat) (ty : TypeId) (cs vs : List Value) (hx : a.eval x = .pointer (some ⟨g, o, none⟩)) (hy : a.eval y = .agg vs.toArray) (hc : Bxo w g ty cs)
    (hi : (P.info? sty).map (·.size) = some vs.length) (hs : o + vs.length ≤ cs.length) (h1 : vs.toArray.all (·.oneCell') = true)
    (h : ∀ w', Bxo w' g ty (spl cs o vs) → Only g w w' → wpList P ops Q rest (a.put op.dst undef) w') : wpList P ops Q (op :: rest) a w :=
  BigFrame.wpList_want hgd fun _ hK => by
    unfold Oper.wp execOp
    simp only [ho, hx, hy, Instr.storeAt, Instr.sureAddr, Sem.run_bind, Sem.run_pure, Result.andThen_ok, run_storeVar_box w g o ty sty cs vs hc hi hs h1]
    obtain ⟨h2, h3⟩ := Bxo.setCells vs o cs w hc
    exact hK _ _ (h _ h2 h3)
/-- .. of a region that draws: one step of it. -/
theorem step_store_box {op : Oper} {a : Act} {w : World} {K : Act → World → Prop} {Q : Exit → Act → World → Prop} (sty : TypeId) (x y : Operand) (ho : op.op = .store sty x y)
    (g o : Nat) (ty : TypeId) (cs vs : List Value) (hx : a.eval x = .pointer (some ⟨g, o, none⟩)) (hy : a.eval y = .agg vs.toArray) (hc : Bxo w g ty cs)
    (hi : (P.info? sty).map (·.size) = some vs.length) (hs : o + vs.length ≤ cs.length) (h1 : vs.toArray.all (·.oneCell') = true)
    (h : ∀ w', Bxo w' g ty (spl cs o vs) → Only g w w' → K (a.put op.dst undef) w') : op.wp P a w K Q := by
  unfold Oper.wp execOp
  simp only [ho, hx, hy, Instr.storeAt, Instr.sureAddr, Sem.run_bind, Sem.run_pure, Result.andThen_ok, run_storeVar_box w g o ty sty cs vs hc hi hs h1]
  obtain ⟨h2, h3⟩ := Bxo.setCells vs o cs w hc
  exact h _ h2 h3
end
theorem below_alloc {w0 w : World} {B : Nat} (h : Below B w0 w) (hB : B ≤ w.heap.size) (o : Obj) : Below B w0 (w.alloc o) := h.trans ((Below.refl _ _).alloc hB _)
end Go.Proofs.YtoghcefamoefpaaGreatDoor

/- Structs of many cells: stores of whatever value, as steps; loads out of the middle. No condition. -/
namespace Go.Proofs.YtoghcefamoefpaaGreatDoor
open Go.ChangeShapes Go.WideShapes Go.ChangeAt Go.RowKit
set_option linter.unusedVariables false

section
variable {P : Program}
theorem run_storeVar_any (w : World) (g o : Nat) (ty sty : TypeId) (cs vs : List Value) (v : Value) (hv : v.cells = vs.toArray) (hc : Bxo w g ty cs) (hi : (P.info? sty).map (·.size) = some vs.length) (ho : o + vs.length ≤ cs.length) (h1 : ∀ u ∈ vs, u.oneCell' = true) :
    (storeVar sty ⟨g, o, none⟩ v).run P w = .ok () (w.setCells g o vs) := by
  have := run_storeCells_cells (P := P) g o vs 0 w (fun j hj => by simp only [Nat.add_zero]; rw [hc.cell (o + j) (List.getElem?_eq_getElem (Nat.lt_of_lt_of_le (Nat.add_lt_add_left hj o) ho))]; rfl) (fun j hj => hc.frozen _) h1
  cases hq : P.info? sty with
  | none => simp [hq] at hi
  | some i =>
    have hs : vs.length = i.size := by simp [hq] at hi; omega
    simp only [Nat.add_zero] at this
    simp [storeVar, sizeOf, typeInfo, hq, hv, hs, this]
theorem wpList_store_any {ops : Array Oper} {rest : List Oper} {op : Oper} {a : Act} {w : World} {Q : Exit → Act → World → Prop} (hgd : Region.wanted op (yielded ops a.tmps) = true) (sty : TypeId) (x y : Operand) (ho : op.op = .store sty x y)
    (g o : Nat) (ty : TypeId) (cs vs : List Value) (v : Value) (hx : a.eval x = .pointer (some ⟨g, o, none⟩)) (hy : a.eval y = v) (hv : v.cells = vs.toArray) (hc : Bxo w g ty cs)
    (hi : (P.info? sty).map (·.size) = some vs.length) (hs : o + vs.length ≤ cs.length) (h1 : ∀ u ∈ vs, u.oneCell' = true)
    (h : ∀ w', Bxo w' g ty (spl cs o vs) → Only g w w' → wpList P ops Q rest (a.put op.dst undef) w') : wpList P ops Q (op :: rest) a w :=
  BigFrame.wpList_want hgd fun _ hK => by
    unfold Oper.wp execOp
    simp only [ho, hx, hy, Instr.storeAt, Instr.sureAddr, Sem.run_bind, Sem.run_pure, Result.andThen_ok, run_storeVar_any w g o ty sty cs vs v hv hc hi hs h1]
    obtain ⟨h2, h3⟩ := Bxo.setCells vs o cs w hc
    exact hK _ _ (h _ h2 h3)
theorem step_store_any {op : Oper} {a : Act} {w : World} {K : Act → World → Prop} {Q : Exit → Act → World → Prop} (sty : TypeId) (x y : Operand) (ho : op.op = .store sty x y)
    (g o : Nat) (ty : TypeId) (cs vs : List Value) (v : Value) (hx : a.eval x = .pointer (some ⟨g, o, none⟩)) (hy : a.eval y = v) (hv : v.cells = vs.toArray) (hc : Bxo w g ty cs)
    (hi : (P.info? sty).map (·.size) = some vs.length) (hs : o + vs.length ≤ cs.length) (h1 : ∀ u ∈ vs, u.oneCell' = true)
    (h : ∀ w', Bxo w' g ty (spl cs o vs) → Only g w w' → K (a.put op.dst undef) w') : op.wp P a w K Q := by
  unfold Oper.wp execOp
  simp only [ho, hx, hy, Instr.storeAt, Instr.sureAddr, Sem.run_bind, Sem.run_pure, Result.andThen_ok, run_storeVar_any w g o ty sty cs vs v hv hc hi hs h1]
  obtain ⟨h2, h3⟩ := Bxo.setCells vs o cs w hc
  exact h _ h2 h3
theorem Bxo.mid {w : World} {g : Nat} {ty : TypeId} {cs : List Value} (h : Bxo w g ty cs) (o : Nat) (vs : List Value) (hs : ∀ j v, vs[j]? = some v → cs[o + j]? = some v) : ∀ j v, vs[j]? = some v → w.cell? ((⟨g, o, none⟩ : Addr).add j) = some v := fun j v hj => by
  rw [Addr.add_mid]; exact h.cell _ (hs j v hj)
theorem sub_get {cs vs : List Value} {o : Nat} (h : (cs.drop o).take vs.length = vs) : ∀ j v, vs[j]? = some v → cs[o + j]? = some v := fun j v hj => by
  rw [← List.getElem?_drop]
  have hl := (List.getElem?_eq_some_iff.1 hj).1
  rw [← h, List.getElem?_take, if_pos hl] at hj
  exact hj
theorem step_load_at {op : Oper} {a : Act} {w : World} {K : Act → World → Prop} {Q : Exit → Act → World → Prop} (ty : TypeId) (x : Operand) (ho : op.op = .load ty x)
    (ad : Addr) (hx : a.eval x = .pointer (some ad)) (cs : List Value) (d : TypeDesc) (hc : ∀ j v, cs[j]? = some v → w.cell? (ad.add j) = some v)
    (hu : P.underlying ty = some d) (hd : d.isRow = true) (hi : (P.info? ty).map (·.size) = some cs.length)
    (h : K (a.put op.dst (.agg cs.toArray)) w) : op.wp P a w K Q := by
  unfold Oper.wp execOp
  simp only [ho, hx, Instr.loadAt, Instr.sureAddr, Sem.run_bind, Sem.run_pure, Result.andThen_ok, run_loadVar_at w ad ty cs d hc hu hd hi]
  exact h
end
theorem zero_of {P : Program} {ty : TypeId} {z : Value} (h : (P.info? ty).map (·.zero) = some (some z)) (w : World) : (zeroValue ty).run P w = .ok z w := by
  obtain ⟨i, hi, hz⟩ := Option.map_eq_some_iff.1 h
  simp [zeroValue, typeInfo, hi, hz]
theorem step_alloc {P : Program} {op : Oper} {a : Act} {w : World} {K : Act → World → Prop} {Q : Exit → Act → World → Prop} (ty : TypeId) (ho : op.op = .alloc ty) (z : List Value) (hz : (P.info? ty).map (·.zero) = some (some (.agg z.toArray)))
    (h : ∀ g w', (g ≤ w.heap.size ∧ w.heap.size ≤ g) → Bxo w' g ty z → Below w.heap.size w w' → (w'.heap.size ≤ w.heap.size + 1 ∧ w.heap.size + 1 ≤ w'.heap.size) → K (a.put op.dst (.pointer (some ⟨g, 0, none⟩))) w') : op.wp P a w K Q := by
  have hr : (Instr.alloc ty true (.tuple #[])).run P w = .ok (.pointer (some ⟨w.heap.size, 0, none⟩)) (w.alloc (.cells z.toArray ty)) := by
    simp [Instr.alloc, zero_of hz, newVar, newRow, Value.cells]
  unfold Oper.wp execOp
  simp only [ho, Sem.run_bind, Sem.run_pure, Result.andThen_ok, hr]
  exact h _ _ ⟨Nat.le_refl _, Nat.le_refl _⟩ (Bxo.made w ty z) ((Below.refl _ _).alloc (Nat.le_refl _) _) (by simp)
end Go.Proofs.YtoghcefamoefpaaGreatDoor
