/- append of a slice that may be nil, of elements of several cells, as a step of a region that draws; rows of the call's own, carried. -/
import Derived.Test.YtacohanlpgkdeaaFlat
namespace Go.Proofs.Ytacohanlpgkdeaa
open Go.ChangeShapes Go.WideShapes Go.ChangeAt Go.RowKit
set_option linter.unusedVariables false
set_option linter.unusedSimpArgs false

theorem step_append_rdK {P : Program} {op : Oper} {a : Act} {w : World} {K : Act → World → Prop} {Q : Exit → Act → World → Prop} (s x : Operand) (t : TypeId)
    (ho : op.op = .call { callee := .builtin .append, args := #[s, x], argTypes := #[t, t] })
    (base : Nat) (e : TypeId) (i : TypeInfo) (z : Value) (k bytes : Nat) (ht : P.underlying t = some (.slice e)) (hi : P.info? e = some i) (hz : i.zero = some z)
    (hsize : i.size = k) (hby : i.bytes = bytes) (hzs : z.cells.size = k) (hk : 0 < k)
    (v : Value) (n : Nat) (xs : List Value) (hs : a.eval s = v) (hown : w.ownsRow base e k v n xs)
    (A : Option Addr) (m c : Nat) (news : List Value) (hx : a.eval x = .slice A m c) (hm : news.length = m * k) (hc : A = none → c = 0 ∧ m = 0) (hr : RdC w A news) (h1 : ∀ u ∈ news, u.oneCell' = true)
    (h63 : n + m ≤ maxLen) (hbytes : (n + m) * bytes ≤ 140737488355328) (hbase : base ≤ w.heap.size)
    (h : ∀ v' w', w'.ownsRow base e k v' (n + m) (xs ++ news) → w.grownBy w' v.ownBlock → (v'.ownBlock = v.ownBlock ∨ v'.ownBlock = some w.heap.size) → K (a.put op.dst v') w') : op.wp P a w K Q := by
  rcases A with _ | ad
  · obtain ⟨rfl, rfl⟩ := hc rfl
    have hn : news = [] := List.eq_nil_of_length_eq_zero (by simpa using hm)
    subst hn
    have hrun := run_append_owned_none (P := P) (w := w) base t op.type e i k ht hi v n xs hown
    unfold Oper.wp execOp
    simp only [ho, resolve, invoke, builtin, Sem.run_bind, Sem.run_pure, Result.andThen_ok, List.map_toArray, List.map_cons, List.map_nil, hs, hx, hrun]
    exact h v w (by simpa using hown) (World.grownBy.refl w _) (.inl rfl)
  · have hnews : ∀ j u, news[j]? = some u → w.cell? (ad.add j) = some u := fun j u hj => by
      rcases hr with h | ⟨ad', h', hcell⟩
      · subst h; simp at hj
      · cases h'; exact hcell j u hj
    obtain ⟨v', w', hr, h2, h3, h4, h5⟩ := run_append_own_at (P := P) w base t op.type e i z k bytes ht hi hz hsize hby hzs hk v n xs hown ad m c news hm hnews h1 h63 hbytes hbase
    unfold Oper.wp execOp
    simp only [ho, resolve, invoke, builtin, Sem.run_bind, Sem.run_pure, Result.andThen_ok, List.map_toArray, List.map_cons, List.map_nil, hs, hx, hr]
    exact h v' w' h2 h3 h5
/-- a row of the call's own. -/
structure OwR (base : Nat) (e : TypeId) (k : Nat) (A : Option Addr) (n c : Nat) (xs : List Value) (w : World) : Prop where
  own : w.ownsRow base e k (.slice A n c) n xs
section
variable {base k n c : Nat} {e : TypeId} {A : Option Addr} {xs : List Value} {w w' : World}
theorem OwR.ge (h : OwR base e k A n c xs w) : ∀ g, blk A = some g → base ≤ g := fun g hg => by
  rcases own_addr h.own with ⟨rfl, _⟩ | ⟨g', rfl, h1, h2⟩
  · cases hg
  · injection hg with hg; subst hg; exact h1
theorem OwR.lt (h : OwR base e k A n c xs w) : ∀ g, blk A = some g → g < w.heap.size := fun g hg => by
  rcases own_addr h.own with ⟨rfl, _⟩ | ⟨g', rfl, h1, h2⟩
  · cases hg
  · injection hg with hg; subst hg; exact h2
theorem OwR.at (h : OwR base e k A n c xs w) (y : Below w.heap.size w w') : OwR base e k A n c xs w' := ⟨own_keepA h.own (fun g hg => y.block g (h.lt g hg))⟩
theorem OwR.drew (h : OwR base e k A n c xs w) : OwR base e k A n c xs w.drew := ⟨own_keepA h.own (fun _ _ => rfl)⟩
theorem OwR.made (w : World) (base : Nat) (e : TypeId) (k : Nat) (hb : base ≤ w.heap.size) : OwR base e k (some ⟨w.heap.size, 0, none⟩) 0 0 [] (w.alloc (.cells #[] e)) := ⟨World.ownsRow_made w #[] 0 hb (by unfold maxLen; omega) (by simp)⟩
/-- what has grown is of the call's own. -/
theorem grownW {row : Option Nat} {B : Nat} (h : w.grownBy w' row) (hr : ∀ g, row = some g → B ≤ g) (hB : B ≤ w.heap.size) : Below B w w' :=
  ⟨h.os, h.tape, h.output, h.size, fun b hb => h.block b (by omega) (fun e => by have := hr b e.symm; omega)⟩
theorem OwR.rd (h : OwR base e k A n c xs w) : RdC w A xs := own_rd h.own
end
/-- a row's first ones; its last ones. -/
theorem RdC.take {w : World} {A : Option Addr} {cs : List Value} (h : RdC w A cs) (n : Nat) : RdC w A (cs.take n) := by
  rcases h with h | ⟨ad, e, hc⟩
  · exact .inl (by rw [h]; simp)
  · exact .inr ⟨ad, e, fun j u hj => hc j u (by rw [List.getElem?_take] at hj; split at hj; exact hj; cases hj)⟩
theorem RdC.drop {w : World} {A : Option Addr} {cs : List Value} (h : RdC w A cs) (n : Nat) {A' : Option Addr} (hA : ∀ ad, A = some ad → A' = some (ad.add n)) : RdC w A' (cs.drop n) := by
  rcases h with h | ⟨ad, e, hc⟩
  · exact .inl (by rw [h]; simp)
  · refine .inr ⟨ad.add n, hA ad e, fun j u hj => ?_⟩
    rw [add_add]
    rw [List.getElem?_drop] at hj
    exact hc _ u hj
end Go.Proofs.Ytacohanlpgkdeaa
