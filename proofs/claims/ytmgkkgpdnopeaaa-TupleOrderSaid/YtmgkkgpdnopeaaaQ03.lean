/- Lemmas, several texts in one. -/
import Derived.Test.YtmgkkgpdnopeaaaQ02
import Derived.Test.YtmgkkgpdnopeaaaQ01
import Derived.Lib.SliceRun
import Derived.Test.YtmgkkgpdnopeaaaRows
import Derived.WalkKit
import Derived.ProofKit
import Derived.OpenShut
import Derived.Below
import Derived.Deep.QuietTactic
import Derived.BigQuiet
import Derived.OwnWalk
import Derived.Maps.AppendAt
import Derived.Deep.DeepCutAuto
import Derived.Deep.CutBlock
import Derived.Deep.RegionHeld3
/- What package tuple's functions owe, as propositions; packets whose body was put. -/
namespace Go.Proofs.Ytmgkkgpdnopeaaa
open Go.ChangeShapes Go.WideShapes Go.ChangeAt Go.RowKit
set_option linter.unusedVariables false
set_option linter.unusedSimpArgs false

def OfC9 : Prop := ∀ (p : Pk) (Ao : Option Addr) (co : Nat) (Ab : Option Addr) (cb : Nat) (w : World) (q : Tp × Int), ofP p = q → PkIn w p Ao co Ab cb → p.opts.length ≤ 16777216 → p.body.length ≤ 16777216 →
  Calls Try.prog 9 #[pkV p Ao co Ab cb] w fun e w' => e = .returned (.tuple #[tpV q.1, .int .i64 q.2]) ∧ Below w.heap.size w w'
def TurnC9 : Prop := ∀ (t : Tp) (w : World), RngTp t → Calls Try.prog 11 #[tpV t] w fun e w' => e = .returned (tpV (turnT t)) ∧ Below w.heap.size w w'
def RightC9 : Prop := ∀ (t : Tp) (w : World) (b : Bool), rightT t = b → RngTp t → Calls Try.prog 13 #[tpV t] w fun e w' => e = .returned (.bool b) ∧ Below w.heap.size w w'
def HashC9 : Prop := ∀ (t : Tp) (seed : Int) (w : World) (q : Int), hashT t seed = q → RngTp t → 0 ≤ seed → seed ≤ 4294967295 → Calls Try.prog 15 #[tpV t, .int .u32 seed] w fun e w' => e = .returned (.int .u32 q) ∧ Below w.heap.size w w'
def LessC9 : Prop := ∀ (a b : Tp) (w : World) (q : Bool), lessT a b = q → RngTp a → RngTp b → Calls Try.prog 17 #[tpV a, tpV b] w fun e w' => e = .returned (.bool q) ∧ Below w.heap.size w w'
def AwakeC9 : Prop := ∀ w, Calls Try.prog 7 #[] w fun e w' => e = .returned (.bool true) ∧ Below w.heap.size w w'
theorem ofP_rng (p : Pk) (h : Rng p) : RngTp (ofP p).1 := by
  have z : RngTp tp0 := ⟨by decide, by decide, by decide, by decide⟩
  unfold ofP
  repeat' split
  all_goals first | exact z | exact ⟨h.s0, h.s1, h.d0, h.d1⟩
/-- a packet without options whose body was put. -/
theorem pkIn_own {w : World} {base g n c : Nat} {L : List UInt8} (h : Own w base g n c L) (hn : n = L.length) {p : Pk} (hb : p.body = L) (ho : p.opts = []) (r : Rng p) : PkIn w p none 0 (some ⟨g, 0, none⟩) c := by
  have hc := h.cap
  unfold maxLen at hc
  refine ⟨r, by rw [ho]; exact Nat.le_refl _, by omega, fun _ => rfl, .inl ho, by rw [hb, ← hn]; exact hc.1, hc.2, (fun e => by cases e), by rw [hb]; exact h.bs⟩
/-- a packet without options whose body was put: what Of owes, the body's length said. -/
theorem of_own (kO : OfC9) (p : Pk) (q : Tp × Int) (h : ofP p = q) (n : Nat) (hn : p.body.length = n) (hn2 : n ≤ 65535) (ho : p.opts = []) (r : Rng p) (W : World) (base g c : Nat) (hw : Own W base g n c p.body) :
    Calls Try.prog 9 #[.agg #[.int .i64 p.tos, .int .i64 p.id, .bool p.df, .bool p.mf, .int .i64 p.off, .int .i64 p.ttl, .int .i64 p.proto, .int .u32 p.src, .int .u32 p.dst, .slice none 0 0, .slice (some ⟨g, 0, none⟩) n c]] W fun e w' => e = .returned (.tuple #[tpV q.1, .int .i64 q.2]) ∧ Below W.heap.size W w' := by
  have hk := kO p none 0 (some ⟨g, 0, none⟩) c W q h (pkIn_own hw hn.symm rfl ho r) (by rw [ho]; exact Nat.zero_le _) (by omega)
  have e : pkV p none 0 (some ⟨g, 0, none⟩) c = .agg #[.int .i64 p.tos, .int .i64 p.id, .bool p.df, .bool p.mf, .int .i64 p.off, .int .i64 p.ttl, .int .i64 p.proto, .int .u32 p.src, .int .u32 p.dst, .slice none 0 0, .slice (some ⟨g, 0, none⟩) n c] := by
    unfold pkV
    rw [hn, ho]
    rfl
  rwa [e] at hk
end Go.Proofs.Ytmgkkgpdnopeaaa

/- Rows of bytes of a call's own, nil or not: append; a literal. -/
namespace Go.Proofs.Ytmgkkgpdnopeaaa
open Go.ChangeShapes Go.WideShapes Go.ChangeAt Go.RowKit
set_option linter.unusedVariables false

/-- a row of bytes of the call's own, nil or not. -/
structure Row (w : World) (base : Nat) (v : Value) (l : List UInt8) : Prop where
  is : w.ownsRow base 5 1 v l.length (l.map bv)
section
variable {w w' : World} {base B : Nat} {v : Value} {l r : List UInt8}
theorem Row.nil_ : Row w base (.slice none 0 0) [] := ⟨World.ownsRow_nil _ _ _ _⟩
theorem Own.row {g n c : Nat} (h : Own w base g n c l) : Row w base (.slice (some ⟨g, 0, none⟩) n c) l := by
  have e := h.len
  subst e
  exact ⟨h⟩
theorem Row.own (h : Row w base v l) (hl : 0 < l.length) : ∃ g c, v = .slice (some ⟨g, 0, none⟩) l.length c ∧ Own w base g l.length c l := by
  obtain ⟨g, c, rfl, _, _, _, _⟩ := own_form h.is hl
  exact ⟨g, c, rfl, h.is⟩
theorem Row.form (h : Row w base v l) : ∃ A c, v = .slice A l.length c ∧ l.length ≤ c ∧ c ≤ 9223372036854775807 ∧ (A = none → c = 0) ∧ Bs w w.heap.size A l := by
  obtain ⟨A, c, he, h1, h2, h3, h4⟩ := rd_of_own h.is
  exact ⟨A, c, he, h1, by unfold maxLen at h2; omega, h3, h4.bs⟩
theorem Row.keep (h : Row w base v l) (hb : Below w.heap.size w w') : Row w' base v l := by
  refine ⟨h.is.1, ?_⟩
  rcases h.is.2 with h | ⟨g', cap, cur, hv, hba, hh, hn, hm, hs, ht⟩
  · exact .inl h
  · refine .inr ⟨g', cap, cur, hv, hba, ?_, hn, hm, hs, ht⟩
    rw [hb.block g' (Array.getElem?_eq_some_iff.1 hh).1]; exact hh
/-- what lies below a bound that no change reaches stays. -/
theorem Row.stay (h : Row w base v l) (hb : Below B w w') (hv : ∀ q, v.ownBlock = some q → q < B) : Row w' base v l := by
  refine ⟨h.is.1, ?_⟩
  rcases h.is.2 with h | ⟨g', cap, cur, hv', hba, hh, hn, hm, hs, ht⟩
  · exact .inl h
  · refine .inr ⟨g', cap, cur, hv', hba, ?_, hn, hm, hs, ht⟩
    rw [hb.block g' (hv g' (by rw [hv']; rfl))]; exact hh
theorem Row.lt (h : Row w base v l) : ∀ q, v.ownBlock = some q → base ≤ q ∧ q < w.heap.size := fun q hq => World.ownsRow.lt h.is q hq
end
theorem Row.drew {w : World} {base : Nat} {v : Value} {l : List UInt8} (h : Row w base v l) : Row w.drew base v l := ⟨h.is⟩
theorem Row.mono {w : World} {base base' : Nat} {v : Value} {l : List UInt8} (h : Row w base v l) (hb : base' ≤ base) : Row w base' v l := ⟨World.ownsRow.mono h.is hb⟩
/-- append onto a row of the call's own, in a plain region and in one that draws. -/
theorem ap {w : World} {ops : Array Oper} {rest : List Oper} {o : Oper} {a : Act} {Q : Exit → Act → World → Prop} (hgd : o.guard = none) (s x : Operand)
    (ho : o.op = .call { callee := .builtin .append, args := #[s, x], argTypes := #[23, 23] })
    (base : Nat) (v : Value) (l : List UInt8) (hs : a.eval s = v) (hown : Row w base v l)
    (B : Nat) (A : Option Addr) (m c : Nat) (r : List UInt8) (hx : a.eval x = .slice A m c) (hm : r.length = m) (hc : A = none → c = 0) (hr : Bs w B A r) (hl : l.length ≤ 1073741824) (hrl : m ≤ 1073741824) (hbase : base ≤ w.heap.size)
    (h : ∀ v' w', Row w' base v' (l ++ r) → Below base w w' → wpList Try.prog ops Q rest (a.put o.dst v') w') : wpList Try.prog ops Q (o :: rest) a w := by
  obtain ⟨i0, hi, hz0, hz1, hz2⟩ := info_parts info_byte
  refine wpList_append_rd hgd s x 23 ho base 5 i0 (.int .u8 0) 1 Try.underlying23 hi hz0 hz1 hz2 rfl v l.length (l.map bv) hs hown.is B A m c (r.map bv) hx (by simpa using hm) hc hr.rd (bv_one _) (by unfold maxLen; omega) (by omega) hbase ?_
  intro v' w' h1 hg hat
  subst hm
  refine h v' w' ?_ (Below.grown (Below.refl _ _) hg hbase (fun q hq => (Row.lt hown q hq).1))
  refine ⟨?_⟩
  rw [List.length_append, List.map_append]
  exact h1
theorem apS {w : World} {ops : Array Oper} {o : Oper} {a : Act} {K : Act → World → Prop} {Q : Exit → Act → World → Prop} {E : Prop} (hgd : o.guard = none) (s x : Operand)
    (ho : o.op = .call { callee := .builtin .append, args := #[s, x], argTypes := #[23, 23] })
    (base : Nat) (v : Value) (l : List UInt8) (hs : a.eval s = v) (hown : Row w base v l)
    (B : Nat) (A : Option Addr) (m c : Nat) (r : List UInt8) (hx : a.eval x = .slice A m c) (hm : r.length = m) (hc : A = none → c = 0) (hr : Bs w B A r) (hl : l.length ≤ 1073741824) (hrl : m ≤ 1073741824) (hbase : base ≤ w.heap.size)
    (h : ∀ v' w', Row w' base v' (l ++ r) → Below base w w' → K (a.put o.dst v') w') : if Region.wanted o (yielded ops a.tmps) = true then Oper.wp Try.prog o a w K Q else E := by
  obtain ⟨i0, hi, hz0, hz1, hz2⟩ := info_parts info_byte
  refine step_append_rd hgd s x 23 ho base 5 i0 (.int .u8 0) 1 Try.underlying23 hi hz0 hz1 hz2 rfl v l.length (l.map bv) hs hown.is B A m c (r.map bv) hx (by simpa using hm) hc hr.rd (bv_one _) (by unfold maxLen; omega) (by omega) hbase ?_
  intro v' w' h1 hg hat
  subst hm
  refine h v' w' ?_ (Below.grown (Below.refl _ _) hg hbase (fun q hq => (Row.lt hown q hq).1))
  refine ⟨?_⟩
  rw [List.length_append, List.map_append]
  exact h1
/-- a literal of bytes that was made just now. -/
theorem lit_bs (W : World) (xs : List Int) (h : ∀ x ∈ xs, 0 ≤ x ∧ x ≤ 255) : Bs (W.alloc (.cells (xs.map (Value.int .u8)).toArray 5)) (W.heap.size + 1) (some ⟨W.heap.size, 0, none⟩) (xs.map b8) := by
  refine .inr ⟨_, rfl, by simp, fun j u hj => ?_⟩
  rw [List.getElem?_map, Option.map_eq_some_iff] at hj
  obtain ⟨x, hx, rfl⟩ := hj
  obtain ⟨h0, h1⟩ := h x (List.mem_of_getElem? hx)
  rw [b8_is x h0 h1]
  have hj : j < xs.length := (List.getElem?_eq_some_iff.1 hx).1
  rw [add_own]
  simp [go_sem, hx]
theorem own_lit (W : World) (base : Nat) (xs : List Int) (h : ∀ x ∈ xs, 0 ≤ x ∧ x ≤ 255) (hb : base ≤ W.heap.size) (hl : xs.length ≤ 1073741824) :
    Own (W.alloc (.cells (xs.map (Value.int .u8)).toArray 5)) base W.heap.size xs.length xs.length (xs.map b8) := by
  have e : (xs.map b8).map bv = xs.map (Value.int .u8) := by
    rw [List.map_map]
    apply List.map_congr_left
    intro x hx
    obtain ⟨h0, h1⟩ := h x hx
    simp only [Function.comp, bv]
    rw [b8_is x h0 h1]
  refine Own.of_block (cur := xs.map (Value.int .u8)) hb (heap_alloc_new W _) (by simp) (Nat.le_refl _) (by unfold maxLen; omega) (by simp) ?_
  rw [e, List.take_of_length_le (by simp)]

theorem stepB {W X Y : World} (hx : Below W.heap.size W X) (hc : Below X.heap.size X Y) : Below W.heap.size W Y := hx.trans (hc.mono hx.size)
def lenOf : Value → Nat
  | .slice _ n _ => n
  | _ => 0
/-- what a Put answers. -/
def PutPost (L : List UInt8) (n : Nat) (r : Int) (w : World) (e : Ending) (w' : World) : Prop := ∃ A c, e = .returned (.tuple #[.slice A n c, .int .i64 r]) ∧ Bs w' w'.heap.size A L ∧ Below w.heap.size w w'
theorem PutPost.of {L : List UInt8} {n : Nat} {r : Int} {w : World} {e : Ending} {w' : World} (A : Option Addr) (c : Nat) (he : e = .returned (.tuple #[.slice A n c, .int .i64 r])) (hb : Bs w' w'.heap.size A L) (hw : Below w.heap.size w w') : PutPost L n r w e w' := ⟨A, c, he, hb, hw⟩
theorem pos_cell {w : World} {B : Nat} {A : Option Addr} {l : List UInt8} {ad : Addr} (hA : A = some ad) (h : Bs w B A l) (k : Nat) (hk : k < l.length) (h0 : 0 < k) : w.cell? { block := ad.block, off := ad.off + k } = some (.int .u8 (g8 l k)) := by
  obtain ⟨ad', e, _, hc⟩ := g8_cell h hk
  rw [hA] at e
  cases e
  rwa [add_pos ad k h0] at hc
theorem zero_cell {w : World} {B : Nat} {A : Option Addr} {l : List UInt8} {ad : Addr} (hA : A = some ad) (h : Bs w B A l) (hk : 0 < l.length) : w.cell? ad = some (.int .u8 (g8 l 0)) := by
  obtain ⟨ad', e, _, hc⟩ := g8_cell h hk
  rw [hA] at e
  cases e
  rwa [add_zero] at hc
end Go.Proofs.Ytmgkkgpdnopeaaa

/- The contract of the document's own Same of bytes. -/
namespace Go.Proofs.Ytmgkkgpdnopeaaa
open Go.ChangeShapes Go.WideShapes Go.ChangeAt Go.RowKit
set_option linter.unusedVariables false

theorem dd (w : World) (m n : Nat) : (w.drewN m).drewN n = w.drewN (m + n) := by simp [World.drewN, Nat.add_assoc]
theorem take_eq_succ (a b : List UInt8) (k : Nat) (ha : k < a.length) (hb : k < b.length) (h : a.take k = b.take k) (he : a[k] = b[k]) : a.take (k + 1) = b.take (k + 1) := by
  rw [List.take_succ_eq_append_getElem ha, List.take_succ_eq_append_getElem hb, h, he]
theorem g8_eq (a b : List UInt8) (k : Nat) (ha : k < a.length) (hb : k < b.length) : (g8 a k != g8 b k) = !(a[k] == b[k]) := by
  rw [g8_at a k ha, g8_at b k hb]
  by_cases h : a[k] = b[k]
  · simp [h]
  · have : ¬ ((a[k].toNat : Int) = (b[k].toNat : Int)) := fun e => h (UInt8.toNat_inj.1 (by omega))
    rw [Bool.eq_iff_iff]; simp [h, this]

end Go.Proofs.Ytmgkkgpdnopeaaa

/- Contracts of the document's own sums of bytes: the words one behind the other, then their sum. -/
namespace Go.Proofs.Ytmgkkgpdnopeaaa
open Go.ChangeShapes Go.WideShapes Go.ChangeAt Go.RowKit

set_option maxRecDepth 100000 in
set_option maxHeartbeats 400000 in
theorem rjoin (a b : Int) (ha : 0 ≤ a ∧ a ≤ 65535) (hb : 0 ≤ b ∧ b ≤ 65535) (w : World) :
    Calls Try.prog 77 #[.int .u16 a, .int .u16 b] w fun e w' => e = .returned (.int .u16 (fo (a + b))) ∧ w = w' := by
  obtain ⟨a0, a1⟩ := ha
  obtain ⟨b0, b1⟩ := hb
  by_cases h : 65535 < a + b
  · go_enter Try.func77, Try.ntmps77
    go_wp2
    go_ret
    exact ⟨ret_int (by rw [← fo_sub _ h (by omega)]), rfl⟩
  · go_enter Try.func77, Try.ntmps77
    go_wp2
    go_ret
    exact ⟨ret_int (by rw [fo_small _ (by omega) (by omega)]), rfl⟩

theorem info23 : (Try.prog.info? 47).map (fun i => (i.zero, i.size, i.bytes)) = some (some (.int .u16 0), 1, 2) := by kernel_rfl

set_option maxRecDepth 100000 in
set_option maxHeartbeats 1000000 in
theorem rwords (A : Option Addr) (c : Nat) (l : List UInt8) (w : World) (h : Bs w w.heap.size A l) (hl : l.length ≤ 16777216) (hlc : l.length ≤ c) :
    Calls Try.prog 49 #[.slice A l.length c] w fun e w' => ∃ v, e = .returned v ∧ w'.ownsRow w.heap.size 47 1 v (wrds l).length ((wrds l).map (Value.int .u16)) ∧ Below w.heap.size w w' := by
  obtain ⟨i0, hi, hz0, hz1, hz2⟩ := info_parts info23
  go_enter Try.func49, Try.ntmps49
  go_wp2
  go_loopw [3, 4] (fun v i wr => ∃ k : Nat, k % 2 = 0 ∧ k ≤ l.length + 1 ∧ i = .int .i64 k ∧ wr.ownsRow w.heap.size 47 1 v (wrds (l.take k)).length ((wrds (l.take k)).map (Value.int .u16)) ∧ Below w.heap.size w wr) (fun _ i _ => l.length + 2 - (intOf i).toNat)
  case atStart => exact ⟨0, rfl, by omega, rfl, by simpa [wrds] using World.ownsRow_nil _ _ _ _, Below.refl _ _⟩
  case round =>
    obtain ⟨k, hk2, hk, rfl, hown, hbel⟩ := hrel
    by_cases hlt : k < l.length
    · rcases h with h | ⟨ad, rfl, hb, hcell⟩
      · subst h; simp at hlt
      have hbk : w.heap.size ≤ wr.heap.size := hbel.size
      have hck : wr.cell? (ad.add k) = some (.int .u8 (l[k].toNat : Int)) := (hbel.cell (by rw [block_add]; exact hb)).trans (hcell k _ (List.getElem?_eq_getElem hlt))
      have hx1 := l[k].toNat_lt
      by_cases hlt2 : k + 1 < l.length
      · have hck2 : wr.cell? { block := ad.block, off := ad.off + (k + 1) } = some (.int .u8 (l[k + 1].toNat : Int)) := by
          have := (hbel.cell (p := ad.add (k + 1)) (by rw [block_add]; exact hb)).trans (hcell (k + 1) _ (List.getElem?_eq_getElem hlt2))
          unfold Addr.add at this; rw [if_neg (by omega)] at this; exact this
        have hx2 := l[k + 1].toNat_lt
        have HW := Go.Lib.hid (wrds_two l k hk2 hlt2)
        have HB := Go.Lib.hid hbel
        clear hcell hbel
        obtain ⟨x, hx⟩ : ∃ x : Nat, x = l[k].toNat := ⟨_, rfl⟩
        obtain ⟨y, hy⟩ : ∃ y : Nat, y = l[k + 1].toNat := ⟨_, rfl⟩
        rw [← hx] at hck hx1 HW
        rw [← hy] at hck2 hx2 HW
        have e1 := IntWalk.u16_in x (by omega)
        have e2 := IntWalk.u16_in (x * 256) (by omega)
        have e3 := IntWalk.u16_in y (by omega)
        have e4 := IntWalk.u16_in (x * 256 + y) (by omega)
        clear hx hy
        go_wp2_with (at_builtin; refine wpList_append_own _ rfl _ _ 88 rfl w.heap.size 47 i0 (.int .u16 0) 1 2 Try.underlying88 hi hz0 hz1 hz2 rfl (by decide) _ _ _ rfl (hown.alloc _) ⟨wr.heap.size, 0, none⟩ 1 1 [.int .u16 ((x : Int) * 256 + y)] rfl rfl ?c1 ?c2 ?c3 ?c4 ?c5 ?_)
        case c1 =>
          intro j u hj
          match j, hj with
          | 0, hj => simp at hj; subst hj; simp [Addr.add]
        case c2 => intro u hu; simp at hu; subst hu; rfl
        case c3 => rw [wrds_length]; have := List.length_take_le k l; unfold maxLen; omega
        case c4 => rw [wrds_length]; have := List.length_take_le k l; omega
        case c5 => simp; omega
        intro v1 w1 hown1 hg1 _
        go_wp2
        go_roundw
        case rel =>
          refine ⟨k + 2, by omega, by omega, by go_num, ?_, (HB.out.alloc hbk _).grown hg1 (by simp; omega) (fun q hq => (hown.lt q hq).1)⟩
          have e : (wrds (l.take k)).length + 1 = (wrds (l.take (k + 2))).length := by rw [HW.out]; simp
          rw [e] at hown1
          rw [show (wrds (l.take (k + 2))).map (Value.int .u16) = (wrds (l.take k)).map (Value.int .u16) ++ [Value.int .u16 (x * 256 + y)] from by rw [HW.out]; simp [Int.mul_comm]]
          exact hown1
        case measure => simp [intOf]; omega
      · have HW := Go.Lib.hid (wrds_one l k hk2 (by omega))
        have HB := Go.Lib.hid hbel
        clear hcell hbel
        obtain ⟨x, hx⟩ : ∃ x : Nat, x = l[k].toNat := ⟨_, rfl⟩
        rw [← hx] at hck hx1 HW
        have e1 := IntWalk.u16_in x (by omega)
        have e2 := IntWalk.u16_in (x * 256) (by omega)
        clear hx
        go_wp2_with (at_builtin; refine wpList_append_own _ rfl _ _ 88 rfl w.heap.size 47 i0 (.int .u16 0) 1 2 Try.underlying88 hi hz0 hz1 hz2 rfl (by decide) _ _ _ rfl (hown.alloc _) ⟨wr.heap.size, 0, none⟩ 1 1 [.int .u16 ((x : Int) * 256)] rfl rfl ?c1 ?c2 ?c3 ?c4 ?c5 ?_)
        case c1 =>
          intro j u hj
          match j, hj with
          | 0, hj => simp at hj; subst hj; simp [Addr.add]
        case c2 => intro u hu; simp at hu; subst hu; rfl
        case c3 => rw [wrds_length]; have := List.length_take_le k l; unfold maxLen; omega
        case c4 => rw [wrds_length]; have := List.length_take_le k l; omega
        case c5 => simp; omega
        intro v1 w1 hown1 hg1 _
        go_wp2
        go_roundw
        case rel =>
          refine ⟨k + 2, by omega, by omega, by go_num, ?_, (HB.out.alloc hbk _).grown hg1 (by simp; omega) (fun q hq => (hown.lt q hq).1)⟩
          have e : (wrds (l.take k)).length + 1 = (wrds (l.take (k + 2))).length := by rw [HW.out]; simp
          rw [e] at hown1
          rw [show (wrds (l.take (k + 2))).map (Value.int .u16) = (wrds (l.take k)).map (Value.int .u16) ++ [Value.int .u16 (x * 256)] from by rw [HW.out]; simp [Int.mul_comm]]
          exact hown1
        case measure => simp [intOf]; omega
    · have ht : l.take k = l := List.take_of_length_le (by omega)
      rw [ht] at hown
      clear ht h
      go_wp2
      go_ret
      exact ⟨_, rfl, hown, hbel⟩

theorem take_sum (zs : List Int) (k : Nat) (h : k < zs.length) : (zs.take (k + 1)).sum = (zs.take k).sum + zs[k] := by
  rw [List.take_succ_eq_append_getElem h, List.sum_append]; simp

theorem sum_lo (zs : List Int) (h : ∀ x ∈ zs, 0 ≤ x ∧ x ≤ 65535) : 0 ≤ zs.sum := by
  induction zs with
  | nil => simp
  | cons a r ih => have := h a (by simp); have := ih (fun x hx => h x (by simp [hx])); simp; omega

set_option maxRecDepth 100000 in
set_option maxHeartbeats 1000000 in
theorem rsum (A : Option Addr) (c : Nat) (l : List UInt8) (w : World) (h : Bs w w.heap.size A l) (hl : l.length ≤ 16777216) (hlc : l.length ≤ c) :
    Calls Try.prog 51 #[.slice A l.length c] w fun e w' => e = .returned (.int .u16 (fo (tot l))) ∧ Below w.heap.size w w' := by
  go_enter Try.func51, Try.ntmps51
  go_wp2_with (go_at_call 49; refine (rwords A c l _ h hl hlc).mono ?_; rintro e w1 ⟨v, rfl, hown, hbel⟩)
  obtain ⟨A', c', rfl, hnc, hcm, _, hrd⟩ := rd_of_own hown
  have hbd := wrds_bd l
  have hln := wrds_length l
  have HS := Go.Lib.hid (wrds_sum l)
  generalize hz : wrds l = zs at *
  unfold maxLen at hcm
  clear hz hown h
  have hz2 : zs.length ≤ 16777216 := by omega
  clear hln
  go_loop [3, 5] (fun s i => ∃ k : Nat, k ≤ zs.length ∧ i = .int .i64 k ∧ s = .int .u16 (fo (zs.take k).sum)) (fun _ i => zs.length - (intOf i).toNat)
  case atStart => exact ⟨0, Nat.zero_le _, rfl, rfl⟩
  case round =>
    obtain ⟨k, hk, rfl, rfl⟩ := hrel
    have f1 := fo_lo (zs.take k).sum
    have f2 := fo_hi (zs.take k).sum
    by_cases hlt : k < zs.length
    · have hb := hbd _ (List.getElem_mem hlt)
      obtain ⟨b0, b1⟩ := hb
      rcases hrd with hrd | ⟨ad, rfl, had, hcell⟩
      · simp at hrd; subst hrd; simp at hlt
      have hck : w1.cell? (ad.add k) = some (.int .u16 zs[k]) := hcell k _ (by simp [List.getElem?_eq_getElem hlt])
      clear hcell
      have HT : Hid (fo (fo (zs.take k).sum + zs[k]) = fo (zs.take (k + 1)).sum) := by
        show _ = _
        rw [take_sum zs k hlt, fo_fo _ _ (sum_lo _ (fun x hx => hbd x (List.mem_of_mem_take hx))) b0]
      clear hbd
      generalize zs[k] = z at *
      generalize fo (zs.take k).sum = s at *
      go_wp2_with (go_at_call 77; refine (rjoin _ _ (by omega) (by omega) _).mono ?_; rintro e w' ⟨rfl, rfl⟩)
      go_round
      case rel => exact ⟨k + 1, by omega, by go_num, by rw [HT.out]⟩
      case measure => simp [intOf]; omega
    · have HT : Hid (fo (zs.take k).sum = fo (tot l)) := by show _ = _; rw [List.take_of_length_le (by omega), HS.out]
      go_wp2
      go_ret
      exact ⟨ret_int HT.out, hbel⟩
end Go.Proofs.Ytmgkkgpdnopeaaa

/- Words of bytes, and sums, at any length's name. -/
namespace Go.Proofs.Ytmgkkgpdnopeaaa
open Go.ChangeShapes Go.WideShapes Go.ChangeAt Go.RowKit
set_option linter.unusedVariables false

theorem wrds_at : ∀ (j : Nat) (q : List UInt8), 2 * j + 1 < q.length → (wrds q)[j]? = some (wd q (2 * j))
  | 0, a :: b :: r, _ => by simp [wrds, wd, g8, Int.mul_comm]
  | j + 1, a :: b :: r, h => by
    have ih := wrds_at j r (by simp at h; omega)
    simp only [wrds, List.getElem?_cons_succ, ih]
    congr 1
  | 0, [], h => by simp at h
  | 0, [a], h => by simp at h
  | j + 1, [], h => by simp at h
  | j + 1, [a], h => by simp at h
theorem wd_take (l : List UInt8) (n k : Nat) (hk : k + 1 < n) (hl : n ≤ l.length) : wd (l.take n) k = wd l k := by
  unfold wd
  rw [g8_at _ k (by rw [List.length_take]; omega), g8_at _ (k + 1) (by rw [List.length_take]; omega), g8_at l k (by omega), g8_at l (k + 1) (by omega), List.getElem_take, List.getElem_take]
/-- the ten words of a head. -/
theorem words20 {w' : World} {base : Nat} {v : Value} {l : List UInt8} (hl : 20 ≤ l.length) (h : w'.ownsRow base 47 1 v (wrds (l.take 20)).length ((wrds (l.take 20)).map (Value.int .u16))) :
    ∃ g c, v = .slice (some ⟨g, 0, none⟩) 10 c ∧ base ≤ g ∧ g < w'.heap.size ∧ ∀ j, j < 10 → w'.cell? ⟨g, j, none⟩ = some (.int .u16 (wd l (2 * j))) := by
  have hn : (wrds (l.take 20)).length = 10 := by rw [wrds_length, List.length_take]; omega
  rw [hn] at h
  obtain ⟨g, c, rfl, h1, h2, _, _⟩ := own_form h (by omega)
  refine ⟨g, c, rfl, h1, h2, fun j hj => ?_⟩
  rw [own_cell h j (by simp [hn]; exact hj)]
  have := wrds_at j (l.take 20) (by rw [List.length_take]; omega)
  rw [wd_take l 20 (2 * j) (by omega) hl] at this
  rw [List.getElem_map]
  congr 2
  rw [List.getElem?_eq_getElem (by omega)] at this
  exact Option.some.inj this
theorem rwords_n (A : Option Addr) (n c : Nat) (l : List UInt8) (B : Nat) (w : World) (hn : l.length = n) (h : Bs w B A l) (hB : B ≤ w.heap.size) (hl : n ≤ 16777216) (hlc : n ≤ c) :
    Calls Try.prog 49 #[.slice A n c] w fun e w' => ∃ v, e = .returned v ∧ w'.ownsRow w.heap.size 47 1 v (wrds l).length ((wrds l).map (Value.int .u16)) ∧ Below w.heap.size w w' := by
  subst hn
  exact rwords A c l w (h.more hB) hl hlc
theorem rsum_n (A : Option Addr) (n c : Nat) (l : List UInt8) (B : Nat) (w : World) (hn : l.length = n) (h : Bs w B A l) (hB : B ≤ w.heap.size) (hl : n ≤ 16777216) (hlc : n ≤ c) :
    Calls Try.prog 51 #[.slice A n c] w fun e w' => e = .returned (.int .u16 (fo (tot l))) ∧ Below w.heap.size w w' := by
  subst hn
  exact rsum A c l w (h.more hB) hl hlc

end Go.Proofs.Ytmgkkgpdnopeaaa

/- Messages of control as values and in memory. -/
namespace Go.Proofs.Ytmgkkgpdnopeaaa
open Go.ChangeShapes Go.WideShapes Go.ChangeAt Go.RowKit
set_option linter.unusedVariables false

abbrev icV (m : Ic) (A_body : Option Addr) (c_body : Nat) : Value := .agg #[.int .i64 m.type, .int .i64 m.code, .int .u32 m.rest, .slice A_body m.body.length c_body]
abbrev icO (m : Ic) (A_body : Option Addr) (c_body : Nat) : Obj := .cells #[.int .i64 m.type, .int .i64 m.code, .int .u32 m.rest, .slice A_body m.body.length c_body] 43
/-- it lies in block b. -/
def icIs (w : World) (b : Nat) (m : Ic) (A_body : Option Addr) (c_body : Nat) : Prop := w.cell? ⟨b, 0, none⟩ = some (.int .i64 m.type) ∧ w.cell? ⟨b, 1, none⟩ = some (.int .i64 m.code) ∧ w.cell? ⟨b, 2, none⟩ = some (.int .u32 m.rest) ∧ w.cell? ⟨b, 3, none⟩ = some (.slice A_body m.body.length c_body)
section
variable {w w' : World} {b B : Nat} {m : Ic} {A_body : Option Addr} {c_body : Nat}
theorem icIs.cells (h : icIs w b m A_body c_body) : w.cell? ⟨b, 0, none⟩ = some (.int .i64 m.type) ∧ w.cell? ⟨b, 1, none⟩ = some (.int .i64 m.code) ∧ w.cell? ⟨b, 2, none⟩ = some (.int .u32 m.rest) ∧ w.cell? ⟨b, 3, none⟩ = some (.slice A_body m.body.length c_body) := h
theorem icIs.keep (h : icIs w b m A_body c_body) (hb : Below B w w') (hlt : b < B) : icIs w' b m A_body c_body := by
  obtain ⟨c0, c1, c2, c3⟩ := h
  exact ⟨(hb.cell (p := ⟨b, 0, none⟩) hlt).trans c0, (hb.cell (p := ⟨b, 1, none⟩) hlt).trans c1, (hb.cell (p := ⟨b, 2, none⟩) hlt).trans c2, (hb.cell (p := ⟨b, 3, none⟩) hlt).trans c3⟩
theorem icIs.call (h : icIs w b m A_body c_body) (hb : Below w.heap.size w w') (hlt : b < w.heap.size) : icIs w' b m A_body c_body := h.keep hb hlt
theorem icIs.made : icIs (w.alloc (.cells #[.int .i64 m.type, .int .i64 m.code, .int .u32 m.rest, .slice A_body m.body.length c_body] 43)) w.heap.size m A_body c_body := by
  refine ⟨?_, ?_, ?_, ?_⟩ <;> simp [go_sem]
end
/-- what came, or was made: a message's body. -/
structure IcIn (w : World) (B : Nat) (m : Ic) (Ab : Option Addr) (cb : Nat) : Prop where
  r0 : 0 ≤ m.rest
  r1 : m.rest ≤ 4294967295
  blen : m.body.length ≤ cb
  bcap : cb ≤ 9223372036854775807
  bnil : Ab = none → cb = 0
  bs : Bs w B Ab m.body
theorem IcIn.below {w w' : World} {B : Nat} {m : Ic} {Ab : Option Addr} {cb : Nat} (h : IcIn w B m Ab cb) (hb : Below B w w') : IcIn w' B m Ab cb := ⟨h.r0, h.r1, h.blen, h.bcap, h.bnil, h.bs.below hb⟩
theorem IcIn.more {w : World} {B B' : Nat} {m : Ic} {Ab : Option Addr} {cb : Nat} (h : IcIn w B m Ab cb) (hb : B ≤ B') : IcIn w B' m Ab cb := ⟨h.r0, h.r1, h.blen, h.bcap, h.bnil, h.bs.more hb⟩
theorem IcIn.at {w : World} {m : Ic} {Ab : Option Addr} {cb : Nat} (h : IcIn w w.heap.size m Ab cb) {w' : World} (hb : Below w.heap.size w w') : IcIn w' w'.heap.size m Ab cb := (h.below hb).more hb.size
theorem icIn_empty {w : World} {B : Nat} : IcIn w B Ic.empty none 0 := ⟨by decide, by decide, Nat.le_refl _, by omega, fun _ => rfl, .inl rfl⟩

/-- what is put, and whether. -/
structure PutIL (m : Ic) (L : List UInt8) (n : Nat) (r : Int) : Prop where
  len : L.length = n
  small : n ≤ 65535
  way : (mayI m = true ∧ L = putI m ∧ r = 0) ∨ (mayI m = false ∧ L = [] ∧ r = 1)
theorem putIL (m : Ic) : ∃ L n r, PutIL m L n r := by
  by_cases h : mayI m = true
  · have M := (mayI_iff m).1 h
    refine ⟨putI m, _, 0, rfl, ?_, .inl ⟨h, rfl, rfl⟩⟩
    have := M.fit
    rw [putI_length]; omega
  · exact ⟨[], 0, 1, rfl, by omega, .inr ⟨by simpa using h, rfl, rfl⟩⟩
theorem PutIL.no {m : Ic} {L : List UInt8} {n : Nat} {r : Int} (h : PutIL m L n r) (hm : ¬ MayI m) : L = [] ∧ n = 0 ∧ r = 1 := by
  rcases h.way with ⟨a, _⟩ | ⟨_, rfl, rfl⟩
  · exact absurd ((mayI_iff m).1 a) hm
  · have := h.len; simp at this; exact ⟨rfl, this.symm, rfl⟩
theorem PutIL.yes {m : Ic} {L : List UInt8} {n : Nat} {r : Int} (h : PutIL m L n r) (hm : MayI m) : L = putI m ∧ n = 8 + m.body.length ∧ r = 0 := by
  rcases h.way with ⟨_, rfl, rfl⟩ | ⟨a, _⟩
  · have := h.len; rw [putI_length] at this; exact ⟨rfl, this.symm, rfl⟩
  · rw [(mayI_iff m).2 hm] at a; cases a
/-- ways in which a message may not be put. -/
theorem mayI_not (m : Ic) (h : ¬ MayI m) : m.type < 0 ∨ (0 ≤ m.type ∧ 255 < m.type) ∨ (0 ≤ m.type ∧ m.type ≤ 255 ∧ m.code < 0) ∨ (0 ≤ m.type ∧ m.type ≤ 255 ∧ 0 ≤ m.code ∧ 255 < m.code) ∨ (0 ≤ m.type ∧ m.type ≤ 255 ∧ 0 ≤ m.code ∧ m.code ≤ 255 ∧ 65527 < (m.body.length : Int)) := by
  by_cases h1 : 0 ≤ m.type ∧ m.type ≤ 255 ∧ 0 ≤ m.code ∧ m.code ≤ 255
  · have : ¬ m.body.length ≤ 65527 := fun h2 => h ⟨h1.1, h1.2.1, h1.2.2.1, h1.2.2.2, h2⟩
    omega
  · omega

/-- what Parse and Tell hand back. -/
structure GivesIc (w w' : World) (m : Ic) (Ab : Option Addr) (cb : Nat) : Prop where
  is : IcIn w' w'.heap.size m Ab cb
  below : Below w.heap.size w w'
def ParsedI (w : World) (q : Int × Ic) (e : Ending) (w' : World) : Prop := ∃ Ab cb, e = .returned (.tuple #[icV q.2 Ab cb, .int .i64 q.1]) ∧ GivesIc w w' q.2 Ab cb
theorem parsedI_err {w w' : World} {q : Int × Ic} {e : Ending} {n : Int} (hq : q = (n, Ic.empty)) (he : e = .returned (.tuple #[.agg #[.int .i64 0, .int .i64 0, .int .u32 0, .slice none 0 0], .int .i64 n])) (h : Below w.heap.size w w') : ParsedI w q e w' := by
  subst hq
  exact ⟨none, 0, he, icIn_empty, h⟩
theorem parsedI_ok {w w' : World} {q : Int × Ic} {e : Ending} {m : Ic} {Ab : Option Addr} {cb : Nat} (hq : q = (0, m)) (he : e = .returned (.tuple #[icV m Ab cb, .int .i64 0])) (h : GivesIc w w' m Ab cb) : ParsedI w q e w' := by
  subst hq
  exact ⟨Ab, cb, he, h⟩
/-- a world in which an empty message lies in the newest block. -/
abbrev Zi (w : World) : World := w.alloc (.cells #[.int .i64 0, .int .i64 0, .int .u32 0, .slice none 0 0] 43)
theorem zi_is (w : World) : w.alloc (.cells #[.int .i64 0, .int .i64 0, .int .u32 0, .slice none 0 0] 43) = Zi w := rfl
theorem Zi.below {w X : World} (x : Below (w.heap.size + 1) (Zi w) X) : Below w.heap.size w X := ((Below.refl _ _).alloc (Nat.le_refl _) _).trans (x.mono (Nat.le_succ _))
theorem Zi.size {w X : World} (x : Below (w.heap.size + 1) (Zi w) X) : w.heap.size + 1 ≤ X.heap.size := by have := x.size; simpa using this
theorem zi_of {w w' : World} (h : Below (w.heap.size + 1) (Zi w) w') :
    (w'.cell? ⟨w.heap.size, 0, none⟩ = some (.int .i64 0) ∧ w'.cell? ⟨w.heap.size, 1, none⟩ = some (.int .i64 0) ∧ w'.cell? ⟨w.heap.size, 2, none⟩ = some (.int .u32 0) ∧ w'.cell? ⟨w.heap.size, 3, none⟩ = some (.slice none 0 0)) ∧
    (∀ o, w'.frozen? ⟨w.heap.size, o, none⟩ = false) := by
  have hc := fun (o : Nat) => Below.cell h (p := ⟨w.heap.size, o, none⟩) (Nat.lt_succ_self _)
  refine ⟨⟨?_, ?_, ?_, ?_⟩, fun o => ?_⟩
  · refine (hc _).trans ?_; simp [go_sem]
  · refine (hc _).trans ?_; simp [go_sem]
  · refine (hc _).trans ?_; simp [go_sem]
  · refine (hc _).trans ?_; simp [go_sem]
  · refine (Below.frozen h (p := ⟨w.heap.size, o, none⟩) (Nat.lt_succ_self _)).trans ?_; simp [go_sem]
/-- four cells of block g are put. -/
abbrev set4 (w : World) (g : Nat) (u0 u1 u2 u3 : Value) : World := ((((w.setCell ⟨g, 0, none⟩ u0).setCell ⟨g, 1, none⟩ u1).setCell ⟨g, 2, none⟩ u2).setCell ⟨g, 3, none⟩ u3)
theorem below_s4 {C g : Nat} {a w : World} (h : Below C a w) (hg : C ≤ g) (u0 u1 u2 u3 : Value) : Below C a (set4 w g u0 u1 u2 u3) := (Below.setCell (Below.setCell (Below.setCell (Below.setCell h (p := ⟨g, 0, none⟩) hg u0) (p := ⟨g, 1, none⟩) hg u1) (p := ⟨g, 2, none⟩) hg u2) (p := ⟨g, 3, none⟩) hg u3)
theorem size_s4 (w : World) (g : Nat) (u0 u1 u2 u3 : Value) : (set4 w g u0 u1 u2 u3).heap.size = w.heap.size := by simp [set4]
theorem bs_far {w : World} {B : Nat} {A : Option Addr} {l : List UInt8} (h : Bs w B A l) {g : Nat} (hg : ∀ ad, A = some ad → g < ad.block) (k : Nat) (u : Value) : Bs (w.setCell ⟨g, k, none⟩ u) B A l := by
  rcases h with h | ⟨ad, rfl, hlt, hc⟩
  · exact .inl h
  · have hg := hg ad rfl
    refine .inr ⟨ad, rfl, hlt, fun j b hj => ?_⟩
    rw [World.cell?_setCell_other w _ _ u (fun e => by have := congrArg Addr.block e; simp [block_add] at this; omega)]
    exact hc j b hj
theorem bs_s4 {w : World} {B : Nat} {A : Option Addr} {l : List UInt8} (h : Bs w B A l) {g : Nat} (hg : ∀ ad, A = some ad → g < ad.block) (u0 u1 u2 u3 : Value) : Bs (set4 w g u0 u1 u2 u3) B A l :=
  bs_far (bs_far (bs_far (bs_far h hg 0 u0) hg 1 u1) hg 2 u2) hg 3 u3
/-- a message that lies in the block just behind. -/
theorem gives_s4 {w Y : World} {m : Ic} {Ab : Option Addr} {cb : Nat} (h : IcIn Y Y.heap.size m Ab cb) (hf : ∀ ad, Ab = some ad → w.heap.size < ad.block) (hb : Below w.heap.size w Y) (u0 u1 u2 u3 : Value) : GivesIc w (set4 Y w.heap.size u0 u1 u2 u3) m Ab cb := by
  refine ⟨⟨h.r0, h.r1, h.blen, h.bcap, h.bnil, ?_⟩, below_s4 hb (Nat.le_refl _) _ _ _ _⟩
  rw [size_s4]
  exact bs_s4 h.bs hf _ _ _ _
end Go.Proofs.Ytmgkkgpdnopeaaa

/- The contract of the document's own Parse of messages. -/
namespace Go.Proofs.Ytmgkkgpdnopeaaa
open Go.ChangeShapes Go.WideShapes Go.ChangeAt Go.RowKit
set_option linter.unusedVariables false

/-- the words of bytes that lie in a row. -/
theorem words_at {w' : World} {base : Nat} {v : Value} {q : List UInt8} (k : Nat) (hk : 2 * k ≤ q.length) (h0 : 0 < k) (h : w'.ownsRow base 47 1 v (wrds q).length ((wrds q).map (Value.int .u16))) :
    ∃ g c, v = .slice (some ⟨g, 0, none⟩) ((q.length + 1) / 2) c ∧ base ≤ g ∧ g < w'.heap.size ∧ ∀ j, j < k → w'.cell? ⟨g, j, none⟩ = some (.int .u16 (wd q (2 * j))) := by
  have hn := wrds_length q
  rw [hn] at h
  obtain ⟨g, c, rfl, h1, h2, _, _⟩ := own_form h (by omega)
  refine ⟨g, c, rfl, h1, h2, fun j hj => ?_⟩
  rw [own_cell h j (by simp [hn]; omega)]
  have := wrds_at j q (by omega)
  rw [List.getElem_map]
  congr 2
  rw [List.getElem?_eq_getElem (by omega)] at this
  exact Option.some.inj this
theorem g8_drop (l : List UInt8) (a k : Nat) : g8 (l.drop a) k = g8 l (a + k) := by
  unfold g8
  simp [List.getD, List.getElem?_drop]
theorem wd_drop (l : List UInt8) (a k : Nat) : wd (l.drop a) k = wd l (a + k) := by
  unfold wd
  rw [g8_drop, g8_drop]; rfl

set_option maxRecDepth 100000 in
set_option maxHeartbeats 8000000 in
theorem rparseI (A : Option Addr) (n c : Nat) (l : List UInt8) (w : World) (hn : l.length = n) (h : Bs w w.heap.size A l) (hn2 : n ≤ 16777216) (hnc : n ≤ c) (hc2 : c ≤ 9223372036854775807) :
    Calls Try.prog 26 #[.slice A n c] w (ParsedI w (prsI l)) := by
  obtain ⟨⟨z0, z1, z2, z3⟩, zf⟩ := zi_of (show Below (w.heap.size + 1) (Zi w) (Zi w) from Below.refl _ _)
  have b0 := Zi.below (show Below (w.heap.size + 1) (Zi w) (Zi w) from Below.refl _ _)
  by_cases h2 : n < 8
  · have HP : Hid (prsI l = (2, Ic.empty)) := Go.Lib.hid (by unfold prsI; rw [if_pos (by omega)])
    clear h hn
    go_enter Try.func26, Try.ntmps26
    go_upto_region 1 with fail
    rw [zi_is]
    generalize Zi w = W at *
    go_wp2
    refine bodyPost_ret (v := .tuple #[.agg #[.int .i64 0, .int .i64 0, .int .u32 0, .slice none 0 0], .int .i64 2]) ?_ rfl (parsedI_err HP.out rfl ?_)
    · simp [results, Try.results26, go_sem, z0, z1, z2, z3]
    · exact below_s4 b0 (Nat.le_refl _) _ _ _ _
  by_cases h3 : (65535 : Int) < (n : Int)
  · have HP : Hid (prsI l = (4, Ic.empty)) := Go.Lib.hid (by unfold prsI; rw [if_neg (by omega), if_pos (by omega)])
    clear h hn
    go_enter Try.func26, Try.ntmps26
    go_upto_region 1 with fail
    rw [zi_is]
    generalize Zi w = W at *
    go_wp2
    refine bodyPost_ret (v := .tuple #[.agg #[.int .i64 0, .int .i64 0, .int .u32 0, .slice none 0 0], .int .i64 4]) ?_ rfl (parsedI_err HP.out rfl ?_)
    · simp [results, Try.results26, go_sem, z0, z1, z2, z3]
    · exact below_s4 b0 (Nat.le_refl _) _ _ _ _
  obtain ⟨ad, rfl, hlt, hcell⟩ := g8_cells h (by omega)
  have C0 := hcell 0 (by omega)
  have C1 := hcell 1 (by omega)
  rw [add_zero] at C0
  rw [add_pos ad 1 (by omega)] at C1
  have x00 := g8_lo l 0
  have x01 := g8_hi l 0
  have x10 := g8_lo l 1
  have x11 := g8_hi l 1
  have y40 := wd_lo l 4
  have y41 := wd_hi l 4
  have y60 := wd_lo l 6
  have y61 := wd_hi l 6
  have HN := Go.Lib.hid hn
  have HB := Go.Lib.hid h
  have h8 : 8 ≤ n := by omega
  have n65 : n ≤ 65535 := by omega
  have HP : Hid (prsI l = if fo (tot l) ≠ 65535 then (5, Ic.empty) else (0, ⟨g8 l 0, g8 l 1, wd l 4 * 65536 + wd l 6, l.drop 8⟩)) := Go.Lib.hid (by unfold prsI; rw [if_neg (by omega), if_neg (by omega)]; rfl)
  have HDL : Hid ((l.drop 8).length = n - 8) := Go.Lib.hid (by rw [List.length_drop, hn])
  have HQL : Hid (((l.drop 4).take 4).length = 4) := Go.Lib.hid (by rw [List.length_take, List.length_drop]; omega)
  have Q4 : Hid (wd ((l.drop 4).take 4) 0 = wd l 4) := Go.Lib.hid (by show _ = _; rw [wd_take _ 4 0 (by omega) (by rw [List.length_drop]; omega), wd_drop])
  have Q6 : Hid (wd ((l.drop 4).take 4) 2 = wd l 6) := Go.Lib.hid (by show _ = _; rw [wd_take _ 4 2 (by omega) (by rw [List.length_drop]; omega), wd_drop])
  have HC4 : Hid (Bs w w.heap.size (some { block := ad.block, off := ad.off + 4 }) ((l.drop 4).take 4)) := Go.Lib.hid (by
    have := (h.cut 4 c (by omega) (by omega)).take 4
    rw [if_neg (by omega)] at this; simpa using this)
  have HC : Hid (Bs w w.heap.size (if c = 8 then (some ad : Option Addr) else some { block := ad.block, off := ad.off + 8 }) (l.drop 8)) := Go.Lib.hid (by
    have := h.cut 8 c (by omega) (by omega)
    simpa using this)
  have HCN : Hid ((if c = 8 then (some ad : Option Addr) else some { block := ad.block, off := ad.off + 8 }) = none → c - 8 = 0) := Go.Lib.hid (by split <;> (intro h; cases h))
  have i00 : 0 < n := by omega
  have i01 : (1 : Int) < (n : Int) := by omega
  have i8 : (8 : Int) ≤ (c : Int) := by omega
  have i9 : (8 : Int) ≤ (n : Int) := by omega
  generalize g8 l 0 = x0 at *
  generalize g8 l 1 = x1 at *
  generalize wd l 4 = y4 at *
  generalize wd l 6 = y6 at *
  clear h hn hcell
  go_enter Try.func26, Try.ntmps26
  go_upto_region 1 with fail
  have x1z : Below (w.heap.size + 1) (Zi w) (Zi w) := Below.refl _ _
  have sz := Zi.size x1z
  rw [zi_is]
  generalize hW : Zi w = W at *
  go_wp2_with fail
  refine (rsum_n (some ad) n c l w.heap.size _ HN.out (HB.out.below b0) b0.size hn2 hnc).mono ?_
  rintro e w0 ⟨rfl, hb0⟩
  dsimp only
  have x1z := x1z.trans (hb0.mono sz)
  obtain ⟨⟨z0, z1, z2, z3⟩, zf⟩ := zi_of (w := w) (by rw [hW]; exact x1z)
  have b0 := b0.trans (hb0.mono b0.size)
  have s0 : w.heap.size + 1 ≤ w0.heap.size := Nat.le_trans sz x1z.size
  clear hb0
  by_cases hS : fo (tot l) = 65535
  · have HP0 : Hid (prsI l = (0, ⟨x0, x1, y4 * 65536 + y6, l.drop 8⟩)) := Go.Lib.hid (by rw [HP.out, if_neg (by simpa using hS)])
    rw [hS]
    clear hS HP z0 z1 z2 z3 zf
    go_wp2_with fail
    refine (rwords_n (some { block := ad.block, off := ad.off + 4 }) 4 (c - 4) ((l.drop 4).take 4) w.heap.size _ HQL.out (HC4.out.below b0) b0.size (by omega) (by omega)).mono ?_
    rintro e w1 ⟨v, rfl, hown, hb1⟩
    dsimp only
    obtain ⟨g, kc, rfl, hg1, hg2, hw⟩ := words_at 2 (by rw [HQL.out]; omega) (by omega) hown
    have q4 := hw 0 (by omega)
    have q6 := hw 1 (by omega)
    rw [HQL.out]
    simp only [Nat.reduceMul, Nat.mul_zero, Nat.reduceAdd, Nat.reduceDiv, Q4.out, Q6.out] at q4 q6 ⊢
    have b1 := b0.trans (hb1.mono b0.size)
    have x1z : Below (w.heap.size + 1) (Zi w) w1 := by rw [hW]; exact x1z.trans (hb1.mono s0)
    have s1 : w.heap.size + 1 ≤ w1.heap.size := Nat.le_trans s0 hb1.size
    have C0' := (b1.cell (p := ad) hlt).trans C0
    have C1' := (b1.cell (p := ⟨ad.block, ad.off + 1, none⟩) hlt).trans C1
    have hgw : w.heap.size < g := by omega
    clear hown hw hb1 Q4 Q6 HQL HC4
    have e0 := IntWalk.i64_in x0 (by omega)
    have e1 := IntWalk.i64_in x1 (by omega)
    have e4 := IntWalk.u32_in y4 (by omega)
    have e6 := IntWalk.u32_in y6 (by omega)
    have e5 := IntWalk.u32_in (y4 * 65536) (by omega)
    have e7 := IntWalk.u32_in (y4 * 65536 + y6) (by omega)
    have j1 : n - 8 ≤ 1073741824 := by omega
    have l0 : ([] : List UInt8).length ≤ 1073741824 := by simp
    have K : ∀ Y, Below w1.heap.size w1 Y → Y.cell? ad = some (.int .u8 x0) ∧ Y.cell? ⟨ad.block, ad.off + 1, none⟩ = some (.int .u8 x1) ∧ Y.cell? ⟨g, 0, none⟩ = some (.int .u16 y4) ∧ Y.cell? ⟨g, 1, none⟩ = some (.int .u16 y6) ∧ Below w.heap.size w Y := fun Y y => ⟨(y.cell (p := ad) (Nat.lt_of_lt_of_le hlt b1.size)).trans C0', (y.cell (p := ⟨ad.block, ad.off + 1, none⟩) (Nat.lt_of_lt_of_le hlt b1.size)).trans C1', (y.cell (p := ⟨g, 0, none⟩) hg2).trans q4, (y.cell (p := ⟨g, 1, none⟩) hg2).trans q6, b1.trans (y.mono b1.size)⟩
    have K2 : ∀ (Y : World) (a b c d : Value), (Y.cell? ad = some (.int .u8 x0) ∧ Y.cell? ⟨ad.block, ad.off + 1, none⟩ = some (.int .u8 x1) ∧ Y.cell? ⟨g, 0, none⟩ = some (.int .u16 y4) ∧ Y.cell? ⟨g, 1, none⟩ = some (.int .u16 y6) ∧ Below w.heap.size w Y) → (set4 Y w.heap.size a b c d).cell? ad = some (.int .u8 x0) ∧ (set4 Y w.heap.size a b c d).cell? ⟨ad.block, ad.off + 1, none⟩ = some (.int .u8 x1) ∧ (set4 Y w.heap.size a b c d).cell? ⟨g, 0, none⟩ = some (.int .u16 y4) ∧ (set4 Y w.heap.size a b c d).cell? ⟨g, 1, none⟩ = some (.int .u16 y6) ∧ Below w.heap.size w (set4 Y w.heap.size a b c d) := fun Y a b c d ⟨k0, k1, k2, k3, k4⟩ => by
      have hh : ∀ (Z : World) (p : Addr) (k : Nat) (u : Value), p.block ≠ w.heap.size → (Z.setCell ⟨w.heap.size, k, none⟩ u).cell? p = Z.cell? p := fun Z p k u hp => World.cell?_setCell_other Z _ _ u (fun e => hp (by first | (rw [e]; done) | rw [← e]))
      have n1 : ad.block ≠ w.heap.size := Nat.ne_of_lt hlt
      have n2 : g ≠ w.heap.size := by omega
      refine ⟨?_, ?_, ?_, ?_, below_s4 k4 (Nat.le_refl _) _ _ _ _⟩
      · rw [hh _ _ _ _ n1, hh _ _ _ _ n1, hh _ _ _ _ n1, hh _ _ _ _ n1]; exact k0
      · rw [hh _ ⟨ad.block, ad.off + 1, none⟩ _ _ n1, hh _ ⟨ad.block, ad.off + 1, none⟩ _ _ n1, hh _ ⟨ad.block, ad.off + 1, none⟩ _ _ n1, hh _ ⟨ad.block, ad.off + 1, none⟩ _ _ n1]; exact k1
      · rw [hh _ ⟨g, 0, none⟩ _ _ n2, hh _ ⟨g, 0, none⟩ _ _ n2, hh _ ⟨g, 0, none⟩ _ _ n2, hh _ ⟨g, 0, none⟩ _ _ n2]; exact k2
      · rw [hh _ ⟨g, 1, none⟩ _ _ n2, hh _ ⟨g, 1, none⟩ _ _ n2, hh _ ⟨g, 1, none⟩ _ _ n2, hh _ ⟨g, 1, none⟩ _ _ n2]; exact k3
    clear C0 C1 hW
    go_upto_region 8 with fail
    try simp only [List.append_eq, List.cons_append, List.nil_append]
    refine wp_region_held_drew (S := (fun Y => Y.cell? ad = some (.int .u8 x0) ∧ Y.cell? ⟨ad.block, ad.off + 1, none⟩ = some (.int .u8 x1) ∧ Y.cell? ⟨g, 0, none⟩ = some (.int .u16 y4) ∧ Y.cell? ⟨g, 1, none⟩ = some (.int .u16 y6) ∧ Below w.heap.size w Y)) (by kernel_rfl) ?_ (fun hHeld => ?_)
    · exact K _ (below_drew (Below.refl _ _))
    refine wpAnyH_take (i := 0) (oi := ⟨some 20, _, _, _, _, _⟩) (v := ?_) rfl (by kernel_rfl) (by kernel_rfl) (by kernel_rfl) (fun _ _ _ h => h) (Or.inl ⟨by rfl, ?_⟩) (by assumption) ?_
    rotate_left
    · intro w hSw; (try dsimp only at hSw); go_simp; (try with_reducible rfl)
    try simp only [Act.put, List.setIfInBounds_toArray, List.set_cons_zero, List.set_cons_succ]
    refine wpAnyH_take (i := 1) (oi := ⟨some 21, _, _, _, _, _⟩) (v := ?_) rfl (by kernel_rfl) (by kernel_rfl) (by kernel_rfl) (fun _ _ _ h => h) (Or.inl ⟨by rfl, ?_⟩) (by assumption) ?_
    rotate_left
    · intro w hSw; (try dsimp only at hSw); go_simp; (try with_reducible rfl)
    try simp only [Act.put, List.setIfInBounds_toArray, List.set_cons_zero, List.set_cons_succ]
    refine wpAnyH_take (i := 2) (oi := ⟨some 22, _, _, _, _, _⟩) (v := ?_) rfl (by kernel_rfl) (by kernel_rfl) (by kernel_rfl) (fun _ _ _ h => h) (Or.inl ⟨by rfl, ?_⟩) (by assumption) ?_
    rotate_left
    · intro w hSw; (try dsimp only at hSw); go_simp; (try with_reducible rfl)
    try simp only [Act.put, List.setIfInBounds_toArray, List.set_cons_zero, List.set_cons_succ]
    refine wpAnyH_take (i := 3) (oi := ⟨some 23, _, _, _, _, _⟩) (v := ?_) rfl (by kernel_rfl) (by kernel_rfl) (by kernel_rfl) (fun _ _ _ h => h) (Or.inl ⟨by rfl, ?_⟩) (by assumption) ?_
    rotate_left
    · intro w hSw; (try dsimp only at hSw); go_simp; (try with_reducible rfl)
    try simp only [Act.put, List.setIfInBounds_toArray, List.set_cons_zero, List.set_cons_succ]
    refine wpAnyH_take (i := 4) (oi := ⟨some 24, _, _, _, _, _⟩) (v := ?_) rfl (by kernel_rfl) (by kernel_rfl) (by kernel_rfl) (fun _ _ _ h => h) (Or.inl ⟨by rfl, ?_⟩) (by assumption) ?_
    rotate_left
    · intro w hSw; (try dsimp only at hSw); go_simp; (try with_reducible rfl)
    try simp only [Act.put, List.setIfInBounds_toArray, List.set_cons_zero, List.set_cons_succ]
    refine wpAnyH_take (i := 5) (oi := ⟨some 25, _, _, _, _, _⟩) (v := ?_) rfl (by kernel_rfl) (by kernel_rfl) (by kernel_rfl) (fun _ _ _ h => h) (Or.inl ⟨by rfl, ?_⟩) (by assumption) ?_
    rotate_left
    · intro w hSw; (try dsimp only at hSw); go_simp; (try with_reducible rfl)
    try simp only [Act.put, List.setIfInBounds_toArray, List.set_cons_zero, List.set_cons_succ]
    refine wpAnyH_take (i := 6) (oi := ⟨some 26, _, _, _, _, _⟩) (v := ?_) rfl (by kernel_rfl) (by kernel_rfl) (by kernel_rfl) (fun _ _ _ h => h) (Or.inl ⟨by rfl, ?_⟩) (by assumption) ?_
    rotate_left
    · intro w hSw; (try dsimp only at hSw); go_simp; (try with_reducible rfl)
    try simp only [Act.put, List.setIfInBounds_toArray, List.set_cons_zero, List.set_cons_succ]
    refine wpAnyH_take (i := 7) (oi := ⟨some 27, _, _, _, _, _⟩) (v := ?_) rfl (by kernel_rfl) (by kernel_rfl) (by kernel_rfl) (fun _ _ _ h => h) (Or.inl ⟨by rfl, ?_⟩) (by assumption) ?_
    rotate_left
    · intro w hSw; (try dsimp only at hSw); go_simp; (try with_reducible rfl)
    try simp only [Act.put, List.setIfInBounds_toArray, List.set_cons_zero, List.set_cons_succ]
    refine wpAnyH_take (i := 8) (oi := ⟨some 28, _, _, _, _, _⟩) (v := ?_) rfl (by kernel_rfl) (by kernel_rfl) (by kernel_rfl) (fun _ _ _ h => h) (Or.inl ⟨by rfl, ?_⟩) (by assumption) ?_
    rotate_left
    · intro w hSw; (try dsimp only at hSw); go_simp; (try with_reducible rfl)
    try simp only [Act.put, List.setIfInBounds_toArray, List.set_cons_zero, List.set_cons_succ]
    refine wpAnyH_take (i := 9) (oi := ⟨some 29, _, _, _, _, _⟩) (v := ?_) rfl (by kernel_rfl) (by kernel_rfl) (by kernel_rfl) (fun _ _ _ h => h) (Or.inl ⟨by rfl, ?_⟩) (by assumption) ?_
    rotate_left
    · intro w hSw; (try dsimp only at hSw); go_simp; (try with_reducible rfl)
    try simp only [Act.put, List.setIfInBounds_toArray, List.set_cons_zero, List.set_cons_succ]
    refine wpAnyH_take (i := 10) (oi := ⟨some 30, _, _, _, _, _⟩) (v := ?_) rfl (by kernel_rfl) (by kernel_rfl) (by kernel_rfl) (fun _ _ _ h => h) (Or.inl ⟨by rfl, ?_⟩) (by assumption) ?_
    rotate_left
    · intro w hSw; (try dsimp only at hSw); go_simp; (try with_reducible rfl)
    try simp only [Act.put, List.setIfInBounds_toArray, List.set_cons_zero, List.set_cons_succ]
    refine wpAnyH_take (i := 11) (oi := ⟨some 31, _, _, _, _, _⟩) (v := ?_) rfl (by kernel_rfl) (by kernel_rfl) (by kernel_rfl) (fun _ _ _ h => h) (Or.inl ⟨by rfl, ?_⟩) (by assumption) ?_
    rotate_left
    · intro w hSw; (try dsimp only at hSw); go_simp; (try with_reducible rfl)
    try simp only [Act.put, List.setIfInBounds_toArray, List.set_cons_zero, List.set_cons_succ]
    refine wpAnyH_take (i := 12) (oi := ⟨some 32, _, _, _, _, _⟩) (v := ?_) rfl (by kernel_rfl) (by kernel_rfl) (by kernel_rfl) (fun _ _ _ h => h) (Or.inl ⟨by rfl, ?_⟩) (by assumption) ?_
    rotate_left
    · intro w hSw; (try dsimp only at hSw); go_simp; (try with_reducible rfl)
    try simp only [Act.put, List.setIfInBounds_toArray, List.set_cons_zero, List.set_cons_succ]
    refine wpAnyH_take (i := 13) (oi := ⟨some 33, _, _, _, _, _⟩) (v := ?_) rfl (by kernel_rfl) (by kernel_rfl) (by kernel_rfl) (fun _ _ _ h => h) (Or.inl ⟨by rfl, ?_⟩) (by assumption) ?_
    rotate_left
    · intro w hSw; (try dsimp only at hSw); go_simp; (try with_reducible rfl)
    try simp only [Act.put, List.setIfInBounds_toArray, List.set_cons_zero, List.set_cons_succ]
    refine wpAnyH_take (i := 14) (oi := ⟨some 34, _, _, _, _, _⟩) (v := ?_) rfl (by kernel_rfl) (by kernel_rfl) (by kernel_rfl) (fun _ _ _ h => h) (Or.inl ⟨by rfl, ?_⟩) (by assumption) ?_
    rotate_left
    · intro w hSw; (try dsimp only at hSw); go_simp; (try with_reducible rfl)
    try simp only [Act.put, List.setIfInBounds_toArray, List.set_cons_zero, List.set_cons_succ]
    refine wpAnyH_take (i := 15) (oi := ⟨some 35, _, _, _, _, _⟩) (v := ?_) rfl (by kernel_rfl) (by kernel_rfl) (by kernel_rfl) (fun _ _ _ h => h) (Or.inl ⟨by rfl, ?_⟩) (by assumption) ?_
    rotate_left
    · intro w hSw; (try dsimp only at hSw); go_simp; (try with_reducible rfl)
    try simp only [Act.put, List.setIfInBounds_toArray, List.set_cons_zero, List.set_cons_succ]
    refine wpAnyH_take (i := 16) (oi := ⟨some 36, _, _, _, _, _⟩) (v := ?_) rfl (by kernel_rfl) (by kernel_rfl) (by kernel_rfl) (fun _ _ _ h => h) (Or.inl ⟨by rfl, ?_⟩) (by assumption) ?_
    rotate_left
    · intro w hSw; (try dsimp only at hSw); go_simp; (try with_reducible rfl)
    try simp only [Act.put, List.setIfInBounds_toArray, List.set_cons_zero, List.set_cons_succ]
    refine wpAnyH_take (i := 17) (oi := ⟨some 37, _, _, _, _, _⟩) (v := ?_) rfl (by kernel_rfl) (by kernel_rfl) (by kernel_rfl) (fun _ _ _ h => h) (Or.inl ⟨by rfl, ?_⟩) (by assumption) ?_
    rotate_left
    · intro w hSw; (try dsimp only at hSw); go_simp; (try with_reducible rfl)
    try simp only [Act.put, List.setIfInBounds_toArray, List.set_cons_zero, List.set_cons_succ]
    refine wpAnyH_take (i := 19) (oi := ⟨some 39, _, _, _, _, _⟩) (v := ?_) rfl (by kernel_rfl) (by kernel_rfl) (by kernel_rfl) (fun _ _ _ h => h) (Or.inl ⟨by rfl, ?_⟩) (by assumption) ?_
    rotate_left
    · intro w hSw; (try dsimp only at hSw); go_simp; (try with_reducible rfl)
    try simp only [Act.put, List.setIfInBounds_toArray, List.set_cons_zero, List.set_cons_succ]
    refine wpAnyH_take (i := 20) (oi := ⟨some 40, _, _, _, _, _⟩) (v := ?_) rfl (by kernel_rfl) (by kernel_rfl) (by kernel_rfl) (fun _ _ _ h => h) (Or.inl ⟨by rfl, ?_⟩) (by assumption) ?_
    rotate_left
    · intro w hSw; (try dsimp only at hSw); go_simp; (try with_reducible rfl)
    try simp only [Act.put, List.setIfInBounds_toArray, List.set_cons_zero, List.set_cons_succ]
    refine wpAnyH_ready (rs := [18]) (by kernel_rfl) (by simp) (AllReadyH.cons (o := ⟨some 38, _, _, _, _, _⟩) rfl (fun Kc hKc => ?_) AllReadyH.nil)
    go_simp
    have z2 : Below w1.heap.size w1 (w1.drew.alloc (.cells #[] 5)) := (below_drew (Below.refl _ _)).alloc (Nat.le_refl _) _; have HRZ : Hid (Row (w1.drew.alloc (.cells #[] 5)) w1.heap.size (.slice (some ⟨w1.heap.size, 0, none⟩) 0 0) []) := Go.Lib.hid ((own_lit w1.drew w1.heap.size [] (fun x hx => by cases hx) (Nat.le_refl _) (by simp)).row)
    clear hHeld
    refine hKc.out _ _ ?_ (fun hHeld => ?_)
    · (try dsimp only); exact K _ z2
    clear hKc Kc
    try simp only [Act.put, List.setIfInBounds_toArray, List.set_cons_zero, List.set_cons_succ]
    refine wpAnyH_ready (rs := [21]) (by kernel_rfl) (by simp) (AllReadyH.cons (o := ⟨some 41, _, _, _, _, _⟩) rfl (fun Kc hKc => ?_) AllReadyH.nil)
    refine apS rfl _ _ rfl w1.heap.size _ [] rfl HRZ.out w.heap.size _ _ (c - 8) (l.drop 8) rfl HDL.out HCN.out (HC.out.below (b1.trans (z2.mono b1.size))) l0 j1 z2.size ?_; intro v7 w7 hrow7 hb7; have z7 := z2.trans (hb7.mono (Nat.le_refl _)); rw [List.nil_append] at hrow7; obtain ⟨A7, c7, hv7, hl7, hc7, hn7, hs7⟩ := hrow7.form; rw [HDL.out] at hv7; subst hv7; have f7 : ∀ ad, A7 = some ad → w.heap.size < ad.block := fun ad e => (by subst e; have := (hrow7.lt ad.block rfl).1; omega); obtain ⟨⟨y0, y1, y2, y3⟩, zf⟩ := zi_of (x1z.trans (z7.mono s1))
    clear hHeld
    refine hKc.out _ _ ?_ (fun hHeld => ?_)
    · (try dsimp only); exact K _ z7
    clear hKc Kc
    try simp only [Act.put, List.setIfInBounds_toArray, List.set_cons_zero, List.set_cons_succ]
    refine wpAnyH_take (i := 22) (oi := ⟨some 42, _, _, _, _, _⟩) (v := ?_) rfl (by kernel_rfl) (by kernel_rfl) (by kernel_rfl) (fun _ _ _ h => h) (Or.inl ⟨by rfl, ?_⟩) (by assumption) ?_
    rotate_left
    · intro w hSw; (try dsimp only at hSw); go_simp; (try with_reducible rfl)
    try simp only [Act.put, List.setIfInBounds_toArray, List.set_cons_zero, List.set_cons_succ]
    refine wpAnyH_ready (rs := [23]) (by kernel_rfl) (by simp) (AllReadyH.cons (o := ⟨none, _, _, _, _, _⟩) rfl (fun Kc hKc => ?_) AllReadyH.nil)
    go_simp
    clear hHeld
    refine hKc.out _ _ ?_ (fun hHeld => ?_)
    · (try dsimp only); exact K2 _ _ _ _ _ (K _ z7)
    clear hKc Kc
    try simp only [Act.put, List.setIfInBounds_toArray, List.set_cons_zero, List.set_cons_succ]
    refine wpAnyH_take (i := 24) (oi := ⟨some 3, _, _, _, _, _⟩) (v := ?_) rfl (by kernel_rfl) (by kernel_rfl) (by kernel_rfl) (fun _ _ _ h => h) (Or.inl ⟨by rfl, ?_⟩) (by assumption) ?_
    rotate_left
    · intro w hSw; (try dsimp only at hSw); go_simp; (try with_reducible rfl)
    try simp only [Act.put, List.setIfInBounds_toArray, List.set_cons_zero, List.set_cons_succ]
    refine wpAnyH_done (by kernel_rfl) ?_ _
    have HF : Hid (GivesIc w (set4 w7 w.heap.size (.int .i64 x0) (.int .i64 x1) (.int .u32 (y4 * 65536 + y6)) (.slice A7 (n - 8) c7)) ⟨x0, x1, y4 * 65536 + y6, l.drop 8⟩ A7 c7) := Go.Lib.hid (gives_s4 ⟨by show 0 ≤ y4 * 65536 + y6; omega, by show y4 * 65536 + y6 ≤ 4294967295; omega, hl7, hc7, hn7, hs7⟩ f7 (b1.trans (z7.mono b1.size)) _ _ _ _)
    clear K K2 hrow7 hb7 hs7 HRZ z7 f7
    go_wp2
    all_goals
      refine bodyPost_ret (v := .tuple #[.agg #[.int .i64 x0, .int .i64 x1, .int .u32 (y4 * 65536 + y6), .slice A7 (n - 8) c7], .int .i64 0]) ?_ rfl (parsedI_ok HP0.out (by rw [icV, HDL.out]) HF.out)
      simp [results, Try.results26, go_sem, y0, y1, y2, y3]
  · have HP5 : Hid (prsI l = (5, Ic.empty)) := Go.Lib.hid (by rw [HP.out, if_pos hS])
    have t2 : (fo (tot l) != 65535) = true := by simpa using hS
    clear hS HP x1z
    generalize fo (tot l) = s at *
    go_wp2
    refine bodyPost_ret (v := .tuple #[.agg #[.int .i64 0, .int .i64 0, .int .u32 0, .slice none 0 0], .int .i64 5]) ?_ rfl (parsedI_err HP5.out rfl ?_)
    · simp [results, Try.results26, go_sem, z0, z1, z2, z3]
    · exact below_s4 b0 (Nat.le_refl _) _ _ _ _
end Go.Proofs.Ytmgkkgpdnopeaaa

/- Contracts of package icmp: words of bytes, what a message is. -/
namespace Go.Proofs.Ytmgkkgpdnopeaaa
open Go.ChangeShapes Go.WideShapes Go.ChangeAt Go.RowKit
set_option linter.unusedVariables false

set_option maxHeartbeats 400000 in
theorem iword (A : Option Addr) (n c : Nat) (l : List UInt8) (B : Nat) (w : World) (hn : l.length = n) (h : Bs w B A l) (k : Nat) (ki : Int) (hki : ki = (k : Int)) (hk : k + 1 < n) (hn2 : n ≤ 16777216) :
    Calls Try.prog 87 #[.slice A n c, .int .i64 ki] w fun e w' => e = .returned (.int .u16 (wd l k)) ∧ ∃ m, w' = w.drewN m := by
  subst hki
  obtain ⟨ad, rfl, hlt, hcell⟩ := g8_cells h (by omega)
  have c0 := hcell k (by omega)
  have c1 := hcell (k + 1) (by omega)
  rw [add_pos ad (k + 1) (by omega)] at c1
  have H := Go.Lib.hid hn
  clear hcell hn h
  have b0 := g8_lo l k
  have b1 := g8_hi l k
  have b2 := g8_lo l (k + 1)
  have b3 := g8_hi l (k + 1)
  have hw := u16_or8 (g8 l k) (g8 l (k + 1)) b0 b1 b2 b3
  have HE : Hid (wd l k = g8 l k * 256 + g8 l (k + 1)) := Go.Lib.hid rfl
  generalize g8 l k = x at *
  generalize g8 l (k + 1) = y at *
  have e1 := IntWalk.u16_in x (by omega)
  have e2 := IntWalk.u16_in y (by omega)
  have e3 := IntWalk.u16_in (x * 256) (by omega)
  have i0 : (k : Int) < (n : Int) := by omega
  have i1 : (k : Int) + 1 < (n : Int) := by omega
  have j0 : (0 : Int) ≤ (k : Int) := by omega
  have j1 : (0 : Int) ≤ (k : Int) + 1 := by omega
  have s1 : IntKind.i64.wrap ((k : Int) + 1) = (k : Int) + 1 := IntWalk.i64_in _ (by omega)
  have s2 : ((k : Int) + 1).toNat = k + 1 := by omega
  go_enter Try.func87, Try.ntmps87
  go_wp2
  go_quiet (fail)
  go_wp2
  go_ret
  exact ⟨ret_int HE.out.symm, _, rfl⟩

set_option maxHeartbeats 400000 in
theorem iupTo (n m : Int) (w : World) :
    Calls Try.prog 31 #[.int .i64 n, .int .i64 m] w fun e w' => e = .returned (.bool (upB n m)) ∧ w = w' := by
  unfold upB
  by_cases h0 : 0 ≤ n
  · by_cases h1 : n ≤ m
    · go_enter Try.func31, Try.ntmps31
      go_wp2
      go_ret
      exact ⟨by simp [h0, h1], rfl⟩
    · go_enter Try.func31, Try.ntmps31
      go_wp2
      go_ret
      exact ⟨by simp [h1], rfl⟩
  · go_enter Try.func31, Try.ntmps31
    go_wp2
    go_ret
    exact ⟨by simp; omega, rfl⟩

set_option maxHeartbeats 400000 in
theorem iputWord (w : World) (base g n c : Nat) (l : List UInt8) (h : Own w base g n c l) (k : Nat) (ki : Int) (hki : ki = (k : Int)) (hk : k + 1 < n) (hn : n ≤ 16777216) (x : Int) (x0 : 0 ≤ x) (x1 : x ≤ 65535) :
    Calls Try.prog 33 #[.slice (some ⟨g, 0, none⟩) n c, .int .i64 ki, .int .u16 x] w fun e w' => e = .returned (.tuple #[]) ∧ Own w' base g n c ((l.set k (b8 (x / 256))).set (k + 1) (b8 (x % 256))) ∧ Below base w w' := by
  subst hki
  have c0 := h.cellAt k (by omega)
  have c1 := h.cellAt (k + 1) (by omega)
  have r0 := h.frozenAt k
  have r1 := h.frozenAt (k + 1)
  obtain ⟨s1, s2⟩ := h.stored k (x / 256) (by omega) (by omega)
  obtain ⟨s3, s4⟩ := s1.stored (k + 1) (x % 256) (by omega) (by omega)
  have S := Go.Lib.hid (And.intro s3 (s2.trans s4))
  clear s1 s2 s3 s4 h
  have e1 := IntKind.wrap_u8 x
  have e2 := IntWalk.u8_in (x / 256) (by omega)
  go_enter Try.func33, Try.ntmps33
  go_wp2
  go_end0
  exact ⟨rfl, S.out⟩

theorem iup_b (n m : Int) (b : Bool) (hb : upB n m = b) (w : World) :
    Calls Try.prog 31 #[.int .i64 n, .int .i64 m] w fun e w' => e = .returned (.bool b) ∧ w = w' := hb ▸ iupTo n m w
def askK (k : Int) : Bool := k == 8 || k == 13
def ansK (k : Int) : Bool := k == 0 || k == 14
def nameI (m : Ic) : Int := if askK m.type || ansK m.type then m.rest / 65536 else 0
set_option maxRecDepth 100000 in
set_option maxHeartbeats 1000000 in
theorem iasks (m : Ic) (Ab : Option Addr) (cb : Nat) (w : World) (b : Bool) (hb : askK m.type = b) :
    Calls Try.prog 74 #[icV m Ab cb] w fun e w' => e = .returned (.bool b) ∧ Below w.heap.size w w' := by
  unfold askK at hb
  subst hb
  go_enter Try.func74, Try.ntmps74
  go_wp2
  all_goals (go_ret; refine ⟨ret_bool ?_, (Below.refl _ _).alloc (Nat.le_refl _) _⟩)
  all_goals first | rfl | (simp [*]; done)
set_option maxRecDepth 100000 in
set_option maxHeartbeats 1000000 in
theorem ianswers (m : Ic) (Ab : Option Addr) (cb : Nat) (w : World) (b : Bool) (hb : ansK m.type = b) :
    Calls Try.prog 75 #[icV m Ab cb] w fun e w' => e = .returned (.bool b) ∧ Below w.heap.size w w' := by
  unfold ansK at hb
  subst hb
  go_enter Try.func75, Try.ntmps75
  go_wp2
  all_goals (go_ret; refine ⟨ret_bool ?_, (Below.refl _ _).alloc (Nat.le_refl _) _⟩)
  all_goals first | rfl | (simp [*]; done)
set_option maxRecDepth 100000 in
set_option maxHeartbeats 1000000 in
theorem iname (m : Ic) (Ab : Option Addr) (cb : Nat) (w : World) (n : Int) (hn : nameI m = n) (r0 : 0 ≤ m.rest) (r1 : m.rest ≤ 4294967295) :
    Calls Try.prog 76 #[icV m Ab cb] w fun e w' => e = .returned (.int .i64 n) ∧ Below w.heap.size w w' := by
  have m0 := icIs.made (w := w) (m := m) (A_body := Ab) (c_body := cb)
  have b0 : Below w.heap.size w (w.alloc (icO m Ab cb)) := (Below.refl _ _).alloc (Nat.le_refl _) _
  have s0 : w.heap.size < (w.alloc (icO m Ab cb)).heap.size := by simp
  obtain ⟨x, hx⟩ : ∃ x : Bool, askK m.type = x := ⟨_, rfl⟩
  obtain ⟨y, hy⟩ : ∃ y : Bool, ansK m.type = y := ⟨_, rfl⟩
  unfold nameI at hn
  rw [hx, hy] at hn
  have HX := Go.Lib.hid hx
  have HY := Go.Lib.hid hy
  have HN := Go.Lib.hid hn
  have e1 := IntWalk.i64_in (m.rest / 65536) (by omega)
  clear hx hy hn
  go_enter Try.func76, Try.ntmps76
  go_upto_region 1 with fail
  generalize w.alloc (.cells #[.int .i64 m.type, .int .i64 m.code, .int .u32 m.rest, .slice Ab m.body.length cb] 43) = W at *
  obtain ⟨c0, c1, c2, c3⟩ := m0.cells
  cases x
  · go_wp2_with fail
    refine (iasks m Ab cb _ false HX.out).mono ?_
    rintro e w1 ⟨rfl, hb1⟩
    dsimp only
    have b1 := b0.trans (hb1.mono b0.size)
    have m1 := m0.call hb1 s0
    clear c0 c1 c2 c3
    obtain ⟨c0, c1, c2, c3⟩ := m1.cells
    have s1 := Nat.lt_of_lt_of_le s0 hb1.size
    clear hb1
    cases y
    · go_wp2_with fail
      refine (ianswers m Ab cb _ false HY.out).mono ?_
      rintro e w2 ⟨rfl, hb2⟩
      dsimp only
      have b2 := b1.trans (hb2.mono b1.size)
      go_wp2
      go_ret
      exact ⟨ret_int HN.out, b2⟩
    · go_wp2_with fail
      refine (ianswers m Ab cb _ true HY.out).mono ?_
      rintro e w2 ⟨rfl, hb2⟩
      dsimp only
      have b2 := b1.trans (hb2.mono b1.size)
      have m2 := m1.call hb2 s1
      clear c0 c1 c2 c3
      obtain ⟨c0, c1, c2, c3⟩ := m2.cells
      go_wp2
      go_ret
      exact ⟨ret_int HN.out, b2⟩
  · go_wp2_with fail
    refine (iasks m Ab cb _ true HX.out).mono ?_
    rintro e w1 ⟨rfl, hb1⟩
    dsimp only
    have b1 := b0.trans (hb1.mono b0.size)
    have m1 := m0.call hb1 s0
    clear c0 c1 c2 c3
    obtain ⟨c0, c1, c2, c3⟩ := m1.cells
    go_wp2
    go_ret
    exact ⟨ret_int HN.out, b1⟩
end Go.Proofs.Ytmgkkgpdnopeaaa
