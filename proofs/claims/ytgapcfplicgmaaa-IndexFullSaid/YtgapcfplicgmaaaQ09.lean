/- Lemmas, several texts in one. -/
import Derived.Test.YtgapcfplicgmaaaQ04
import Derived.Deep.RegionHeld3
import Derived.Deep.DeepCutAuto
import Derived.Test.YtgapcfplicgmaaaQ05
/- A table and the steps that it has taken, in memory. -/
namespace Go.Proofs.Ytgapcfplicgmaaa
open Go.ChangeShapes Go.WideShapes Go.ChangeAt Go.RowKit
set_option linter.unusedVariables false
set_option linter.unusedSimpArgs false

theorem info_stz : (Try.prog.info? 44).map (fun i => (i.zero, i.size, i.bytes)) = some (some (.agg #[.bool false, .int .i64 0, .int .u32 0, .int .i64 0, .int .u32 0, .int .i64 0, .int .i64 0]), 7, 56) := by kernel_rfl
theorem info_st7 : (Try.prog.info? 44).map (·.size) = some 7 := by kernel_rfl
/-- a row of steps of the call's own. -/
def OwnS (w : World) (base : Nat) (A : Option Addr) (c : Nat) (H : List Cl) : Prop := w.ownsRow base 44 7 (.slice A H.length c) H.length (H.flatMap Cl.L)
theorem rng_mem {H : List Cl} (h : ∀ c ∈ H, RngTp c.key) (i : Nat) : RngTp (atC H i).key := by
  by_cases hi : i < H.length
  · rw [atC_get hi]; exact h _ (List.getElem_mem hi)
  · unfold atC
    rw [List.getD_eq_getElem?_getD, List.getElem?_eq_none (by omega)]
    exact rng_cl0
section
variable {w w' : World} {base : Nat} {A : Option Addr} {c : Nat} {H : List Cl}
theorem OwnS.none_ (w : World) (base : Nat) : OwnS w base none 0 [] := own_none w base _ _
theorem OwnS.ge (h : OwnS w base A c H) : ∀ g, blk A = some g → base ≤ g ∧ g < w.heap.size := fun g hg => by
  rcases own_addr h with ⟨rfl, _⟩ | ⟨g', rfl, h1, h2⟩
  · cases hg
  · injection hg with hg; subst hg; exact ⟨h1, h2⟩
theorem OwnS.keep (h : OwnS w base A c H) (y : Below w.heap.size w w') : OwnS w' base A c H := own_keepA h (fun g hg => y.block g (h.ge g hg).2)
theorem OwnS.cap (h : OwnS w base A c H) : H.length ≤ c ∧ c ≤ 9223372036854775807 := by have := own_cap h; unfold maxLen at this; exact this
theorem OwnS.at (h : OwnS w base A c H) (hr : ∀ c ∈ H, RngTp c.key) : CsAt w H A c := by
  refine ⟨h.cap.1, h.cap.2, fun e => ?_, rng_mem hr, own_rd h⟩
  rcases own_addr h with ⟨_, _, hc⟩ | ⟨g, e', _⟩
  · exact hc
  · rw [e'] at e; cases e
theorem OwnS.wide {b' : Nat} (h : OwnS w base A c H) (hb : b' ≤ base) : OwnS w b' A c H := own_base h hb
theorem OwnS.first {ad : Addr} (h : OwnS w base (some ad) c H) (k : Nat) : ∀ Y, Below w.heap.size w Y → ∀ j u, ((H.take k).flatMap Cl.L)[j]? = some u → Y.cell? (ad.add j) = some u := fun Y y j u hj => by
  rcases own_rd (h.keep y) with h' | ⟨ad', e, h'⟩
  · rw [← flat_take Cl.L 7 Cl.len, h', List.take_nil] at hj; cases hj
  · injection e with e; subst e
    rw [← flat_take Cl.L 7 Cl.len, List.getElem?_take] at hj
    split at hj
    · exact h' j u hj
    · cases hj
theorem OwnS.last {ad : Addr} (h : OwnS w base (some ad) c H) {k : Nat} (hk : k < H.length) : ∃ ad4, (if c = k + 1 then some ad else some (ad.add ((k + 1) * 7))) = some ad4 ∧ ∀ Y, Below w.heap.size w Y → ∀ j u, ((H.drop (k + 1)).flatMap Cl.L)[j]? = some u → Y.cell? (ad4.add j) = some u := by
  have hc := h.cap.1
  by_cases e : c = k + 1
  · refine ⟨ad, if_pos e, fun Y y j u hj => ?_⟩
    rw [List.drop_eq_nil_of_le (by omega)] at hj
    cases hj
  · refine ⟨_, if_neg e, fun Y y j u hj => ?_⟩
    rcases own_rd (h.keep y) with h' | ⟨ad', e', h'⟩
    · rw [← flat_drop Cl.L 7 Cl.len, h', List.drop_nil] at hj; cases hj
    · injection e' with e'; subst e'
      rw [← flat_drop Cl.L 7 Cl.len, List.getElem?_drop] at hj
      rw [add_add]
      exact h' _ u hj
theorem own_restS {k : Nat} (hk : k < H.length) (h : w.ownsRow base 44 7 (.slice A (0 + k + (H.length - (k + 1))) c) (0 + k + (H.length - (k + 1))) ([] ++ (H.take k).flatMap Cl.L ++ (H.drop (k + 1)).flatMap Cl.L)) : OwnS w base A c (H.take k ++ H.drop (k + 1)) := by
  have e : (H.take k ++ H.drop (k + 1)).length = 0 + k + (H.length - (k + 1)) := by rw [List.length_append, List.length_take, List.length_drop]; omega
  unfold OwnS
  rw [e, List.flatMap_append]
  exact h
theorem CsAt.lt {l : List Cl} (h : CsAt w l A c) (h0 : 0 < l.length) : ∃ ad, A = some ad ∧ ad.block < w.heap.size := by
  obtain ⟨ad, rfl, hc⟩ := h.cell h0
  refine ⟨ad, rfl, ?_⟩
  have := World.block_lt_of_cell? w _ (hc w (Below.refl _ _) 0 _ rfl)
  rw [block_add, block_add] at this
  exact this
theorem CsAt.keepB {l : List Cl} (h : CsAt w l A c) (hk : ∀ ad, A = some ad → w'.heap[ad.block]? = w.heap[ad.block]?) : CsAt w' l A c := by
  refine ⟨h.len, h.cap, h.nil, h.rng, ?_⟩
  rcases h.rd with h0 | ⟨ad, e, hc⟩
  · exact .inl h0
  · refine .inr ⟨ad, e, fun j u hj => ?_⟩
    have q := World.cell?_of_block (w := w) (w' := w') (a := ad.add j) (by rw [block_add]; exact hk ad e)
    rw [q]
    exact hc j u hj
end
theorem grownS {w0 w w' : World} {row : Option Nat} (h : w.grownBy w' row) (hr : ∀ g, row = some g → w0.heap.size ≤ g) (hs : w0.heap.size ≤ w.heap.size) : Below w0.heap.size w w' :=
  ⟨h.os, h.tape, h.output, h.size, fun b hb => h.block b (by omega) (fun e => by have := hr b e.symm; omega)⟩
/-- append to a row of the call's own, as a step. -/
theorem step_appendS {P : Program} {op : Oper} {a : Act} {w : World} {K : Act → World → Prop} {Q : Exit → Act → World → Prop} (s x : Operand) (t : TypeId)
    (ho : op.op = .call { callee := .builtin .append, args := #[s, x], argTypes := #[t, t] })
    (base : Nat) (e : TypeId) (i : TypeInfo) (z : Value) (k bytes : Nat) (ht : P.underlying t = some (.slice e)) (hi : P.info? e = some i) (hz : i.zero = some z)
    (hsize : i.size = k) (hby : i.bytes = bytes) (hzs : z.cells.size = k) (hk : 0 < k)
    (v : Value) (n : Nat) (xs : List Value) (hs : a.eval s = v) (hown : w.ownsRow base e k v n xs)
    (ad : Addr) (m c : Nat) (news : List Value) (hx : a.eval x = .slice (some ad) m c) (hl : news.length = m * k) (hnews : ∀ j u, news[j]? = some u → w.cell? (ad.add j) = some u) (h1 : ∀ u ∈ news, u.oneCell' = true)
    (h63 : n + m ≤ maxLen) (hbytes : (n + m) * bytes ≤ 140737488355328) (hbase : base ≤ w.heap.size)
    (h : ∀ v' w', w'.ownsRow base e k v' (n + m) (xs ++ news) → w.grownBy w' v.ownBlock → (v'.ownBlock = v.ownBlock ∨ v'.ownBlock = some w.heap.size) → K (a.put op.dst v') w') : op.wp P a w K Q := by
  obtain ⟨v', w', hr, h2, h3, h4, h5⟩ := run_append_own_at (P := P) w base t op.type e i z k bytes ht hi hz hsize hby hzs hk v n xs hown ad m c news hl hnews h1 h63 hbytes hbase
  unfold Oper.wp execOp
  simp only [ho, resolve, invoke, builtin, Sem.run_bind, Sem.run_pure, Result.andThen_ok, List.map_toArray, List.map_cons, List.map_nil, hs, hx, hr]
  exact h v' w' h2 h3 h5
/-- while steps are taken. -/
structure MapM (w : World) (N : Nat) (t H : List Cl) (At : Option Addr) (ct : Nat) (Ah : Option Addr) (ch : Nat) (wr : World) : Prop where
  len : t.length = N
  tab : CsAt wr t At ct
  own : OwnS wr w.heap.size Ah ch H
  rng : ∀ c ∈ H, RngTp c.key
  apart : ∀ ad, At = some ad → blk Ah ≠ some ad.block
  below : Below w.heap.size w wr
section
variable {w wr wx wy : World} {N ct ch c1 c2 : Nat} {t T H : List Cl} {At Ah A1 A2 : Option Addr}
theorem MapM.call (h : MapM w N t H At ct Ah ch wr) (y : Below wr.heap.size wr wx) : MapM w N t H At ct Ah ch wx :=
  ⟨h.len, h.tab.at y, h.own.keep y, h.rng, h.apart, h.below.trans (y.mono h.below.size)⟩
theorem MapM.table (h : MapM w N t H At ct Ah ch wr) (y : Below wr.heap.size wr wx) (hT : CsAt wx T A1 c1) (hl : T.length = N) (fr : A1 = At ∨ ∀ ad, A1 = some ad → wr.heap.size ≤ ad.block) : MapM w N T H A1 c1 Ah ch wx := by
  refine ⟨hl, hT, h.own.keep y, h.rng, fun ad e hb => ?_, h.below.trans (y.mono h.below.size)⟩
  rcases fr with rfl | fr
  · exact h.apart ad e hb
  · have := (h.own.ge _ hb).2
    have := fr ad e
    omega
theorem MapM.push (h : MapM w N t H At ct Ah ch wx) (h0 : 0 < N) {x : Cl} (rx : RngTp x.key) (hrow : wy.ownsRow w.heap.size 44 7 (.slice A2 (H.length + 1) c2) (H.length + 1) (H.flatMap Cl.L ++ x.L)) (hg : wx.grownBy wy (blk Ah)) (hat : blk A2 = blk Ah ∨ blk A2 = some wx.heap.size) : MapM w N t (H ++ [x]) At ct A2 c2 wy := by
  obtain ⟨ad, hA, hlt⟩ := h.tab.lt (by have := h.len; omega)
  refine ⟨h.len, h.tab.keepB fun ad' e => ?_, ?_, fun c hc => ?_, fun ad' e hb => ?_, h.below.trans (grownS hg (fun g hg' => (h.own.ge g hg').1) h.below.size)⟩
  · rw [hA] at e; injection e with e; subst e
    exact hg.block _ hlt (fun e => h.apart ad hA e.symm)
  · unfold OwnS
    rw [List.length_append, List.flatMap_append]
    simpa using hrow
  · rcases List.mem_append.1 hc with hc | hc
    · exact h.rng c hc
    · obtain rfl := List.mem_singleton.1 hc; exact rx
  · rw [hA] at e; injection e with e; subst e
    rcases hat with q | q
    · rw [q] at hb; exact h.apart ad hA hb
    · rw [q] at hb; injection hb with hb; omega
theorem MapM.cut (h : MapM w N t H At ct Ah ch wx) (h0 : 0 < N) (y : Below wx.heap.size wx wy) {k : Nat} (hown : OwnS wy wx.heap.size A2 c2 (H.take k ++ H.drop (k + 1))) : MapM w N t (H.take k ++ H.drop (k + 1)) At ct A2 c2 wy := by
  obtain ⟨ad, hA, hlt⟩ := h.tab.lt (by have := h.len; omega)
  refine ⟨h.len, h.tab.at y, hown.wide h.below.size, fun c hc => ?_, fun ad' e hb => ?_, h.below.trans (y.mono h.below.size)⟩
  · rcases List.mem_append.1 hc with hc | hc
    · exact h.rng c (List.mem_of_mem_take hc)
    · exact h.rng c (List.mem_of_mem_drop hc)
  · rw [hA] at e; injection e with e; subst e
    have := (hown.ge _ hb).1
    omega
end
/-- where a key stands among the first ones, one further. -/
theorem pos_step {H : List Cl} (ho : H.Pairwise (fun a b => a.key ≠ b.key)) {k : Nat} (hk : k < H.length) (key : Tp) : posK (H.take (k + 1)) key = if sameTp H[k].key key then (k : Int) else posK (H.take k) key := by
  have e : H.take (k + 1) = H.take k ++ [H[k]] := List.take_succ_eq_append_getElem hk
  have hl : (H.take k).length = k := by rw [List.length_take]; omega
  unfold posK
  rw [e, List.findIdx?_append]
  cases hs : sameTp H[k].key key
  · rw [if_neg (by decide)]
    cases hf : (H.take k).findIdx? (fun c => sameTp c.key key)
    · simp [hs]
    · simp
  · rw [if_pos rfl]
    have hn : (H.take k).findIdx? (fun c => sameTp c.key key) = none := by
      rw [List.findIdx?_eq_none_iff]
      intro c hc
      cases hq : sameTp c.key key
      · rfl
      · exfalso
        have h1 := (sameTp_iff _ _).1 hs
        have h2 := (sameTp_iff _ _).1 hq
        have hp : (H.take k ++ H.drop k).Pairwise (fun a b => a.key ≠ b.key) := by rw [List.take_append_drop]; exact ho
        have := (List.pairwise_append.1 hp).2.2 c hc H[k] (by rw [List.drop_eq_getElem_cons hk]; exact List.mem_cons.2 (.inl rfl))
        exact this (h2.trans h1.symm)
    rw [hn]
    simp [hs, hl]
end Go.Proofs.Ytgapcfplicgmaaa

/- Statements of layer 10, walked: of keys that all differ as many are taken as there are places but one. -/
namespace Go.Proofs.Ytgapcfplicgmaaa
open Go.ChangeShapes Go.WideShapes Go.ChangeAt Go.RowKit
set_option linter.unusedVariables false
set_option linter.unusedSimpArgs false

/-- a table of so many keys of a kind. -/
structure FullI (P : Nat) (pr fr : Int) (m : Nat) (t : List Cl) : Prop where
  right : RightC t
  len : t.length = P
  used : usedN t = m
  room : m + 1 ≤ P
  has : ∀ k x, HasC t k x ↔ ∃ j : Nat, j < m ∧ k = ⟨pr, (j : Int), fr, 0, 0⟩ ∧ x = (j : Int)
theorem FullI.new {P : Nat} (h : sizeC P = true) (pr fr : Int) : FullI P pr fr 0 (List.replicate P cl0) := by
  obtain ⟨h1, h2, h3⟩ := right_new h
  have := sizeC_pos h
  exact ⟨h1, by simp, h2, by omega, fun k x => ⟨fun q => absurd q (h3 k x), fun ⟨j, hj, _⟩ => absurd hj (Nat.not_lt_zero j)⟩⟩
section
variable {P : Nat} {pr fr : Int} {m : Nat} {t : List Cl}
theorem FullI.fresh (h : FullI P pr fr m t) {i : Nat} (hi : m ≤ i) : ∀ n, ¬ HasC t ⟨pr, (i : Int), fr, 0, 0⟩ n := fun n hn => by
  obtain ⟨j, hj, e, _⟩ := (h.has _ _).1 hn
  injection e with _ e
  omega
theorem FullI.step (h : FullI P pr fr m t) (hr : rightT ⟨pr, (m : Int), fr, 0, 0⟩ = true) (hm : m + 1 < P) : ∃ T, putC t ⟨pr, (m : Int), fr, 0, 0⟩ (m : Int) = (T, 0) ∧ FullI P pr fr (m + 1) T := by
  obtain ⟨p1, p2⟩ := put_ok h.right (k := ⟨pr, (m : Int), fr, 0, 0⟩) (m : Int) hr (seek_not h.right (h.fresh (Nat.le_refl _))) (by rw [h.used, h.len]; exact hm)
  refine ⟨_, p1, p2.right, p2.len.trans h.len, by rw [p2.used, h.used], hm, fun k x => (p2.has k x).trans ?_⟩
  rw [h.has]
  constructor
  · rintro (⟨rfl, rfl⟩ | ⟨j, hj, e1, e2⟩)
    · exact ⟨m, by omega, rfl, rfl⟩
    · exact ⟨j, by omega, e1, e2⟩
  · rintro ⟨j, hj, e1, e2⟩
    by_cases hjm : j = m
    · subst hjm; exact .inl ⟨e1, e2⟩
    · exact .inr ⟨j, by omega, e1, e2⟩
theorem FullI.full (h : FullI P pr fr m t) (hr : rightT ⟨pr, (m : Int), fr, 0, 0⟩ = true) (hm : m + 1 = P) : putC t ⟨pr, (m : Int), fr, 0, 0⟩ (m : Int) = (t, 8) := by
  unfold putC
  rw [rightCB_of h.right, hr, if_neg (by decide), seek_not h.right (h.fresh (Nat.le_refl _)), if_neg (by decide), if_pos (by rw [h.len, h.used]; omega)]
theorem FullI.get (h : FullI P pr fr m t) {i : Nat} (hi : i < m) : getC t ⟨pr, (i : Int), fr, 0, 0⟩ = ((i : Int), true) := get_has h.right ((h.has _ _).2 ⟨i, hi, rfl, rfl⟩)
theorem FullI.getNo (h : FullI P pr fr m t) {i : Nat} (hi : m ≤ i) : getC t ⟨pr, (i : Int), fr, 0, 0⟩ = (0, false) := get_not h.right (h.fresh hi)
theorem full_right (pr fr : Int) (h0 : 0 ≤ pr) (h1 : pr ≤ 255) (h2 : 0 ≤ fr) (h3 : fr ≤ 65535) (i : Int) : rightT ⟨pr, i, fr, 0, 0⟩ = true := by
  rw [rightT_iff]
  exact ⟨⟨h0, by show pr < 256; omega⟩, ⟨h2, by show fr < 65536; omega⟩, by show (0 : Int) ≤ 0; decide, by show (0 : Int) < 65536; decide⟩
theorem full_rng (pr fr : Int) (i : Nat) (hi : i ≤ 64) : RngTp ⟨pr, (i : Int), fr, 0, 0⟩ := ⟨by show (0 : Int) ≤ (i : Int); omega, by show (i : Int) ≤ 4294967295; omega, by show (0 : Int) ≤ 0; decide, by show (0 : Int) ≤ 4294967295; decide⟩
end
/-- while the table is filled, in memory. -/
structure FullM (w : World) (P : Nat) (pr fr : Int) (m : Nat) (t : List Cl) (A : Option Addr) (c : Nat) (wr : World) : Prop where
  inv : FullI P pr fr m t
  at_ : CsAt wr t A c
  below : Below w.heap.size w wr
theorem new_size {P : Nat} (h : sizeC P = true) : newC (P : Int) = (List.replicate P cl0, 0) := by
  unfold newC
  rw [if_pos ⟨by omega, by simpa using h⟩]
  simp
set_option maxRecDepth 100000 in
set_option maxHeartbeats 16000000 in
theorem indexFull (kA0 : AwakeC10) (kN0 : NewC10) (kR0 : RightC10) (kL0 : LenC10) (kG0 : GetC10) (kP0 : PutC10) (bi fr pr : Int) (w : World) (b0 : 0 ≤ bi) (b1 : bi ≤ 255) (f0 : 0 ≤ fr) (f1 : fr ≤ 65535) (p0 : 0 ≤ pr) (p1 : pr ≤ 255) :
    Calls Try.prog 6 #[.int .u8 bi, .int .u16 fr, .int .u8 pr] w fun e w' => e = .returned (.bool true) ∧ Below w.heap.size w w' := by
  have kA := Go.Lib.hid kA0
  have kN := Go.Lib.hid kN0
  have kR := Go.Lib.hid kR0
  have kL := Go.Lib.hid kL0
  have kG := Go.Lib.hid kG0
  have kP := Go.Lib.hid kP0
  have RT := Go.Lib.hid (fun i => full_right pr fr p0 p1 f0 f1 i)
  have x0 : Below w.heap.size w w := Below.refl _ _
  have cp : IntKind.i64.wrap pr = pr := IntWalk.i64_in _ (by omega)
  have cf : IntKind.i64.wrap fr = fr := IntWalk.i64_in _ (by omega)
  clear kA0 kN0 kR0 kL0 kG0 kP0
  go_enter Try.func6, Try.ntmps6
  go_upto_region 3 with (go_at_call 7; refine (kA.out _).mono ?_; rintro e w1 ⟨rfl, y1⟩; skip; have x1 := x0.trans (y1.mono x0.size); dsimp only)
  go_cut [7] (fun v wx => ∃ P : Nat, v = .int .i64 P ∧ sizeC P = true ∧ P ≤ 64 ∧ Below w.heap.size w wx)
  case first =>
    have e0 : Int.tmod bi 6 = bi % 6 := Int.tmod_eq_emod_of_nonneg b0
    obtain ⟨r, hr⟩ : ∃ r, Int.tmod bi 6 = r := ⟨_, rfl⟩
    rw [hr] at e0
    have hrr : r = 0 ∨ r = 1 ∨ r = 2 ∨ r = 3 ∨ r = 4 ∨ r = 5 := by omega
    clear e0
    rcases hrr with rfl | rfl | rfl | rfl | rfl | rfl
    · have u0 : (2 : Int) ≤ 3 := by omega
      go_wp2_with fail
      go_meet
      exact ⟨2, rfl, by decide, by omega, x1⟩
    · have u1 : (2 : Int) ≤ 3 := by omega
      go_wp2_with fail
      go_meet
      exact ⟨4, rfl, by decide, by omega, x1⟩
    · have u2 : (2 : Int) ≤ 3 := by omega
      go_wp2_with fail
      go_meet
      exact ⟨8, rfl, by decide, by omega, x1⟩
    · have u3 : (2 : Int) ≤ 3 := by omega
      go_wp2_with fail
      go_meet
      exact ⟨16, rfl, by decide, by omega, x1⟩
    · have u4 : (2 : Int) ≤ 3 := by omega
      go_wp2_with fail
      go_meet
      exact ⟨32, rfl, by decide, by omega, x1⟩
    · have u5 : (2 : Int) ≤ 3 := by omega
      go_wp2_with fail
      go_meet
      exact ⟨64, rfl, by decide, by omega, x1⟩
  case rest =>
    obtain ⟨P, rfl, hsz, hP, x1⟩ := hcut
    rename World => w1
    have hP2 := (sizeC_pos hsz).1
    have hn := Go.Lib.hid (new_size hsz)
    have hl : Hid ((List.replicate P cl0, (0 : Int)).1.length = P) := Go.Lib.hid (by simp)
    have HS := Go.Lib.hid hsz
    have s1 : IntKind.i64.wrap ((P : Int) - 1) = (P : Int) - 1 := IntWalk.i64_in _ (by omega)
    clear hsz
    go_upto_region 7 with (go_at_call 8; refine (kN.out (P : Int) w1 (List.replicate P cl0, 0) hn.out).mono ?_; intro e w2 hp; obtain ⟨A2, c2, rfl, hc2, y2⟩ := hp.n hl.out; have H2 := Go.Lib.hid hc2; clear hc2 hp; skip; have x2 := x1.trans (y2.mono x1.size); dsimp only)
    go_wp2_with fail
    go_loopw [8, 10] (fun l i wr => ∃ (j m : Nat) (t : List Cl) (A : Option Addr) (c : Nat), j ≤ P ∧ m = min j (P - 1) ∧ i = .int .i64 j ∧ l = .slice A P c ∧ FullM w P pr fr m t A c wr) (fun _ i _ => P - (intOf i).toNat)
    case atStart => exact ⟨0, 0, _, A2, c2, by omega, by omega, rfl, rfl, FullI.new HS.out pr fr, H2.out, x2⟩
    case round =>
      rename World => wo
      obtain ⟨j, m, t, A, c, hj, hm, rfl, rfl, HM⟩ := hrel
      have i0 : (0 : Int) ≤ (j : Int) := by omega
      have cj : IntKind.u32.wrap (j : Int) = (j : Int) := IntWalk.u32_in _ (by omega)
      have HMM := Go.Lib.hid HM
      clear HM
      by_cases hlt : j < P
      · obtain rfl : m = j := by omega
        have hm1 : m ≤ P - 1 := by omega
        clear hm
        have hlt' : (m : Int) < (P : Int) := by omega
        have xq : Below w.heap.size w (wo.alloc (oTp ⟨pr, (m : Int), fr, 0, 0⟩)) := below_alloc HMM.out.below HMM.out.below.size _
        have hB := Bxo.made wo 25 (tpL ⟨pr, (m : Int), fr, 0, 0⟩)
        have hA := HMM.out.at_.at (below_alloc (Below.refl _ _) (Nat.le_refl _) (oTp ⟨pr, (m : Int), fr, 0, 0⟩))
        go_upto_region 11 with fail
        generalize wo.alloc (.cells #[.int .i64 pr, .int .u32 (m : Int), .int .i64 fr, .int .u32 0, .int .i64 0] 25) = W3 at *
        have BK := Go.Lib.hid hB
        have HA := Go.Lib.hid hA
        have LT := Go.Lib.hid HMM.out.inv.len
        clear hB hA
        by_cases hful : m + 1 < P
        · obtain ⟨T, hp1, hp2⟩ := HMM.out.inv.step (RT.out _) hful
          have hpp := Go.Lib.hid hp1
          have hfi := Go.Lib.hid hp2
          have LTT : Hid ((T, (0 : Int)).1.length = P) := Go.Lib.hid hp2.len
          have h2 : (m : Int) < (P : Int) - 1 := by omega
          have s3 : IntKind.i64.wrap ((m : Int) + 1) = (m : Int) + 1 := IntWalk.i64_in _ (by omega)
          clear hp1 hp2
          go_wp2_with (first
            | (refine wpList_load_box rfl 25 _ rfl wo.heap.size rfl (tpL ⟨pr, (m : Int), fr, 0, 0⟩) _ BK.out Try.underlying25 rfl info_tp ?_)
            | (go_at_call 17; refine (kP.out t A c P ⟨pr, (m : Int), fr, 0, 0⟩ (m : Int) W3 (T, 0) LT.out HA.out (by omega) (full_rng pr fr m (by omega)) hpp.out).mono ?_; intro e w4 hp; obtain ⟨A4, c4, rfl, hc4, y4⟩ := hp.n LTT.out; have H4 := Go.Lib.hid hc4; clear hc4 hp; skip; have x4 := xq.trans (y4.mono xq.size); dsimp only))
          go_round
          case rel => exact ⟨m + 1, m + 1, T, A4, c4, by omega, by omega, by go_num, rfl, hfi.out, H4.out, x4⟩
          case measure => simp [intOf]; omega
        · have hpp := Go.Lib.hid (HMM.out.inv.full (RT.out _) (by omega))
          have LTT : Hid ((t, (8 : Int)).1.length = P) := LT
          have h2 : ¬ (m : Int) < (P : Int) - 1 := by omega
          have s3 : IntKind.i64.wrap ((m : Int) + 1) = (m : Int) + 1 := IntWalk.i64_in _ (by omega)
          go_wp2_with (first
            | (refine wpList_load_box rfl 25 _ rfl wo.heap.size rfl (tpL ⟨pr, (m : Int), fr, 0, 0⟩) _ BK.out Try.underlying25 rfl info_tp ?_)
            | (go_at_call 17; refine (kP.out t A c P ⟨pr, (m : Int), fr, 0, 0⟩ (m : Int) W3 (t, 8) LT.out HA.out (by omega) (full_rng pr fr m (by omega)) hpp.out).mono ?_; intro e w4 hp; obtain ⟨A4, c4, rfl, hc4, y4⟩ := hp.n LTT.out; have H4 := Go.Lib.hid hc4; clear hc4 hp; skip; have x4 := xq.trans (y4.mono xq.size); dsimp only))
          go_round
          case rel => exact ⟨m + 1, m, t, A4, c4, by omega, by omega, by go_num, rfl, HMM.out.inv, H4.out, x4⟩
          case measure => simp [intOf]; omega
      · obtain rfl : j = P := by omega
        obtain rfl : m = j - 1 := by omega
        clear hm
        have h1 : ¬ (j : Int) < (j : Int) := by omega
        have LT := Go.Lib.hid HMM.out.inv.len
        go_wp2_with fail
        go_loopw [14] (fun i wr => ∃ (q : Nat), q ≤ j ∧ i = .int .i64 q ∧ Below wo.heap.size wo wr) (fun i _ => j - (intOf i).toNat)
        case atStart => exact ⟨0, by omega, rfl, Below.refl _ _⟩
        case round =>
          rename World => wp
          obtain ⟨q, hq, rfl, yp⟩ := hrel
          have HAq := Go.Lib.hid (HMM.out.at_.at yp)
          have xq := HMM.out.below.trans (yp.mono HMM.out.below.size)
          have q0 : (0 : Int) ≤ (q : Int) := by omega
          have cq : IntKind.u32.wrap (q : Int) = (q : Int) := IntWalk.u32_in _ (by omega)
          clear h1
          by_cases hql : q < j
          · have hq' : (q : Int) < (j : Int) := by omega
            have rk := full_rng pr fr q (by omega)
            have s3 : IntKind.i64.wrap ((q : Int) + 1) = (q : Int) + 1 := IntWalk.i64_in _ (by omega)
            by_cases hqm : q < j - 1
            · have hgg := Go.Lib.hid (HMM.out.inv.get hqm)
              have h2 : (q : Int) < (j : Int) - 1 := by omega
              go_wp2_with (go_at_call 11; refine (kG.out t A c j ⟨pr, (q : Int), fr, 0, 0⟩ wp ((q : Int), true) LT.out HAq.out (by omega) rk hgg.out).mono ?_; rintro e w5 ⟨rfl, y5⟩; skip; have x5 := xq.trans (y5.mono xq.size); dsimp only)
              go_round
              case rel => exact ⟨q + 1, by omega, by go_num, yp.trans (y5.mono yp.size)⟩
              case measure => simp [intOf]; omega
            · have hgg := Go.Lib.hid (HMM.out.inv.getNo (i := q) (by omega))
              have h2 : ¬ (q : Int) < (j : Int) - 1 := by omega
              go_wp2_with (go_at_call 11; refine (kG.out t A c j ⟨pr, (q : Int), fr, 0, 0⟩ wp (0, false) LT.out HAq.out (by omega) rk hgg.out).mono ?_; rintro e w5 ⟨rfl, y5⟩; skip; have x5 := xq.trans (y5.mono xq.size); dsimp only)
              go_round
              case rel => exact ⟨q + 1, by omega, by go_num, yp.trans (y5.mono yp.size)⟩
              case measure => simp [intOf]; omega
          · obtain rfl : q = j := by omega
            have h1 : ¬ (q : Int) < (q : Int) := by omega
            have hu := Go.Lib.hid HMM.out.inv.used
            have hr := Go.Lib.hid (rightCB_of HMM.out.inv.right)
            have e9 : ((q - 1 : Nat) : Int) = (q : Int) - 1 := by omega
            go_wp2_with (first
              | (go_at_call 15; refine (kL.out t A c q wp (q - 1) LT.out HAq.out (by omega) hu.out).mono ?_; rintro e w6 ⟨rfl, y6⟩; have HAq := Go.Lib.hid (HAq.out.at y6); have x6 := xq.trans (y6.mono xq.size); dsimp only; rw [e9])
              | (go_at_call 13; refine (kR.out t A c q w6 true LT.out HAq.out (by omega) hr.out).mono ?_; rintro e w7 ⟨rfl, y7⟩; skip; have x7 := x6.trans (y7.mono x6.size); dsimp only))
            go_ret
            exact ⟨rfl, x7⟩
end Go.Proofs.Ytgapcfplicgmaaa
