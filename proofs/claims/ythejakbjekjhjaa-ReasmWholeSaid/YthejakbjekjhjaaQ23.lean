/- Lemmas of layer 7, several texts in one. -/
import Derived.Test.YthejakbjekjhjaaQ22
import Derived.Test.YthejakbjekjhjaaQ13
/- The contract of slices.DeleteFunc at packets that are put together with the closure of Tick. -/
namespace Go.Proofs.Ythejakbjekjhjaa
open Go.ChangeShapes Go.WideShapes Go.ChangeAt Go.RowKit
set_option linter.unusedVariables false
set_option linter.unusedSimpArgs false

def keepE (now life : Int) (e : El) : Bool := !oldB now life e.b
/-- ahead of a round: a are kept of the first b. -/
structure DelI (w wr : World) (base gL c : Nat) (es : List El) (f : El → Bool) (a b : Nat) : Prop where
  row : ∃ L : List El, L.length = es.length ∧ L.take a = (es.take b).filter f ∧ L.drop b = es.drop b ∧ OwnB wr base (some ⟨gL, 0, none⟩) c L
  ab : a < b
  bl : b ≤ es.length
  gro : Gro gL w wr
theorem DelI.get {w wr : World} {base gL c a b : Nat} {es : List El} {f : El → Bool} (h : DelI w wr base gL c es f a b) (hb : b < es.length) : ∀ j v, (es[b].L)[j]? = some v → wr.cell? ((⟨gL, b * 19, none⟩ : Addr).add j) = some v := by
  obtain ⟨L, l1, l2, l3, l4⟩ := h.row
  have e : L[b]'(by omega) = es[b] := by
    have h1 := List.drop_eq_getElem_cons (l := L) (i := b) (by omega)
    have h2 := List.drop_eq_getElem_cons (l := es) (i := b) hb
    rw [h1, h2] at l3
    exact (List.cons.inj l3).1
  rw [← e]
  exact bf_cells l4 b (by omega)
theorem DelI.skip {w wr w' : World} {base gL c a b : Nat} {es : List El} {f : El → Bool} (h : DelI w wr base gL c es f a b) (hb : b < es.length) (hf : f es[b] = false) (y : Below wr.heap.size wr w') : DelI w w' base gL c es f a (b + 1) := by
  obtain ⟨L, l1, l2, l3, l4⟩ := h.row
  have hg := ((own_addr l4).resolve_left (by rintro ⟨h, _⟩; cases h))
  obtain ⟨gL', e1, hL1, hL2⟩ := hg
  injection e1 with e1
  injection e1 with e1
  subst e1
  refine ⟨⟨L, l1, ?_, ?_, own_keep l4 (y.block gL hL2)⟩, by have := h.ab; omega, hb, h.gro.trans (gro_below y)⟩
  · rw [l2, List.take_succ_eq_append_getElem hb, List.filter_append]
    simp [hf]
  · rw [← List.drop_drop, l3, List.drop_drop]
theorem DelI.put {w wr w' w'' : World} {base gL c a b : Nat} {es : List El} {f : El → Bool} (h : DelI w wr base gL c es f a b) (hb : b < es.length) (hf : f es[b] = true) (y : Below wr.heap.size wr w') : ∃ cur, Bxo w' gL 42 cur ∧ a * 19 + 19 ≤ cur.length ∧ ∀ w'', Bxo w'' gL 42 (spl cur (a * 19) es[b].L) → Only gL w' w'' → DelI w w'' base gL c es f (a + 1) (b + 1) := by
  obtain ⟨L, l1, l2, l3, l4⟩ := h.row
  have hg := ((own_addr l4).resolve_left (by rintro ⟨h, _⟩; cases h))
  obtain ⟨gL', e1, hL1, hL2⟩ := hg
  injection e1 with e1
  injection e1 with e1
  subst e1
  have hab := h.ab
  obtain ⟨cur, k1, k2, k3⟩ := OwnB.cur (own_keep l4 (y.block gL hL2)) (by omega : a < L.length) es[b]
  refine ⟨cur, k1, k2, fun w'' hb2 ho2 => ⟨⟨L.set a es[b], by rw [List.length_set]; exact l1, ?_, ?_, k3 w'' hb2⟩, by omega, hb, (h.gro.trans (gro_below y)).trans ho2.gro⟩⟩
  · rw [List.take_succ_eq_append_getElem (by rw [List.length_set]; omega), List.take_set_of_le (Nat.le_refl _), l2, List.getElem_set_self, List.take_succ_eq_append_getElem hb, List.filter_append]
    simp [hf]
  · rw [List.drop_set_of_lt (by omega), ← List.drop_drop, l3, List.drop_drop]
theorem filter_first (f : El → Bool) (es : List El) (k : Nat) (hk : k < es.length) (hp : ∀ j (h : j < es.length), j < k → f es[j] = true) (h : f es[k] = false) : es.take k = (es.take (k + 1)).filter f := by
  rw [List.take_succ_eq_append_getElem hk, List.filter_append, List.filter_eq_self.2]
  · simp [h]
  · intro a ha
    obtain ⟨j, hj, rfl⟩ := List.getElem_of_mem ha
    rw [List.length_take] at hj
    rw [List.getElem_take]
    exact hp j (by omega) (by omega)
theorem idx_at (now life : Int) (es : List El) (k : Nat) (hk : (es.map El.b).findIdx (oldB now life) = k) (hl : k < es.length) : idxB now life (es.map El.b) = (k : Int) ∧ es.take k = (es.take (k + 1)).filter (keepE now life) := by
  have hkl : (es.map El.b).findIdx (oldB now life) < (es.map El.b).length := by rw [List.length_map]; omega
  refine ⟨by unfold idxB; rw [if_pos hkl, hk], filter_first _ es k hl (fun j h hj => ?_) ?_⟩
  · have := List.not_of_lt_findIdx (xs := es.map El.b) (p := oldB now life) (i := j) (by omega)
    unfold keepE
    simpa using this
  · have := List.findIdx_getElem (xs := es.map El.b) (p := oldB now life) (w := hkl)
    unfold keepE
    subst hk
    simpa using this
theorem idx_not (now life : Int) (es : List El) (hk : ¬ (es.map El.b).findIdx (oldB now life) < es.length) : idxB now life (es.map El.b) = -1 ∧ es.filter (keepE now life) = es := by
  have hkl : ¬ (es.map El.b).findIdx (oldB now life) < (es.map El.b).length := by rw [List.length_map]; omega
  refine ⟨by unfold idxB; rw [if_neg hkl], List.filter_eq_self.2 (fun e he => ?_)⟩
  have h2 : (es.map El.b).findIdx (oldB now life) = (es.map El.b).length := Nat.le_antisymm List.findIdx_le_length (by omega)
  rw [List.findIdx_eq_length] at h2
  unfold keepE
  rw [h2 e.b (List.mem_map_of_mem he)]; rfl
/-- what stands when the loop is through: the row, cleared behind what is kept. -/
theorem DelI.done {w wr : World} {base gL c a b : Nat} {es : List El} {f : El → Bool} (h : DelI w wr base gL c es f a b) (hb : ¬ b < es.length) : a = (es.filter f).length ∧ a < es.length ∧ a < c ∧ c ≤ maxLen ∧ es.length ≤ c ∧ ∃ cur, Bxo wr gL 42 cur ∧ a * 19 + (es.length - a) * 19 ≤ cur.length ∧ ∀ w' vs, vs.length = (es.length - a) * 19 → Bxo w' gL 42 (spl cur (a * 19) vs) → OwnB w' base (some ⟨gL, 0, none⟩) c (es.filter f) := by
  obtain ⟨L, l1, l2, l3, l4⟩ := h.row
  have hbl := h.bl
  have hab := h.ab
  obtain rfl : b = es.length := by omega
  rw [List.take_length] at l2
  obtain ⟨cur, a1, a2, a3, a4, a5, a6, a7⟩ := own_open l4
  have e1 : a = (es.filter f).length := by rw [← l2, List.length_take]; omega
  refine ⟨e1, by omega, by omega, a6, by omega, cur, a1, by omega, fun w' vs hv hb2 => ?_⟩
  unfold OwnB
  rw [← e1]
  refine own_shut hb2 (by rw [spl_length]; exact a2) ?_ a4 (by omega) a6 (by rw [flat_len El.L 19 El.len, ← e1])
  rw [spl_take_le vs cur _ _ (by omega) (Nat.le_refl _), ← l2, ← flat_take El.L 19 El.len, ← a3, List.take_take, Nat.min_eq_left (by omega)]
set_option maxRecDepth 100000 in
set_option maxHeartbeats 4000000 in
theorem cdelfunc (es : List El) (A : Option Addr) (c base : Nat) (now : Int) (p : Po) (A2 : Option Addr) (c2 gn gp : Nat) (w : World) (V : Nat → Prop) (hE : OwnB w base A c es) (hP : LsAt w V (es.map El.b) A c) (hn : Bxo w gn 3 [.int .i64 now]) (hp : Bxo w gp 27 (poL p A2 c2)) (hgn : gn < base) (hgp : gp < base) (hb : ∀ e ∈ es, 0 ≤ e.b.born ∧ e.b.born ≤ 1099511627776) (n0 : 0 ≤ now) (n1 : now ≤ 1099511627776) :
    Calls Try.prog 27 #[.slice A es.length c, .func (.func 28) #[] #[.pointer (some ⟨gn, 0, none⟩), .pointer (some ⟨gp, 0, none⟩)]] w fun e w' => e = .returned (.slice A (es.filter (keepE now p.life)).length c) ∧ OwnB w' base A c (es.filter (keepE now p.life)) ∧ w.grownBy w' (blk A) := by
  have HIX := Go.Lib.hid (cindex (es.map El.b) A c now p A2 c2 gn gp w V hP hn hp (fun b hb' => by obtain ⟨e, he, rfl⟩ := List.mem_map.1 hb'; exact hb e he) n0 n1)
  rw [List.length_map] at HIX
  have HE := Go.Lib.hid hE
  have HN := Go.Lib.hid hn
  have HPB := Go.Lib.hid hp
  have HB := Go.Lib.hid hb
  have zn := hn.lt
  have zp := hp.lt
  clear hP hn hp hb
  by_cases hk : (es.map El.b).findIdx (oldB now p.life) < es.length
  · obtain ⟨gL, rfl, hL1, hL2⟩ := (own_addr hE).resolve_left (by rintro ⟨_, h, _⟩; omega)
    clear hE
    have HK := Go.Lib.hid (idx_at now p.life es _ rfl hk)
    generalize (es.map El.b).findIdx (oldB now p.life) = k0 at *
    obtain ⟨hi, hfil⟩ := HK.out
    rw [hi] at HIX
    have HFIL := Go.Lib.hid hfil
    clear hfil hi HK
    have t1 : ((k0 : Int) == -1) = false := by rw [beq_eq_false_iff_ne]; omega
    have hEC := own_cap HE.out
    unfold maxLen at hEC
    obtain ⟨hEC1, hEC2⟩ := hEC
    have s0 : IntKind.i64.wrap ((k0 : Int) + 1) = (k0 : Int) + 1 := IntWalk.i64_in _ (by omega)
    go_enter Try.func27, Try.ntmps27
    go_wp2_with (first
      | (go_at_call 48; refine HIX.out.mono ?_; rintro e w1 ⟨rfl, hx1⟩; dsimp only))
    go_loopw [5, 6] (fun i j wr => ∃ a b : Nat, i = .int .i64 a ∧ j = .int .i64 b ∧ DelI w wr base gL c es (keepE now p.life) a b) (fun _ j _ => es.length - (intOf j).toNat)
    case atStart => exact ⟨k0, k0 + 1, rfl, rfl, ⟨es, rfl, HFIL.out, rfl, own_keep HE.out (hx1.block gL hL2)⟩, by omega, by omega, gro_below hx1⟩
    case round =>
      obtain ⟨a, b, rfl, rfl, hD⟩ := hrel
      have hab := hD.ab
      have hbl := hD.bl
      by_cases hlt : b < es.length
      · have HG := Go.Lib.hid (hD.get hlt)
        have HSK := Go.Lib.hid (fun (w' : World) h y => hD.skip (w' := w') hlt h y)
        have HPT := Go.Lib.hid (fun (w' : World) h y => hD.put (w' := w') (w'' := w') hlt h y)
        have HGR := Go.Lib.hid hD.gro
        have HBE := HB.out _ (List.getElem_mem hlt)
        generalize es[b] = e at *
        obtain ⟨x, Ao, co, Ab, cb, Ar, cr⟩ := e
        have hx0 : 0 ≤ x.born := HBE.1
        have hx1 : x.born ≤ 1099511627776 := HBE.2
        clear HBE
        have i1 : (0 : Int) ≤ (b : Int) := by omega
        have i2 : (b : Int) < (es.length : Int) := by omega
        have i3 : (0 : Int) ≤ (a : Int) := by omega
        have i4 : (a : Int) < (es.length : Int) := by omega
        have s1 : IntKind.i64.wrap ((b : Int) + 1) = (b : Int) + 1 := IntWalk.i64_in _ (by omega)
        have s2 : IntKind.i64.wrap ((a : Int) + 1) = (a : Int) + 1 := IntWalk.i64_in _ (by omega)
        have y1 := (Below.refl wr.heap.size wr).alloc (Nat.le_refl _) (oBf x Ao co Ab cb Ar cr)
        have M1 := Go.Lib.hid (Bxo.made wr 42 (bfL x Ao co Ab cb Ar cr))
        have z1 := HGR.out.size
        clear hD
        go_upto_region 8 with (first
          | (refine wpList_load_bf rfl _ rfl ⟨gL, b * 19, none⟩ rfl x Ao co Ab cb Ar cr HG.out ?_)
          | (refine wpList_store_bf rfl _ _ rfl _ rfl x Ao co Ab cb Ar cr rfl rfl ?_))
        have N1 : Hid (Bxo (wr.alloc (oBf x Ao co Ab cb Ar cr)) gn 3 [.int .i64 now]) := Go.Lib.hid ((HN.out.gro HGR.out (by omega)).keep y1 (by omega))
        have P1 : Hid (Bxo (wr.alloc (oBf x Ao co Ab cb Ar cr)) gp 27 (poL p A2 c2)) := Go.Lib.hid ((HPB.out.gro HGR.out (by omega)).keep y1 (by omega))
        generalize wr.alloc (oBf x Ao co Ab cb Ar cr) = W1 at *
        have zz1 := y1.size
        cases hq : oldB now p.life x
        · have HQ := Go.Lib.hid hq
          clear hq
          have HKE : Hid (keepE now p.life ⟨x, Ao, co, Ab, cb, Ar, cr⟩ = true) := Go.Lib.hid (by unfold keepE; rw [HQ.out]; rfl)
          go_wp2_with (first
            | (refine wpList_load_bf rfl _ rfl ⟨wr.heap.size, 0, none⟩ rfl x Ao co Ab cb Ar cr M1.out.at ?_)
            | (go_at_call 28; refine (cold x Ao co Ab cb Ar cr now p A2 c2 gn gp _ false HQ.out N1.out P1.out (by omega)).mono ?_; rintro e w2 ⟨rfl, hcall⟩; obtain ⟨cur, hcur, hroom, hput⟩ := HPT.out w2 HKE.out (y1.trans (hcall.mono zz1)); have HCUR := Go.Lib.hid hcur; have HPUT := Go.Lib.hid hput; have M2 := Go.Lib.hid (M1.out.keep hcall M1.out.lt); clear hcur hput; dsimp only)
            | (refine wpList_load_bf rfl _ rfl ⟨wr.heap.size, 0, none⟩ rfl x Ao co Ab cb Ar cr M2.out.at ?_)
            | (refine wpList_store_any rfl 42 _ _ rfl gL (a * 19) 42 cur (bfL x Ao co Ab cb Ar cr) _ rfl rfl rfl HCUR.out info_bf (by exact hroom) (by simp [Value.oneCell']) ?_; intro w3 hb3 ho3; have HB3 := Go.Lib.hid hb3; clear hb3))
          go_round
          case rel => exact ⟨a + 1, b + 1, by go_num, by go_num, HPUT.out w3 HB3.out ho3⟩
          case measure => simp [intOf]; omega
        · have HQ := Go.Lib.hid hq
          clear hq
          have HKE : Hid (keepE now p.life ⟨x, Ao, co, Ab, cb, Ar, cr⟩ = false) := Go.Lib.hid (by unfold keepE; rw [HQ.out]; rfl)
          go_wp2_with (first
            | (refine wpList_load_bf rfl _ rfl ⟨wr.heap.size, 0, none⟩ rfl x Ao co Ab cb Ar cr M1.out.at ?_)
            | (go_at_call 28; refine (cold x Ao co Ab cb Ar cr now p A2 c2 gn gp _ true HQ.out N1.out P1.out (by omega)).mono ?_; rintro e w2 ⟨rfl, hcall⟩; dsimp only))
          go_round
          case rel => exact ⟨a, b + 1, rfl, by go_num, HSK.out w2 HKE.out (y1.trans (hcall.mono zz1))⟩
          case measure => simp [intOf]; omega
      · have i2 : ¬ (b : Int) < (es.length : Int) := by omega
        obtain ⟨d1, d2, d3, d4, d5, cur, d6, d7, d8⟩ := hD.done hlt
        have HGR := Go.Lib.hid hD.gro
        have HD1 := Go.Lib.hid d1
        have HD6 := Go.Lib.hid d6
        have HD8 := Go.Lib.hid d8
        clear d1 d6 d8 hD
        unfold maxLen at d4
        have g1 : (a : Int) ≤ (es.length : Int) := by omega
        have g2 : (es.length : Int) ≤ (c : Int) := by omega
        have g3 : (0 : Int) ≤ (a : Int) := by omega
        have g6 : (a : Int) ≤ (c : Int) := by omega
        have g5 : (if c = a then some (⟨gL, 0, none⟩ : Addr) else some ⟨gL, a * 19, none⟩) = some ⟨gL, a * 19, none⟩ := if_neg (by omega)
        go_wp2_with (first
          | (refine wpList_clear_row rfl _ 25 rfl 42 zBf Try.underlying25 zero_bf (by simp) (by simp [Value.oneCell']) gL (a * 19) (es.length - a) (c - a) cur rfl HD6.out d7 ?_; intro w3 vs hvs hb3 ho3; have HB3 := Go.Lib.hid hb3; clear hb3))
        go_ret
        have hg := HGR.out.trans ho3.gro
        refine ⟨show Ending.returned (.slice (some ⟨gL, 0, none⟩) a c) = _ by rw [HD1.out], HD8.out w3 vs hvs HB3.out, ⟨hg.os, hg.tape, hg.output, hg.size, fun k hk hne => hg.block k hk (fun e => hne (by rw [e]; rfl))⟩⟩
  · have HK := Go.Lib.hid (idx_not now p.life es hk)
    obtain ⟨hi, hfil⟩ := HK.out
    rw [hi] at HIX
    rw [hfil]
    clear HK hfil hi
    go_enter Try.func27, Try.ntmps27
    go_wp2_with (first
      | (go_at_call 48; refine HIX.out.mono ?_; rintro e w1 ⟨rfl, hx1⟩; dsimp only))
    go_ret
    refine ⟨rfl, own_keepA HE.out (fun g hg => ?_), ⟨hx1.os, hx1.tape, hx1.output, hx1.size, fun k hk _ => hx1.block k hk⟩⟩
    rcases own_addr HE.out with ⟨h, _⟩ | ⟨g2, h, _, h2⟩
    · rw [h] at hg; cases hg
    · rw [h] at hg
      have hg : some g2 = some g := hg
      injection hg with hg
      subst hg
      exact hx1.block _ h2
end Go.Proofs.Ythejakbjekjhjaa
