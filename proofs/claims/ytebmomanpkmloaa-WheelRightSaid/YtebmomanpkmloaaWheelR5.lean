/- Contracts of the document's own answers for package wheel: Tick. -/
import Derived.Test.YtebmomanpkmloaaWheelR4
import Derived.Test.YtebmomanpkmloaaHeapPlain
namespace Go.Proofs.Ytebmomanpkmloaa
open Go.ChangeShapes Go.WideShapes Go.ChangeAt Go.RowKit
set_option linter.unusedVariables false
set_option linter.unusedSimpArgs false

/-- the least that is due among the first k. -/
structure BestI (l : List Al) (now : Int) (k : Nat) (b : Int) : Prop where
  none : b < 0 → b = -1 ∧ ∀ j, j < k → now < (atA l j).at_
  some : 0 ≤ b → ∃ p : Nat, b = (p : Int) ∧ p < k ∧ (atA l p).at_ ≤ now ∧ ∀ j, j < k → (atA l j).at_ ≤ now → leA (atA l p) (atA l j) = true
theorem BestI.zero (l : List Al) (now : Int) : BestI l now 0 (-1) := ⟨fun _ => ⟨rfl, fun j h => by omega⟩, fun h => by omega⟩
theorem BestI.late {l : List Al} {now : Int} {k : Nat} {b : Int} (h : BestI l now k b) (hk : now < (atA l k).at_) : BestI l now (k + 1) b := by
  refine ⟨fun hb => ⟨(h.none hb).1, fun j hj => ?_⟩, fun hb => ?_⟩
  · by_cases e : j = k
    · rw [e]; exact hk
    · exact (h.none hb).2 j (by omega)
  · obtain ⟨p, e, hp, h1, h2⟩ := h.some hb
    refine ⟨p, e, by omega, h1, fun j hj hd => ?_⟩
    by_cases e : j = k
    · rw [e] at hd; omega
    · exact h2 j (by omega) hd
theorem BestI.first {l : List Al} {now : Int} {k : Nat} (h : BestI l now k (-1)) (hk : (atA l k).at_ ≤ now) : BestI l now (k + 1) (k : Nat) := by
  refine ⟨fun hb => by omega, fun _ => ⟨k, rfl, by omega, hk, fun j hj hd => ?_⟩⟩
  by_cases e : j = k
  · rw [e, leA_iff]; omega
  · have := (h.none (by omega)).2 j (by omega)
    omega
theorem BestI.less {l : List Al} {now : Int} {k p : Nat} (h : BestI l now k (p : Nat)) (hk : (atA l k).at_ ≤ now) (hl : ltA (atA l k) (atA l p) = true) : BestI l now (k + 1) (k : Nat) := by
  refine ⟨fun hb => by omega, fun _ => ⟨k, rfl, by omega, hk, fun j hj hd => ?_⟩⟩
  by_cases e : j = k
  · rw [e, leA_iff]; omega
  · obtain ⟨p', e', hp, h1, h2⟩ := h.some (by omega)
    obtain rfl : p = p' := by omega
    exact leA_trans _ _ _ (lt_le hl) (h2 j (by omega) hd)
theorem BestI.more {l : List Al} {now : Int} {k p : Nat} (h : BestI l now k (p : Nat)) (hl : ltA (atA l k) (atA l p) = false) : BestI l now (k + 1) (p : Nat) := by
  refine ⟨fun hb => by omega, fun _ => ?_⟩
  obtain ⟨p', e', hp, h1, h2⟩ := h.some (by omega)
  obtain rfl : p = p' := by omega
  refine ⟨p, rfl, by omega, h1, fun j hj hd => ?_⟩
  by_cases e : j = k
  · rw [e]; exact not_lt hl
  · exact h2 j (by omega) hd
theorem BestI.end0 {l : List Al} {now : Int} {b : Int} (h : BestI l now l.length b) (hb : b < 0) : b = -1 ∧ dueA l now = [] ∧ leftA l now = l := by
  obtain ⟨h1, h2⟩ := h.none hb
  refine ⟨h1, due_nil fun a ha => ?_⟩
  obtain ⟨j, hj, rfl⟩ := List.getElem_of_mem ha
  have := h2 j hj
  rwa [atA_get hj] at this
theorem BestI.end1 {l : List Al} {now : Int} {p : Nat} (h : BestI l now l.length (p : Nat)) : p < l.length ∧ dueA l now = atA l p :: dueA (l.take p ++ l.drop (p + 1)) now ∧ leftA (l.take p ++ l.drop (p + 1)) now = leftA l now := by
  obtain ⟨p', e', hp, h1, h2⟩ := h.some (by omega)
  obtain rfl : p = p' := by omega
  have hs := cut_split hp
  have hall : ∀ a ∈ l, a.at_ ≤ now → leA (atA l p) a = true := fun a ha hd => by
    obtain ⟨j, hj, rfl⟩ := List.getElem_of_mem ha
    have := h2 j hj
    rw [atA_get hj] at this
    exact this hd
  rw [atA_get hp] at h1 hall ⊢
  refine ⟨hp, ?_, ?_⟩
  · have := due_cons (l1 := l.take p) (l2 := l.drop (p + 1)) (b := l[p]) (now := now) h1 (fun a ha => hall a (List.mem_of_mem_take ha)) (fun a ha => hall a (List.mem_of_mem_drop ha))
    rw [← hs] at this
    exact this
  · have := left_drop (l1 := l.take p) (l2 := l.drop (p + 1)) (b := l[p]) (now := now) h1
    rw [← hs] at this
    exact this.symm
theorem lt_iff (a b : Al) : ltA a b = true ↔ a.at_ < b.at_ ∨ (a.at_ = b.at_ ∧ a.num < b.num) := by
  unfold ltA
  have h1 := leA_iff b a
  cases h : leA b a
  · rw [h] at h1
    simp at h1
    simp
    omega
  · rw [h] at h1
    simp at h1
    simp
    omega
theorem lt_no (a b : Al) (h : ¬ (a.at_ < b.at_ ∨ (a.at_ = b.at_ ∧ a.num < b.num))) : ltA a b = false := by
  cases hl : ltA a b
  · rfl
  · exact absurd ((lt_iff a b).1 hl) h
theorem results_ctt11 {P : Program} {fn : Func} {p u v : Tmp} {t1 : TypeId} (h : fn.results = #[.cell p t1, .tmp u, .tmp v]) (tmps : Array Value) (w : World) (g1 : Nat) (c1 : List Value) (d1 : TypeDesc)
    (hp : tmps.getD p undef = .pointer (some ⟨g1, 0, none⟩)) (h1 : Bxo w g1 t1 c1)
    (u1 : P.underlying t1 = some d1) (r1 : (match d1 with | .struct _ | .array _ _ => true | _ => false) = true) (i1 : (P.info? t1).map (·.size) = some c1.length) :
    (results fn tmps).run P w = .ok (.tuple #[.agg c1.toArray, tmps.getD u undef, tmps.getD v undef]) w := by
  have hp' : tmps[p]?.getD undef = .pointer (some ⟨g1, 0, none⟩) := by simpa using hp
  have e1 := run_loadVar_row (P := P) w g1 t1 t1 c1.toArray (0, 0) d1 h1 u1 r1 (by simpa using i1)
  simp [results, h, hp', asAddr, e1]
def lenV : Value → Nat
  | .slice _ n _ => n
  | _ => 0
abbrev oAl (a : Al) : Obj := .cells #[.int .i64 a.num, .int .i64 a.at_] 63
theorem info_i1 : (Try.prog.info? 3).map (·.size) = some 1 := by kernel_rfl
theorem info_iz : (Try.prog.info? 3).map (fun i => (i.zero, i.size, i.bytes)) = some (some (.int .i64 0), 1, 8) := by kernel_rfl
/-- while what is due is taken out, one after another. -/
structure TkI (w : World) (x : Wh) (A0 : Option Addr) (now : Int) (wr : World) (lc : List Al) (A : Option Addr) (c : Nat) (dn : List Int) (B : Option Addr) (d : Nat) : Prop where
  box : Bxo wr w.heap.size 28 (whL ⟨lc, now⟩ A c)
  zero : Bxo wr (w.heap.size + 1) 28 (whL wh0 none 0)
  al : AlAt wr lc A c
  apart : ∀ ad, A = some ad → ad.block ≠ w.heap.size ∧ ad.block ≠ w.heap.size + 1
  own : wr.ownsRow (w.heap.size + 2) 3 1 (.slice B dn.length d) dn.length (dn.map (fun n => Value.int .i64 n))
  below : Below w.heap.size w wr
  due : dn ++ numsA (dueA lc now) = numsA (dueA x.list now)
  left : leftA lc now = leftA x.list now
  len : dn.length + lc.length = x.list.length
  fresh : A = A0 ∨ ∀ ad, A = some ad → w.heap.size ≤ ad.block ∧ ad.block < wr.heap.size
  apart2 : ∀ ad, A = some ad → blk B ≠ some ad.block
theorem grownB {w w' : World} {row : Option Nat} {B : Nat} (h : w.grownBy w' row) (hr : ∀ g, row = some g → B ≤ g) (hs : B ≤ w.heap.size) : Below B w w' :=
  ⟨h.os, h.tape, h.output, h.size, fun b hb => h.block b (by omega) (fun e => by have := hr b e.symm; omega)⟩
/-- what Tick hands back. -/
def TkPost (w : World) (A0 : Option Addr) (q : Wh × List Int × Int) (e : Ending) (w' : World) : Prop := ∃ A c B d, e = .returned (.tuple #[whV q.1 A c, .slice B q.2.1.length d, .int .i64 q.2.2]) ∧ AlAt w' q.1.list A c ∧ InsAt .i64 w' q.2.1 B d ∧ Below w.heap.size w w' ∧ (A = A0 ∨ ∀ ad, A = some ad → w.heap.size ≤ ad.block ∧ ad.block < w'.heap.size) ∧ ∀ ad, B = some ad → w.heap.size ≤ ad.block ∧ ad.block < w'.heap.size
set_option maxRecDepth 100000 in
set_option maxHeartbeats 16000000 in
theorem rtick11 (x : Wh) (A : Option Addr) (c : Nat) (now : Int) (w : World) (h : AlAt w x.list A c) (hbig : x.list.length ≤ 65536) (hlt : ∀ ad, A = some ad → ad.block < w.heap.size) (q : Wh × List Int × Int) (hq : tickH x now = q) :
    Calls Try.prog 13 #[whV x A c, .int .i64 now] w (TkPost w A q) := by
  have y0 : Below w.heap.size w ((w.alloc (oWh x A c)).alloc (oWh wh0 none 0)) := below_alloc (below_alloc (Below.refl _ _) (Nat.le_refl _) _) (by simp) _
  have h1 := (Bxo.made w 28 (whL x A c)).alloc (oWh wh0 none 0)
  have h2 : Bxo ((w.alloc (oWh x A c)).alloc (oWh wh0 none 0)) (w.heap.size + 1) 28 (whL wh0 none 0) := by
    have := Bxo.made (w.alloc (oWh x A c)) 28 (whL wh0 none 0)
    simpa using this
  have HC := Go.Lib.hid (h.at y0)
  have HA := Go.Lib.hid h
  have HLT := Go.Lib.hid hlt
  clear h hlt
  obtain ⟨i0_, hi_, hz0, hz1, hz2⟩ := info_parts info_iz
  go_enter Try.func13, Try.ntmps13
  go_upto_region 1 with fail
  have hWs : w.heap.size + 2 ≤ ((w.alloc (oWh x A c)).alloc (oWh wh0 none 0)).heap.size := by simp
  generalize ((w.alloc (oWh x A c)).alloc (oWh wh0 none 0)) = W at *
  have HB := Go.Lib.hid h1
  have HZ := Go.Lib.hid h2
  have c1 := h1.cell 1 rfl
  clear h1 h2
  by_cases hbad : now < x.now ∨ now > 1099511627776
  · have HQ : Hid (q = (x, [], 1)) := Go.Lib.hid (by rw [← hq]; unfold tickH; rw [if_pos hbad])
    clear hq
    by_cases h0 : now < x.now
    · clear hbad
      go_wp2_with (first
        | (refine wpList_load_box rfl 28 _ rfl w.heap.size rfl (whL x A c) _ HB.out Try.underlying28 rfl info_wh ?_)
        | (refine wpList_store_any rfl 28 _ _ rfl (w.heap.size + 1) 0 28 _ (whL x A c) _ rfl rfl rfl HZ.out info_wh (by show 0 + 2 ≤ 2; omega) (by simp [Value.oneCell']) ?_; intro wF hbF hoF; have HBF := Go.Lib.hid hbF; clear hbF))
      have xF := y0.trans (hoF.below (show w.heap.size ≤ w.heap.size + 1 by omega))
      exact bodyPost_ret (v := .tuple #[.agg (whL x A c).toArray, .slice none 0 0, .int .i64 1]) (results_ctt11 (p := 4) (u := 5) (v := 6) rfl _ _ (w.heap.size + 1) _ _ rfl HBF.out Try.underlying28 rfl info_wh) rfl ⟨A, c, none, 0, by rw [HQ.out]; rfl, by rw [HQ.out]; exact HA.out.at xF, by rw [HQ.out]; exact ⟨Nat.le_refl _, by omega, fun _ => rfl, .inl rfl⟩, xF, .inl rfl, fun ad e => by cases e⟩
    · have h3 : 1099511627776 < now := by omega
      clear hbad
      go_wp2_with (first
        | (refine wpList_load_box rfl 28 _ rfl w.heap.size rfl (whL x A c) _ HB.out Try.underlying28 rfl info_wh ?_)
        | (refine wpList_store_any rfl 28 _ _ rfl (w.heap.size + 1) 0 28 _ (whL x A c) _ rfl rfl rfl HZ.out info_wh (by show 0 + 2 ≤ 2; omega) (by simp [Value.oneCell']) ?_; intro wF hbF hoF; have HBF := Go.Lib.hid hbF; clear hbF))
      have xF := y0.trans (hoF.below (show w.heap.size ≤ w.heap.size + 1 by omega))
      exact bodyPost_ret (v := .tuple #[.agg (whL x A c).toArray, .slice none 0 0, .int .i64 1]) (results_ctt11 (p := 4) (u := 5) (v := 6) rfl _ _ (w.heap.size + 1) _ _ rfl HBF.out Try.underlying28 rfl info_wh) rfl ⟨A, c, none, 0, by rw [HQ.out]; rfl, by rw [HQ.out]; exact HA.out.at xF, by rw [HQ.out]; exact ⟨Nat.le_refl _, by omega, fun _ => rfl, .inl rfl⟩, xF, .inl rfl, fun ad e => by cases e⟩
  · have HQ : Hid (q = (⟨leftA x.list now, now⟩, numsA (dueA x.list now), 0)) := Go.Lib.hid (by rw [← hq]; unfold tickH; rw [if_neg hbad])
    have n0 : ¬ now < x.now := by omega
    have n1 : ¬ 1099511627776 < now := by omega
    clear hq hbad
    go_upto_region 4 with (first
      | (refine wpList_store_any rfl 3 _ _ rfl w.heap.size 1 28 _ [.int .i64 now] _ rfl rfl rfl HB.out info_i1 (by show 1 + 1 ≤ 2; omega) (by simp [Value.oneCell']) ?_; intro w3 hb3 ho3; have HB3 : Hid (Bxo w3 w.heap.size 28 (whL ⟨x.list, now⟩ A c)) := Go.Lib.hid hb3; have HZ3 := Go.Lib.hid (HZ.out.only ho3 (by omega)); clear hb3))
    have HI0 : Hid (TkI w x A now w3 x.list A c [] none 0) := Go.Lib.hid ⟨HB3.out, HZ3.out, (HC.out.keepR fun ad e => ho3.block _ (by have := HLT.out ad e; omega)), fun ad e => by have := HLT.out ad e; omega, own_none _ _ _ _, y0.trans (ho3.below (Nat.le_refl _)), rfl, rfl, by simp, .inl rfl, fun ad _ e => by cases e⟩
    clear HB HZ HC HB3 HZ3 c1 n0 n1
    go_wp2_with fail
    go_loopw [7] (fun o wr => ∃ (lc : List Al) (A1 : Option Addr) (c1 : Nat) (dn : List Int) (B : Option Addr) (d : Nat), o = .slice B dn.length d ∧ Hid (TkI w x A now wr lc A1 c1 dn B d)) (fun o _ => x.list.length + 1 - lenV o)
    case atStart => exact ⟨x.list, A, c, [], none, 0, rfl, HI0⟩
    case round =>
      rename World => wo
      obtain ⟨lc, A1, c1, dn, B, d, rfl, HI⟩ := hrel
      have hlen := HI.out.len
      have hlc := HI.out.al.len
      have hcc := HI.out.al.cap
      clear HI0
      go_wp2_with fail
      go_loopw [8, 9] (fun b i wr => ∃ (k : Nat) (bi : Int), b = .int .i64 bi ∧ i = .int .i64 k ∧ k ≤ lc.length ∧ Hid (BestI lc now k bi) ∧ Below wo.heap.size wo wr) (fun b i _ => lc.length - (intOf i).toNat)
      case atStart => exact ⟨0, -1, rfl, rfl, by omega, Go.Lib.hid (BestI.zero _ _), Below.refl _ _⟩
      case round =>
        rename World => wi
        obtain ⟨k, bi, rfl, rfl, hk, HBI, yi⟩ := hrel
        have hb0 := HI.out.box.keep yi HI.out.box.lt
        have z0 := hb0.cell 0 rfl
        by_cases hkl : k < lc.length
        · obtain ⟨ad, rfl, hcell⟩ := HI.out.al.cell hkl
          obtain ⟨a, ha⟩ : ∃ a, lc[k] = a := ⟨_, rfl⟩
          have HAT : Hid (atA lc k = a) := Go.Lib.hid (by rw [atA_get hkl]; exact ha)
          rw [ha] at hcell
          have k1 : (0 : Int) ≤ (k : Int) := by omega
          have k2 : (k : Int) < (lc.length : Int) := by omega
          have e1 : IntKind.i64.wrap ((k : Int) + 1) = (k : Int) + 1 := IntWalk.i64_in _ (by omega)
          have HW := Go.Lib.hid (hcell wi yi)
          have yx : Below wo.heap.size wo (wi.alloc (oAl a)) := below_alloc yi yi.size _
          have hbx := Bxo.made wi 63 (alL a)
          clear ha hcell hb0
          go_upto_region 10 with (refine wpList_load_at rfl 63 _ rfl (ad.add (k * 2)) rfl (alL a) _ HW.out Try.underlying63 rfl info_al ?_)
          generalize wi.alloc (oAl a) = wx at *
          have z0 := (HI.out.box.keep yx HI.out.box.lt).cell 0 rfl
          have x0 := hbx.cell 0 rfl
          have x1 := hbx.cell 1 rfl
          clear hbx HW
          obtain ⟨xn, hxn⟩ : ∃ xn, a.num = xn := ⟨_, rfl⟩
          obtain ⟨xa, hxa⟩ : ∃ xa, a.at_ = xa := ⟨_, rfl⟩
          rw [hxn] at x0
          rw [hxa] at x1
          have HXN := Go.Lib.hid hxn
          have HXA := Go.Lib.hid hxa
          clear hxn hxa
          by_cases hd : xa ≤ now
          · by_cases hb : bi < 0
            · obtain rfl := (HBI.out.none hb).1
              go_quiet (fail)
              go_wp2
              go_round
              case rel => exact ⟨k + 1, _, rfl, by go_num, by omega, Go.Lib.hid (HBI.out.first (by rw [HAT.out, HXA.out]; exact hd)), below_dn yx _⟩
              case measure => simp [intOf]; omega
            · obtain ⟨p, rfl, hpk, hpd, _⟩ := HBI.out.some (by omega)
              have hpl : p < lc.length := by omega
              obtain ⟨ad', e', hcp⟩ := HI.out.al.cell hpl
              cases e'
              obtain ⟨b, hbe⟩ : ∃ b, lc[p] = b := ⟨_, rfl⟩
              have HBT : Hid (atA lc p = b) := Go.Lib.hid (by rw [atA_get hpl]; exact hbe)
              rw [hbe] at hcp
              have q0 := hcp wx yx 0 _ rfl
              rw [add_add, Nat.add_zero] at q0
              have q1 := at_off (k := p * 2) 1 (by have := hcp wx yx 1 _ rfl; rwa [add_add] at this) (by omega)
              obtain ⟨bn, hbn⟩ : ∃ bn, b.num = bn := ⟨_, rfl⟩
              obtain ⟨ba, hba⟩ : ∃ ba, b.at_ = ba := ⟨_, rfl⟩
              rw [hbn] at q0
              rw [hba] at q1
              have HBN := Go.Lib.hid hbn
              have HBA := Go.Lib.hid hba
              have p1 : (0 : Int) ≤ (p : Int) := by omega
              have p2 : (p : Int) < (lc.length : Int) := by omega
              clear hbe hcp hbn hba hpd
              by_cases h1 : xa < ba
              · go_quiet (fail)
                go_wp2
                go_round
                case rel => exact ⟨k + 1, _, rfl, by go_num, by omega, Go.Lib.hid (HBI.out.less (by rw [HAT.out, HXA.out]; exact hd) ((lt_iff _ _).2 (by rw [HAT.out, HBT.out, HXA.out, HBA.out]; exact .inl h1))), below_dn yx _⟩
                case measure => simp [intOf]; omega
              · by_cases h2 : xa = ba
                · have te : (xa == ba) = true := by simpa using h2
                  have HE := Go.Lib.hid h2
                  clear h2
                  by_cases h3 : xn < bn
                  · go_quiet (fail)
                    go_wp2
                    go_round
                    case rel => exact ⟨k + 1, _, rfl, by go_num, by omega, Go.Lib.hid (HBI.out.less (by rw [HAT.out, HXA.out]; exact hd) ((lt_iff _ _).2 (by rw [HAT.out, HBT.out, HXA.out, HBA.out, HXN.out, HBN.out]; exact .inr ⟨HE.out, h3⟩))), below_dn yx _⟩
                    case measure => simp [intOf]; omega
                  · go_quiet (fail)
                    go_wp2
                    go_round
                    case rel => exact ⟨k + 1, _, rfl, by go_num, by omega, Go.Lib.hid (HBI.out.more (lt_no _ _ (by rw [HAT.out, HBT.out, HXA.out, HBA.out, HXN.out, HBN.out]; have := HE.out; omega))), below_dn yx _⟩
                    case measure => simp [intOf]; omega
                · have te : (xa == ba) = false := by simpa using h2
                  go_quiet (fail)
                  go_wp2
                  go_round
                  case rel => exact ⟨k + 1, _, rfl, by go_num, by omega, Go.Lib.hid (HBI.out.more (lt_no _ _ (by rw [HAT.out, HBT.out, HXA.out, HBA.out, HXN.out, HBN.out]; omega))), below_dn yx _⟩
                  case measure => simp [intOf]; omega
          · go_quiet (fail)
            go_wp2
            go_round
            case rel => exact ⟨k + 1, _, rfl, by go_num, by omega, Go.Lib.hid (HBI.out.late (by rw [HAT.out, HXA.out]; omega)), below_dn yx _⟩
            case measure => simp [intOf]; omega
        · obtain rfl : k = lc.length := by omega
          have k2 : ¬ (lc.length : Int) < (lc.length : Int) := by omega
          have HBW := Go.Lib.hid (HI.out.box.keep yi HI.out.box.lt)
          have HZW := Go.Lib.hid (HI.out.zero.keep yi HI.out.zero.lt)
          have HOW := Go.Lib.hid (own_keepA (w' := wi) HI.out.own (fun g hg => yi.block g (own_ltI HI.out.own g hg)))
          have yw := HI.out.below.trans (yi.mono HI.out.below.size)
          clear hb0
          by_cases hb : bi < 0
          · obtain ⟨rfl, hd0, hl0⟩ := HBI.out.end0 hb
            have HD0 : Hid (numsA (dueA x.list now) = dn) := Go.Lib.hid (by have := HI.out.due; rw [hd0] at this; simpa [numsA] using this.symm)
            have HL0 : Hid (leftA x.list now = lc) := Go.Lib.hid (by have := HI.out.left; rw [hl0] at this; exact this.symm)
            clear hd0 hl0
            go_wp2_with (first
              | (refine wpList_load_box rfl 28 _ rfl w.heap.size rfl (whL ⟨lc, now⟩ A1 c1) _ HBW.out Try.underlying28 rfl info_wh ?_)
              | (refine wpList_store_any rfl 28 _ _ rfl (w.heap.size + 1) 0 28 _ (whL ⟨lc, now⟩ A1 c1) _ rfl rfl rfl HZW.out info_wh (by show 0 + 2 ≤ 2; omega) (by simp [Value.oneCell']) ?_; intro wF hbF hoF; have HBF := Go.Lib.hid hbF; clear hbF))
            have xF := yw.trans (hoF.below (show w.heap.size ≤ w.heap.size + 1 by omega))
            exact bodyPost_ret (v := .tuple #[.agg (whL ⟨lc, now⟩ A1 c1).toArray, .slice B dn.length d, .int .i64 0]) (results_ctt11 (p := 4) (u := 5) (v := 6) rfl _ _ (w.heap.size + 1) _ _ rfl HBF.out Try.underlying28 rfl info_wh) rfl
              ⟨A1, c1, B, d, by rw [HQ.out, HD0.out, HL0.out], by
                rw [HQ.out, HL0.out]
                exact (HI.out.al.at yi).keepR (fun ad e => hoF.block _ (HI.out.apart ad e).2), by
                rw [HQ.out, HD0.out]
                exact InsAt.ofOwn rfl (own_keepA HOW.out (fun g hg => hoF.block _ (by have := own_geI HOW.out g hg; omega))), xF, HI.out.fresh.imp id (fun f ad e => ⟨(f ad e).1, by have h1 := (f ad e).2; have h2 := yi.size; have h3 := hoF.size; omega⟩), fun ad e => by have h1 := own_geI HOW.out ad.block (by rw [e]; rfl); have h2 := own_ltI HOW.out ad.block (by rw [e]; rfl); have h3 := hoF.size; omega⟩
          · obtain ⟨p, rfl, _, _, _⟩ := HBI.out.some (by omega)
            obtain ⟨hpl, hd1, hl1⟩ := HBI.out.end1
            obtain ⟨ad, rfl, hcp⟩ := HI.out.al.cell hpl
            obtain ⟨pn, hpn⟩ : ∃ pn, lc[p].num = pn := ⟨_, rfl⟩
            have HPN : Hid ((atA lc p).num = pn) := Go.Lib.hid (by rw [atA_get hpl]; exact hpn)
            have q0 := hcp wi yi 0 _ rfl
            rw [add_add, Nat.add_zero, hpn] at q0
            have p1 : (0 : Int) ≤ (p : Int) := by omega
            have p2 : (p : Int) < (lc.length : Int) := by omega
            have HD1 := Go.Lib.hid hd1
            have HL1 := Go.Lib.hid hl1
            have z0 := HBW.out.cell 0 rfl
            have HAL := Go.Lib.hid (HI.out.al.at yi)
            have hgl := HBW.out.lt
            have hzl := HZW.out.lt
            have hal : ad.block < wi.heap.size := by
              have h0 := hcp wi yi 0 _ rfl
              have := World.block_lt_of_cell? wi _ h0
              rwa [block_add, block_add] at this
            clear hcp hpn hd1 hl1
            go_wp2_with (first
              | (at_builtin; refine wpList_append_rdK rfl _ _ 37 rfl (w.heap.size + 2) 3 i0_ _ 1 8 Try.underlying37 hi_ hz0 hz1 hz2 rfl (by omega) (.slice B dn.length d) dn.length (dn.map (fun n => Value.int .i64 n)) rfl (own_keepA HOW.out (fun g hg => Below.heap_alloc wi _ g (own_ltI HOW.out g hg))) (some ⟨wi.heap.size, 0, none⟩) 1 1 [.int .i64 pn] rfl rfl (fun e => by cases e) (.inr ⟨_, rfl, (Bxo.made wi 3 [.int .i64 pn]).at⟩) (by simp [Value.oneCell']) (by unfold maxLen; omega) (by omega) (by simp; omega) ?_; intro v10 w10 ho10 hg10 hat10; obtain ⟨A10, c10, rfl⟩ := own_slice ho10; have y10 := (below_alloc (Below.refl _ _) (show w.heap.size + 2 ≤ wi.heap.size by omega) (.cells #[.int .i64 pn] 3)).trans (grownB hg10 (fun g e => by rw [ownBlock_blk] at e; exact own_geI HOW.out g e) (by simp; omega)); have HB10 := Go.Lib.hid (HBW.out.keep y10 (by omega)); have HZ10 := Go.Lib.hid (HZW.out.keep y10 (by omega)); have HAL10 := Go.Lib.hid (HAL.out.keepR (w' := w10) (fun ad2 e => (hg10.block _ (by cases e; simp; omega) (fun q => by cases e; rw [ownBlock_blk] at q; exact HI.out.apart2 _ rfl q.symm)).trans (Below.heap_alloc wi _ _ (by cases e; exact hal)))); have HO10 := Go.Lib.hid ho10; clear ho10 hg10 hat10; dsimp only)
              | (refine wpList_load_box rfl 28 _ rfl w.heap.size rfl (whL ⟨lc, now⟩ (some ad) c1) _ HB10.out Try.underlying28 rfl info_wh ?_)
              | (go_at_call 21; refine (rwithout11 ⟨lc, now⟩ (some ad) c1 p w10 HAL10.out hpl (by show lc.length ≤ _; omega)).mono ?_; rintro e w11 ⟨A11, c11, rfl, ha11, y11, hfr⟩; have HFR := Go.Lib.hid hfr; have HB11 := Go.Lib.hid (HB10.out.keep y11 HB10.out.lt); have HZ11 := Go.Lib.hid (HZ10.out.keep y11 HZ10.out.lt); have HA11 := Go.Lib.hid ha11; clear hfr ha11; dsimp only)
              | (refine wpList_store_any rfl 28 _ _ rfl w.heap.size 0 28 _ (whL ⟨lc.take p ++ lc.drop (p + 1), now⟩ A11 c11) _ rfl rfl rfl HB11.out info_wh (by show 0 + 2 ≤ 2; omega) (by simp [Value.oneCell']) ?_; intro w12 hb12 ho12; have HB12 := Go.Lib.hid hb12; clear hb12))
            have hg10 := HB10.out.lt
            have hz10 := HZ10.out.lt
            have hcl := cut_length hpl
            go_round
            case rel => exact ⟨_, _, _, ⟨lc.take p ++ lc.drop (p + 1), A11, c11, dn ++ [pn], A10, c10, by rw [List.length_append]; rfl, Go.Lib.hid ⟨HB12.out, HZ11.out.only ho12 (by omega), HA11.out.keepR (fun ad e => ho12.block _ (by have := HFR.out ad e; omega)), fun ad e => by have := HFR.out ad e; omega,
              own_keepA (own_keepA (by rw [List.length_append, List.map_append]; exact HO10.out) (fun g hg => y11.block g (own_ltI HO10.out g hg))) (fun g hg => ho12.block _ (by have := own_geI HO10.out g hg; omega)),
              yw.trans ((y10.mono (by omega)).trans ((y11.mono (by omega)).trans (ho12.below (Nat.le_refl _)))),
              by rw [← HI.out.due, HD1.out]; simp [numsA, HPN.out], HL1.out.trans HI.out.left, by rw [List.length_append]; show dn.length + 1 + _ = _; omega,
              .inr (fun ad e => by have h1 := HFR.out ad e; have h2 := ho12.size; omega), fun ad e q => by have h1 := HFR.out ad e; have h2 := own_ltI HO10.out _ q; omega⟩⟩, rfl, rfl, rfl⟩
            case measure => simp only [lenV]; omega
end Go.Proofs.Ytebmomanpkmloaa
