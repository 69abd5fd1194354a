/- Lemmas, several texts in one. -/
import Derived.Test.YtoghcefamoefpaaGreatDoorQ06
import Derived.Test.YtoghcefamoefpaaGreatDoorQ05
/- The landed conf: Parse. -/
namespace Go.Proofs.YtoghcefamoefpaaGreatDoor
open Go.ChangeShapes Go.WideShapes Go.ChangeAt Go.RowKit Go.Shelf
set_option linter.unusedVariables false
set_option linter.unusedSimpArgs false
attribute [local go_sem] Oper.semAt_some

theorem okB_some {b : Bool} {x d : Cf} (h : okB b x = some d) : d = x := by
  cases b with
  | true => cases h
  | false => injection h with h; exact h.symm
theorem sz_up {c d : Cf} {n : Nat} (h : SzC c n) (h1 : d.routes.length ≤ c.routes.length + 1) (h2 : d.rules.length ≤ c.rules.length + 1) (h3 : d.fwds.length ≤ c.fwds.length + 1) : SzC d (n + 1) :=
  ⟨by have := h.a; omega, by have := h.b; omega, by have := h.c; omega⟩
theorem kind_sz {w : Tx} {P : Cf → List Tx → Option Cf} (hp : kindP w = some P) {c d : Cf} {ws : List Tx} {n : Nat} (h : SzC c n) (e : P c ws = some d) : SzC d (n + 1) := by
  unfold kindP at hp
  split at hp
  · injection hp with hp; subst hp; rw [route_seq] at e; have := okB_some e; subst this; exact sz_up h (by simp) (by simp) (by simp)
  split at hp
  · injection hp with hp; subst hp; rw [rule_seq c ws _ _ _ _ _ _ _ _ rfl rfl rfl rfl rfl rfl rfl rfl] at e; have := okB_some e; subst this; exact sz_up h (by simp) (by simp) (by simp)
  split at hp
  · injection hp with hp; subst hp; rw [outside_seq] at e; have := okB_some e; subst this; exact sz_up h (by simp) (by simp) (by simp)
  split at hp
  · injection hp with hp; subst hp; rw [public_seq] at e; have := okB_some e; subst this; exact sz_up h (by simp) (by simp) (by simp)
  split at hp
  · injection hp with hp; subst hp; rw [forward_seq] at e; have := okB_some e; subst this; exact sz_up h (by simp) (by simp) (by simp)
  split at hp
  · injection hp with hp; subst hp; rw [life_seq] at e; have := okB_some e; subst this; exact sz_up h (by simp) (by simp) (by simp)
  split at hp
  · injection hp with hp; subst hp; rw [budget_seq] at e; have := okB_some e; subst this; exact sz_up h (by simp) (by simp) (by simp)
  · cases hp
theorem line_sz {c d : Cf} {s : Tx} {n : Nat} (h : SzC c n) (e : lineP c s = .ok d) : SzC d (n + 1) := by
  unfold lineP at e
  split at e
  · injection e with e; rw [← e]; exact sz_up h (by omega) (by omega) (by omega)
  · split at e
    · injection e with e; rw [← e]; exact sz_up h (by omega) (by omega) (by omega)
    · split at e
      · cases e
      · next hp =>
        split at e
        · cases e
        · next hd => injection e with e; rw [← e]; exact kind_sz hp h hd
theorem cf0_one : ∀ u ∈ cfL cf0 cfm0, u.oneCell' = true := fun u hu => by
  simp only [cfL, cf0, cfm0, List.mem_cons, List.not_mem_nil, or_false] at hu
  rcases hu with rfl | rfl | rfl | rfl | rfl | rfl | rfl | rfl | rfl | rfl <;> rfl
def afterL (L : Except Int Cf) (n : Nat) (rest : List Tx) : Cf × Int × Int := match L with
  | .error e => (cf0, e, (n : Int) + 1)
  | .ok d => linesP rest (n + 1) d
theorem lines_next {s : Tx} {rest : List Tx} {n : Nat} {c : Cf} (h : ¬ (512 ≤ n ∨ 256 < s.length)) : linesP (s :: rest) n c = afterL (lineP c s) n rest := by
  rw [linesP, if_neg h]
  rfl
def RightN15 : Prop := ∀ (c : Cf) (p : Cfm) (w : World), CfAt w c p → ∀ (q : Bool), rightCf c = q → Calls Tryz.prog 10 #[cfV c p] w fun e w' => e = .returned (.bool q) ∧ Below w.heap.size w w'
theorem results_c3 {P : Program} {fn : Func} {p u v : Tmp} {t1 t2 t3 : TypeId} (h : fn.results = #[.cell p t1, .cell u t2, .cell v t3]) (tmps : Array Value) (w : World) (g1 g2 g3 : Nat) (c1 : List Value) (d1 d2 d3 : TypeDesc) (a2 a3 : Value)
    (hp : tmps.getD p undef = .pointer (some ⟨g1, 0, none⟩)) (hu : tmps.getD u undef = .pointer (some ⟨g2, 0, none⟩)) (hv : tmps.getD v undef = .pointer (some ⟨g3, 0, none⟩)) (h1 : Bxo w g1 t1 c1)
    (u1 : P.underlying t1 = some d1) (r1 : (match d1 with | .struct _ | .array _ _ => true | _ => false) = true) (i1 : (P.info? t1).map (·.size) = some c1.length)
    (e2 : (loadVar t2 ⟨g2, 0, none⟩).run P w = .ok a2 w) (e3 : (loadVar t3 ⟨g3, 0, none⟩).run P w = .ok a3 w) :
    (results fn tmps).run P w = .ok (.tuple #[.agg c1.toArray, a2, a3]) w := by
  have hp' : tmps[p]?.getD undef = .pointer (some ⟨g1, 0, none⟩) := by simpa using hp
  have hu' : tmps[u]?.getD undef = .pointer (some ⟨g2, 0, none⟩) := by simpa using hu
  have hv' : tmps[v]?.getD undef = .pointer (some ⟨g3, 0, none⟩) := by simpa using hv
  have e1 := run_loadVar_row (P := P) w g1 t1 t1 c1.toArray (0, 0) d1 h1 u1 r1 (by simpa using i1)
  simp [results, h, hp', hu', hv', asAddr, e1, e2, e3]
theorem put_bxo {W : World} {g x : Nat} {ty : TypeId} {cs : List Value} (h : Bxo W g ty cs) (o : Obj) (hne : g ≠ x) : Bxo (W.putObj x o) g ty cs := (World.putObj_heap_other hne).trans h
theorem put_gro (W : World) (x : Nat) (o : Obj) : Gro x W (W.putObj x o) := ⟨rfl, rfl, rfl, by simp, fun k _ hk => World.putObj_heap_other hk⟩
theorem pa_zero {q : Cf × Int × Int} {w X : World} {e k : Int} (hq : (cf0, e, k) = q) (tb : Tb X) (bel : Below w.heap.size w X) : PaOut q w (.returned (.tuple #[cfV cf0 cfm0, .int .i64 e, .int .i64 k])) X := by
  subst hq
  exact ⟨⟨cfm0, rfl, ⟨⟨Nat.zero_le _, Nat.zero_le _, fun _ => rfl, .inl rfl, (fun r hr => by cases hr)⟩, ⟨Nat.zero_le _, Nat.zero_le _, fun _ => rfl, .inl rfl, (fun r hr => by cases hr)⟩, ⟨Nat.zero_le _, Nat.zero_le _, fun _ => rfl, .inl rfl, (fun r hr => by cases hr)⟩, ⟨Int.le_refl _, (show (0 : Int) ≤ 4294967295 by decide)⟩, tb⟩, ⟨(fun ad e => by cases e), (fun ad e => by cases e), (fun ad e => by cases e)⟩⟩, bel⟩
theorem ld_er (X : World) (g : Nat) (v : Int) (h : X.cell? ⟨g, 0, none⟩ = some (.int .i64 v)) : (loadVar 30 ⟨g, 0, none⟩).run Tryz.prog X = .ok (.int .i64 v) X := by
  simp [go_sem, h]
theorem ld_in (X : World) (g : Nat) (v : Int) (h : X.cell? ⟨g, 0, none⟩ = some (.int .i64 v)) : (loadVar 3 ⟨g, 0, none⟩).run Tryz.prog X = .ok (.int .i64 v) X := by
  simp [go_sem, h]
theorem pa_ret {tmps : Array Value} {X : World} {b : Nat} {c : Cf} {p : Cfm} {e k : Int} (h2 : tmps.getD 2 undef = .pointer (some ⟨b, 0, none⟩)) (h3 : tmps.getD 3 undef = .pointer (some ⟨b + 1, 0, none⟩)) (h4 : tmps.getD 4 undef = .pointer (some ⟨b + 2, 0, none⟩))
    (B0 : Bxo X b 27 (cfL c p)) (B1 : Bxo X (b + 1) 30 [.int .i64 e]) (B2 : Bxo X (b + 2) 3 [.int .i64 k]) : (results Tryz.f8 tmps).run Tryz.prog X = .ok (.tuple #[cfV c p, .int .i64 e, .int .i64 k]) X :=
  results_c3 (p := 2) (u := 3) (v := 4) rfl tmps X b (b + 1) (b + 2) (cfL c p) _ (.struct #[]) (.struct #[]) _ _ h2 h3 h4 B0 Tryz.underlying27 rfl info_cf (ld_er X _ _ (B1.cell 0 rfl)) (ld_in X _ _ (B2.cell 0 rfl))
theorem cfL_one (c : Cf) (p : Cfm) : ∀ u ∈ cfL c p, u.oneCell' = true := fun u hu => by
  simp only [cfL, List.mem_cons, List.not_mem_nil, or_false] at hu
  rcases hu with rfl | rfl | rfl | rfl | rfl | rfl | rfl | rfl | rfl | rfl <;> rfl
theorem info_er15 : (Tryz.prog.info? 30).map (·.size) = some 1 := by kernel_rfl
/-- stores into results: what they keep. -/
structure EkS (b : Nat) (W W' : World) : Prop where
  os : W'.os = W.os
  tape : W'.tape = W.tape
  output : W'.output = W.output
  size : W.heap.size ≤ W'.heap.size
  block : ∀ k, k < b ∨ b + 3 ≤ k → k < W.heap.size → W'.heap[k]? = W.heap[k]?
  nc : ∀ (k : Nat) (o : Obj), W.heap[k]? = some o → o.isCells = false → W'.heap[k]? = some o
theorem EkS.trans {b : Nat} {X Y Z : World} (h : EkS b X Y) (k : EkS b Y Z) : EkS b X Z := ⟨k.os.trans h.os, k.tape.trans h.tape, k.output.trans h.output, Nat.le_trans h.size k.size, fun i hi hs => (k.block i hi (Nat.lt_of_lt_of_le hs h.size)).trans (h.block i hi hs), fun i o hi ho => k.nc i o (h.nc i o hi ho) ho⟩
theorem EkS.drew (b : Nat) (W : World) : EkS b W W.drew := ⟨rfl, rfl, rfl, Nat.le_refl _, fun _ _ _ => rfl, fun _ _ h _ => h⟩
theorem EkS.only {b g : Nat} {W W' : World} (h : Only g W W') (hg : b ≤ g ∧ g < b + 3) (hc : IsC W g) : EkS b W W' :=
  ⟨h.os, h.tape, h.output, Nat.le_of_eq h.size.symm, fun k hk _ => h.block k (by omega), fun k o hk ho => (h.block k (fun e => hc.not (by rw [← e]; exact hk) ho)).trans hk⟩
theorem EkS.kf {b B : Nat} {W W' : World} (h : EkS b W W') : KeepsFrom B W W' := ⟨h.size, fun k o _ hk ho => h.nc k o hk ho⟩
theorem EkS.bel {b : Nat} {W W' : World} (h : EkS b W W') (c : Nat) (hc : c ≤ b) (hs : b + 9 ≤ W.heap.size) : Below c W W' := ⟨h.os, h.tape, h.output, h.size, fun k hk => h.block k (.inl (by omega)) (by omega)⟩
theorem Tb.gr {b : Nat} {W W' : World} (h : Tb W) (y : EkS b W W') (h7 : 7 < b) : Tb W' :=
  h.dg (B := 7 + 2) (gd := 7 + 1) ⟨y.os, y.tape, y.output, y.size, fun k hk hn => y.block k (.inl (by omega)) (by have := h.lt; omega), y.nc⟩ (by omega) (by omega)
set_option maxRecDepth 100000 in
set_option maxHeartbeats 8000000 in
theorem cparseT (kR : RightN15) : ParseC15 := by
  intro s hs q hq w ht
  refine (callsIn_wide (n := 10)).1 ?_
  have hro : Fence.wide.round = none := rfl
  have HT := Go.Lib.hid ht
  have HQ := Go.Lib.hid hq
  have HS := Go.Lib.hid hs
  have h7 := ht.lt
  clear ht hq hs
  refine callsIn_of_wp_marks Tryz.func8 rfl trivial ?_ hro
  simp only [Tryz.ntmps8, List.size_toArray, List.length_cons, List.length_nil, Nat.reduceAdd, Nat.reduceSub, Array.replicate_succ, Array.replicate_zero, List.push_toArray, List.append_toArray, List.nil_append, List.cons_append]
  refine wpIn_wide.2 ?_
  go_wp2_with (first
    | (go_at_call 20; refine (cnew15 _).mono ?_; rintro e w2 ⟨rfl, rfl⟩; dsimp only)
    | (go_at_call 21; refine (cseq15 s _).mono ?_; rintro e w2 ⟨rfl, rfl⟩; dsimp only))
  change Code.wp _ _ _ _ (paW w s)
  have PS := pa_start w s HT.out
  generalize paW w s = WB at *
  obtain ⟨b, hb⟩ : ∃ b, w.heap.size = b := ⟨_, rfl⟩
  simp only [World.size_alloc, hb, Nat.add_assoc, Nat.reduceAdd]
  rw [hb] at PS h7
  obtain ⟨PI, hsz, S0, S1, S2⟩ := PS
  refine (wpIn_wide (n := 10)).1 ?_
  refine wp_rangeC rfl (by decide) (gf := 48) (lb := #[.pointer (some ⟨b + 7, 0, none⟩), .pointer (some ⟨b + 6, 0, none⟩), .pointer (some ⟨b + 8, 0, none⟩)]) rfl trivial (enters_of Tryz.func48 (by kernel_rfl) rfl) (bs := b + 6) (by omega)
    (split_cell 9 (by decide) s (by have := HS.out; omega) WB (b + 6) S0 S1 S2) (fun h k => ⟨k.1.trans h.1, k.2.1.trans h.2.1, k.2.2.trans h.2.2⟩) (fun W l o' hl => ⟨World.putObj_heap_other (by omega), World.putObj_heap_other (by omega), World.putObj_heap_other (by omega)⟩) (fun _ => rfl)
    (PaI b w) (PaX b w) (by rw [hsz]; exact PaI.own h7) (fun c => by rw [hsz]; exact PaX.own h7 c) (PaI.st h7) (PaI.drew h7) PI (fun x => { tmps := #[.string s, undef, .pointer (some ⟨b, 0, none⟩), .pointer (some ⟨b + 1, 0, none⟩), .pointer (some ⟨b + 2, 0, none⟩), .pointer (some ⟨b + 4, 0, none⟩), .pointer (some ⟨b + 5, 0, none⟩), .string x.1, undef, .pointer (some ⟨b + 3, 0, none⟩), .string s, .func (.func 48) #[] #[.pointer (some ⟨b + 7, 0, none⟩), .pointer (some ⟨b + 6, 0, none⟩), .pointer (some ⟨b + 8, 0, none⟩)], .string x.1, undef, undef, undef, undef, undef, undef, undef, undef, undef, undef, undef, undef, undef, undef, undef, undef, undef, undef, undef, undef, undef, undef, undef, undef, undef], defers := [] }) ?assign ?body ?done ?stop
  case assign =>
    intro l x W K hK
    gi_wp2
    exact hK
  case body =>
    intro l pre x W hi hlen
    rw [hsz]
    obtain ⟨c, p, hd, hz, hl⟩ := hi.dr
    have hfew := hi.few
    have c50 := hi.b5.cell 0 rfl
    have f50 := hi.b5.frozen 0
    have c40 := hi.b4.cell 0 rfl
    have hf4 : (Fence.wide.inRound l).fn 22 := trivial
    have h1m : 1 ≤ 10 - 1 - 1 := by decide
    have h8m : 1 ≤ 8 := by decide
    have hf5 : Fence.wide.fn 22 := trivial
    have hrest : ∀ rest, linesP (lnX (pre ++ [x]) ++ rest) 0 cfD = linesP (txB x.1 :: rest) pre.length c := fun rest => by
      rw [← hl]
      simp [lnX]
    have hln : (pre ++ [x]).length = pre.length + 1 := by simp
    obtain ⟨n, hn⟩ : ∃ n, pre.length = n := ⟨_, rfl⟩
    have b5 := hi.b5
    rw [hn] at hfew c50 hrest hz b5 hln
    have HO : Only (b + 5) W (W.setCell ⟨b + 5, 0, none⟩ (.int .i64 ((n : Int) + 1))) := Only.refl.set 0 _
    have x5 : Bxo (W.setCell ⟨b + 5, 0, none⟩ (.int .i64 ((n : Int) + 1))) (b + 5) 3 [.int .i64 ((n : Int) + 1)] := b5.set 0 _
    have d1 := hd.gro HO.gro (by omega) (norow_low hd (by omega))
    have t1 := hi.tb.gro HO.gro (by omega)
    have x0 := hi.b0.only HO (by omega)
    have x1 := hi.b1.only HO (by omega)
    have x2 := hi.b2.only HO (by omega)
    have x4 := hi.b4.only HO (by omega)
    have bl1 := hi.bel.trans (HO.below (show b ≤ b + 5 by omega))
    have sz1 : b + 9 ≤ (W.setCell ⟨b + 5, 0, none⟩ (.int .i64 ((n : Int) + 1))).heap.size := by rw [HO.size]; exact hi.sz
    have kf1 : KeepsFrom (b + 9) W (W.setCell ⟨b + 5, 0, none⟩ (.int .i64 ((n : Int) + 1))) := ⟨Nat.le_of_eq HO.size.symm, fun k o _ hk ho => (Dg.ofOnly (B := b) HO ⟨_, _, b5⟩).nc k o hk ho⟩
    have kp1 : KpS (b + 6) W (W.setCell ⟨b + 5, 0, none⟩ (.int .i64 ((n : Int) + 1))) := ⟨HO.block _ (by omega), HO.block _ (by omega), HO.block _ (by omega)⟩
    have D1 := Go.Lib.hid d1
    have T1 := Go.Lib.hid t1
    have X0 := Go.Lib.hid x0
    have X1 := Go.Lib.hid x1
    have X2 := Go.Lib.hid x2
    have X4 := Go.Lib.hid x4
    have X5 := Go.Lib.hid x5
    have BL1 := Go.Lib.hid bl1
    have SZ1 := Go.Lib.hid sz1
    have KF1 := Go.Lib.hid kf1
    have KP1 := Go.Lib.hid kp1
    have HZ := Go.Lib.hid hz
    have HR := Go.Lib.hid hrest
    have HLN := Go.Lib.hid hln
    clear hd hz hl hi b5 d1 t1 x0 x1 x2 x4 x5 bl1 sz1 kf1 kp1 hrest HO hn hlen hln
    have n0 : (0 : Int) ≤ (n : Int) := by omega
    have e1 : IntKind.i64.wrap ((n : Int) + 1) = (n : Int) + 1 := IntWalk.i64_in _ (by omega)
    by_cases h512 : n = 512
    · have t1 : (512 : Int) < (n : Int) + 1 := by omega
      have HX : Hid (∀ rest, linesP (lnX (pre ++ [x]) ++ rest) 0 cfD = (cf0, 12, (n : Int) + 1)) := Go.Lib.hid (fun rest => by
        rw [HR.out rest, linesP, if_pos (.inl (by omega))])
      clear h512
      gi_wp2
      generalize W.setCell ⟨b + 5, 0, none⟩ (.int .i64 ((n : Int) + 1)) = WS at *
      have c5S := X5.out.cell 0 rfl
      have X0S := X0
      have X1S := X1
      have X2S := X2
      have X5S := X5
      have kf := KF1.out
      have bel := BL1
      have sz := SZ1
      have tb := T1
      try simp only [Act.put, List.setIfInBounds_toArray, List.set_cons_zero, List.set_cons_succ]
      refine wpIn_region_any (by kernel_rfl) ?_
      change wpAnyIn _ _ _ _ _ _ _ _ _ (World.drew _)
      refine wpAnyIn_ready (rs := [0, 1]) (by kernel_rfl) (by simp) (AllReadyIn.cons (o := ⟨some 17, _, _, _, _, _⟩) rfl (fun Kc hKc => ?_) (AllReadyIn.cons (o := ⟨some 18, _, _, _, _, _⟩) rfl (fun Kc hKc => ?_) AllReadyIn.nil))
      ·
        rw [if_pos (by rfl)]
        go_simp
        refine hKc _ _ ?_
        clear hKc Kc
        try simp only [Act.put, List.setIfInBounds_toArray, List.set_cons_zero, List.set_cons_succ]
        refine wpAnyIn_ready (rs := [1, 2]) (by kernel_rfl) (by simp) (AllReadyIn.cons (o := ⟨some 18, _, _, _, _, _⟩) rfl (fun Kc hKc => ?_) (AllReadyIn.cons (o := ⟨none, _, _, _, _, _⟩) rfl (fun Kc hKc => ?_) AllReadyIn.nil))
        ·
          rw [if_pos (by rfl)]
          go_simp
          refine hKc _ _ ?_
          clear hKc Kc
          try simp only [Act.put, List.setIfInBounds_toArray, List.set_cons_zero, List.set_cons_succ]
          refine wpAnyIn_ready (rs := [2]) (by kernel_rfl) (by simp) (AllReadyIn.cons (o := ⟨none, _, _, _, _, _⟩) rfl (fun Kc hKc => ?_) AllReadyIn.nil)
          rw [if_pos (by rfl)]
          refine inr_store_any 27 _ _ rfl b 0 27 _ (cfL cf0 cfm0) _ rfl rfl rfl X0S.out.drew info_cf (by show 0 + 10 ≤ 10; omega) (by intro u hu; first | (rw [List.mem_singleton.1 hu]; rfl) | exact cf0_one u hu) ?_; intro wA hb ho; have X0A := Go.Lib.hid (show Bxo wA b 27 (cfL cf0 cfm0) from hb); have X1A := Go.Lib.hid (X1S.out.drew.only ho (by omega)); have X2A := Go.Lib.hid (X2S.out.drew.only ho (by omega)); have X5A := Go.Lib.hid (X5S.out.drew.only ho (by omega)); have c5A := X5A.out.cell 0 rfl; have ZA : Hid (EkS b WS wA) := Go.Lib.hid ((EkS.drew b WS).trans (EkS.only ho (by omega) ⟨_, _, X0S.out.drew⟩)); clear ho hb
          refine hKc _ _ ?_
          clear hKc Kc
          try simp only [Act.put, List.setIfInBounds_toArray, List.set_cons_zero, List.set_cons_succ]
          refine wpAnyIn_ready (rs := [3]) (by kernel_rfl) (by simp) (AllReadyIn.cons (o := ⟨none, _, _, _, _, _⟩) rfl (fun Kc hKc => ?_) AllReadyIn.nil)
          rw [if_pos (by rfl)]
          refine inr_store_any 30 _ _ rfl (b + 1) 0 30 _ [.int .i64 12] _ rfl rfl rfl X1A.out info_er15 (by show 0 + 1 ≤ 1; omega) (by intro u hu; first | (rw [List.mem_singleton.1 hu]; rfl) | exact cf0_one u hu) ?_; intro wB hb ho; have X0B := Go.Lib.hid (X0A.out.only ho (by omega)); have X1B := Go.Lib.hid (show Bxo wB (b + 1) 30 [.int .i64 12] from hb); have X2B := Go.Lib.hid (X2A.out.only ho (by omega)); have X5B := Go.Lib.hid (X5A.out.only ho (by omega)); have c5B := X5B.out.cell 0 rfl; have ZB : Hid (EkS b WS wB) := Go.Lib.hid (ZA.out.trans (EkS.only ho (by omega) ⟨_, _, X1A.out⟩)); clear ho hb
          refine hKc _ _ ?_
          clear hKc Kc
          try simp only [Act.put, List.setIfInBounds_toArray, List.set_cons_zero, List.set_cons_succ]
          refine wpAnyIn_ready (rs := [4]) (by kernel_rfl) (by simp) (AllReadyIn.cons (o := ⟨none, _, _, _, _, _⟩) rfl (fun Kc hKc => ?_) AllReadyIn.nil)
          rw [if_pos (by rfl)]
          refine inr_store_any 3 _ _ rfl (b + 2) 0 3 _ [.int .i64 ((n : Int) + 1)] _ rfl rfl rfl X2B.out info_i1 (by show 0 + 1 ≤ 1; omega) (by intro u hu; first | (rw [List.mem_singleton.1 hu]; rfl) | exact cf0_one u hu) ?_; intro wC hb ho; have X0C := Go.Lib.hid (X0B.out.only ho (by omega)); have X1C := Go.Lib.hid (X1B.out.only ho (by omega)); have X2C := Go.Lib.hid (show Bxo wC (b + 2) 3 [.int .i64 ((n : Int) + 1)] from hb); have X5C := Go.Lib.hid (X5B.out.only ho (by omega)); have c5C := X5C.out.cell 0 rfl; have ZC : Hid (EkS b WS wC) := Go.Lib.hid (ZB.out.trans (EkS.only ho (by omega) ⟨_, _, X2B.out⟩)); clear ho hb
          refine hKc _ _ ?_
          clear hKc Kc
          try simp only [Act.put, List.setIfInBounds_toArray, List.set_cons_zero, List.set_cons_succ]
          refine wpAnyIn_done (by kernel_rfl) ?_ _
          gi_wp2
          exact ⟨(kf.trans ZC.out.kf), ⟨rfl, ⟨12, (n : Int) + 1, X0C.out, X1C.out, X2C.out, HX.out⟩, bel.out.trans (ZC.out.bel b (Nat.le_refl _) sz.out), Nat.le_trans sz.out ZC.out.size, tb.out.gr ZC.out h7⟩⟩
        ·
          rw [if_pos (by rfl)]
          refine inr_store_any 27 _ _ rfl b 0 27 _ (cfL cf0 cfm0) _ rfl rfl rfl X0S.out.drew info_cf (by show 0 + 10 ≤ 10; omega) (by intro u hu; first | (rw [List.mem_singleton.1 hu]; rfl) | exact cf0_one u hu) ?_; intro wA hb ho; have X0A := Go.Lib.hid (show Bxo wA b 27 (cfL cf0 cfm0) from hb); have X1A := Go.Lib.hid (X1S.out.drew.only ho (by omega)); have X2A := Go.Lib.hid (X2S.out.drew.only ho (by omega)); have X5A := Go.Lib.hid (X5S.out.drew.only ho (by omega)); have c5A := X5A.out.cell 0 rfl; have ZA : Hid (EkS b WS wA) := Go.Lib.hid ((EkS.drew b WS).trans (EkS.only ho (by omega) ⟨_, _, X0S.out.drew⟩)); clear ho hb
          refine hKc _ _ ?_
          clear hKc Kc
          try simp only [Act.put, List.setIfInBounds_toArray, List.set_cons_zero, List.set_cons_succ]
          refine wpAnyIn_ready (rs := [1, 3]) (by kernel_rfl) (by simp) (AllReadyIn.cons (o := ⟨some 18, _, _, _, _, _⟩) rfl (fun Kc hKc => ?_) (AllReadyIn.cons (o := ⟨none, _, _, _, _, _⟩) rfl (fun Kc hKc => ?_) AllReadyIn.nil))
          ·
            rw [if_pos (by rfl)]
            go_simp
            refine hKc _ _ ?_
            clear hKc Kc
            try simp only [Act.put, List.setIfInBounds_toArray, List.set_cons_zero, List.set_cons_succ]
            refine wpAnyIn_ready (rs := [3]) (by kernel_rfl) (by simp) (AllReadyIn.cons (o := ⟨none, _, _, _, _, _⟩) rfl (fun Kc hKc => ?_) AllReadyIn.nil)
            rw [if_pos (by rfl)]
            refine inr_store_any 30 _ _ rfl (b + 1) 0 30 _ [.int .i64 12] _ rfl rfl rfl X1A.out info_er15 (by show 0 + 1 ≤ 1; omega) (by intro u hu; first | (rw [List.mem_singleton.1 hu]; rfl) | exact cf0_one u hu) ?_; intro wB hb ho; have X0B := Go.Lib.hid (X0A.out.only ho (by omega)); have X1B := Go.Lib.hid (show Bxo wB (b + 1) 30 [.int .i64 12] from hb); have X2B := Go.Lib.hid (X2A.out.only ho (by omega)); have X5B := Go.Lib.hid (X5A.out.only ho (by omega)); have c5B := X5B.out.cell 0 rfl; have ZB : Hid (EkS b WS wB) := Go.Lib.hid (ZA.out.trans (EkS.only ho (by omega) ⟨_, _, X1A.out⟩)); clear ho hb
            refine hKc _ _ ?_
            clear hKc Kc
            try simp only [Act.put, List.setIfInBounds_toArray, List.set_cons_zero, List.set_cons_succ]
            refine wpAnyIn_ready (rs := [4]) (by kernel_rfl) (by simp) (AllReadyIn.cons (o := ⟨none, _, _, _, _, _⟩) rfl (fun Kc hKc => ?_) AllReadyIn.nil)
            rw [if_pos (by rfl)]
            refine inr_store_any 3 _ _ rfl (b + 2) 0 3 _ [.int .i64 ((n : Int) + 1)] _ rfl rfl rfl X2B.out info_i1 (by show 0 + 1 ≤ 1; omega) (by intro u hu; first | (rw [List.mem_singleton.1 hu]; rfl) | exact cf0_one u hu) ?_; intro wC hb ho; have X0C := Go.Lib.hid (X0B.out.only ho (by omega)); have X1C := Go.Lib.hid (X1B.out.only ho (by omega)); have X2C := Go.Lib.hid (show Bxo wC (b + 2) 3 [.int .i64 ((n : Int) + 1)] from hb); have X5C := Go.Lib.hid (X5B.out.only ho (by omega)); have c5C := X5C.out.cell 0 rfl; have ZC : Hid (EkS b WS wC) := Go.Lib.hid (ZB.out.trans (EkS.only ho (by omega) ⟨_, _, X2B.out⟩)); clear ho hb
            refine hKc _ _ ?_
            clear hKc Kc
            try simp only [Act.put, List.setIfInBounds_toArray, List.set_cons_zero, List.set_cons_succ]
            refine wpAnyIn_done (by kernel_rfl) ?_ _
            gi_wp2
            exact ⟨(kf.trans ZC.out.kf), ⟨rfl, ⟨12, (n : Int) + 1, X0C.out, X1C.out, X2C.out, HX.out⟩, bel.out.trans (ZC.out.bel b (Nat.le_refl _) sz.out), Nat.le_trans sz.out ZC.out.size, tb.out.gr ZC.out h7⟩⟩
          ·
            rw [if_pos (by rfl)]
            refine inr_store_any 30 _ _ rfl (b + 1) 0 30 _ [.int .i64 12] _ rfl rfl rfl X1A.out info_er15 (by show 0 + 1 ≤ 1; omega) (by intro u hu; first | (rw [List.mem_singleton.1 hu]; rfl) | exact cf0_one u hu) ?_; intro wB hb ho; have X0B := Go.Lib.hid (X0A.out.only ho (by omega)); have X1B := Go.Lib.hid (show Bxo wB (b + 1) 30 [.int .i64 12] from hb); have X2B := Go.Lib.hid (X2A.out.only ho (by omega)); have X5B := Go.Lib.hid (X5A.out.only ho (by omega)); have c5B := X5B.out.cell 0 rfl; have ZB : Hid (EkS b WS wB) := Go.Lib.hid (ZA.out.trans (EkS.only ho (by omega) ⟨_, _, X1A.out⟩)); clear ho hb
            refine hKc _ _ ?_
            clear hKc Kc
            try simp only [Act.put, List.setIfInBounds_toArray, List.set_cons_zero, List.set_cons_succ]
            refine wpAnyIn_ready (rs := [1]) (by kernel_rfl) (by simp) (AllReadyIn.cons (o := ⟨some 18, _, _, _, _, _⟩) rfl (fun Kc hKc => ?_) AllReadyIn.nil)
            rw [if_pos (by rfl)]
            go_simp
            refine hKc _ _ ?_
            clear hKc Kc
            try simp only [Act.put, List.setIfInBounds_toArray, List.set_cons_zero, List.set_cons_succ]
            refine wpAnyIn_ready (rs := [4]) (by kernel_rfl) (by simp) (AllReadyIn.cons (o := ⟨none, _, _, _, _, _⟩) rfl (fun Kc hKc => ?_) AllReadyIn.nil)
            rw [if_pos (by rfl)]
            refine inr_store_any 3 _ _ rfl (b + 2) 0 3 _ [.int .i64 ((n : Int) + 1)] _ rfl rfl rfl X2B.out info_i1 (by show 0 + 1 ≤ 1; omega) (by intro u hu; first | (rw [List.mem_singleton.1 hu]; rfl) | exact cf0_one u hu) ?_; intro wC hb ho; have X0C := Go.Lib.hid (X0B.out.only ho (by omega)); have X1C := Go.Lib.hid (X1B.out.only ho (by omega)); have X2C := Go.Lib.hid (show Bxo wC (b + 2) 3 [.int .i64 ((n : Int) + 1)] from hb); have X5C := Go.Lib.hid (X5B.out.only ho (by omega)); have c5C := X5C.out.cell 0 rfl; have ZC : Hid (EkS b WS wC) := Go.Lib.hid (ZB.out.trans (EkS.only ho (by omega) ⟨_, _, X2B.out⟩)); clear ho hb
            refine hKc _ _ ?_
            clear hKc Kc
            try simp only [Act.put, List.setIfInBounds_toArray, List.set_cons_zero, List.set_cons_succ]
            refine wpAnyIn_done (by kernel_rfl) ?_ _
            gi_wp2
            exact ⟨(kf.trans ZC.out.kf), ⟨rfl, ⟨12, (n : Int) + 1, X0C.out, X1C.out, X2C.out, HX.out⟩, bel.out.trans (ZC.out.bel b (Nat.le_refl _) sz.out), Nat.le_trans sz.out ZC.out.size, tb.out.gr ZC.out h7⟩⟩
      ·
        rw [if_pos (by rfl)]
        go_simp
        refine hKc _ _ ?_
        clear hKc Kc
        try simp only [Act.put, List.setIfInBounds_toArray, List.set_cons_zero, List.set_cons_succ]
        refine wpAnyIn_ready (rs := [0]) (by kernel_rfl) (by simp) (AllReadyIn.cons (o := ⟨some 17, _, _, _, _, _⟩) rfl (fun Kc hKc => ?_) AllReadyIn.nil)
        rw [if_pos (by rfl)]
        go_simp
        refine hKc _ _ ?_
        clear hKc Kc
        try simp only [Act.put, List.setIfInBounds_toArray, List.set_cons_zero, List.set_cons_succ]
        refine wpAnyIn_ready (rs := [2]) (by kernel_rfl) (by simp) (AllReadyIn.cons (o := ⟨none, _, _, _, _, _⟩) rfl (fun Kc hKc => ?_) AllReadyIn.nil)
        rw [if_pos (by rfl)]
        refine inr_store_any 27 _ _ rfl b 0 27 _ (cfL cf0 cfm0) _ rfl rfl rfl X0S.out.drew info_cf (by show 0 + 10 ≤ 10; omega) (by intro u hu; first | (rw [List.mem_singleton.1 hu]; rfl) | exact cf0_one u hu) ?_; intro wA hb ho; have X0A := Go.Lib.hid (show Bxo wA b 27 (cfL cf0 cfm0) from hb); have X1A := Go.Lib.hid (X1S.out.drew.only ho (by omega)); have X2A := Go.Lib.hid (X2S.out.drew.only ho (by omega)); have X5A := Go.Lib.hid (X5S.out.drew.only ho (by omega)); have c5A := X5A.out.cell 0 rfl; have ZA : Hid (EkS b WS wA) := Go.Lib.hid ((EkS.drew b WS).trans (EkS.only ho (by omega) ⟨_, _, X0S.out.drew⟩)); clear ho hb
        refine hKc _ _ ?_
        clear hKc Kc
        try simp only [Act.put, List.setIfInBounds_toArray, List.set_cons_zero, List.set_cons_succ]
        refine wpAnyIn_ready (rs := [3]) (by kernel_rfl) (by simp) (AllReadyIn.cons (o := ⟨none, _, _, _, _, _⟩) rfl (fun Kc hKc => ?_) AllReadyIn.nil)
        rw [if_pos (by rfl)]
        refine inr_store_any 30 _ _ rfl (b + 1) 0 30 _ [.int .i64 12] _ rfl rfl rfl X1A.out info_er15 (by show 0 + 1 ≤ 1; omega) (by intro u hu; first | (rw [List.mem_singleton.1 hu]; rfl) | exact cf0_one u hu) ?_; intro wB hb ho; have X0B := Go.Lib.hid (X0A.out.only ho (by omega)); have X1B := Go.Lib.hid (show Bxo wB (b + 1) 30 [.int .i64 12] from hb); have X2B := Go.Lib.hid (X2A.out.only ho (by omega)); have X5B := Go.Lib.hid (X5A.out.only ho (by omega)); have c5B := X5B.out.cell 0 rfl; have ZB : Hid (EkS b WS wB) := Go.Lib.hid (ZA.out.trans (EkS.only ho (by omega) ⟨_, _, X1A.out⟩)); clear ho hb
        refine hKc _ _ ?_
        clear hKc Kc
        try simp only [Act.put, List.setIfInBounds_toArray, List.set_cons_zero, List.set_cons_succ]
        refine wpAnyIn_ready (rs := [4]) (by kernel_rfl) (by simp) (AllReadyIn.cons (o := ⟨none, _, _, _, _, _⟩) rfl (fun Kc hKc => ?_) AllReadyIn.nil)
        rw [if_pos (by rfl)]
        refine inr_store_any 3 _ _ rfl (b + 2) 0 3 _ [.int .i64 ((n : Int) + 1)] _ rfl rfl rfl X2B.out info_i1 (by show 0 + 1 ≤ 1; omega) (by intro u hu; first | (rw [List.mem_singleton.1 hu]; rfl) | exact cf0_one u hu) ?_; intro wC hb ho; have X0C := Go.Lib.hid (X0B.out.only ho (by omega)); have X1C := Go.Lib.hid (X1B.out.only ho (by omega)); have X2C := Go.Lib.hid (show Bxo wC (b + 2) 3 [.int .i64 ((n : Int) + 1)] from hb); have X5C := Go.Lib.hid (X5B.out.only ho (by omega)); have c5C := X5C.out.cell 0 rfl; have ZC : Hid (EkS b WS wC) := Go.Lib.hid (ZB.out.trans (EkS.only ho (by omega) ⟨_, _, X2B.out⟩)); clear ho hb
        refine hKc _ _ ?_
        clear hKc Kc
        try simp only [Act.put, List.setIfInBounds_toArray, List.set_cons_zero, List.set_cons_succ]
        refine wpAnyIn_done (by kernel_rfl) ?_ _
        gi_wp2
        exact ⟨(kf.trans ZC.out.kf), ⟨rfl, ⟨12, (n : Int) + 1, X0C.out, X1C.out, X2C.out, HX.out⟩, bel.out.trans (ZC.out.bel b (Nat.le_refl _) sz.out), Nat.le_trans sz.out ZC.out.size, tb.out.gr ZC.out h7⟩⟩
    · have t1 : ¬ (512 : Int) < (n : Int) + 1 := by omega
      obtain ⟨L, hL⟩ : ∃ L, lineP c (txB x.1) = L := ⟨_, rfl⟩
      have hstep : x.1.size ≤ 256 → ∀ rest, linesP (lnX (pre ++ [x]) ++ rest) 0 cfD = afterL L n rest := fun hs rest => by
        rw [HR.out rest, lines_next (by rw [txB_len]; omega), hL]
      have h513 : SzC c 1000 := ⟨by have := HZ.out.a; omega, by have := HZ.out.b; omega, by have := HZ.out.c; omega⟩
      have HST := Go.Lib.hid hstep
      have HL2 := Go.Lib.hid hL
      have c4S := X4.out.cell 0 rfl
      clear hstep hL
      by_cases h256 : 256 < x.1.size
      · have HX : Hid (∀ rest, linesP (lnX (pre ++ [x]) ++ rest) 0 cfD = (cf0, 12, (n : Int) + 1)) := Go.Lib.hid (fun rest => by
          rw [HR.out rest, linesP, if_pos (.inr (by rw [txB_len]; exact h256))])
        gi_wp2_with (gi_at_call 22; refine (CallsIn.inRound l (callsIn_wide.2 (cread15 (b + 9) (b + 3) c p x.1 x.2 _ h513 D1.out T1.out))).mono ?_; rintro e w3 hrl; obtain ⟨⟨k, rfl, hk1, _⟩, dg3, tb3⟩ := hrl; obtain rfl : k = 12 := hk1 (by rw [txB_len]; exact h256); have DG3 := Go.Lib.hid dg3; have TB3 := Go.Lib.hid tb3; clear hk1 dg3 tb3; dsimp only)
        have g := DG3.out
        have c5S := (X5.out.dg g (by omega) (by omega)).cell 0 rfl
        have X0S := Go.Lib.hid (X0.out.dg g (by omega) (by omega))
        have X1S := Go.Lib.hid (X1.out.dg g (by omega) (by omega))
        have X2S := Go.Lib.hid (X2.out.dg g (by omega) (by omega))
        have X5S := Go.Lib.hid (X5.out.dg g (by omega) (by omega))
        have kf : KeepsFrom (b + 9) W w3 := KF1.out.trans ⟨g.size, fun k o _ hk ho => g.nc k o hk ho⟩
        have bel : Hid (Below b w w3) := Go.Lib.hid (BL1.out.trans (g.below (by omega) (by omega)))
        have sz : Hid (b + 9 ≤ w3.heap.size) := Go.Lib.hid (Nat.le_trans SZ1.out g.size)
        have tb := TB3
        clear g
        try simp only [Act.put, List.setIfInBounds_toArray, List.set_cons_zero, List.set_cons_succ]
        refine wpIn_region_any (by kernel_rfl) ?_
        change wpAnyIn _ _ _ _ _ _ _ _ _ (World.drew _)
        refine wpAnyIn_ready (rs := [0, 1, 2]) (by kernel_rfl) (by simp) (AllReadyIn.cons (o := ⟨some 24, _, _, _, _, _⟩) rfl (fun Kc hKc => ?_) (AllReadyIn.cons (o := ⟨some 25, _, _, _, _, _⟩) rfl (fun Kc hKc => ?_) (AllReadyIn.cons (o := ⟨some 26, _, _, _, _, _⟩) rfl (fun Kc hKc => ?_) AllReadyIn.nil)))
        ·
          rw [if_pos (by rfl)]
          go_simp
          refine hKc _ _ ?_
          clear hKc Kc
          try simp only [Act.put, List.setIfInBounds_toArray, List.set_cons_zero, List.set_cons_succ]
          refine wpAnyIn_ready (rs := [1, 2, 3]) (by kernel_rfl) (by simp) (AllReadyIn.cons (o := ⟨some 25, _, _, _, _, _⟩) rfl (fun Kc hKc => ?_) (AllReadyIn.cons (o := ⟨some 26, _, _, _, _, _⟩) rfl (fun Kc hKc => ?_) (AllReadyIn.cons (o := ⟨none, _, _, _, _, _⟩) rfl (fun Kc hKc => ?_) AllReadyIn.nil)))
          ·
            rw [if_pos (by rfl)]
            go_simp
            refine hKc _ _ ?_
            clear hKc Kc
            try simp only [Act.put, List.setIfInBounds_toArray, List.set_cons_zero, List.set_cons_succ]
            refine wpAnyIn_ready (rs := [2, 3]) (by kernel_rfl) (by simp) (AllReadyIn.cons (o := ⟨some 26, _, _, _, _, _⟩) rfl (fun Kc hKc => ?_) (AllReadyIn.cons (o := ⟨none, _, _, _, _, _⟩) rfl (fun Kc hKc => ?_) AllReadyIn.nil))
            ·
              rw [if_pos (by rfl)]
              go_simp
              refine hKc _ _ ?_
              clear hKc Kc
              try simp only [Act.put, List.setIfInBounds_toArray, List.set_cons_zero, List.set_cons_succ]
              refine wpAnyIn_ready (rs := [3]) (by kernel_rfl) (by simp) (AllReadyIn.cons (o := ⟨none, _, _, _, _, _⟩) rfl (fun Kc hKc => ?_) AllReadyIn.nil)
              rw [if_pos (by rfl)]
              refine inr_store_any 27 _ _ rfl b 0 27 _ (cfL cf0 cfm0) _ rfl rfl rfl X0S.out.drew info_cf (by show 0 + 10 ≤ 10; omega) (by intro u hu; first | (rw [List.mem_singleton.1 hu]; rfl) | exact cf0_one u hu) ?_; intro wA hb ho; have X0A := Go.Lib.hid (show Bxo wA b 27 (cfL cf0 cfm0) from hb); have X1A := Go.Lib.hid (X1S.out.drew.only ho (by omega)); have X2A := Go.Lib.hid (X2S.out.drew.only ho (by omega)); have X5A := Go.Lib.hid (X5S.out.drew.only ho (by omega)); have c5A := X5A.out.cell 0 rfl; have ZA : Hid (EkS b w3 wA) := Go.Lib.hid ((EkS.drew b w3).trans (EkS.only ho (by omega) ⟨_, _, X0S.out.drew⟩)); clear ho hb
              refine hKc _ _ ?_
              clear hKc Kc
              try simp only [Act.put, List.setIfInBounds_toArray, List.set_cons_zero, List.set_cons_succ]
              refine wpAnyIn_ready (rs := [4]) (by kernel_rfl) (by simp) (AllReadyIn.cons (o := ⟨none, _, _, _, _, _⟩) rfl (fun Kc hKc => ?_) AllReadyIn.nil)
              rw [if_pos (by rfl)]
              refine inr_store_any 30 _ _ rfl (b + 1) 0 30 _ [.int .i64 12] _ rfl rfl rfl X1A.out info_er15 (by show 0 + 1 ≤ 1; omega) (by intro u hu; first | (rw [List.mem_singleton.1 hu]; rfl) | exact cf0_one u hu) ?_; intro wB hb ho; have X0B := Go.Lib.hid (X0A.out.only ho (by omega)); have X1B := Go.Lib.hid (show Bxo wB (b + 1) 30 [.int .i64 12] from hb); have X2B := Go.Lib.hid (X2A.out.only ho (by omega)); have X5B := Go.Lib.hid (X5A.out.only ho (by omega)); have c5B := X5B.out.cell 0 rfl; have ZB : Hid (EkS b w3 wB) := Go.Lib.hid (ZA.out.trans (EkS.only ho (by omega) ⟨_, _, X1A.out⟩)); clear ho hb
              refine hKc _ _ ?_
              clear hKc Kc
              try simp only [Act.put, List.setIfInBounds_toArray, List.set_cons_zero, List.set_cons_succ]
              refine wpAnyIn_ready (rs := [5]) (by kernel_rfl) (by simp) (AllReadyIn.cons (o := ⟨none, _, _, _, _, _⟩) rfl (fun Kc hKc => ?_) AllReadyIn.nil)
              rw [if_pos (by rfl)]
              refine inr_store_any 3 _ _ rfl (b + 2) 0 3 _ [.int .i64 ((n : Int) + 1)] _ rfl rfl rfl X2B.out info_i1 (by show 0 + 1 ≤ 1; omega) (by intro u hu; first | (rw [List.mem_singleton.1 hu]; rfl) | exact cf0_one u hu) ?_; intro wC hb ho; have X0C := Go.Lib.hid (X0B.out.only ho (by omega)); have X1C := Go.Lib.hid (X1B.out.only ho (by omega)); have X2C := Go.Lib.hid (show Bxo wC (b + 2) 3 [.int .i64 ((n : Int) + 1)] from hb); have X5C := Go.Lib.hid (X5B.out.only ho (by omega)); have c5C := X5C.out.cell 0 rfl; have ZC : Hid (EkS b w3 wC) := Go.Lib.hid (ZB.out.trans (EkS.only ho (by omega) ⟨_, _, X2B.out⟩)); clear ho hb
              refine hKc _ _ ?_
              clear hKc Kc
              try simp only [Act.put, List.setIfInBounds_toArray, List.set_cons_zero, List.set_cons_succ]
              refine wpAnyIn_done (by kernel_rfl) ?_ _
              gi_wp2
              exact ⟨(kf.trans ZC.out.kf), ⟨rfl, ⟨12, (n : Int) + 1, X0C.out, X1C.out, X2C.out, HX.out⟩, bel.out.trans (ZC.out.bel b (Nat.le_refl _) sz.out), Nat.le_trans sz.out ZC.out.size, tb.out.gr ZC.out h7⟩⟩
            ·
              rw [if_pos (by rfl)]
              refine inr_store_any 27 _ _ rfl b 0 27 _ (cfL cf0 cfm0) _ rfl rfl rfl X0S.out.drew info_cf (by show 0 + 10 ≤ 10; omega) (by intro u hu; first | (rw [List.mem_singleton.1 hu]; rfl) | exact cf0_one u hu) ?_; intro wA hb ho; have X0A := Go.Lib.hid (show Bxo wA b 27 (cfL cf0 cfm0) from hb); have X1A := Go.Lib.hid (X1S.out.drew.only ho (by omega)); have X2A := Go.Lib.hid (X2S.out.drew.only ho (by omega)); have X5A := Go.Lib.hid (X5S.out.drew.only ho (by omega)); have c5A := X5A.out.cell 0 rfl; have ZA : Hid (EkS b w3 wA) := Go.Lib.hid ((EkS.drew b w3).trans (EkS.only ho (by omega) ⟨_, _, X0S.out.drew⟩)); clear ho hb
              refine hKc _ _ ?_
              clear hKc Kc
              try simp only [Act.put, List.setIfInBounds_toArray, List.set_cons_zero, List.set_cons_succ]
              refine wpAnyIn_ready (rs := [2, 4]) (by kernel_rfl) (by simp) (AllReadyIn.cons (o := ⟨some 26, _, _, _, _, _⟩) rfl (fun Kc hKc => ?_) (AllReadyIn.cons (o := ⟨none, _, _, _, _, _⟩) rfl (fun Kc hKc => ?_) AllReadyIn.nil))
              ·
                rw [if_pos (by rfl)]
                go_simp
                refine hKc _ _ ?_
                clear hKc Kc
                try simp only [Act.put, List.setIfInBounds_toArray, List.set_cons_zero, List.set_cons_succ]
                refine wpAnyIn_ready (rs := [4]) (by kernel_rfl) (by simp) (AllReadyIn.cons (o := ⟨none, _, _, _, _, _⟩) rfl (fun Kc hKc => ?_) AllReadyIn.nil)
                rw [if_pos (by rfl)]
                refine inr_store_any 30 _ _ rfl (b + 1) 0 30 _ [.int .i64 12] _ rfl rfl rfl X1A.out info_er15 (by show 0 + 1 ≤ 1; omega) (by intro u hu; first | (rw [List.mem_singleton.1 hu]; rfl) | exact cf0_one u hu) ?_; intro wB hb ho; have X0B := Go.Lib.hid (X0A.out.only ho (by omega)); have X1B := Go.Lib.hid (show Bxo wB (b + 1) 30 [.int .i64 12] from hb); have X2B := Go.Lib.hid (X2A.out.only ho (by omega)); have X5B := Go.Lib.hid (X5A.out.only ho (by omega)); have c5B := X5B.out.cell 0 rfl; have ZB : Hid (EkS b w3 wB) := Go.Lib.hid (ZA.out.trans (EkS.only ho (by omega) ⟨_, _, X1A.out⟩)); clear ho hb
                refine hKc _ _ ?_
                clear hKc Kc
                try simp only [Act.put, List.setIfInBounds_toArray, List.set_cons_zero, List.set_cons_succ]
                refine wpAnyIn_ready (rs := [5]) (by kernel_rfl) (by simp) (AllReadyIn.cons (o := ⟨none, _, _, _, _, _⟩) rfl (fun Kc hKc => ?_) AllReadyIn.nil)
                rw [if_pos (by rfl)]
                refine inr_store_any 3 _ _ rfl (b + 2) 0 3 _ [.int .i64 ((n : Int) + 1)] _ rfl rfl rfl X2B.out info_i1 (by show 0 + 1 ≤ 1; omega) (by intro u hu; first | (rw [List.mem_singleton.1 hu]; rfl) | exact cf0_one u hu) ?_; intro wC hb ho; have X0C := Go.Lib.hid (X0B.out.only ho (by omega)); have X1C := Go.Lib.hid (X1B.out.only ho (by omega)); have X2C := Go.Lib.hid (show Bxo wC (b + 2) 3 [.int .i64 ((n : Int) + 1)] from hb); have X5C := Go.Lib.hid (X5B.out.only ho (by omega)); have c5C := X5C.out.cell 0 rfl; have ZC : Hid (EkS b w3 wC) := Go.Lib.hid (ZB.out.trans (EkS.only ho (by omega) ⟨_, _, X2B.out⟩)); clear ho hb
                refine hKc _ _ ?_
                clear hKc Kc
                try simp only [Act.put, List.setIfInBounds_toArray, List.set_cons_zero, List.set_cons_succ]
                refine wpAnyIn_done (by kernel_rfl) ?_ _
                gi_wp2
                exact ⟨(kf.trans ZC.out.kf), ⟨rfl, ⟨12, (n : Int) + 1, X0C.out, X1C.out, X2C.out, HX.out⟩, bel.out.trans (ZC.out.bel b (Nat.le_refl _) sz.out), Nat.le_trans sz.out ZC.out.size, tb.out.gr ZC.out h7⟩⟩
              ·
                rw [if_pos (by rfl)]
                refine inr_store_any 30 _ _ rfl (b + 1) 0 30 _ [.int .i64 12] _ rfl rfl rfl X1A.out info_er15 (by show 0 + 1 ≤ 1; omega) (by intro u hu; first | (rw [List.mem_singleton.1 hu]; rfl) | exact cf0_one u hu) ?_; intro wB hb ho; have X0B := Go.Lib.hid (X0A.out.only ho (by omega)); have X1B := Go.Lib.hid (show Bxo wB (b + 1) 30 [.int .i64 12] from hb); have X2B := Go.Lib.hid (X2A.out.only ho (by omega)); have X5B := Go.Lib.hid (X5A.out.only ho (by omega)); have c5B := X5B.out.cell 0 rfl; have ZB : Hid (EkS b w3 wB) := Go.Lib.hid (ZA.out.trans (EkS.only ho (by omega) ⟨_, _, X1A.out⟩)); clear ho hb
                refine hKc _ _ ?_
                clear hKc Kc
                try simp only [Act.put, List.setIfInBounds_toArray, List.set_cons_zero, List.set_cons_succ]
                refine wpAnyIn_ready (rs := [2]) (by kernel_rfl) (by simp) (AllReadyIn.cons (o := ⟨some 26, _, _, _, _, _⟩) rfl (fun Kc hKc => ?_) AllReadyIn.nil)
                rw [if_pos (by rfl)]
                go_simp
                refine hKc _ _ ?_
                clear hKc Kc
                try simp only [Act.put, List.setIfInBounds_toArray, List.set_cons_zero, List.set_cons_succ]
                refine wpAnyIn_ready (rs := [5]) (by kernel_rfl) (by simp) (AllReadyIn.cons (o := ⟨none, _, _, _, _, _⟩) rfl (fun Kc hKc => ?_) AllReadyIn.nil)
                rw [if_pos (by rfl)]
                refine inr_store_any 3 _ _ rfl (b + 2) 0 3 _ [.int .i64 ((n : Int) + 1)] _ rfl rfl rfl X2B.out info_i1 (by show 0 + 1 ≤ 1; omega) (by intro u hu; first | (rw [List.mem_singleton.1 hu]; rfl) | exact cf0_one u hu) ?_; intro wC hb ho; have X0C := Go.Lib.hid (X0B.out.only ho (by omega)); have X1C := Go.Lib.hid (X1B.out.only ho (by omega)); have X2C := Go.Lib.hid (show Bxo wC (b + 2) 3 [.int .i64 ((n : Int) + 1)] from hb); have X5C := Go.Lib.hid (X5B.out.only ho (by omega)); have c5C := X5C.out.cell 0 rfl; have ZC : Hid (EkS b w3 wC) := Go.Lib.hid (ZB.out.trans (EkS.only ho (by omega) ⟨_, _, X2B.out⟩)); clear ho hb
                refine hKc _ _ ?_
                clear hKc Kc
                try simp only [Act.put, List.setIfInBounds_toArray, List.set_cons_zero, List.set_cons_succ]
                refine wpAnyIn_done (by kernel_rfl) ?_ _
                gi_wp2
                exact ⟨(kf.trans ZC.out.kf), ⟨rfl, ⟨12, (n : Int) + 1, X0C.out, X1C.out, X2C.out, HX.out⟩, bel.out.trans (ZC.out.bel b (Nat.le_refl _) sz.out), Nat.le_trans sz.out ZC.out.size, tb.out.gr ZC.out h7⟩⟩
          ·
            rw [if_pos (by rfl)]
            go_simp
            refine hKc _ _ ?_
            clear hKc Kc
            try simp only [Act.put, List.setIfInBounds_toArray, List.set_cons_zero, List.set_cons_succ]
            refine wpAnyIn_ready (rs := [1, 3]) (by kernel_rfl) (by simp) (AllReadyIn.cons (o := ⟨some 25, _, _, _, _, _⟩) rfl (fun Kc hKc => ?_) (AllReadyIn.cons (o := ⟨none, _, _, _, _, _⟩) rfl (fun Kc hKc => ?_) AllReadyIn.nil))
            ·
              rw [if_pos (by rfl)]
              go_simp
              refine hKc _ _ ?_
              clear hKc Kc
              try simp only [Act.put, List.setIfInBounds_toArray, List.set_cons_zero, List.set_cons_succ]
              refine wpAnyIn_ready (rs := [3]) (by kernel_rfl) (by simp) (AllReadyIn.cons (o := ⟨none, _, _, _, _, _⟩) rfl (fun Kc hKc => ?_) AllReadyIn.nil)
              rw [if_pos (by rfl)]
              refine inr_store_any 27 _ _ rfl b 0 27 _ (cfL cf0 cfm0) _ rfl rfl rfl X0S.out.drew info_cf (by show 0 + 10 ≤ 10; omega) (by intro u hu; first | (rw [List.mem_singleton.1 hu]; rfl) | exact cf0_one u hu) ?_; intro wA hb ho; have X0A := Go.Lib.hid (show Bxo wA b 27 (cfL cf0 cfm0) from hb); have X1A := Go.Lib.hid (X1S.out.drew.only ho (by omega)); have X2A := Go.Lib.hid (X2S.out.drew.only ho (by omega)); have X5A := Go.Lib.hid (X5S.out.drew.only ho (by omega)); have c5A := X5A.out.cell 0 rfl; have ZA : Hid (EkS b w3 wA) := Go.Lib.hid ((EkS.drew b w3).trans (EkS.only ho (by omega) ⟨_, _, X0S.out.drew⟩)); clear ho hb
              refine hKc _ _ ?_
              clear hKc Kc
              try simp only [Act.put, List.setIfInBounds_toArray, List.set_cons_zero, List.set_cons_succ]
              refine wpAnyIn_ready (rs := [4]) (by kernel_rfl) (by simp) (AllReadyIn.cons (o := ⟨none, _, _, _, _, _⟩) rfl (fun Kc hKc => ?_) AllReadyIn.nil)
              rw [if_pos (by rfl)]
              refine inr_store_any 30 _ _ rfl (b + 1) 0 30 _ [.int .i64 12] _ rfl rfl rfl X1A.out info_er15 (by show 0 + 1 ≤ 1; omega) (by intro u hu; first | (rw [List.mem_singleton.1 hu]; rfl) | exact cf0_one u hu) ?_; intro wB hb ho; have X0B := Go.Lib.hid (X0A.out.only ho (by omega)); have X1B := Go.Lib.hid (show Bxo wB (b + 1) 30 [.int .i64 12] from hb); have X2B := Go.Lib.hid (X2A.out.only ho (by omega)); have X5B := Go.Lib.hid (X5A.out.only ho (by omega)); have c5B := X5B.out.cell 0 rfl; have ZB : Hid (EkS b w3 wB) := Go.Lib.hid (ZA.out.trans (EkS.only ho (by omega) ⟨_, _, X1A.out⟩)); clear ho hb
              refine hKc _ _ ?_
              clear hKc Kc
              try simp only [Act.put, List.setIfInBounds_toArray, List.set_cons_zero, List.set_cons_succ]
              refine wpAnyIn_ready (rs := [5]) (by kernel_rfl) (by simp) (AllReadyIn.cons (o := ⟨none, _, _, _, _, _⟩) rfl (fun Kc hKc => ?_) AllReadyIn.nil)
              rw [if_pos (by rfl)]
              refine inr_store_any 3 _ _ rfl (b + 2) 0 3 _ [.int .i64 ((n : Int) + 1)] _ rfl rfl rfl X2B.out info_i1 (by show 0 + 1 ≤ 1; omega) (by intro u hu; first | (rw [List.mem_singleton.1 hu]; rfl) | exact cf0_one u hu) ?_; intro wC hb ho; have X0C := Go.Lib.hid (X0B.out.only ho (by omega)); have X1C := Go.Lib.hid (X1B.out.only ho (by omega)); have X2C := Go.Lib.hid (show Bxo wC (b + 2) 3 [.int .i64 ((n : Int) + 1)] from hb); have X5C := Go.Lib.hid (X5B.out.only ho (by omega)); have c5C := X5C.out.cell 0 rfl; have ZC : Hid (EkS b w3 wC) := Go.Lib.hid (ZB.out.trans (EkS.only ho (by omega) ⟨_, _, X2B.out⟩)); clear ho hb
              refine hKc _ _ ?_
              clear hKc Kc
              try simp only [Act.put, List.setIfInBounds_toArray, List.set_cons_zero, List.set_cons_succ]
              refine wpAnyIn_done (by kernel_rfl) ?_ _
              gi_wp2
              exact ⟨(kf.trans ZC.out.kf), ⟨rfl, ⟨12, (n : Int) + 1, X0C.out, X1C.out, X2C.out, HX.out⟩, bel.out.trans (ZC.out.bel b (Nat.le_refl _) sz.out), Nat.le_trans sz.out ZC.out.size, tb.out.gr ZC.out h7⟩⟩
            ·
              rw [if_pos (by rfl)]
              refine inr_store_any 27 _ _ rfl b 0 27 _ (cfL cf0 cfm0) _ rfl rfl rfl X0S.out.drew info_cf (by show 0 + 10 ≤ 10; omega) (by intro u hu; first | (rw [List.mem_singleton.1 hu]; rfl) | exact cf0_one u hu) ?_; intro wA hb ho; have X0A := Go.Lib.hid (show Bxo wA b 27 (cfL cf0 cfm0) from hb); have X1A := Go.Lib.hid (X1S.out.drew.only ho (by omega)); have X2A := Go.Lib.hid (X2S.out.drew.only ho (by omega)); have X5A := Go.Lib.hid (X5S.out.drew.only ho (by omega)); have c5A := X5A.out.cell 0 rfl; have ZA : Hid (EkS b w3 wA) := Go.Lib.hid ((EkS.drew b w3).trans (EkS.only ho (by omega) ⟨_, _, X0S.out.drew⟩)); clear ho hb
              refine hKc _ _ ?_
              clear hKc Kc
              try simp only [Act.put, List.setIfInBounds_toArray, List.set_cons_zero, List.set_cons_succ]
              refine wpAnyIn_ready (rs := [1]) (by kernel_rfl) (by simp) (AllReadyIn.cons (o := ⟨some 25, _, _, _, _, _⟩) rfl (fun Kc hKc => ?_) AllReadyIn.nil)
              rw [if_pos (by rfl)]
              go_simp
              refine hKc _ _ ?_
              clear hKc Kc
              try simp only [Act.put, List.setIfInBounds_toArray, List.set_cons_zero, List.set_cons_succ]
              refine wpAnyIn_ready (rs := [4]) (by kernel_rfl) (by simp) (AllReadyIn.cons (o := ⟨none, _, _, _, _, _⟩) rfl (fun Kc hKc => ?_) AllReadyIn.nil)
              rw [if_pos (by rfl)]
              refine inr_store_any 30 _ _ rfl (b + 1) 0 30 _ [.int .i64 12] _ rfl rfl rfl X1A.out info_er15 (by show 0 + 1 ≤ 1; omega) (by intro u hu; first | (rw [List.mem_singleton.1 hu]; rfl) | exact cf0_one u hu) ?_; intro wB hb ho; have X0B := Go.Lib.hid (X0A.out.only ho (by omega)); have X1B := Go.Lib.hid (show Bxo wB (b + 1) 30 [.int .i64 12] from hb); have X2B := Go.Lib.hid (X2A.out.only ho (by omega)); have X5B := Go.Lib.hid (X5A.out.only ho (by omega)); have c5B := X5B.out.cell 0 rfl; have ZB : Hid (EkS b w3 wB) := Go.Lib.hid (ZA.out.trans (EkS.only ho (by omega) ⟨_, _, X1A.out⟩)); clear ho hb
              refine hKc _ _ ?_
              clear hKc Kc
              try simp only [Act.put, List.setIfInBounds_toArray, List.set_cons_zero, List.set_cons_succ]
              refine wpAnyIn_ready (rs := [5]) (by kernel_rfl) (by simp) (AllReadyIn.cons (o := ⟨none, _, _, _, _, _⟩) rfl (fun Kc hKc => ?_) AllReadyIn.nil)
              rw [if_pos (by rfl)]
              refine inr_store_any 3 _ _ rfl (b + 2) 0 3 _ [.int .i64 ((n : Int) + 1)] _ rfl rfl rfl X2B.out info_i1 (by show 0 + 1 ≤ 1; omega) (by intro u hu; first | (rw [List.mem_singleton.1 hu]; rfl) | exact cf0_one u hu) ?_; intro wC hb ho; have X0C := Go.Lib.hid (X0B.out.only ho (by omega)); have X1C := Go.Lib.hid (X1B.out.only ho (by omega)); have X2C := Go.Lib.hid (show Bxo wC (b + 2) 3 [.int .i64 ((n : Int) + 1)] from hb); have X5C := Go.Lib.hid (X5B.out.only ho (by omega)); have c5C := X5C.out.cell 0 rfl; have ZC : Hid (EkS b w3 wC) := Go.Lib.hid (ZB.out.trans (EkS.only ho (by omega) ⟨_, _, X2B.out⟩)); clear ho hb
              refine hKc _ _ ?_
              clear hKc Kc
              try simp only [Act.put, List.setIfInBounds_toArray, List.set_cons_zero, List.set_cons_succ]
              refine wpAnyIn_done (by kernel_rfl) ?_ _
              gi_wp2
              exact ⟨(kf.trans ZC.out.kf), ⟨rfl, ⟨12, (n : Int) + 1, X0C.out, X1C.out, X2C.out, HX.out⟩, bel.out.trans (ZC.out.bel b (Nat.le_refl _) sz.out), Nat.le_trans sz.out ZC.out.size, tb.out.gr ZC.out h7⟩⟩
          ·
            rw [if_pos (by rfl)]
            refine inr_store_any 27 _ _ rfl b 0 27 _ (cfL cf0 cfm0) _ rfl rfl rfl X0S.out.drew info_cf (by show 0 + 10 ≤ 10; omega) (by intro u hu; first | (rw [List.mem_singleton.1 hu]; rfl) | exact cf0_one u hu) ?_; intro wA hb ho; have X0A := Go.Lib.hid (show Bxo wA b 27 (cfL cf0 cfm0) from hb); have X1A := Go.Lib.hid (X1S.out.drew.only ho (by omega)); have X2A := Go.Lib.hid (X2S.out.drew.only ho (by omega)); have X5A := Go.Lib.hid (X5S.out.drew.only ho (by omega)); have c5A := X5A.out.cell 0 rfl; have ZA : Hid (EkS b w3 wA) := Go.Lib.hid ((EkS.drew b w3).trans (EkS.only ho (by omega) ⟨_, _, X0S.out.drew⟩)); clear ho hb
            refine hKc _ _ ?_
            clear hKc Kc
            try simp only [Act.put, List.setIfInBounds_toArray, List.set_cons_zero, List.set_cons_succ]
            refine wpAnyIn_ready (rs := [1, 2]) (by kernel_rfl) (by simp) (AllReadyIn.cons (o := ⟨some 25, _, _, _, _, _⟩) rfl (fun Kc hKc => ?_) (AllReadyIn.cons (o := ⟨some 26, _, _, _, _, _⟩) rfl (fun Kc hKc => ?_) AllReadyIn.nil))
            ·
              rw [if_pos (by rfl)]
              go_simp
              refine hKc _ _ ?_
              clear hKc Kc
              try simp only [Act.put, List.setIfInBounds_toArray, List.set_cons_zero, List.set_cons_succ]
              refine wpAnyIn_ready (rs := [2, 4]) (by kernel_rfl) (by simp) (AllReadyIn.cons (o := ⟨some 26, _, _, _, _, _⟩) rfl (fun Kc hKc => ?_) (AllReadyIn.cons (o := ⟨none, _, _, _, _, _⟩) rfl (fun Kc hKc => ?_) AllReadyIn.nil))
              ·
                rw [if_pos (by rfl)]
                go_simp
                refine hKc _ _ ?_
                clear hKc Kc
                try simp only [Act.put, List.setIfInBounds_toArray, List.set_cons_zero, List.set_cons_succ]
                refine wpAnyIn_ready (rs := [4]) (by kernel_rfl) (by simp) (AllReadyIn.cons (o := ⟨none, _, _, _, _, _⟩) rfl (fun Kc hKc => ?_) AllReadyIn.nil)
                rw [if_pos (by rfl)]
                refine inr_store_any 30 _ _ rfl (b + 1) 0 30 _ [.int .i64 12] _ rfl rfl rfl X1A.out info_er15 (by show 0 + 1 ≤ 1; omega) (by intro u hu; first | (rw [List.mem_singleton.1 hu]; rfl) | exact cf0_one u hu) ?_; intro wB hb ho; have X0B := Go.Lib.hid (X0A.out.only ho (by omega)); have X1B := Go.Lib.hid (show Bxo wB (b + 1) 30 [.int .i64 12] from hb); have X2B := Go.Lib.hid (X2A.out.only ho (by omega)); have X5B := Go.Lib.hid (X5A.out.only ho (by omega)); have c5B := X5B.out.cell 0 rfl; have ZB : Hid (EkS b w3 wB) := Go.Lib.hid (ZA.out.trans (EkS.only ho (by omega) ⟨_, _, X1A.out⟩)); clear ho hb
                refine hKc _ _ ?_
                clear hKc Kc
                try simp only [Act.put, List.setIfInBounds_toArray, List.set_cons_zero, List.set_cons_succ]
                refine wpAnyIn_ready (rs := [5]) (by kernel_rfl) (by simp) (AllReadyIn.cons (o := ⟨none, _, _, _, _, _⟩) rfl (fun Kc hKc => ?_) AllReadyIn.nil)
                rw [if_pos (by rfl)]
                refine inr_store_any 3 _ _ rfl (b + 2) 0 3 _ [.int .i64 ((n : Int) + 1)] _ rfl rfl rfl X2B.out info_i1 (by show 0 + 1 ≤ 1; omega) (by intro u hu; first | (rw [List.mem_singleton.1 hu]; rfl) | exact cf0_one u hu) ?_; intro wC hb ho; have X0C := Go.Lib.hid (X0B.out.only ho (by omega)); have X1C := Go.Lib.hid (X1B.out.only ho (by omega)); have X2C := Go.Lib.hid (show Bxo wC (b + 2) 3 [.int .i64 ((n : Int) + 1)] from hb); have X5C := Go.Lib.hid (X5B.out.only ho (by omega)); have c5C := X5C.out.cell 0 rfl; have ZC : Hid (EkS b w3 wC) := Go.Lib.hid (ZB.out.trans (EkS.only ho (by omega) ⟨_, _, X2B.out⟩)); clear ho hb
                refine hKc _ _ ?_
                clear hKc Kc
                try simp only [Act.put, List.setIfInBounds_toArray, List.set_cons_zero, List.set_cons_succ]
                refine wpAnyIn_done (by kernel_rfl) ?_ _
                gi_wp2
                exact ⟨(kf.trans ZC.out.kf), ⟨rfl, ⟨12, (n : Int) + 1, X0C.out, X1C.out, X2C.out, HX.out⟩, bel.out.trans (ZC.out.bel b (Nat.le_refl _) sz.out), Nat.le_trans sz.out ZC.out.size, tb.out.gr ZC.out h7⟩⟩
              ·
                rw [if_pos (by rfl)]
                refine inr_store_any 30 _ _ rfl (b + 1) 0 30 _ [.int .i64 12] _ rfl rfl rfl X1A.out info_er15 (by show 0 + 1 ≤ 1; omega) (by intro u hu; first | (rw [List.mem_singleton.1 hu]; rfl) | exact cf0_one u hu) ?_; intro wB hb ho; have X0B := Go.Lib.hid (X0A.out.only ho (by omega)); have X1B := Go.Lib.hid (show Bxo wB (b + 1) 30 [.int .i64 12] from hb); have X2B := Go.Lib.hid (X2A.out.only ho (by omega)); have X5B := Go.Lib.hid (X5A.out.only ho (by omega)); have c5B := X5B.out.cell 0 rfl; have ZB : Hid (EkS b w3 wB) := Go.Lib.hid (ZA.out.trans (EkS.only ho (by omega) ⟨_, _, X1A.out⟩)); clear ho hb
                refine hKc _ _ ?_
                clear hKc Kc
                try simp only [Act.put, List.setIfInBounds_toArray, List.set_cons_zero, List.set_cons_succ]
                refine wpAnyIn_ready (rs := [2]) (by kernel_rfl) (by simp) (AllReadyIn.cons (o := ⟨some 26, _, _, _, _, _⟩) rfl (fun Kc hKc => ?_) AllReadyIn.nil)
                rw [if_pos (by rfl)]
                go_simp
                refine hKc _ _ ?_
                clear hKc Kc
                try simp only [Act.put, List.setIfInBounds_toArray, List.set_cons_zero, List.set_cons_succ]
                refine wpAnyIn_ready (rs := [5]) (by kernel_rfl) (by simp) (AllReadyIn.cons (o := ⟨none, _, _, _, _, _⟩) rfl (fun Kc hKc => ?_) AllReadyIn.nil)
                rw [if_pos (by rfl)]
                refine inr_store_any 3 _ _ rfl (b + 2) 0 3 _ [.int .i64 ((n : Int) + 1)] _ rfl rfl rfl X2B.out info_i1 (by show 0 + 1 ≤ 1; omega) (by intro u hu; first | (rw [List.mem_singleton.1 hu]; rfl) | exact cf0_one u hu) ?_; intro wC hb ho; have X0C := Go.Lib.hid (X0B.out.only ho (by omega)); have X1C := Go.Lib.hid (X1B.out.only ho (by omega)); have X2C := Go.Lib.hid (show Bxo wC (b + 2) 3 [.int .i64 ((n : Int) + 1)] from hb); have X5C := Go.Lib.hid (X5B.out.only ho (by omega)); have c5C := X5C.out.cell 0 rfl; have ZC : Hid (EkS b w3 wC) := Go.Lib.hid (ZB.out.trans (EkS.only ho (by omega) ⟨_, _, X2B.out⟩)); clear ho hb
                refine hKc _ _ ?_
                clear hKc Kc
                try simp only [Act.put, List.setIfInBounds_toArray, List.set_cons_zero, List.set_cons_succ]
                refine wpAnyIn_done (by kernel_rfl) ?_ _
                gi_wp2
                exact ⟨(kf.trans ZC.out.kf), ⟨rfl, ⟨12, (n : Int) + 1, X0C.out, X1C.out, X2C.out, HX.out⟩, bel.out.trans (ZC.out.bel b (Nat.le_refl _) sz.out), Nat.le_trans sz.out ZC.out.size, tb.out.gr ZC.out h7⟩⟩
            ·
              rw [if_pos (by rfl)]
              go_simp
              refine hKc _ _ ?_
              clear hKc Kc
              try simp only [Act.put, List.setIfInBounds_toArray, List.set_cons_zero, List.set_cons_succ]
              refine wpAnyIn_ready (rs := [1]) (by kernel_rfl) (by simp) (AllReadyIn.cons (o := ⟨some 25, _, _, _, _, _⟩) rfl (fun Kc hKc => ?_) AllReadyIn.nil)
              rw [if_pos (by rfl)]
              go_simp
              refine hKc _ _ ?_
              clear hKc Kc
              try simp only [Act.put, List.setIfInBounds_toArray, List.set_cons_zero, List.set_cons_succ]
              refine wpAnyIn_ready (rs := [4]) (by kernel_rfl) (by simp) (AllReadyIn.cons (o := ⟨none, _, _, _, _, _⟩) rfl (fun Kc hKc => ?_) AllReadyIn.nil)
              rw [if_pos (by rfl)]
              refine inr_store_any 30 _ _ rfl (b + 1) 0 30 _ [.int .i64 12] _ rfl rfl rfl X1A.out info_er15 (by show 0 + 1 ≤ 1; omega) (by intro u hu; first | (rw [List.mem_singleton.1 hu]; rfl) | exact cf0_one u hu) ?_; intro wB hb ho; have X0B := Go.Lib.hid (X0A.out.only ho (by omega)); have X1B := Go.Lib.hid (show Bxo wB (b + 1) 30 [.int .i64 12] from hb); have X2B := Go.Lib.hid (X2A.out.only ho (by omega)); have X5B := Go.Lib.hid (X5A.out.only ho (by omega)); have c5B := X5B.out.cell 0 rfl; have ZB : Hid (EkS b w3 wB) := Go.Lib.hid (ZA.out.trans (EkS.only ho (by omega) ⟨_, _, X1A.out⟩)); clear ho hb
              refine hKc _ _ ?_
              clear hKc Kc
              try simp only [Act.put, List.setIfInBounds_toArray, List.set_cons_zero, List.set_cons_succ]
              refine wpAnyIn_ready (rs := [5]) (by kernel_rfl) (by simp) (AllReadyIn.cons (o := ⟨none, _, _, _, _, _⟩) rfl (fun Kc hKc => ?_) AllReadyIn.nil)
              rw [if_pos (by rfl)]
              refine inr_store_any 3 _ _ rfl (b + 2) 0 3 _ [.int .i64 ((n : Int) + 1)] _ rfl rfl rfl X2B.out info_i1 (by show 0 + 1 ≤ 1; omega) (by intro u hu; first | (rw [List.mem_singleton.1 hu]; rfl) | exact cf0_one u hu) ?_; intro wC hb ho; have X0C := Go.Lib.hid (X0B.out.only ho (by omega)); have X1C := Go.Lib.hid (X1B.out.only ho (by omega)); have X2C := Go.Lib.hid (show Bxo wC (b + 2) 3 [.int .i64 ((n : Int) + 1)] from hb); have X5C := Go.Lib.hid (X5B.out.only ho (by omega)); have c5C := X5C.out.cell 0 rfl; have ZC : Hid (EkS b w3 wC) := Go.Lib.hid (ZB.out.trans (EkS.only ho (by omega) ⟨_, _, X2B.out⟩)); clear ho hb
              refine hKc _ _ ?_
              clear hKc Kc
              try simp only [Act.put, List.setIfInBounds_toArray, List.set_cons_zero, List.set_cons_succ]
              refine wpAnyIn_done (by kernel_rfl) ?_ _
              gi_wp2
              exact ⟨(kf.trans ZC.out.kf), ⟨rfl, ⟨12, (n : Int) + 1, X0C.out, X1C.out, X2C.out, HX.out⟩, bel.out.trans (ZC.out.bel b (Nat.le_refl _) sz.out), Nat.le_trans sz.out ZC.out.size, tb.out.gr ZC.out h7⟩⟩
        ·
          rw [if_pos (by rfl)]
          go_simp
          refine hKc _ _ ?_
          clear hKc Kc
          try simp only [Act.put, List.setIfInBounds_toArray, List.set_cons_zero, List.set_cons_succ]
          refine wpAnyIn_ready (rs := [0, 2]) (by kernel_rfl) (by simp) (AllReadyIn.cons (o := ⟨some 24, _, _, _, _, _⟩) rfl (fun Kc hKc => ?_) (AllReadyIn.cons (o := ⟨some 26, _, _, _, _, _⟩) rfl (fun Kc hKc => ?_) AllReadyIn.nil))
          ·
            rw [if_pos (by rfl)]
            go_simp
            refine hKc _ _ ?_
            clear hKc Kc
            try simp only [Act.put, List.setIfInBounds_toArray, List.set_cons_zero, List.set_cons_succ]
            refine wpAnyIn_ready (rs := [2, 3]) (by kernel_rfl) (by simp) (AllReadyIn.cons (o := ⟨some 26, _, _, _, _, _⟩) rfl (fun Kc hKc => ?_) (AllReadyIn.cons (o := ⟨none, _, _, _, _, _⟩) rfl (fun Kc hKc => ?_) AllReadyIn.nil))
            ·
              rw [if_pos (by rfl)]
              go_simp
              refine hKc _ _ ?_
              clear hKc Kc
              try simp only [Act.put, List.setIfInBounds_toArray, List.set_cons_zero, List.set_cons_succ]
              refine wpAnyIn_ready (rs := [3]) (by kernel_rfl) (by simp) (AllReadyIn.cons (o := ⟨none, _, _, _, _, _⟩) rfl (fun Kc hKc => ?_) AllReadyIn.nil)
              rw [if_pos (by rfl)]
              refine inr_store_any 27 _ _ rfl b 0 27 _ (cfL cf0 cfm0) _ rfl rfl rfl X0S.out.drew info_cf (by show 0 + 10 ≤ 10; omega) (by intro u hu; first | (rw [List.mem_singleton.1 hu]; rfl) | exact cf0_one u hu) ?_; intro wA hb ho; have X0A := Go.Lib.hid (show Bxo wA b 27 (cfL cf0 cfm0) from hb); have X1A := Go.Lib.hid (X1S.out.drew.only ho (by omega)); have X2A := Go.Lib.hid (X2S.out.drew.only ho (by omega)); have X5A := Go.Lib.hid (X5S.out.drew.only ho (by omega)); have c5A := X5A.out.cell 0 rfl; have ZA : Hid (EkS b w3 wA) := Go.Lib.hid ((EkS.drew b w3).trans (EkS.only ho (by omega) ⟨_, _, X0S.out.drew⟩)); clear ho hb
              refine hKc _ _ ?_
              clear hKc Kc
              try simp only [Act.put, List.setIfInBounds_toArray, List.set_cons_zero, List.set_cons_succ]
              refine wpAnyIn_ready (rs := [4]) (by kernel_rfl) (by simp) (AllReadyIn.cons (o := ⟨none, _, _, _, _, _⟩) rfl (fun Kc hKc => ?_) AllReadyIn.nil)
              rw [if_pos (by rfl)]
              refine inr_store_any 30 _ _ rfl (b + 1) 0 30 _ [.int .i64 12] _ rfl rfl rfl X1A.out info_er15 (by show 0 + 1 ≤ 1; omega) (by intro u hu; first | (rw [List.mem_singleton.1 hu]; rfl) | exact cf0_one u hu) ?_; intro wB hb ho; have X0B := Go.Lib.hid (X0A.out.only ho (by omega)); have X1B := Go.Lib.hid (show Bxo wB (b + 1) 30 [.int .i64 12] from hb); have X2B := Go.Lib.hid (X2A.out.only ho (by omega)); have X5B := Go.Lib.hid (X5A.out.only ho (by omega)); have c5B := X5B.out.cell 0 rfl; have ZB : Hid (EkS b w3 wB) := Go.Lib.hid (ZA.out.trans (EkS.only ho (by omega) ⟨_, _, X1A.out⟩)); clear ho hb
              refine hKc _ _ ?_
              clear hKc Kc
              try simp only [Act.put, List.setIfInBounds_toArray, List.set_cons_zero, List.set_cons_succ]
              refine wpAnyIn_ready (rs := [5]) (by kernel_rfl) (by simp) (AllReadyIn.cons (o := ⟨none, _, _, _, _, _⟩) rfl (fun Kc hKc => ?_) AllReadyIn.nil)
              rw [if_pos (by rfl)]
              refine inr_store_any 3 _ _ rfl (b + 2) 0 3 _ [.int .i64 ((n : Int) + 1)] _ rfl rfl rfl X2B.out info_i1 (by show 0 + 1 ≤ 1; omega) (by intro u hu; first | (rw [List.mem_singleton.1 hu]; rfl) | exact cf0_one u hu) ?_; intro wC hb ho; have X0C := Go.Lib.hid (X0B.out.only ho (by omega)); have X1C := Go.Lib.hid (X1B.out.only ho (by omega)); have X2C := Go.Lib.hid (show Bxo wC (b + 2) 3 [.int .i64 ((n : Int) + 1)] from hb); have X5C := Go.Lib.hid (X5B.out.only ho (by omega)); have c5C := X5C.out.cell 0 rfl; have ZC : Hid (EkS b w3 wC) := Go.Lib.hid (ZB.out.trans (EkS.only ho (by omega) ⟨_, _, X2B.out⟩)); clear ho hb
              refine hKc _ _ ?_
              clear hKc Kc
              try simp only [Act.put, List.setIfInBounds_toArray, List.set_cons_zero, List.set_cons_succ]
              refine wpAnyIn_done (by kernel_rfl) ?_ _
              gi_wp2
              exact ⟨(kf.trans ZC.out.kf), ⟨rfl, ⟨12, (n : Int) + 1, X0C.out, X1C.out, X2C.out, HX.out⟩, bel.out.trans (ZC.out.bel b (Nat.le_refl _) sz.out), Nat.le_trans sz.out ZC.out.size, tb.out.gr ZC.out h7⟩⟩
            ·
              rw [if_pos (by rfl)]
              refine inr_store_any 27 _ _ rfl b 0 27 _ (cfL cf0 cfm0) _ rfl rfl rfl X0S.out.drew info_cf (by show 0 + 10 ≤ 10; omega) (by intro u hu; first | (rw [List.mem_singleton.1 hu]; rfl) | exact cf0_one u hu) ?_; intro wA hb ho; have X0A := Go.Lib.hid (show Bxo wA b 27 (cfL cf0 cfm0) from hb); have X1A := Go.Lib.hid (X1S.out.drew.only ho (by omega)); have X2A := Go.Lib.hid (X2S.out.drew.only ho (by omega)); have X5A := Go.Lib.hid (X5S.out.drew.only ho (by omega)); have c5A := X5A.out.cell 0 rfl; have ZA : Hid (EkS b w3 wA) := Go.Lib.hid ((EkS.drew b w3).trans (EkS.only ho (by omega) ⟨_, _, X0S.out.drew⟩)); clear ho hb
              refine hKc _ _ ?_
              clear hKc Kc
              try simp only [Act.put, List.setIfInBounds_toArray, List.set_cons_zero, List.set_cons_succ]
              refine wpAnyIn_ready (rs := [2, 4]) (by kernel_rfl) (by simp) (AllReadyIn.cons (o := ⟨some 26, _, _, _, _, _⟩) rfl (fun Kc hKc => ?_) (AllReadyIn.cons (o := ⟨none, _, _, _, _, _⟩) rfl (fun Kc hKc => ?_) AllReadyIn.nil))
              ·
                rw [if_pos (by rfl)]
                go_simp
                refine hKc _ _ ?_
                clear hKc Kc
                try simp only [Act.put, List.setIfInBounds_toArray, List.set_cons_zero, List.set_cons_succ]
                refine wpAnyIn_ready (rs := [4]) (by kernel_rfl) (by simp) (AllReadyIn.cons (o := ⟨none, _, _, _, _, _⟩) rfl (fun Kc hKc => ?_) AllReadyIn.nil)
                rw [if_pos (by rfl)]
                refine inr_store_any 30 _ _ rfl (b + 1) 0 30 _ [.int .i64 12] _ rfl rfl rfl X1A.out info_er15 (by show 0 + 1 ≤ 1; omega) (by intro u hu; first | (rw [List.mem_singleton.1 hu]; rfl) | exact cf0_one u hu) ?_; intro wB hb ho; have X0B := Go.Lib.hid (X0A.out.only ho (by omega)); have X1B := Go.Lib.hid (show Bxo wB (b + 1) 30 [.int .i64 12] from hb); have X2B := Go.Lib.hid (X2A.out.only ho (by omega)); have X5B := Go.Lib.hid (X5A.out.only ho (by omega)); have c5B := X5B.out.cell 0 rfl; have ZB : Hid (EkS b w3 wB) := Go.Lib.hid (ZA.out.trans (EkS.only ho (by omega) ⟨_, _, X1A.out⟩)); clear ho hb
                refine hKc _ _ ?_
                clear hKc Kc
                try simp only [Act.put, List.setIfInBounds_toArray, List.set_cons_zero, List.set_cons_succ]
                refine wpAnyIn_ready (rs := [5]) (by kernel_rfl) (by simp) (AllReadyIn.cons (o := ⟨none, _, _, _, _, _⟩) rfl (fun Kc hKc => ?_) AllReadyIn.nil)
                rw [if_pos (by rfl)]
                refine inr_store_any 3 _ _ rfl (b + 2) 0 3 _ [.int .i64 ((n : Int) + 1)] _ rfl rfl rfl X2B.out info_i1 (by show 0 + 1 ≤ 1; omega) (by intro u hu; first | (rw [List.mem_singleton.1 hu]; rfl) | exact cf0_one u hu) ?_; intro wC hb ho; have X0C := Go.Lib.hid (X0B.out.only ho (by omega)); have X1C := Go.Lib.hid (X1B.out.only ho (by omega)); have X2C := Go.Lib.hid (show Bxo wC (b + 2) 3 [.int .i64 ((n : Int) + 1)] from hb); have X5C := Go.Lib.hid (X5B.out.only ho (by omega)); have c5C := X5C.out.cell 0 rfl; have ZC : Hid (EkS b w3 wC) := Go.Lib.hid (ZB.out.trans (EkS.only ho (by omega) ⟨_, _, X2B.out⟩)); clear ho hb
                refine hKc _ _ ?_
                clear hKc Kc
                try simp only [Act.put, List.setIfInBounds_toArray, List.set_cons_zero, List.set_cons_succ]
                refine wpAnyIn_done (by kernel_rfl) ?_ _
                gi_wp2
                exact ⟨(kf.trans ZC.out.kf), ⟨rfl, ⟨12, (n : Int) + 1, X0C.out, X1C.out, X2C.out, HX.out⟩, bel.out.trans (ZC.out.bel b (Nat.le_refl _) sz.out), Nat.le_trans sz.out ZC.out.size, tb.out.gr ZC.out h7⟩⟩
              ·
                rw [if_pos (by rfl)]
                refine inr_store_any 30 _ _ rfl (b + 1) 0 30 _ [.int .i64 12] _ rfl rfl rfl X1A.out info_er15 (by show 0 + 1 ≤ 1; omega) (by intro u hu; first | (rw [List.mem_singleton.1 hu]; rfl) | exact cf0_one u hu) ?_; intro wB hb ho; have X0B := Go.Lib.hid (X0A.out.only ho (by omega)); have X1B := Go.Lib.hid (show Bxo wB (b + 1) 30 [.int .i64 12] from hb); have X2B := Go.Lib.hid (X2A.out.only ho (by omega)); have X5B := Go.Lib.hid (X5A.out.only ho (by omega)); have c5B := X5B.out.cell 0 rfl; have ZB : Hid (EkS b w3 wB) := Go.Lib.hid (ZA.out.trans (EkS.only ho (by omega) ⟨_, _, X1A.out⟩)); clear ho hb
                refine hKc _ _ ?_
                clear hKc Kc
                try simp only [Act.put, List.setIfInBounds_toArray, List.set_cons_zero, List.set_cons_succ]
                refine wpAnyIn_ready (rs := [2]) (by kernel_rfl) (by simp) (AllReadyIn.cons (o := ⟨some 26, _, _, _, _, _⟩) rfl (fun Kc hKc => ?_) AllReadyIn.nil)
                rw [if_pos (by rfl)]
                go_simp
                refine hKc _ _ ?_
                clear hKc Kc
                try simp only [Act.put, List.setIfInBounds_toArray, List.set_cons_zero, List.set_cons_succ]
                refine wpAnyIn_ready (rs := [5]) (by kernel_rfl) (by simp) (AllReadyIn.cons (o := ⟨none, _, _, _, _, _⟩) rfl (fun Kc hKc => ?_) AllReadyIn.nil)
                rw [if_pos (by rfl)]
                refine inr_store_any 3 _ _ rfl (b + 2) 0 3 _ [.int .i64 ((n : Int) + 1)] _ rfl rfl rfl X2B.out info_i1 (by show 0 + 1 ≤ 1; omega) (by intro u hu; first | (rw [List.mem_singleton.1 hu]; rfl) | exact cf0_one u hu) ?_; intro wC hb ho; have X0C := Go.Lib.hid (X0B.out.only ho (by omega)); have X1C := Go.Lib.hid (X1B.out.only ho (by omega)); have X2C := Go.Lib.hid (show Bxo wC (b + 2) 3 [.int .i64 ((n : Int) + 1)] from hb); have X5C := Go.Lib.hid (X5B.out.only ho (by omega)); have c5C := X5C.out.cell 0 rfl; have ZC : Hid (EkS b w3 wC) := Go.Lib.hid (ZB.out.trans (EkS.only ho (by omega) ⟨_, _, X2B.out⟩)); clear ho hb
                refine hKc _ _ ?_
                clear hKc Kc
                try simp only [Act.put, List.setIfInBounds_toArray, List.set_cons_zero, List.set_cons_succ]
                refine wpAnyIn_done (by kernel_rfl) ?_ _
                gi_wp2
                exact ⟨(kf.trans ZC.out.kf), ⟨rfl, ⟨12, (n : Int) + 1, X0C.out, X1C.out, X2C.out, HX.out⟩, bel.out.trans (ZC.out.bel b (Nat.le_refl _) sz.out), Nat.le_trans sz.out ZC.out.size, tb.out.gr ZC.out h7⟩⟩
          ·
            rw [if_pos (by rfl)]
            go_simp
            refine hKc _ _ ?_
            clear hKc Kc
            try simp only [Act.put, List.setIfInBounds_toArray, List.set_cons_zero, List.set_cons_succ]
            refine wpAnyIn_ready (rs := [0]) (by kernel_rfl) (by simp) (AllReadyIn.cons (o := ⟨some 24, _, _, _, _, _⟩) rfl (fun Kc hKc => ?_) AllReadyIn.nil)
            rw [if_pos (by rfl)]
            go_simp
            refine hKc _ _ ?_
            clear hKc Kc
            try simp only [Act.put, List.setIfInBounds_toArray, List.set_cons_zero, List.set_cons_succ]
            refine wpAnyIn_ready (rs := [3]) (by kernel_rfl) (by simp) (AllReadyIn.cons (o := ⟨none, _, _, _, _, _⟩) rfl (fun Kc hKc => ?_) AllReadyIn.nil)
            rw [if_pos (by rfl)]
            refine inr_store_any 27 _ _ rfl b 0 27 _ (cfL cf0 cfm0) _ rfl rfl rfl X0S.out.drew info_cf (by show 0 + 10 ≤ 10; omega) (by intro u hu; first | (rw [List.mem_singleton.1 hu]; rfl) | exact cf0_one u hu) ?_; intro wA hb ho; have X0A := Go.Lib.hid (show Bxo wA b 27 (cfL cf0 cfm0) from hb); have X1A := Go.Lib.hid (X1S.out.drew.only ho (by omega)); have X2A := Go.Lib.hid (X2S.out.drew.only ho (by omega)); have X5A := Go.Lib.hid (X5S.out.drew.only ho (by omega)); have c5A := X5A.out.cell 0 rfl; have ZA : Hid (EkS b w3 wA) := Go.Lib.hid ((EkS.drew b w3).trans (EkS.only ho (by omega) ⟨_, _, X0S.out.drew⟩)); clear ho hb
            refine hKc _ _ ?_
            clear hKc Kc
            try simp only [Act.put, List.setIfInBounds_toArray, List.set_cons_zero, List.set_cons_succ]
            refine wpAnyIn_ready (rs := [4]) (by kernel_rfl) (by simp) (AllReadyIn.cons (o := ⟨none, _, _, _, _, _⟩) rfl (fun Kc hKc => ?_) AllReadyIn.nil)
            rw [if_pos (by rfl)]
            refine inr_store_any 30 _ _ rfl (b + 1) 0 30 _ [.int .i64 12] _ rfl rfl rfl X1A.out info_er15 (by show 0 + 1 ≤ 1; omega) (by intro u hu; first | (rw [List.mem_singleton.1 hu]; rfl) | exact cf0_one u hu) ?_; intro wB hb ho; have X0B := Go.Lib.hid (X0A.out.only ho (by omega)); have X1B := Go.Lib.hid (show Bxo wB (b + 1) 30 [.int .i64 12] from hb); have X2B := Go.Lib.hid (X2A.out.only ho (by omega)); have X5B := Go.Lib.hid (X5A.out.only ho (by omega)); have c5B := X5B.out.cell 0 rfl; have ZB : Hid (EkS b w3 wB) := Go.Lib.hid (ZA.out.trans (EkS.only ho (by omega) ⟨_, _, X1A.out⟩)); clear ho hb
            refine hKc _ _ ?_
            clear hKc Kc
            try simp only [Act.put, List.setIfInBounds_toArray, List.set_cons_zero, List.set_cons_succ]
            refine wpAnyIn_ready (rs := [5]) (by kernel_rfl) (by simp) (AllReadyIn.cons (o := ⟨none, _, _, _, _, _⟩) rfl (fun Kc hKc => ?_) AllReadyIn.nil)
            rw [if_pos (by rfl)]
            refine inr_store_any 3 _ _ rfl (b + 2) 0 3 _ [.int .i64 ((n : Int) + 1)] _ rfl rfl rfl X2B.out info_i1 (by show 0 + 1 ≤ 1; omega) (by intro u hu; first | (rw [List.mem_singleton.1 hu]; rfl) | exact cf0_one u hu) ?_; intro wC hb ho; have X0C := Go.Lib.hid (X0B.out.only ho (by omega)); have X1C := Go.Lib.hid (X1B.out.only ho (by omega)); have X2C := Go.Lib.hid (show Bxo wC (b + 2) 3 [.int .i64 ((n : Int) + 1)] from hb); have X5C := Go.Lib.hid (X5B.out.only ho (by omega)); have c5C := X5C.out.cell 0 rfl; have ZC : Hid (EkS b w3 wC) := Go.Lib.hid (ZB.out.trans (EkS.only ho (by omega) ⟨_, _, X2B.out⟩)); clear ho hb
            refine hKc _ _ ?_
            clear hKc Kc
            try simp only [Act.put, List.setIfInBounds_toArray, List.set_cons_zero, List.set_cons_succ]
            refine wpAnyIn_done (by kernel_rfl) ?_ _
            gi_wp2
            exact ⟨(kf.trans ZC.out.kf), ⟨rfl, ⟨12, (n : Int) + 1, X0C.out, X1C.out, X2C.out, HX.out⟩, bel.out.trans (ZC.out.bel b (Nat.le_refl _) sz.out), Nat.le_trans sz.out ZC.out.size, tb.out.gr ZC.out h7⟩⟩
        ·
          rw [if_pos (by rfl)]
          go_simp
          refine hKc _ _ ?_
          clear hKc Kc
          try simp only [Act.put, List.setIfInBounds_toArray, List.set_cons_zero, List.set_cons_succ]
          refine wpAnyIn_ready (rs := [0, 1]) (by kernel_rfl) (by simp) (AllReadyIn.cons (o := ⟨some 24, _, _, _, _, _⟩) rfl (fun Kc hKc => ?_) (AllReadyIn.cons (o := ⟨some 25, _, _, _, _, _⟩) rfl (fun Kc hKc => ?_) AllReadyIn.nil))
          ·
            rw [if_pos (by rfl)]
            go_simp
            refine hKc _ _ ?_
            clear hKc Kc
            try simp only [Act.put, List.setIfInBounds_toArray, List.set_cons_zero, List.set_cons_succ]
            refine wpAnyIn_ready (rs := [1, 3]) (by kernel_rfl) (by simp) (AllReadyIn.cons (o := ⟨some 25, _, _, _, _, _⟩) rfl (fun Kc hKc => ?_) (AllReadyIn.cons (o := ⟨none, _, _, _, _, _⟩) rfl (fun Kc hKc => ?_) AllReadyIn.nil))
            ·
              rw [if_pos (by rfl)]
              go_simp
              refine hKc _ _ ?_
              clear hKc Kc
              try simp only [Act.put, List.setIfInBounds_toArray, List.set_cons_zero, List.set_cons_succ]
              refine wpAnyIn_ready (rs := [3]) (by kernel_rfl) (by simp) (AllReadyIn.cons (o := ⟨none, _, _, _, _, _⟩) rfl (fun Kc hKc => ?_) AllReadyIn.nil)
              rw [if_pos (by rfl)]
              refine inr_store_any 27 _ _ rfl b 0 27 _ (cfL cf0 cfm0) _ rfl rfl rfl X0S.out.drew info_cf (by show 0 + 10 ≤ 10; omega) (by intro u hu; first | (rw [List.mem_singleton.1 hu]; rfl) | exact cf0_one u hu) ?_; intro wA hb ho; have X0A := Go.Lib.hid (show Bxo wA b 27 (cfL cf0 cfm0) from hb); have X1A := Go.Lib.hid (X1S.out.drew.only ho (by omega)); have X2A := Go.Lib.hid (X2S.out.drew.only ho (by omega)); have X5A := Go.Lib.hid (X5S.out.drew.only ho (by omega)); have c5A := X5A.out.cell 0 rfl; have ZA : Hid (EkS b w3 wA) := Go.Lib.hid ((EkS.drew b w3).trans (EkS.only ho (by omega) ⟨_, _, X0S.out.drew⟩)); clear ho hb
              refine hKc _ _ ?_
              clear hKc Kc
              try simp only [Act.put, List.setIfInBounds_toArray, List.set_cons_zero, List.set_cons_succ]
              refine wpAnyIn_ready (rs := [4]) (by kernel_rfl) (by simp) (AllReadyIn.cons (o := ⟨none, _, _, _, _, _⟩) rfl (fun Kc hKc => ?_) AllReadyIn.nil)
              rw [if_pos (by rfl)]
              refine inr_store_any 30 _ _ rfl (b + 1) 0 30 _ [.int .i64 12] _ rfl rfl rfl X1A.out info_er15 (by show 0 + 1 ≤ 1; omega) (by intro u hu; first | (rw [List.mem_singleton.1 hu]; rfl) | exact cf0_one u hu) ?_; intro wB hb ho; have X0B := Go.Lib.hid (X0A.out.only ho (by omega)); have X1B := Go.Lib.hid (show Bxo wB (b + 1) 30 [.int .i64 12] from hb); have X2B := Go.Lib.hid (X2A.out.only ho (by omega)); have X5B := Go.Lib.hid (X5A.out.only ho (by omega)); have c5B := X5B.out.cell 0 rfl; have ZB : Hid (EkS b w3 wB) := Go.Lib.hid (ZA.out.trans (EkS.only ho (by omega) ⟨_, _, X1A.out⟩)); clear ho hb
              refine hKc _ _ ?_
              clear hKc Kc
              try simp only [Act.put, List.setIfInBounds_toArray, List.set_cons_zero, List.set_cons_succ]
              refine wpAnyIn_ready (rs := [5]) (by kernel_rfl) (by simp) (AllReadyIn.cons (o := ⟨none, _, _, _, _, _⟩) rfl (fun Kc hKc => ?_) AllReadyIn.nil)
              rw [if_pos (by rfl)]
              refine inr_store_any 3 _ _ rfl (b + 2) 0 3 _ [.int .i64 ((n : Int) + 1)] _ rfl rfl rfl X2B.out info_i1 (by show 0 + 1 ≤ 1; omega) (by intro u hu; first | (rw [List.mem_singleton.1 hu]; rfl) | exact cf0_one u hu) ?_; intro wC hb ho; have X0C := Go.Lib.hid (X0B.out.only ho (by omega)); have X1C := Go.Lib.hid (X1B.out.only ho (by omega)); have X2C := Go.Lib.hid (show Bxo wC (b + 2) 3 [.int .i64 ((n : Int) + 1)] from hb); have X5C := Go.Lib.hid (X5B.out.only ho (by omega)); have c5C := X5C.out.cell 0 rfl; have ZC : Hid (EkS b w3 wC) := Go.Lib.hid (ZB.out.trans (EkS.only ho (by omega) ⟨_, _, X2B.out⟩)); clear ho hb
              refine hKc _ _ ?_
              clear hKc Kc
              try simp only [Act.put, List.setIfInBounds_toArray, List.set_cons_zero, List.set_cons_succ]
              refine wpAnyIn_done (by kernel_rfl) ?_ _
              gi_wp2
              exact ⟨(kf.trans ZC.out.kf), ⟨rfl, ⟨12, (n : Int) + 1, X0C.out, X1C.out, X2C.out, HX.out⟩, bel.out.trans (ZC.out.bel b (Nat.le_refl _) sz.out), Nat.le_trans sz.out ZC.out.size, tb.out.gr ZC.out h7⟩⟩
            ·
              rw [if_pos (by rfl)]
              refine inr_store_any 27 _ _ rfl b 0 27 _ (cfL cf0 cfm0) _ rfl rfl rfl X0S.out.drew info_cf (by show 0 + 10 ≤ 10; omega) (by intro u hu; first | (rw [List.mem_singleton.1 hu]; rfl) | exact cf0_one u hu) ?_; intro wA hb ho; have X0A := Go.Lib.hid (show Bxo wA b 27 (cfL cf0 cfm0) from hb); have X1A := Go.Lib.hid (X1S.out.drew.only ho (by omega)); have X2A := Go.Lib.hid (X2S.out.drew.only ho (by omega)); have X5A := Go.Lib.hid (X5S.out.drew.only ho (by omega)); have c5A := X5A.out.cell 0 rfl; have ZA : Hid (EkS b w3 wA) := Go.Lib.hid ((EkS.drew b w3).trans (EkS.only ho (by omega) ⟨_, _, X0S.out.drew⟩)); clear ho hb
              refine hKc _ _ ?_
              clear hKc Kc
              try simp only [Act.put, List.setIfInBounds_toArray, List.set_cons_zero, List.set_cons_succ]
              refine wpAnyIn_ready (rs := [1]) (by kernel_rfl) (by simp) (AllReadyIn.cons (o := ⟨some 25, _, _, _, _, _⟩) rfl (fun Kc hKc => ?_) AllReadyIn.nil)
              rw [if_pos (by rfl)]
              go_simp
              refine hKc _ _ ?_
              clear hKc Kc
              try simp only [Act.put, List.setIfInBounds_toArray, List.set_cons_zero, List.set_cons_succ]
              refine wpAnyIn_ready (rs := [4]) (by kernel_rfl) (by simp) (AllReadyIn.cons (o := ⟨none, _, _, _, _, _⟩) rfl (fun Kc hKc => ?_) AllReadyIn.nil)
              rw [if_pos (by rfl)]
              refine inr_store_any 30 _ _ rfl (b + 1) 0 30 _ [.int .i64 12] _ rfl rfl rfl X1A.out info_er15 (by show 0 + 1 ≤ 1; omega) (by intro u hu; first | (rw [List.mem_singleton.1 hu]; rfl) | exact cf0_one u hu) ?_; intro wB hb ho; have X0B := Go.Lib.hid (X0A.out.only ho (by omega)); have X1B := Go.Lib.hid (show Bxo wB (b + 1) 30 [.int .i64 12] from hb); have X2B := Go.Lib.hid (X2A.out.only ho (by omega)); have X5B := Go.Lib.hid (X5A.out.only ho (by omega)); have c5B := X5B.out.cell 0 rfl; have ZB : Hid (EkS b w3 wB) := Go.Lib.hid (ZA.out.trans (EkS.only ho (by omega) ⟨_, _, X1A.out⟩)); clear ho hb
              refine hKc _ _ ?_
              clear hKc Kc
              try simp only [Act.put, List.setIfInBounds_toArray, List.set_cons_zero, List.set_cons_succ]
              refine wpAnyIn_ready (rs := [5]) (by kernel_rfl) (by simp) (AllReadyIn.cons (o := ⟨none, _, _, _, _, _⟩) rfl (fun Kc hKc => ?_) AllReadyIn.nil)
              rw [if_pos (by rfl)]
              refine inr_store_any 3 _ _ rfl (b + 2) 0 3 _ [.int .i64 ((n : Int) + 1)] _ rfl rfl rfl X2B.out info_i1 (by show 0 + 1 ≤ 1; omega) (by intro u hu; first | (rw [List.mem_singleton.1 hu]; rfl) | exact cf0_one u hu) ?_; intro wC hb ho; have X0C := Go.Lib.hid (X0B.out.only ho (by omega)); have X1C := Go.Lib.hid (X1B.out.only ho (by omega)); have X2C := Go.Lib.hid (show Bxo wC (b + 2) 3 [.int .i64 ((n : Int) + 1)] from hb); have X5C := Go.Lib.hid (X5B.out.only ho (by omega)); have c5C := X5C.out.cell 0 rfl; have ZC : Hid (EkS b w3 wC) := Go.Lib.hid (ZB.out.trans (EkS.only ho (by omega) ⟨_, _, X2B.out⟩)); clear ho hb
              refine hKc _ _ ?_
              clear hKc Kc
              try simp only [Act.put, List.setIfInBounds_toArray, List.set_cons_zero, List.set_cons_succ]
              refine wpAnyIn_done (by kernel_rfl) ?_ _
              gi_wp2
              exact ⟨(kf.trans ZC.out.kf), ⟨rfl, ⟨12, (n : Int) + 1, X0C.out, X1C.out, X2C.out, HX.out⟩, bel.out.trans (ZC.out.bel b (Nat.le_refl _) sz.out), Nat.le_trans sz.out ZC.out.size, tb.out.gr ZC.out h7⟩⟩
          ·
            rw [if_pos (by rfl)]
            go_simp
            refine hKc _ _ ?_
            clear hKc Kc
            try simp only [Act.put, List.setIfInBounds_toArray, List.set_cons_zero, List.set_cons_succ]
            refine wpAnyIn_ready (rs := [0]) (by kernel_rfl) (by simp) (AllReadyIn.cons (o := ⟨some 24, _, _, _, _, _⟩) rfl (fun Kc hKc => ?_) AllReadyIn.nil)
            rw [if_pos (by rfl)]
            go_simp
            refine hKc _ _ ?_
            clear hKc Kc
            try simp only [Act.put, List.setIfInBounds_toArray, List.set_cons_zero, List.set_cons_succ]
            refine wpAnyIn_ready (rs := [3]) (by kernel_rfl) (by simp) (AllReadyIn.cons (o := ⟨none, _, _, _, _, _⟩) rfl (fun Kc hKc => ?_) AllReadyIn.nil)
            rw [if_pos (by rfl)]
            refine inr_store_any 27 _ _ rfl b 0 27 _ (cfL cf0 cfm0) _ rfl rfl rfl X0S.out.drew info_cf (by show 0 + 10 ≤ 10; omega) (by intro u hu; first | (rw [List.mem_singleton.1 hu]; rfl) | exact cf0_one u hu) ?_; intro wA hb ho; have X0A := Go.Lib.hid (show Bxo wA b 27 (cfL cf0 cfm0) from hb); have X1A := Go.Lib.hid (X1S.out.drew.only ho (by omega)); have X2A := Go.Lib.hid (X2S.out.drew.only ho (by omega)); have X5A := Go.Lib.hid (X5S.out.drew.only ho (by omega)); have c5A := X5A.out.cell 0 rfl; have ZA : Hid (EkS b w3 wA) := Go.Lib.hid ((EkS.drew b w3).trans (EkS.only ho (by omega) ⟨_, _, X0S.out.drew⟩)); clear ho hb
            refine hKc _ _ ?_
            clear hKc Kc
            try simp only [Act.put, List.setIfInBounds_toArray, List.set_cons_zero, List.set_cons_succ]
            refine wpAnyIn_ready (rs := [4]) (by kernel_rfl) (by simp) (AllReadyIn.cons (o := ⟨none, _, _, _, _, _⟩) rfl (fun Kc hKc => ?_) AllReadyIn.nil)
            rw [if_pos (by rfl)]
            refine inr_store_any 30 _ _ rfl (b + 1) 0 30 _ [.int .i64 12] _ rfl rfl rfl X1A.out info_er15 (by show 0 + 1 ≤ 1; omega) (by intro u hu; first | (rw [List.mem_singleton.1 hu]; rfl) | exact cf0_one u hu) ?_; intro wB hb ho; have X0B := Go.Lib.hid (X0A.out.only ho (by omega)); have X1B := Go.Lib.hid (show Bxo wB (b + 1) 30 [.int .i64 12] from hb); have X2B := Go.Lib.hid (X2A.out.only ho (by omega)); have X5B := Go.Lib.hid (X5A.out.only ho (by omega)); have c5B := X5B.out.cell 0 rfl; have ZB : Hid (EkS b w3 wB) := Go.Lib.hid (ZA.out.trans (EkS.only ho (by omega) ⟨_, _, X1A.out⟩)); clear ho hb
            refine hKc _ _ ?_
            clear hKc Kc
            try simp only [Act.put, List.setIfInBounds_toArray, List.set_cons_zero, List.set_cons_succ]
            refine wpAnyIn_ready (rs := [5]) (by kernel_rfl) (by simp) (AllReadyIn.cons (o := ⟨none, _, _, _, _, _⟩) rfl (fun Kc hKc => ?_) AllReadyIn.nil)
            rw [if_pos (by rfl)]
            refine inr_store_any 3 _ _ rfl (b + 2) 0 3 _ [.int .i64 ((n : Int) + 1)] _ rfl rfl rfl X2B.out info_i1 (by show 0 + 1 ≤ 1; omega) (by intro u hu; first | (rw [List.mem_singleton.1 hu]; rfl) | exact cf0_one u hu) ?_; intro wC hb ho; have X0C := Go.Lib.hid (X0B.out.only ho (by omega)); have X1C := Go.Lib.hid (X1B.out.only ho (by omega)); have X2C := Go.Lib.hid (show Bxo wC (b + 2) 3 [.int .i64 ((n : Int) + 1)] from hb); have X5C := Go.Lib.hid (X5B.out.only ho (by omega)); have c5C := X5C.out.cell 0 rfl; have ZC : Hid (EkS b w3 wC) := Go.Lib.hid (ZB.out.trans (EkS.only ho (by omega) ⟨_, _, X2B.out⟩)); clear ho hb
            refine hKc _ _ ?_
            clear hKc Kc
            try simp only [Act.put, List.setIfInBounds_toArray, List.set_cons_zero, List.set_cons_succ]
            refine wpAnyIn_done (by kernel_rfl) ?_ _
            gi_wp2
            exact ⟨(kf.trans ZC.out.kf), ⟨rfl, ⟨12, (n : Int) + 1, X0C.out, X1C.out, X2C.out, HX.out⟩, bel.out.trans (ZC.out.bel b (Nat.le_refl _) sz.out), Nat.le_trans sz.out ZC.out.size, tb.out.gr ZC.out h7⟩⟩
      · have h257 : x.1.size ≤ 256 := by omega
        cases L with
        | error e =>
          have hne : e ≠ 0 := by rcases line_err HL2.out with q | q <;> omega
          have t2 : (e != 0) = true := by simpa using hne
          have HX : Hid (∀ rest, linesP (lnX (pre ++ [x]) ++ rest) 0 cfD = (cf0, e, (n : Int) + 1)) := Go.Lib.hid (fun rest => HST.out h257 rest)
          gi_wp2_with (gi_at_call 22; refine (CallsIn.inRound l (callsIn_wide.2 (cread15 (b + 9) (b + 3) c p x.1 x.2 _ h513 D1.out T1.out))).mono ?_; rintro e' w3 hrl; obtain ⟨⟨k, rfl, _, hk2⟩, dg3, tb3⟩ := hrl; obtain rfl : k = e := (hk2 (by rw [txB_len]; exact h257)).2 _ HL2.out; have DG3 := Go.Lib.hid dg3; have TB3 := Go.Lib.hid tb3; clear hk2 dg3 tb3; dsimp only)
          have g := DG3.out
          have c5S := (X5.out.dg g (by omega) (by omega)).cell 0 rfl
          have X0S := Go.Lib.hid (X0.out.dg g (by omega) (by omega))
          have X1S := Go.Lib.hid (X1.out.dg g (by omega) (by omega))
          have X2S := Go.Lib.hid (X2.out.dg g (by omega) (by omega))
          have X5S := Go.Lib.hid (X5.out.dg g (by omega) (by omega))
          have kf : KeepsFrom (b + 9) W w3 := KF1.out.trans ⟨g.size, fun k o _ hk ho => g.nc k o hk ho⟩
          have bel : Hid (Below b w w3) := Go.Lib.hid (BL1.out.trans (g.below (by omega) (by omega)))
          have sz : Hid (b + 9 ≤ w3.heap.size) := Go.Lib.hid (Nat.le_trans SZ1.out g.size)
          have tb := TB3
          clear g
          try simp only [Act.put, List.setIfInBounds_toArray, List.set_cons_zero, List.set_cons_succ]
          refine wpIn_region_any (by kernel_rfl) ?_
          change wpAnyIn _ _ _ _ _ _ _ _ _ (World.drew _)
          refine wpAnyIn_ready (rs := [0, 1, 2]) (by kernel_rfl) (by simp) (AllReadyIn.cons (o := ⟨some 24, _, _, _, _, _⟩) rfl (fun Kc hKc => ?_) (AllReadyIn.cons (o := ⟨some 25, _, _, _, _, _⟩) rfl (fun Kc hKc => ?_) (AllReadyIn.cons (o := ⟨some 26, _, _, _, _, _⟩) rfl (fun Kc hKc => ?_) AllReadyIn.nil)))
          ·
            rw [if_pos (by rfl)]
            go_simp
            refine hKc _ _ ?_
            clear hKc Kc
            try simp only [Act.put, List.setIfInBounds_toArray, List.set_cons_zero, List.set_cons_succ]
            refine wpAnyIn_ready (rs := [1, 2, 3]) (by kernel_rfl) (by simp) (AllReadyIn.cons (o := ⟨some 25, _, _, _, _, _⟩) rfl (fun Kc hKc => ?_) (AllReadyIn.cons (o := ⟨some 26, _, _, _, _, _⟩) rfl (fun Kc hKc => ?_) (AllReadyIn.cons (o := ⟨none, _, _, _, _, _⟩) rfl (fun Kc hKc => ?_) AllReadyIn.nil)))
            ·
              rw [if_pos (by rfl)]
              go_simp
              refine hKc _ _ ?_
              clear hKc Kc
              try simp only [Act.put, List.setIfInBounds_toArray, List.set_cons_zero, List.set_cons_succ]
              refine wpAnyIn_ready (rs := [2, 3]) (by kernel_rfl) (by simp) (AllReadyIn.cons (o := ⟨some 26, _, _, _, _, _⟩) rfl (fun Kc hKc => ?_) (AllReadyIn.cons (o := ⟨none, _, _, _, _, _⟩) rfl (fun Kc hKc => ?_) AllReadyIn.nil))
              ·
                rw [if_pos (by rfl)]
                go_simp
                refine hKc _ _ ?_
                clear hKc Kc
                try simp only [Act.put, List.setIfInBounds_toArray, List.set_cons_zero, List.set_cons_succ]
                refine wpAnyIn_ready (rs := [3]) (by kernel_rfl) (by simp) (AllReadyIn.cons (o := ⟨none, _, _, _, _, _⟩) rfl (fun Kc hKc => ?_) AllReadyIn.nil)
                rw [if_pos (by rfl)]
                refine inr_store_any 27 _ _ rfl b 0 27 _ (cfL cf0 cfm0) _ rfl rfl rfl X0S.out.drew info_cf (by show 0 + 10 ≤ 10; omega) (by intro u hu; first | (rw [List.mem_singleton.1 hu]; rfl) | exact cf0_one u hu) ?_; intro wA hb ho; have X0A := Go.Lib.hid (show Bxo wA b 27 (cfL cf0 cfm0) from hb); have X1A := Go.Lib.hid (X1S.out.drew.only ho (by omega)); have X2A := Go.Lib.hid (X2S.out.drew.only ho (by omega)); have X5A := Go.Lib.hid (X5S.out.drew.only ho (by omega)); have c5A := X5A.out.cell 0 rfl; have ZA : Hid (EkS b w3 wA) := Go.Lib.hid ((EkS.drew b w3).trans (EkS.only ho (by omega) ⟨_, _, X0S.out.drew⟩)); clear ho hb
                refine hKc _ _ ?_
                clear hKc Kc
                try simp only [Act.put, List.setIfInBounds_toArray, List.set_cons_zero, List.set_cons_succ]
                refine wpAnyIn_ready (rs := [4]) (by kernel_rfl) (by simp) (AllReadyIn.cons (o := ⟨none, _, _, _, _, _⟩) rfl (fun Kc hKc => ?_) AllReadyIn.nil)
                rw [if_pos (by rfl)]
                refine inr_store_any 30 _ _ rfl (b + 1) 0 30 _ [.int .i64 k] _ rfl rfl rfl X1A.out info_er15 (by show 0 + 1 ≤ 1; omega) (by intro u hu; first | (rw [List.mem_singleton.1 hu]; rfl) | exact cf0_one u hu) ?_; intro wB hb ho; have X0B := Go.Lib.hid (X0A.out.only ho (by omega)); have X1B := Go.Lib.hid (show Bxo wB (b + 1) 30 [.int .i64 k] from hb); have X2B := Go.Lib.hid (X2A.out.only ho (by omega)); have X5B := Go.Lib.hid (X5A.out.only ho (by omega)); have c5B := X5B.out.cell 0 rfl; have ZB : Hid (EkS b w3 wB) := Go.Lib.hid (ZA.out.trans (EkS.only ho (by omega) ⟨_, _, X1A.out⟩)); clear ho hb
                refine hKc _ _ ?_
                clear hKc Kc
                try simp only [Act.put, List.setIfInBounds_toArray, List.set_cons_zero, List.set_cons_succ]
                refine wpAnyIn_ready (rs := [5]) (by kernel_rfl) (by simp) (AllReadyIn.cons (o := ⟨none, _, _, _, _, _⟩) rfl (fun Kc hKc => ?_) AllReadyIn.nil)
                rw [if_pos (by rfl)]
                refine inr_store_any 3 _ _ rfl (b + 2) 0 3 _ [.int .i64 ((n : Int) + 1)] _ rfl rfl rfl X2B.out info_i1 (by show 0 + 1 ≤ 1; omega) (by intro u hu; first | (rw [List.mem_singleton.1 hu]; rfl) | exact cf0_one u hu) ?_; intro wC hb ho; have X0C := Go.Lib.hid (X0B.out.only ho (by omega)); have X1C := Go.Lib.hid (X1B.out.only ho (by omega)); have X2C := Go.Lib.hid (show Bxo wC (b + 2) 3 [.int .i64 ((n : Int) + 1)] from hb); have X5C := Go.Lib.hid (X5B.out.only ho (by omega)); have c5C := X5C.out.cell 0 rfl; have ZC : Hid (EkS b w3 wC) := Go.Lib.hid (ZB.out.trans (EkS.only ho (by omega) ⟨_, _, X2B.out⟩)); clear ho hb
                refine hKc _ _ ?_
                clear hKc Kc
                try simp only [Act.put, List.setIfInBounds_toArray, List.set_cons_zero, List.set_cons_succ]
                refine wpAnyIn_done (by kernel_rfl) ?_ _
                gi_wp2
                exact ⟨(kf.trans ZC.out.kf), ⟨rfl, ⟨k, (n : Int) + 1, X0C.out, X1C.out, X2C.out, HX.out⟩, bel.out.trans (ZC.out.bel b (Nat.le_refl _) sz.out), Nat.le_trans sz.out ZC.out.size, tb.out.gr ZC.out h7⟩⟩
              ·
                rw [if_pos (by rfl)]
                refine inr_store_any 27 _ _ rfl b 0 27 _ (cfL cf0 cfm0) _ rfl rfl rfl X0S.out.drew info_cf (by show 0 + 10 ≤ 10; omega) (by intro u hu; first | (rw [List.mem_singleton.1 hu]; rfl) | exact cf0_one u hu) ?_; intro wA hb ho; have X0A := Go.Lib.hid (show Bxo wA b 27 (cfL cf0 cfm0) from hb); have X1A := Go.Lib.hid (X1S.out.drew.only ho (by omega)); have X2A := Go.Lib.hid (X2S.out.drew.only ho (by omega)); have X5A := Go.Lib.hid (X5S.out.drew.only ho (by omega)); have c5A := X5A.out.cell 0 rfl; have ZA : Hid (EkS b w3 wA) := Go.Lib.hid ((EkS.drew b w3).trans (EkS.only ho (by omega) ⟨_, _, X0S.out.drew⟩)); clear ho hb
                refine hKc _ _ ?_
                clear hKc Kc
                try simp only [Act.put, List.setIfInBounds_toArray, List.set_cons_zero, List.set_cons_succ]
                refine wpAnyIn_ready (rs := [2, 4]) (by kernel_rfl) (by simp) (AllReadyIn.cons (o := ⟨some 26, _, _, _, _, _⟩) rfl (fun Kc hKc => ?_) (AllReadyIn.cons (o := ⟨none, _, _, _, _, _⟩) rfl (fun Kc hKc => ?_) AllReadyIn.nil))
                ·
                  rw [if_pos (by rfl)]
                  go_simp
                  refine hKc _ _ ?_
                  clear hKc Kc
                  try simp only [Act.put, List.setIfInBounds_toArray, List.set_cons_zero, List.set_cons_succ]
                  refine wpAnyIn_ready (rs := [4]) (by kernel_rfl) (by simp) (AllReadyIn.cons (o := ⟨none, _, _, _, _, _⟩) rfl (fun Kc hKc => ?_) AllReadyIn.nil)
                  rw [if_pos (by rfl)]
                  refine inr_store_any 30 _ _ rfl (b + 1) 0 30 _ [.int .i64 k] _ rfl rfl rfl X1A.out info_er15 (by show 0 + 1 ≤ 1; omega) (by intro u hu; first | (rw [List.mem_singleton.1 hu]; rfl) | exact cf0_one u hu) ?_; intro wB hb ho; have X0B := Go.Lib.hid (X0A.out.only ho (by omega)); have X1B := Go.Lib.hid (show Bxo wB (b + 1) 30 [.int .i64 k] from hb); have X2B := Go.Lib.hid (X2A.out.only ho (by omega)); have X5B := Go.Lib.hid (X5A.out.only ho (by omega)); have c5B := X5B.out.cell 0 rfl; have ZB : Hid (EkS b w3 wB) := Go.Lib.hid (ZA.out.trans (EkS.only ho (by omega) ⟨_, _, X1A.out⟩)); clear ho hb
                  refine hKc _ _ ?_
                  clear hKc Kc
                  try simp only [Act.put, List.setIfInBounds_toArray, List.set_cons_zero, List.set_cons_succ]
                  refine wpAnyIn_ready (rs := [5]) (by kernel_rfl) (by simp) (AllReadyIn.cons (o := ⟨none, _, _, _, _, _⟩) rfl (fun Kc hKc => ?_) AllReadyIn.nil)
                  rw [if_pos (by rfl)]
                  refine inr_store_any 3 _ _ rfl (b + 2) 0 3 _ [.int .i64 ((n : Int) + 1)] _ rfl rfl rfl X2B.out info_i1 (by show 0 + 1 ≤ 1; omega) (by intro u hu; first | (rw [List.mem_singleton.1 hu]; rfl) | exact cf0_one u hu) ?_; intro wC hb ho; have X0C := Go.Lib.hid (X0B.out.only ho (by omega)); have X1C := Go.Lib.hid (X1B.out.only ho (by omega)); have X2C := Go.Lib.hid (show Bxo wC (b + 2) 3 [.int .i64 ((n : Int) + 1)] from hb); have X5C := Go.Lib.hid (X5B.out.only ho (by omega)); have c5C := X5C.out.cell 0 rfl; have ZC : Hid (EkS b w3 wC) := Go.Lib.hid (ZB.out.trans (EkS.only ho (by omega) ⟨_, _, X2B.out⟩)); clear ho hb
                  refine hKc _ _ ?_
                  clear hKc Kc
                  try simp only [Act.put, List.setIfInBounds_toArray, List.set_cons_zero, List.set_cons_succ]
                  refine wpAnyIn_done (by kernel_rfl) ?_ _
                  gi_wp2
                  exact ⟨(kf.trans ZC.out.kf), ⟨rfl, ⟨k, (n : Int) + 1, X0C.out, X1C.out, X2C.out, HX.out⟩, bel.out.trans (ZC.out.bel b (Nat.le_refl _) sz.out), Nat.le_trans sz.out ZC.out.size, tb.out.gr ZC.out h7⟩⟩
                ·
                  rw [if_pos (by rfl)]
                  refine inr_store_any 30 _ _ rfl (b + 1) 0 30 _ [.int .i64 k] _ rfl rfl rfl X1A.out info_er15 (by show 0 + 1 ≤ 1; omega) (by intro u hu; first | (rw [List.mem_singleton.1 hu]; rfl) | exact cf0_one u hu) ?_; intro wB hb ho; have X0B := Go.Lib.hid (X0A.out.only ho (by omega)); have X1B := Go.Lib.hid (show Bxo wB (b + 1) 30 [.int .i64 k] from hb); have X2B := Go.Lib.hid (X2A.out.only ho (by omega)); have X5B := Go.Lib.hid (X5A.out.only ho (by omega)); have c5B := X5B.out.cell 0 rfl; have ZB : Hid (EkS b w3 wB) := Go.Lib.hid (ZA.out.trans (EkS.only ho (by omega) ⟨_, _, X1A.out⟩)); clear ho hb
                  refine hKc _ _ ?_
                  clear hKc Kc
                  try simp only [Act.put, List.setIfInBounds_toArray, List.set_cons_zero, List.set_cons_succ]
                  refine wpAnyIn_ready (rs := [2]) (by kernel_rfl) (by simp) (AllReadyIn.cons (o := ⟨some 26, _, _, _, _, _⟩) rfl (fun Kc hKc => ?_) AllReadyIn.nil)
                  rw [if_pos (by rfl)]
                  go_simp
                  refine hKc _ _ ?_
                  clear hKc Kc
                  try simp only [Act.put, List.setIfInBounds_toArray, List.set_cons_zero, List.set_cons_succ]
                  refine wpAnyIn_ready (rs := [5]) (by kernel_rfl) (by simp) (AllReadyIn.cons (o := ⟨none, _, _, _, _, _⟩) rfl (fun Kc hKc => ?_) AllReadyIn.nil)
                  rw [if_pos (by rfl)]
                  refine inr_store_any 3 _ _ rfl (b + 2) 0 3 _ [.int .i64 ((n : Int) + 1)] _ rfl rfl rfl X2B.out info_i1 (by show 0 + 1 ≤ 1; omega) (by intro u hu; first | (rw [List.mem_singleton.1 hu]; rfl) | exact cf0_one u hu) ?_; intro wC hb ho; have X0C := Go.Lib.hid (X0B.out.only ho (by omega)); have X1C := Go.Lib.hid (X1B.out.only ho (by omega)); have X2C := Go.Lib.hid (show Bxo wC (b + 2) 3 [.int .i64 ((n : Int) + 1)] from hb); have X5C := Go.Lib.hid (X5B.out.only ho (by omega)); have c5C := X5C.out.cell 0 rfl; have ZC : Hid (EkS b w3 wC) := Go.Lib.hid (ZB.out.trans (EkS.only ho (by omega) ⟨_, _, X2B.out⟩)); clear ho hb
                  refine hKc _ _ ?_
                  clear hKc Kc
                  try simp only [Act.put, List.setIfInBounds_toArray, List.set_cons_zero, List.set_cons_succ]
                  refine wpAnyIn_done (by kernel_rfl) ?_ _
                  gi_wp2
                  exact ⟨(kf.trans ZC.out.kf), ⟨rfl, ⟨k, (n : Int) + 1, X0C.out, X1C.out, X2C.out, HX.out⟩, bel.out.trans (ZC.out.bel b (Nat.le_refl _) sz.out), Nat.le_trans sz.out ZC.out.size, tb.out.gr ZC.out h7⟩⟩
            ·
              rw [if_pos (by rfl)]
              go_simp
              refine hKc _ _ ?_
              clear hKc Kc
              try simp only [Act.put, List.setIfInBounds_toArray, List.set_cons_zero, List.set_cons_succ]
              refine wpAnyIn_ready (rs := [1, 3]) (by kernel_rfl) (by simp) (AllReadyIn.cons (o := ⟨some 25, _, _, _, _, _⟩) rfl (fun Kc hKc => ?_) (AllReadyIn.cons (o := ⟨none, _, _, _, _, _⟩) rfl (fun Kc hKc => ?_) AllReadyIn.nil))
              ·
                rw [if_pos (by rfl)]
                go_simp
                refine hKc _ _ ?_
                clear hKc Kc
                try simp only [Act.put, List.setIfInBounds_toArray, List.set_cons_zero, List.set_cons_succ]
                refine wpAnyIn_ready (rs := [3]) (by kernel_rfl) (by simp) (AllReadyIn.cons (o := ⟨none, _, _, _, _, _⟩) rfl (fun Kc hKc => ?_) AllReadyIn.nil)
                rw [if_pos (by rfl)]
                refine inr_store_any 27 _ _ rfl b 0 27 _ (cfL cf0 cfm0) _ rfl rfl rfl X0S.out.drew info_cf (by show 0 + 10 ≤ 10; omega) (by intro u hu; first | (rw [List.mem_singleton.1 hu]; rfl) | exact cf0_one u hu) ?_; intro wA hb ho; have X0A := Go.Lib.hid (show Bxo wA b 27 (cfL cf0 cfm0) from hb); have X1A := Go.Lib.hid (X1S.out.drew.only ho (by omega)); have X2A := Go.Lib.hid (X2S.out.drew.only ho (by omega)); have X5A := Go.Lib.hid (X5S.out.drew.only ho (by omega)); have c5A := X5A.out.cell 0 rfl; have ZA : Hid (EkS b w3 wA) := Go.Lib.hid ((EkS.drew b w3).trans (EkS.only ho (by omega) ⟨_, _, X0S.out.drew⟩)); clear ho hb
                refine hKc _ _ ?_
                clear hKc Kc
                try simp only [Act.put, List.setIfInBounds_toArray, List.set_cons_zero, List.set_cons_succ]
                refine wpAnyIn_ready (rs := [4]) (by kernel_rfl) (by simp) (AllReadyIn.cons (o := ⟨none, _, _, _, _, _⟩) rfl (fun Kc hKc => ?_) AllReadyIn.nil)
                rw [if_pos (by rfl)]
                refine inr_store_any 30 _ _ rfl (b + 1) 0 30 _ [.int .i64 k] _ rfl rfl rfl X1A.out info_er15 (by show 0 + 1 ≤ 1; omega) (by intro u hu; first | (rw [List.mem_singleton.1 hu]; rfl) | exact cf0_one u hu) ?_; intro wB hb ho; have X0B := Go.Lib.hid (X0A.out.only ho (by omega)); have X1B := Go.Lib.hid (show Bxo wB (b + 1) 30 [.int .i64 k] from hb); have X2B := Go.Lib.hid (X2A.out.only ho (by omega)); have X5B := Go.Lib.hid (X5A.out.only ho (by omega)); have c5B := X5B.out.cell 0 rfl; have ZB : Hid (EkS b w3 wB) := Go.Lib.hid (ZA.out.trans (EkS.only ho (by omega) ⟨_, _, X1A.out⟩)); clear ho hb
                refine hKc _ _ ?_
                clear hKc Kc
                try simp only [Act.put, List.setIfInBounds_toArray, List.set_cons_zero, List.set_cons_succ]
                refine wpAnyIn_ready (rs := [5]) (by kernel_rfl) (by simp) (AllReadyIn.cons (o := ⟨none, _, _, _, _, _⟩) rfl (fun Kc hKc => ?_) AllReadyIn.nil)
                rw [if_pos (by rfl)]
                refine inr_store_any 3 _ _ rfl (b + 2) 0 3 _ [.int .i64 ((n : Int) + 1)] _ rfl rfl rfl X2B.out info_i1 (by show 0 + 1 ≤ 1; omega) (by intro u hu; first | (rw [List.mem_singleton.1 hu]; rfl) | exact cf0_one u hu) ?_; intro wC hb ho; have X0C := Go.Lib.hid (X0B.out.only ho (by omega)); have X1C := Go.Lib.hid (X1B.out.only ho (by omega)); have X2C := Go.Lib.hid (show Bxo wC (b + 2) 3 [.int .i64 ((n : Int) + 1)] from hb); have X5C := Go.Lib.hid (X5B.out.only ho (by omega)); have c5C := X5C.out.cell 0 rfl; have ZC : Hid (EkS b w3 wC) := Go.Lib.hid (ZB.out.trans (EkS.only ho (by omega) ⟨_, _, X2B.out⟩)); clear ho hb
                refine hKc _ _ ?_
                clear hKc Kc
                try simp only [Act.put, List.setIfInBounds_toArray, List.set_cons_zero, List.set_cons_succ]
                refine wpAnyIn_done (by kernel_rfl) ?_ _
                gi_wp2
                exact ⟨(kf.trans ZC.out.kf), ⟨rfl, ⟨k, (n : Int) + 1, X0C.out, X1C.out, X2C.out, HX.out⟩, bel.out.trans (ZC.out.bel b (Nat.le_refl _) sz.out), Nat.le_trans sz.out ZC.out.size, tb.out.gr ZC.out h7⟩⟩
              ·
                rw [if_pos (by rfl)]
                refine inr_store_any 27 _ _ rfl b 0 27 _ (cfL cf0 cfm0) _ rfl rfl rfl X0S.out.drew info_cf (by show 0 + 10 ≤ 10; omega) (by intro u hu; first | (rw [List.mem_singleton.1 hu]; rfl) | exact cf0_one u hu) ?_; intro wA hb ho; have X0A := Go.Lib.hid (show Bxo wA b 27 (cfL cf0 cfm0) from hb); have X1A := Go.Lib.hid (X1S.out.drew.only ho (by omega)); have X2A := Go.Lib.hid (X2S.out.drew.only ho (by omega)); have X5A := Go.Lib.hid (X5S.out.drew.only ho (by omega)); have c5A := X5A.out.cell 0 rfl; have ZA : Hid (EkS b w3 wA) := Go.Lib.hid ((EkS.drew b w3).trans (EkS.only ho (by omega) ⟨_, _, X0S.out.drew⟩)); clear ho hb
                refine hKc _ _ ?_
                clear hKc Kc
                try simp only [Act.put, List.setIfInBounds_toArray, List.set_cons_zero, List.set_cons_succ]
                refine wpAnyIn_ready (rs := [1]) (by kernel_rfl) (by simp) (AllReadyIn.cons (o := ⟨some 25, _, _, _, _, _⟩) rfl (fun Kc hKc => ?_) AllReadyIn.nil)
                rw [if_pos (by rfl)]
                go_simp
                refine hKc _ _ ?_
                clear hKc Kc
                try simp only [Act.put, List.setIfInBounds_toArray, List.set_cons_zero, List.set_cons_succ]
                refine wpAnyIn_ready (rs := [4]) (by kernel_rfl) (by simp) (AllReadyIn.cons (o := ⟨none, _, _, _, _, _⟩) rfl (fun Kc hKc => ?_) AllReadyIn.nil)
                rw [if_pos (by rfl)]
                refine inr_store_any 30 _ _ rfl (b + 1) 0 30 _ [.int .i64 k] _ rfl rfl rfl X1A.out info_er15 (by show 0 + 1 ≤ 1; omega) (by intro u hu; first | (rw [List.mem_singleton.1 hu]; rfl) | exact cf0_one u hu) ?_; intro wB hb ho; have X0B := Go.Lib.hid (X0A.out.only ho (by omega)); have X1B := Go.Lib.hid (show Bxo wB (b + 1) 30 [.int .i64 k] from hb); have X2B := Go.Lib.hid (X2A.out.only ho (by omega)); have X5B := Go.Lib.hid (X5A.out.only ho (by omega)); have c5B := X5B.out.cell 0 rfl; have ZB : Hid (EkS b w3 wB) := Go.Lib.hid (ZA.out.trans (EkS.only ho (by omega) ⟨_, _, X1A.out⟩)); clear ho hb
                refine hKc _ _ ?_
                clear hKc Kc
                try simp only [Act.put, List.setIfInBounds_toArray, List.set_cons_zero, List.set_cons_succ]
                refine wpAnyIn_ready (rs := [5]) (by kernel_rfl) (by simp) (AllReadyIn.cons (o := ⟨none, _, _, _, _, _⟩) rfl (fun Kc hKc => ?_) AllReadyIn.nil)
                rw [if_pos (by rfl)]
                refine inr_store_any 3 _ _ rfl (b + 2) 0 3 _ [.int .i64 ((n : Int) + 1)] _ rfl rfl rfl X2B.out info_i1 (by show 0 + 1 ≤ 1; omega) (by intro u hu; first | (rw [List.mem_singleton.1 hu]; rfl) | exact cf0_one u hu) ?_; intro wC hb ho; have X0C := Go.Lib.hid (X0B.out.only ho (by omega)); have X1C := Go.Lib.hid (X1B.out.only ho (by omega)); have X2C := Go.Lib.hid (show Bxo wC (b + 2) 3 [.int .i64 ((n : Int) + 1)] from hb); have X5C := Go.Lib.hid (X5B.out.only ho (by omega)); have c5C := X5C.out.cell 0 rfl; have ZC : Hid (EkS b w3 wC) := Go.Lib.hid (ZB.out.trans (EkS.only ho (by omega) ⟨_, _, X2B.out⟩)); clear ho hb
                refine hKc _ _ ?_
                clear hKc Kc
                try simp only [Act.put, List.setIfInBounds_toArray, List.set_cons_zero, List.set_cons_succ]
                refine wpAnyIn_done (by kernel_rfl) ?_ _
                gi_wp2
                exact ⟨(kf.trans ZC.out.kf), ⟨rfl, ⟨k, (n : Int) + 1, X0C.out, X1C.out, X2C.out, HX.out⟩, bel.out.trans (ZC.out.bel b (Nat.le_refl _) sz.out), Nat.le_trans sz.out ZC.out.size, tb.out.gr ZC.out h7⟩⟩
            ·
              rw [if_pos (by rfl)]
              refine inr_store_any 27 _ _ rfl b 0 27 _ (cfL cf0 cfm0) _ rfl rfl rfl X0S.out.drew info_cf (by show 0 + 10 ≤ 10; omega) (by intro u hu; first | (rw [List.mem_singleton.1 hu]; rfl) | exact cf0_one u hu) ?_; intro wA hb ho; have X0A := Go.Lib.hid (show Bxo wA b 27 (cfL cf0 cfm0) from hb); have X1A := Go.Lib.hid (X1S.out.drew.only ho (by omega)); have X2A := Go.Lib.hid (X2S.out.drew.only ho (by omega)); have X5A := Go.Lib.hid (X5S.out.drew.only ho (by omega)); have c5A := X5A.out.cell 0 rfl; have ZA : Hid (EkS b w3 wA) := Go.Lib.hid ((EkS.drew b w3).trans (EkS.only ho (by omega) ⟨_, _, X0S.out.drew⟩)); clear ho hb
              refine hKc _ _ ?_
              clear hKc Kc
              try simp only [Act.put, List.setIfInBounds_toArray, List.set_cons_zero, List.set_cons_succ]
              refine wpAnyIn_ready (rs := [1, 2]) (by kernel_rfl) (by simp) (AllReadyIn.cons (o := ⟨some 25, _, _, _, _, _⟩) rfl (fun Kc hKc => ?_) (AllReadyIn.cons (o := ⟨some 26, _, _, _, _, _⟩) rfl (fun Kc hKc => ?_) AllReadyIn.nil))
              ·
                rw [if_pos (by rfl)]
                go_simp
                refine hKc _ _ ?_
                clear hKc Kc
                try simp only [Act.put, List.setIfInBounds_toArray, List.set_cons_zero, List.set_cons_succ]
                refine wpAnyIn_ready (rs := [2, 4]) (by kernel_rfl) (by simp) (AllReadyIn.cons (o := ⟨some 26, _, _, _, _, _⟩) rfl (fun Kc hKc => ?_) (AllReadyIn.cons (o := ⟨none, _, _, _, _, _⟩) rfl (fun Kc hKc => ?_) AllReadyIn.nil))
                ·
                  rw [if_pos (by rfl)]
                  go_simp
                  refine hKc _ _ ?_
                  clear hKc Kc
                  try simp only [Act.put, List.setIfInBounds_toArray, List.set_cons_zero, List.set_cons_succ]
                  refine wpAnyIn_ready (rs := [4]) (by kernel_rfl) (by simp) (AllReadyIn.cons (o := ⟨none, _, _, _, _, _⟩) rfl (fun Kc hKc => ?_) AllReadyIn.nil)
                  rw [if_pos (by rfl)]
                  refine inr_store_any 30 _ _ rfl (b + 1) 0 30 _ [.int .i64 k] _ rfl rfl rfl X1A.out info_er15 (by show 0 + 1 ≤ 1; omega) (by intro u hu; first | (rw [List.mem_singleton.1 hu]; rfl) | exact cf0_one u hu) ?_; intro wB hb ho; have X0B := Go.Lib.hid (X0A.out.only ho (by omega)); have X1B := Go.Lib.hid (show Bxo wB (b + 1) 30 [.int .i64 k] from hb); have X2B := Go.Lib.hid (X2A.out.only ho (by omega)); have X5B := Go.Lib.hid (X5A.out.only ho (by omega)); have c5B := X5B.out.cell 0 rfl; have ZB : Hid (EkS b w3 wB) := Go.Lib.hid (ZA.out.trans (EkS.only ho (by omega) ⟨_, _, X1A.out⟩)); clear ho hb
                  refine hKc _ _ ?_
                  clear hKc Kc
                  try simp only [Act.put, List.setIfInBounds_toArray, List.set_cons_zero, List.set_cons_succ]
                  refine wpAnyIn_ready (rs := [5]) (by kernel_rfl) (by simp) (AllReadyIn.cons (o := ⟨none, _, _, _, _, _⟩) rfl (fun Kc hKc => ?_) AllReadyIn.nil)
                  rw [if_pos (by rfl)]
                  refine inr_store_any 3 _ _ rfl (b + 2) 0 3 _ [.int .i64 ((n : Int) + 1)] _ rfl rfl rfl X2B.out info_i1 (by show 0 + 1 ≤ 1; omega) (by intro u hu; first | (rw [List.mem_singleton.1 hu]; rfl) | exact cf0_one u hu) ?_; intro wC hb ho; have X0C := Go.Lib.hid (X0B.out.only ho (by omega)); have X1C := Go.Lib.hid (X1B.out.only ho (by omega)); have X2C := Go.Lib.hid (show Bxo wC (b + 2) 3 [.int .i64 ((n : Int) + 1)] from hb); have X5C := Go.Lib.hid (X5B.out.only ho (by omega)); have c5C := X5C.out.cell 0 rfl; have ZC : Hid (EkS b w3 wC) := Go.Lib.hid (ZB.out.trans (EkS.only ho (by omega) ⟨_, _, X2B.out⟩)); clear ho hb
                  refine hKc _ _ ?_
                  clear hKc Kc
                  try simp only [Act.put, List.setIfInBounds_toArray, List.set_cons_zero, List.set_cons_succ]
                  refine wpAnyIn_done (by kernel_rfl) ?_ _
                  gi_wp2
                  exact ⟨(kf.trans ZC.out.kf), ⟨rfl, ⟨k, (n : Int) + 1, X0C.out, X1C.out, X2C.out, HX.out⟩, bel.out.trans (ZC.out.bel b (Nat.le_refl _) sz.out), Nat.le_trans sz.out ZC.out.size, tb.out.gr ZC.out h7⟩⟩
                ·
                  rw [if_pos (by rfl)]
                  refine inr_store_any 30 _ _ rfl (b + 1) 0 30 _ [.int .i64 k] _ rfl rfl rfl X1A.out info_er15 (by show 0 + 1 ≤ 1; omega) (by intro u hu; first | (rw [List.mem_singleton.1 hu]; rfl) | exact cf0_one u hu) ?_; intro wB hb ho; have X0B := Go.Lib.hid (X0A.out.only ho (by omega)); have X1B := Go.Lib.hid (show Bxo wB (b + 1) 30 [.int .i64 k] from hb); have X2B := Go.Lib.hid (X2A.out.only ho (by omega)); have X5B := Go.Lib.hid (X5A.out.only ho (by omega)); have c5B := X5B.out.cell 0 rfl; have ZB : Hid (EkS b w3 wB) := Go.Lib.hid (ZA.out.trans (EkS.only ho (by omega) ⟨_, _, X1A.out⟩)); clear ho hb
                  refine hKc _ _ ?_
                  clear hKc Kc
                  try simp only [Act.put, List.setIfInBounds_toArray, List.set_cons_zero, List.set_cons_succ]
                  refine wpAnyIn_ready (rs := [2]) (by kernel_rfl) (by simp) (AllReadyIn.cons (o := ⟨some 26, _, _, _, _, _⟩) rfl (fun Kc hKc => ?_) AllReadyIn.nil)
                  rw [if_pos (by rfl)]
                  go_simp
                  refine hKc _ _ ?_
                  clear hKc Kc
                  try simp only [Act.put, List.setIfInBounds_toArray, List.set_cons_zero, List.set_cons_succ]
                  refine wpAnyIn_ready (rs := [5]) (by kernel_rfl) (by simp) (AllReadyIn.cons (o := ⟨none, _, _, _, _, _⟩) rfl (fun Kc hKc => ?_) AllReadyIn.nil)
                  rw [if_pos (by rfl)]
                  refine inr_store_any 3 _ _ rfl (b + 2) 0 3 _ [.int .i64 ((n : Int) + 1)] _ rfl rfl rfl X2B.out info_i1 (by show 0 + 1 ≤ 1; omega) (by intro u hu; first | (rw [List.mem_singleton.1 hu]; rfl) | exact cf0_one u hu) ?_; intro wC hb ho; have X0C := Go.Lib.hid (X0B.out.only ho (by omega)); have X1C := Go.Lib.hid (X1B.out.only ho (by omega)); have X2C := Go.Lib.hid (show Bxo wC (b + 2) 3 [.int .i64 ((n : Int) + 1)] from hb); have X5C := Go.Lib.hid (X5B.out.only ho (by omega)); have c5C := X5C.out.cell 0 rfl; have ZC : Hid (EkS b w3 wC) := Go.Lib.hid (ZB.out.trans (EkS.only ho (by omega) ⟨_, _, X2B.out⟩)); clear ho hb
                  refine hKc _ _ ?_
                  clear hKc Kc
                  try simp only [Act.put, List.setIfInBounds_toArray, List.set_cons_zero, List.set_cons_succ]
                  refine wpAnyIn_done (by kernel_rfl) ?_ _
                  gi_wp2
                  exact ⟨(kf.trans ZC.out.kf), ⟨rfl, ⟨k, (n : Int) + 1, X0C.out, X1C.out, X2C.out, HX.out⟩, bel.out.trans (ZC.out.bel b (Nat.le_refl _) sz.out), Nat.le_trans sz.out ZC.out.size, tb.out.gr ZC.out h7⟩⟩
              ·
                rw [if_pos (by rfl)]
                go_simp
                refine hKc _ _ ?_
                clear hKc Kc
                try simp only [Act.put, List.setIfInBounds_toArray, List.set_cons_zero, List.set_cons_succ]
                refine wpAnyIn_ready (rs := [1]) (by kernel_rfl) (by simp) (AllReadyIn.cons (o := ⟨some 25, _, _, _, _, _⟩) rfl (fun Kc hKc => ?_) AllReadyIn.nil)
                rw [if_pos (by rfl)]
                go_simp
                refine hKc _ _ ?_
                clear hKc Kc
                try simp only [Act.put, List.setIfInBounds_toArray, List.set_cons_zero, List.set_cons_succ]
                refine wpAnyIn_ready (rs := [4]) (by kernel_rfl) (by simp) (AllReadyIn.cons (o := ⟨none, _, _, _, _, _⟩) rfl (fun Kc hKc => ?_) AllReadyIn.nil)
                rw [if_pos (by rfl)]
                refine inr_store_any 30 _ _ rfl (b + 1) 0 30 _ [.int .i64 k] _ rfl rfl rfl X1A.out info_er15 (by show 0 + 1 ≤ 1; omega) (by intro u hu; first | (rw [List.mem_singleton.1 hu]; rfl) | exact cf0_one u hu) ?_; intro wB hb ho; have X0B := Go.Lib.hid (X0A.out.only ho (by omega)); have X1B := Go.Lib.hid (show Bxo wB (b + 1) 30 [.int .i64 k] from hb); have X2B := Go.Lib.hid (X2A.out.only ho (by omega)); have X5B := Go.Lib.hid (X5A.out.only ho (by omega)); have c5B := X5B.out.cell 0 rfl; have ZB : Hid (EkS b w3 wB) := Go.Lib.hid (ZA.out.trans (EkS.only ho (by omega) ⟨_, _, X1A.out⟩)); clear ho hb
                refine hKc _ _ ?_
                clear hKc Kc
                try simp only [Act.put, List.setIfInBounds_toArray, List.set_cons_zero, List.set_cons_succ]
                refine wpAnyIn_ready (rs := [5]) (by kernel_rfl) (by simp) (AllReadyIn.cons (o := ⟨none, _, _, _, _, _⟩) rfl (fun Kc hKc => ?_) AllReadyIn.nil)
                rw [if_pos (by rfl)]
                refine inr_store_any 3 _ _ rfl (b + 2) 0 3 _ [.int .i64 ((n : Int) + 1)] _ rfl rfl rfl X2B.out info_i1 (by show 0 + 1 ≤ 1; omega) (by intro u hu; first | (rw [List.mem_singleton.1 hu]; rfl) | exact cf0_one u hu) ?_; intro wC hb ho; have X0C := Go.Lib.hid (X0B.out.only ho (by omega)); have X1C := Go.Lib.hid (X1B.out.only ho (by omega)); have X2C := Go.Lib.hid (show Bxo wC (b + 2) 3 [.int .i64 ((n : Int) + 1)] from hb); have X5C := Go.Lib.hid (X5B.out.only ho (by omega)); have c5C := X5C.out.cell 0 rfl; have ZC : Hid (EkS b w3 wC) := Go.Lib.hid (ZB.out.trans (EkS.only ho (by omega) ⟨_, _, X2B.out⟩)); clear ho hb
                refine hKc _ _ ?_
                clear hKc Kc
                try simp only [Act.put, List.setIfInBounds_toArray, List.set_cons_zero, List.set_cons_succ]
                refine wpAnyIn_done (by kernel_rfl) ?_ _
                gi_wp2
                exact ⟨(kf.trans ZC.out.kf), ⟨rfl, ⟨k, (n : Int) + 1, X0C.out, X1C.out, X2C.out, HX.out⟩, bel.out.trans (ZC.out.bel b (Nat.le_refl _) sz.out), Nat.le_trans sz.out ZC.out.size, tb.out.gr ZC.out h7⟩⟩
          ·
            rw [if_pos (by rfl)]
            go_simp
            refine hKc _ _ ?_
            clear hKc Kc
            try simp only [Act.put, List.setIfInBounds_toArray, List.set_cons_zero, List.set_cons_succ]
            refine wpAnyIn_ready (rs := [0, 2]) (by kernel_rfl) (by simp) (AllReadyIn.cons (o := ⟨some 24, _, _, _, _, _⟩) rfl (fun Kc hKc => ?_) (AllReadyIn.cons (o := ⟨some 26, _, _, _, _, _⟩) rfl (fun Kc hKc => ?_) AllReadyIn.nil))
            ·
              rw [if_pos (by rfl)]
              go_simp
              refine hKc _ _ ?_
              clear hKc Kc
              try simp only [Act.put, List.setIfInBounds_toArray, List.set_cons_zero, List.set_cons_succ]
              refine wpAnyIn_ready (rs := [2, 3]) (by kernel_rfl) (by simp) (AllReadyIn.cons (o := ⟨some 26, _, _, _, _, _⟩) rfl (fun Kc hKc => ?_) (AllReadyIn.cons (o := ⟨none, _, _, _, _, _⟩) rfl (fun Kc hKc => ?_) AllReadyIn.nil))
              ·
                rw [if_pos (by rfl)]
                go_simp
                refine hKc _ _ ?_
                clear hKc Kc
                try simp only [Act.put, List.setIfInBounds_toArray, List.set_cons_zero, List.set_cons_succ]
                refine wpAnyIn_ready (rs := [3]) (by kernel_rfl) (by simp) (AllReadyIn.cons (o := ⟨none, _, _, _, _, _⟩) rfl (fun Kc hKc => ?_) AllReadyIn.nil)
                rw [if_pos (by rfl)]
                refine inr_store_any 27 _ _ rfl b 0 27 _ (cfL cf0 cfm0) _ rfl rfl rfl X0S.out.drew info_cf (by show 0 + 10 ≤ 10; omega) (by intro u hu; first | (rw [List.mem_singleton.1 hu]; rfl) | exact cf0_one u hu) ?_; intro wA hb ho; have X0A := Go.Lib.hid (show Bxo wA b 27 (cfL cf0 cfm0) from hb); have X1A := Go.Lib.hid (X1S.out.drew.only ho (by omega)); have X2A := Go.Lib.hid (X2S.out.drew.only ho (by omega)); have X5A := Go.Lib.hid (X5S.out.drew.only ho (by omega)); have c5A := X5A.out.cell 0 rfl; have ZA : Hid (EkS b w3 wA) := Go.Lib.hid ((EkS.drew b w3).trans (EkS.only ho (by omega) ⟨_, _, X0S.out.drew⟩)); clear ho hb
                refine hKc _ _ ?_
                clear hKc Kc
                try simp only [Act.put, List.setIfInBounds_toArray, List.set_cons_zero, List.set_cons_succ]
                refine wpAnyIn_ready (rs := [4]) (by kernel_rfl) (by simp) (AllReadyIn.cons (o := ⟨none, _, _, _, _, _⟩) rfl (fun Kc hKc => ?_) AllReadyIn.nil)
                rw [if_pos (by rfl)]
                refine inr_store_any 30 _ _ rfl (b + 1) 0 30 _ [.int .i64 k] _ rfl rfl rfl X1A.out info_er15 (by show 0 + 1 ≤ 1; omega) (by intro u hu; first | (rw [List.mem_singleton.1 hu]; rfl) | exact cf0_one u hu) ?_; intro wB hb ho; have X0B := Go.Lib.hid (X0A.out.only ho (by omega)); have X1B := Go.Lib.hid (show Bxo wB (b + 1) 30 [.int .i64 k] from hb); have X2B := Go.Lib.hid (X2A.out.only ho (by omega)); have X5B := Go.Lib.hid (X5A.out.only ho (by omega)); have c5B := X5B.out.cell 0 rfl; have ZB : Hid (EkS b w3 wB) := Go.Lib.hid (ZA.out.trans (EkS.only ho (by omega) ⟨_, _, X1A.out⟩)); clear ho hb
                refine hKc _ _ ?_
                clear hKc Kc
                try simp only [Act.put, List.setIfInBounds_toArray, List.set_cons_zero, List.set_cons_succ]
                refine wpAnyIn_ready (rs := [5]) (by kernel_rfl) (by simp) (AllReadyIn.cons (o := ⟨none, _, _, _, _, _⟩) rfl (fun Kc hKc => ?_) AllReadyIn.nil)
                rw [if_pos (by rfl)]
                refine inr_store_any 3 _ _ rfl (b + 2) 0 3 _ [.int .i64 ((n : Int) + 1)] _ rfl rfl rfl X2B.out info_i1 (by show 0 + 1 ≤ 1; omega) (by intro u hu; first | (rw [List.mem_singleton.1 hu]; rfl) | exact cf0_one u hu) ?_; intro wC hb ho; have X0C := Go.Lib.hid (X0B.out.only ho (by omega)); have X1C := Go.Lib.hid (X1B.out.only ho (by omega)); have X2C := Go.Lib.hid (show Bxo wC (b + 2) 3 [.int .i64 ((n : Int) + 1)] from hb); have X5C := Go.Lib.hid (X5B.out.only ho (by omega)); have c5C := X5C.out.cell 0 rfl; have ZC : Hid (EkS b w3 wC) := Go.Lib.hid (ZB.out.trans (EkS.only ho (by omega) ⟨_, _, X2B.out⟩)); clear ho hb
                refine hKc _ _ ?_
                clear hKc Kc
                try simp only [Act.put, List.setIfInBounds_toArray, List.set_cons_zero, List.set_cons_succ]
                refine wpAnyIn_done (by kernel_rfl) ?_ _
                gi_wp2
                exact ⟨(kf.trans ZC.out.kf), ⟨rfl, ⟨k, (n : Int) + 1, X0C.out, X1C.out, X2C.out, HX.out⟩, bel.out.trans (ZC.out.bel b (Nat.le_refl _) sz.out), Nat.le_trans sz.out ZC.out.size, tb.out.gr ZC.out h7⟩⟩
              ·
                rw [if_pos (by rfl)]
                refine inr_store_any 27 _ _ rfl b 0 27 _ (cfL cf0 cfm0) _ rfl rfl rfl X0S.out.drew info_cf (by show 0 + 10 ≤ 10; omega) (by intro u hu; first | (rw [List.mem_singleton.1 hu]; rfl) | exact cf0_one u hu) ?_; intro wA hb ho; have X0A := Go.Lib.hid (show Bxo wA b 27 (cfL cf0 cfm0) from hb); have X1A := Go.Lib.hid (X1S.out.drew.only ho (by omega)); have X2A := Go.Lib.hid (X2S.out.drew.only ho (by omega)); have X5A := Go.Lib.hid (X5S.out.drew.only ho (by omega)); have c5A := X5A.out.cell 0 rfl; have ZA : Hid (EkS b w3 wA) := Go.Lib.hid ((EkS.drew b w3).trans (EkS.only ho (by omega) ⟨_, _, X0S.out.drew⟩)); clear ho hb
                refine hKc _ _ ?_
                clear hKc Kc
                try simp only [Act.put, List.setIfInBounds_toArray, List.set_cons_zero, List.set_cons_succ]
                refine wpAnyIn_ready (rs := [2, 4]) (by kernel_rfl) (by simp) (AllReadyIn.cons (o := ⟨some 26, _, _, _, _, _⟩) rfl (fun Kc hKc => ?_) (AllReadyIn.cons (o := ⟨none, _, _, _, _, _⟩) rfl (fun Kc hKc => ?_) AllReadyIn.nil))
                ·
                  rw [if_pos (by rfl)]
                  go_simp
                  refine hKc _ _ ?_
                  clear hKc Kc
                  try simp only [Act.put, List.setIfInBounds_toArray, List.set_cons_zero, List.set_cons_succ]
                  refine wpAnyIn_ready (rs := [4]) (by kernel_rfl) (by simp) (AllReadyIn.cons (o := ⟨none, _, _, _, _, _⟩) rfl (fun Kc hKc => ?_) AllReadyIn.nil)
                  rw [if_pos (by rfl)]
                  refine inr_store_any 30 _ _ rfl (b + 1) 0 30 _ [.int .i64 k] _ rfl rfl rfl X1A.out info_er15 (by show 0 + 1 ≤ 1; omega) (by intro u hu; first | (rw [List.mem_singleton.1 hu]; rfl) | exact cf0_one u hu) ?_; intro wB hb ho; have X0B := Go.Lib.hid (X0A.out.only ho (by omega)); have X1B := Go.Lib.hid (show Bxo wB (b + 1) 30 [.int .i64 k] from hb); have X2B := Go.Lib.hid (X2A.out.only ho (by omega)); have X5B := Go.Lib.hid (X5A.out.only ho (by omega)); have c5B := X5B.out.cell 0 rfl; have ZB : Hid (EkS b w3 wB) := Go.Lib.hid (ZA.out.trans (EkS.only ho (by omega) ⟨_, _, X1A.out⟩)); clear ho hb
                  refine hKc _ _ ?_
                  clear hKc Kc
                  try simp only [Act.put, List.setIfInBounds_toArray, List.set_cons_zero, List.set_cons_succ]
                  refine wpAnyIn_ready (rs := [5]) (by kernel_rfl) (by simp) (AllReadyIn.cons (o := ⟨none, _, _, _, _, _⟩) rfl (fun Kc hKc => ?_) AllReadyIn.nil)
                  rw [if_pos (by rfl)]
                  refine inr_store_any 3 _ _ rfl (b + 2) 0 3 _ [.int .i64 ((n : Int) + 1)] _ rfl rfl rfl X2B.out info_i1 (by show 0 + 1 ≤ 1; omega) (by intro u hu; first | (rw [List.mem_singleton.1 hu]; rfl) | exact cf0_one u hu) ?_; intro wC hb ho; have X0C := Go.Lib.hid (X0B.out.only ho (by omega)); have X1C := Go.Lib.hid (X1B.out.only ho (by omega)); have X2C := Go.Lib.hid (show Bxo wC (b + 2) 3 [.int .i64 ((n : Int) + 1)] from hb); have X5C := Go.Lib.hid (X5B.out.only ho (by omega)); have c5C := X5C.out.cell 0 rfl; have ZC : Hid (EkS b w3 wC) := Go.Lib.hid (ZB.out.trans (EkS.only ho (by omega) ⟨_, _, X2B.out⟩)); clear ho hb
                  refine hKc _ _ ?_
                  clear hKc Kc
                  try simp only [Act.put, List.setIfInBounds_toArray, List.set_cons_zero, List.set_cons_succ]
                  refine wpAnyIn_done (by kernel_rfl) ?_ _
                  gi_wp2
                  exact ⟨(kf.trans ZC.out.kf), ⟨rfl, ⟨k, (n : Int) + 1, X0C.out, X1C.out, X2C.out, HX.out⟩, bel.out.trans (ZC.out.bel b (Nat.le_refl _) sz.out), Nat.le_trans sz.out ZC.out.size, tb.out.gr ZC.out h7⟩⟩
                ·
                  rw [if_pos (by rfl)]
                  refine inr_store_any 30 _ _ rfl (b + 1) 0 30 _ [.int .i64 k] _ rfl rfl rfl X1A.out info_er15 (by show 0 + 1 ≤ 1; omega) (by intro u hu; first | (rw [List.mem_singleton.1 hu]; rfl) | exact cf0_one u hu) ?_; intro wB hb ho; have X0B := Go.Lib.hid (X0A.out.only ho (by omega)); have X1B := Go.Lib.hid (show Bxo wB (b + 1) 30 [.int .i64 k] from hb); have X2B := Go.Lib.hid (X2A.out.only ho (by omega)); have X5B := Go.Lib.hid (X5A.out.only ho (by omega)); have c5B := X5B.out.cell 0 rfl; have ZB : Hid (EkS b w3 wB) := Go.Lib.hid (ZA.out.trans (EkS.only ho (by omega) ⟨_, _, X1A.out⟩)); clear ho hb
                  refine hKc _ _ ?_
                  clear hKc Kc
                  try simp only [Act.put, List.setIfInBounds_toArray, List.set_cons_zero, List.set_cons_succ]
                  refine wpAnyIn_ready (rs := [2]) (by kernel_rfl) (by simp) (AllReadyIn.cons (o := ⟨some 26, _, _, _, _, _⟩) rfl (fun Kc hKc => ?_) AllReadyIn.nil)
                  rw [if_pos (by rfl)]
                  go_simp
                  refine hKc _ _ ?_
                  clear hKc Kc
                  try simp only [Act.put, List.setIfInBounds_toArray, List.set_cons_zero, List.set_cons_succ]
                  refine wpAnyIn_ready (rs := [5]) (by kernel_rfl) (by simp) (AllReadyIn.cons (o := ⟨none, _, _, _, _, _⟩) rfl (fun Kc hKc => ?_) AllReadyIn.nil)
                  rw [if_pos (by rfl)]
                  refine inr_store_any 3 _ _ rfl (b + 2) 0 3 _ [.int .i64 ((n : Int) + 1)] _ rfl rfl rfl X2B.out info_i1 (by show 0 + 1 ≤ 1; omega) (by intro u hu; first | (rw [List.mem_singleton.1 hu]; rfl) | exact cf0_one u hu) ?_; intro wC hb ho; have X0C := Go.Lib.hid (X0B.out.only ho (by omega)); have X1C := Go.Lib.hid (X1B.out.only ho (by omega)); have X2C := Go.Lib.hid (show Bxo wC (b + 2) 3 [.int .i64 ((n : Int) + 1)] from hb); have X5C := Go.Lib.hid (X5B.out.only ho (by omega)); have c5C := X5C.out.cell 0 rfl; have ZC : Hid (EkS b w3 wC) := Go.Lib.hid (ZB.out.trans (EkS.only ho (by omega) ⟨_, _, X2B.out⟩)); clear ho hb
                  refine hKc _ _ ?_
                  clear hKc Kc
                  try simp only [Act.put, List.setIfInBounds_toArray, List.set_cons_zero, List.set_cons_succ]
                  refine wpAnyIn_done (by kernel_rfl) ?_ _
                  gi_wp2
                  exact ⟨(kf.trans ZC.out.kf), ⟨rfl, ⟨k, (n : Int) + 1, X0C.out, X1C.out, X2C.out, HX.out⟩, bel.out.trans (ZC.out.bel b (Nat.le_refl _) sz.out), Nat.le_trans sz.out ZC.out.size, tb.out.gr ZC.out h7⟩⟩
            ·
              rw [if_pos (by rfl)]
              go_simp
              refine hKc _ _ ?_
              clear hKc Kc
              try simp only [Act.put, List.setIfInBounds_toArray, List.set_cons_zero, List.set_cons_succ]
              refine wpAnyIn_ready (rs := [0]) (by kernel_rfl) (by simp) (AllReadyIn.cons (o := ⟨some 24, _, _, _, _, _⟩) rfl (fun Kc hKc => ?_) AllReadyIn.nil)
              rw [if_pos (by rfl)]
              go_simp
              refine hKc _ _ ?_
              clear hKc Kc
              try simp only [Act.put, List.setIfInBounds_toArray, List.set_cons_zero, List.set_cons_succ]
              refine wpAnyIn_ready (rs := [3]) (by kernel_rfl) (by simp) (AllReadyIn.cons (o := ⟨none, _, _, _, _, _⟩) rfl (fun Kc hKc => ?_) AllReadyIn.nil)
              rw [if_pos (by rfl)]
              refine inr_store_any 27 _ _ rfl b 0 27 _ (cfL cf0 cfm0) _ rfl rfl rfl X0S.out.drew info_cf (by show 0 + 10 ≤ 10; omega) (by intro u hu; first | (rw [List.mem_singleton.1 hu]; rfl) | exact cf0_one u hu) ?_; intro wA hb ho; have X0A := Go.Lib.hid (show Bxo wA b 27 (cfL cf0 cfm0) from hb); have X1A := Go.Lib.hid (X1S.out.drew.only ho (by omega)); have X2A := Go.Lib.hid (X2S.out.drew.only ho (by omega)); have X5A := Go.Lib.hid (X5S.out.drew.only ho (by omega)); have c5A := X5A.out.cell 0 rfl; have ZA : Hid (EkS b w3 wA) := Go.Lib.hid ((EkS.drew b w3).trans (EkS.only ho (by omega) ⟨_, _, X0S.out.drew⟩)); clear ho hb
              refine hKc _ _ ?_
              clear hKc Kc
              try simp only [Act.put, List.setIfInBounds_toArray, List.set_cons_zero, List.set_cons_succ]
              refine wpAnyIn_ready (rs := [4]) (by kernel_rfl) (by simp) (AllReadyIn.cons (o := ⟨none, _, _, _, _, _⟩) rfl (fun Kc hKc => ?_) AllReadyIn.nil)
              rw [if_pos (by rfl)]
              refine inr_store_any 30 _ _ rfl (b + 1) 0 30 _ [.int .i64 k] _ rfl rfl rfl X1A.out info_er15 (by show 0 + 1 ≤ 1; omega) (by intro u hu; first | (rw [List.mem_singleton.1 hu]; rfl) | exact cf0_one u hu) ?_; intro wB hb ho; have X0B := Go.Lib.hid (X0A.out.only ho (by omega)); have X1B := Go.Lib.hid (show Bxo wB (b + 1) 30 [.int .i64 k] from hb); have X2B := Go.Lib.hid (X2A.out.only ho (by omega)); have X5B := Go.Lib.hid (X5A.out.only ho (by omega)); have c5B := X5B.out.cell 0 rfl; have ZB : Hid (EkS b w3 wB) := Go.Lib.hid (ZA.out.trans (EkS.only ho (by omega) ⟨_, _, X1A.out⟩)); clear ho hb
              refine hKc _ _ ?_
              clear hKc Kc
              try simp only [Act.put, List.setIfInBounds_toArray, List.set_cons_zero, List.set_cons_succ]
              refine wpAnyIn_ready (rs := [5]) (by kernel_rfl) (by simp) (AllReadyIn.cons (o := ⟨none, _, _, _, _, _⟩) rfl (fun Kc hKc => ?_) AllReadyIn.nil)
              rw [if_pos (by rfl)]
              refine inr_store_any 3 _ _ rfl (b + 2) 0 3 _ [.int .i64 ((n : Int) + 1)] _ rfl rfl rfl X2B.out info_i1 (by show 0 + 1 ≤ 1; omega) (by intro u hu; first | (rw [List.mem_singleton.1 hu]; rfl) | exact cf0_one u hu) ?_; intro wC hb ho; have X0C := Go.Lib.hid (X0B.out.only ho (by omega)); have X1C := Go.Lib.hid (X1B.out.only ho (by omega)); have X2C := Go.Lib.hid (show Bxo wC (b + 2) 3 [.int .i64 ((n : Int) + 1)] from hb); have X5C := Go.Lib.hid (X5B.out.only ho (by omega)); have c5C := X5C.out.cell 0 rfl; have ZC : Hid (EkS b w3 wC) := Go.Lib.hid (ZB.out.trans (EkS.only ho (by omega) ⟨_, _, X2B.out⟩)); clear ho hb
              refine hKc _ _ ?_
              clear hKc Kc
              try simp only [Act.put, List.setIfInBounds_toArray, List.set_cons_zero, List.set_cons_succ]
              refine wpAnyIn_done (by kernel_rfl) ?_ _
              gi_wp2
              exact ⟨(kf.trans ZC.out.kf), ⟨rfl, ⟨k, (n : Int) + 1, X0C.out, X1C.out, X2C.out, HX.out⟩, bel.out.trans (ZC.out.bel b (Nat.le_refl _) sz.out), Nat.le_trans sz.out ZC.out.size, tb.out.gr ZC.out h7⟩⟩
          ·
            rw [if_pos (by rfl)]
            go_simp
            refine hKc _ _ ?_
            clear hKc Kc
            try simp only [Act.put, List.setIfInBounds_toArray, List.set_cons_zero, List.set_cons_succ]
            refine wpAnyIn_ready (rs := [0, 1]) (by kernel_rfl) (by simp) (AllReadyIn.cons (o := ⟨some 24, _, _, _, _, _⟩) rfl (fun Kc hKc => ?_) (AllReadyIn.cons (o := ⟨some 25, _, _, _, _, _⟩) rfl (fun Kc hKc => ?_) AllReadyIn.nil))
            ·
              rw [if_pos (by rfl)]
              go_simp
              refine hKc _ _ ?_
              clear hKc Kc
              try simp only [Act.put, List.setIfInBounds_toArray, List.set_cons_zero, List.set_cons_succ]
              refine wpAnyIn_ready (rs := [1, 3]) (by kernel_rfl) (by simp) (AllReadyIn.cons (o := ⟨some 25, _, _, _, _, _⟩) rfl (fun Kc hKc => ?_) (AllReadyIn.cons (o := ⟨none, _, _, _, _, _⟩) rfl (fun Kc hKc => ?_) AllReadyIn.nil))
              ·
                rw [if_pos (by rfl)]
                go_simp
                refine hKc _ _ ?_
                clear hKc Kc
                try simp only [Act.put, List.setIfInBounds_toArray, List.set_cons_zero, List.set_cons_succ]
                refine wpAnyIn_ready (rs := [3]) (by kernel_rfl) (by simp) (AllReadyIn.cons (o := ⟨none, _, _, _, _, _⟩) rfl (fun Kc hKc => ?_) AllReadyIn.nil)
                rw [if_pos (by rfl)]
                refine inr_store_any 27 _ _ rfl b 0 27 _ (cfL cf0 cfm0) _ rfl rfl rfl X0S.out.drew info_cf (by show 0 + 10 ≤ 10; omega) (by intro u hu; first | (rw [List.mem_singleton.1 hu]; rfl) | exact cf0_one u hu) ?_; intro wA hb ho; have X0A := Go.Lib.hid (show Bxo wA b 27 (cfL cf0 cfm0) from hb); have X1A := Go.Lib.hid (X1S.out.drew.only ho (by omega)); have X2A := Go.Lib.hid (X2S.out.drew.only ho (by omega)); have X5A := Go.Lib.hid (X5S.out.drew.only ho (by omega)); have c5A := X5A.out.cell 0 rfl; have ZA : Hid (EkS b w3 wA) := Go.Lib.hid ((EkS.drew b w3).trans (EkS.only ho (by omega) ⟨_, _, X0S.out.drew⟩)); clear ho hb
                refine hKc _ _ ?_
                clear hKc Kc
                try simp only [Act.put, List.setIfInBounds_toArray, List.set_cons_zero, List.set_cons_succ]
                refine wpAnyIn_ready (rs := [4]) (by kernel_rfl) (by simp) (AllReadyIn.cons (o := ⟨none, _, _, _, _, _⟩) rfl (fun Kc hKc => ?_) AllReadyIn.nil)
                rw [if_pos (by rfl)]
                refine inr_store_any 30 _ _ rfl (b + 1) 0 30 _ [.int .i64 k] _ rfl rfl rfl X1A.out info_er15 (by show 0 + 1 ≤ 1; omega) (by intro u hu; first | (rw [List.mem_singleton.1 hu]; rfl) | exact cf0_one u hu) ?_; intro wB hb ho; have X0B := Go.Lib.hid (X0A.out.only ho (by omega)); have X1B := Go.Lib.hid (show Bxo wB (b + 1) 30 [.int .i64 k] from hb); have X2B := Go.Lib.hid (X2A.out.only ho (by omega)); have X5B := Go.Lib.hid (X5A.out.only ho (by omega)); have c5B := X5B.out.cell 0 rfl; have ZB : Hid (EkS b w3 wB) := Go.Lib.hid (ZA.out.trans (EkS.only ho (by omega) ⟨_, _, X1A.out⟩)); clear ho hb
                refine hKc _ _ ?_
                clear hKc Kc
                try simp only [Act.put, List.setIfInBounds_toArray, List.set_cons_zero, List.set_cons_succ]
                refine wpAnyIn_ready (rs := [5]) (by kernel_rfl) (by simp) (AllReadyIn.cons (o := ⟨none, _, _, _, _, _⟩) rfl (fun Kc hKc => ?_) AllReadyIn.nil)
                rw [if_pos (by rfl)]
                refine inr_store_any 3 _ _ rfl (b + 2) 0 3 _ [.int .i64 ((n : Int) + 1)] _ rfl rfl rfl X2B.out info_i1 (by show 0 + 1 ≤ 1; omega) (by intro u hu; first | (rw [List.mem_singleton.1 hu]; rfl) | exact cf0_one u hu) ?_; intro wC hb ho; have X0C := Go.Lib.hid (X0B.out.only ho (by omega)); have X1C := Go.Lib.hid (X1B.out.only ho (by omega)); have X2C := Go.Lib.hid (show Bxo wC (b + 2) 3 [.int .i64 ((n : Int) + 1)] from hb); have X5C := Go.Lib.hid (X5B.out.only ho (by omega)); have c5C := X5C.out.cell 0 rfl; have ZC : Hid (EkS b w3 wC) := Go.Lib.hid (ZB.out.trans (EkS.only ho (by omega) ⟨_, _, X2B.out⟩)); clear ho hb
                refine hKc _ _ ?_
                clear hKc Kc
                try simp only [Act.put, List.setIfInBounds_toArray, List.set_cons_zero, List.set_cons_succ]
                refine wpAnyIn_done (by kernel_rfl) ?_ _
                gi_wp2
                exact ⟨(kf.trans ZC.out.kf), ⟨rfl, ⟨k, (n : Int) + 1, X0C.out, X1C.out, X2C.out, HX.out⟩, bel.out.trans (ZC.out.bel b (Nat.le_refl _) sz.out), Nat.le_trans sz.out ZC.out.size, tb.out.gr ZC.out h7⟩⟩
              ·
                rw [if_pos (by rfl)]
                refine inr_store_any 27 _ _ rfl b 0 27 _ (cfL cf0 cfm0) _ rfl rfl rfl X0S.out.drew info_cf (by show 0 + 10 ≤ 10; omega) (by intro u hu; first | (rw [List.mem_singleton.1 hu]; rfl) | exact cf0_one u hu) ?_; intro wA hb ho; have X0A := Go.Lib.hid (show Bxo wA b 27 (cfL cf0 cfm0) from hb); have X1A := Go.Lib.hid (X1S.out.drew.only ho (by omega)); have X2A := Go.Lib.hid (X2S.out.drew.only ho (by omega)); have X5A := Go.Lib.hid (X5S.out.drew.only ho (by omega)); have c5A := X5A.out.cell 0 rfl; have ZA : Hid (EkS b w3 wA) := Go.Lib.hid ((EkS.drew b w3).trans (EkS.only ho (by omega) ⟨_, _, X0S.out.drew⟩)); clear ho hb
                refine hKc _ _ ?_
                clear hKc Kc
                try simp only [Act.put, List.setIfInBounds_toArray, List.set_cons_zero, List.set_cons_succ]
                refine wpAnyIn_ready (rs := [1]) (by kernel_rfl) (by simp) (AllReadyIn.cons (o := ⟨some 25, _, _, _, _, _⟩) rfl (fun Kc hKc => ?_) AllReadyIn.nil)
                rw [if_pos (by rfl)]
                go_simp
                refine hKc _ _ ?_
                clear hKc Kc
                try simp only [Act.put, List.setIfInBounds_toArray, List.set_cons_zero, List.set_cons_succ]
                refine wpAnyIn_ready (rs := [4]) (by kernel_rfl) (by simp) (AllReadyIn.cons (o := ⟨none, _, _, _, _, _⟩) rfl (fun Kc hKc => ?_) AllReadyIn.nil)
                rw [if_pos (by rfl)]
                refine inr_store_any 30 _ _ rfl (b + 1) 0 30 _ [.int .i64 k] _ rfl rfl rfl X1A.out info_er15 (by show 0 + 1 ≤ 1; omega) (by intro u hu; first | (rw [List.mem_singleton.1 hu]; rfl) | exact cf0_one u hu) ?_; intro wB hb ho; have X0B := Go.Lib.hid (X0A.out.only ho (by omega)); have X1B := Go.Lib.hid (show Bxo wB (b + 1) 30 [.int .i64 k] from hb); have X2B := Go.Lib.hid (X2A.out.only ho (by omega)); have X5B := Go.Lib.hid (X5A.out.only ho (by omega)); have c5B := X5B.out.cell 0 rfl; have ZB : Hid (EkS b w3 wB) := Go.Lib.hid (ZA.out.trans (EkS.only ho (by omega) ⟨_, _, X1A.out⟩)); clear ho hb
                refine hKc _ _ ?_
                clear hKc Kc
                try simp only [Act.put, List.setIfInBounds_toArray, List.set_cons_zero, List.set_cons_succ]
                refine wpAnyIn_ready (rs := [5]) (by kernel_rfl) (by simp) (AllReadyIn.cons (o := ⟨none, _, _, _, _, _⟩) rfl (fun Kc hKc => ?_) AllReadyIn.nil)
                rw [if_pos (by rfl)]
                refine inr_store_any 3 _ _ rfl (b + 2) 0 3 _ [.int .i64 ((n : Int) + 1)] _ rfl rfl rfl X2B.out info_i1 (by show 0 + 1 ≤ 1; omega) (by intro u hu; first | (rw [List.mem_singleton.1 hu]; rfl) | exact cf0_one u hu) ?_; intro wC hb ho; have X0C := Go.Lib.hid (X0B.out.only ho (by omega)); have X1C := Go.Lib.hid (X1B.out.only ho (by omega)); have X2C := Go.Lib.hid (show Bxo wC (b + 2) 3 [.int .i64 ((n : Int) + 1)] from hb); have X5C := Go.Lib.hid (X5B.out.only ho (by omega)); have c5C := X5C.out.cell 0 rfl; have ZC : Hid (EkS b w3 wC) := Go.Lib.hid (ZB.out.trans (EkS.only ho (by omega) ⟨_, _, X2B.out⟩)); clear ho hb
                refine hKc _ _ ?_
                clear hKc Kc
                try simp only [Act.put, List.setIfInBounds_toArray, List.set_cons_zero, List.set_cons_succ]
                refine wpAnyIn_done (by kernel_rfl) ?_ _
                gi_wp2
                exact ⟨(kf.trans ZC.out.kf), ⟨rfl, ⟨k, (n : Int) + 1, X0C.out, X1C.out, X2C.out, HX.out⟩, bel.out.trans (ZC.out.bel b (Nat.le_refl _) sz.out), Nat.le_trans sz.out ZC.out.size, tb.out.gr ZC.out h7⟩⟩
            ·
              rw [if_pos (by rfl)]
              go_simp
              refine hKc _ _ ?_
              clear hKc Kc
              try simp only [Act.put, List.setIfInBounds_toArray, List.set_cons_zero, List.set_cons_succ]
              refine wpAnyIn_ready (rs := [0]) (by kernel_rfl) (by simp) (AllReadyIn.cons (o := ⟨some 24, _, _, _, _, _⟩) rfl (fun Kc hKc => ?_) AllReadyIn.nil)
              rw [if_pos (by rfl)]
              go_simp
              refine hKc _ _ ?_
              clear hKc Kc
              try simp only [Act.put, List.setIfInBounds_toArray, List.set_cons_zero, List.set_cons_succ]
              refine wpAnyIn_ready (rs := [3]) (by kernel_rfl) (by simp) (AllReadyIn.cons (o := ⟨none, _, _, _, _, _⟩) rfl (fun Kc hKc => ?_) AllReadyIn.nil)
              rw [if_pos (by rfl)]
              refine inr_store_any 27 _ _ rfl b 0 27 _ (cfL cf0 cfm0) _ rfl rfl rfl X0S.out.drew info_cf (by show 0 + 10 ≤ 10; omega) (by intro u hu; first | (rw [List.mem_singleton.1 hu]; rfl) | exact cf0_one u hu) ?_; intro wA hb ho; have X0A := Go.Lib.hid (show Bxo wA b 27 (cfL cf0 cfm0) from hb); have X1A := Go.Lib.hid (X1S.out.drew.only ho (by omega)); have X2A := Go.Lib.hid (X2S.out.drew.only ho (by omega)); have X5A := Go.Lib.hid (X5S.out.drew.only ho (by omega)); have c5A := X5A.out.cell 0 rfl; have ZA : Hid (EkS b w3 wA) := Go.Lib.hid ((EkS.drew b w3).trans (EkS.only ho (by omega) ⟨_, _, X0S.out.drew⟩)); clear ho hb
              refine hKc _ _ ?_
              clear hKc Kc
              try simp only [Act.put, List.setIfInBounds_toArray, List.set_cons_zero, List.set_cons_succ]
              refine wpAnyIn_ready (rs := [4]) (by kernel_rfl) (by simp) (AllReadyIn.cons (o := ⟨none, _, _, _, _, _⟩) rfl (fun Kc hKc => ?_) AllReadyIn.nil)
              rw [if_pos (by rfl)]
              refine inr_store_any 30 _ _ rfl (b + 1) 0 30 _ [.int .i64 k] _ rfl rfl rfl X1A.out info_er15 (by show 0 + 1 ≤ 1; omega) (by intro u hu; first | (rw [List.mem_singleton.1 hu]; rfl) | exact cf0_one u hu) ?_; intro wB hb ho; have X0B := Go.Lib.hid (X0A.out.only ho (by omega)); have X1B := Go.Lib.hid (show Bxo wB (b + 1) 30 [.int .i64 k] from hb); have X2B := Go.Lib.hid (X2A.out.only ho (by omega)); have X5B := Go.Lib.hid (X5A.out.only ho (by omega)); have c5B := X5B.out.cell 0 rfl; have ZB : Hid (EkS b w3 wB) := Go.Lib.hid (ZA.out.trans (EkS.only ho (by omega) ⟨_, _, X1A.out⟩)); clear ho hb
              refine hKc _ _ ?_
              clear hKc Kc
              try simp only [Act.put, List.setIfInBounds_toArray, List.set_cons_zero, List.set_cons_succ]
              refine wpAnyIn_ready (rs := [5]) (by kernel_rfl) (by simp) (AllReadyIn.cons (o := ⟨none, _, _, _, _, _⟩) rfl (fun Kc hKc => ?_) AllReadyIn.nil)
              rw [if_pos (by rfl)]
              refine inr_store_any 3 _ _ rfl (b + 2) 0 3 _ [.int .i64 ((n : Int) + 1)] _ rfl rfl rfl X2B.out info_i1 (by show 0 + 1 ≤ 1; omega) (by intro u hu; first | (rw [List.mem_singleton.1 hu]; rfl) | exact cf0_one u hu) ?_; intro wC hb ho; have X0C := Go.Lib.hid (X0B.out.only ho (by omega)); have X1C := Go.Lib.hid (X1B.out.only ho (by omega)); have X2C := Go.Lib.hid (show Bxo wC (b + 2) 3 [.int .i64 ((n : Int) + 1)] from hb); have X5C := Go.Lib.hid (X5B.out.only ho (by omega)); have c5C := X5C.out.cell 0 rfl; have ZC : Hid (EkS b w3 wC) := Go.Lib.hid (ZB.out.trans (EkS.only ho (by omega) ⟨_, _, X2B.out⟩)); clear ho hb
              refine hKc _ _ ?_
              clear hKc Kc
              try simp only [Act.put, List.setIfInBounds_toArray, List.set_cons_zero, List.set_cons_succ]
              refine wpAnyIn_done (by kernel_rfl) ?_ _
              gi_wp2
              exact ⟨(kf.trans ZC.out.kf), ⟨rfl, ⟨k, (n : Int) + 1, X0C.out, X1C.out, X2C.out, HX.out⟩, bel.out.trans (ZC.out.bel b (Nat.le_refl _) sz.out), Nat.le_trans sz.out ZC.out.size, tb.out.gr ZC.out h7⟩⟩
        | ok d =>
          have HX : Hid (∀ rest, linesP (lnX (pre ++ [x]) ++ rest) 0 cfD = linesP rest (n + 1) d) := Go.Lib.hid (fun rest => HST.out h257 rest)
          have HSD : Hid (SzC d (n + 1)) := Go.Lib.hid (line_sz HZ.out HL2.out)
          gi_wp2_with (gi_at_call 22; refine (CallsIn.inRound l (callsIn_wide.2 (cread15 (b + 9) (b + 3) c p x.1 x.2 _ h513 D1.out T1.out))).mono ?_; rintro e' w3 hrl; obtain ⟨⟨k, rfl, _, hk2⟩, dg3, tb3⟩ := hrl; obtain ⟨rfl, p', hd3⟩ := (hk2 (by rw [txB_len]; exact h257)).1 _ HL2.out; have DG3 := Go.Lib.hid dg3; have TB3 := Go.Lib.hid tb3; have HD3 := Go.Lib.hid hd3; clear hk2 dg3 tb3 hd3; dsimp only)
          have g := DG3.out
          refine ⟨KF1.out.trans ⟨g.size, fun k o _ hk ho => g.nc k o hk ho⟩, ⟨(g.block _ (by omega) (by omega)).trans KP1.out.1, (g.block _ (by omega) (by omega)).trans KP1.out.2.1, (g.block _ (by omega) (by omega)).trans KP1.out.2.2⟩, ?_⟩
          refine ⟨⟨d, p', HD3.out, by rw [HLN.out]; exact HSD.out, fun rest => by rw [HLN.out]; exact HX.out rest⟩, by rw [HLN.out]; omega, X0.out.dg g (by omega) (by omega), X1.out.dg g (by omega) (by omega), X2.out.dg g (by omega) (by omega), X4.out.dg g (by omega) (by omega), ?_, BL1.out.trans (g.below (by omega) (by omega)), Nat.le_trans SZ1.out g.size, TB3.out⟩
          rw [HLN.out]
          exact X5.out.dg g (by omega) (by omega)
  case done =>
    intro xs W hxs hi hk
    obtain ⟨c, p, hd, hz, hl⟩ := hi.dr
    have hq : (if rightCf c then (c, (0 : Int), (0 : Int)) else (cf0, 1, 0)) = q := by
      rw [← HQ.out]
      unfold parseP
      rw [← hxs]
      have := hl []
      rw [List.append_nil] at this
      rw [this]
      rfl
    have c40 := hi.b4.cell 0 rfl
    have HI := Go.Lib.hid hi
    have HD := Go.Lib.hid hd
    have HK := Go.Lib.hid hk
    obtain ⟨r, hr⟩ : ∃ r, rightCf c = r := ⟨_, rfl⟩
    have HR := Go.Lib.hid hr
    have tok1 : True := trivial
    rw [hr] at hq
    have HQ2 := Go.Lib.hid hq
    clear hd hz hl hi hk hr hq hxs
    cases r
    · go_upto_region 12 with (first
        | (clear tok1; refine wpList_load_at rfl 27 _ rfl ⟨b + 3, 0, none⟩ rfl (cfL c p) _ HD.out.box.at Tryz.underlying27 rfl info_cf ?_)
        | (go_at_call 10; refine (kR c p W (HD.out.cf HI.out.tb) _ HR.out).mono ?_; rintro e w7 ⟨rfl, y7⟩; dsimp only))
      have A0 := Go.Lib.hid (HI.out.b0.keep y7 HI.out.b0.lt)
      have A1 := Go.Lib.hid (HI.out.b1.keep y7 HI.out.b1.lt)
      have A2 := Go.Lib.hid (HI.out.b2.keep y7 HI.out.b2.lt)
      have AK : Hid (w7.heap[WB.heap.size]? = some (.deferred (some []))) := Go.Lib.hid ((y7.block _ (at_lt HK.out)).trans HK.out)
      have Y7 := Go.Lib.hid y7
      have tok2 : True := trivial
      have tok3 : True := trivial
      have tok4 : True := trivial
      clear y7
      go_wp2_with (first
        | (clear tok2; refine wpList_store_any rfl 27 _ _ rfl b 0 27 _ (cfL cf0 cfm0) _ rfl rfl rfl A0.out info_cf (by show 0 + 10 ≤ 10; omega) cf0_one ?_; intro wA hb1 ho1; have B0 := Go.Lib.hid (show Bxo wA b 27 (cfL cf0 cfm0) from hb1); have B1 := Go.Lib.hid (A1.out.only ho1 (by omega)); have B2 := Go.Lib.hid (A2.out.only ho1 (by omega)); have H1 := Go.Lib.hid ho1; clear hb1 ho1)
        | (clear tok3; refine wpList_store_any rfl 30 _ _ rfl (b + 1) 0 30 _ [.int .i64 1] _ rfl rfl rfl B1.out info_er15 (by show 0 + 1 ≤ 1; omega) (by intro u hu; rw [List.mem_singleton.1 hu]; rfl) ?_; intro wB hb1 ho1; have C0 := Go.Lib.hid (B0.out.only ho1 (by omega)); have C1 := Go.Lib.hid (show Bxo wB (b + 1) 30 [.int .i64 1] from hb1); have C2 := Go.Lib.hid (B2.out.only ho1 (by omega)); have H2 := Go.Lib.hid ho1; clear hb1 ho1)
        | (clear tok4; refine wpList_store_any rfl 3 _ _ rfl (b + 2) 0 3 _ [.int .i64 0] _ rfl rfl rfl C2.out info_i1 (by show 0 + 1 ≤ 1; omega) (by intro u hu; rw [List.mem_singleton.1 hu]; rfl) ?_; intro wC hb1 ho1; have D0 := Go.Lib.hid (C0.out.only ho1 (by omega)); have D1 := Go.Lib.hid (C1.out.only ho1 (by omega)); have D2 := Go.Lib.hid (show Bxo wC (b + 2) 3 [.int .i64 0] from hb1); have H3 := Go.Lib.hid ho1; clear hb1 ho1))
      have hk4 : wC.heap[WB.heap.size]? = some (.deferred (some [])) := (H3.out.block _ (by omega)).trans ((H2.out.block _ (by omega)).trans ((H1.out.block _ (by omega)).trans AK.out))
      have e0 := put_bxo D0.out (.deferred none) (show b ≠ WB.heap.size by omega)
      have e1 := put_bxo D1.out (.deferred none) (show b + 1 ≠ WB.heap.size by omega)
      have e2 := put_bxo D2.out (.deferred none) (show b + 2 ≠ WB.heap.size by omega)
      have bel := ((((HI.out.bel.trans (Y7.out.mono (by have := HI.out.sz; omega))).trans (H1.out.below (Nat.le_refl _))).trans (H2.out.below (by omega))).trans (H3.out.below (by omega))).trans ((put_gro wC WB.heap.size (.deferred none)).below (B := b) (by omega) (by rw [H3.out.size, H2.out.size, H1.out.size]; have := HI.out.sz; have := Y7.out.size; omega))
      have c1 := e1.cell 0 rfl
      have c2 := e2.cell 0 rfl
      have tb5 := HT.out.at (by rw [hb]; exact bel)
      have hfin : PaOut q w (.returned (.tuple #[cfV cf0 cfm0, .int .i64 1, .int .i64 0])) (wC.putObj WB.heap.size (.deferred none)) := by
        exact pa_zero HQ2.out tb5 (by rw [hb]; exact bel)
      rw [hsz] at hk4 e0 e1 e2 hfin
      refine ⟨by simp, .inl ⟨_, _, rfl, run_takeDeferred hk4, ?_⟩⟩
      exact ⟨_, pa_ret rfl rfl rfl e0 e1 e2, hfin⟩
    · go_upto_region 13 with (first
        | (clear tok1; refine wpList_load_at rfl 27 _ rfl ⟨b + 3, 0, none⟩ rfl (cfL c p) _ HD.out.box.at Tryz.underlying27 rfl info_cf ?_)
        | (go_at_call 10; refine (kR c p W (HD.out.cf HI.out.tb) _ HR.out).mono ?_; rintro e w7 ⟨rfl, y7⟩; dsimp only))
      have A0 := Go.Lib.hid (HI.out.b0.keep y7 HI.out.b0.lt)
      have A1 := Go.Lib.hid (HI.out.b1.keep y7 HI.out.b1.lt)
      have A2 := Go.Lib.hid (HI.out.b2.keep y7 HI.out.b2.lt)
      have c47 := (HI.out.b4.keep y7 HI.out.b4.lt).cell 0 rfl
      have AK : Hid (w7.heap[WB.heap.size]? = some (.deferred (some []))) := Go.Lib.hid ((y7.block _ (at_lt HK.out)).trans HK.out)
      have Y7 := Go.Lib.hid y7
      have tok2 : True := trivial
      have tok5 : True := trivial
      have D7 := Go.Lib.hid (HD.out.at Y7.out)
      have HONE : Hid (∀ u ∈ cfL c p, u.oneCell' = true) := Go.Lib.hid (cfL_one c p)
      have tok3 : True := trivial
      have tok4 : True := trivial
      clear y7
      go_wp2_with (first
        | (clear tok5; refine wpList_load_at rfl 27 _ rfl ⟨b + 3, 0, none⟩ rfl (cfL c p) _ D7.out.box.at Tryz.underlying27 rfl info_cf ?_)
        | (clear tok2; refine wpList_store_any rfl 27 _ _ rfl b 0 27 _ (cfL c p) _ rfl rfl rfl A0.out info_cf (by show 0 + 10 ≤ 10; omega) HONE.out ?_; intro wA hb1 ho1; have B0 := Go.Lib.hid (show Bxo wA b 27 (cfL c p) from hb1); have B1 := Go.Lib.hid (A1.out.only ho1 (by omega)); have B2 := Go.Lib.hid (A2.out.only ho1 (by omega)); have H1 := Go.Lib.hid ho1; have E1 := Go.Lib.hid (D7.out.gro ho1.gro (by omega) (norow_low D7.out (by omega))); clear hb1 ho1)
        | (clear tok3; refine wpList_store_any rfl 30 _ _ rfl (b + 1) 0 30 _ [.int .i64 0] _ rfl rfl rfl B1.out info_er15 (by show 0 + 1 ≤ 1; omega) (by intro u hu; rw [List.mem_singleton.1 hu]; rfl) ?_; intro wB hb1 ho1; have C0 := Go.Lib.hid (B0.out.only ho1 (by omega)); have C1 := Go.Lib.hid (show Bxo wB (b + 1) 30 [.int .i64 0] from hb1); have C2 := Go.Lib.hid (B2.out.only ho1 (by omega)); have H2 := Go.Lib.hid ho1; have E2 := Go.Lib.hid (E1.out.gro ho1.gro (by omega) (norow_low E1.out (by omega))); clear hb1 ho1)
        | (clear tok4; refine wpList_store_any rfl 3 _ _ rfl (b + 2) 0 3 _ [.int .i64 0] _ rfl rfl rfl C2.out info_i1 (by show 0 + 1 ≤ 1; omega) (by intro u hu; rw [List.mem_singleton.1 hu]; rfl) ?_; intro wC hb1 ho1; have D0 := Go.Lib.hid (C0.out.only ho1 (by omega)); have D1 := Go.Lib.hid (C1.out.only ho1 (by omega)); have D2 := Go.Lib.hid (show Bxo wC (b + 2) 3 [.int .i64 0] from hb1); have H3 := Go.Lib.hid ho1; have E3 := Go.Lib.hid (E2.out.gro ho1.gro (by omega) (norow_low E2.out (by omega))); clear hb1 ho1))
      have hk4 : wC.heap[WB.heap.size]? = some (.deferred (some [])) := (H3.out.block _ (by omega)).trans ((H2.out.block _ (by omega)).trans ((H1.out.block _ (by omega)).trans AK.out))
      have e0 := put_bxo D0.out (.deferred none) (show b ≠ WB.heap.size by omega)
      have e1 := put_bxo D1.out (.deferred none) (show b + 1 ≠ WB.heap.size by omega)
      have e2 := put_bxo D2.out (.deferred none) (show b + 2 ≠ WB.heap.size by omega)
      have bel := ((((HI.out.bel.trans (Y7.out.mono (by have := HI.out.sz; omega))).trans (H1.out.below (Nat.le_refl _))).trans (H2.out.below (by omega))).trans (H3.out.below (by omega))).trans ((put_gro wC WB.heap.size (.deferred none)).below (B := b) (by omega) (by rw [H3.out.size, H2.out.size, H1.out.size]; have := HI.out.sz; have := Y7.out.size; omega))
      have c1 := e1.cell 0 rfl
      have c2 := e2.cell 0 rfl
      have tb5 := HT.out.at (by rw [hb]; exact bel)
      have E5 := E3.out.gro (put_gro wC WB.heap.size (.deferred none)) (by omega) (norow_not E3.out hk4 rfl)
      have hfr := E5.fresh
      have hfin : PaOut q w (.returned (.tuple #[cfV c p, .int .i64 0, .int .i64 0])) (wC.putObj WB.heap.size (.deferred none)) := by
        have hq2 : (c, (0 : Int), (0 : Int)) = q := HQ2.out
        subst hq2
        exact ⟨⟨p, rfl, E5.cf tb5, ⟨fun ad e => by have := hfr.a1 ad e; omega, fun ad e => by have := hfr.a2 ad e; omega, fun ad e => by have := hfr.a3 ad e; omega⟩⟩, by rw [hb]; exact bel⟩
      rw [hsz] at hk4 e0 e1 e2 hfin
      refine ⟨by simp, .inl ⟨_, _, rfl, run_takeDeferred hk4, ?_⟩⟩
      exact ⟨_, pa_ret rfl rfl rfl e0 e1 e2, hfin⟩
  case stop =>
    intro c pre W hp hx hk
    obtain rfl := hx.is
    obtain ⟨e, k, x0, x1, x2, hl⟩ := hx.out
    obtain ⟨tt, htt⟩ := hp
    have hq : (cf0, e, k) = q := by
      rw [← HQ.out]
      unfold parseP
      rw [← htt]
      exact (hl tt).symm
    have hk4 := hk
    have e0 := put_bxo x0 (.deferred none) (show b ≠ WB.heap.size by omega)
    have e1 := put_bxo x1 (.deferred none) (show b + 1 ≠ WB.heap.size by omega)
    have e2 := put_bxo x2 (.deferred none) (show b + 2 ≠ WB.heap.size by omega)
    have bel := hx.bel.trans ((put_gro W WB.heap.size (.deferred none)).below (B := b) (by omega) (by have := hx.sz; omega))
    have tb5 := HT.out.at (by rw [hb]; exact bel)
    have hfin := pa_zero (w := w) hq tb5 (by rw [hb]; exact bel)
    clear hk hl hx x0 x1 x2 htt hq bel tb5
    gi_wp2
    refine ⟨by simp, .inl ⟨_, _, rfl, run_takeDeferred hk4, ?_⟩⟩
    exact ⟨_, pa_ret rfl rfl rfl e0 e1 e2, hfin⟩
end Go.Proofs.YtoghcefamoefpaaGreatDoor

/- The landed conf: forwards: one by itself; a port among them. -/
namespace Go.Proofs.YtoghcefamoefpaaGreatDoor
open Go.ChangeShapes Go.WideShapes Go.ChangeAt Go.RowKit
set_option linter.unusedVariables false
set_option linter.unusedSimpArgs false

def mayF (f : Fw) : Bool := (f.proto == 6 || f.proto == 17) && ((!f.proxy || f.proto == 6) && (btw 1 f.port 65535 && btw 1 f.to 65535))
theorem okF_may (lo hi : Int) (f : Fw) : okF lo hi f = (mayF f && !btw lo f.port hi) := by
  unfold okF mayF
  cases (f.proto == 6 || f.proto == 17) <;> cases (!f.proxy || f.proto == 6) <;> cases btw 1 f.port 65535 <;> cases btw 1 f.to 65535 <;> rfl
set_option maxRecDepth 100000 in
set_option maxHeartbeats 4000000 in
theorem cmay15 (f : Fw) (w : World) (q : Bool) (hq : mayF f = q) : Calls Tryz.prog 42 #[fwV f] w fun e w' => e = .returned (.bool q) ∧ Below w.heap.size w w' := by
  obtain ⟨proto, port, addr, to_, proxy⟩ := f
  obtain ⟨a, ha⟩ : ∃ a, btw 1 port 65535 = a := ⟨_, rfl⟩
  obtain ⟨b, hb⟩ : ∃ b, btw 1 to_ 65535 = b := ⟨_, rfl⟩
  have HQ0 : Hid (((proto == 6 || proto == 17) && ((!proxy || proto == 6) && (a && b))) = q) := Go.Lib.hid (by rw [← hq, ← ha, ← hb]; rfl)
  have HA := Go.Lib.hid ha
  have HB := Go.Lib.hid hb
  have y0 : Below w.heap.size w (w.alloc (oFw ⟨proto, port, addr, to_, proxy⟩)) := (Below.refl _ _).alloc (Nat.le_refl _) _
  have hb := Bxo.made w 40 (fwL ⟨proto, port, addr, to_, proxy⟩)
  clear hq ha hb
  have hb := Bxo.made w 40 (fwL ⟨proto, port, addr, to_, proxy⟩)
  go_enter Tryz.func42, Tryz.ntmps42
  go_upto_region 1 with fail
  generalize w.alloc (oFw ⟨proto, port, addr, to_, proxy⟩) = W at *
  have c0 := hb.cell 0 rfl
  have c1 := hb.cell 1 rfl
  have c3 := hb.cell 3 rfl
  have c4 := hb.cell 4 rfl
  dsimp only at c0 c1 c3 c4
  clear hb
  by_cases h6 : proto = 6
  · have t6 : (proto != 6) = false := by simp [h6]
    have HQ : Hid (q = (a && b)) := Go.Lib.hid (by rw [← HQ0.out]; simp [h6])
    clear h6 HQ0
    cases a
    · go_wp2_with (go_at_call 29; refine (cfrom15 port 1 65535 _ _ HA.out).mono ?_; rintro e w3 ⟨rfl, rfl⟩; dsimp only)
      go_ret
      exact ⟨by rw [HQ.out]; rfl, y0⟩
    · go_wp2_with (first
        | (go_at_call_of 29 ([Value.int IntKind.i64 port, Value.int IntKind.i64 1, Value.int IntKind.i64 65535]); refine (cfrom15 port 1 65535 _ _ HA.out).mono ?_; rintro e w3 ⟨rfl, rfl⟩; dsimp only)
        | (go_at_call 29; refine (cfrom15 to_ 1 65535 _ _ HB.out).mono ?_; rintro e w4 ⟨rfl, rfl⟩; dsimp only))
      go_ret
      exact ⟨by rw [HQ.out]; rfl, y0⟩
  · have t6 : (proto != 6) = true := by simp [h6]
    by_cases h17 : proto = 17
    · have t17 : (proto != 17) = false := by simp [h17]
      cases proxy
      · have HQ : Hid (q = (a && b)) := Go.Lib.hid (by rw [← HQ0.out]; simp [h17])
        clear h6 h17 HQ0
        cases a
        · go_wp2_with (go_at_call 29; refine (cfrom15 port 1 65535 _ _ HA.out).mono ?_; rintro e w3 ⟨rfl, rfl⟩; dsimp only)
          go_ret
          exact ⟨by rw [HQ.out]; rfl, y0⟩
        · go_wp2_with (first
            | (go_at_call_of 29 ([Value.int IntKind.i64 port, Value.int IntKind.i64 1, Value.int IntKind.i64 65535]); refine (cfrom15 port 1 65535 _ _ HA.out).mono ?_; rintro e w3 ⟨rfl, rfl⟩; dsimp only)
            | (go_at_call 29; refine (cfrom15 to_ 1 65535 _ _ HB.out).mono ?_; rintro e w4 ⟨rfl, rfl⟩; dsimp only))
          go_ret
          exact ⟨by rw [HQ.out]; rfl, y0⟩
      · have HQ : Hid (q = false) := Go.Lib.hid (by rw [← HQ0.out]; simp [h17])
        clear h6 h17 HQ0
        go_wp2_with fail
        go_ret
        exact ⟨by rw [HQ.out]; rfl, y0⟩
    · have t17 : (proto != 17) = true := by simp [h17]
      have HQ : Hid (q = false) := Go.Lib.hid (by rw [← HQ0.out]; simp [h6, h17])
      clear h6 h17 HQ0
      go_wp2_with fail
      go_ret
      exact ⟨by rw [HQ.out]; rfl, y0⟩
/-- a port among forwards. -/
theorem anyF_no {l : List Fw} {r : Fw} (h : ∀ j, j < l.length → sameFP (atF l j) r = false) : l.any (sameFP · r) = false := by
  rw [List.any_eq_false]
  intro x hx
  obtain ⟨j, hj, rfl⟩ := List.getElem_of_mem hx
  have := h j hj
  rw [atF_get hj] at this
  rw [this]
  simp
set_option maxRecDepth 100000 in
set_option maxHeartbeats 4000000 in
theorem chasP (l : List Fw) (A : Option Addr) (c N : Nat) (hN : l.length = N) (r : Fw) (w : World) (h : FwsAt w l A c) (q : Bool) (hq : l.any (sameFP · r) = q) :
    Calls Tryz.prog 43 #[.slice A N c, fwV r] w fun e w' => e = .returned (.bool q) ∧ Below w.heap.size w w' := by
  subst hN
  have HQ0 := Go.Lib.hid hq
  have HC := Go.Lib.hid h
  have hlc := h.len
  have hcc := h.cap
  have y0 : Below w.heap.size w (w.alloc (oFw r)) := (Below.refl _ _).alloc (Nat.le_refl _) _
  have hb := Bxo.made w 40 (fwL r)
  clear hq h
  go_enter Tryz.func43, Tryz.ntmps43
  go_upto_region 1 with fail
  generalize w.alloc (oFw r) = W at *
  have HB := Go.Lib.hid (show Bxo W w.heap.size 40 (fwL r) from hb)
  clear hb
  go_wp2_with fail
  go_loopw [9] (fun iv wr => ∃ k : Nat, iv = .int .i64 k ∧ k ≤ l.length ∧ Hid (∀ j, j < k → sameFP (atF l j) r = false) ∧ Below W.heap.size W wr) (fun iv _ => l.length - (intOf iv).toNat)
  case atStart => exact ⟨0, rfl, by omega, Go.Lib.hid (fun j hj => by omega), Below.refl _ _⟩
  case round =>
    rename World => wo
    obtain ⟨k, rfl, hk, HK, yo⟩ := hrel
    have k0 : (0 : Int) ≤ (k : Int) := by omega
    have xo := y0.trans (yo.mono y0.size)
    by_cases hkl : k < l.length
    · have t1 : (k : Int) < (l.length : Int) := by omega
      obtain ⟨ad, rfl, hcell⟩ := HC.out.cell hkl
      obtain ⟨s, hs⟩ : ∃ s, l[k] = s := ⟨_, rfl⟩
      have HS : Hid (atF l k = s) := Go.Lib.hid (by rw [atF_get hkl]; exact hs)
      rw [hs] at hcell
      have HW := Go.Lib.hid (hcell wo xo)
      have y2 : Below W.heap.size W (wo.alloc (oFw s)) := below_alloc yo yo.size _
      have x2 : Below w.heap.size w (wo.alloc (oFw s)) := below_alloc xo xo.size _
      have hbx := Bxo.made wo 40 (fwL s)
      have HBo := Go.Lib.hid (HB.out.keep y2 HB.out.lt)
      clear hcell hs
      go_upto_region 4 with (refine wpList_load_at rfl 40 _ rfl (ad.add (k * 5)) rfl (fwL s) _ HW.out Tryz.underlying40 rfl info_fw ?_)
      generalize wo.alloc (oFw s) = W2 at *
      generalize wo.heap.size = g2 at *
      have HS2 := Go.Lib.hid (show Bxo W2 g2 40 (fwL s) from hbx)
      obtain ⟨net, bits, zone, mtu, mpx⟩ := r
      obtain ⟨snet, sbits, sz, sm, spx⟩ := s
      have c0 := HBo.out.cell 0 rfl
      have c1 := HBo.out.cell 1 rfl
      have d0 := HS2.out.cell 0 rfl
      have d1 := HS2.out.cell 1 rfl
      dsimp only at c0 c1 d0 d1
      clear hbx HW
      by_cases b1 : snet = net
      · have t4 : (snet == net) = true := by simpa using b1
        by_cases b2 : sbits = bits
        · have t5 : (sbits == bits) = true := by simpa using b2
          have HQ : Hid (q = true) := Go.Lib.hid (by
            rw [← HQ0.out, List.any_eq_true]
            exact ⟨l[k], List.getElem_mem hkl, by rw [← atF_get hkl, HS.out]; exact (sameFP_iff _ _).2 ⟨b1, b2⟩⟩)
          clear b1 b2
          go_wp2
          go_ret
          exact ⟨by rw [HQ.out]; rfl, x2⟩
        · have t5 : (sbits == bits) = false := by simpa using b2
          have HNE := Go.Lib.hid b2
          clear b1 b2
          go_wp2
          go_round
          case rel => exact ⟨k + 1, by go_num, by omega, Go.Lib.hid (fun j hj => by
            by_cases e : j = k
            · rw [e, HS.out]
              cases hx : sameFP ⟨snet, sbits, sz, sm, spx⟩ ⟨net, bits, zone, mtu, mpx⟩
              · rfl
              · exact absurd ((sameFP_iff _ _).1 hx).2 HNE.out
            · exact HK.out j (by omega)), y2⟩
          case measure => simp [intOf]; omega
      · have t4 : (snet == net) = false := by simpa using b1
        have HNE := Go.Lib.hid b1
        clear b1
        go_wp2
        go_round
        case rel => exact ⟨k + 1, by go_num, by omega, Go.Lib.hid (fun j hj => by
          by_cases e : j = k
          · rw [e, HS.out]
            cases hx : sameFP ⟨snet, sbits, sz, sm, spx⟩ ⟨net, bits, zone, mtu, mpx⟩
            · rfl
            · exact absurd ((sameFP_iff _ _).1 hx).1 HNE.out
          · exact HK.out j (by omega)), y2⟩
        case measure => simp [intOf]; omega
    · obtain rfl : k = l.length := by omega
      have t1 : ¬ (l.length : Int) < (l.length : Int) := by omega
      have HQ : Hid (q = false) := Go.Lib.hid (by rw [← HQ0.out]; exact anyF_no (fun j hj => HK.out j hj))
      go_wp2_with fail
      go_ret
      exact ⟨by rw [HQ.out]; rfl, xo⟩
end Go.Proofs.YtoghcefamoefpaaGreatDoor
