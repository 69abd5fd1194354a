/- RulesBehind, from the contracts. -/
import Derived.Test.YtacohanlpgkdeaaRulesL0
import Derived.Test.YtacohanlpgkdeaaAppK
import Derived.Deep.RegionHeld3
import Derived.Deep.DeepCutAuto
namespace Go.Proofs.Ytacohanlpgkdeaa
open Go.ChangeShapes Go.WideShapes Go.ChangeAt Go.RowKit
set_option linter.unusedVariables false
set_option linter.unusedSimpArgs false

theorem OwR.one (w : World) (base : Nat) (e : TypeId) (cs : List Value) {k : Nat} (hb : base ≤ w.heap.size) (hk : cs.length = k) : OwR base e k (some ⟨w.heap.size, 0, none⟩) 1 1 cs (w.alloc (.cells cs.toArray e)) :=
  ⟨own_shut (cur := cs) (heap_alloc_new w _) (by omega) (by rw [Nat.one_mul, ← hk, List.take_length]) hb (Nat.le_refl _) (by unfold maxLen; omega) (by omega)⟩
theorem ask_range {l : List Ru} {f t : Int} {tp : Tp} {a b : Int} (h : askU l f t tp = (a, b)) : b < (l.length : Int) ∧ -1 ≤ b := by
  unfold askU at h
  split at h
  · rcases first_cases (fitsU · f t tp) l with ⟨i, hi, _, _, hf⟩ | ⟨_, hf⟩
    · rw [hf] at h
      injection h with _ h
      omega
    · rw [hf] at h
      injection h with _ h
      omega
  · injection h with _ h
    omega
set_option maxRecDepth 100000 in
set_option maxHeartbeats 16000000 in
theorem rulesBehind (kA0 : AwakeC14) (kR0 : RightC14) (kT0 : FitsC14) (kQ0 : AskC14) (L : List Ru) (A : Option Addr) (c : Nat) (r : Ru) (f t : Int) (tp : Tp) (hr : RngRu r) (ht : RngTp tp) (w : World) (h : RusAt w L A c) :
    Calls Try.prog 5 #[.slice A L.length c, ruV r, .int .i64 f, .int .i64 t, tpV tp] w fun e w' => e = .returned (.bool true) ∧ Below w.heap.size w w' := by
  have kA := Go.Lib.hid kA0
  have kR := Go.Lib.hid kR0
  have kT := Go.Lib.hid kT0
  have kQ := Go.Lib.hid kQ0
  have HL := Go.Lib.hid h
  have hlc := h.len
  have hcc := h.cap
  have HRR := Go.Lib.hid hr
  have HTT := Go.Lib.hid ht
  have y0 : Below w.heap.size w ((w.alloc (oRu r)).alloc (oTp tp)) := below_alloc (below_alloc (Below.refl _ _) (Nat.le_refl _) _) (by simp) _
  have h1 := (Bxo.made w 25 (ruL r)).alloc (oTp tp)
  have h2 : Bxo ((w.alloc (oRu r)).alloc (oTp tp)) (w.heap.size + 1) 27 (tpL tp) := by
    have := Bxo.made (w.alloc (oRu r)) 27 (tpL tp)
    simpa using this
  clear h hr ht kA0 kR0 kT0 kQ0
  go_enter Try.func5, Try.ntmps5
  go_upto_region 1 with fail
  generalize ((w.alloc (oRu r)).alloc (oTp tp)) = W at *
  have HRW := Go.Lib.hid h1
  have HTW := Go.Lib.hid h2
  clear h1 h2
  go_upto_region 3 with (go_at_call 7; refine (kA.out _).mono ?_; rintro e w1 ⟨rfl, y1⟩; dsimp only)
  have x1 := y0.trans (y1.mono y0.size)
  have HR1 := Go.Lib.hid (HRW.out.keep y1 HRW.out.lt)
  have HT1 := Go.Lib.hid (HTW.out.keep y1 HTW.out.lt)
  clear y1 HRW HTW
  obtain ⟨b, hb⟩ : ∃ q, rightU (L ++ [r]) = q := ⟨_, rfl⟩
  have HB := Go.Lib.hid hb
  by_cases h60 : 60 < L.length
  · have t60 : (60 : Int) < (L.length : Int) := by omega
    go_quiet (fail)
    go_wp2
    go_ret
    exact ⟨rfl, below_dn x1 _⟩
  have t60 : ¬ (60 : Int) < (L.length : Int) := by omega
  obtain ⟨i0_, hi_, hz0, hz1, hz2⟩ := info_parts info_ruz
  have HLL : Hid ((L.flatMap Ru.L).length = L.length * 10) := Go.Lib.hid (flat_len Ru.L 10 Ru.len L)
  have HLN : Hid (A = none → c = 0 ∧ L.length = 0) := Go.Lib.hid (fun e => by have := HL.out.nil e; omega)
  have HRD : Hid (∀ Y, Below w1.heap.size w1 Y → RdC Y A (L.flatMap Ru.L)) := Go.Lib.hid (fun Y y => HL.out.rd.keep (x1.trans (y.mono x1.size)))
  have HN8 : Hid ((L ++ [r]).length = L.length + 1) := Go.Lib.hid (by rw [List.length_append]; rfl)
  have HNC : Hid ((r :: L).length = 1 + L.length) := Go.Lib.hid (by rw [List.length_cons, Nat.add_comm])
  clear hb
  go_cut [32] (fun s wx => s = .bool (!b) ∧ Below w1.heap.size w1 wx)
  case first =>
    try simp only [Act.put, List.setIfInBounds_toArray, List.set_cons_zero, List.set_cons_succ]
    refine wp_region_held_drew (S := fun Y => Below w1.heap.size w1 Y) (by kernel_rfl) ?_ (fun hHeld => ?_)
    · exact below_drew (Below.refl _ _)
    refine wpAnyH_take (i := 0) (oi := ⟨some 20, _, _, _, _, _⟩) (v := ?_) rfl (by kernel_rfl) (by kernel_rfl) (by kernel_rfl) (fun _ _ _ h => h) (Or.inl ⟨by rfl, ?_⟩) (by assumption) ?_
    rotate_left
    · intro w hSw; (try dsimp only at hSw); go_simp; (try with_reducible rfl)
    try simp only [Act.put, List.setIfInBounds_toArray, List.set_cons_zero, List.set_cons_succ]
    refine wpAnyH_take (i := 1) (oi := ⟨some 21, _, _, _, _, _⟩) (v := ?_) rfl (by kernel_rfl) (by kernel_rfl) (by kernel_rfl) (fun _ _ _ h => h) (Or.inl ⟨by rfl, ?_⟩) (by assumption) ?_
    rotate_left
    · intro w hSw; (try dsimp only at hSw); go_simp; (try with_reducible rfl)
    try simp only [Act.put, List.setIfInBounds_toArray, List.set_cons_zero, List.set_cons_succ]
    refine wpAnyH_take (i := 2) (oi := ⟨some 22, _, _, _, _, _⟩) (v := ?_) rfl (by kernel_rfl) (by kernel_rfl) (by kernel_rfl) (fun _ _ _ h => h) (Or.inl ⟨by rfl, ?_⟩) (by assumption) ?_
    rotate_left
    · intro w hSw; (try dsimp only at hSw); go_simp; (try with_reducible rfl)
    try simp only [Act.put, List.setIfInBounds_toArray, List.set_cons_zero, List.set_cons_succ]
    refine wpAnyH_take (i := 3) (oi := ⟨some 23, _, _, _, _, _⟩) (v := ?_) rfl (by kernel_rfl) (by kernel_rfl) (by kernel_rfl) (fun _ _ _ h => h) (Or.inl ⟨by rfl, ?_⟩) (by assumption) ?_
    rotate_left
    · intro w hSw; (try dsimp only at hSw); go_simp; (try with_reducible rfl)
    try simp only [Act.put, List.setIfInBounds_toArray, List.set_cons_zero, List.set_cons_succ]
    refine wpAnyH_take (i := 5) (oi := ⟨some 25, _, _, _, _, _⟩) (v := ?_) rfl (by kernel_rfl) (by kernel_rfl) (by kernel_rfl) (fun _ _ _ h => h) (Or.inl ⟨by rfl, ?_⟩) (by assumption) ?_
    rotate_left
    · intro w hSw; (try dsimp only at hSw); go_simp; (try with_reducible rfl)
    try simp only [Act.put, List.setIfInBounds_toArray, List.set_cons_zero, List.set_cons_succ]
    refine wpAnyH_take (i := 7) (oi := ⟨some 27, _, _, _, _, _⟩) (v := (ruV r)) rfl (by kernel_rfl) (by kernel_rfl) (by kernel_rfl) (fun _ _ _ h => h) (yieldsIf_load_at (by rfl) 25 _ rfl ⟨w.heap.size, 0, none⟩ rfl (ruL r) _ (fun Y h => (HR1.out.keep h HR1.out.lt).at) Try.underlying25 rfl info_ru) (by assumption) ?_
    try simp only [Act.put, List.setIfInBounds_toArray, List.set_cons_zero, List.set_cons_succ]
    refine wpAnyH_ready (rs := [4, 8]) (by kernel_rfl) (by simp) (AllReadyH.cons (o := ⟨some 24, _, _, _, _, _⟩) rfl (fun Kc hKc => ?_) (AllReadyH.cons (o := ⟨some 28, _, _, _, _, _⟩) rfl (fun Kc hKc => ?_) AllReadyH.nil))
    ·
      go_simp
      have yA : Below w1.heap.size w1 ((w1.alloc (.cells #[] 25)).drew) := below_drew ((Below.refl _ _).alloc (Nat.le_refl _) _); have HE := Go.Lib.hid (OwR.drew (OwR.made w1 w1.heap.size 25 10 (show w1.heap.size ≤ w1.heap.size from hHeld.size))); have YA : Hid (Below w1.heap.size w1 ((w1.alloc (.cells #[] 25)).drew)) := Go.Lib.hid (yA); generalize (w1.alloc (.cells #[] 25)).drew = wA at *
      refine hKc.out _ _ (YA.out) (fun hHeld => ?_)
      clear hKc Kc
      try simp only [Act.put, List.setIfInBounds_toArray, List.set_cons_zero, List.set_cons_succ]
      refine wpAnyH_ready (rs := [6, 8]) (by kernel_rfl) (by simp) (AllReadyH.cons (o := ⟨some 26, _, _, _, _, _⟩) rfl (fun Kc hKc => ?_) (AllReadyH.cons (o := ⟨some 28, _, _, _, _, _⟩) rfl (fun Kc hKc => ?_) AllReadyH.nil))
      ·
        rw [if_pos (by rfl)]
        refine step_append_rdK _ _ 22 rfl w1.heap.size 25 i0_ _ 10 72 Try.underlying22 hi_ hz0 hz1 hz2 rfl (by omega) (.slice (some ⟨w1.heap.size, 0, none⟩) 0 0) 0 [] rfl HE.out.own A L.length c (L.flatMap Ru.L) rfl HLL.out HLN.out (HRD.out _ hHeld) (ru_one _) (by unfold maxLen; omega) (by omega) hHeld.size ?_; intro v7 w7 ho7 hg7 hat7; rw [Nat.zero_add, List.nil_append] at ho7; obtain ⟨A7, c7, rfl⟩ := own_slice ho7; rw [ownBlock_blk] at hg7; have H7 : Hid (OwR w1.heap.size 25 10 A7 L.length c7 (L.flatMap Ru.L) w7) := Go.Lib.hid ⟨ho7⟩; have y7 := grownW hg7 HE.out.ge hHeld.size; clear ho7 hg7 hat7
        refine hKc.out _ _ (hHeld.trans y7) (fun hHeld => ?_)
        clear hKc Kc
        try simp only [Act.put, List.setIfInBounds_toArray, List.set_cons_zero, List.set_cons_succ]
        refine wpAnyH_ready (rs := [8]) (by kernel_rfl) (by simp) (AllReadyH.cons (o := ⟨some 28, _, _, _, _, _⟩) rfl (fun Kc hKc => ?_) AllReadyH.nil)
        go_simp
        have yB : Below w7.heap.size w7 (w7.alloc (.cells #[.int .i64 r.fr, .int .i64 r.to, .int .i64 r.proto, .int .u32 r.src, .int .u32 r.dst, .int .i64 r.sbits, .int .i64 r.dbits, .int .i64 r.lo, .int .i64 r.hi, .int .i64 r.act] 25)) := (Below.refl _ _).alloc (Nat.le_refl _) _; have HV := Go.Lib.hid (show Bxo (w7.alloc (.cells #[.int .i64 r.fr, .int .i64 r.to, .int .i64 r.proto, .int .u32 r.src, .int .u32 r.dst, .int .i64 r.sbits, .int .i64 r.dbits, .int .i64 r.lo, .int .i64 r.hi, .int .i64 r.act] 25)) w7.heap.size 25 (ruL r) from Bxo.made w7 25 (ruL r)); have H7 := Go.Lib.hid (H7.out.at yB); have YB : Hid (Below w1.heap.size w1 (w7.alloc (.cells #[.int .i64 r.fr, .int .i64 r.to, .int .i64 r.proto, .int .u32 r.src, .int .u32 r.dst, .int .i64 r.sbits, .int .i64 r.dbits, .int .i64 r.lo, .int .i64 r.hi, .int .i64 r.act] 25))) := Go.Lib.hid (hHeld.trans (yB.mono hHeld.size)); generalize w7.alloc (.cells #[.int .i64 r.fr, .int .i64 r.to, .int .i64 r.proto, .int .u32 r.src, .int .u32 r.dst, .int .i64 r.sbits, .int .i64 r.dbits, .int .i64 r.lo, .int .i64 r.hi, .int .i64 r.act] 25) = wB at *
        refine hKc.out _ _ (YB.out) (fun hHeld => ?_)
        clear hKc Kc
        try simp only [Act.put, List.setIfInBounds_toArray, List.set_cons_zero, List.set_cons_succ]
        refine wpAnyH_ready (rs := [9]) (by kernel_rfl) (by simp) (AllReadyH.cons (o := ⟨some 29, _, _, _, _, _⟩) rfl (fun Kc hKc => ?_) AllReadyH.nil)
        rw [if_pos (by rfl)]
        refine step_append_rdK _ _ 22 rfl w1.heap.size 25 i0_ _ 10 72 Try.underlying22 hi_ hz0 hz1 hz2 rfl (by omega) (.slice A7 L.length c7) L.length (L.flatMap Ru.L) rfl H7.out.own (some ⟨w7.heap.size, 0, none⟩) 1 1 (ruL r) rfl rfl (fun e => by cases e) (.inr ⟨_, rfl, HV.out.at⟩) (by simp [Value.oneCell']) (by unfold maxLen; omega) (by omega) hHeld.size ?_; intro v8 w8 ho8 hg8 hat8; obtain ⟨A8, c8, rfl⟩ := own_slice ho8; rw [ownBlock_blk] at hg8; have H8 : Hid (OwR w1.heap.size 25 10 A8 (L.length + 1) c8 (L.flatMap Ru.L ++ ruL r) w8) := Go.Lib.hid ⟨ho8⟩; have y8 := grownW hg8 H7.out.ge hHeld.size; clear ho8 hg8 hat8
        refine hKc.out _ _ (hHeld.trans y8) (fun hHeld => ?_)
        clear hKc Kc
        try simp only [Act.put, List.setIfInBounds_toArray, List.set_cons_zero, List.set_cons_succ]
        refine wpAnyH_ready (rs := [10]) (by kernel_rfl) (by simp) (AllReadyH.cons (o := ⟨some 30, _, _, _, _, _⟩) rfl (fun Kc hKc => ?_) AllReadyH.nil)
        go_simp
        have HL8 : Hid (RusAt w8 (L ++ [r]) A8 c8) := Go.Lib.hid (RusAt.ofOwn (by rw [List.length_append, List.length_singleton]) (by rw [List.flatMap_append]; simpa [Ru.L] using H8.out.own) (fun x hx => (List.mem_append.1 hx).elim (HL.out.rng x) (fun e => by rw [List.mem_singleton.1 e]; exact HRR.out))); go_at_call 10; refine (kR.out (L ++ [r]) A8 c8 (L.length + 1) HN8.out (by omega) w8 HL8.out _ HB.out).mono ?_; rintro e w9 ⟨rfl, y9⟩; dsimp only
        refine hKc.out _ _ (hHeld.trans (y9.mono hHeld.size)) (fun hHeld => ?_)
        clear hKc Kc
        try simp only [Act.put, List.setIfInBounds_toArray, List.set_cons_zero, List.set_cons_succ]
        refine wpAnyH_take (i := 11) (oi := ⟨some 31, _, _, _, _, _⟩) (v := ?_) rfl (by kernel_rfl) (by kernel_rfl) (by kernel_rfl) (fun _ _ _ h => h) (Or.inl ⟨by rfl, ?_⟩) (by assumption) ?_
        rotate_left
        · intro w hSw; (try dsimp only at hSw); go_simp; (try with_reducible rfl)
        try simp only [Act.put, List.setIfInBounds_toArray, List.set_cons_zero, List.set_cons_succ]
        refine wpAnyH_take (i := 12) (oi := ⟨some 32, _, _, _, _, _⟩) (v := ?_) rfl (by kernel_rfl) (by kernel_rfl) (by kernel_rfl) (fun _ _ _ h => h) (Or.inl ⟨by rfl, ?_⟩) (by assumption) ?_
        rotate_left
        · intro w hSw; (try dsimp only at hSw); go_simp; (try with_reducible rfl)
        try simp only [Act.put, List.setIfInBounds_toArray, List.set_cons_zero, List.set_cons_succ]
        refine wpAnyH_done (by kernel_rfl) ?_ _
        have yq := hHeld
        clear hHeld
        go_wp2_with fail
        go_meet
        exact ⟨rfl, yq⟩
      ·
        go_simp
        have yB : Below wA.heap.size wA (wA.alloc (.cells #[.int .i64 r.fr, .int .i64 r.to, .int .i64 r.proto, .int .u32 r.src, .int .u32 r.dst, .int .i64 r.sbits, .int .i64 r.dbits, .int .i64 r.lo, .int .i64 r.hi, .int .i64 r.act] 25)) := (Below.refl _ _).alloc (Nat.le_refl _) _; have HV := Go.Lib.hid (show Bxo (wA.alloc (.cells #[.int .i64 r.fr, .int .i64 r.to, .int .i64 r.proto, .int .u32 r.src, .int .u32 r.dst, .int .i64 r.sbits, .int .i64 r.dbits, .int .i64 r.lo, .int .i64 r.hi, .int .i64 r.act] 25)) wA.heap.size 25 (ruL r) from Bxo.made wA 25 (ruL r)); have HNE : Hid (w1.heap.size ≠ wA.heap.size) := Go.Lib.hid (by have := HE.out.lt _ rfl; show w1.heap.size ≠ _; have q : w1.heap.size < wA.heap.size := this; omega); have HE := Go.Lib.hid (HE.out.at yB); have YB : Hid (Below w1.heap.size w1 (wA.alloc (.cells #[.int .i64 r.fr, .int .i64 r.to, .int .i64 r.proto, .int .u32 r.src, .int .u32 r.dst, .int .i64 r.sbits, .int .i64 r.dbits, .int .i64 r.lo, .int .i64 r.hi, .int .i64 r.act] 25))) := Go.Lib.hid (hHeld.trans (yB.mono hHeld.size)); generalize wA.alloc (.cells #[.int .i64 r.fr, .int .i64 r.to, .int .i64 r.proto, .int .u32 r.src, .int .u32 r.dst, .int .i64 r.sbits, .int .i64 r.dbits, .int .i64 r.lo, .int .i64 r.hi, .int .i64 r.act] 25) = wB at *
        refine hKc.out _ _ (YB.out) (fun hHeld => ?_)
        clear hKc Kc
        try simp only [Act.put, List.setIfInBounds_toArray, List.set_cons_zero, List.set_cons_succ]
        refine wpAnyH_ready (rs := [6]) (by kernel_rfl) (by simp) (AllReadyH.cons (o := ⟨some 26, _, _, _, _, _⟩) rfl (fun Kc hKc => ?_) AllReadyH.nil)
        rw [if_pos (by rfl)]
        refine step_append_rdK _ _ 22 rfl w1.heap.size 25 i0_ _ 10 72 Try.underlying22 hi_ hz0 hz1 hz2 rfl (by omega) (.slice (some ⟨w1.heap.size, 0, none⟩) 0 0) 0 [] rfl HE.out.own A L.length c (L.flatMap Ru.L) rfl HLL.out HLN.out (HRD.out _ hHeld) (ru_one _) (by unfold maxLen; omega) (by omega) hHeld.size ?_; intro v7 w7 ho7 hg7 hat7; rw [Nat.zero_add, List.nil_append] at ho7; obtain ⟨A7, c7, rfl⟩ := own_slice ho7; rw [ownBlock_blk] at hg7; have H7 : Hid (OwR w1.heap.size 25 10 A7 L.length c7 (L.flatMap Ru.L) w7) := Go.Lib.hid ⟨ho7⟩; have y7 := grownW hg7 HE.out.ge hHeld.size; have HV := Go.Lib.hid (show Bxo w7 wA.heap.size 25 (ruL r) from (hg7.block _ HV.out.lt (fun e => HNE.out (by injection e with e; exact e.symm))).trans HV.out); clear ho7 hg7 hat7
        refine hKc.out _ _ (hHeld.trans y7) (fun hHeld => ?_)
        clear hKc Kc
        try simp only [Act.put, List.setIfInBounds_toArray, List.set_cons_zero, List.set_cons_succ]
        refine wpAnyH_ready (rs := [9]) (by kernel_rfl) (by simp) (AllReadyH.cons (o := ⟨some 29, _, _, _, _, _⟩) rfl (fun Kc hKc => ?_) AllReadyH.nil)
        rw [if_pos (by rfl)]
        refine step_append_rdK _ _ 22 rfl w1.heap.size 25 i0_ _ 10 72 Try.underlying22 hi_ hz0 hz1 hz2 rfl (by omega) (.slice A7 L.length c7) L.length (L.flatMap Ru.L) rfl H7.out.own (some ⟨wA.heap.size, 0, none⟩) 1 1 (ruL r) rfl rfl (fun e => by cases e) (.inr ⟨_, rfl, HV.out.at⟩) (by simp [Value.oneCell']) (by unfold maxLen; omega) (by omega) hHeld.size ?_; intro v8 w8 ho8 hg8 hat8; obtain ⟨A8, c8, rfl⟩ := own_slice ho8; rw [ownBlock_blk] at hg8; have H8 : Hid (OwR w1.heap.size 25 10 A8 (L.length + 1) c8 (L.flatMap Ru.L ++ ruL r) w8) := Go.Lib.hid ⟨ho8⟩; have y8 := grownW hg8 H7.out.ge hHeld.size; clear ho8 hg8 hat8
        refine hKc.out _ _ (hHeld.trans y8) (fun hHeld => ?_)
        clear hKc Kc
        try simp only [Act.put, List.setIfInBounds_toArray, List.set_cons_zero, List.set_cons_succ]
        refine wpAnyH_ready (rs := [10]) (by kernel_rfl) (by simp) (AllReadyH.cons (o := ⟨some 30, _, _, _, _, _⟩) rfl (fun Kc hKc => ?_) AllReadyH.nil)
        go_simp
        have HL8 : Hid (RusAt w8 (L ++ [r]) A8 c8) := Go.Lib.hid (RusAt.ofOwn (by rw [List.length_append, List.length_singleton]) (by rw [List.flatMap_append]; simpa [Ru.L] using H8.out.own) (fun x hx => (List.mem_append.1 hx).elim (HL.out.rng x) (fun e => by rw [List.mem_singleton.1 e]; exact HRR.out))); go_at_call 10; refine (kR.out (L ++ [r]) A8 c8 (L.length + 1) HN8.out (by omega) w8 HL8.out _ HB.out).mono ?_; rintro e w9 ⟨rfl, y9⟩; dsimp only
        refine hKc.out _ _ (hHeld.trans (y9.mono hHeld.size)) (fun hHeld => ?_)
        clear hKc Kc
        try simp only [Act.put, List.setIfInBounds_toArray, List.set_cons_zero, List.set_cons_succ]
        refine wpAnyH_take (i := 11) (oi := ⟨some 31, _, _, _, _, _⟩) (v := ?_) rfl (by kernel_rfl) (by kernel_rfl) (by kernel_rfl) (fun _ _ _ h => h) (Or.inl ⟨by rfl, ?_⟩) (by assumption) ?_
        rotate_left
        · intro w hSw; (try dsimp only at hSw); go_simp; (try with_reducible rfl)
        try simp only [Act.put, List.setIfInBounds_toArray, List.set_cons_zero, List.set_cons_succ]
        refine wpAnyH_take (i := 12) (oi := ⟨some 32, _, _, _, _, _⟩) (v := ?_) rfl (by kernel_rfl) (by kernel_rfl) (by kernel_rfl) (fun _ _ _ h => h) (Or.inl ⟨by rfl, ?_⟩) (by assumption) ?_
        rotate_left
        · intro w hSw; (try dsimp only at hSw); go_simp; (try with_reducible rfl)
        try simp only [Act.put, List.setIfInBounds_toArray, List.set_cons_zero, List.set_cons_succ]
        refine wpAnyH_done (by kernel_rfl) ?_ _
        have yq := hHeld
        clear hHeld
        go_wp2_with fail
        go_meet
        exact ⟨rfl, yq⟩
    ·
      go_simp
      have yB : Below w1.heap.size w1 ((w1.alloc (.cells #[.int .i64 r.fr, .int .i64 r.to, .int .i64 r.proto, .int .u32 r.src, .int .u32 r.dst, .int .i64 r.sbits, .int .i64 r.dbits, .int .i64 r.lo, .int .i64 r.hi, .int .i64 r.act] 25)).drew) := below_drew ((Below.refl _ _).alloc (Nat.le_refl _) _); have HV := Go.Lib.hid (show Bxo ((w1.alloc (.cells #[.int .i64 r.fr, .int .i64 r.to, .int .i64 r.proto, .int .u32 r.src, .int .u32 r.dst, .int .i64 r.sbits, .int .i64 r.dbits, .int .i64 r.lo, .int .i64 r.hi, .int .i64 r.act] 25)).drew) w1.heap.size 25 (ruL r) from Bxo.made w1 25 (ruL r)); have YB : Hid (Below w1.heap.size w1 ((w1.alloc (.cells #[.int .i64 r.fr, .int .i64 r.to, .int .i64 r.proto, .int .u32 r.src, .int .u32 r.dst, .int .i64 r.sbits, .int .i64 r.dbits, .int .i64 r.lo, .int .i64 r.hi, .int .i64 r.act] 25)).drew)) := Go.Lib.hid (yB); generalize (w1.alloc (.cells #[.int .i64 r.fr, .int .i64 r.to, .int .i64 r.proto, .int .u32 r.src, .int .u32 r.dst, .int .i64 r.sbits, .int .i64 r.dbits, .int .i64 r.lo, .int .i64 r.hi, .int .i64 r.act] 25)).drew = wB at *
      refine hKc.out _ _ (YB.out) (fun hHeld => ?_)
      clear hKc Kc
      try simp only [Act.put, List.setIfInBounds_toArray, List.set_cons_zero, List.set_cons_succ]
      refine wpAnyH_ready (rs := [4]) (by kernel_rfl) (by simp) (AllReadyH.cons (o := ⟨some 24, _, _, _, _, _⟩) rfl (fun Kc hKc => ?_) AllReadyH.nil)
      go_simp
      have yA : Below wB.heap.size wB (wB.alloc (.cells #[] 25)) := (Below.refl _ _).alloc (Nat.le_refl _) _; have HE := Go.Lib.hid (OwR.made wB w1.heap.size 25 10 (show w1.heap.size ≤ wB.heap.size from hHeld.size)); have HNE : Hid (wB.heap.size ≠ w1.heap.size) := Go.Lib.hid (by have := HV.out.lt; omega); have HV := Go.Lib.hid (HV.out.keep yA HV.out.lt); have YA : Hid (Below w1.heap.size w1 (wB.alloc (.cells #[] 25))) := Go.Lib.hid (hHeld.trans (yA.mono hHeld.size)); generalize wB.alloc (.cells #[] 25) = wA at *
      refine hKc.out _ _ (YA.out) (fun hHeld => ?_)
      clear hKc Kc
      try simp only [Act.put, List.setIfInBounds_toArray, List.set_cons_zero, List.set_cons_succ]
      refine wpAnyH_ready (rs := [6]) (by kernel_rfl) (by simp) (AllReadyH.cons (o := ⟨some 26, _, _, _, _, _⟩) rfl (fun Kc hKc => ?_) AllReadyH.nil)
      rw [if_pos (by rfl)]
      refine step_append_rdK _ _ 22 rfl w1.heap.size 25 i0_ _ 10 72 Try.underlying22 hi_ hz0 hz1 hz2 rfl (by omega) (.slice (some ⟨wB.heap.size, 0, none⟩) 0 0) 0 [] rfl HE.out.own A L.length c (L.flatMap Ru.L) rfl HLL.out HLN.out (HRD.out _ hHeld) (ru_one _) (by unfold maxLen; omega) (by omega) hHeld.size ?_; intro v7 w7 ho7 hg7 hat7; rw [Nat.zero_add, List.nil_append] at ho7; obtain ⟨A7, c7, rfl⟩ := own_slice ho7; rw [ownBlock_blk] at hg7; have H7 : Hid (OwR w1.heap.size 25 10 A7 L.length c7 (L.flatMap Ru.L) w7) := Go.Lib.hid ⟨ho7⟩; have y7 := grownW hg7 HE.out.ge hHeld.size; have HV := Go.Lib.hid (show Bxo w7 w1.heap.size 25 (ruL r) from (hg7.block _ HV.out.lt (fun e => HNE.out (by injection e with e; exact e.symm))).trans HV.out); clear ho7 hg7 hat7
      refine hKc.out _ _ (hHeld.trans y7) (fun hHeld => ?_)
      clear hKc Kc
      try simp only [Act.put, List.setIfInBounds_toArray, List.set_cons_zero, List.set_cons_succ]
      refine wpAnyH_ready (rs := [9]) (by kernel_rfl) (by simp) (AllReadyH.cons (o := ⟨some 29, _, _, _, _, _⟩) rfl (fun Kc hKc => ?_) AllReadyH.nil)
      rw [if_pos (by rfl)]
      refine step_append_rdK _ _ 22 rfl w1.heap.size 25 i0_ _ 10 72 Try.underlying22 hi_ hz0 hz1 hz2 rfl (by omega) (.slice A7 L.length c7) L.length (L.flatMap Ru.L) rfl H7.out.own (some ⟨w1.heap.size, 0, none⟩) 1 1 (ruL r) rfl rfl (fun e => by cases e) (.inr ⟨_, rfl, HV.out.at⟩) (by simp [Value.oneCell']) (by unfold maxLen; omega) (by omega) hHeld.size ?_; intro v8 w8 ho8 hg8 hat8; obtain ⟨A8, c8, rfl⟩ := own_slice ho8; rw [ownBlock_blk] at hg8; have H8 : Hid (OwR w1.heap.size 25 10 A8 (L.length + 1) c8 (L.flatMap Ru.L ++ ruL r) w8) := Go.Lib.hid ⟨ho8⟩; have y8 := grownW hg8 H7.out.ge hHeld.size; clear ho8 hg8 hat8
      refine hKc.out _ _ (hHeld.trans y8) (fun hHeld => ?_)
      clear hKc Kc
      try simp only [Act.put, List.setIfInBounds_toArray, List.set_cons_zero, List.set_cons_succ]
      refine wpAnyH_ready (rs := [10]) (by kernel_rfl) (by simp) (AllReadyH.cons (o := ⟨some 30, _, _, _, _, _⟩) rfl (fun Kc hKc => ?_) AllReadyH.nil)
      go_simp
      have HL8 : Hid (RusAt w8 (L ++ [r]) A8 c8) := Go.Lib.hid (RusAt.ofOwn (by rw [List.length_append, List.length_singleton]) (by rw [List.flatMap_append]; simpa [Ru.L] using H8.out.own) (fun x hx => (List.mem_append.1 hx).elim (HL.out.rng x) (fun e => by rw [List.mem_singleton.1 e]; exact HRR.out))); go_at_call 10; refine (kR.out (L ++ [r]) A8 c8 (L.length + 1) HN8.out (by omega) w8 HL8.out _ HB.out).mono ?_; rintro e w9 ⟨rfl, y9⟩; dsimp only
      refine hKc.out _ _ (hHeld.trans (y9.mono hHeld.size)) (fun hHeld => ?_)
      clear hKc Kc
      try simp only [Act.put, List.setIfInBounds_toArray, List.set_cons_zero, List.set_cons_succ]
      refine wpAnyH_take (i := 11) (oi := ⟨some 31, _, _, _, _, _⟩) (v := ?_) rfl (by kernel_rfl) (by kernel_rfl) (by kernel_rfl) (fun _ _ _ h => h) (Or.inl ⟨by rfl, ?_⟩) (by assumption) ?_
      rotate_left
      · intro w hSw; (try dsimp only at hSw); go_simp; (try with_reducible rfl)
      try simp only [Act.put, List.setIfInBounds_toArray, List.set_cons_zero, List.set_cons_succ]
      refine wpAnyH_take (i := 12) (oi := ⟨some 32, _, _, _, _, _⟩) (v := ?_) rfl (by kernel_rfl) (by kernel_rfl) (by kernel_rfl) (fun _ _ _ h => h) (Or.inl ⟨by rfl, ?_⟩) (by assumption) ?_
      rotate_left
      · intro w hSw; (try dsimp only at hSw); go_simp; (try with_reducible rfl)
      try simp only [Act.put, List.setIfInBounds_toArray, List.set_cons_zero, List.set_cons_succ]
      refine wpAnyH_done (by kernel_rfl) ?_ _
      have yq := hHeld
      clear hHeld
      go_wp2_with fail
      go_meet
      exact ⟨rfl, yq⟩
  case rest =>
    rename World => w2
    obtain ⟨rfl, y2⟩ := hcut
    have x2 := x1.trans (y2.mono x1.size)
    cases b
    · go_wp2_with fail
      go_ret
      exact ⟨rfl, x2⟩
    have HR2 := Go.Lib.hid (HR1.out.keep y2 HR1.out.lt)
    have HT2 := Go.Lib.hid (HT1.out.keep y2 HT1.out.lt)
    have HL2 := Go.Lib.hid (HL.out.at x2)
    obtain ⟨⟨a1, a2⟩, ha⟩ : ∃ q, askU L f t tp = q := ⟨_, rfl⟩
    obtain ⟨⟨b1, b2⟩, hb⟩ : ∃ q, askU (L ++ [r]) f t tp = q := ⟨_, rfl⟩
    obtain ⟨⟨c1, c2⟩, hc⟩ : ∃ q, askU (r :: L) f t tp = q := ⟨_, rfl⟩
    obtain ⟨fits, hf⟩ : ∃ q, fitsU r f t tp = q := ⟨_, rfl⟩
    have HBE : Hid (BehindU L r f t tp (a1, a2) (b1, b2) (c1, c2) fits) := Go.Lib.hid (by rw [← ha, ← hb, ← hc, ← hf]; exact behindU HB.out)
    have HAR := Go.Lib.hid (ask_range ha)
    have HQA := Go.Lib.hid ha
    have HQB := Go.Lib.hid hb
    have HQC := Go.Lib.hid hc
    have HF := Go.Lib.hid hf
    clear ha hb hc hf
    go_upto_region 6 with (first
      | (refine wpList_load_box rfl 27 _ rfl (w.heap.size + 1) rfl (tpL tp) _ HT2.out Try.underlying27 rfl info_tp ?_)
      | (go_at_call 8; refine (kQ.out L A c _ rfl (by omega) f t tp HTT.out w2 HL2.out _ HQA.out).mono ?_; rintro e w3 ⟨rfl, y3⟩; dsimp only))
    have x3 := x2.trans (y3.mono x2.size)
    have HR3 := Go.Lib.hid (HR2.out.keep y3 HR2.out.lt)
    have HT3 := Go.Lib.hid (HT2.out.keep y3 HT2.out.lt)
    have HRD : Hid (∀ Y, Below w3.heap.size w3 Y → RdC Y A (L.flatMap Ru.L)) := Go.Lib.hid (fun Y y => HL.out.rd.keep (x3.trans (y.mono x3.size)))
    clear x1 x2 y0 y2 y3 HL2 HR1 HR2 HT1 HT2
    go_cut [13, 14] (fun bv kv wx => bv = .int .i64 b1 ∧ kv = .int .i64 b2 ∧ Below w3.heap.size w3 wx)
    case first =>
      try simp only [Act.put, List.setIfInBounds_toArray, List.set_cons_zero, List.set_cons_succ]
      refine wp_region_held_drew (S := fun Y => Below w3.heap.size w3 Y) (by kernel_rfl) ?_ (fun hHeld => ?_)
      · exact below_drew (Below.refl _ _)
      refine wpAnyH_take (i := 1) (oi := ⟨some 43, _, _, _, _, _⟩) (v := ?_) rfl (by kernel_rfl) (by kernel_rfl) (by kernel_rfl) (fun _ _ _ h => h) (Or.inl ⟨by rfl, ?_⟩) (by assumption) ?_
      rotate_left
      · intro w hSw; (try dsimp only at hSw); go_simp; (try with_reducible rfl)
      try simp only [Act.put, List.setIfInBounds_toArray, List.set_cons_zero, List.set_cons_succ]
      refine wpAnyH_take (i := 3) (oi := ⟨some 45, _, _, _, _, _⟩) (v := (ruV r)) rfl (by kernel_rfl) (by kernel_rfl) (by kernel_rfl) (fun _ _ _ h => h) (yieldsIf_load_at (by rfl) 25 _ rfl ⟨w.heap.size, 0, none⟩ rfl (ruL r) _ (fun Y h => (HR3.out.keep h HR3.out.lt).at) Try.underlying25 rfl info_ru) (by assumption) ?_
      try simp only [Act.put, List.setIfInBounds_toArray, List.set_cons_zero, List.set_cons_succ]
      refine wpAnyH_take (i := 6) (oi := ⟨some 48, _, _, _, _, _⟩) (v := ?_) rfl (by kernel_rfl) (by kernel_rfl) (by kernel_rfl) (fun _ _ _ h => h) (Or.inl ⟨by rfl, ?_⟩) (by assumption) ?_
      rotate_left
      · intro w hSw; (try dsimp only at hSw); go_simp; (try with_reducible rfl)
      try simp only [Act.put, List.setIfInBounds_toArray, List.set_cons_zero, List.set_cons_succ]
      refine wpAnyH_take (i := 7) (oi := ⟨some 49, _, _, _, _, _⟩) (v := ?_) rfl (by kernel_rfl) (by kernel_rfl) (by kernel_rfl) (fun _ _ _ h => h) (Or.inl ⟨by rfl, ?_⟩) (by assumption) ?_
      rotate_left
      · intro w hSw; (try dsimp only at hSw); go_simp; (try with_reducible rfl)
      try simp only [Act.put, List.setIfInBounds_toArray, List.set_cons_zero, List.set_cons_succ]
      refine wpAnyH_take (i := 8) (oi := ⟨some 50, _, _, _, _, _⟩) (v := (tpV tp)) rfl (by kernel_rfl) (by kernel_rfl) (by kernel_rfl) (fun _ _ _ h => h) (yieldsIf_load_at (by rfl) 27 _ rfl ⟨w.heap.size + 1, 0, none⟩ rfl (tpL tp) _ (fun Y h => (HT3.out.keep h HT3.out.lt).at) Try.underlying27 rfl info_tp) (by assumption) ?_
      try simp only [Act.put, List.setIfInBounds_toArray, List.set_cons_zero, List.set_cons_succ]
      refine wpAnyH_ready (rs := [0, 4]) (by kernel_rfl) (by simp) (AllReadyH.cons (o := ⟨some 42, _, _, _, _, _⟩) rfl (fun Kc hKc => ?_) (AllReadyH.cons (o := ⟨some 46, _, _, _, _, _⟩) rfl (fun Kc hKc => ?_) AllReadyH.nil))
      ·
        go_simp
        have yA : Below w3.heap.size w3 ((w3.alloc (.cells #[] 25)).drew) := below_drew ((Below.refl _ _).alloc (Nat.le_refl _) _); have HE := Go.Lib.hid (OwR.drew (OwR.made w3 w3.heap.size 25 10 (show w3.heap.size ≤ w3.heap.size from hHeld.size))); have YA : Hid (Below w3.heap.size w3 ((w3.alloc (.cells #[] 25)).drew)) := Go.Lib.hid (yA); generalize (w3.alloc (.cells #[] 25)).drew = wA at *
        refine hKc.out _ _ (YA.out) (fun hHeld => ?_)
        clear hKc Kc
        try simp only [Act.put, List.setIfInBounds_toArray, List.set_cons_zero, List.set_cons_succ]
        refine wpAnyH_ready (rs := [2, 4]) (by kernel_rfl) (by simp) (AllReadyH.cons (o := ⟨some 44, _, _, _, _, _⟩) rfl (fun Kc hKc => ?_) (AllReadyH.cons (o := ⟨some 46, _, _, _, _, _⟩) rfl (fun Kc hKc => ?_) AllReadyH.nil))
        ·
          rw [if_pos (by rfl)]
          refine step_append_rdK _ _ 22 rfl w3.heap.size 25 i0_ _ 10 72 Try.underlying22 hi_ hz0 hz1 hz2 rfl (by omega) (.slice (some ⟨w3.heap.size, 0, none⟩) 0 0) 0 [] rfl HE.out.own A L.length c (L.flatMap Ru.L) rfl HLL.out HLN.out (HRD.out _ hHeld) (ru_one _) (by unfold maxLen; omega) (by omega) hHeld.size ?_; intro v7 w7 ho7 hg7 hat7; rw [Nat.zero_add, List.nil_append] at ho7; obtain ⟨A7, c7, rfl⟩ := own_slice ho7; rw [ownBlock_blk] at hg7; have H7 : Hid (OwR w3.heap.size 25 10 A7 L.length c7 (L.flatMap Ru.L) w7) := Go.Lib.hid ⟨ho7⟩; have y7 := grownW hg7 HE.out.ge hHeld.size; clear ho7 hg7 hat7
          refine hKc.out _ _ (hHeld.trans y7) (fun hHeld => ?_)
          clear hKc Kc
          try simp only [Act.put, List.setIfInBounds_toArray, List.set_cons_zero, List.set_cons_succ]
          refine wpAnyH_ready (rs := [4]) (by kernel_rfl) (by simp) (AllReadyH.cons (o := ⟨some 46, _, _, _, _, _⟩) rfl (fun Kc hKc => ?_) AllReadyH.nil)
          go_simp
          have yB : Below w7.heap.size w7 (w7.alloc (.cells #[.int .i64 r.fr, .int .i64 r.to, .int .i64 r.proto, .int .u32 r.src, .int .u32 r.dst, .int .i64 r.sbits, .int .i64 r.dbits, .int .i64 r.lo, .int .i64 r.hi, .int .i64 r.act] 25)) := (Below.refl _ _).alloc (Nat.le_refl _) _; have HV := Go.Lib.hid (show Bxo (w7.alloc (.cells #[.int .i64 r.fr, .int .i64 r.to, .int .i64 r.proto, .int .u32 r.src, .int .u32 r.dst, .int .i64 r.sbits, .int .i64 r.dbits, .int .i64 r.lo, .int .i64 r.hi, .int .i64 r.act] 25)) w7.heap.size 25 (ruL r) from Bxo.made w7 25 (ruL r)); have H7 := Go.Lib.hid (H7.out.at yB); have YB : Hid (Below w3.heap.size w3 (w7.alloc (.cells #[.int .i64 r.fr, .int .i64 r.to, .int .i64 r.proto, .int .u32 r.src, .int .u32 r.dst, .int .i64 r.sbits, .int .i64 r.dbits, .int .i64 r.lo, .int .i64 r.hi, .int .i64 r.act] 25))) := Go.Lib.hid (hHeld.trans (yB.mono hHeld.size)); generalize w7.alloc (.cells #[.int .i64 r.fr, .int .i64 r.to, .int .i64 r.proto, .int .u32 r.src, .int .u32 r.dst, .int .i64 r.sbits, .int .i64 r.dbits, .int .i64 r.lo, .int .i64 r.hi, .int .i64 r.act] 25) = wB at *
          refine hKc.out _ _ (YB.out) (fun hHeld => ?_)
          clear hKc Kc
          try simp only [Act.put, List.setIfInBounds_toArray, List.set_cons_zero, List.set_cons_succ]
          refine wpAnyH_ready (rs := [5]) (by kernel_rfl) (by simp) (AllReadyH.cons (o := ⟨some 47, _, _, _, _, _⟩) rfl (fun Kc hKc => ?_) AllReadyH.nil)
          rw [if_pos (by rfl)]
          refine step_append_rdK _ _ 22 rfl w3.heap.size 25 i0_ _ 10 72 Try.underlying22 hi_ hz0 hz1 hz2 rfl (by omega) (.slice A7 L.length c7) L.length (L.flatMap Ru.L) rfl H7.out.own (some ⟨w7.heap.size, 0, none⟩) 1 1 (ruL r) rfl rfl (fun e => by cases e) (.inr ⟨_, rfl, HV.out.at⟩) (by simp [Value.oneCell']) (by unfold maxLen; omega) (by omega) hHeld.size ?_; intro v8 w8 ho8 hg8 hat8; obtain ⟨A8, c8, rfl⟩ := own_slice ho8; rw [ownBlock_blk] at hg8; have H8 : Hid (OwR w3.heap.size 25 10 A8 (L.length + 1) c8 (L.flatMap Ru.L ++ ruL r) w8) := Go.Lib.hid ⟨ho8⟩; have y8 := grownW hg8 H7.out.ge hHeld.size; clear ho8 hg8 hat8
          refine hKc.out _ _ (hHeld.trans y8) (fun hHeld => ?_)
          clear hKc Kc
          try simp only [Act.put, List.setIfInBounds_toArray, List.set_cons_zero, List.set_cons_succ]
          refine wpAnyH_ready (rs := [9]) (by kernel_rfl) (by simp) (AllReadyH.cons (o := ⟨some 51, _, _, _, _, _⟩) rfl (fun Kc hKc => ?_) AllReadyH.nil)
          go_simp
          have HL8 : Hid (RusAt w8 (L ++ [r]) A8 c8) := Go.Lib.hid (RusAt.ofOwn (by rw [List.length_append, List.length_singleton]) (by rw [List.flatMap_append]; simpa [Ru.L] using H8.out.own) (fun x hx => (List.mem_append.1 hx).elim (HL.out.rng x) (fun e => by rw [List.mem_singleton.1 e]; exact HRR.out))); go_at_call 8; refine (kQ.out (L ++ [r]) A8 c8 (L.length + 1) HN8.out (by omega) f t tp HTT.out w8 HL8.out _ HQB.out).mono ?_; rintro e w9 ⟨rfl, y9⟩; dsimp only
          refine hKc.out _ _ (hHeld.trans (y9.mono hHeld.size)) (fun hHeld => ?_)
          clear hKc Kc
          try simp only [Act.put, List.setIfInBounds_toArray, List.set_cons_zero, List.set_cons_succ]
          refine wpAnyH_take (i := 10) (oi := ⟨some 41, _, _, _, _, _⟩) (v := ?_) rfl (by kernel_rfl) (by kernel_rfl) (by kernel_rfl) (fun _ _ _ h => h) (Or.inl ⟨by rfl, ?_⟩) (by assumption) ?_
          rotate_left
          · intro w hSw; (try dsimp only at hSw); go_simp; (try with_reducible rfl)
          try simp only [Act.put, List.setIfInBounds_toArray, List.set_cons_zero, List.set_cons_succ]
          refine wpAnyH_take (i := 11) (oi := ⟨some 52, _, _, _, _, _⟩) (v := ?_) rfl (by kernel_rfl) (by kernel_rfl) (by kernel_rfl) (fun _ _ _ h => h) (Or.inl ⟨by rfl, ?_⟩) (by assumption) ?_
          rotate_left
          · intro w hSw; (try dsimp only at hSw); go_simp; (try with_reducible rfl)
          try simp only [Act.put, List.setIfInBounds_toArray, List.set_cons_zero, List.set_cons_succ]
          refine wpAnyH_take (i := 12) (oi := ⟨some 53, _, _, _, _, _⟩) (v := ?_) rfl (by kernel_rfl) (by kernel_rfl) (by kernel_rfl) (fun _ _ _ h => h) (Or.inl ⟨by rfl, ?_⟩) (by assumption) ?_
          rotate_left
          · intro w hSw; (try dsimp only at hSw); go_simp; (try with_reducible rfl)
          try simp only [Act.put, List.setIfInBounds_toArray, List.set_cons_zero, List.set_cons_succ]
          refine wpAnyH_take (i := 13) (oi := ⟨some 13, _, _, _, _, _⟩) (v := ?_) rfl (by kernel_rfl) (by kernel_rfl) (by kernel_rfl) (fun _ _ _ h => h) (Or.inl ⟨by rfl, ?_⟩) (by assumption) ?_
          rotate_left
          · intro w hSw; (try dsimp only at hSw); go_simp; (try with_reducible rfl)
          try simp only [Act.put, List.setIfInBounds_toArray, List.set_cons_zero, List.set_cons_succ]
          refine wpAnyH_take (i := 14) (oi := ⟨some 14, _, _, _, _, _⟩) (v := ?_) rfl (by kernel_rfl) (by kernel_rfl) (by kernel_rfl) (fun _ _ _ h => h) (Or.inl ⟨by rfl, ?_⟩) (by assumption) ?_
          rotate_left
          · intro w hSw; (try dsimp only at hSw); go_simp; (try with_reducible rfl)
          try simp only [Act.put, List.setIfInBounds_toArray, List.set_cons_zero, List.set_cons_succ]
          refine wpAnyH_done (by kernel_rfl) ?_ _
          have yq := hHeld
          clear hHeld
          go_wp2_with fail
          go_meet
          exact ⟨rfl, rfl, yq⟩
        ·
          go_simp
          have yB : Below wA.heap.size wA (wA.alloc (.cells #[.int .i64 r.fr, .int .i64 r.to, .int .i64 r.proto, .int .u32 r.src, .int .u32 r.dst, .int .i64 r.sbits, .int .i64 r.dbits, .int .i64 r.lo, .int .i64 r.hi, .int .i64 r.act] 25)) := (Below.refl _ _).alloc (Nat.le_refl _) _; have HV := Go.Lib.hid (show Bxo (wA.alloc (.cells #[.int .i64 r.fr, .int .i64 r.to, .int .i64 r.proto, .int .u32 r.src, .int .u32 r.dst, .int .i64 r.sbits, .int .i64 r.dbits, .int .i64 r.lo, .int .i64 r.hi, .int .i64 r.act] 25)) wA.heap.size 25 (ruL r) from Bxo.made wA 25 (ruL r)); have HNE : Hid (w3.heap.size ≠ wA.heap.size) := Go.Lib.hid (by have := HE.out.lt _ rfl; show w3.heap.size ≠ _; have q : w3.heap.size < wA.heap.size := this; omega); have HE := Go.Lib.hid (HE.out.at yB); have YB : Hid (Below w3.heap.size w3 (wA.alloc (.cells #[.int .i64 r.fr, .int .i64 r.to, .int .i64 r.proto, .int .u32 r.src, .int .u32 r.dst, .int .i64 r.sbits, .int .i64 r.dbits, .int .i64 r.lo, .int .i64 r.hi, .int .i64 r.act] 25))) := Go.Lib.hid (hHeld.trans (yB.mono hHeld.size)); generalize wA.alloc (.cells #[.int .i64 r.fr, .int .i64 r.to, .int .i64 r.proto, .int .u32 r.src, .int .u32 r.dst, .int .i64 r.sbits, .int .i64 r.dbits, .int .i64 r.lo, .int .i64 r.hi, .int .i64 r.act] 25) = wB at *
          refine hKc.out _ _ (YB.out) (fun hHeld => ?_)
          clear hKc Kc
          try simp only [Act.put, List.setIfInBounds_toArray, List.set_cons_zero, List.set_cons_succ]
          refine wpAnyH_ready (rs := [2]) (by kernel_rfl) (by simp) (AllReadyH.cons (o := ⟨some 44, _, _, _, _, _⟩) rfl (fun Kc hKc => ?_) AllReadyH.nil)
          rw [if_pos (by rfl)]
          refine step_append_rdK _ _ 22 rfl w3.heap.size 25 i0_ _ 10 72 Try.underlying22 hi_ hz0 hz1 hz2 rfl (by omega) (.slice (some ⟨w3.heap.size, 0, none⟩) 0 0) 0 [] rfl HE.out.own A L.length c (L.flatMap Ru.L) rfl HLL.out HLN.out (HRD.out _ hHeld) (ru_one _) (by unfold maxLen; omega) (by omega) hHeld.size ?_; intro v7 w7 ho7 hg7 hat7; rw [Nat.zero_add, List.nil_append] at ho7; obtain ⟨A7, c7, rfl⟩ := own_slice ho7; rw [ownBlock_blk] at hg7; have H7 : Hid (OwR w3.heap.size 25 10 A7 L.length c7 (L.flatMap Ru.L) w7) := Go.Lib.hid ⟨ho7⟩; have y7 := grownW hg7 HE.out.ge hHeld.size; have HV := Go.Lib.hid (show Bxo w7 wA.heap.size 25 (ruL r) from (hg7.block _ HV.out.lt (fun e => HNE.out (by injection e with e; exact e.symm))).trans HV.out); clear ho7 hg7 hat7
          refine hKc.out _ _ (hHeld.trans y7) (fun hHeld => ?_)
          clear hKc Kc
          try simp only [Act.put, List.setIfInBounds_toArray, List.set_cons_zero, List.set_cons_succ]
          refine wpAnyH_ready (rs := [5]) (by kernel_rfl) (by simp) (AllReadyH.cons (o := ⟨some 47, _, _, _, _, _⟩) rfl (fun Kc hKc => ?_) AllReadyH.nil)
          rw [if_pos (by rfl)]
          refine step_append_rdK _ _ 22 rfl w3.heap.size 25 i0_ _ 10 72 Try.underlying22 hi_ hz0 hz1 hz2 rfl (by omega) (.slice A7 L.length c7) L.length (L.flatMap Ru.L) rfl H7.out.own (some ⟨wA.heap.size, 0, none⟩) 1 1 (ruL r) rfl rfl (fun e => by cases e) (.inr ⟨_, rfl, HV.out.at⟩) (by simp [Value.oneCell']) (by unfold maxLen; omega) (by omega) hHeld.size ?_; intro v8 w8 ho8 hg8 hat8; obtain ⟨A8, c8, rfl⟩ := own_slice ho8; rw [ownBlock_blk] at hg8; have H8 : Hid (OwR w3.heap.size 25 10 A8 (L.length + 1) c8 (L.flatMap Ru.L ++ ruL r) w8) := Go.Lib.hid ⟨ho8⟩; have y8 := grownW hg8 H7.out.ge hHeld.size; clear ho8 hg8 hat8
          refine hKc.out _ _ (hHeld.trans y8) (fun hHeld => ?_)
          clear hKc Kc
          try simp only [Act.put, List.setIfInBounds_toArray, List.set_cons_zero, List.set_cons_succ]
          refine wpAnyH_ready (rs := [9]) (by kernel_rfl) (by simp) (AllReadyH.cons (o := ⟨some 51, _, _, _, _, _⟩) rfl (fun Kc hKc => ?_) AllReadyH.nil)
          go_simp
          have HL8 : Hid (RusAt w8 (L ++ [r]) A8 c8) := Go.Lib.hid (RusAt.ofOwn (by rw [List.length_append, List.length_singleton]) (by rw [List.flatMap_append]; simpa [Ru.L] using H8.out.own) (fun x hx => (List.mem_append.1 hx).elim (HL.out.rng x) (fun e => by rw [List.mem_singleton.1 e]; exact HRR.out))); go_at_call 8; refine (kQ.out (L ++ [r]) A8 c8 (L.length + 1) HN8.out (by omega) f t tp HTT.out w8 HL8.out _ HQB.out).mono ?_; rintro e w9 ⟨rfl, y9⟩; dsimp only
          refine hKc.out _ _ (hHeld.trans (y9.mono hHeld.size)) (fun hHeld => ?_)
          clear hKc Kc
          try simp only [Act.put, List.setIfInBounds_toArray, List.set_cons_zero, List.set_cons_succ]
          refine wpAnyH_take (i := 10) (oi := ⟨some 41, _, _, _, _, _⟩) (v := ?_) rfl (by kernel_rfl) (by kernel_rfl) (by kernel_rfl) (fun _ _ _ h => h) (Or.inl ⟨by rfl, ?_⟩) (by assumption) ?_
          rotate_left
          · intro w hSw; (try dsimp only at hSw); go_simp; (try with_reducible rfl)
          try simp only [Act.put, List.setIfInBounds_toArray, List.set_cons_zero, List.set_cons_succ]
          refine wpAnyH_take (i := 11) (oi := ⟨some 52, _, _, _, _, _⟩) (v := ?_) rfl (by kernel_rfl) (by kernel_rfl) (by kernel_rfl) (fun _ _ _ h => h) (Or.inl ⟨by rfl, ?_⟩) (by assumption) ?_
          rotate_left
          · intro w hSw; (try dsimp only at hSw); go_simp; (try with_reducible rfl)
          try simp only [Act.put, List.setIfInBounds_toArray, List.set_cons_zero, List.set_cons_succ]
          refine wpAnyH_take (i := 12) (oi := ⟨some 53, _, _, _, _, _⟩) (v := ?_) rfl (by kernel_rfl) (by kernel_rfl) (by kernel_rfl) (fun _ _ _ h => h) (Or.inl ⟨by rfl, ?_⟩) (by assumption) ?_
          rotate_left
          · intro w hSw; (try dsimp only at hSw); go_simp; (try with_reducible rfl)
          try simp only [Act.put, List.setIfInBounds_toArray, List.set_cons_zero, List.set_cons_succ]
          refine wpAnyH_take (i := 13) (oi := ⟨some 13, _, _, _, _, _⟩) (v := ?_) rfl (by kernel_rfl) (by kernel_rfl) (by kernel_rfl) (fun _ _ _ h => h) (Or.inl ⟨by rfl, ?_⟩) (by assumption) ?_
          rotate_left
          · intro w hSw; (try dsimp only at hSw); go_simp; (try with_reducible rfl)
          try simp only [Act.put, List.setIfInBounds_toArray, List.set_cons_zero, List.set_cons_succ]
          refine wpAnyH_take (i := 14) (oi := ⟨some 14, _, _, _, _, _⟩) (v := ?_) rfl (by kernel_rfl) (by kernel_rfl) (by kernel_rfl) (fun _ _ _ h => h) (Or.inl ⟨by rfl, ?_⟩) (by assumption) ?_
          rotate_left
          · intro w hSw; (try dsimp only at hSw); go_simp; (try with_reducible rfl)
          try simp only [Act.put, List.setIfInBounds_toArray, List.set_cons_zero, List.set_cons_succ]
          refine wpAnyH_done (by kernel_rfl) ?_ _
          have yq := hHeld
          clear hHeld
          go_wp2_with fail
          go_meet
          exact ⟨rfl, rfl, yq⟩
      ·
        go_simp
        have yB : Below w3.heap.size w3 ((w3.alloc (.cells #[.int .i64 r.fr, .int .i64 r.to, .int .i64 r.proto, .int .u32 r.src, .int .u32 r.dst, .int .i64 r.sbits, .int .i64 r.dbits, .int .i64 r.lo, .int .i64 r.hi, .int .i64 r.act] 25)).drew) := below_drew ((Below.refl _ _).alloc (Nat.le_refl _) _); have HV := Go.Lib.hid (show Bxo ((w3.alloc (.cells #[.int .i64 r.fr, .int .i64 r.to, .int .i64 r.proto, .int .u32 r.src, .int .u32 r.dst, .int .i64 r.sbits, .int .i64 r.dbits, .int .i64 r.lo, .int .i64 r.hi, .int .i64 r.act] 25)).drew) w3.heap.size 25 (ruL r) from Bxo.made w3 25 (ruL r)); have YB : Hid (Below w3.heap.size w3 ((w3.alloc (.cells #[.int .i64 r.fr, .int .i64 r.to, .int .i64 r.proto, .int .u32 r.src, .int .u32 r.dst, .int .i64 r.sbits, .int .i64 r.dbits, .int .i64 r.lo, .int .i64 r.hi, .int .i64 r.act] 25)).drew)) := Go.Lib.hid (yB); generalize (w3.alloc (.cells #[.int .i64 r.fr, .int .i64 r.to, .int .i64 r.proto, .int .u32 r.src, .int .u32 r.dst, .int .i64 r.sbits, .int .i64 r.dbits, .int .i64 r.lo, .int .i64 r.hi, .int .i64 r.act] 25)).drew = wB at *
        refine hKc.out _ _ (YB.out) (fun hHeld => ?_)
        clear hKc Kc
        try simp only [Act.put, List.setIfInBounds_toArray, List.set_cons_zero, List.set_cons_succ]
        refine wpAnyH_ready (rs := [0]) (by kernel_rfl) (by simp) (AllReadyH.cons (o := ⟨some 42, _, _, _, _, _⟩) rfl (fun Kc hKc => ?_) AllReadyH.nil)
        go_simp
        have yA : Below wB.heap.size wB (wB.alloc (.cells #[] 25)) := (Below.refl _ _).alloc (Nat.le_refl _) _; have HE := Go.Lib.hid (OwR.made wB w3.heap.size 25 10 (show w3.heap.size ≤ wB.heap.size from hHeld.size)); have HNE : Hid (wB.heap.size ≠ w3.heap.size) := Go.Lib.hid (by have := HV.out.lt; omega); have HV := Go.Lib.hid (HV.out.keep yA HV.out.lt); have YA : Hid (Below w3.heap.size w3 (wB.alloc (.cells #[] 25))) := Go.Lib.hid (hHeld.trans (yA.mono hHeld.size)); generalize wB.alloc (.cells #[] 25) = wA at *
        refine hKc.out _ _ (YA.out) (fun hHeld => ?_)
        clear hKc Kc
        try simp only [Act.put, List.setIfInBounds_toArray, List.set_cons_zero, List.set_cons_succ]
        refine wpAnyH_ready (rs := [2]) (by kernel_rfl) (by simp) (AllReadyH.cons (o := ⟨some 44, _, _, _, _, _⟩) rfl (fun Kc hKc => ?_) AllReadyH.nil)
        rw [if_pos (by rfl)]
        refine step_append_rdK _ _ 22 rfl w3.heap.size 25 i0_ _ 10 72 Try.underlying22 hi_ hz0 hz1 hz2 rfl (by omega) (.slice (some ⟨wB.heap.size, 0, none⟩) 0 0) 0 [] rfl HE.out.own A L.length c (L.flatMap Ru.L) rfl HLL.out HLN.out (HRD.out _ hHeld) (ru_one _) (by unfold maxLen; omega) (by omega) hHeld.size ?_; intro v7 w7 ho7 hg7 hat7; rw [Nat.zero_add, List.nil_append] at ho7; obtain ⟨A7, c7, rfl⟩ := own_slice ho7; rw [ownBlock_blk] at hg7; have H7 : Hid (OwR w3.heap.size 25 10 A7 L.length c7 (L.flatMap Ru.L) w7) := Go.Lib.hid ⟨ho7⟩; have y7 := grownW hg7 HE.out.ge hHeld.size; have HV := Go.Lib.hid (show Bxo w7 w3.heap.size 25 (ruL r) from (hg7.block _ HV.out.lt (fun e => HNE.out (by injection e with e; exact e.symm))).trans HV.out); clear ho7 hg7 hat7
        refine hKc.out _ _ (hHeld.trans y7) (fun hHeld => ?_)
        clear hKc Kc
        try simp only [Act.put, List.setIfInBounds_toArray, List.set_cons_zero, List.set_cons_succ]
        refine wpAnyH_ready (rs := [5]) (by kernel_rfl) (by simp) (AllReadyH.cons (o := ⟨some 47, _, _, _, _, _⟩) rfl (fun Kc hKc => ?_) AllReadyH.nil)
        rw [if_pos (by rfl)]
        refine step_append_rdK _ _ 22 rfl w3.heap.size 25 i0_ _ 10 72 Try.underlying22 hi_ hz0 hz1 hz2 rfl (by omega) (.slice A7 L.length c7) L.length (L.flatMap Ru.L) rfl H7.out.own (some ⟨w3.heap.size, 0, none⟩) 1 1 (ruL r) rfl rfl (fun e => by cases e) (.inr ⟨_, rfl, HV.out.at⟩) (by simp [Value.oneCell']) (by unfold maxLen; omega) (by omega) hHeld.size ?_; intro v8 w8 ho8 hg8 hat8; obtain ⟨A8, c8, rfl⟩ := own_slice ho8; rw [ownBlock_blk] at hg8; have H8 : Hid (OwR w3.heap.size 25 10 A8 (L.length + 1) c8 (L.flatMap Ru.L ++ ruL r) w8) := Go.Lib.hid ⟨ho8⟩; have y8 := grownW hg8 H7.out.ge hHeld.size; clear ho8 hg8 hat8
        refine hKc.out _ _ (hHeld.trans y8) (fun hHeld => ?_)
        clear hKc Kc
        try simp only [Act.put, List.setIfInBounds_toArray, List.set_cons_zero, List.set_cons_succ]
        refine wpAnyH_ready (rs := [9]) (by kernel_rfl) (by simp) (AllReadyH.cons (o := ⟨some 51, _, _, _, _, _⟩) rfl (fun Kc hKc => ?_) AllReadyH.nil)
        go_simp
        have HL8 : Hid (RusAt w8 (L ++ [r]) A8 c8) := Go.Lib.hid (RusAt.ofOwn (by rw [List.length_append, List.length_singleton]) (by rw [List.flatMap_append]; simpa [Ru.L] using H8.out.own) (fun x hx => (List.mem_append.1 hx).elim (HL.out.rng x) (fun e => by rw [List.mem_singleton.1 e]; exact HRR.out))); go_at_call 8; refine (kQ.out (L ++ [r]) A8 c8 (L.length + 1) HN8.out (by omega) f t tp HTT.out w8 HL8.out _ HQB.out).mono ?_; rintro e w9 ⟨rfl, y9⟩; dsimp only
        refine hKc.out _ _ (hHeld.trans (y9.mono hHeld.size)) (fun hHeld => ?_)
        clear hKc Kc
        try simp only [Act.put, List.setIfInBounds_toArray, List.set_cons_zero, List.set_cons_succ]
        refine wpAnyH_take (i := 10) (oi := ⟨some 41, _, _, _, _, _⟩) (v := ?_) rfl (by kernel_rfl) (by kernel_rfl) (by kernel_rfl) (fun _ _ _ h => h) (Or.inl ⟨by rfl, ?_⟩) (by assumption) ?_
        rotate_left
        · intro w hSw; (try dsimp only at hSw); go_simp; (try with_reducible rfl)
        try simp only [Act.put, List.setIfInBounds_toArray, List.set_cons_zero, List.set_cons_succ]
        refine wpAnyH_take (i := 11) (oi := ⟨some 52, _, _, _, _, _⟩) (v := ?_) rfl (by kernel_rfl) (by kernel_rfl) (by kernel_rfl) (fun _ _ _ h => h) (Or.inl ⟨by rfl, ?_⟩) (by assumption) ?_
        rotate_left
        · intro w hSw; (try dsimp only at hSw); go_simp; (try with_reducible rfl)
        try simp only [Act.put, List.setIfInBounds_toArray, List.set_cons_zero, List.set_cons_succ]
        refine wpAnyH_take (i := 12) (oi := ⟨some 53, _, _, _, _, _⟩) (v := ?_) rfl (by kernel_rfl) (by kernel_rfl) (by kernel_rfl) (fun _ _ _ h => h) (Or.inl ⟨by rfl, ?_⟩) (by assumption) ?_
        rotate_left
        · intro w hSw; (try dsimp only at hSw); go_simp; (try with_reducible rfl)
        try simp only [Act.put, List.setIfInBounds_toArray, List.set_cons_zero, List.set_cons_succ]
        refine wpAnyH_take (i := 13) (oi := ⟨some 13, _, _, _, _, _⟩) (v := ?_) rfl (by kernel_rfl) (by kernel_rfl) (by kernel_rfl) (fun _ _ _ h => h) (Or.inl ⟨by rfl, ?_⟩) (by assumption) ?_
        rotate_left
        · intro w hSw; (try dsimp only at hSw); go_simp; (try with_reducible rfl)
        try simp only [Act.put, List.setIfInBounds_toArray, List.set_cons_zero, List.set_cons_succ]
        refine wpAnyH_take (i := 14) (oi := ⟨some 14, _, _, _, _, _⟩) (v := ?_) rfl (by kernel_rfl) (by kernel_rfl) (by kernel_rfl) (fun _ _ _ h => h) (Or.inl ⟨by rfl, ?_⟩) (by assumption) ?_
        rotate_left
        · intro w hSw; (try dsimp only at hSw); go_simp; (try with_reducible rfl)
        try simp only [Act.put, List.setIfInBounds_toArray, List.set_cons_zero, List.set_cons_succ]
        refine wpAnyH_done (by kernel_rfl) ?_ _
        have yq := hHeld
        clear hHeld
        go_wp2_with fail
        go_meet
        exact ⟨rfl, rfl, yq⟩
    case rest =>
      rename World => w4
      obtain ⟨rfl, rfl, y4⟩ := hcut
      have x4 := x3.trans (y4.mono x3.size)
      have HR4 := Go.Lib.hid (HR3.out.keep y4 HR3.out.lt)
      have HT4 := Go.Lib.hid (HT3.out.keep y4 HT3.out.lt)
      have HRD : Hid (∀ Y, Below w4.heap.size w4 Y → RdC Y A (L.flatMap Ru.L)) := Go.Lib.hid (fun Y y => HL.out.rd.keep (x4.trans (y.mono x4.size)))
      clear x3 y4 HR3 HT3
      go_upto_region 7 with fail
      try simp only [Act.put, List.setIfInBounds_toArray, List.set_cons_zero, List.set_cons_succ]
      refine wp_region_held_drew (S := fun Y => Below w4.heap.size w4 Y) (by kernel_rfl) ?_ (fun hHeld => ?_)
      · exact below_drew (Below.refl _ _)
      refine wpAnyH_take (i := 0) (oi := ⟨some 55, _, _, _, _, _⟩) (v := (ruV r)) rfl (by kernel_rfl) (by kernel_rfl) (by kernel_rfl) (fun _ _ _ h => h) (yieldsIf_load_at (by rfl) 25 _ rfl ⟨w.heap.size, 0, none⟩ rfl (ruL r) _ (fun Y h => (HR4.out.keep h HR4.out.lt).at) Try.underlying25 rfl info_ru) (by assumption) ?_
      try simp only [Act.put, List.setIfInBounds_toArray, List.set_cons_zero, List.set_cons_succ]
      refine wpAnyH_take (i := 2) (oi := ⟨some 57, _, _, _, _, _⟩) (v := ?_) rfl (by kernel_rfl) (by kernel_rfl) (by kernel_rfl) (fun _ _ _ h => h) (Or.inl ⟨by rfl, ?_⟩) (by assumption) ?_
      rotate_left
      · intro w hSw; (try dsimp only at hSw); go_simp; (try with_reducible rfl)
      try simp only [Act.put, List.setIfInBounds_toArray, List.set_cons_zero, List.set_cons_succ]
      refine wpAnyH_take (i := 4) (oi := ⟨some 59, _, _, _, _, _⟩) (v := ?_) rfl (by kernel_rfl) (by kernel_rfl) (by kernel_rfl) (fun _ _ _ h => h) (Or.inl ⟨by rfl, ?_⟩) (by assumption) ?_
      rotate_left
      · intro w hSw; (try dsimp only at hSw); go_simp; (try with_reducible rfl)
      try simp only [Act.put, List.setIfInBounds_toArray, List.set_cons_zero, List.set_cons_succ]
      refine wpAnyH_take (i := 5) (oi := ⟨some 60, _, _, _, _, _⟩) (v := ?_) rfl (by kernel_rfl) (by kernel_rfl) (by kernel_rfl) (fun _ _ _ h => h) (Or.inl ⟨by rfl, ?_⟩) (by assumption) ?_
      rotate_left
      · intro w hSw; (try dsimp only at hSw); go_simp; (try with_reducible rfl)
      try simp only [Act.put, List.setIfInBounds_toArray, List.set_cons_zero, List.set_cons_succ]
      refine wpAnyH_take (i := 6) (oi := ⟨some 61, _, _, _, _, _⟩) (v := (tpV tp)) rfl (by kernel_rfl) (by kernel_rfl) (by kernel_rfl) (fun _ _ _ h => h) (yieldsIf_load_at (by rfl) 27 _ rfl ⟨w.heap.size + 1, 0, none⟩ rfl (tpL tp) _ (fun Y h => (HT4.out.keep h HT4.out.lt).at) Try.underlying27 rfl info_tp) (by assumption) ?_
      try simp only [Act.put, List.setIfInBounds_toArray, List.set_cons_zero, List.set_cons_succ]
      refine wpAnyH_ready (rs := [1]) (by kernel_rfl) (by simp) (AllReadyH.cons (o := ⟨some 56, _, _, _, _, _⟩) rfl (fun Kc hKc => ?_) AllReadyH.nil)
      go_simp
      have yB : Below w4.heap.size w4 ((w4.alloc (.cells #[.int .i64 r.fr, .int .i64 r.to, .int .i64 r.proto, .int .u32 r.src, .int .u32 r.dst, .int .i64 r.sbits, .int .i64 r.dbits, .int .i64 r.lo, .int .i64 r.hi, .int .i64 r.act] 25)).drew) := below_drew ((Below.refl _ _).alloc (Nat.le_refl _) _); have HV : Hid (OwR w4.heap.size 25 10 (some ⟨w4.heap.size, 0, none⟩) 1 1 (ruL r) ((w4.alloc (.cells #[.int .i64 r.fr, .int .i64 r.to, .int .i64 r.proto, .int .u32 r.src, .int .u32 r.dst, .int .i64 r.sbits, .int .i64 r.dbits, .int .i64 r.lo, .int .i64 r.hi, .int .i64 r.act] 25)).drew)) := Go.Lib.hid (OwR.drew (OwR.one w4 w4.heap.size 25 (ruL r) (show w4.heap.size ≤ w4.heap.size from hHeld.size) rfl)); have YB : Hid (Below w4.heap.size w4 ((w4.alloc (.cells #[.int .i64 r.fr, .int .i64 r.to, .int .i64 r.proto, .int .u32 r.src, .int .u32 r.dst, .int .i64 r.sbits, .int .i64 r.dbits, .int .i64 r.lo, .int .i64 r.hi, .int .i64 r.act] 25)).drew)) := Go.Lib.hid (yB); generalize (w4.alloc (.cells #[.int .i64 r.fr, .int .i64 r.to, .int .i64 r.proto, .int .u32 r.src, .int .u32 r.dst, .int .i64 r.sbits, .int .i64 r.dbits, .int .i64 r.lo, .int .i64 r.hi, .int .i64 r.act] 25)).drew = wB at *; generalize (some (⟨w4.heap.size, 0, none⟩ : Addr)) = AV at *
      refine hKc.out _ _ (YB.out) (fun hHeld => ?_)
      clear hKc Kc
      try simp only [Act.put, List.setIfInBounds_toArray, List.set_cons_zero, List.set_cons_succ]
      refine wpAnyH_ready (rs := [3]) (by kernel_rfl) (by simp) (AllReadyH.cons (o := ⟨some 58, _, _, _, _, _⟩) rfl (fun Kc hKc => ?_) AllReadyH.nil)
      rw [if_pos (by rfl)]
      refine step_append_rdK _ _ 22 rfl w4.heap.size 25 i0_ _ 10 72 Try.underlying22 hi_ hz0 hz1 hz2 rfl (by omega) (.slice AV 1 1) 1 (ruL r) rfl HV.out.own A L.length c (L.flatMap Ru.L) rfl HLL.out HLN.out (HRD.out _ hHeld) (ru_one _) (by unfold maxLen; omega) (by omega) hHeld.size ?_; intro v8 w8 ho8 hg8 hat8; obtain ⟨A8, c8, rfl⟩ := own_slice ho8; rw [ownBlock_blk] at hg8; have H8 : Hid (OwR w4.heap.size 25 10 A8 (1 + L.length) c8 (ruL r ++ L.flatMap Ru.L) w8) := Go.Lib.hid ⟨ho8⟩; have y8 := grownW hg8 HV.out.ge hHeld.size; clear ho8 hg8 hat8
      refine hKc.out _ _ (hHeld.trans y8) (fun hHeld => ?_)
      clear hKc Kc
      try simp only [Act.put, List.setIfInBounds_toArray, List.set_cons_zero, List.set_cons_succ]
      refine wpAnyH_ready (rs := [7]) (by kernel_rfl) (by simp) (AllReadyH.cons (o := ⟨some 62, _, _, _, _, _⟩) rfl (fun Kc hKc => ?_) AllReadyH.nil)
      go_simp
      have HL8 : Hid (RusAt w8 (r :: L) A8 c8) := Go.Lib.hid (RusAt.ofOwn (by rw [List.length_cons, Nat.add_comm]) (by rw [List.flatMap_cons]; simpa [Ru.L] using H8.out.own) (fun x hx => (List.mem_cons.1 hx).elim (fun e => by rw [e]; exact HRR.out) (HL.out.rng x))); go_at_call 8; refine (kQ.out (r :: L) A8 c8 (1 + L.length) HNC.out (by omega) f t tp HTT.out w8 HL8.out _ HQC.out).mono ?_; rintro e w9 ⟨rfl, y9⟩; dsimp only
      refine hKc.out _ _ (hHeld.trans (y9.mono hHeld.size)) (fun hHeld => ?_)
      clear hKc Kc
      try simp only [Act.put, List.setIfInBounds_toArray, List.set_cons_zero, List.set_cons_succ]
      refine wpAnyH_take (i := 8) (oi := ⟨some 54, _, _, _, _, _⟩) (v := ?_) rfl (by kernel_rfl) (by kernel_rfl) (by kernel_rfl) (fun _ _ _ h => h) (Or.inl ⟨by rfl, ?_⟩) (by assumption) ?_
      rotate_left
      · intro w hSw; (try dsimp only at hSw); go_simp; (try with_reducible rfl)
      try simp only [Act.put, List.setIfInBounds_toArray, List.set_cons_zero, List.set_cons_succ]
      refine wpAnyH_take (i := 9) (oi := ⟨some 63, _, _, _, _, _⟩) (v := ?_) rfl (by kernel_rfl) (by kernel_rfl) (by kernel_rfl) (fun _ _ _ h => h) (Or.inl ⟨by rfl, ?_⟩) (by assumption) ?_
      rotate_left
      · intro w hSw; (try dsimp only at hSw); go_simp; (try with_reducible rfl)
      try simp only [Act.put, List.setIfInBounds_toArray, List.set_cons_zero, List.set_cons_succ]
      refine wpAnyH_take (i := 10) (oi := ⟨some 64, _, _, _, _, _⟩) (v := ?_) rfl (by kernel_rfl) (by kernel_rfl) (by kernel_rfl) (fun _ _ _ h => h) (Or.inl ⟨by rfl, ?_⟩) (by assumption) ?_
      rotate_left
      · intro w hSw; (try dsimp only at hSw); go_simp; (try with_reducible rfl)
      try simp only [Act.put, List.setIfInBounds_toArray, List.set_cons_zero, List.set_cons_succ]
      refine wpAnyH_take (i := 11) (oi := ⟨some 15, _, _, _, _, _⟩) (v := ?_) rfl (by kernel_rfl) (by kernel_rfl) (by kernel_rfl) (fun _ _ _ h => h) (Or.inl ⟨by rfl, ?_⟩) (by assumption) ?_
      rotate_left
      · intro w hSw; (try dsimp only at hSw); go_simp; (try with_reducible rfl)
      try simp only [Act.put, List.setIfInBounds_toArray, List.set_cons_zero, List.set_cons_succ]
      refine wpAnyH_take (i := 12) (oi := ⟨some 16, _, _, _, _, _⟩) (v := ?_) rfl (by kernel_rfl) (by kernel_rfl) (by kernel_rfl) (fun _ _ _ h => h) (Or.inl ⟨by rfl, ?_⟩) (by assumption) ?_
      rotate_left
      · intro w hSw; (try dsimp only at hSw); go_simp; (try with_reducible rfl)
      try simp only [Act.put, List.setIfInBounds_toArray, List.set_cons_zero, List.set_cons_succ]
      refine wpAnyH_done (by kernel_rfl) ?_ _
      have yq := hHeld
      clear hHeld
      have tok1 : True := trivial
      have tok2 : True := trivial
      have x5 := x4.trans (yq.mono x4.size)
      have HR5 := Go.Lib.hid (HR4.out.keep yq HR4.out.lt)
      have HT5 := Go.Lib.hid (HT4.out.keep yq HT4.out.lt)
      generalize hwd : w9 = w5 at *
      clear hwd
      go_upto_region 9 with (first
        | (clear tok1; refine wpList_load_box rfl 25 _ rfl w.heap.size rfl (ruL r) _ HR5.out Try.underlying25 rfl info_ru ?_)
        | (clear tok2; refine wpList_load_box rfl 27 _ rfl (w.heap.size + 1) rfl (tpL tp) _ HT5.out Try.underlying27 rfl info_tp ?_)
        | (go_at_call 12; refine (kT.out r HRR.out f t tp HTT.out w5 _ HF.out).mono ?_; rintro e w6 ⟨rfl, y6⟩; dsimp only))
      have x6 := x5.trans (y6.mono x5.size)
      have hr6 := HR5.out.keep y6 HR5.out.lt
      have c9 := hr6.cell 9 rfl
      clear hr6
      have hbe := HBE.out
      by_cases ha : 0 ≤ a2
      · have hl := hbe.left ha
        injection hl with hl1 hl2
        subst hl1 hl2
        have nb : (b1 != b1) = false := by simp
        have nk : (b2 != b2) = false := by simp
        have hb2 := HAR.out
        cases fits
        · obtain ⟨h1, h2⟩ := hbe.no rfl
          dsimp only at h1 h2
          obtain ⟨h3, h4⟩ : 0 ≤ b2 ∧ c2 = b2 + 1 := by omega
          have hw : IntKind.i64.wrap (b2 + 1) = b2 + 1 := IntWalk.i64_in _ (by omega)
          subst h1 h4
          clear hbe h2 h3
          go_wp2
          go_ret
          exact ⟨rfl, x6⟩
        · have h1 := hbe.yes rfl
          injection h1 with h1 h2
          subst h1 h2
          clear hbe
          go_wp2
          go_ret
          exact ⟨rfl, x6⟩
      · obtain ⟨h1, h2⟩ := hbe.right (by show a2 < 0; omega)
        injection h1 with h1 h1'
        subst h1 h1'
        have hb0 : (decide (0 ≤ b2) != fits) = false := by
          have : decide (0 ≤ b2) = fits := h2
          rw [this]; simp
        cases fits
        · obtain ⟨h3, h4⟩ := hbe.no rfl
          dsimp only at h3 h4
          obtain rfl : c2 = -1 := by omega
          subst h3
          have hbn : ¬ 0 ≤ b2 := by have : decide (0 ≤ b2) = false := h2; simpa using this
          clear hbe h4 h2 hb0 ha
          go_wp2
          go_ret
          exact ⟨rfl, x6⟩
        · have h1 := hbe.yes rfl
          injection h1 with h1 h3
          subst h1 h3
          have hbn : 0 ≤ b2 := by have : decide (0 ≤ b2) = true := h2; simpa using this
          clear hbe h2 hb0 ha
          go_wp2
          go_ret
          exact ⟨rfl, x6⟩
end Go.Proofs.Ytacohanlpgkdeaa
