/- The contract of package icmp's Tell. -/
import Derived.Test.YtndhiopfkgdhcaaIcmpA7
namespace Go.Proofs.Ytndhiopfkgdhcaa
open Go.ChangeShapes Go.WideShapes Go.ChangeAt Go.RowKit
set_option linter.unusedVariables false
set_option linter.unusedSimpArgs false

/-- a packet that was read has no more bytes than there are. -/
theorem prs_size (l : List UInt8) (h : (prs l).1 = 0) : 20 + (prs l).2.opts.length + (prs l).2.body.length ≤ l.length := by
  obtain ⟨hM, _, _, hP⟩ := prs_code l h
  obtain ⟨m1, m2, m3, m4, m5⟩ := meas_ok l hM
  rw [hP]
  show 20 + ((l.take (headN l).toNat).drop 20).length + ((l.take (wd l 2).toNat).drop (headN l).toNat).length ≤ l.length
  rw [List.length_drop, List.length_drop, List.length_take, List.length_take]
  omega
theorem tell_arg {kind code rest : Int} {l : List UInt8} (h : errK kind = false ∨ upB code 255 = false) : tellI kind code rest l = (1, Ic.empty) := by
  unfold tellI
  rw [if_pos]
  rcases h with h | h
  · exact .inl h
  · unfold upB at h
    simp only [Bool.and_eq_false_iff, decide_eq_false_iff_not] at h
    omega
theorem tell_on {kind code rest : Int} {l : List UInt8} (h : errK kind = true) (hc : upB code 255 = true) : tellI kind code rest l = if (prs l).1 ≠ 0 then ((prs l).1, Ic.empty)
  else if 0 < (prs l).2.off ∨ ownErr (prs l).2 = true then (14, Ic.empty)
  else (0, ⟨kind, code, rest, l.take (20 + (prs l).2.opts.length + min 8 (prs l).2.body.length)⟩) := by
  unfold tellI
  unfold upB at hc
  simp only [Bool.and_eq_true, decide_eq_true_eq] at hc
  rw [if_neg]
  rintro (h' | h')
  · rw [h] at h'; cases h'
  · omega

set_option maxRecDepth 100000 in
set_option maxHeartbeats 8000000 in
theorem itell (kind code rest : Int) (A : Option Addr) (n c : Nat) (l : List UInt8) (w : World) (r0 : 0 ≤ rest) (r1 : rest ≤ 4294967295) (hn : l.length = n) (h : Bs w w.heap.size A l) (hn2 : n ≤ 16777216) (hnc : n ≤ c) (hc2 : c ≤ 9223372036854775807) :
    Calls Try.prog 24 #[.int .i64 kind, .int .i64 code, .int .u32 rest, .slice A n c] w (ParsedI w (tellI kind code rest l)) := by
  have x0 : Below (w.heap.size + 1) (Zi w) (Zi w) := Below.refl _ _
  obtain ⟨⟨z0, z1, z2, z3⟩, zf⟩ := zi_of x0
  have y0 := Zi.below x0
  have s0 := Zi.size x0
  obtain ⟨zk, hzk⟩ : ∃ zk : Bool, errK kind = zk := ⟨_, rfl⟩
  obtain ⟨uc, huc⟩ : ∃ uc : Bool, upB code 255 = uc := ⟨_, rfl⟩
  have HZ := Go.Lib.hid hzk
  have HU := Go.Lib.hid huc
  have HN := Go.Lib.hid hn
  have HB := Go.Lib.hid h
  clear hzk huc hn h
  cases zk
  · have HP := Go.Lib.hid (tell_arg (rest := rest) (l := l) (code := code) (.inl HZ.out))
    go_enter Try.func24, Try.ntmps24
    go_upto_region 1 with fail
    rw [zi_is]
    generalize hW : Zi w = W at *
    go_wp2_with fail
    refine (iisErr kind _ false HZ.out).mono ?_
    rintro e w' ⟨rfl, rfl⟩
    dsimp only
    go_wp2
    refine bodyPost_ret (v := .tuple #[.agg #[.int .i64 0, .int .i64 0, .int .u32 0, .slice none 0 0], .int .i64 1]) ?_ rfl (parsedI_err HP.out rfl ?_)
    · simp [results, Try.results24, go_sem, z0, z1, z2, z3]
    · exact below_s4 y0 (Nat.le_refl _) _ _ _ _
  cases uc
  · have HP := Go.Lib.hid (tell_arg (rest := rest) (l := l) (kind := kind) (.inr HU.out))
    go_enter Try.func24, Try.ntmps24
    go_upto_region 1 with fail
    rw [zi_is]
    generalize hW : Zi w = W at *
    go_wp2_with fail
    refine (iisErr kind _ true HZ.out).mono ?_
    rintro e w' ⟨rfl, rfl⟩
    dsimp only
    go_wp2_with fail
    refine (iup_b code 255 false HU.out _).mono ?_
    rintro e w' ⟨rfl, rfl⟩
    dsimp only
    go_wp2
    refine bodyPost_ret (v := .tuple #[.agg #[.int .i64 0, .int .i64 0, .int .u32 0, .slice none 0 0], .int .i64 1]) ?_ rfl (parsedI_err HP.out rfl ?_)
    · simp [results, Try.results24, go_sem, z0, z1, z2, z3]
    · exact below_s4 y0 (Nat.le_refl _) _ _ _ _
  have HP := Go.Lib.hid (tell_on (rest := rest) (l := l) HZ.out HU.out)
  go_enter Try.func24, Try.ntmps24
  go_upto_region 1 with fail
  rw [zi_is]
  generalize hW : Zi w = W at *
  go_wp2_with fail
  refine (iisErr kind _ true HZ.out).mono ?_
  rintro e w' ⟨rfl, rfl⟩
  dsimp only
  go_wp2_with fail
  refine (iup_b code 255 true HU.out _).mono ?_
  rintro e w' ⟨rfl, rfl⟩
  dsimp only
  go_wp2_with fail
  refine (cparse A n c l W HN.out ((HB.out.below y0).more y0.size) hn2 hnc hc2).mono ?_
  rintro e w1 ⟨Ao, co, Ab, cb, rfl, hg⟩
  have HMAY := Go.Lib.hid (prs_may l).1
  have HSZ := Go.Lib.hid (prs_size l)
  obtain ⟨f, hf⟩ : ∃ f, (prs l).1 = f := ⟨_, rfl⟩
  obtain ⟨p, hp⟩ : ∃ p, (prs l).2 = p := ⟨_, rfl⟩
  rw [hp] at hg HMAY
  rw [hf, hp] at HP HSZ
  rw [hf, hp]
  dsimp only
  clear hf hp z0 z1 z2 z3 zf
  have x1 := x0.trans (hg.below.mono s0)
  have s1 : w.heap.size + 1 ≤ w1.heap.size := Nat.le_trans s0 hg.below.size
  go_upto_region 4 with fail
  have C2 := c11_made w1 (.int .i64 p.tos) (.int .i64 p.id) (.bool p.df) (.bool p.mf) (.int .i64 p.off) (.int .i64 p.ttl) (.int .i64 p.proto) (.int .u32 p.src) (.int .u32 p.dst) (.slice Ao p.opts.length co) (.slice Ab p.body.length cb)
  have y2 : Below w1.heap.size w1 (w1.alloc (.cells #[.int .i64 p.tos, .int .i64 p.id, .bool p.df, .bool p.mf, .int .i64 p.off, .int .i64 p.ttl, .int .i64 p.proto, .int .u32 p.src, .int .u32 p.dst, .slice Ao p.opts.length co, .slice Ab p.body.length cb] 43)) := (Below.refl _ _).alloc (Nat.le_refl _) _
  have s2 : w1.heap.size < (w1.alloc (.cells #[.int .i64 p.tos, .int .i64 p.id, .bool p.df, .bool p.mf, .int .i64 p.off, .int .i64 p.ttl, .int .i64 p.proto, .int .u32 p.src, .int .u32 p.dst, .slice Ao p.opts.length co, .slice Ab p.body.length cb] 43)).heap.size := by simp
  generalize w1.alloc (.cells #[.int .i64 p.tos, .int .i64 p.id, .bool p.df, .bool p.mf, .int .i64 p.off, .int .i64 p.ttl, .int .i64 p.proto, .int .u32 p.src, .int .u32 p.dst, .slice Ao p.opts.length co, .slice Ab p.body.length cb] 43) = w2 at *
  have x2 := x1.trans (y2.mono s1)
  have xx2 : Below (w.heap.size + 1) (Zi w) w2 := by rw [hW]; exact x2
  obtain ⟨⟨z0, z1, z2, z3⟩, zf⟩ := zi_of xx2
  have yy2 := Zi.below xx2
  obtain ⟨c0, c1, c2, c3, c4, c5, c6, c7, c8, c9, c10⟩ := C2
  by_cases hf0 : f = 0
  · subst hf0
    have hsz := HSZ.out rfl
    rw [HN.out] at hsz
    have hm := HMAY.out
    have mo := hm.o0
    have mp := hm.p40
    have HBB : Hid (Bs w2 w2.heap.size Ab p.body) := Go.Lib.hid ((hg.bbs.below y2).more y2.size)
    obtain ⟨b, hb⟩ : ∃ b : Bool, ownErr p = b := ⟨_, rfl⟩
    have HOE := Go.Lib.hid hb
    rw [hb] at HP
    clear hb HSZ HMAY hm
    by_cases ho : p.off = 0
    · have t4 : (p.off != 0) = false := by simpa using ho
      cases b
      · have HP0 : Hid (tellI kind code rest l = (0, ⟨kind, code, rest, l.take (20 + p.opts.length + min 8 p.body.length)⟩)) := Go.Lib.hid (by rw [HP.out, if_neg (by simp), if_neg (by rw [ho]; simp)])
        clear ho HP
        go_wp2_with fail
        refine (itells p Ao co Ab cb w2 false HOE.out HBB.out).mono ?_
        rintro e w3 ⟨rfl, b3⟩
        dsimp only
        have x3 := xx2.trans (b3.mono (Zi.size xx2))
        have d9 := (b3.cell (p := ⟨w1.heap.size, 9, none⟩) s2).trans c9
        have d10 := (b3.cell (p := ⟨w1.heap.size, 10, none⟩) s2).trans c10
        clear c0 c1 c2 c3 c4 c5 c6 c7 c8 c9 c10 z0 z1 z2 z3 zf b3 x2 xx2 x1 x0 hW
        have y3 := Zi.below x3
        obtain ⟨ad, rfl, hlt, _⟩ := g8_cells HB.out (by rw [HN.out]; omega)
        have e1 := IntWalk.i64_in ((20 : Int) + (p.opts.length : Int)) (by omega)
        have hS : ∃ S : Nat, ((8 : Int) ≤ (p.body.length : Int) ∧ ¬ (p.body.length : Int) < (8 : Int) ∧ IntKind.i64.wrap ((20 : Int) + (p.opts.length : Int) + 8) = (S : Int) ∧ S = 28 + p.opts.length ∨ (p.body.length : Int) < (8 : Int) ∧ ¬ (8 : Int) ≤ (p.body.length : Int) ∧ IntKind.i64.wrap ((20 : Int) + (p.opts.length : Int) + (p.body.length : Int)) = (S : Int) ∧ S = 20 + p.opts.length + p.body.length) := by
          by_cases h : 8 ≤ p.body.length
          · refine ⟨28 + p.opts.length, .inl ⟨by omega, by omega, ?_, rfl⟩⟩
            rw [IntWalk.i64_in _ (by omega)]; omega
          · refine ⟨20 + p.opts.length + p.body.length, .inr ⟨by omega, by omega, ?_, rfl⟩⟩
            rw [IntWalk.i64_in _ (by omega)]; omega
        obtain ⟨S, hS⟩ := hS
        have HSM : Hid (20 + p.opts.length + min 8 p.body.length = S) := Go.Lib.hid (by show _ = _; omega)
        have hSn : S ≤ n := by omega
        have i0 : (0 : Int) ≤ (S : Int) := by omega
        have i1 : (S : Int) ≤ (c : Int) := by omega
        have HTL : Hid ((l.take S).length = S) := Go.Lib.hid (by rw [List.length_take, HN.out]; show min _ _ = _; omega)
        have HPF : Hid (tellI kind code rest l = (0, ⟨kind, code, rest, l.take S⟩)) := Go.Lib.hid (by rw [HP0.out, HSM.out])
        clear HP0 HSM
        rcases hS with ⟨g1, g2, g3, g4⟩ | ⟨g1, g2, g3, g4⟩
        all_goals
          clear g4
          go_wp2_with fail
          refine (cclone (some ad) S c (l.take S) w.heap.size w3 HTL.out ((HB.out.below y3).take S) y3.size (by omega) (fun h => by cases h) (by omega)).mono ?_
          rintro e w4 ⟨A3, c3, rfl, hg4⟩
          dsimp only
          have x4 := x3.trans (hg4.below.mono (Zi.size x3))
          obtain ⟨⟨z0, z1, z2, z3⟩, zf⟩ := zi_of x4
          have f4 : ∀ ad, A3 = some ad → w.heap.size < ad.block := fun ad e => Nat.lt_of_lt_of_le (Nat.lt_succ_self _) (Nat.le_trans (Zi.size x3) (hg4.fresh ad e))
          have HF : Hid (GivesIc w (set4 w4 w.heap.size (.int .i64 kind) (.int .i64 code) (.int .u32 rest) (.slice A3 S c3)) ⟨kind, code, rest, l.take S⟩ A3 c3) := Go.Lib.hid (gives_s4 ⟨r0, r1, hg4.len, hg4.cap, hg4.nil, hg4.bs⟩ f4 (Zi.below x4) _ _ _ _)
          clear d9 d10 x3 y3 hg4 x4 f4 HBB hg
          go_wp2
          all_goals
            refine bodyPost_ret (v := .tuple #[.agg #[.int .i64 kind, .int .i64 code, .int .u32 rest, .slice A3 S c3], .int .i64 0]) ?_ rfl (parsedI_ok HPF.out (by rw [icV, HTL.out]) HF.out)
            simp [results, Try.results24, go_sem, z0, z1, z2, z3]
      · have HP14 : Hid (tellI kind code rest l = (14, Ic.empty)) := Go.Lib.hid (by rw [HP.out, if_neg (by simp), if_pos (.inr rfl)])
        clear ho HP
        go_wp2_with fail
        refine (itells p Ao co Ab cb w2 true HOE.out HBB.out).mono ?_
        rintro e w3 ⟨rfl, b3⟩
        dsimp only
        have x3 := xx2.trans (b3.mono (Zi.size xx2))
        clear c0 c1 c2 c3 c4 c5 c6 c7 c8 c9 c10 z0 z1 z2 z3 zf b3 x2 xx2 x1 x0 hW
        have y3 := Zi.below x3
        obtain ⟨⟨z0, z1, z2, z3⟩, zf⟩ := zi_of x3
        go_wp2
        refine bodyPost_ret (v := .tuple #[.agg #[.int .i64 0, .int .i64 0, .int .u32 0, .slice none 0 0], .int .i64 14]) ?_ rfl (parsedI_err HP14.out rfl ?_)
        · simp [results, Try.results24, go_sem, z0, z1, z2, z3]
        · exact below_s4 y3 (Nat.le_refl _) _ _ _ _
    · have t4 : (p.off != 0) = true := by simpa using ho
      have HP14 : Hid (tellI kind code rest l = (14, Ic.empty)) := Go.Lib.hid (by rw [HP.out, if_neg (by simp), if_pos (.inl (by omega))])
      clear ho HP
      go_wp2
      refine bodyPost_ret (v := .tuple #[.agg #[.int .i64 0, .int .i64 0, .int .u32 0, .slice none 0 0], .int .i64 14]) ?_ rfl (parsedI_err HP14.out rfl ?_)
      · simp [results, Try.results24, go_sem, z0, z1, z2, z3]
      · exact below_s4 yy2 (Nat.le_refl _) _ _ _ _
  · have HPf : Hid (tellI kind code rest l = (f, Ic.empty)) := Go.Lib.hid (by rw [HP.out, if_pos hf0])
    have t4 : (f != 0) = true := by simpa using hf0
    clear hf0 HP
    go_wp2
    refine bodyPost_ret (v := .tuple #[.agg #[.int .i64 0, .int .i64 0, .int .u32 0, .slice none 0 0], .int .i64 f]) ?_ rfl (parsedI_err HPf.out rfl ?_)
    · simp [results, Try.results24, go_sem, z0, z1, z2, z3]
    · exact below_s4 yy2 (Nat.le_refl _) _ _ _ _
end Go.Proofs.Ytndhiopfkgdhcaa
