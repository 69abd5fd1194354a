/- Lemmas, several texts in one. -/
import Derived.Test.YtmgkkgpdnopeaaaRows
import Derived.Test.YtmgkkgpdnopeaaaQ07
import Derived.WalkKit
import Derived.ProofKit
import Derived.OpenShut
import Derived.Below
import Derived.Deep.QuietTactic
import Derived.BigQuiet
import Derived.OwnWalk
import Derived.Maps.AppendAt
import Derived.Deep.DeepCutAuto
import Derived.Deep.CutBlock
import Derived.Test.YtmgkkgpdnopeaaaQ03
/- Contracts of the document's own answers for package tcp: are options right? -/
namespace Go.Proofs.Ytmgkkgpdnopeaaa
open Go.ChangeShapes Go.WideShapes Go.ChangeAt Go.RowKit
set_option linter.unusedVariables false

theorem not_good {os : List Op} {k : Nat} (hk : k < os.length) (h : ¬ Good os k hk) : false = rightB os := by
  have h1 : goodAt os k = false := by
    cases e : goodAt os k
    · rfl
    · exact absurd ((goodAt_iff os k hk).1 e) h
  cases e : rightB os
  · rfl
  · rw [(rightB_iff os).1 e k hk] at h1; cases h1

theorem ok2 {d : Nat} (h : ((d : Int) != 2) = false) : okLen 2 d = true := by simp at h; simp [okLen]; omega
theorem ok3 {d : Nat} (h : ((d : Int) != 1) = false) : okLen 3 d = true := by simp at h; simp [okLen]; omega
theorem ok4 {d : Nat} (h : ((d : Int) != 0) = false) : okLen 4 d = true := by simp at h; simp [okLen]; omega
theorem ok8 {d : Nat} (h : ((d : Int) != 8) = false) : okLen 8 d = true := by simp at h; simp [okLen]; omega
theorem ok5 {d : Nat} (h : (((d : Int) == 0) = false ∧ (d : Int) ≤ 32) ∧ ((d : Int) % 8 != 0) = false) : okLen 5 d = true := by simp at h; simp [okLen]; omega
theorem okX {kd : Int} {d : Nat} (n2 : (kd == 2) = false) (n3 : (kd == 3) = false) (n4 : (kd == 4) = false) (n5 : (kd == 5) = false) (n8 : (kd == 8) = false) : okLen kd d = true := by
  simp at n2 n3 n4 n5 n8; simp [okLen, n2, n3, n4, n5, n8]
theorem bad2 {d : Nat} (h : ((d : Int) != 2) = true) : okLen 2 d = false := by simp at h; simp [okLen]; omega
theorem bad3 {d : Nat} (h : ((d : Int) != 1) = true) : okLen 3 d = false := by simp at h; simp [okLen]; omega
theorem bad4 {d : Nat} (h : ((d : Int) != 0) = true) : okLen 4 d = false := by simp at h; simp [okLen]; omega
theorem bad8 {d : Nat} (h : ((d : Int) != 8) = true) : okLen 8 d = false := by simp at h; simp [okLen]; omega
theorem bad5a {d : Nat} (h : d = 0) : okLen 5 d = false := by simp [okLen]; omega
theorem bad5b {d : Nat} (h : 32 < (d : Int)) : okLen 5 d = false := by simp [okLen]; omega
theorem bad5c {d : Nat} (h : (((d : Int) == 0) = true ∨ 32 < (d : Int)) ∨ ((d : Int) % 8 != 0) = true) : okLen 5 d = false := by simp at h; simp [okLen]; omega

theorem twin_succ (os : List Op) (i : Nat) (k : Int) (h : i < os.length) : twin os (i + 1) k = (twin os i k || (os[i].kind == k && five k)) := by
  unfold twin
  rw [List.take_succ_eq_append_getElem h, List.any_append]
  simp
theorem twin_mono (os : List Op) (i j : Nat) (k : Int) (h : i ≤ j) (ht : twin os i k = true) : twin os j k = true := by
  unfold twin at *
  rw [List.any_eq_true] at *
  obtain ⟨x, hx, hy⟩ := ht
  exact ⟨x, (List.take_subset_take_left os h) hx, hy⟩
theorem twin_zero (os : List Op) (k : Int) : twin os 0 k = false := by simp [twin]

theorem five_iff (k : Int) : five k = true ↔ (2 ≤ k ∧ k ≤ 5) ∨ k = 8 := by simp [five]

set_option maxRecDepth 100000 in
set_option maxHeartbeats 4000000 in
theorem rright (A : Option Addr) (n c : Nat) (os : List Op) (B : Nat) (w : World) (hn : os.length = n) (h : Os w B A os) (hl : n ≤ 16777216) :
    Calls Try.prog 48 #[.slice A n c] w fun e w' => e = .returned (.bool (rightB os)) ∧ ∃ m, w' = w.drewN m := by
  subst hn
  go_enter Try.func48, Try.ntmps48
  go_wp2
  go_loopw [3, 4] (fun s i wx => ∃ k m : Nat, k ≤ os.length ∧ i = .int .i64 k ∧ s = .int .i64 (olen (os.take k) : Nat) ∧ Hid (∀ j, j < k → goodAt os j = true) ∧ olen (os.take k) ≤ 40 ∧ wx = w.drewN m) (fun _ i _ => os.length - (intOf i).toNat)
  case atStart => exact ⟨0, 0, by omega, rfl, rfl, Go.Lib.hid (fun j hj => by omega), by simp [olen], rfl⟩
  case round =>
    obtain ⟨k, m, hk, rfl, rfl, hG, h40, rfl⟩ := hrel
    by_cases hlt : k < os.length
    · obtain ⟨ad, Ad, cd, rfl, hb, hc0, hc1, hbs, hdl, hcm, hnil⟩ := h.at_ hlt
      have i1 : (0 : Int) ≤ (k : Int) := by omega
      have i2 : (k : Int) < (os.length : Int) := by omega
      generalize hkd : os[k].kind = kd at *
      generalize hdd : os[k].data.length = d at *
      have HKD := Go.Lib.hid hkd
      have HDD := Go.Lib.hid hdd
      clear hkd hdd hnil hbs
      go_wp2
      go_quiet (fail)
      rw [World.drewN_drewN]
      generalize m + nq = m
      by_cases hd : d ≤ 100
      · go_upto_block 2 with fail
        go_cut [] (fun wx => Hid (okLen kd d = true) ∧ wx = w.drewN m)
        case first =>
          have hkk : kd = 2 ∨ kd = 3 ∨ kd = 4 ∨ kd = 5 ∨ kd = 8 ∨ ((kd == 2) = false ∧ (kd == 3) = false ∧ (kd == 4) = false ∧ (kd == 5) = false ∧ (kd == 8) = false) := by
            simp only [beq_eq_false_iff_ne]; omega
          rcases hkk with rfl | rfl | rfl | rfl | rfl | ⟨n2, n3, n4, n5, n8⟩
          all_goals
            go_wp2_with fail
          all_goals first
            | (go_meet; exact ⟨Go.Lib.hid (by first | exact ok2 ‹_› | exact ok3 ‹_› | exact ok4 ‹_› | exact ok5 ‹_› | exact ok8 ‹_› | exact okX n2 n3 n4 n5 n8), rfl⟩)
            | (go_ret
               exact ⟨ret_bool (not_good hlt (fun g => by
                have e := g.len
                rw [HKD.out, HDD.out] at e
                have e2 : okLen _ d = false := (by first | exact bad2 ‹_› | exact bad3 ‹_› | exact bad4 ‹_› | exact bad5a ‹_› | exact bad5b ‹_› | exact bad5c ‹_› | exact bad8 ‹_›)
                rw [e] at e2
                cases e2)), m, rfl⟩)
        case rest =>
          obtain ⟨hok, rfl⟩ := hcut
          clear hc1 hdl hcm hc0
          go_wp2
          go_loop [7] (fun j => ∃ i : Nat, i ≤ k ∧ j = .int .i64 i ∧ Hid (twin os i kd = false)) (fun j => k - (intOf j).toNat)
          case atStart => exact ⟨0, by omega, rfl, Go.Lib.hid (twin_zero os kd)⟩
          case round =>
            obtain ⟨i, hik, rfl, hT⟩ := hrel
            by_cases hil : i < k
            · have hio : i < os.length := by omega
              obtain ⟨ad', Ad', cd', he, _, hc2, _⟩ := h.at_ hio
              cases he
              have i3 : (0 : Int) ≤ (i : Int) := by omega
              have i4 : (i : Int) < (os.length : Int) := by omega
              have HTS := Go.Lib.hid (twin_succ os i kd hio)
              generalize hk' : os[i].kind = kd' at *
              have HKP := Go.Lib.hid hk'
              clear hk'
              by_cases he : kd' = kd
              · subst he
                by_cases hf : five kd' = true
                · have hf' : (2 ≤ kd' ∧ kd' ≤ 5) ∨ (2 ≤ kd' ∧ 5 < kd' ∧ (kd' == 8) = true) := by
                    have := (five_iff _).1 hf
                    rw [beq_iff_eq]; omega
                  have HF := Go.Lib.hid hf
                  clear hf
                  rcases hf' with ⟨f1, f2⟩ | ⟨f1, f2, f3⟩
                  all_goals
                    go_wp2
                    go_ret
                    exact ⟨ret_bool (not_good hlt (fun g => by
                      have e := g.tw
                      rw [HKD.out] at e
                      have e1 := HTS.out
                      rw [HF.out] at e1
                      have e2 := twin_mono os (i + 1) k kd' (by omega) (by rw [e1]; simp)
                      rw [e] at e2
                      cases e2)), m, rfl⟩
                · have hf' : (kd' < 2 ∧ (kd' == 8) = false) ∨ (2 ≤ kd' ∧ 5 < kd' ∧ (kd' == 8) = false) := by
                    have : ¬ ((2 ≤ kd' ∧ kd' ≤ 5) ∨ kd' = 8) := fun h => hf ((five_iff _).2 h)
                    rw [beq_eq_false_iff_ne]; omega
                  have HF : Hid (five kd' = false) := Go.Lib.hid (by simpa using hf)
                  clear hf
                  rcases hf' with ⟨f1, f3⟩ | ⟨f1, f2, f3⟩
                  all_goals
                    go_wp2
                    go_round
                    case rel => exact ⟨i + 1, by omega, by go_num, Go.Lib.hid (by rw [HTS.out, hT.out, HF.out]; simp)⟩
                    case measure => simp [intOf]; omega
              · have hn : (kd' == kd) = false := by simpa using he
                clear he
                go_wp2
                go_round
                case rel => exact ⟨i + 1, by omega, by go_num, Go.Lib.hid (by rw [HTS.out, hT.out, hn]; simp)⟩
                case measure => simp [intOf]; omega
            · obtain rfl : i = k := by omega
              go_wp2
              all_goals first
                | (go_roundw
                   case rel =>
                    have ht := olen_take_succ os i hlt
                    rw [HDD.out] at ht
                    refine ⟨i + 1, m, by omega, by go_num, by rw [ht]; go_num, Go.Lib.hid (fun j hj => ?_), by omega, rfl⟩
                    by_cases hji : j < i
                    · exact hG.out j hji
                    · obtain rfl : j = i := by omega
                      refine (goodAt_iff os j hlt).2 ⟨?_, ?_, ?_, ?_, ?_⟩
                      · rw [HKD.out]; omega
                      · rw [HKD.out]; omega
                      · rw [HKD.out, HDD.out]; exact hok.out
                      · rw [HKD.out]; exact hT.out
                      · omega
                   case measure => simp [intOf]; omega)
                | (go_ret
                   exact ⟨ret_bool (not_good hlt (fun g => by
                    have g1 := g.k0
                    have g2 := g.k1
                    have g3 := g.n40
                    rw [olen_take_succ os i hlt, HDD.out] at g3
                    rw [HKD.out] at g1 g2
                    omega)), m, rfl⟩)
      · go_wp2
        go_ret
        exact ⟨ret_bool (not_good hlt (fun g => by
          have := g.n40
          rw [olen_take_succ os k hlt, HDD.out] at this
          omega)), m, rfl⟩
    · obtain rfl : k = os.length := by omega
      go_wp2
      go_ret
      exact ⟨ret_bool ((rightB_iff os).2 hG.out).symm, m, rfl⟩
end Go.Proofs.Ytmgkkgpdnopeaaa

/- Contracts of the document's own answers for package tcp: numbers as bytes, the sum. -/
namespace Go.Proofs.Ytmgkkgpdnopeaaa
open Go.ChangeShapes Go.WideShapes Go.ChangeAt Go.RowKit
set_option linter.unusedVariables false

set_option maxRecDepth 100000 in
set_option maxHeartbeats 1000000 in
theorem rsumT (src dst : Int) (A : Option Addr) (n c : Nat) (l : List UInt8) (B : Nat) (w : World) (hs : 0 ≤ src ∧ src ≤ 4294967295) (hd : 0 ≤ dst ∧ dst ≤ 4294967295) (hn : l.length = n) (h : Bs w B A l) (hB : B ≤ w.heap.size) (hl : n ≤ 16777216) (hlc : n ≤ c) :
    Calls Try.prog 46 #[.int .u32 src, .int .u32 dst, .slice A n c] w fun e w' => e = .returned (.int .u16 (sumT 6 src dst l)) ∧ Below w.heap.size w w' := by
  have HS : Hid (fo (pseudo src dst 6 (n : Int) + fo (tot l)) = sumT 6 src dst l) := by show _ = _; unfold sumT; rw [hn]
  have HN := Go.Lib.hid hn
  have HB := Go.Lib.hid h
  clear hn h
  go_enter Try.func46, Try.ntmps46
  go_wp2_with fail
  refine (rpseudo src dst 6 (n : Int) hs hd _).mono ?_
  rintro e w1 ⟨rfl, hb1⟩
  dsimp only
  go_wp2_with fail
  refine (rsum_n A n c l B _ HN.out (HB.out.below (hb1.mono hB)) (Nat.le_trans hB hb1.size) hl hlc).mono ?_
  rintro e w2 ⟨rfl, hb2⟩
  dsimp only
  have p0 := fo_lo (src / 65536 + src % 65536 + (dst / 65536 + dst % 65536) + 6 % 65536 + (n : Int) % 65536)
  have p1 := fo_hi (src / 65536 + src % 65536 + (dst / 65536 + dst % 65536) + 6 % 65536 + (n : Int) % 65536)
  have t0 := fo_lo (tot l)
  have t1 := fo_hi (tot l)
  go_wp2_with fail
  refine (rjoin _ _ ⟨p0, p1⟩ ⟨t0, t1⟩ _).mono ?_
  rintro e w3 ⟨rfl, rfl⟩
  dsimp only
  go_wp2
  go_ret
  exact ⟨ret_int HS.out, hb1.trans (hb2.mono hb1.size)⟩
end Go.Proofs.Ytmgkkgpdnopeaaa

/- The contract of the document's own bytes of a segment. -/
namespace Go.Proofs.Ytmgkkgpdnopeaaa
open Go.ChangeShapes Go.WideShapes Go.ChangeAt Go.RowKit
set_option linter.unusedVariables false

theorem two_small (n : Int) : (two n).length ≤ 1073741824 := by simp [two]
theorem seg_join (t : Tc) (ck : Int) (m : Nat) (h : thl t.opts = 20 + m) : (two t.sport ++ two t.dport ++ four t.seq ++ four t.ack ++ [b8 ((20 + (m : Int)) / 4 * 16), b8 t.flags] ++ two t.win ++ two ck ++ two t.urg) ++ padB t.opts ++ t.body = segB t ck := by
  unfold segB seg20 two four
  rw [h]
  simp
/-- what a segment must be for its bytes. -/
structure RngT (t : Tc) : Prop where
  s0 : 0 ≤ t.sport
  s1 : t.sport ≤ 65535
  d0 : 0 ≤ t.dport
  d1 : t.dport ≤ 65535
  q0 : 0 ≤ t.seq
  q1 : t.seq ≤ 4294967295
  a0 : 0 ≤ t.ack
  a1 : t.ack ≤ 4294967295
  w0 : 0 ≤ t.win
  w1 : t.win ≤ 65535
  u0 : 0 ≤ t.urg
  u1 : t.urg ≤ 65535
  f0 : 0 ≤ t.flags
  f1 : t.flags ≤ 255
  opts : rightB t.opts = true
  body : t.body.length ≤ 65535

end Go.Proofs.Ytmgkkgpdnopeaaa

/- The contract of the document's own Put of segments. -/
namespace Go.Proofs.Ytmgkkgpdnopeaaa
open Go.ChangeShapes Go.WideShapes Go.ChangeAt Go.RowKit
set_option linter.unusedVariables false

/-- what is put, and whether. -/
structure PutTL (src dst : Int) (t : Tc) (L : List UInt8) (n : Nat) (r : Int) : Prop where
  len : L.length = n
  small : n ≤ 65535
  way : (mayT t = true ∧ L = putT src dst t ∧ r = 0) ∨ (mayT t = false ∧ L = [] ∧ r = 1)
theorem putTL (src dst : Int) (t : Tc) : ∃ L n r, PutTL src dst t L n r := by
  by_cases h : mayT t = true
  · have M := (mayT_iff t).1 h
    refine ⟨putT src dst t, _, 0, rfl, ?_, .inl ⟨h, rfl, rfl⟩⟩
    have := M.fit
    rw [putT_length]; omega
  · exact ⟨[], 0, 1, rfl, by omega, .inr ⟨by simpa using h, rfl, rfl⟩⟩
theorem PutTL.no {src dst : Int} {t : Tc} {L : List UInt8} {n : Nat} {r : Int} (h : PutTL src dst t L n r) (hm : ¬ MayT t) : L = [] ∧ n = 0 ∧ r = 1 := by
  rcases h.way with ⟨a, _⟩ | ⟨_, rfl, rfl⟩
  · exact absurd ((mayT_iff t).1 a) hm
  · have := h.len; simp at this; exact ⟨rfl, this.symm, rfl⟩
theorem PutTL.yes {src dst : Int} {t : Tc} {L : List UInt8} {n : Nat} {r : Int} (h : PutTL src dst t L n r) (hm : MayT t) : L = putT src dst t ∧ n = thl t.opts + t.body.length ∧ r = 0 := by
  rcases h.way with ⟨_, rfl, rfl⟩ | ⟨a, _⟩
  · have := h.len; rw [putT_length] at this; exact ⟨rfl, this.symm, rfl⟩
  · rw [(mayT_iff t).2 hm] at a; cases a
/-- what came, or was made: a segment's lists. -/
structure TcIn (w : World) (B : Nat) (t : Tc) (Ao : Option Addr) (co : Nat) (Ab : Option Addr) (cb : Nat) : Prop where
  q0 : 0 ≤ t.seq
  q1 : t.seq ≤ 4294967295
  a0 : 0 ≤ t.ack
  a1 : t.ack ≤ 4294967295
  olen : t.opts.length ≤ co
  ocap : co ≤ 9223372036854775807
  onil : Ao = none → co = 0
  os : Os w B Ao t.opts
  blen : t.body.length ≤ cb
  bcap : cb ≤ 9223372036854775807
  bnil : Ab = none → cb = 0
  bs : Bs w B Ab t.body
theorem TcIn.below {w w' : World} {B : Nat} {t : Tc} {Ao : Option Addr} {co : Nat} {Ab : Option Addr} {cb : Nat} (h : TcIn w B t Ao co Ab cb) (hb : Below B w w') : TcIn w' B t Ao co Ab cb :=
  ⟨h.q0, h.q1, h.a0, h.a1, h.olen, h.ocap, h.onil, h.os.below hb, h.blen, h.bcap, h.bnil, h.bs.below hb⟩
theorem TcIn.more {w : World} {B B' : Nat} {t : Tc} {Ao : Option Addr} {co : Nat} {Ab : Option Addr} {cb : Nat} (h : TcIn w B t Ao co Ab cb) (hb : B ≤ B') : TcIn w B' t Ao co Ab cb :=
  ⟨h.q0, h.q1, h.a0, h.a1, h.olen, h.ocap, h.onil, h.os.more hb, h.blen, h.bcap, h.bnil, h.bs.more hb⟩

theorem run_arr5 (a b c d e : Value) (w : World) : (Instr.index 67 (.agg #[a, b, c, d, e]) (.int .i64 0)).run Try.prog w = .ok a w ∧ (Instr.index 67 (.agg #[a, b, c, d, e]) (.int .i64 1)).run Try.prog w = .ok b w ∧ (Instr.index 67 (.agg #[a, b, c, d, e]) (.int .i64 2)).run Try.prog w = .ok c w ∧ (Instr.index 67 (.agg #[a, b, c, d, e]) (.int .i64 3)).run Try.prog w = .ok d w ∧ (Instr.index 67 (.agg #[a, b, c, d, e]) (.int .i64 4)).run Try.prog w = .ok e w := by
  obtain ⟨i0, hi, hz0, hz1, hz2⟩ := info_parts info_int
  exact ⟨run_index_arr _ _ 5 .i64 i0 _ 0 _ (by kernel_rfl) Try.underlying3 hi (by kernel_rfl) (by omega) rfl w, run_index_arr _ _ 5 .i64 i0 _ 1 _ (by kernel_rfl) Try.underlying3 hi (by kernel_rfl) (by omega) rfl w, run_index_arr _ _ 5 .i64 i0 _ 2 _ (by kernel_rfl) Try.underlying3 hi (by kernel_rfl) (by omega) rfl w, run_index_arr _ _ 5 .i64 i0 _ 3 _ (by kernel_rfl) Try.underlying3 hi (by kernel_rfl) (by omega) rfl w, run_index_arr _ _ 5 .i64 i0 _ 4 _ (by kernel_rfl) Try.underlying3 hi (by kernel_rfl) (by omega) rfl w⟩
theorem rright_b (A : Option Addr) (n c : Nat) (os : List Op) (B : Nat) (w : World) (b : Bool) (hb : rightB os = b) (hn : os.length = n) (h : Os w B A os) (hl : n ≤ 16777216) :
    Calls Try.prog 48 #[.slice A n c] w fun e w' => e = .returned (.bool b) ∧ ∃ m, w' = w.drewN m := hb ▸ rright A n c os B w hn h hl
theorem rsumT_n (src dst : Int) (A : Option Addr) (n c : Nat) (l : List UInt8) (B : Nat) (w : World) (s : Int) (h6 : sumT 6 src dst l = s) (hs : 0 ≤ src ∧ src ≤ 4294967295) (hd : 0 ≤ dst ∧ dst ≤ 4294967295) (hn : l.length = n) (h : Bs w B A l) (hB : B ≤ w.heap.size) (hl : n ≤ 16777216) (hlc : n ≤ c) :
    Calls Try.prog 46 #[.int .u32 src, .int .u32 dst, .slice A n c] w fun e w' => e = .returned (.int .u16 s) ∧ Below w.heap.size w w' := h6 ▸ rsumT src dst A n c l B w hs hd hn h hB hl hlc
/-- the five numbers that the document asks about. -/
def Five (t : Tc) : Prop := (0 ≤ t.sport ∧ t.sport ≤ 65535) ∧ (0 ≤ t.dport ∧ t.dport ≤ 65535) ∧ (0 ≤ t.win ∧ t.win ≤ 65535) ∧ (0 ≤ t.urg ∧ t.urg ≤ 65535) ∧ (0 ≤ t.flags ∧ t.flags ≤ 255)

end Go.Proofs.Ytmgkkgpdnopeaaa
