/- Lemmas of layer 7, several texts in one. -/
import Derived.Test.YthejakbjekjhjaaQ04
import Derived.Test.YthejakbjekjhjaaQ03
import Derived.Test.YthejakbjekjhjaaRows
import Derived.WalkKit
import Derived.ProofKit
import Derived.OpenShut
import Derived.Below
import Derived.Deep.QuietTactic
import Derived.Deep.RegionHeld3
import Derived.BigQuiet
import Derived.OwnWalk
import Derived.Test.YthejakbjekjhjaaQ01
import Derived.Laws.BytesString
/- The contract of package reasm's rightRuns. -/
namespace Go.Proofs.Ythejakbjekjhjaa
open Go.ChangeShapes Go.WideShapes Go.ChangeAt Go.RowKit
set_option linter.unusedVariables false
set_option linter.unusedSimpArgs false

def limB (t : Int) : Int := if t = -1 then 65535 else t
def rrB (b : Bf) : Bool := inB (limB b.total) 1 65535 && (runsB b.total 0 b.runs && decide (0 < b.runs.length))
/-- the test as the code asks it. -/
theorem runB_code (t lo : Int) (r : Rn) (hl : inB (limB t) 1 65535 = true) : runB t lo r = (!(r.data.length == 0) && (decide (r.off % 8 = 0) && inB r.off lo (limB t - (r.data.length : Int)))) := by
  unfold inB limB at hl
  unfold runB inB limB stopR
  rw [Bool.eq_iff_iff]
  simp only [Bool.and_eq_true, Bool.or_eq_true, Bool.not_eq_true', decide_eq_true_eq, decide_eq_false_iff_not, beq_eq_false_iff_ne] at hl ⊢
  split at hl <;> (split <;> omega)
theorem tmod_iff (a : Int) : Int.tmod a 8 = 0 ↔ a % 8 = 0 := ⟨fun h => Int.emod_eq_zero_of_dvd (Int.dvd_of_tmod_eq_zero h), fun h => Int.tmod_eq_zero_of_dvd (Int.dvd_of_emod_eq_zero h)⟩
theorem drop_cons {α : Type} (l : List α) (k : Nat) (h : k < l.length) : l.drop k = l[k] :: l.drop (k + 1) := List.drop_eq_getElem_cons h
theorem runsB_step (t lo : Int) (l : List Rn) (k : Nat) (h : k < l.length) : runsB t lo (l.drop k) = (runB t lo l[k] && runsB t (stopR l[k]) (l.drop (k + 1))) := by
  rw [drop_cons l k h]; rfl
set_option maxRecDepth 100000 in
set_option maxHeartbeats 4000000 in
theorem crightRuns (b : Bf) (Ao : Option Addr) (co : Nat) (Ab : Option Addr) (cb : Nat) (Ar : Option Addr) (cr : Nat) (q : Bool) (hq : rrB b = q) (w : World) (V : Nat → Prop) (hB : BfAt w V b Ao co Ab cb Ar cr) :
    Calls Try.prog 49 #[bfV b Ao co Ab cb Ar cr] w fun e w' => e = .returned (.bool q) ∧ Below w.heap.size w w' := by
  have HQ := Go.Lib.hid hq
  have b0 : Below w.heap.size w (w.alloc (oBf b Ao co Ab cb Ar cr)) := (Below.refl _ _).alloc (Nat.le_refl _) _
  have M0 := Go.Lib.hid (BoBf.made (w := w) (b := b) (Ao := Ao) (co := co) (Ab := Ab) (cb := cb) (Ar := Ar) (cr := cr))
  have s0 : w.heap.size < (w.alloc (oBf b Ao co Ab cb Ar cr)).heap.size := by simp
  have HB0 := Go.Lib.hid (hB.at b0)
  have rlen := hB.rlen
  have rcap := hB.rcap
  clear hB hq
  go_enter Try.func49, Try.ntmps49
  go_upto_region 1 with fail
  generalize w.alloc (oBf b Ao co Ab cb Ar cr) = W at *
  obtain ⟨c0, c1, c2, c3, c4, c5, c6, c7, c8, c9, c10, c11, c12, c13, c14, c15, c16, c17, c18⟩ := M0.out.cells
  clear c0 c1 c2 c3 c4 c5 c6 c7 c8 c9 c10 c11 c12 c13 c14 c15 c16
  go_upto_if 9 with fail
  go_cut [3] (fun s wx => s = .int .i64 (limB b.total) ∧ W = wx)
  case first =>
    by_cases h1 : b.total = -1
    · have e1 : (b.total != -1) = false := by simp [h1]
      go_wp2
      all_goals (go_meet; exact ⟨by simp [limB, h1], rfl⟩)
    · have e1 : (b.total != -1) = true := by simp [h1]
      go_wp2
      all_goals (go_meet; exact ⟨by simp [limB, h1], rfl⟩)
  case rest =>
  obtain ⟨rfl, rfl⟩ := hcut
  have HLI : Hid (limB b.total = limB b.total) := Go.Lib.hid rfl
  cases hl : inB (limB b.total) 1 65535
  · go_wp2_with (first | (go_at_call 26; refine (cwithin _ _ _ false hl _).mono ?_; rintro e w' ⟨rfl, rfl⟩; dsimp only))
    go_ret
    exact ⟨ret_bool (by rw [← HQ.out]; unfold rrB; rw [hl]; rfl), b0⟩
  · have HC := Go.Lib.hid (fun lo r => runB_code b.total lo r hl)
    have hl2 := hl
    unfold inB at hl2
    simp only [Bool.and_eq_true, decide_eq_true_eq] at hl2
    obtain ⟨l0, l1⟩ := hl2
    have HQ2 : Hid (q = (runsB b.total 0 b.runs && decide (0 < b.runs.length))) := Go.Lib.hid (by rw [← HQ.out]; unfold rrB; rw [hl]; rfl)
    clear HQ
    go_upto_region 7 with (first | (go_at_call 26; refine (cwithin _ _ _ true hl _).mono ?_; rintro e w' ⟨rfl, rfl⟩; dsimp only))
    go_wp2
    go_loopw [4, 18] (fun n i wr => ∃ (k : Nat) (lo : Int), k ≤ b.runs.length ∧ i = .int .i64 k ∧ n = .int .i64 lo ∧ 0 ≤ lo ∧ lo ≤ 65535 ∧ Hid (runsB b.total 0 b.runs = runsB b.total lo (b.runs.drop k)) ∧ Below W.heap.size W wr) (fun _ i _ => b.runs.length - (intOf i).toNat)
    case atStart => exact ⟨0, 0, by omega, rfl, rfl, by omega, by omega, Go.Lib.hid (by simp), Below.refl _ _⟩
    case round =>
      obtain ⟨k, lo, hk, rfl, rfl, lo0, lo1, HT, x1⟩ := hrel
      by_cases hlt : k < b.runs.length
      · obtain ⟨ad, Ad, cd, rfl, hb, r0, r1, rb⟩ := (HB0.out.at x1).runs.at_ hlt
        have HS := Go.Lib.hid (runsB_step b.total lo b.runs k hlt)
        have i1 : (0 : Int) ≤ (k : Int) := by omega
        have i2 : (k : Int) < (b.runs.length : Int) := by omega
        have q7 := rb.len
        have q8 := rb.cap
        clear rb
        generalize hd : b.runs[k] = y at *
        clear hd
        have HR := Go.Lib.hid (HC.out lo y)
        have e0 := IntWalk.i64_in (limB b.total - (y.data.length : Int)) (by omega)
        have y1 := below_alloc x1 x1.size (oRn y Ad cd)
        have M1 := Go.Lib.hid (BoRn.made (w := wr) (r := y) (Ad := Ad) (cd := cd))
        have s1 : wr.heap.size < (wr.alloc (oRn y Ad cd)).heap.size := by simp
        have HF : Hid (runB b.total lo y = false → q = false) := Go.Lib.hid (fun h => by rw [HQ2.out, HT.out, HS.out, h]; rfl)
        go_upto_region 10 with fail
        generalize wr.alloc (oRn y Ad cd) = W2 at *
        obtain ⟨d0, d1⟩ := M1.out.cells
        by_cases h1 : y.data.length = 0
        · have t1 : ((y.data.length : Int) == 0) = true := by simp [h1]
          go_wp2
          all_goals (go_ret; exact ⟨ret_bool (by rw [HF.out (by rw [HR.out]; simp [h1])]), b0.trans (y1.mono b0.size)⟩)
        · have t1 : ((y.data.length : Int) == 0) = false := by simp; intro h; rw [h] at h1; simp at h1
          by_cases h2 : y.off % 8 = 0
          · have t2 : (Int.tmod y.off 8 != 0) = false := by simp [(tmod_iff _).2 h2]
            cases h3 : inB y.off lo (limB b.total - (y.data.length : Int))
            · go_wp2_with (first | (go_at_call 26; refine (cwithin _ _ _ false h3 _).mono ?_; rintro e w' ⟨rfl, rfl⟩; dsimp only))
              all_goals (go_ret; exact ⟨ret_bool (by rw [HF.out (by rw [HR.out, h3]; simp)]), b0.trans (y1.mono b0.size)⟩)
            · have HRT : Hid (runB b.total lo y = true) := Go.Lib.hid (by rw [HR.out, h3]; simp [h1, h2])
              have OK := (runB_iff _ _ _).1 HRT.out
              have k1 := OK.top
              have k2 := OK.lo
              have k3 := OK.len
              have k4 : stopR y = y.off + (y.data.length : Int) := rfl
              clear OK
              have HN : Hid (runsB b.total 0 b.runs = runsB b.total (stopR y) (b.runs.drop (k + 1))) := Go.Lib.hid (by rw [HT.out, HS.out, HRT.out]; rfl)
              generalize hst : stopR y = st at *
              have HST := Go.Lib.hid hst
              clear hst
              go_wp2_with (first
                | (go_at_call 26; refine (cwithin _ _ _ true h3 _).mono ?_; rintro e w' ⟨rfl, rfl⟩; dsimp only)
                | (go_at_call 40; refine (cendOf y Ad cd _ st HST.out (by omega) (by omega)).mono ?_; rintro e w' ⟨rfl, hcall⟩; dsimp only))
              go_round
              case rel => exact ⟨k + 1, st, by omega, by go_num, rfl, by omega, by omega, HN, y1.trans (hcall.mono y1.size)⟩
              case measure => simp [intOf]; omega
          · have t2 : (Int.tmod y.off 8 != 0) = true := by simpa using fun h => h2 ((tmod_iff _).1 h)
            go_wp2
            all_goals (go_ret; exact ⟨ret_bool (by rw [HF.out (by rw [HR.out]; simp [h2])]), b0.trans (y1.mono b0.size)⟩)
      · obtain rfl : k = b.runs.length := by omega
        have HE : Hid (q = decide (0 < b.runs.length)) := Go.Lib.hid (by rw [HQ2.out, HT.out, List.drop_length]; simp [runsB])
        obtain ⟨c0, c1, c2, c3, c4, c5, c6, c7, c8, c9, c10, c11, c12, c13, c14, c15, c16, c17, c18⟩ := (M0.out.keep x1 s0).cells
        clear c0 c1 c2 c3 c4 c5 c6 c7 c8 c9 c10 c11 c12 c13 c14 c15 c16
        go_wp2
        go_ret
        exact ⟨ret_bool (by rw [HE.out]), b0.trans (x1.mono b0.size)⟩
end Go.Proofs.Ythejakbjekjhjaa

/- The contract of bytes.Equal. -/
namespace Go.Proofs.Ythejakbjekjhjaa
open Go.ChangeShapes Go.WideShapes Go.ChangeAt Go.RowKit
set_option linter.unusedVariables false

/-- the string of these bytes. -/
def strB (l : List UInt8) : ByteArray := (l.map fun b => (b.toNat : Int)).foldl (fun r n => r.push (UInt8.ofNat n.toNat)) ByteArray.empty
theorem push_data (l : List UInt8) : ∀ r : ByteArray, ((l.map fun b => (b.toNat : Int)).foldl (fun r n => r.push (UInt8.ofNat n.toNat)) r).data.toList = r.data.toList ++ l := by
  induction l with
  | nil => intro r; simp
  | cons a l ih =>
    intro r
    simp only [List.map_cons, List.foldl_cons]
    rw [ih]
    simp [ByteArray.push]
theorem strB_data (l : List UInt8) : (strB l).data.toList = l := by
  unfold strB
  rw [push_data]
  rfl
theorem strB_eq (a b : List UInt8) : ((strB a).toList == (strB b).toList) = (a == b) := by
  rw [ByteArray.toList_eq, ByteArray.toList_eq, strB_data, strB_data]

theorem conv_bytes (A : Option Addr) (n c : Nat) (l : List UInt8) (B : Nat) (w : World) (hn : l.length = n) (h : Bs w B A l) :
    (convert 23 9 (.slice A n c)).run Try.prog w = .ok (.string (strB l)) w := by
  subst hn
  rw [run_convert_bytes_string w _ _ 5 A l.length c Try.underlying23 Try.underlying5 Try.underlying9]
  rcases A with _ | ad
  · have hl : l = [] := by
      rcases h with h | ⟨ad, h, _⟩
      · exact h
      · cases h
    subst hl
    simp [Conv.bytesToString, strB]
  · have := run_bytesToString (P := Try.prog) w ad l.length c (l.map fun b => (b.toNat : Int)) ?_
    · exact this
    · have hr := run_loadCells_list (P := Try.prog) w ad ((l.map fun b => (b.toNat : Int)).map (Value.int .u8)) (fun j v hj => by
        rcases h with h | ⟨ad', e, _, hc⟩
        · subst h; simp at hj
        · cases e
          rw [List.map_map, List.getElem?_map, Option.map_eq_some_iff] at hj
          obtain ⟨b, hb, rfl⟩ := hj
          exact hc j b hb)
      simpa using hr

set_option maxHeartbeats 400000 in
theorem cequal (A : Option Addr) (n c : Nat) (a : List UInt8) (A' : Option Addr) (n' c' : Nat) (b : List UInt8) (B B' : Nat) (w : World) (hn : a.length = n) (hn' : b.length = n') (h : Bs w B A a) (h' : Bs w B' A' b) :
    Calls Try.prog 65 #[.slice A n c, .slice A' n' c'] w fun e w' => e = .returned (.bool (a == b)) ∧ w = w' := by
  have e1 := conv_bytes A n c a B w hn h
  have e2 := conv_bytes A' n' c' b B' w hn' h'
  have HE := Go.Lib.hid (strB_eq a b)
  clear h h' hn hn'
  generalize strB a = s at *
  generalize strB b = t at *
  go_enter Try.func65, Try.ntmps65
  go_wp2
  go_ret
  exact ⟨ret_bool HE.out, rfl⟩
end Go.Proofs.Ythejakbjekjhjaa

/- Contracts of package ip's small functions. -/
namespace Go.Proofs.Ythejakbjekjhjaa
open Go.ChangeShapes Go.WideShapes Go.ChangeAt Go.RowKit
set_option linter.unusedVariables false

set_option maxHeartbeats 400000 in
theorem cupTo (n m : Int) (w : World) :
    Calls Try.prog 57 #[.int .i64 n, .int .i64 m] w fun e w' => e = .returned (.bool (upB n m)) ∧ w = w' := by
  unfold upB
  by_cases h0 : 0 ≤ n
  · by_cases h1 : n ≤ m
    · go_enter Try.func57, Try.ntmps57
      go_wp2
      go_ret
      exact ⟨by simp [h0, h1], rfl⟩
    · go_enter Try.func57, Try.ntmps57
      go_wp2
      go_ret
      exact ⟨by simp [h1], rfl⟩
  · go_enter Try.func57, Try.ntmps57
    go_wp2
    go_ret
    exact ⟨by simp; omega, rfl⟩

/-- a packet as a value: its slices' addresses and capacities. -/
abbrev pkV (p : Pk) (Ao : Option Addr) (co : Nat) (Ab : Option Addr) (cb : Nat) : Value :=
  .agg #[.int .i64 p.tos, .int .i64 p.id, .bool p.df, .bool p.mf, .int .i64 p.off, .int .i64 p.ttl, .int .i64 p.proto, .int .u32 p.src, .int .u32 p.dst, .slice Ao p.opts.length co, .slice Ab p.body.length cb]

set_option maxHeartbeats 400000 in
theorem cheadLen (p : Pk) (Ao : Option Addr) (co : Nat) (Ab : Option Addr) (cb : Nat) (w : World) (ho : p.opts.length ≤ 16777216) :
    Calls Try.prog 59 #[pkV p Ao co Ab cb] w fun e w' => e = .returned (.int .i64 (20 + (p.opts.length : Int))) ∧ Below w.heap.size w w' := by
  go_enter Try.func59, Try.ntmps59
  go_wp2
  go_ret
  exact ⟨rfl, (Below.refl _ _).alloc (Nat.le_refl _) _⟩

theorem mod8 (n : Nat) : (((n : Int) % 8) == 0) = decide (n % 8 = 0) := by rw [Bool.eq_iff_iff]; simp; omega
set_option maxHeartbeats 1000000 in
theorem cpieceFits (p : Pk) (Ao : Option Addr) (co : Nat) (Ab : Option Addr) (cb : Nat) (w : World) (ho : p.opts.length ≤ 16777216) (hb : p.body.length ≤ 16777216) (f0 : 0 ≤ p.off) (f1 : p.off ≤ 65528) :
    Calls Try.prog 58 #[pkV p Ao co Ab cb] w fun e w' => e = .returned (.bool (fitsB p)) ∧ Below w.heap.size w w' := by
  unfold fitsB
  have e1 : IntKind.i64.wrap (20 + (p.opts.length : Int) + p.off) = 20 + (p.opts.length : Int) + p.off := IntWalk.i64_in _ (by omega)
  have e2 : IntKind.i64.wrap (20 + (p.opts.length : Int) + p.off + (p.body.length : Int)) = 20 + (p.opts.length : Int) + p.off + (p.body.length : Int) := IntWalk.i64_in _ (by omega)
  go_enter Try.func58, Try.ntmps58
  go_wp2
  go_region_held3 (fun w' => w'.cell? ⟨w.heap.size, 0, none⟩ = some (.int .i64 p.tos) ∧ w'.cell? ⟨w.heap.size, 1, none⟩ = some (.int .i64 p.id) ∧ w'.cell? ⟨w.heap.size, 2, none⟩ = some (.bool p.df) ∧ w'.cell? ⟨w.heap.size, 3, none⟩ = some (.bool p.mf) ∧ w'.cell? ⟨w.heap.size, 4, none⟩ = some (.int .i64 p.off) ∧ w'.cell? ⟨w.heap.size, 5, none⟩ = some (.int .i64 p.ttl) ∧ w'.cell? ⟨w.heap.size, 6, none⟩ = some (.int .i64 p.proto) ∧ w'.cell? ⟨w.heap.size, 7, none⟩ = some (.int .u32 p.src) ∧ w'.cell? ⟨w.heap.size, 8, none⟩ = some (.int .u32 p.dst) ∧ w'.cell? ⟨w.heap.size, 9, none⟩ = some (.slice Ao p.opts.length co) ∧ w'.cell? ⟨w.heap.size, 10, none⟩ = some (.slice Ab p.body.length cb) ∧ Below w.heap.size w w' ∧ w.heap.size < w'.heap.size)
    (first
      | (refine ⟨?_, ?_, ?_, ?_, ?_, ?_, ?_, ?_, ?_, ?_, ?_, below_drew ((Below.refl _ _).alloc (Nat.le_refl _) _), ?_⟩ <;> simp [go_sem])
      | (obtain ⟨h0, h1, h2, h3, h4, h5, h6, h7, h8, h9, h10, hbel, hlt⟩ := ‹_ ∧ _›; exact ⟨cells_keep hcall hlt h0, cells_keep hcall hlt h1, cells_keep hcall hlt h2, cells_keep hcall hlt h3, cells_keep hcall hlt h4, cells_keep hcall hlt h5, cells_keep hcall hlt h6, cells_keep hcall hlt h7, cells_keep hcall hlt h8, cells_keep hcall hlt h9, cells_keep hcall hlt h10, hbel.trans (hcall.mono hbel.size), Nat.lt_of_lt_of_le hlt hcall.size⟩))
    (first | (go_at_call 59; refine (cheadLen p Ao co Ab cb _ ho).mono ?_; rintro e w' ⟨rfl, hcall⟩))
  all_goals
    obtain ⟨h0, h1, h2, h3, h4, h5, h6, h7, h8, h9, h10, hbel, hlt⟩ := ‹_ ∧ _›
    clear hcall
    go_wp2
    all_goals (go_ret; refine ⟨ret_bool ?_, hbel⟩; clear h0 h1 h2 h3 h4 h5 h6 h7 h8 h9 h10 hbel hlt e1 e2)
    all_goals first | (simp [*]; done) | (simp [*, mod8]; done) | (simp; intro _; exfalso; omega)

theorem mod4 (n : Nat) : (((n : Int) % 4) == 0) = decide (n % 4 = 0) := by rw [Bool.eq_iff_iff]; simp; omega

set_option maxHeartbeats 2000000 in
theorem cmay (p : Pk) (Ao : Option Addr) (co : Nat) (Ab : Option Addr) (cb : Nat) (w : World) (ho : p.opts.length ≤ 16777216) (hb : p.body.length ≤ 16777216) :
    Calls Try.prog 51 #[pkV p Ao co Ab cb] w fun e w' => e = .returned (.bool (mayB p)) ∧ Below w.heap.size w w' := by
  unfold mayB
  have hm4 := mod4 p.opts.length
  by_cases h5 : upB p.off 65528 = true
  · have h5' := h5
    unfold upB at h5'
    simp only [Bool.and_eq_true, decide_eq_true_eq] at h5'
    obtain ⟨f0, f1⟩ := h5'
    go_enter Try.func51, Try.ntmps51
    go_wp2_with (first
      | (go_at_call 57; refine (cupTo _ _ _).mono ?_; rintro e w' ⟨rfl, rfl⟩)
      | (go_at_call 58; refine (cpieceFits p Ao co Ab cb _ ho hb f0 f1).mono ?_; rintro e w' ⟨rfl, hcall⟩))
    all_goals (go_ret; refine ⟨ret_bool ?_, ?_⟩)
    all_goals first | exact ((Below.refl _ _).alloc (Nat.le_refl _) _).trans (hcall.mono (by simp)) | exact (Below.refl _ _).alloc (Nat.le_refl _) _ | skip
    all_goals first | (simp [*]; done) | (have hy : p.opts.length ≤ 40 := (by omega); have hz : p.opts.length % 4 = 0 := (by omega); simp [*]; done) | (have hx : ¬ p.opts.length ≤ 40 := (by omega); simp [hx]; done)
  · go_enter Try.func51, Try.ntmps51
    go_wp2_with (first
      | (go_at_call 57; refine (cupTo _ _ _).mono ?_; rintro e w' ⟨rfl, rfl⟩))
    all_goals (go_ret; refine ⟨ret_bool ?_, ?_⟩)
    all_goals first | exact (Below.refl _ _).alloc (Nat.le_refl _) _ | skip
    all_goals (simp [*]; done)
end Go.Proofs.Ythejakbjekjhjaa
