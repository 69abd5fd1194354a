/- Lemmas, several texts in one. -/
import Derived.Test.YtmgkkgpdnopeaaaRows
import Derived.Test.YtmgkkgpdnopeaaaQ01
import Derived.Test.YtmgkkgpdnopeaaaQ03
import Derived.WalkKit
import Derived.ProofKit
import Derived.OpenShut
import Derived.Below
import Derived.Deep.QuietTactic
import Derived.BigQuiet
import Derived.OwnWalk
import Derived.Maps.AppendAt
import Derived.Test.YtmgkkgpdnopeaaaQ02
import Derived.Test.YtmgkkgpdnopeaaaQ06
import Derived.Deep.DeepCutAuto
import Derived.Deep.CutBlock
/- The contract of the document's own Pseudo. -/
namespace Go.Proofs.Ytmgkkgpdnopeaaa
open Go.ChangeShapes Go.WideShapes Go.ChangeAt Go.RowKit

set_option maxRecDepth 100000 in
set_option maxHeartbeats 1000000 in
theorem rpseudo (s d p z : Int) (hs : 0 ≤ s ∧ s ≤ 4294967295) (hd : 0 ≤ d ∧ d ≤ 4294967295) (w : World) :
    Calls Try.prog 78 #[.int .u32 s, .int .u32 d, .int .i64 p, .int .i64 z] w fun e w' => e = .returned (.int .u16 (pseudo s d p z)) ∧ Below w.heap.size w w' := by
  obtain ⟨s0, s1⟩ := hs
  obtain ⟨d0, d1⟩ := hd
  have hp := IntKind.wrap_u16 p
  have hz := IntKind.wrap_u16 z
  have e1 := IntWalk.u16_in (s / 65536) (by omega)
  have e2 := IntWalk.u16_in (s % 65536) (by omega)
  have e3 := IntWalk.u16_in (d / 65536) (by omega)
  have e4 := IntWalk.u16_in (d % 65536) (by omega)
  obtain ⟨x1, hx1⟩ : ∃ x, x = s / 65536 := ⟨_, rfl⟩
  obtain ⟨x2, hx2⟩ : ∃ x, x = s % 65536 := ⟨_, rfl⟩
  obtain ⟨x3, hx3⟩ : ∃ x, x = d / 65536 := ⟨_, rfl⟩
  obtain ⟨x4, hx4⟩ : ∃ x, x = d % 65536 := ⟨_, rfl⟩
  obtain ⟨x5, hx5⟩ : ∃ x, x = p % 65536 := ⟨_, rfl⟩
  obtain ⟨x6, hx6⟩ : ∃ x, x = z % 65536 := ⟨_, rfl⟩
  have b1 : 0 ≤ x1 ∧ x1 ≤ 65535 := by omega
  have b2 : 0 ≤ x2 ∧ x2 ≤ 65535 := by omega
  have b3 : 0 ≤ x3 ∧ x3 ≤ 65535 := by omega
  have b4 : 0 ≤ x4 ∧ x4 ≤ 65535 := by omega
  have b5 : 0 ≤ x5 ∧ x5 ≤ 65535 := by omega
  have b6 : 0 ≤ x6 ∧ x6 ≤ 65535 := by omega
  have HP : Hid (fo (fo (fo (fo (fo (fo x1 + x2) + x3) + x4) + x5) + x6) = pseudo s d p z) := by
    show _ = _
    unfold pseudo
    rw [← hx1, ← hx2, ← hx3, ← hx4, ← hx5, ← hx6, fo_fo x1 x2 (by omega) (by omega), fo_fo _ x3 (by omega) (by omega), fo_fo _ x4 (by omega) (by omega), fo_fo _ x5 (by omega) (by omega), fo_fo _ x6 (by omega) (by omega)]
    congr 1; omega
  rw [← hx1] at e1
  rw [← hx2] at e2
  rw [← hx3] at e3
  rw [← hx4] at e4
  rw [← hx5] at hp
  rw [← hx6] at hz
  have g1 := fo_lo x1
  have g1' := fo_hi x1
  have g2 := fo_lo (fo x1 + x2)
  have g2' := fo_hi (fo x1 + x2)
  have g3 := fo_lo (fo (fo x1 + x2) + x3)
  have g3' := fo_hi (fo (fo x1 + x2) + x3)
  have g4 := fo_lo (fo (fo (fo x1 + x2) + x3) + x4)
  have g4' := fo_hi (fo (fo (fo x1 + x2) + x3) + x4)
  have g5 := fo_lo (fo (fo (fo (fo x1 + x2) + x3) + x4) + x5)
  have g5' := fo_hi (fo (fo (fo (fo x1 + x2) + x3) + x4) + x5)
  have d1 : s / 65536 = x1 := hx1.symm
  have d2 : s % 65536 = x2 := hx2.symm
  have d3 : d / 65536 = x3 := hx3.symm
  have d4 : d % 65536 = x4 := hx4.symm
  clear hx1 hx2 hx3 hx4 hx5 hx6
  go_enter Try.func78, Try.ntmps78
  go_wp2
  refine wp_loop_rounds 7 ?_
  rw [rounds_succ]
  go_wp2_with (go_at_call 77; refine (rjoin _ _ (by omega) (by omega) _).mono ?_; rintro e w' ⟨rfl, rfl⟩)
  rw [rounds_succ]
  go_wp2_with (go_at_call 77; refine (rjoin _ _ (by omega) (by omega) _).mono ?_; rintro e w' ⟨rfl, rfl⟩)
  rw [rounds_succ]
  go_wp2_with (go_at_call 77; refine (rjoin _ _ (by omega) (by omega) _).mono ?_; rintro e w' ⟨rfl, rfl⟩)
  rw [rounds_succ]
  go_wp2_with (go_at_call 77; refine (rjoin _ _ (by omega) (by omega) _).mono ?_; rintro e w' ⟨rfl, rfl⟩)
  rw [rounds_succ]
  go_wp2_with (go_at_call 77; refine (rjoin _ _ (by omega) (by omega) _).mono ?_; rintro e w' ⟨rfl, rfl⟩)
  rw [rounds_succ]
  go_wp2_with (go_at_call 77; refine (rjoin _ _ (by omega) (by omega) _).mono ?_; rintro e w' ⟨rfl, rfl⟩)
  rw [rounds_succ]
  go_wp2
  go_ret
  exact ⟨ret_int HP.out, (Below.refl _ _).alloc (Nat.le_refl _) _⟩
end Go.Proofs.Ytmgkkgpdnopeaaa

/- Contracts of package csum's Join and Pseudo, and of the document's own. -/
namespace Go.Proofs.Ytmgkkgpdnopeaaa
open Go.ChangeShapes Go.WideShapes Go.ChangeAt Go.RowKit

set_option maxHeartbeats 400000 in
theorem cwords (a : Int) (h0 : 0 ≤ a) (h1 : a ≤ 4294967295) (w : World) :
    Calls Try.prog 82 #[.int .u32 a] w fun e w' => e = .returned (.int .u64 (a / 65536 + a % 65536)) ∧ w = w' := by
  have hn := u32_and a 65535 h0 (by omega) (by omega) (by omega)
  have e2 : ((a.toNat &&& (65535:Int).toNat : Nat) : Int) = a % 65536 := by
    show ((a.toNat &&& 65535 : Nat) : Int) = _
    rw [nat_mask16]; omega
  rw [e2] at hn
  clear e2
  go_enter Try.func82, Try.ntmps82
  go_wp2
  go_ret
  exact ⟨rfl, rfl⟩

set_option maxHeartbeats 400000 in
theorem cjoin (a b : Int) (ha : 0 ≤ a ∧ a ≤ 65535) (hb : 0 ≤ b ∧ b ≤ 65535) (w : World) :
    Calls Try.prog 66 #[.int .u16 a, .int .u16 b] w fun e w' => e = .returned (.int .u16 (fo (a + b))) ∧ w = w' := by
  obtain ⟨a0, a1⟩ := ha
  obtain ⟨b0, b1⟩ := hb
  go_enter Try.func66, Try.ntmps66
  go_wp2_with (go_at_call 79; refine (cfold _ (by omega) (by omega) _).mono ?_; rintro e w' ⟨rfl, rfl⟩)
  go_ret
  exact ⟨rfl, rfl⟩

set_option maxHeartbeats 400000 in
theorem cpseudo (s d p z : Int) (hs : 0 ≤ s ∧ s ≤ 4294967295) (hd : 0 ≤ d ∧ d ≤ 4294967295) (w : World) :
    Calls Try.prog 67 #[.int .u32 s, .int .u32 d, .int .i64 p, .int .i64 z] w fun e w' => e = .returned (.int .u16 (pseudo s d p z)) ∧ w = w' := by
  obtain ⟨s0, s1⟩ := hs
  obtain ⟨d0, d1⟩ := hd
  have hp := IntKind.wrap_u16 p
  have hz := IntKind.wrap_u16 z
  go_enter Try.func67, Try.ntmps67
  go_wp2_with (first
    | (go_at_call 82; refine (cwords _ (by omega) (by omega) _).mono ?_; rintro e w' ⟨rfl, rfl⟩)
    | (go_at_call 79; refine (cfold _ (by omega) (by omega) _).mono ?_; rintro e w' ⟨rfl, rfl⟩))
  go_ret
  exact ⟨rfl, rfl⟩

end Go.Proofs.Ytmgkkgpdnopeaaa

/- Options of segments in memory: a slice that reads as a list of them. -/
namespace Go.Proofs.Ytmgkkgpdnopeaaa
open Go.ChangeShapes Go.WideShapes Go.ChangeAt Go.RowKit
set_option linter.unusedVariables false

/-- the slice at A reads as these options, below block B. -/
def Os (w : World) (B : Nat) (A : Option Addr) (os : List Op) : Prop :=
  os = [] ∨ ∃ ad, A = some ad ∧ ad.block < B ∧ ∀ (j : Nat) (o : Op), os[j]? = some o → w.cell? (ad.add (j * 2)) = some (.int .i64 o.kind) ∧
    ∃ Ad cd, w.cell? (ad.add (j * 2 + 1)) = some (.slice Ad o.data.length cd) ∧ Bs w B Ad o.data ∧ o.data.length ≤ cd ∧ cd ≤ 9223372036854775807 ∧ (Ad = none → cd = 0)
theorem Os.drewN {w : World} {B : Nat} {A : Option Addr} {os : List Op} (h : Os w B A os) (n : Nat) : Os (w.drewN n) B A os := h
theorem Os.below {w w' : World} {B : Nat} {A : Option Addr} {os : List Op} (h : Os w B A os) (hb : Below B w w') : Os w' B A os := by
  rcases h with h | ⟨ad, e, hlt, hc⟩
  · exact .inl h
  · refine .inr ⟨ad, e, hlt, fun j o hj => ?_⟩
    obtain ⟨h0, Ad, cd, h1, h2, h3, h4, h5⟩ := hc j o hj
    exact ⟨(hb.cell (by rw [block_add]; exact hlt)).trans h0, Ad, cd, (hb.cell (by rw [block_add]; exact hlt)).trans h1, h2.below hb, h3, h4, h5⟩
theorem Os.more {w : World} {B B' : Nat} {A : Option Addr} {os : List Op} (h : Os w B A os) (hB : B ≤ B') : Os w B' A os := by
  rcases h with h | ⟨ad, e, hlt, hc⟩
  · exact .inl h
  · refine .inr ⟨ad, e, by omega, fun j o hj => ?_⟩
    obtain ⟨h0, Ad, cd, h1, h2, h3, h4, h5⟩ := hc j o hj
    exact ⟨h0, Ad, cd, h1, h2.more hB, h3, h4, h5⟩
theorem Os.take {w : World} {B : Nat} {A : Option Addr} {os : List Op} (h : Os w B A os) (k : Nat) : Os w B A (os.take k) := by
  rcases h with h | ⟨ad, e, hlt, hc⟩
  · exact .inl (by rw [h]; simp)
  · exact .inr ⟨ad, e, hlt, fun j o hj => hc j o (by rw [List.getElem?_take] at hj; split at hj <;> simp_all)⟩
theorem add_next (ad : Addr) (k : Nat) : ad.add (k + 1) = { block := (ad.add k).block, off := (ad.add k).off + 1 } := by
  unfold Addr.add
  by_cases h : k = 0 <;> simp [h, Nat.add_assoc]
theorem Os.at_ {w : World} {B : Nat} {A : Option Addr} {os : List Op} (h : Os w B A os) {k : Nat} (hk : k < os.length) :
    ∃ ad Ad cd, A = some ad ∧ ad.block < B ∧ w.cell? (ad.add (k * 2)) = some (.int .i64 os[k].kind) ∧ w.cell? { block := (ad.add (k * 2)).block, off := (ad.add (k * 2)).off + 1 } = some (.slice Ad os[k].data.length cd) ∧ Bs w B Ad os[k].data ∧ os[k].data.length ≤ cd ∧ cd ≤ 9223372036854775807 ∧ (Ad = none → cd = 0) := by
  rcases h with h | ⟨ad, e, hlt, hc⟩
  · subst h; simp at hk
  · obtain ⟨h0, Ad, cd, h1, h2, h3, h4, h5⟩ := hc k _ (List.getElem?_eq_getElem hk)
    rw [add_next] at h1
    exact ⟨ad, Ad, cd, e, hlt, h0, h1, h2, h3, h4, h5⟩
theorem Os.nil_ {w : World} {B : Nat} {A : Option Addr} : Os w B A [] := .inl rfl
end Go.Proofs.Ytmgkkgpdnopeaaa

/- Segments as values and in memory. -/
namespace Go.Proofs.Ytmgkkgpdnopeaaa
open Go.ChangeShapes Go.WideShapes Go.ChangeAt Go.RowKit
set_option linter.unusedVariables false

abbrev tcV (t : Tc) (A_opts : Option Addr) (c_opts : Nat) (A_body : Option Addr) (c_body : Nat) : Value := .agg #[.int .i64 t.sport, .int .i64 t.dport, .int .u32 t.seq, .int .u32 t.ack, .int .i64 t.flags, .int .i64 t.win, .int .i64 t.urg, .slice A_opts t.opts.length c_opts, .slice A_body t.body.length c_body]
abbrev tcO (t : Tc) (A_opts : Option Addr) (c_opts : Nat) (A_body : Option Addr) (c_body : Nat) : Obj := .cells #[.int .i64 t.sport, .int .i64 t.dport, .int .u32 t.seq, .int .u32 t.ack, .int .i64 t.flags, .int .i64 t.win, .int .i64 t.urg, .slice A_opts t.opts.length c_opts, .slice A_body t.body.length c_body] 54
/-- it lies in block b. -/
def tcIs (w : World) (b : Nat) (t : Tc) (A_opts : Option Addr) (c_opts : Nat) (A_body : Option Addr) (c_body : Nat) : Prop := w.cell? ⟨b, 0, none⟩ = some (.int .i64 t.sport) ∧ w.cell? ⟨b, 1, none⟩ = some (.int .i64 t.dport) ∧ w.cell? ⟨b, 2, none⟩ = some (.int .u32 t.seq) ∧ w.cell? ⟨b, 3, none⟩ = some (.int .u32 t.ack) ∧ w.cell? ⟨b, 4, none⟩ = some (.int .i64 t.flags) ∧ w.cell? ⟨b, 5, none⟩ = some (.int .i64 t.win) ∧ w.cell? ⟨b, 6, none⟩ = some (.int .i64 t.urg) ∧ w.cell? ⟨b, 7, none⟩ = some (.slice A_opts t.opts.length c_opts) ∧ w.cell? ⟨b, 8, none⟩ = some (.slice A_body t.body.length c_body)
section
variable {w w' : World} {b B : Nat} {t : Tc} {A_opts : Option Addr} {c_opts : Nat} {A_body : Option Addr} {c_body : Nat}
theorem tcIs.cells (h : tcIs w b t A_opts c_opts A_body c_body) : w.cell? ⟨b, 0, none⟩ = some (.int .i64 t.sport) ∧ w.cell? ⟨b, 1, none⟩ = some (.int .i64 t.dport) ∧ w.cell? ⟨b, 2, none⟩ = some (.int .u32 t.seq) ∧ w.cell? ⟨b, 3, none⟩ = some (.int .u32 t.ack) ∧ w.cell? ⟨b, 4, none⟩ = some (.int .i64 t.flags) ∧ w.cell? ⟨b, 5, none⟩ = some (.int .i64 t.win) ∧ w.cell? ⟨b, 6, none⟩ = some (.int .i64 t.urg) ∧ w.cell? ⟨b, 7, none⟩ = some (.slice A_opts t.opts.length c_opts) ∧ w.cell? ⟨b, 8, none⟩ = some (.slice A_body t.body.length c_body) := h
theorem tcIs.keep (h : tcIs w b t A_opts c_opts A_body c_body) (hb : Below B w w') (hlt : b < B) : tcIs w' b t A_opts c_opts A_body c_body := by
  obtain ⟨c0, c1, c2, c3, c4, c5, c6, c7, c8⟩ := h
  exact ⟨(hb.cell (p := ⟨b, 0, none⟩) hlt).trans c0, (hb.cell (p := ⟨b, 1, none⟩) hlt).trans c1, (hb.cell (p := ⟨b, 2, none⟩) hlt).trans c2, (hb.cell (p := ⟨b, 3, none⟩) hlt).trans c3, (hb.cell (p := ⟨b, 4, none⟩) hlt).trans c4, (hb.cell (p := ⟨b, 5, none⟩) hlt).trans c5, (hb.cell (p := ⟨b, 6, none⟩) hlt).trans c6, (hb.cell (p := ⟨b, 7, none⟩) hlt).trans c7, (hb.cell (p := ⟨b, 8, none⟩) hlt).trans c8⟩
theorem tcIs.call (h : tcIs w b t A_opts c_opts A_body c_body) (hb : Below w.heap.size w w') (hlt : b < w.heap.size) : tcIs w' b t A_opts c_opts A_body c_body := h.keep hb hlt
theorem tcIs.made : tcIs (w.alloc (.cells #[.int .i64 t.sport, .int .i64 t.dport, .int .u32 t.seq, .int .u32 t.ack, .int .i64 t.flags, .int .i64 t.win, .int .i64 t.urg, .slice A_opts t.opts.length c_opts, .slice A_body t.body.length c_body] 54)) w.heap.size t A_opts c_opts A_body c_body := by
  refine ⟨?_, ?_, ?_, ?_, ?_, ?_, ?_, ?_, ?_⟩ <;> simp [go_sem]
end

end Go.Proofs.Ytmgkkgpdnopeaaa

/- Contracts of package tcp: the sum; how long options are; are options right? -/
namespace Go.Proofs.Ytmgkkgpdnopeaaa
open Go.ChangeShapes Go.WideShapes Go.ChangeAt Go.RowKit
set_option linter.unusedVariables false

set_option maxRecDepth 100000 in
set_option maxHeartbeats 1000000 in
theorem tsum (src dst : Int) (A : Option Addr) (n c : Nat) (l : List UInt8) (B : Nat) (w : World) (s : Int) (h6 : sumT 6 src dst l = s) (hs : 0 ≤ src ∧ src ≤ 4294967295) (hd : 0 ≤ dst ∧ dst ≤ 4294967295) (hn : l.length = n) (h : Bs w B A l) (hl : n ≤ 16777216) (hlc : n ≤ c) (hc : c ≤ 9223372036854775807) :
    Calls Try.prog 42 #[.int .u32 src, .int .u32 dst, .slice A n c] w fun e w' => e = .returned (.int .u16 s) ∧ ∃ m, w' = w.drewN m := by
  subst hn
  have HS : Hid (fo (pseudo src dst 6 (l.length : Int) + fo (tot l)) = s) := by show _ = _; rw [← h6]; unfold sumT; rfl
  have HB := Go.Lib.hid h
  clear h h6
  have t0 := fo_lo (tot l)
  have t1 := fo_hi (tot l)
  have p0 := pseudo_lo src dst 6 (l.length : Int)
  have p1 : pseudo src dst 6 (l.length : Int) ≤ 65535 := fo_hi _
  go_enter Try.func42, Try.ntmps42
  go_wp2_with (first
    | (go_at_call 67; refine (cpseudo src dst 6 (l.length : Int) hs hd _).mono ?_; rintro e w1 ⟨rfl, rfl⟩; dsimp only)
    | (go_at_call 56; refine (csum A c l B _ HB.out hl hlc (by unfold maxLen; omega)).mono ?_; rintro e w2 ⟨rfl, m2, rfl⟩; dsimp only)
    | (go_at_call 66; refine (cjoin _ _ ⟨p0, p1⟩ ⟨t0, t1⟩ _).mono ?_; rintro e w3 ⟨rfl, rfl⟩; dsimp only))
  go_ret
  exact ⟨ret_int HS.out, _, rfl⟩

theorem olen_le (os : List Op) (m : Nat) (h : ∀ o ∈ os, o.data.length ≤ m) : olen os ≤ os.length * (2 + m) := by
  induction os with
  | nil => simp [olen]
  | cons o r ih =>
    have h1 := h o (by simp)
    have h2 := ih (fun o ho => h o (by simp [ho]))
    simp only [olen, List.length_cons, Nat.add_mul]
    omega
/-- options of no great length. -/
structure Osm (os : List Op) : Prop where
  len : os.length ≤ 65536
  data : ∀ o ∈ os, o.data.length ≤ 65536
theorem Osm.take_lt {os : List Op} (h : Osm os) (k : Nat) : olen (os.take k) ≤ 4295098368 := by
  have h1 := olen_take_le os k
  have h2 := olen_le os 65536 h.data
  have h3 := h.len
  have : os.length * (2 + 65536) ≤ 65536 * (2 + 65536) := Nat.mul_le_mul_right _ h3
  omega

set_option maxRecDepth 100000 in
set_option maxHeartbeats 4000000 in
theorem toptsLen (A : Option Addr) (n c : Nat) (os : List Op) (B : Nat) (w : World) (s : Nat) (hs : olen os = s) (hn : os.length = n) (h : Os w B A os) (hB : B ≤ w.heap.size) (hm : Osm os) :
    Calls Try.prog 61 #[.slice A n c] w fun e w' => e = .returned (.int .i64 s) ∧ Below w.heap.size w w' := by
  subst hn
  have HS := Go.Lib.hid hs
  have hl := hm.len
  have HM := Go.Lib.hid hm
  clear hs hm
  go_enter Try.func61, Try.ntmps61
  go_wp2
  go_loopw [3, 8] (fun s i wx => ∃ k : Nat, k ≤ os.length ∧ i = .int .i64 k ∧ s = .int .i64 (olen (os.take k) : Nat) ∧ Below w.heap.size w wx) (fun _ i _ => os.length - (intOf i).toNat)
  case atStart => exact ⟨0, by omega, rfl, by simp [olen], Below.refl _ _⟩
  case round =>
    obtain ⟨k, hk, rfl, rfl, x1⟩ := hrel
    by_cases hlt : k < os.length
    · obtain ⟨ad, Ad, cd, rfl, hb, hc0, hc1, hbs, hdl, hcm, hnil⟩ := (h.below (x1.mono hB)).at_ hlt
      have i1 : (0 : Int) ≤ (k : Int) := by omega
      have i2 : (k : Int) < (os.length : Int) := by omega
      have j0 := HM.out.data _ (List.getElem_mem hlt)
      have j1 := HM.out.take_lt k
      have HT := Go.Lib.hid (olen_take_succ os k hlt)
      generalize os[k].kind = kd at *
      generalize os[k].data.length = d at *
      have j2 := IntWalk.i64_in ((2 : Int) + (d : Int)) (by omega)
      have j3 := IntWalk.i64_in (((olen (os.take k) : Nat) : Int) + (2 + (d : Int))) (by omega)
      clear hbs hdl hcm hnil
      go_wp2
      go_roundw
      case rel =>
        refine ⟨k + 1, by omega, by go_num, ?_, x1.alloc x1.size _⟩
        rw [HT.out]; go_num
      case measure => simp [intOf]; omega
    · obtain rfl : k = os.length := by omega
      rw [List.take_length, HS.out]
      go_wp2
      go_ret
      exact ⟨rfl, x1⟩

/-- an option as a value. -/
abbrev opV (kd : Int) (Ad : Option Addr) (d cd : Nat) : Value := .agg #[.int .i64 kd, .slice Ad d cd]

theorem tokX {kd : Int} {d : Nat} (n2 : (kd == 2) = false) (n3 : (kd == 3) = false) (n4 : (kd == 4) = false) (n5 : (kd == 5) = false) (n8 : (kd == 8) = false) : okLen kd d = true := by
  simp at n2 n3 n4 n5 n8; simp [okLen, n2, n3, n4, n5, n8]
set_option maxRecDepth 100000 in
set_option maxHeartbeats 4000000 in
theorem tfits (kd : Int) (Ad : Option Addr) (d cd : Nat) (w : World) (b : Bool) (hb : okLen kd d = b) (hd : d ≤ 65536) :
    Calls Try.prog 80 #[opV kd Ad d cd] w fun e w' => e = .returned (.bool b) ∧ Below w.heap.size w w' := by
  have HB := Go.Lib.hid hb
  clear hb
  have hkk : kd = 2 ∨ kd = 3 ∨ kd = 4 ∨ kd = 5 ∨ kd = 8 ∨ ((kd == 2) = false ∧ (kd == 3) = false ∧ (kd == 4) = false ∧ (kd == 5) = false ∧ (kd == 8) = false) := by
    simp only [beq_eq_false_iff_ne]; omega
  rcases hkk with rfl | rfl | rfl | rfl | rfl | ⟨n2, n3, n4, n5, n8⟩
  all_goals
    go_enter Try.func80, Try.ntmps80
    go_wp2
  all_goals
    go_ret
    refine ⟨ret_bool ?_, (Below.refl _ _).alloc (Nat.le_refl _) _⟩
    rw [← HB.out]
  all_goals first
    | (rw [Bool.eq_iff_iff]; simp [okLen]; omega)
    | (rw [tokX n2 n3 n4 n5 n8]; done)
    | (rw [Bool.eq_iff_iff]; simp [okLen]; done)

theorem known_iff (k : Int) : five k = (k == 2 || k == 3 || k == 4 || k == 5 || k == 8) := by
  rw [Bool.eq_iff_iff]; simp [five]; omega
set_option maxRecDepth 100000 in
set_option maxHeartbeats 4000000 in
theorem tknown (kd : Int) (w : World) (b : Bool) (hb : five kd = b) :
    Calls Try.prog 81 #[.int .i64 kd] w fun e w' => e = .returned (.bool b) ∧ w = w' := by
  have HB := Go.Lib.hid hb
  clear hb
  have hkk : kd = 2 ∨ kd = 3 ∨ kd = 4 ∨ kd = 5 ∨ kd = 8 ∨ ((kd == 2) = false ∧ (kd == 3) = false ∧ (kd == 4) = false ∧ (kd == 5) = false ∧ (kd == 8) = false) := by
    simp only [beq_eq_false_iff_ne]; omega
  rcases hkk with rfl | rfl | rfl | rfl | rfl | ⟨n2, n3, n4, n5, n8⟩
  all_goals
    go_enter Try.func81, Try.ntmps81
    go_wp2
  all_goals
    go_ret
    refine ⟨ret_bool ?_, rfl⟩
    rw [← HB.out]
  all_goals first | rfl | (rw [known_iff]; simp [*]; done)
end Go.Proofs.Ytmgkkgpdnopeaaa

/- Contract of package tcp's optsRight: are options right, but for how long they are? -/
namespace Go.Proofs.Ytmgkkgpdnopeaaa
open Go.ChangeShapes Go.WideShapes Go.ChangeAt Go.RowKit
set_option linter.unusedVariables false

/-- is there one of this kind ahead of place i? -/
def seenB (os : List Op) (i : Nat) (j : Nat) : Bool := (os.take i).any fun o => o.kind == (j : Int)
theorem seen_zero (os : List Op) (j : Nat) : seenB os 0 j = false := by simp [seenB]
theorem seen_succ (os : List Op) (i j : Nat) (h : i < os.length) : seenB os (i + 1) j = (seenB os i j || os[i].kind == (j : Int)) := by
  unfold seenB
  rw [List.take_succ_eq_append_getElem h, List.any_append]
  simp
theorem twin_seen (os : List Op) (i : Nat) (k : Int) (h : 0 ≤ k) : twin os i k = (seenB os i k.toNat && five k) := by
  unfold twin seenB
  rw [show ((k.toNat : Nat) : Int) = k by omega]
  induction os.take i with
  | nil => simp
  | cons a r ih => simp only [List.any_cons, ih]; cases (a.kind == k) <;> cases (five k) <;> simp
/-- is the option at place i right, but for the length? -/
def fairAt (os : List Op) (i : Nat) : Bool :=
  match os[i]? with
  | none => false
  | some o => decide (2 ≤ o.kind) && (decide (o.kind ≤ 255) && (okLen o.kind o.data.length && !twin os i o.kind))
structure Fair (os : List Op) (i : Nat) (h : i < os.length) : Prop where
  k0 : 2 ≤ os[i].kind
  k1 : os[i].kind ≤ 255
  len : okLen os[i].kind os[i].data.length = true
  tw : twin os i os[i].kind = false
theorem fairAt_iff (os : List Op) (i : Nat) (h : i < os.length) : fairAt os i = true ↔ Fair os i h := by
  unfold fairAt
  rw [List.getElem?_eq_getElem h]
  simp only [Bool.and_eq_true, decide_eq_true_eq, Bool.not_eq_true']
  exact ⟨fun ⟨a, b, c, d⟩ => ⟨a, b, c, d⟩, fun h => ⟨h.k0, h.k1, h.len, h.tw⟩⟩
def fairB (os : List Op) : Bool := (List.range os.length).all (fairAt os)
theorem fairB_iff (os : List Op) : fairB os = true ↔ ∀ i, i < os.length → fairAt os i = true := by simp [fairB]
theorem not_fair {os : List Op} {k : Nat} (hk : k < os.length) (h : ¬ Fair os k hk) : fairB os = false := by
  have h1 : fairAt os k = false := by
    cases e : fairAt os k
    · rfl
    · exact absurd ((fairAt_iff os k hk).1 e) h
  cases e : fairB os
  · rfl
  · rw [(fairB_iff os).1 e k hk] at h1; cases h1
/-- fair, and of no great length: right. -/
theorem right_fair (os : List Op) : rightB os = (fairB os && decide (olen os ≤ 40)) := by
  rw [Bool.eq_iff_iff, Bool.and_eq_true, decide_eq_true_eq]
  constructor
  · intro h
    refine ⟨(fairB_iff os).2 fun i hi => ?_, right_olen os h⟩
    have g := (goodAt_iff os i hi).1 ((rightB_iff os).1 h i hi)
    exact (fairAt_iff os i hi).2 ⟨g.k0, g.k1, g.len, g.tw⟩
  · rintro ⟨h, h40⟩
    refine (rightB_iff os).2 fun i hi => ?_
    have g := (fairAt_iff os i hi).1 ((fairB_iff os).1 h i hi)
    have := olen_take_le os (i + 1)
    exact (goodAt_iff os i hi).2 ⟨g.k0, g.k1, g.len, g.tw, by omega⟩

/-- 256 cells in block g: the kinds that came. -/
structure SeenAt (w : World) (g : Nat) (os : List Op) (i : Nat) : Prop where
  lt : g < w.heap.size
  cell : ∀ j : Nat, j < 256 → w.cell? ⟨g, j, none⟩ = some (.bool (seenB os i j))
  fz : ∀ j : Nat, w.frozen? ⟨g, j, none⟩ = false

theorem info_seen : (Try.prog.info? 109).map (fun i => i.zero) = some (some (.agg (Array.replicate 256 (.bool false)))) := by kernel_rfl
theorem zero_seen : ∃ cs : Array Value, (∀ W : World, Sem.run Try.prog (zeroValue 109) W = .ok (.agg cs) W) ∧ ∀ j : Nat, j < 256 → cs[j]? = some (.bool false) := by
  refine ⟨Array.replicate 256 (.bool false), fun W => ?_, fun j hj => by simp [hj]⟩
  have h := info_seen
  cases e : Try.prog.info? 109 with
  | none => rw [e] at h; cases h
  | some i =>
    rw [e] at h
    simp only [Option.map_some, Option.some.injEq] at h
    unfold zeroValue
    simp [go_sem, typeInfo, e, h]

theorem SeenAt.keep {w w' : World} {g : Nat} {os : List Op} {i : Nat} (h : SeenAt w g os i) (hb : Below w.heap.size w w') : SeenAt w' g os i :=
  ⟨Nat.lt_of_lt_of_le h.lt hb.size, fun j hj => ((bcell hb).1 g j h.lt).trans (h.cell j hj), fun j => ((bcell hb).2 g j h.lt).trans (h.fz j)⟩
/-- one more. -/
theorem SeenAt.put {w : World} {g : Nat} {os : List Op} {i : Nat} {kd : Int} (h : SeenAt w g os i) (hi : i < os.length) (hk : os[i].kind = kd) (h0 : 0 ≤ kd) (h1 : kd ≤ 255) :
    SeenAt (w.setCell ⟨g, kd.toNat, none⟩ (.bool true)) g os (i + 1) := by
  have c0 := h.cell kd.toNat (by omega)
  refine ⟨by simpa using h.lt, fun j hj => ?_, fun j => by rw [World.frozen?_setCell]; exact h.fz j⟩
  rw [seen_succ os i j hi, hk]
  by_cases e : j = kd.toNat
  · subst e
    rw [show (kd == ((kd.toNat : Nat) : Int)) = true by rw [beq_iff_eq]; omega, Bool.or_true]
    exact World.cell?_setCell_same w _ _ c0
  · rw [show (kd == (j : Int)) = false by rw [beq_eq_false_iff_ne]; omega, Bool.or_false]
    rw [World.cell?_setCell_other w _ _ _ (fun h => by injection h with _ h; omega)]
    exact h.cell j hj

set_option maxRecDepth 100000 in
set_option maxHeartbeats 4000000 in
theorem toptsRight (A : Option Addr) (n c : Nat) (os : List Op) (B : Nat) (w : World) (b : Bool) (hs : fairB os = b) (hn : os.length = n) (h : Os w B A os) (hB : B ≤ w.heap.size) (hm : Osm os) :
    Calls Try.prog 62 #[.slice A n c] w fun e w' => e = .returned (.bool b) ∧ Below w.heap.size w w' := by
  subst hn
  have HS := Go.Lib.hid hs
  have hl := hm.len
  have HM := Go.Lib.hid hm
  clear hs hm
  obtain ⟨cs, hz, hcs⟩ := zero_seen
  go_enter Try.func62, Try.ntmps62
  go_wp2
  have S0 : SeenAt (w.alloc (.cells cs 109)) w.heap.size os 0 := ⟨by simp, fun j hj => by simp [go_sem, hcs j hj, seen_zero], fun j => by simp [go_sem]⟩
  have x0 : Below w.heap.size w (w.alloc (.cells cs 109)) := (Below.refl _ _).alloc (Nat.le_refl _) _
  generalize w.alloc (.cells cs 109) = W at *
  clear hz hcs
  go_loopw [8] (fun i wx => ∃ k : Nat, k ≤ os.length ∧ i = .int .i64 k ∧ Hid (∀ j, j < k → fairAt os j = true) ∧ SeenAt wx w.heap.size os k ∧ Below w.heap.size w wx) (fun i _ => os.length - (intOf i).toNat)
  case atStart => exact ⟨0, by omega, rfl, Go.Lib.hid (fun j hj => by omega), S0, x0⟩
  case round =>
    clear S0 x0
    obtain ⟨k, hk, rfl, hF, S, x1⟩ := hrel
    by_cases hlt : k < os.length
    · obtain ⟨ad, Ad, cd, rfl, hb, hc0, hc1, hbs, hdl, hcm, hnil⟩ := (h.below (x1.mono hB)).at_ hlt
      have i1 : (0 : Int) ≤ (k : Int) := by omega
      have i2 : (k : Int) < (os.length : Int) := by omega
      have j0 := HM.out.data _ (List.getElem_mem hlt)
      have hg := S.lt
      generalize hkd : os[k].kind = kd at *
      generalize hdd : os[k].data.length = d at *
      have HKD := Go.Lib.hid hkd
      have HDD := Go.Lib.hid hdd
      clear hbs hdl hcm hnil hkd hdd
      by_cases h2 : 2 ≤ kd ∧ kd ≤ 255
      · obtain ⟨h20, h21⟩ := h2
        obtain ⟨f, hf⟩ : ∃ f, okLen kd d = f := ⟨_, rfl⟩
        have HFT := Go.Lib.hid hf
        clear hf
        cases f
        · go_wp2_with (go_at_call 80; refine (tfits kd Ad d cd _ false HFT.out j0).mono ?_; rintro e w2 ⟨rfl, hb2⟩; dsimp only)
          go_ret
          refine ⟨ret_bool ?_, ?_⟩
          · rw [← HS.out, not_fair hlt (fun g => by have e := g.len; rw [HKD.out, HDD.out, HFT.out] at e; cases e)]
          · exact (x1.alloc x1.size _).trans (hb2.mono (by have := x1.size; simp; omega))
        · go_upto_region 5 with fail
          have p0 : (wr.alloc (.cells #[.int .i64 kd, .slice Ad d cd] 86)).cell? ⟨wr.heap.size, 0, none⟩ = some (.int .i64 kd) := by simp [go_sem]
          have p1 : (wr.alloc (.cells #[.int .i64 kd, .slice Ad d cd] 86)).cell? ⟨wr.heap.size, 1, none⟩ = some (.slice Ad d cd) := by simp [go_sem]
          have p2 : wr.heap.size < (wr.alloc (.cells #[.int .i64 kd, .slice Ad d cd] 86)).heap.size := by simp
          have S1 := S.keep ((Below.refl _ _).alloc (Nat.le_refl _) (.cells #[.int .i64 kd, .slice Ad d cd] 86))
          have x2 := x1.alloc x1.size (.cells #[.int .i64 kd, .slice Ad d cd] 86)
          clear S x1 hc0 hc1
          generalize wr.alloc (.cells #[.int .i64 kd, .slice Ad d cd] 86) = V at *
          have hgq : w.heap.size ≠ wr.heap.size := by omega
          generalize wr.heap.size = q at *
          go_wp2_with fail
          refine (tfits kd Ad d cd V true HFT.out j0).mono ?_
          rintro e w2 ⟨rfl, hb2⟩
          dsimp only
          have q0 := ((bcell hb2).1 q 0 p2).trans p0
          have q1 := ((bcell hb2).1 q 1 p2).trans p1
          have q2 := Nat.lt_of_lt_of_le p2 hb2.size
          have S2 := S1.keep hb2
          have x3 := x2.trans (hb2.mono x2.size)
          clear p0 p1 p2 S1 x2 hb2
          have hs := S2.cell kd.toNat (by omega)
          have hz := S2.fz kd.toNat
          have TS := Go.Lib.hid (twin_seen os k kd (by omega))
          have hg2 := S2.lt
          generalize seenB os k kd.toNat = sb at *
          have HSS := Go.Lib.hid S2
          clear S2
          have k1 : (0 : Int) ≤ kd := by omega
          have k2 : kd < 256 := by omega
          cases sb
          · go_wp2
            go_roundw
            case rel =>
              refine ⟨k + 1, by omega, by go_num, Go.Lib.hid (fun j hj => ?_), HSS.out.put hlt HKD.out (by omega) h21, x3.setCell (p := ⟨w.heap.size, kd.toNat, none⟩) (Nat.le_refl _) _⟩
              by_cases hjk : j < k
              · exact hF.out j hjk
              · obtain rfl : j = k := by omega
                exact (fairAt_iff os j hlt).2 ⟨by rw [HKD.out]; exact h20, by rw [HKD.out]; exact h21, by rw [HKD.out, HDD.out]; exact HFT.out, by rw [HKD.out, TS.out]; rfl⟩
            case measure => simp [intOf]; omega
          · obtain ⟨v, hv⟩ : ∃ v, five kd = v := ⟨_, rfl⟩
            have HV := Go.Lib.hid hv
            clear hv
            cases v
            · go_wp2_with (go_at_call 81; refine (tknown kd _ false HV.out).mono ?_; rintro e w4 ⟨rfl, rfl⟩; dsimp only)
              go_roundw
              case rel =>
                refine ⟨k + 1, by omega, by go_num, Go.Lib.hid (fun j hj => ?_), HSS.out.put hlt HKD.out (by omega) h21, x3.setCell (p := ⟨w.heap.size, kd.toNat, none⟩) (Nat.le_refl _) _⟩
                by_cases hjk : j < k
                · exact hF.out j hjk
                · obtain rfl : j = k := by omega
                  exact (fairAt_iff os j hlt).2 ⟨by rw [HKD.out]; exact h20, by rw [HKD.out]; exact h21, by rw [HKD.out, HDD.out]; exact HFT.out, by rw [HKD.out, TS.out]; rw [HV.out]; rfl⟩
              case measure => simp [intOf]; omega
            · go_wp2_with (go_at_call 81; refine (tknown kd _ true HV.out).mono ?_; rintro e w4 ⟨rfl, rfl⟩; dsimp only)
              go_ret
              exact ⟨ret_bool (by rw [← HS.out, not_fair hlt (fun g => by have e0 := g.tw; rw [HKD.out, TS.out, HV.out] at e0; cases e0)]), x3⟩
      · have h2' : kd < 2 ∨ (2 ≤ kd ∧ 255 < kd) := by omega
        clear h2
        rcases h2' with h2 | ⟨h2, h3⟩
        all_goals
          go_wp2
          go_ret
          exact ⟨ret_bool (by rw [← HS.out, not_fair hlt (fun g => by have e0 := g.k0; have e1 := g.k1; rw [HKD.out] at e0 e1; omega)]), x1.alloc x1.size _⟩
    · obtain rfl : k = os.length := by omega
      go_wp2
      go_ret
      exact ⟨ret_bool (by rw [← HS.out, (fairB_iff os).2 hF.out]), x1⟩
end Go.Proofs.Ytmgkkgpdnopeaaa
