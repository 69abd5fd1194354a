/- Lemmas, several texts in one. -/
import Derived.Test.YtmblkgnjcmneeaaQ03
import Derived.Deep.RegionHeld3
/- The contract of package ip's Put. -/
namespace Go.Proofs.Ytmblkgnjcmneeaa
open Go.ChangeShapes Go.WideShapes Go.ChangeAt Go.RowKit
set_option linter.unusedVariables false

section
variable {p : Pk} {Ao : Option Addr} {co : Nat} {Ab : Option Addr} {cb : Nat} {w w' w'' : World}
/-- all that is known of a boxed packet, at once. -/
theorem Bx.all (h : Bx p Ao co Ab cb w w') : w'.cell? ⟨w.heap.size, 0, none⟩ = some (.int .i64 p.tos) ∧ w'.cell? ⟨w.heap.size, 1, none⟩ = some (.int .i64 p.id) ∧ w'.cell? ⟨w.heap.size, 2, none⟩ = some (.bool p.df) ∧ w'.cell? ⟨w.heap.size, 3, none⟩ = some (.bool p.mf) ∧ w'.cell? ⟨w.heap.size, 4, none⟩ = some (.int .i64 p.off) ∧ w'.cell? ⟨w.heap.size, 5, none⟩ = some (.int .i64 p.ttl) ∧ w'.cell? ⟨w.heap.size, 6, none⟩ = some (.int .i64 p.proto) ∧ w'.cell? ⟨w.heap.size, 7, none⟩ = some (.int .u32 p.src) ∧ w'.cell? ⟨w.heap.size, 8, none⟩ = some (.int .u32 p.dst) ∧ w'.cell? ⟨w.heap.size, 9, none⟩ = some (.slice Ao p.opts.length co) ∧ w'.cell? ⟨w.heap.size, 10, none⟩ = some (.slice Ab p.body.length cb) ∧ Bx p Ao co Ab cb w w' := by
  obtain ⟨h0, h1, h2, h3, h4, h5, h6, h7, h8, h9, h10⟩ := h.cells
  exact ⟨h0, h1, h2, h3, h4, h5, h6, h7, h8, h9, h10, h⟩
end

theorem cmayF (p : Pk) (Ao : Option Addr) (co : Nat) (Ab : Option Addr) (cb : Nat) (b : Bool) (h : mayB p = b) (w : World) (ho : p.opts.length ≤ 16777216) (hb : p.body.length ≤ 16777216) :
    Calls Try.prog 23 #[pkV p Ao co Ab cb] w fun e w' => e = .returned (.bool b) ∧ Below w.heap.size w w' := h ▸ cmay p Ao co Ab cb w ho hb

set_option maxHeartbeats 1000000 in
theorem cputNo (p : Pk) (Ao : Option Addr) (co : Nat) (Ab : Option Addr) (cb : Nat) (w : World) (hM : mayB p = false) (ho : p.opts.length ≤ 16777216) (hb : p.body.length ≤ 16777216) :
    Calls Try.prog 13 #[pkV p Ao co Ab cb] w fun e w' => e = .returned (.tuple #[.slice none 0 0, .int .i64 1]) ∧ Below w.heap.size w w' := by
  have HM := Go.Lib.hid hM
  clear hM
  go_enter Try.func13, Try.ntmps13
  go_wp2_with fail
  refine (cmayF p Ao co Ab cb false HM.out _ ho hb).mono ?_
  rintro e w1 ⟨rfl, hb1⟩
  dsimp only
  have x1 := (Bx.start (p := p) (Ao := Ao) (co := co) (Ab := Ab) (cb := cb) (w := w)).call hb1
  clear hb1
  go_wp2
  go_ret2
  exact ⟨rfl, x1.below⟩

set_option maxRecDepth 100000 in
set_option maxHeartbeats 4000000 in
theorem cputYes (p : Pk) (Ao : Option Addr) (co : Nat) (Ab : Option Addr) (cb : Nat) (w : World) (hM : May p) (hs0 : 0 ≤ p.src) (hs1 : p.src ≤ 4294967295) (hd0 : 0 ≤ p.dst) (hd1 : p.dst ≤ 4294967295)
    (hAo : Bs w w.heap.size Ao p.opts) (hAb : Bs w w.heap.size Ab p.body) (hnil : Ab = none → cb = 0) :
    Calls Try.prog 13 #[pkV p Ao co Ab cb] w fun e w' => ∃ g c, e = .returned (.tuple #[.slice (some ⟨g, 0, none⟩) (20 + p.opts.length + p.body.length) c, .int .i64 0]) ∧ Own w' w.heap.size g (20 + p.opts.length + p.body.length) c (putB p) ∧ Below w.heap.size w w' := by
  obtain ⟨i0, hi, hz0, hz1, hz2⟩ := info_parts info_byte
  have HM := Go.Lib.hid ((mayB_iff p).2 hM)
  have hl1 : p.opts.length ≤ 40 := hM.p40
  have hl2 : p.body.length ≤ 65535 := by have := hM.fit; have := hM.o0; omega
  have HS := Go.Lib.hid hM
  have HN := Go.Lib.hid hnil
  clear hM hnil
  go_enter Try.func13, Try.ntmps13
  go_wp2_with fail
  refine (cmayF p Ao co Ab cb true HM.out _ (by omega) (by omega)).mono ?_
  rintro e w1 ⟨rfl, hb1⟩
  dsimp only
  have x1 := (Bx.start (p := p) (Ao := Ao) (co := co) (Ab := Ab) (cb := cb) (w := w)).call hb1
  clear hb1
  go_upto_region 3 with fail
  go_region_held3 (fun w' => w'.cell? ⟨w.heap.size, 0, none⟩ = some (.int .i64 p.tos) ∧ w'.cell? ⟨w.heap.size, 1, none⟩ = some (.int .i64 p.id) ∧ w'.cell? ⟨w.heap.size, 2, none⟩ = some (.bool p.df) ∧ w'.cell? ⟨w.heap.size, 3, none⟩ = some (.bool p.mf) ∧ w'.cell? ⟨w.heap.size, 4, none⟩ = some (.int .i64 p.off) ∧ w'.cell? ⟨w.heap.size, 5, none⟩ = some (.int .i64 p.ttl) ∧ w'.cell? ⟨w.heap.size, 6, none⟩ = some (.int .i64 p.proto) ∧ w'.cell? ⟨w.heap.size, 7, none⟩ = some (.int .u32 p.src) ∧ w'.cell? ⟨w.heap.size, 8, none⟩ = some (.int .u32 p.dst) ∧ w'.cell? ⟨w.heap.size, 9, none⟩ = some (.slice Ao p.opts.length co) ∧ w'.cell? ⟨w.heap.size, 10, none⟩ = some (.slice Ab p.body.length cb) ∧ Bx p Ao co Ab cb w w')
    (first
      | exact Bx.all (below_drew x1)
      | exact Bx.all (hx2.step ((Below.refl _ _).grown hg hx2.size hblk))
      | exact Bx.all (hx.call hcall))
    (first
      | (go_at_call 24; obtain ⟨_, _, _, _, _, _, _, _, _, _, _, hx⟩ := ‹_ ∧ _›; refine (cputHead p Ao co Ab cb _ HS.out hs0 hs1 hd0 hd1 ((hAo.below hx.below).more hx.below.size)).mono ?_; rintro e w2 ⟨g, c, rfl, hown, hcall⟩)
      | (obtain ⟨_, _, _, _, _, _, _, _, _, _, _, hx2⟩ := ‹_ ∧ _›; have hblk : ∀ k, (Value.slice (some ⟨g, 0, none⟩) (20 + p.opts.length) c).ownBlock = some k → w.heap.size + 1 ≤ k := (fun k hk => by have := hown.lt.1; have := hx.size; simp [Value.ownBlock] at hk; omega); refine step_append_rd rfl _ _ 23 rfl (w.heap.size + 1) 5 i0 (.int .u8 0) 1 Try.underlying23 hi hz0 hz1 hz2 rfl _ _ _ rfl (World.ownsRow.mono hown hx.size) w.heap.size Ab _ cb (p.body.map bv) rfl (by simp) HN.out (hAb.below hx2.below).rd (bv_one _) (by unfold maxLen; omega) (by omega) hx2.size ?_; intro v3 w3 hown3 hg hat))
  all_goals
    obtain ⟨_, _, _, _, _, _, _, _, _, _, _, hx3⟩ := ‹_ ∧ _›
    obtain ⟨g', c', rfl, _, _, _, _⟩ := own_form hown3 (by omega)
    have HO : Own w3 w.heap.size g' (20 + p.opts.length + p.body.length) c' (putB p) := by
      unfold Own putB
      rw [List.map_append]
      exact World.ownsRow.mono hown3 (Nat.le_succ _)
    clear hown3 hown hcall hx hx2 hg hat hblk
    go_wp2
    go_ret2
    exact ⟨g', c', rfl, HO, hx3.below⟩
end Go.Proofs.Ytmblkgnjcmneeaa
