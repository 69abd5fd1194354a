/- Lemmas, several texts in one. -/
import Derived.Test.YtmblkgnjcmneeaaQ04
/- Contracts of the document's own answers for package ip: a head, and a packet's bytes. -/
namespace Go.Proofs.Ytmblkgnjcmneeaa
open Go.ChangeShapes Go.WideShapes Go.ChangeAt Go.RowKit
set_option linter.unusedVariables false

theorem info_u32 : (Try.prog.info? 22).map (fun i => (i.zero, i.size, i.bytes)) = some (some (.int .u32 0), 1, 4) := by kernel_rfl
theorem arr2 (a b : Value) (w : World) : (Instr.index 75 (.agg #[a, b]) (.int .i64 0)).run Try.prog w = .ok a w ∧ (Instr.index 75 (.agg #[a, b]) (.int .i64 1)).run Try.prog w = .ok b w := by
  obtain ⟨i0, hi, hz0, hz1, hz2⟩ := info_parts info_u32
  exact ⟨run_index_arr _ _ 2 .u32 i0 _ 0 _ (by kernel_rfl) Try.underlying22 hi (by kernel_rfl) (by omega) rfl w, run_index_arr _ _ 2 .u32 i0 _ 1 _ (by kernel_rfl) Try.underlying22 hi (by kernel_rfl) (by omega) rfl w⟩

/-- a packet whose head may be told, whether or not its body fits its place. -/
structure MayH (p : Pk) : Prop where
  t0 : 0 ≤ p.tos
  t1 : p.tos ≤ 255
  l0 : 0 ≤ p.ttl
  l1 : p.ttl ≤ 255
  r0 : 0 ≤ p.proto
  r1 : p.proto ≤ 255
  i0 : 0 ≤ p.id
  i1 : p.id ≤ 65535
  o0 : 0 ≤ p.off
  o1 : p.off ≤ 65528
  p40 : p.opts.length ≤ 40
  p4 : p.opts.length % 4 = 0
  whole : 20 + p.opts.length + p.body.length ≤ 65535
theorem May.h {p : Pk} (h : May p) : MayH p := ⟨h.t0, h.t1, h.l0, h.l1, h.r0, h.r1, h.i0, h.i1, h.o0, h.o1, h.p40, h.p4, by have := h.fit; have := h.o0; omega⟩

set_option maxRecDepth 100000 in
set_option maxHeartbeats 4000000 in
theorem rheadH (p : Pk) (Ao : Option Addr) (co : Nat) (Ab : Option Addr) (cb : Nat) (ck : Int) (w : World) (hM : MayH p) (k0 : 0 ≤ ck) (k1 : ck ≤ 65535) (hs0 : 0 ≤ p.src) (hs1 : p.src ≤ 4294967295) (hd0 : 0 ≤ p.dst) (hd1 : p.dst ≤ 4294967295)
    (hAo : Bs w w.heap.size Ao p.opts) (hnil : Ao = none → co = 0) :
    Calls Try.prog 22 #[pkV p Ao co Ab cb, .int .i64 ck] w fun e w' => ∃ g c, e = .returned (.slice (some ⟨g, 0, none⟩) (20 + p.opts.length) c) ∧ Own w' w.heap.size g (20 + p.opts.length) c (hd p ck) ∧ Below w.heap.size w w' := by
  obtain ⟨i0, hi, hz0, hz1, hz2⟩ := info_parts info_byte
  have HAo := Go.Lib.hid hAo
  have HNil := Go.Lib.hid hnil
  have fl0 := flg_lo p hM.o0
  have fl1 := flg_hi p hM.o1
  obtain ⟨t0, t1, l0, l1, r0, r1, d0, d1, f0, f1, p40, p4, fit⟩ := hM
  have b65 : p.body.length ≤ 65535 := by omega
  have ix := fun W => arr2 (.int .u32 p.src) (.int .u32 p.dst) W
  have ix0 := fun W => (ix W).1
  have ix1 := fun W => (ix W).2
  have hF : Hid (flg p = p.off / 8 + (if p.mf then 8192 else 0) + (if p.df then 16384 else 0)) := Go.Lib.hid rfl
  clear ix hAo hnil
  go_enter Try.func22, Try.ntmps22
  go_upto_if 24 with fail
  go_cut [7] (fun s7 wx => s7 = .int .i64 (p.off / 8 + (if p.mf then 8192 else 0)) ∧ wx = w.alloc (.cells #[.int .i64 p.tos, .int .i64 p.id, .bool p.df, .bool p.mf, .int .i64 p.off, .int .i64 p.ttl, .int .i64 p.proto, .int .u32 p.src, .int .u32 p.dst, .slice Ao p.opts.length co, .slice Ab p.body.length cb] 25))
  case first =>
    go_wp2_with fail
    all_goals (go_meet; exact ⟨by simp [*], by simp [*]⟩)
  case rest =>
  obtain ⟨rfl, rfl⟩ := hcut
  have y0 : 0 ≤ p.off / 8 + (if p.mf then 8192 else 0) := by split <;> omega
  have y1 : p.off / 8 + (if p.mf then 8192 else 0) ≤ 16383 := by split <;> omega
  generalize hy : p.off / 8 + (if p.mf then 8192 else 0) = y at *
  have HY := Go.Lib.hid hy
  clear hy
  go_upto_if 28 with fail
  go_cut [7] (fun s7 wx => s7 = .int .i64 (y + (if p.df then 16384 else 0)) ∧ wx = w.alloc (.cells #[.int .i64 p.tos, .int .i64 p.id, .bool p.df, .bool p.mf, .int .i64 p.off, .int .i64 p.ttl, .int .i64 p.proto, .int .u32 p.src, .int .u32 p.dst, .slice Ao p.opts.length co, .slice Ab p.body.length cb] 25))
  case first =>
    go_wp2_with fail
    all_goals (go_meet; exact ⟨by simp [*], by simp [*]⟩)
  case rest =>
  obtain ⟨rfl, rfl⟩ := hcut
  have HF2 : Hid (y + (if p.df then 16384 else 0) = flg p) := Go.Lib.hid hF.out.symm
  rw [HF2.out]
  clear HY HF2 y0 y1
  generalize hfl : flg p = fl at *
  have HFL := Go.Lib.hid hfl
  clear hfl hF
  have q1 := IntWalk.i64_in (20 + (p.opts.length : Int)) (by omega)
  have u1 := IntWalk.u8_in (64 + (20 + (p.opts.length : Int)) / 4) (by omega)
  have u2 := IntWalk.u8_in p.tos (by omega)
  have u3 := IntWalk.u8_in ((20 + (p.opts.length : Int) + (p.body.length : Int)) / 256) (by omega)
  have u4 := IntWalk.u8_in ((20 + (p.opts.length : Int) + (p.body.length : Int)) % 256) (by omega)
  have u5 := IntWalk.u8_in (p.id / 256) (by omega)
  have u6 := IntWalk.u8_in (p.id % 256) (by omega)
  have u7 := IntWalk.u8_in (fl / 256) (by omega)
  have u8 := IntWalk.u8_in (fl % 256) (by omega)
  have u9 := IntWalk.u8_in p.ttl (by omega)
  have u10 := IntWalk.u8_in p.proto (by omega)
  have u11 := IntWalk.u8_in (ck / 256) (by omega)
  have u12 := IntWalk.u8_in (ck % 256) (by omega)
  go_wp2
  have x1 := (Bx.start (p := p) (Ao := Ao) (co := co) (Ab := Ab) (cb := cb) (w := w)).step ((Below.refl _ _).alloc (by simp) (.cells #[.int .u8 (64 + (20 + (p.opts.length : Int)) / 4), .int .u8 p.tos, .int .u8 ((20 + (p.opts.length : Int) + (p.body.length : Int)) / 256), .int .u8 ((20 + (p.opts.length : Int) + (p.body.length : Int)) % 256), .int .u8 (p.id / 256), .int .u8 (p.id % 256), .int .u8 (fl / 256), .int .u8 (fl % 256), .int .u8 p.ttl, .int .u8 p.proto, .int .u8 (ck / 256), .int .u8 (ck % 256)] 5))
  have o1 := World.ownsRow_lit (base := w.heap.size + 1) (e := 5) (size := 1) (w.alloc (.cells #[.int .i64 p.tos, .int .i64 p.id, .bool p.df, .bool p.mf, .int .i64 p.off, .int .i64 p.ttl, .int .i64 p.proto, .int .u32 p.src, .int .u32 p.dst, .slice Ao p.opts.length co, .slice Ab p.body.length cb] 25)) #[.int .u8 (64 + (20 + (p.opts.length : Int)) / 4), .int .u8 p.tos, .int .u8 ((20 + (p.opts.length : Int) + (p.body.length : Int)) / 256), .int .u8 ((20 + (p.opts.length : Int) + (p.body.length : Int)) % 256), .int .u8 (p.id / 256), .int .u8 (p.id % 256), .int .u8 (fl / 256), .int .u8 (fl % 256), .int .u8 p.ttl, .int .u8 p.proto, .int .u8 (ck / 256), .int .u8 (ck % 256)] 12 (by simp) (by unfold maxLen; omega) rfl
  have hl : #[Value.int .u8 (64 + (20 + (p.opts.length : Int)) / 4), .int .u8 p.tos, .int .u8 ((20 + (p.opts.length : Int) + (p.body.length : Int)) / 256), .int .u8 ((20 + (p.opts.length : Int) + (p.body.length : Int)) % 256), .int .u8 (p.id / 256), .int .u8 (p.id % 256), .int .u8 (fl / 256), .int .u8 (fl % 256), .int .u8 p.ttl, .int .u8 p.proto, .int .u8 (ck / 256), .int .u8 (ck % 256)].toList = [b8 (64 + (20 + (p.opts.length : Int)) / 4), b8 p.tos, b8 ((20 + (p.opts.length : Int) + (p.body.length : Int)) / 256), b8 ((20 + (p.opts.length : Int) + (p.body.length : Int)) % 256), b8 (p.id / 256), b8 (p.id % 256), b8 (fl / 256), b8 (fl % 256), b8 p.ttl, b8 p.proto, b8 (ck / 256), b8 (ck % 256)].map bv := by
    simp only [List.map_cons, List.map_nil, bv]
    rw [b8_is _ (by omega) (by omega), b8_is _ (by omega) (by omega), b8_is _ (by omega) (by omega), b8_is _ (by omega) (by omega), b8_is _ (by omega) (by omega), b8_is _ (by omega) (by omega), b8_is _ (by omega) (by omega), b8_is _ (by omega) (by omega), b8_is _ (by omega) (by omega), b8_is _ (by omega) (by omega), b8_is _ (by omega) (by omega), b8_is _ (by omega) (by omega)]
  rw [hl] at o1
  clear hl u1 u2 u3 u4 u5 u6 u7 u8 u9 u10 u11 u12 q1
  have hz : (w.alloc (.cells #[.int .i64 p.tos, .int .i64 p.id, .bool p.df, .bool p.mf, .int .i64 p.off, .int .i64 p.ttl, .int .i64 p.proto, .int .u32 p.src, .int .u32 p.dst, .slice Ao p.opts.length co, .slice Ab p.body.length cb] 25)).heap.size = w.heap.size + 1 := by simp
  rw [hz] at o1
  clear hz
  generalize (w.alloc (.cells #[.int .i64 p.tos, .int .i64 p.id, .bool p.df, .bool p.mf, .int .i64 p.off, .int .i64 p.ttl, .int .i64 p.proto, .int .u32 p.src, .int .u32 p.dst, .slice Ao p.opts.length co, .slice Ab p.body.length cb] 25)).alloc (.cells #[.int .u8 (64 + (20 + (p.opts.length : Int)) / 4), .int .u8 p.tos, .int .u8 ((20 + (p.opts.length : Int) + (p.body.length : Int)) / 256), .int .u8 ((20 + (p.opts.length : Int) + (p.body.length : Int)) % 256), .int .u8 (p.id / 256), .int .u8 (p.id % 256), .int .u8 (fl / 256), .int .u8 (fl % 256), .int .u8 p.ttl, .int .u8 p.proto, .int .u8 (ck / 256), .int .u8 (ck % 256)] 5) = W1 at *
  refine wp_loop_rounds 3 ?_
  have v1 := IntWalk.u8_in (p.src / 16777216) (by omega)
  have v2 := IntWalk.u8_in (p.src / 65536 % 256) (by omega)
  have v3 := IntWalk.u8_in (p.src / 256 % 256) (by omega)
  have v4 := IntWalk.u8_in (p.src % 256) (by omega)
  rw [rounds_succ]
  go_wp2_with (at_builtin; refine wpList_append_rd rfl _ _ 23 rfl (w.heap.size + 1) 5 i0 (.int .u8 0) 1 Try.underlying23 hi hz0 hz1 hz2 rfl _ _ _ rfl (o1.alloc _) (W1.heap.size + 1) (some ⟨W1.heap.size, 0, none⟩) 4 4 ([b8 (p.src / 16777216), b8 (p.src / 65536 % 256), b8 (p.src / 256 % 256), b8 (p.src % 256)].map bv) rfl rfl (fun h => by cases h) (four_rd W1 (p.src / 16777216) (p.src / 65536 % 256) (p.src / 256 % 256) (p.src % 256) (by omega) (by omega) (by omega) (by omega)) (bv_one _) (by unfold maxLen; omega) (by omega) (by have := x1.size; simp; omega) ?_; intro v1v W2 o2 hg at1)
  have x2 := (x1.step ((Below.refl _ _).alloc x1.size _)).step ((Below.refl _ _).grown hg (by have := x1.size; simp; omega) (fun q hq => (o1.lt q hq).1))
  clear v1 v2 v3 v4 hg at1 o1 x1
  have v1 := IntWalk.u8_in (p.dst / 16777216) (by omega)
  have v2 := IntWalk.u8_in (p.dst / 65536 % 256) (by omega)
  have v3 := IntWalk.u8_in (p.dst / 256 % 256) (by omega)
  have v4 := IntWalk.u8_in (p.dst % 256) (by omega)
  rw [rounds_succ]
  go_wp2_with (at_builtin; refine wpList_append_rd rfl _ _ 23 rfl (w.heap.size + 1) 5 i0 (.int .u8 0) 1 Try.underlying23 hi hz0 hz1 hz2 rfl _ _ _ rfl (o2.alloc _) (W2.heap.size + 1) (some ⟨W2.heap.size, 0, none⟩) 4 4 ([b8 (p.dst / 16777216), b8 (p.dst / 65536 % 256), b8 (p.dst / 256 % 256), b8 (p.dst % 256)].map bv) rfl rfl (fun h => by cases h) (four_rd W2 (p.dst / 16777216) (p.dst / 65536 % 256) (p.dst / 256 % 256) (p.dst % 256) (by omega) (by omega) (by omega) (by omega)) (bv_one _) (by unfold maxLen; omega) (by omega) (by have := x2.size; simp; omega) ?_; intro v2v W3 o3 hg at2)
  have x3 := (x2.step ((Below.refl _ _).alloc x2.size _)).step ((Below.refl _ _).grown hg (by have := x2.size; simp; omega) (fun q hq => (o2.lt q hq).1))
  clear v1 v2 v3 v4 hg at2 o2 x2
  obtain ⟨_, _, _, _, _, _, _, _, _, k9, _⟩ := x3.cells
  have hop := (HAo.out.below x3.below).rd
  rw [rounds_succ]
  go_wp2_with (at_builtin; refine wpList_append_rd rfl _ _ 23 rfl (w.heap.size + 1) 5 i0 (.int .u8 0) 1 Try.underlying23 hi hz0 hz1 hz2 rfl _ _ _ rfl o3 w.heap.size Ao p.opts.length co (p.opts.map bv) rfl (by simp) HNil.out hop (bv_one _) (by unfold maxLen; omega) (by omega) x3.size ?_; intro v3v W4 o4 hg at3)
  have x4 := x3.step ((Below.refl _ _).grown hg x3.size (fun q hq => (o3.lt q hq).1))
  clear hg at3 o3 x3 k9 hop
  obtain ⟨g, c, rfl, _, _, _, _⟩ := own_form o4 (by omega)
  have HO : Own W4 w.heap.size g (20 + p.opts.length) c (hd p ck) := by
    unfold Own
    have e : (hd p ck).map bv = (([b8 (64 + (20 + (p.opts.length : Int)) / 4), b8 p.tos, b8 ((20 + (p.opts.length : Int) + (p.body.length : Int)) / 256), b8 ((20 + (p.opts.length : Int) + (p.body.length : Int)) % 256), b8 (p.id / 256), b8 (p.id % 256), b8 (fl / 256), b8 (fl % 256), b8 p.ttl, b8 p.proto, b8 (ck / 256), b8 (ck % 256)].map bv ++ [b8 (p.src / 16777216), b8 (p.src / 65536 % 256), b8 (p.src / 256 % 256), b8 (p.src % 256)].map bv) ++ [b8 (p.dst / 16777216), b8 (p.dst / 65536 % 256), b8 (p.dst / 256 % 256), b8 (p.dst % 256)].map bv) ++ p.opts.map bv := by
      rw [← List.map_append, ← List.map_append, ← List.map_append, ← HFL.out]
      rfl
    rw [e]
    exact World.ownsRow.mono o4 (Nat.le_succ _)
  clear o4
  go_wp2
  go_ret
  exact ⟨g, c, rfl, HO, x4.below⟩
theorem rhead (p : Pk) (Ao : Option Addr) (co : Nat) (Ab : Option Addr) (cb : Nat) (ck : Int) (w : World) (hM : May p) (k0 : 0 ≤ ck) (k1 : ck ≤ 65535) (hs0 : 0 ≤ p.src) (hs1 : p.src ≤ 4294967295) (hd0 : 0 ≤ p.dst) (hd1 : p.dst ≤ 4294967295)
    (hAo : Bs w w.heap.size Ao p.opts) (hnil : Ao = none → co = 0) :
    Calls Try.prog 22 #[pkV p Ao co Ab cb, .int .i64 ck] w fun e w' => ∃ g c, e = .returned (.slice (some ⟨g, 0, none⟩) (20 + p.opts.length) c) ∧ Own w' w.heap.size g (20 + p.opts.length) c (hd p ck) ∧ Below w.heap.size w w' :=
  rheadH p Ao co Ab cb ck w hM.h k0 k1 hs0 hs1 hd0 hd1 hAo hnil
end Go.Proofs.Ytmblkgnjcmneeaa
