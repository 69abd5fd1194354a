/- The contract of the document's own Same of segments. -/
import Derived.Test.YtghgemmbbedopaaTcpR5
namespace Go.Proofs.Ytghgemmbbedopaa
open Go.ChangeShapes Go.WideShapes Go.ChangeAt Go.RowKit
set_option linter.unusedVariables false

def sameOs (a b : List Op) : Bool := (a.length == b.length) && (List.range a.length).all fun i => match a[i]?, b[i]? with
  | some o, some p => o.kind == p.kind && o.data == p.data
  | _, _ => false
theorem sameOs_iff (a b : List Op) : sameOs a b = true ↔ a = b := by
  unfold sameOs
  rw [Bool.and_eq_true, beq_iff_eq, List.all_eq_true]
  constructor
  · rintro ⟨hl, h⟩
    apply List.ext_getElem hl
    intro i h1 h2
    have := h i (by simp; exact h1)
    rw [List.getElem?_eq_getElem h1, List.getElem?_eq_getElem h2] at this
    simp only [Bool.and_eq_true, beq_iff_eq] at this
    cases ha : a[i]
    cases hb : b[i]
    rw [ha, hb] at this
    simp at this
    rw [this.1, this.2]
  · rintro rfl
    refine ⟨rfl, fun i hi => ?_⟩
    simp at hi
    simp [List.getElem?_eq_getElem hi]
def sameT (a b : Tc) : Bool := a.sport == b.sport && (a.dport == b.dport && (a.seq == b.seq && (a.ack == b.ack && (a.flags == b.flags && (a.win == b.win && (a.urg == b.urg && (a.body == b.body && sameOs a.opts b.opts)))))))
theorem sameT_iff (a b : Tc) : sameT a b = true ↔ a = b := by
  cases a; cases b
  simp [sameT, sameOs_iff]
  exact fun _ _ _ _ _ _ _ => And.comm
theorem sameT_ne {a b : Tc} (h : a ≠ b) : false = sameT a b := by
  cases e : sameT a b
  · rfl
  · exact absurd ((sameT_iff a b).1 e) h
theorem os_take_succ (a b : List Op) (k : Nat) (ha : k < a.length) (hb : k < b.length) (h : a.take k = b.take k) (he : a[k] = b[k]) : a.take (k + 1) = b.take (k + 1) := by
  rw [List.take_succ_eq_append_getElem ha, List.take_succ_eq_append_getElem hb, h, he]

set_option maxRecDepth 100000 in
set_option maxHeartbeats 8000000 in
theorem rsameT (t : Tc) (Ao : Option Addr) (co : Nat) (Ab : Option Addr) (cb : Nat) (u : Tc) (Ao' : Option Addr) (co' : Nat) (Ab' : Option Addr) (cb' : Nat) (B : Nat) (w : World) (hB : B ≤ w.heap.size)
    (hI : TcIn w B t Ao co Ab cb) (hJ : TcIn w B u Ao' co' Ab' cb') (l1 : t.body.length ≤ 16777216) (l2 : u.body.length ≤ 16777216) (l3 : ∀ o ∈ t.opts, o.data.length ≤ 16777216) (l4 : ∀ o ∈ u.opts, o.data.length ≤ 16777216) :
    Calls Try.prog 14 #[tcV t Ao co Ab cb, tcV u Ao' co' Ab' cb'] w fun e w' => e = .returned (.bool (sameT t u)) ∧ Below w.heap.size w w' := by
  have s1 : w.heap.size < (w.alloc (.cells #[.int .i64 t.sport, .int .i64 t.dport, .int .u32 t.seq, .int .u32 t.ack, .int .i64 t.flags, .int .i64 t.win, .int .i64 t.urg, .slice Ao t.opts.length co, .slice Ab t.body.length cb] 26)).heap.size := by simp
  have m1 : tcIs ((w.alloc (.cells #[.int .i64 t.sport, .int .i64 t.dport, .int .u32 t.seq, .int .u32 t.ack, .int .i64 t.flags, .int .i64 t.win, .int .i64 t.urg, .slice Ao t.opts.length co, .slice Ab t.body.length cb] 26)).alloc (.cells #[.int .i64 u.sport, .int .i64 u.dport, .int .u32 u.seq, .int .u32 u.ack, .int .i64 u.flags, .int .i64 u.win, .int .i64 u.urg, .slice Ao' u.opts.length co', .slice Ab' u.body.length cb'] 26)) w.heap.size t Ao co Ab cb := tcIs.call tcIs.made ((Below.refl _ _).alloc (Nat.le_refl _) _) s1
  have m2 : tcIs ((w.alloc (.cells #[.int .i64 t.sport, .int .i64 t.dport, .int .u32 t.seq, .int .u32 t.ack, .int .i64 t.flags, .int .i64 t.win, .int .i64 t.urg, .slice Ao t.opts.length co, .slice Ab t.body.length cb] 26)).alloc (.cells #[.int .i64 u.sport, .int .i64 u.dport, .int .u32 u.seq, .int .u32 u.ack, .int .i64 u.flags, .int .i64 u.win, .int .i64 u.urg, .slice Ao' u.opts.length co', .slice Ab' u.body.length cb'] 26)) (w.heap.size + 1) u Ao' co' Ab' cb' := by
    have := tcIs.made (w := w.alloc (.cells #[.int .i64 t.sport, .int .i64 t.dport, .int .u32 t.seq, .int .u32 t.ack, .int .i64 t.flags, .int .i64 t.win, .int .i64 t.urg, .slice Ao t.opts.length co, .slice Ab t.body.length cb] 26)) (t := u) (A_opts := Ao') (c_opts := co') (A_body := Ab') (c_body := cb')
    simpa using this
  have b0 : Below w.heap.size w ((w.alloc (.cells #[.int .i64 t.sport, .int .i64 t.dport, .int .u32 t.seq, .int .u32 t.ack, .int .i64 t.flags, .int .i64 t.win, .int .i64 t.urg, .slice Ao t.opts.length co, .slice Ab t.body.length cb] 26)).alloc (.cells #[.int .i64 u.sport, .int .i64 u.dport, .int .u32 u.seq, .int .u32 u.ack, .int .i64 u.flags, .int .i64 u.win, .int .i64 u.urg, .slice Ao' u.opts.length co', .slice Ab' u.body.length cb'] 26)) := ((Below.refl _ _).alloc (Nat.le_refl _) _).alloc (Nat.le_of_lt s1) _
  have s0 : w.heap.size + 2 ≤ ((w.alloc (.cells #[.int .i64 t.sport, .int .i64 t.dport, .int .u32 t.seq, .int .u32 t.ack, .int .i64 t.flags, .int .i64 t.win, .int .i64 t.urg, .slice Ao t.opts.length co, .slice Ab t.body.length cb] 26)).alloc (.cells #[.int .i64 u.sport, .int .i64 u.dport, .int .u32 u.seq, .int .u32 u.ack, .int .i64 u.flags, .int .i64 u.win, .int .i64 u.urg, .slice Ao' u.opts.length co', .slice Ab' u.body.length cb'] 26)).heap.size := Nat.le_of_eq (by simp)
  have HI := Go.Lib.hid hI
  have HJ := Go.Lib.hid hJ
  have L3 := Go.Lib.hid l3
  have L4 := Go.Lib.hid l4
  have n1 := hI.olen
  have n2 := hI.ocap
  have n3 := hJ.olen
  have n4 := hJ.ocap
  clear hI hJ l3 l4
  go_enter Try.func14, Try.ntmps14
  go_upto_region 1 with fail
  generalize (w.alloc (.cells #[.int .i64 t.sport, .int .i64 t.dport, .int .u32 t.seq, .int .u32 t.ack, .int .i64 t.flags, .int .i64 t.win, .int .i64 t.urg, .slice Ao t.opts.length co, .slice Ab t.body.length cb] 26)).alloc (.cells #[.int .i64 u.sport, .int .i64 u.dport, .int .u32 u.seq, .int .u32 u.ack, .int .i64 u.flags, .int .i64 u.win, .int .i64 u.urg, .slice Ao' u.opts.length co', .slice Ab' u.body.length cb'] 26) = W at *
  have G1 := Go.Lib.hid ((HI.out.below (b0.mono hB)).bs)
  have G2 := Go.Lib.hid ((HJ.out.below (b0.mono hB)).bs)
  obtain ⟨c0, c1, c2, c3, c4, c5, c6, c7, c8⟩ := m1.cells
  obtain ⟨d0, d1, d2, d3, d4, d5, d6, d7, d8⟩ := m2.cells
  have M1 := Go.Lib.hid m1
  have M2 := Go.Lib.hid m2
  clear m1 m2
  by_cases hF : t.sport = u.sport ∧ t.dport = u.dport ∧ t.seq = u.seq ∧ t.ack = u.ack ∧ t.flags = u.flags ∧ t.win = u.win ∧ t.urg = u.urg ∧ t.opts.length = u.opts.length
  · have HF := Go.Lib.hid hF
    obtain ⟨h1, h2, h3, h4, h5, h6, h7, h8⟩ := hF
    have t1 : (t.sport != u.sport) = false := by rw [h1]; simp
    have t2 : (t.dport != u.dport) = false := by rw [h2]; simp
    have t3 : (t.seq != u.seq) = false := by rw [h3]; simp
    have t4 : (t.ack != u.ack) = false := by rw [h4]; simp
    have t5 : (t.flags != u.flags) = false := by rw [h5]; simp
    have t6 : (t.win != u.win) = false := by rw [h6]; simp
    have t7 : (t.urg != u.urg) = false := by rw [h7]; simp
    have t8 : ((t.opts.length : Int) != (u.opts.length : Int)) = false := by rw [h8]; simp
    have H8 := Go.Lib.hid h8
    clear h1 h2 h3 h4 h5 h6 h7 h8
    by_cases hb : t.body = u.body
    · have HB := Go.Lib.hid hb
      clear hb
      go_wp2_with (go_at_call 12; refine (rsame_d Ab _ cb t.body Ab' _ cb' u.body B B _ rfl rfl G1.out G2.out l1 l2 true (by rw [HB.out]; simp)).mono ?_; rintro e w6 ⟨rfl, m, rfl⟩; dsimp only)
      have x1 : Below w.heap.size w (W.drewN m) := below_dn b0 m
      have x2 : w.heap.size + 2 ≤ (W.drewN m).heap.size := s0
      have X1 : Hid (tcIs (W.drewN m) w.heap.size t Ao co Ab cb) := Go.Lib.hid M1.out
      have X2 : Hid (tcIs (W.drewN m) (w.heap.size + 1) u Ao' co' Ab' cb') := Go.Lib.hid M2.out
      clear b0 s0 M1 M2 c0 c1 c2 c3 c4 c5 c6 c7 c8 d0 d1 d2 d3 d4 d5 d6 d7 d8 G1 G2 t1 t2 t3 t4 t5 t6 t7 t8
      generalize W.drewN m = W1 at *
      go_loopw [5] (fun i wx => ∃ k : Nat, k ≤ t.opts.length ∧ i = .int .i64 k ∧ Hid (t.opts.take k = u.opts.take k) ∧ tcIs wx w.heap.size t Ao co Ab cb ∧ tcIs wx (w.heap.size + 1) u Ao' co' Ab' cb' ∧ Below w.heap.size w wx) (fun i _ => t.opts.length - (intOf i).toNat)
      case atStart => exact ⟨0, by omega, rfl, Go.Lib.hid (by simp), X1.out, X2.out, x1⟩
      case round =>
        clear X1 X2 x1 x2
        obtain ⟨k, hk, rfl, hT, X1, X2, x1⟩ := hrel
        obtain ⟨c0, c1, c2, c3, c4, c5, c6, c7, c8⟩ := X1.cells
        obtain ⟨d0, d1, d2, d3, d4, d5, d6, d7, d8⟩ := X2.cells
        have HX1 := Go.Lib.hid X1
        have HX2 := Go.Lib.hid X2
        clear X1 X2
        by_cases hlt : k < t.opts.length
        · have hlu : k < u.opts.length := by have := H8.out; omega
          obtain ⟨ad, Ad, cd, rfl, hb, hc0, hc1, hbs, hdl, hcm, hdn⟩ := (HI.out.os.below (x1.mono hB)).at_ hlt
          obtain ⟨ad', Ad', cd', rfl, hb', hc0', hc1', hbs', hdl', hcm', hdn'⟩ := (HJ.out.os.below (x1.mono hB)).at_ hlu
          have i1 : (0 : Int) ≤ (k : Int) := by omega
          have i2 : (k : Int) < (t.opts.length : Int) := by omega
          have i3 : (k : Int) < (u.opts.length : Int) := by omega
          have D1 := Go.Lib.hid hbs
          have D2 := Go.Lib.hid hbs'
          have j1 := L3.out _ (List.getElem_mem hlt)
          have j2 := L4.out _ (List.getElem_mem hlu)
          have HN : Hid (t.opts[k] = u.opts[k] → t.opts.take (k + 1) = u.opts.take (k + 1)) := Go.Lib.hid (os_take_succ _ _ k hlt hlu hT.out)
          have HE : Hid (t = u → t.opts[k] = u.opts[k]) := Go.Lib.hid (fun e => by subst e; rfl)
          generalize t.opts[k] = o at *
          generalize u.opts[k] = p at *
          clear hbs hbs' hdn hdn'
          by_cases hkk : o.kind = p.kind
          · have tk : (o.kind != p.kind) = false := by rw [hkk]; simp
            have HK := Go.Lib.hid hkk
            clear hkk
            have hdd : (o.data == p.data) = true ∨ (o.data == p.data) = false := by cases o.data == p.data <;> simp
            rcases hdd with hdd | hdd
            · have HD := Go.Lib.hid hdd
              clear hdd
              go_upto_region 6 with fail
              go_quiet ((go_at_call 12; exact Calls.quiet_of (rsame_d Ad _ cd o.data Ad' _ cd' p.data B B _ rfl rfl (D1.out.drewN _) (D2.out.drewN _) j1 j2 true HD.out)))
              go_wp2
              go_roundw
              case rel =>
                refine ⟨k + 1, by omega, by go_num, Go.Lib.hid (HN.out ?_), HX1.out, HX2.out, below_dn x1 _⟩
                have := HD.out
                rw [beq_iff_eq] at this
                cases o; cases p
                simp at this
                have h2 := HK.out
                simp at h2
                rw [this, h2]
              case measure => simp [intOf]; omega
            · have HD := Go.Lib.hid hdd
              clear hdd
              go_upto_region 6 with fail
              go_quiet ((go_at_call 12; exact Calls.quiet_of (rsame_d Ad _ cd o.data Ad' _ cd' p.data B B _ rfl rfl (D1.out.drewN _) (D2.out.drewN _) j1 j2 false HD.out)))
              go_wp2
              go_ret
              exact ⟨ret_bool (sameT_ne (fun e => by
                have h1 := HE.out e
                have h2 := HD.out
                rw [h1] at h2
                simp at h2)), below_dn x1 _⟩
          · have tk : (o.kind != p.kind) = true := by simpa using hkk
            have HK := Go.Lib.hid hkk
            clear hkk
            go_upto_region 6 with fail
            go_quiet (fail)
            go_wp2
            go_ret
            exact ⟨ret_bool (sameT_ne (fun e => HK.out (by rw [HE.out e]))), below_dn x1 _⟩
        · obtain rfl : k = t.opts.length := by omega
          go_wp2
          go_ret
          refine ⟨ret_bool ?_, x1⟩
          symm
          rw [sameT_iff]
          have h := hT.out
          rw [List.take_length, H8.out, List.take_length] at h
          obtain ⟨h1, h2, h3, h4, h5, h6, h7, _⟩ := HF.out
          have hb := HB.out
          cases t; cases u
          simp_all
    · have HB := Go.Lib.hid hb
      clear hb
      go_wp2_with (go_at_call 12; refine (rsame_d Ab _ cb t.body Ab' _ cb' u.body B B _ rfl rfl G1.out G2.out l1 l2 false (by simpa using HB.out)).mono ?_; rintro e w6 ⟨rfl, m, rfl⟩; dsimp only)
      go_ret
      exact ⟨ret_bool (sameT_ne (fun e => HB.out (by rw [e]))), below_dn b0 m⟩
  · have HF := Go.Lib.hid hF
    clear hF
    go_wp2_with fail
    all_goals first
      | (go_ret; exact ⟨ret_bool (sameT_ne (fun e => HF.out (by subst e; simp))), b0⟩)
      | (exfalso
         apply HF.out
         refine ⟨by assumption, by assumption, by assumption, by assumption, by assumption, by assumption, by assumption, by omega⟩)
end Go.Proofs.Ytghgemmbbedopaa

