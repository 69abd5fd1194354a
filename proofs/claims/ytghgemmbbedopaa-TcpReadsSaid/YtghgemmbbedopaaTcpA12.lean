/- Contracts of package tcp: Same, Find, Size. -/
import Derived.Test.YtghgemmbbedopaaTcpA8
import Derived.Test.YtghgemmbbedopaaTcpR6
import Derived.Test.YtghgemmbbedopaaEqual
import Derived.Test.YtghgemmbbedopaaClone
namespace Go.Proofs.Ytghgemmbbedopaa
open Go.ChangeShapes Go.WideShapes Go.ChangeAt Go.RowKit
set_option linter.unusedVariables false
set_option linter.unusedSimpArgs false

set_option maxRecDepth 100000 in
set_option maxHeartbeats 4000000 in
theorem tsameOpt (o p : Op) (d d' : Nat) (Ad Ad' : Option Addr) (cd cd' : Nat) (B : Nat) (w : World) (b : Bool) (hb : (o.kind == p.kind && o.data == p.data) = b) (hd : o.data.length = d) (hd' : p.data.length = d') (h : Bs w B Ad o.data) (h' : Bs w B Ad' p.data) (hB : B ≤ w.heap.size) :
    Calls Try.prog 30 #[opV o.kind Ad d cd, opV p.kind Ad' d' cd'] w fun e w' => e = .returned (.bool b) ∧ Below w.heap.size w w' := by
  have HB := Go.Lib.hid hb
  have H1 := Go.Lib.hid h
  have H2 := Go.Lib.hid h'
  have b0 : Below w.heap.size w ((w.alloc (.cells #[.int .i64 o.kind, .slice Ad d cd] 39)).alloc (.cells #[.int .i64 p.kind, .slice Ad' d' cd'] 39)) := ((Below.refl _ _).alloc (Nat.le_refl _) _).alloc (by simp) _
  have HD := Go.Lib.hid hd
  have HD' := Go.Lib.hid hd'
  clear h h' hb hd hd'
  by_cases hk : (o.kind == p.kind) = true
  · have HE : Hid ((o.data == p.data) = b) := Go.Lib.hid (by have := HB.out; rw [hk] at this; simpa using this)
    go_enter Try.func30, Try.ntmps30
    go_wp2_with (go_at_call 31; refine (cequal Ad d cd o.data Ad' d' cd' p.data B B _ HD.out HD'.out (H1.out.below (b0.mono hB)) (H2.out.below (b0.mono hB))).mono ?_; rintro e w' ⟨rfl, rfl⟩; dsimp only)
    go_ret
    exact ⟨ret_bool HE.out, b0⟩
  · have hk' : (o.kind == p.kind) = false := by simpa using hk
    have HE : Hid (b = false) := Go.Lib.hid (by have := HB.out; rw [hk'] at this; simpa using this.symm)
    clear hk
    go_enter Try.func30, Try.ntmps30
    go_wp2
    go_ret
    exact ⟨ret_bool HE.out.symm, b0⟩

set_option maxRecDepth 100000 in
set_option maxHeartbeats 4000000 in
theorem tequalFunc (A A' : Option Addr) (n n' c c' : Nat) (os ps : List Op) (B : Nat) (w : World) (b : Bool) (hs : sameOs os ps = b) (hn : os.length = n) (hn' : ps.length = n') (h : Os w B A os) (h' : Os w B A' ps) (hB : B ≤ w.heap.size) (hl : n ≤ 16777216) (hl' : n' ≤ 16777216) :
    Calls Try.prog 29 #[.slice A n c, .slice A' n' c', .func (.func 30) #[] #[]] w fun e w' => e = .returned (.bool b) ∧ Below w.heap.size w w' := by
  subst hn hn'
  have HS := Go.Lib.hid hs
  clear hs
  go_enter Try.func29, Try.ntmps29
  by_cases hlen : os.length = ps.length
  · have HLN := Go.Lib.hid hlen
    have t0 : ((os.length : Int) != (ps.length : Int)) = false := by rw [hlen]; simp
    clear hlen
    go_wp2
    go_loopw [17] (fun i wx => ∃ k : Nat, k ≤ os.length ∧ i = .int .i64 k ∧ Hid (os.take k = ps.take k) ∧ Below w.heap.size w wx) (fun i _ => os.length - (intOf i).toNat)
    case atStart => exact ⟨0, by omega, rfl, Go.Lib.hid (by simp), Below.refl _ _⟩
    case round =>
      obtain ⟨k, hk, rfl, hT, x1⟩ := hrel
      by_cases hlt : k < os.length
      · have hlu : k < ps.length := by have := HLN.out; omega
        obtain ⟨ad, Ad, cd, rfl, hb, hc0, hc1, hbs, hdl, hcm, hdn⟩ := (h.below (x1.mono hB)).at_ hlt
        obtain ⟨ad', Ad', cd', rfl, hb', hc0', hc1', hbs', hdl', hcm', hdn'⟩ := (h'.below (x1.mono hB)).at_ hlu
        have i1 : (0 : Int) ≤ (k : Int) := by omega
        have i2 : (k : Int) < (os.length : Int) := by omega
        have i3 : (k : Int) < (ps.length : Int) := by omega
        have D1 := Go.Lib.hid hbs
        have D2 := Go.Lib.hid hbs'
        have HN : Hid (os[k] = ps[k] → os.take (k + 1) = ps.take (k + 1)) := Go.Lib.hid (os_take_succ _ _ k hlt hlu hT.out)
        have HE : Hid (os = ps → os[k] = ps[k]) := Go.Lib.hid (fun e => by subst e; rfl)
        have hbl : ad.block < w.heap.size := by omega
        have hbl' : ad'.block < w.heap.size := by omega
        have hz := x1.size
        generalize os[k] = o at *
        generalize ps[k] = p at *
        clear hbs hbs' hdn hdn' hb hb'
        obtain ⟨v, hv⟩ : ∃ v, (o.kind == p.kind && o.data == p.data) = v := ⟨_, rfl⟩
        have HV := Go.Lib.hid hv
        clear hv
        go_upto_region 6 with fail
        have y1 : Below wr.heap.size wr (wr.alloc (.cells #[.int .i64 o.kind, .slice Ad o.data.length cd] 39)) := (Below.refl _ _).alloc (Nat.le_refl _) _
        have p0 : (wr.alloc (.cells #[.int .i64 o.kind, .slice Ad o.data.length cd] 39)).cell? ⟨wr.heap.size, 0, none⟩ = some (.int .i64 o.kind) := by simp [go_sem]
        have p1 : (wr.alloc (.cells #[.int .i64 o.kind, .slice Ad o.data.length cd] 39)).cell? ⟨wr.heap.size, 1, none⟩ = some (.slice Ad o.data.length cd) := by simp [go_sem]
        have p2 : wr.heap.size < (wr.alloc (.cells #[.int .i64 o.kind, .slice Ad o.data.length cd] 39)).heap.size := by simp
        have q0 := (y1.cell (p := ad'.add (k * 2)) (by rw [block_add]; omega)).trans hc0'
        have q1 := (y1.cell (p := { block := (ad'.add (k * 2)).block, off := (ad'.add (k * 2)).off + 1 }) (by show (ad'.add (k * 2)).block < _; rw [block_add]; omega)).trans hc1'
        have x2 := x1.trans (y1.mono hz)
        have E1 := Go.Lib.hid (D1.out.below (y1.mono (Nat.le_trans hB hz)))
        have E2 := Go.Lib.hid (D2.out.below (y1.mono (Nat.le_trans hB hz)))
        clear hc0 hc1 hc0' hc1' x1 y1
        generalize wr.alloc (.cells #[.int .i64 o.kind, .slice Ad o.data.length cd] 39) = V at *
        generalize wr.heap.size = b1 at *
        go_upto_region 7 with fail
        have y1 : Below V.heap.size V (V.alloc (.cells #[.int .i64 p.kind, .slice Ad' p.data.length cd'] 39)) := (Below.refl _ _).alloc (Nat.le_refl _) _
        have r0 : (V.alloc (.cells #[.int .i64 p.kind, .slice Ad' p.data.length cd'] 39)).cell? ⟨V.heap.size, 0, none⟩ = some (.int .i64 p.kind) := by simp [go_sem]
        have r1 : (V.alloc (.cells #[.int .i64 p.kind, .slice Ad' p.data.length cd'] 39)).cell? ⟨V.heap.size, 1, none⟩ = some (.slice Ad' p.data.length cd') := by simp [go_sem]
        have s0 := (y1.cell (p := ⟨b1, 0, none⟩) p2).trans p0
        have s1 := (y1.cell (p := ⟨b1, 1, none⟩) p2).trans p1
        have x3 := x2.trans (y1.mono x2.size)
        have F1 := Go.Lib.hid (E1.out.below (y1.mono (Nat.le_trans hB x2.size)))
        have F2 := Go.Lib.hid (E2.out.below (y1.mono (Nat.le_trans hB x2.size)))
        clear p0 p1 q0 q1 x2 y1 p2
        generalize V.alloc (.cells #[.int .i64 p.kind, .slice Ad' p.data.length cd'] 39) = V2 at *
        generalize V.heap.size = b2 at *
        have hB2 : B ≤ V2.heap.size := Nat.le_trans hB x3.size
        clear D1 D2 E1 E2
        cases v
        · go_wp2_with (go_at_call 30; refine (tsameOpt o p _ _ Ad Ad' cd cd' B V2 false HV.out rfl rfl F1.out F2.out hB2).mono ?_; rintro e w5 ⟨rfl, b5⟩; dsimp only)
          go_ret
          refine ⟨ret_bool ?_, x3.trans (b5.mono x3.size)⟩
          rw [← HS.out]
          cases e : sameOs os ps
          · rfl
          · have h1 := HE.out ((sameOs_iff _ _).1 e)
            have h2 := HV.out
            rw [h1] at h2
            simp at h2
        · go_wp2_with (go_at_call 30; refine (tsameOpt o p _ _ Ad Ad' cd cd' B V2 true HV.out rfl rfl F1.out F2.out hB2).mono ?_; rintro e w5 ⟨rfl, b5⟩; dsimp only)
          go_roundw
          case rel =>
            refine ⟨k + 1, by omega, by go_num, Go.Lib.hid (HN.out ((sameO_iff o p).1 HV.out)), x3.trans (b5.mono x3.size)⟩
          case measure => simp [intOf]; omega
      · obtain rfl : k = os.length := by omega
        go_wp2
        go_ret
        have e : sameOs os ps = true := (sameOs_iff _ _).2 (by
          have := hT.out
          rw [List.take_length, HLN.out, List.take_length] at this
          exact this)
        exact ⟨ret_bool (by rw [← HS.out, e]), x1⟩
  · have t0 : ((os.length : Int) != (ps.length : Int)) = true := by simp; omega
    have HE : Hid (b = false) := Go.Lib.hid (by
      have := HS.out
      cases b
      · rfl
      · have := (sameOs_iff _ _).1 this; rw [this] at hlen; exact absurd rfl hlen)
    clear hlen
    go_wp2
    go_ret
    exact ⟨ret_bool HE.out.symm, Below.refl _ _⟩

theorem sameT_split (t u : Tc) : sameT t u = (t.sport == u.sport && (t.dport == u.dport && (t.seq == u.seq && (t.ack == u.ack && (t.flags == u.flags && (t.win == u.win && (t.urg == u.urg && (sameOs t.opts u.opts && t.body == u.body)))))))) := by
  unfold sameT
  rw [Bool.and_comm (t.body == u.body)]

set_option maxRecDepth 100000 in
set_option maxHeartbeats 8000000 in
theorem tsameT (t : Tc) (Ao : Option Addr) (co : Nat) (Ab : Option Addr) (cb : Nat) (u : Tc) (Ao' : Option Addr) (co' : Nat) (Ab' : Option Addr) (cb' : Nat) (B : Nat) (w : World) (hB : B ≤ w.heap.size) (b : Bool) (hb : sameT t u = b)
    (hI : TcIn w B t Ao co Ab cb) (hJ : TcIn w B u Ao' co' Ab' cb') (l1 : t.opts.length ≤ 16777216) (l2 : u.opts.length ≤ 16777216) :
    Calls Try.prog 13 #[tcV t Ao co Ab cb, tcV u Ao' co' Ab' cb'] w fun e w' => e = .returned (.bool b) ∧ Below w.heap.size w w' := by
  have HSS : Hid (b = (t.sport == u.sport && (t.dport == u.dport && (t.seq == u.seq && (t.ack == u.ack && (t.flags == u.flags && (t.win == u.win && (t.urg == u.urg && (sameOs t.opts u.opts && t.body == u.body))))))))) := Go.Lib.hid (by rw [← hb, sameT_split])
  have HI := Go.Lib.hid hI
  have HJ := Go.Lib.hid hJ
  clear hI hJ hb
  obtain ⟨v, hv⟩ : ∃ v, sameOs t.opts u.opts = v := ⟨_, rfl⟩
  rw [hv] at HSS
  have HV := Go.Lib.hid hv
  clear hv
  obtain ⟨y, hy⟩ : ∃ y, (t.body == u.body) = y := ⟨_, rfl⟩
  rw [hy] at HSS
  have HY := Go.Lib.hid hy
  clear hy
  go_enter Try.func13, Try.ntmps13
  go_upto_region 1 with fail
  have s1 : w.heap.size < (w.alloc (.cells #[.int .i64 t.sport, .int .i64 t.dport, .int .u32 t.seq, .int .u32 t.ack, .int .i64 t.flags, .int .i64 t.win, .int .i64 t.urg, .slice Ao t.opts.length co, .slice Ab t.body.length cb] 26)).heap.size := by simp
  have m1 : tcIs ((w.alloc (.cells #[.int .i64 t.sport, .int .i64 t.dport, .int .u32 t.seq, .int .u32 t.ack, .int .i64 t.flags, .int .i64 t.win, .int .i64 t.urg, .slice Ao t.opts.length co, .slice Ab t.body.length cb] 26)).alloc (.cells #[.int .i64 u.sport, .int .i64 u.dport, .int .u32 u.seq, .int .u32 u.ack, .int .i64 u.flags, .int .i64 u.win, .int .i64 u.urg, .slice Ao' u.opts.length co', .slice Ab' u.body.length cb'] 26)) w.heap.size t Ao co Ab cb := tcIs.call tcIs.made ((Below.refl _ _).alloc (Nat.le_refl _) _) s1
  have m2 : tcIs ((w.alloc (.cells #[.int .i64 t.sport, .int .i64 t.dport, .int .u32 t.seq, .int .u32 t.ack, .int .i64 t.flags, .int .i64 t.win, .int .i64 t.urg, .slice Ao t.opts.length co, .slice Ab t.body.length cb] 26)).alloc (.cells #[.int .i64 u.sport, .int .i64 u.dport, .int .u32 u.seq, .int .u32 u.ack, .int .i64 u.flags, .int .i64 u.win, .int .i64 u.urg, .slice Ao' u.opts.length co', .slice Ab' u.body.length cb'] 26)) (w.heap.size + 1) u Ao' co' Ab' cb' := by
    have := tcIs.made (w := w.alloc (.cells #[.int .i64 t.sport, .int .i64 t.dport, .int .u32 t.seq, .int .u32 t.ack, .int .i64 t.flags, .int .i64 t.win, .int .i64 t.urg, .slice Ao t.opts.length co, .slice Ab t.body.length cb] 26)) (t := u) (A_opts := Ao') (c_opts := co') (A_body := Ab') (c_body := cb')
    simpa using this
  have b0 : Below w.heap.size w ((w.alloc (.cells #[.int .i64 t.sport, .int .i64 t.dport, .int .u32 t.seq, .int .u32 t.ack, .int .i64 t.flags, .int .i64 t.win, .int .i64 t.urg, .slice Ao t.opts.length co, .slice Ab t.body.length cb] 26)).alloc (.cells #[.int .i64 u.sport, .int .i64 u.dport, .int .u32 u.seq, .int .u32 u.ack, .int .i64 u.flags, .int .i64 u.win, .int .i64 u.urg, .slice Ao' u.opts.length co', .slice Ab' u.body.length cb'] 26)) := ((Below.refl _ _).alloc (Nat.le_refl _) _).alloc (Nat.le_of_lt s1) _
  have s0 : w.heap.size + 2 ≤ ((w.alloc (.cells #[.int .i64 t.sport, .int .i64 t.dport, .int .u32 t.seq, .int .u32 t.ack, .int .i64 t.flags, .int .i64 t.win, .int .i64 t.urg, .slice Ao t.opts.length co, .slice Ab t.body.length cb] 26)).alloc (.cells #[.int .i64 u.sport, .int .i64 u.dport, .int .u32 u.seq, .int .u32 u.ack, .int .i64 u.flags, .int .i64 u.win, .int .i64 u.urg, .slice Ao' u.opts.length co', .slice Ab' u.body.length cb'] 26)).heap.size := Nat.le_of_eq (by simp)
  clear s1
  generalize ((w.alloc (.cells #[.int .i64 t.sport, .int .i64 t.dport, .int .u32 t.seq, .int .u32 t.ack, .int .i64 t.flags, .int .i64 t.win, .int .i64 t.urg, .slice Ao t.opts.length co, .slice Ab t.body.length cb] 26)).alloc (.cells #[.int .i64 u.sport, .int .i64 u.dport, .int .u32 u.seq, .int .u32 u.ack, .int .i64 u.flags, .int .i64 u.win, .int .i64 u.urg, .slice Ao' u.opts.length co', .slice Ab' u.body.length cb'] 26)) = W at *
  obtain ⟨c0, c1, c2, c3, c4, c5, c6, c7, c8⟩ := m1.cells
  obtain ⟨d0, d1, d2, d3, d4, d5, d6, d7, d8⟩ := m2.cells
  have G1 := Go.Lib.hid (HI.out.below (b0.mono hB))
  have G2 := Go.Lib.hid (HJ.out.below (b0.mono hB))
  have M1 := Go.Lib.hid m1
  have M2 := Go.Lib.hid m2
  clear m1 m2
  have hBW : B ≤ W.heap.size := Nat.le_trans hB b0.size
  go_wp2_with (first
    | (go_at_call 29; refine (tequalFunc Ao Ao' _ _ co co' t.opts u.opts B W v HV.out rfl rfl G1.out.os G2.out.os hBW l1 l2).mono ?_; rintro e w5 ⟨rfl, b5⟩; have k8 := ((bcell b5).1 w.heap.size 8 (by omega)).trans c8; have j8 := ((bcell b5).1 (w.heap.size + 1) 8 (by omega)).trans d8; dsimp only)
    | (go_at_call 31; refine (cequal Ab _ cb t.body Ab' _ cb' u.body B B _ rfl rfl (G1.out.bs.below (b5.mono hBW)) (G2.out.bs.below (b5.mono hBW))).mono ?_; rintro e w6 ⟨rfl, rfl⟩; rw [HY.out]; dsimp only))
  all_goals
    go_ret
    refine ⟨ret_bool ?_, ?_⟩
  all_goals first | exact b0.trans (b5.mono b0.size) | exact b0 | skip
  all_goals
    have hq := HSS.out
    clear HSS G1 G2 M1 M2 HI HJ HV HY c0 c1 c2 c3 c4 c5 c6 c7 c8 d0 d1 d2 d3 d4 d5 d6 d7 d8 b0 s0 hBW
    rw [hq]
    clear hq
  all_goals first | (simp [*]; done) | (simp_all; done)

/-- the first option of a kind. -/
def findO (os : List Op) (k : Int) : Option (List UInt8) := (os.find? fun o => o.kind == k).map (·.data)
structure FindT (w : World) (r : Option (List UInt8)) (e : Ending) (w' : World) : Prop where
  below : Below w.heap.size w w'
  no : r = none → e = .returned (.tuple #[.slice none 0 0, .bool false])
  yes : ∀ dat, r = some dat → ∃ A c, e = .returned (.tuple #[.slice A dat.length c, .bool true]) ∧ Bs w' w'.heap.size A dat
theorem find_skip (os : List Op) (k : Nat) (kd : Int) (h : k < os.length) (hne : (os[k].kind == kd) = false) : (os.drop k).find? (fun o => o.kind == kd) = (os.drop (k + 1)).find? (fun o => o.kind == kd) := by
  rw [List.drop_eq_getElem_cons h, List.find?_cons, hne]
theorem find_here (os : List Op) (k : Nat) (kd : Int) (h : k < os.length) (he : (os[k].kind == kd) = true) : (os.drop k).find? (fun o => o.kind == kd) = some os[k] := by
  rw [List.drop_eq_getElem_cons h, List.find?_cons, he]

set_option maxRecDepth 100000 in
set_option maxHeartbeats 4000000 in
theorem tfind (t : Tc) (Ao : Option Addr) (co : Nat) (Ab : Option Addr) (cb : Nat) (kd : Int) (B : Nat) (w : World) (hB : B ≤ w.heap.size) (h : Os w B Ao t.opts) (hm : Osm t.opts) :
    Calls Try.prog 15 #[tcV t Ao co Ab cb, .int .i64 kd] w (FindT w (findO t.opts kd)) := by
  have m0 := tcIs.made (w := w) (t := t) (A_opts := Ao) (c_opts := co) (A_body := Ab) (c_body := cb)
  have b0 : Below w.heap.size w (w.alloc (.cells #[.int .i64 t.sport, .int .i64 t.dport, .int .u32 t.seq, .int .u32 t.ack, .int .i64 t.flags, .int .i64 t.win, .int .i64 t.urg, .slice Ao t.opts.length co, .slice Ab t.body.length cb] 26)) := (Below.refl _ _).alloc (Nat.le_refl _) _
  have HM := Go.Lib.hid hm
  have hl := hm.len
  clear hm
  go_enter Try.func15, Try.ntmps15
  go_wp2
  generalize w.alloc (.cells #[.int .i64 t.sport, .int .i64 t.dport, .int .u32 t.seq, .int .u32 t.ack, .int .i64 t.flags, .int .i64 t.win, .int .i64 t.urg, .slice Ao t.opts.length co, .slice Ab t.body.length cb] 26) = W at *
  clear m0
  go_loopw [11] (fun i wx => ∃ k : Nat, k ≤ t.opts.length ∧ i = .int .i64 k ∧ Hid ((t.opts.drop k).find? (fun o => o.kind == kd) = t.opts.find? (fun o => o.kind == kd)) ∧ Below w.heap.size w wx) (fun i _ => t.opts.length - (intOf i).toNat)
  case atStart => exact ⟨0, by omega, rfl, Go.Lib.hid (by simp), b0⟩
  case round =>
    clear b0
    obtain ⟨k, hk, rfl, hF, x1⟩ := hrel
    by_cases hlt : k < t.opts.length
    · obtain ⟨ad, Ad, cd, rfl, hb, hc0, hc1, hbs, hdl, hcm, hnil⟩ := (h.below (x1.mono hB)).at_ hlt
      have i1 : (0 : Int) ≤ (k : Int) := by omega
      have i2 : (k : Int) < (t.opts.length : Int) := by omega
      have j0 := HM.out.data _ (List.getElem_mem hlt)
      have HNX : Hid ((t.opts[k].kind == kd) = false → (t.opts.drop (k + 1)).find? (fun o => o.kind == kd) = t.opts.find? (fun o => o.kind == kd)) := Go.Lib.hid (fun e => by rw [← find_skip t.opts k kd hlt e]; exact hF.out)
      have HHE : Hid ((t.opts[k].kind == kd) = true → findO t.opts kd = some t.opts[k].data) := Go.Lib.hid (fun e => by unfold findO; rw [← hF.out, find_here t.opts k kd hlt e]; rfl)
      have HBS := Go.Lib.hid hbs
      have HNI := Go.Lib.hid hnil
      generalize t.opts[k] = o at *
      clear hbs hnil
      by_cases he : (o.kind == kd) = true
      · have HR := Go.Lib.hid (HHE.out he)
        have hbr := Nat.le_trans hB x1.size
        go_wp2_with fail
        have y1 : Below wr.heap.size wr (wr.alloc (.cells #[.int .i64 o.kind, .slice Ad o.data.length cd] 39)) := (Below.refl _ _).alloc (Nat.le_refl _) _
        refine (cclone Ad _ cd o.data B _ rfl (HBS.out.below (y1.mono hbr)) (Nat.le_trans hbr y1.size) (by omega) HNI.out hdl).mono ?_
        rintro e w3 ⟨A3, c3, rfl, hg3⟩
        dsimp only
        have x3 := (x1.trans (y1.mono x1.size)).trans (hg3.below.mono (Nat.le_trans x1.size y1.size))
        have HG := Go.Lib.hid hg3
        clear hg3 y1
        go_wp2
        go_ret2
        exact ⟨x3, (fun e => by rw [HR.out] at e; cases e), fun dat e => by
          rw [HR.out] at e
          cases e
          exact ⟨A3, c3, rfl, HG.out.bs⟩⟩
      · have he' : (o.kind == kd) = false := by simpa using he
        have HR := Go.Lib.hid (HNX.out he')
        clear he
        go_wp2
        go_roundw
        case rel => exact ⟨k + 1, by omega, by go_num, HR, x1.alloc x1.size _⟩
        case measure => simp [intOf]; omega
    · obtain rfl : k = t.opts.length := by omega
      have HR : Hid (findO t.opts kd = none) := Go.Lib.hid (by
        unfold findO
        rw [← hF.out, List.drop_length]
        rfl)
      go_wp2
      go_ret2
      exact ⟨x1, fun _ => rfl, fun dat e => by rw [HR.out] at e; cases e⟩
end Go.Proofs.Ytghgemmbbedopaa
