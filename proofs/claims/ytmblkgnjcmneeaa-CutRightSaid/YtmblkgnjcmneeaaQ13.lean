/- Lemmas, several texts in one. -/
import Derived.Test.YtmblkgnjcmneeaaQ10
import Derived.Test.YtmblkgnjcmneeaaQ11
import Derived.Test.YtmblkgnjcmneeaaQ12
/- The contract of package reasm's putIn. -/
namespace Go.Proofs.Ytmblkgnjcmneeaa
open Go.ChangeShapes Go.WideShapes Go.ChangeAt Go.RowKit
set_option linter.unusedVariables false
set_option linter.unusedSimpArgs false

theorem cinsertN (rs : List Er) (A : Option Addr) (c n : Nat) (hl : rs.length = n) (base gv : Nat) (x : Er) (w : World) (hE : w.ownsRow base 89 2 (.slice A n c) n (rs.flatMap Er.L)) (hb : base ≤ w.heap.size) (hv : Bxo w gv 89 x.L) (hgv : ∀ g, blk A = some g → gv ≠ g) (hn : n ≤ 1048576) (k : Nat) (hk : k ≤ n) :
    Calls Try.prog 60 #[.slice A n c, .int .i64 k, .slice (some ⟨gv, 0, none⟩) 1 1] w fun e w' => Inserted w base A (rs.take k ++ x :: rs.drop k) (n + 1) e w' := by
  subst hl
  by_cases hkn : k = rs.length
  · exact cinsEnd rs A c base gv x w hE hb hv hn k hkn
  · obtain ⟨g, hA, _⟩ := (own_addr hE).resolve_left (by rintro ⟨_, h, _⟩; omega)
    subst hA
    by_cases hr : rs.length + 1 ≤ c
    · exact cinsRoom rs g c base gv x w hE hb hv (hgv g rfl) hn k (by omega) hr
    · exact cinsGrow rs g c base gv x w hE hb hv hn k (by omega) (by omega)
/-- the piece among the others, by its place. -/
theorem ins_place : ∀ (l : List Rn) (r : Rn) (k : Nat), k ≤ l.length → (∀ i (h : i < l.length), i < k → l[i].off < r.off) → (∀ i (h : i < l.length), k ≤ i → r.off < l[i].off) → insR l r = l.take k ++ r :: l.drop k
  | [], r, k, hk, _, _ => by simp at hk; subst hk; simp [insR]
  | a :: t, r, 0, _, _, h2 => by
    have := h2 0 (by simp) (by omega)
    simp only [List.getElem_cons_zero] at this
    unfold insR
    rw [if_pos this]; simp
  | a :: t, r, k + 1, hk, h1, h2 => by
    have h := h1 0 (by simp) (by omega)
    simp only [List.getElem_cons_zero] at h
    unfold insR
    rw [if_neg (by omega), List.take_succ_cons, List.drop_succ_cons, List.cons_append]
    congr 1
    exact ins_place t r k (by simpa using hk) (fun i hi hik => by have := h1 (i + 1) (by simpa using hi) (by omega); simpa using this) (fun i hi hik => by have := h2 (i + 1) (by simpa using hi) (by omega); simpa using this)
theorem runs_rise : ∀ (total lo : Int) (l : List Rn), RunsOk total lo l → Rises l
  | _, _, [], _ => fun i j hi => by simp at hi
  | total, lo, a :: t, ⟨ha, ht⟩ => fun i j hi hj hij => by
    have hl := ha.len
    cases j with
    | zero => omega
    | succ j =>
      cases i with
      | zero =>
        have h1 := (runs_lo total t (stopR a) ht (t[j]'(by simpa using hj)) (List.getElem_mem _)).1
        simp only [List.getElem_cons_zero, List.getElem_cons_succ]
        unfold stopR at h1
        omega
      | succ i => simpa using runs_rise total (stopR a) t ht i j (by simpa using hi) (by simpa using hj) (by omega)
/-- bytes whose block is known to be new. -/
theorem ByIn.fresh {w0 w : World} {V : Nat → Prop} {A : Option Addr} {c : Nat} {l : List UInt8} (h : ByIn w (growV V w0 w) A c l) (hf : ∀ ad, A = some ad → w0.heap.size ≤ ad.block) : ByIn w (fun y => w0.heap.size ≤ y ∧ y < w.heap.size) A c l := by
  refine ⟨h.len, h.cap, h.nil, ?_⟩
  rcases h.bs with h' | ⟨ad, rfl, hlt, hc⟩
  · exact .inl h'
  · by_cases hl : l = []
    · exact .inl hl
    · obtain ⟨b0, hb0⟩ : ∃ b0, l[0]? = some b0 := by
        cases hx' : l with
        | nil => exact absurd hx' hl
        | cons a t => exact ⟨a, rfl⟩
      have h2 := World.block_lt_of_cell? w _ (hc 0 b0 hb0)
      rw [block_add] at h2
      exact .inr ⟨ad, rfl, ⟨hf ad rfl, h2⟩, hc⟩
/-- behind the run's being put in. W1: the world ahead of it. -/
structure PutMid (w W1 : World) (e : El) (rs : List Er) (base : Nat) (D : Nat → Prop) (x : Pk) (Bo : Option Addr) (do_ : Nat) (Bb : Option Addr) (db k : Nat) (wx : World) (A7 : Option Addr) (c7 : Nat) (A' : Option Addr) (c' : Nat) : Prop where
  box : Bxo wx w.heap.size 67 [.int .u32 e.b.src, .int .u32 e.b.dst, .int .i64 e.b.id, .int .i64 e.b.proto, .int .i64 e.b.born, .int .i64 e.b.head.tos, .int .i64 e.b.head.id, .bool e.b.head.df, .bool e.b.head.mf, .int .i64 e.b.head.off, .int .i64 e.b.head.ttl, .int .i64 e.b.head.proto, .int .u32 e.b.head.src, .int .u32 e.b.head.dst, .slice e.Ao e.b.head.opts.length e.co, .slice e.Ab e.b.head.body.length e.cb, .bool e.b.first, .int .i64 e.b.total, .slice A' (e.b.runs.length + 1) c']
  xbox : Bxo wx (w.heap.size + 1) 25 (pkL x Bo do_ Bb db)
  zbox : Bxo wx (w.heap.size + 2) 67 (bfL bf0 none 0 none 0 none 0)
  row : wx.ownsRow base 89 2 (.slice A' (e.b.runs.length + 1) c') (e.b.runs.length + 1) ((rs.take k ++ ⟨⟨x.off, x.body⟩, A7, c7⟩ :: rs.drop k).flatMap Er.L)
  data : ByIn wx (fun y => W1.heap.size ≤ y ∧ y < wx.heap.size ∧ blk A' ≠ some y) A7 c7 x.body
  os : wx.os = W1.os
  tape : wx.tape = W1.tape
  output : wx.output = W1.output
  size : W1.heap.size ≤ wx.heap.size
  block : ∀ y, y < W1.heap.size → y ≠ w.heap.size → blk e.Ar ≠ some y → wx.heap[y]? = W1.heap[y]?
  at_ : blk A' = blk e.Ar ∨ ∀ g, blk A' = some g → W1.heap.size ≤ g
def PutMidE (w W1 : World) (e : El) (rs : List Er) (base : Nat) (D : Nat → Prop) (x : Pk) (Bo : Option Addr) (do_ : Nat) (Bb : Option Addr) (db k : Nat) (wx : World) : Prop := ∃ A7 c7 A' c', PutMid w W1 e rs base D x Bo do_ Bb db k wx A7 c7 A' c'
theorem PutMid.make {w W1 w7 w9 w10 w12 : World} {e : El} {rs : List Er} {base : Nat} {V : Nat → Prop} {x : Pk} {Bo : Option Addr} {do_ : Nat} {Bb : Option Addr} {db k : Nat} {A7 : Option Addr} {c7 : Nat} {A' : Option Addr} {c' : Nat} {D : Nat → Prop}
    (hW : w.heap.size + 3 ≤ W1.heap.size) (y7 : Below W1.heap.size W1 w7) (y9 : Below w7.heap.size w7 w9) (e9 : w9.heap.size = w7.heap.size + 1) (hb7 : ByIn w7 (growV V W1 w7) A7 c7 x.body) (hf7 : ∀ ad, A7 = some ad → W1.heap.size ≤ ad.block)
    (ho : w10.ownsRow base 89 2 (.slice A' (e.b.runs.length + 1) c') (e.b.runs.length + 1) ((rs.take k ++ ⟨⟨x.off, x.body⟩, A7, c7⟩ :: rs.drop k).flatMap Er.L)) (hg : w9.grownBy w10 (blk e.Ar)) (ha : blk A' = blk e.Ar ∨ ∀ g, blk A' = some g → w9.heap.size ≤ g)
    (hbox : Bxo w12 w.heap.size 67 (spl (bfL e.b e.Ao e.co e.Ab e.cb e.Ar e.cr) 18 [.slice A' (e.b.runs.length + 1) c'])) (hx : Bxo w12 (w.heap.size + 1) 25 (pkL x Bo do_ Bb db)) (hzb : Bxo w12 (w.heap.size + 2) 67 (bfL bf0 none 0 none 0 none 0)) (h12 : Only w.heap.size w10 w12) (hR : ∀ g, blk e.Ar = some g → g < w.heap.size) :
    PutMid w W1 e rs base D x Bo do_ Bb db k w12 A7 c7 A' c' := by
  have z7 := y7.size
  have z10 := hg.size
  have z12 := h12.size
  have hA : ∀ g, blk A' = some g → g < w.heap.size ∨ w9.heap.size ≤ g := fun g hg' => by
    rcases ha with h | h
    · exact .inl (hR g (by rw [← h]; exact hg'))
    · exact .inr (h g hg')
  refine ⟨hbox, hx, hzb, own_keepA ho (fun g hg' => h12.block g (fun e => by have := hA g hg'; omega)), ⟨hb7.len, hb7.cap, hb7.nil, ?_⟩, (h12.os.trans hg.os).trans (y9.os.trans y7.os), (h12.tape.trans hg.tape).trans (y9.tape.trans y7.tape), (h12.output.trans hg.output).trans (y9.output.trans y7.output), by omega, fun y hy h1 h2 => ((h12.block y h1).trans (hg.block y (by omega) (fun e => h2 e.symm))).trans ((y9.block y (by omega)).trans (y7.block y hy)), ?_⟩
  · rcases hb7.bs with h | ⟨ad, rfl, hlt, hc⟩
    · exact .inl h
    by_cases hl : x.body = []
    · exact .inl hl
    · have h1 := hf7 ad rfl
      obtain ⟨b0, hb0⟩ : ∃ b0, x.body[0]? = some b0 := by
        cases hx' : x.body with
        | nil => exact absurd hx' hl
        | cons a t => exact ⟨a, rfl⟩
      have h2 := World.block_lt_of_cell? w7 _ (hc 0 b0 hb0)
      rw [block_add] at h2
      refine .inr ⟨ad, rfl, ⟨h1, by omega, fun e => by have := hA ad.block e; omega⟩, fun j b hj => ?_⟩
      have hh : w12.heap[ad.block]? = w7.heap[ad.block]? := ((h12.block _ (by omega)).trans (hg.block _ (by omega) (fun e => by have := hR ad.block e.symm; omega))).trans (y9.block _ h2)
      rw [World.cell?_of_block (w := w7) (a := ad.add j) (by rw [block_add]; exact hh)]
      exact hc j b hj
  · rcases ha with h | h
    · exact .inl h
    · exact .inr (fun g hg' => by have := h g hg'; omega)
/-- a packet's cells, its parts apart. -/
abbrev cellsM (b : Bf) (h : Pk) (Ao : Option Addr) (co : Nat) (Ab : Option Addr) (cb : Nat) (f : Bool) (t : Int) (rv : Value) : List Value :=
  [.int .u32 b.src, .int .u32 b.dst, .int .i64 b.id, .int .i64 b.proto, .int .i64 b.born, .int .i64 h.tos, .int .i64 h.id, .bool h.df, .bool h.mf, .int .i64 h.off, .int .i64 h.ttl, .int .i64 h.proto, .int .u32 h.src, .int .u32 h.dst, .slice Ao h.opts.length co, .slice Ab h.body.length cb, .bool f, .int .i64 t, rv]
def TotE (e : El) (x : Pk) (g : Nat) (rv : Value) (wx wy : World) : Prop := Bxo wy g 67 (cellsM e.b e.b.head e.Ao e.co e.Ab e.cb e.b.first (joinB e.b x).total rv) ∧ Only g wx wy
structure Hed (e : El) (x : Pk) (g : Nat) (rv : Value) (wy wz : World) (Ao : Option Addr) (co : Nat) (Ab : Option Addr) (cb : Nat) : Prop where
  box : Bxo wz g 67 (cellsM e.b (joinB e.b x).head Ao co Ab cb (joinB e.b x).first (joinB e.b x).total rv)
  gro : Gro g wy wz
  yes : x.off = 0 → ByIn wz (fun y => wy.heap.size ≤ y ∧ y < wz.heap.size) Ao co x.opts ∧ Ab = none ∧ cb = 0
  no : x.off ≠ 0 → Ao = e.Ao ∧ co = e.co ∧ Ab = e.Ab ∧ cb = e.cb
def HedE (e : El) (x : Pk) (g : Nat) (rv : Value) (wy wz : World) : Prop := ∃ Ao co Ab cb, Hed e x g rv wy wz Ao co Ab cb
set_option maxRecDepth 100000 in
set_option maxHeartbeats 8000000 in
theorem cputIn (e : El) (rs : List Er) (base : Nat) (D : Nat → Prop) (x : Pk) (Bo : Option Addr) (do_ : Nat) (Bb : Option Addr) (db : Nat) (w : World) (V : Nat → Prop) (he : ElAt w base D e rs) (hDl : ∀ b, D b → b < w.heap.size) (hde : ∀ g, blk e.Ar = some g → ¬ D g) (hx : PkAt w V x Bo do_ Bb db) (hbase : base ≤ w.heap.size) (hR : RunsOk e.b.total 0 e.b.runs) (hnr : e.b.runs.length ≤ 1048576)
    (o0 : 0 ≤ x.off) (o1 : x.off ≤ 65528) (xo : x.opts.length ≤ 16777216) (xb : x.body.length ≤ 65535) (hno : ∀ r ∈ e.b.runs, r.off ≠ x.off) (hVR : ∀ g, blk e.Ar = some g → ¬ V g) :
    Calls Try.prog 37 #[bfV e.b e.Ao e.co e.Ab e.cb e.Ar e.cr, ipV x Bo do_ Bb db] w fun z w' => ∃ e' rs' D', z = .returned (bfV e'.b e'.Ao e'.co e'.Ab e'.cb e'.Ar e'.cr) ∧ e'.b = joinB e.b x ∧ ElAt w' base D' e' rs' ∧ w.grownBy w' (blk e.Ar) ∧ (∀ b, D b → D' b) ∧ (∀ b, D' b → D b ∨ (w.heap.size ≤ b ∧ b < w'.heap.size)) ∧ (∀ g, blk e'.Ar = some g → ¬ D' g) ∧ (blk e'.Ar = blk e.Ar ∨ ∀ g, blk e'.Ar = some g → w.heap.size ≤ g) := by
  have HRS := Go.Lib.hid (runs_rise _ _ _ hR)
  have HRE := Go.Lib.hid (runs_each _ _ _ hR (Int.le_refl 0))
  have HEL := Go.Lib.hid he
  have hrl := he.len
  have HRL := Go.Lib.hid hrl
  have HNO := Go.Lib.hid hno
  have y0 : Below w.heap.size w (((w.alloc (oBf e.b e.Ao e.co e.Ab e.cb e.Ar e.cr)).alloc (oPk x Bo do_ Bb db)).alloc (oBf bf0 none 0 none 0 none 0)) := below_alloc (below_alloc (below_alloc (Below.refl _ _) (Nat.le_refl _) _) (by simp) _) (by simp; omega) _
  have h1 := ((Bxo.made w 67 (bfL e.b e.Ao e.co e.Ab e.cb e.Ar e.cr)).alloc (oPk x Bo do_ Bb db)).alloc (oBf bf0 none 0 none 0 none 0)
  have h2 : Bxo (((w.alloc (oBf e.b e.Ao e.co e.Ab e.cb e.Ar e.cr)).alloc (oPk x Bo do_ Bb db)).alloc (oBf bf0 none 0 none 0 none 0)) (w.heap.size + 1) 25 (pkL x Bo do_ Bb db) := by
    have := (Bxo.made (w.alloc (oBf e.b e.Ao e.co e.Ab e.cb e.Ar e.cr)) 25 (pkL x Bo do_ Bb db)).alloc (oBf bf0 none 0 none 0 none 0)
    simpa using this
  have h3 : Bxo (((w.alloc (oBf e.b e.Ao e.co e.Ab e.cb e.Ar e.cr)).alloc (oPk x Bo do_ Bb db)).alloc (oBf bf0 none 0 none 0 none 0)) (w.heap.size + 2) 67 (bfL bf0 none 0 none 0 none 0) := by
    have := Bxo.made ((w.alloc (oBf e.b e.Ao e.co e.Ab e.cb e.Ar e.cr)).alloc (oPk x Bo do_ Bb db)) 67 (bfL bf0 none 0 none 0 none 0)
    simpa using this
  have hz : (((w.alloc (oBf e.b e.Ao e.co e.Ab e.cb e.Ar e.cr)).alloc (oPk x Bo do_ Bb db)).alloc (oBf bf0 none 0 none 0 none 0)).heap.size = w.heap.size + 3 := by simp
  have hxo := hx.at y0
  have RBL0 : Hid (∀ g, blk e.Ar = some g → g < w.heap.size) := Go.Lib.hid (fun g hg => by
    rcases own_addr he.row with ⟨hn', _⟩ | ⟨g2, hg2, h1, h2⟩
    · rw [hn'] at hg; cases hg
    · rw [hg2] at hg; injection hg with hg; have hg : g2 = g := hg; omega)
  have hbf := he.bf (U := fun b => b < w.heap.size) hDl (fun g hg => RBL0.out g hg) (fun b h => h)
  have q1 := hbf.rlen
  have q2 := hbf.rcap
  have hrs := (hbf.at y0).runs
  have hrow := own_keepA he.row (fun g hg => y0.block g (RBL0.out g hg))
  rw [hrl] at hrow
  have HVL := Go.Lib.hid hx.lt
  clear he hx hR hno hrl hbf
  go_enter Try.func37, Try.ntmps37
  go_upto_region 1 with fail
  generalize (((w.alloc (oBf e.b e.Ao e.co e.Ab e.cb e.Ar e.cr)).alloc (oPk x Bo do_ Bb db)).alloc (oBf bf0 none 0 none 0 none 0)) = W at *
  have H1 := Go.Lib.hid h1
  have H2 := Go.Lib.hid h2
  have H3 := Go.Lib.hid h3
  have HXO := Go.Lib.hid hxo
  have HRR := Go.Lib.hid hrs
  have HRW := Go.Lib.hid hrow
  clear h1 h2 h3 hxo hrs hrow
  have c18 := H1.out.cell 18 rfl
  have c4 := H2.out.cell 4 rfl
  go_upto_region 2 with (first
    | (go_at_call 58; refine (csearch e.b.runs e.Ar e.cr x.off W _ HRR.out (fun b h => Nat.lt_of_lt_of_le h y0.size) q1 (by omega) HRS.out (fun r hr => by have := HRE.out r hr; have h2 : stopR r = r.off + (r.data.length : Int) := rfl; omega) o0 (by omega)).mono ?_; rintro e2 w2 ⟨k, f, rfl, hk, y2⟩; have HPL := Go.Lib.hid hk; dsimp only))
  clear c18 c4
  have HK := Go.Lib.hid HPL.out.1
  have HN := Go.Lib.hid hnr
  have z2 := y2.size
  have hW : w.heap.size + 3 ≤ w2.heap.size := by omega
  have GB := Go.Lib.hid (H1.out.keep y2 (by omega))
  have GX := Go.Lib.hid (H2.out.keep y2 (by omega))
  have GZ := Go.Lib.hid (H3.out.keep y2 (by omega))
  have l0 : w.heap.size < w2.heap.size := by omega
  have l1 : w.heap.size + 1 < w2.heap.size := by omega
  have l2 : w.heap.size + 2 < w2.heap.size := by omega
  have RBL2 : Hid (∀ g, blk e.Ar = some g → g < w2.heap.size) := Go.Lib.hid (fun g hg => by have := RBL0.out g hg; omega)
  have RW := Go.Lib.hid (own_keepA HRW.out (w' := w2) (fun g hg => y2.block g (by have := RBL0.out g hg; omega)))
  have HX2 := HXO.out.at y2
  have HXP := Go.Lib.hid HX2
  have HXB : Hid (ByIn w2.drew V Bb db x.body) := Go.Lib.hid (HX2.at (below_drew (Below.refl _ _))).b
  have HXL : Hid (∀ b, V b → b < w2.drew.heap.size) := Go.Lib.hid HX2.lt
  have Z2 : Hid (Below w.heap.size w w2) := Go.Lib.hid (y0.trans (y2.mono (by omega)))
  clear H1 H2 H3 HXO HRR HRW HX2 y2 y0
  have c18 := GB.out.cell 18 rfl
  go_cut [] (fun wx => PutMidE w w2 e rs base D x Bo do_ Bb db k wx)
  case first =>
    try simp only [Act.put, List.setIfInBounds_toArray, List.set_cons_zero, List.set_cons_succ]
    refine wp_region_held_drew (S := fun Y => Bxo Y (w.heap.size + 1) 25 (pkL x Bo do_ Bb db)) (by kernel_rfl) ?_ (fun hHeld => ?_)
    · exact GX.out
    refine wpAnyH_take (i := 0) (oi := ⟨some 15, _, _, _, _, _⟩) (v := ?_) rfl (by kernel_rfl) (by kernel_rfl) (by kernel_rfl) (fun _ _ _ h => h) (Or.inl ⟨by rfl, ?_⟩) (by assumption) ?_
    rotate_left
    · intro w hSw; (try dsimp only at hSw); go_simp; (try with_reducible rfl)
    try simp only [Act.put, List.setIfInBounds_toArray, List.set_cons_zero, List.set_cons_succ]
    refine wpAnyH_take (i := 2) (oi := ⟨some 17, _, _, _, _, _⟩) (v := ?_) rfl (by kernel_rfl) (by kernel_rfl) (by kernel_rfl) (fun _ _ _ h => h) (Or.inl ⟨by rfl, ?_⟩) (by assumption) ?_
    rotate_left
    · intro w hSw; (try dsimp only at hSw); go_simp; (try with_reducible rfl)
    try simp only [Act.put, List.setIfInBounds_toArray, List.set_cons_zero, List.set_cons_succ]
    refine wpAnyH_take (i := 3) (oi := ⟨some 18, _, _, _, _, _⟩) (v := ?_) rfl (by kernel_rfl) (by kernel_rfl) (by kernel_rfl) (fun _ _ _ h => h) (Or.inl ⟨by rfl, ?_⟩) (by assumption) ?_
    rotate_left
    · intro w hSw; (try dsimp only at hSw); go_simp; (try with_reducible rfl)
    try simp only [Act.put, List.setIfInBounds_toArray, List.set_cons_zero, List.set_cons_succ]
    refine wpAnyH_take (i := 4) (oi := ⟨some 19, _, _, _, _, _⟩) (v := ?_) rfl (by kernel_rfl) (by kernel_rfl) (by kernel_rfl) (fun _ _ _ h => h) (Or.inl ⟨by rfl, ?_⟩) (by assumption) ?_
    rotate_left
    · intro w hSw; have x4 := hSw.cell 4 rfl; (try dsimp only at hSw); go_simp; (try with_reducible rfl)
    try simp only [Act.put, List.setIfInBounds_toArray, List.set_cons_zero, List.set_cons_succ]
    refine wpAnyH_take (i := 5) (oi := ⟨some 20, _, _, _, _, _⟩) (v := ?_) rfl (by kernel_rfl) (by kernel_rfl) (by kernel_rfl) (fun _ _ _ h => h) (Or.inl ⟨by rfl, ?_⟩) (by assumption) ?_
    rotate_left
    · intro w hSw; (try dsimp only at hSw); go_simp; (try with_reducible rfl)
    try simp only [Act.put, List.setIfInBounds_toArray, List.set_cons_zero, List.set_cons_succ]
    refine wpAnyH_take (i := 6) (oi := ⟨some 21, _, _, _, _, _⟩) (v := ?_) rfl (by kernel_rfl) (by kernel_rfl) (by kernel_rfl) (fun _ _ _ h => h) (Or.inl ⟨by rfl, ?_⟩) (by assumption) ?_
    rotate_left
    · intro w hSw; have x10 := hSw.cell 10 rfl; (try dsimp only at hSw); go_simp; (try with_reducible rfl)
    try simp only [Act.put, List.setIfInBounds_toArray, List.set_cons_zero, List.set_cons_succ]
    refine wpAnyH_ready (rs := [1, 7]) (by kernel_rfl) (by simp) (AllReadyH.cons (o := ⟨some 16, _, _, _, _, _⟩) rfl (fun Kc hKc => ?_) (AllReadyH.cons (o := ⟨some 22, _, _, _, _, _⟩) rfl (fun Kc hKc => ?_) AllReadyH.nil))
    ·
      go_simp
      refine hKc.out _ _ (hHeld) (fun hHeld => ?_)
      clear hKc Kc
      try simp only [Act.put, List.setIfInBounds_toArray, List.set_cons_zero, List.set_cons_succ]
      refine wpAnyH_ready (rs := [7]) (by kernel_rfl) (by simp) (AllReadyH.cons (o := ⟨some 22, _, _, _, _, _⟩) rfl (fun Kc hKc => ?_) AllReadyH.nil)
      go_simp
      go_at_call 40; refine (ccloneV Bb _ db x.body _ V rfl HXB.out HXL.out (Nat.le_trans xb (by omega))).mono ?_; rintro e7 w7 ⟨A7, c7, rfl, hb7, hf7', y7d⟩; have y7 : Below w2.heap.size w2 w7 := (below_drew (Below.refl _ _)).trans y7d; have HB7 : Hid (ByIn w7 (growV V w2 w7) A7 c7 x.body) := Go.Lib.hid hb7; have hf7 : ∀ ad, A7 = some ad → w2.heap.size ≤ ad.block := hf7'; clear hb7 hf7' y7d; have z7 := y7.size; have GB7 := Go.Lib.hid (GB.out.keep y7 l0); have GX7 := Go.Lib.hid (GX.out.keep y7 l1); have GZ7 := Go.Lib.hid (GZ.out.keep y7 l2); have RW7 := Go.Lib.hid (own_keepA RW.out (fun g hg => y7.block g (RBL2.out g hg))); have c18 := GB7.out.cell 18 rfl; dsimp only
      refine hKc.out _ _ (GX7.out) (fun hHeld => ?_)
      clear hKc Kc
      try simp only [Act.put, List.setIfInBounds_toArray, List.set_cons_zero, List.set_cons_succ]
      refine wpAnyH_take (i := 8) (oi := ⟨some 23, _, _, _, _, _⟩) (v := ?_) rfl (by kernel_rfl) (by kernel_rfl) (by kernel_rfl) (fun _ _ _ h => h) (Or.inl ⟨by rfl, ?_⟩) (by assumption) ?_
      rotate_left
      · intro w hSw; (try dsimp only at hSw); go_simp; (try with_reducible rfl)
      try simp only [Act.put, List.setIfInBounds_toArray, List.set_cons_zero, List.set_cons_succ]
      refine wpAnyH_ready (rs := [9]) (by kernel_rfl) (by simp) (AllReadyH.cons (o := ⟨some 24, _, _, _, _, _⟩) rfl (fun Kc hKc => ?_) AllReadyH.nil)
      go_simp
      have V9 := Go.Lib.hid (Bxo.made w7 89 [.int .i64 x.off, .slice A7 x.body.length c7]); have y9 : Below w7.heap.size w7 (w7.alloc (.cells #[.int .i64 x.off, .slice A7 x.body.length c7] 89)) := (Below.refl _ _).alloc (Nat.le_refl _) _; have GB9 := Go.Lib.hid (GB7.out.keep y9 GB7.out.lt); have GX9 := Go.Lib.hid (GX7.out.keep y9 GX7.out.lt); have GZ9 := Go.Lib.hid (GZ7.out.keep y9 GZ7.out.lt); have RW9 := Go.Lib.hid (own_keepA RW7.out (fun g hg => y9.block g (Nat.lt_of_lt_of_le (RBL2.out g hg) y7.size))); have e9 : (w7.alloc (.cells #[.int .i64 x.off, .slice A7 x.body.length c7] 89)).heap.size = w7.heap.size + 1 := (by simp); clear c18; have c18 := GB9.out.cell 18 rfl; generalize w7.alloc (.cells #[.int .i64 x.off, .slice A7 x.body.length c7] 89) = w9 at *
      refine hKc.out _ _ (GX9.out) (fun hHeld => ?_)
      clear hKc Kc
      try simp only [Act.put, List.setIfInBounds_toArray, List.set_cons_zero, List.set_cons_succ]
      refine wpAnyH_ready (rs := [10]) (by kernel_rfl) (by simp) (AllReadyH.cons (o := ⟨some 25, _, _, _, _, _⟩) rfl (fun Kc hKc => ?_) AllReadyH.nil)
      go_simp
      go_at_call 60; refine (cinsertN rs e.Ar e.cr e.b.runs.length HRL.out base w7.heap.size ⟨⟨x.off, x.body⟩, A7, c7⟩ w9 RW9.out (by omega) V9.out (fun g hg => by have := RBL2.out g hg; have := y7.size; omega) HN.out k HK.out).mono ?_; rintro e10 w10 ⟨A', c', rfl, ho10, hg10, ha10⟩; have HO10 := Go.Lib.hid ho10; have HG10 := Go.Lib.hid hg10; have HA10 := Go.Lib.hid ha10; have GB10 := Go.Lib.hid (show Bxo w10 w.heap.size 67 _ from (hg10.block _ (by omega) (fun e' => by have := RBL0.out _ e'.symm; omega)).trans GB9.out); have GX10 := Go.Lib.hid (show Bxo w10 (w.heap.size + 1) 25 _ from (hg10.block _ (by omega) (fun e' => by have := RBL0.out _ e'.symm; omega)).trans GX9.out); have GZ10 := Go.Lib.hid (show Bxo w10 (w.heap.size + 2) 67 _ from (hg10.block _ (by omega) (fun e' => by have := RBL0.out _ e'.symm; omega)).trans GZ9.out); clear c18; dsimp only
      refine hKc.out _ _ (GX10.out) (fun hHeld => ?_)
      clear hKc Kc
      try simp only [Act.put, List.setIfInBounds_toArray, List.set_cons_zero, List.set_cons_succ]
      refine wpAnyH_take (i := 11) (oi := ⟨some 26, _, _, _, _, _⟩) (v := ?_) rfl (by kernel_rfl) (by kernel_rfl) (by kernel_rfl) (fun _ _ _ h => h) (Or.inl ⟨by rfl, ?_⟩) (by assumption) ?_
      rotate_left
      · intro w hSw; (try dsimp only at hSw); go_simp; (try with_reducible rfl)
      try simp only [Act.put, List.setIfInBounds_toArray, List.set_cons_zero, List.set_cons_succ]
      refine wpAnyH_ready (rs := [12]) (by kernel_rfl) (by simp) (AllReadyH.cons (o := ⟨none, _, _, _, _, _⟩) rfl (fun Kc hKc => ?_) AllReadyH.nil)
      rw [if_pos (by rfl)]
      refine step_store_any 65 _ _ rfl w.heap.size 18 67 _ [.slice A' (e.b.runs.length + 1) c'] _ rfl rfl rfl GB10.out info_sr (by show 18 + 1 ≤ 19; omega) (by simp [Value.oneCell']) ?_; intro w12 hb12 ho12; have HB12 := Go.Lib.hid hb12; clear hb12
      refine hKc.out _ _ (GX10.out.only ho12 (by omega)) (fun hHeld => ?_)
      clear hKc Kc
      try simp only [Act.put, List.setIfInBounds_toArray, List.set_cons_zero, List.set_cons_succ]
      refine wpAnyH_done (by kernel_rfl) ?_ _
      go_wp2_with fail
      go_meet
      exact ⟨A7, c7, A', c', PutMid.make hW y7 y9 e9 HB7.out hf7 HO10.out HG10.out HA10.out HB12.out (GX10.out.only ho12 (by omega)) (GZ10.out.only ho12 (by omega)) ho12 RBL0.out⟩
    ·
      go_simp
      go_at_call 40; refine (ccloneV Bb _ db x.body _ V rfl HXB.out HXL.out (Nat.le_trans xb (by omega))).mono ?_; rintro e7 w7 ⟨A7, c7, rfl, hb7, hf7', y7d⟩; have y7 : Below w2.heap.size w2 w7 := (below_drew (Below.refl _ _)).trans y7d; have HB7 : Hid (ByIn w7 (growV V w2 w7) A7 c7 x.body) := Go.Lib.hid hb7; have hf7 : ∀ ad, A7 = some ad → w2.heap.size ≤ ad.block := hf7'; clear hb7 hf7' y7d; have z7 := y7.size; have GB7 := Go.Lib.hid (GB.out.keep y7 l0); have GX7 := Go.Lib.hid (GX.out.keep y7 l1); have GZ7 := Go.Lib.hid (GZ.out.keep y7 l2); have RW7 := Go.Lib.hid (own_keepA RW.out (fun g hg => y7.block g (RBL2.out g hg))); have c18 := GB7.out.cell 18 rfl; dsimp only
      refine hKc.out _ _ (GX7.out) (fun hHeld => ?_)
      clear hKc Kc
      try simp only [Act.put, List.setIfInBounds_toArray, List.set_cons_zero, List.set_cons_succ]
      refine wpAnyH_take (i := 8) (oi := ⟨some 23, _, _, _, _, _⟩) (v := ?_) rfl (by kernel_rfl) (by kernel_rfl) (by kernel_rfl) (fun _ _ _ h => h) (Or.inl ⟨by rfl, ?_⟩) (by assumption) ?_
      rotate_left
      · intro w hSw; (try dsimp only at hSw); go_simp; (try with_reducible rfl)
      try simp only [Act.put, List.setIfInBounds_toArray, List.set_cons_zero, List.set_cons_succ]
      refine wpAnyH_ready (rs := [1, 9]) (by kernel_rfl) (by simp) (AllReadyH.cons (o := ⟨some 16, _, _, _, _, _⟩) rfl (fun Kc hKc => ?_) (AllReadyH.cons (o := ⟨some 24, _, _, _, _, _⟩) rfl (fun Kc hKc => ?_) AllReadyH.nil))
      ·
        go_simp
        refine hKc.out _ _ (hHeld) (fun hHeld => ?_)
        clear hKc Kc
        try simp only [Act.put, List.setIfInBounds_toArray, List.set_cons_zero, List.set_cons_succ]
        refine wpAnyH_ready (rs := [9]) (by kernel_rfl) (by simp) (AllReadyH.cons (o := ⟨some 24, _, _, _, _, _⟩) rfl (fun Kc hKc => ?_) AllReadyH.nil)
        go_simp
        have V9 := Go.Lib.hid (Bxo.made w7 89 [.int .i64 x.off, .slice A7 x.body.length c7]); have y9 : Below w7.heap.size w7 (w7.alloc (.cells #[.int .i64 x.off, .slice A7 x.body.length c7] 89)) := (Below.refl _ _).alloc (Nat.le_refl _) _; have GB9 := Go.Lib.hid (GB7.out.keep y9 GB7.out.lt); have GX9 := Go.Lib.hid (GX7.out.keep y9 GX7.out.lt); have GZ9 := Go.Lib.hid (GZ7.out.keep y9 GZ7.out.lt); have RW9 := Go.Lib.hid (own_keepA RW7.out (fun g hg => y9.block g (Nat.lt_of_lt_of_le (RBL2.out g hg) y7.size))); have e9 : (w7.alloc (.cells #[.int .i64 x.off, .slice A7 x.body.length c7] 89)).heap.size = w7.heap.size + 1 := (by simp); clear c18; have c18 := GB9.out.cell 18 rfl; generalize w7.alloc (.cells #[.int .i64 x.off, .slice A7 x.body.length c7] 89) = w9 at *
        refine hKc.out _ _ (GX9.out) (fun hHeld => ?_)
        clear hKc Kc
        try simp only [Act.put, List.setIfInBounds_toArray, List.set_cons_zero, List.set_cons_succ]
        refine wpAnyH_ready (rs := [10]) (by kernel_rfl) (by simp) (AllReadyH.cons (o := ⟨some 25, _, _, _, _, _⟩) rfl (fun Kc hKc => ?_) AllReadyH.nil)
        go_simp
        go_at_call 60; refine (cinsertN rs e.Ar e.cr e.b.runs.length HRL.out base w7.heap.size ⟨⟨x.off, x.body⟩, A7, c7⟩ w9 RW9.out (by omega) V9.out (fun g hg => by have := RBL2.out g hg; have := y7.size; omega) HN.out k HK.out).mono ?_; rintro e10 w10 ⟨A', c', rfl, ho10, hg10, ha10⟩; have HO10 := Go.Lib.hid ho10; have HG10 := Go.Lib.hid hg10; have HA10 := Go.Lib.hid ha10; have GB10 := Go.Lib.hid (show Bxo w10 w.heap.size 67 _ from (hg10.block _ (by omega) (fun e' => by have := RBL0.out _ e'.symm; omega)).trans GB9.out); have GX10 := Go.Lib.hid (show Bxo w10 (w.heap.size + 1) 25 _ from (hg10.block _ (by omega) (fun e' => by have := RBL0.out _ e'.symm; omega)).trans GX9.out); have GZ10 := Go.Lib.hid (show Bxo w10 (w.heap.size + 2) 67 _ from (hg10.block _ (by omega) (fun e' => by have := RBL0.out _ e'.symm; omega)).trans GZ9.out); clear c18; dsimp only
        refine hKc.out _ _ (GX10.out) (fun hHeld => ?_)
        clear hKc Kc
        try simp only [Act.put, List.setIfInBounds_toArray, List.set_cons_zero, List.set_cons_succ]
        refine wpAnyH_take (i := 11) (oi := ⟨some 26, _, _, _, _, _⟩) (v := ?_) rfl (by kernel_rfl) (by kernel_rfl) (by kernel_rfl) (fun _ _ _ h => h) (Or.inl ⟨by rfl, ?_⟩) (by assumption) ?_
        rotate_left
        · intro w hSw; (try dsimp only at hSw); go_simp; (try with_reducible rfl)
        try simp only [Act.put, List.setIfInBounds_toArray, List.set_cons_zero, List.set_cons_succ]
        refine wpAnyH_ready (rs := [12]) (by kernel_rfl) (by simp) (AllReadyH.cons (o := ⟨none, _, _, _, _, _⟩) rfl (fun Kc hKc => ?_) AllReadyH.nil)
        rw [if_pos (by rfl)]
        refine step_store_any 65 _ _ rfl w.heap.size 18 67 _ [.slice A' (e.b.runs.length + 1) c'] _ rfl rfl rfl GB10.out info_sr (by show 18 + 1 ≤ 19; omega) (by simp [Value.oneCell']) ?_; intro w12 hb12 ho12; have HB12 := Go.Lib.hid hb12; clear hb12
        refine hKc.out _ _ (GX10.out.only ho12 (by omega)) (fun hHeld => ?_)
        clear hKc Kc
        try simp only [Act.put, List.setIfInBounds_toArray, List.set_cons_zero, List.set_cons_succ]
        refine wpAnyH_done (by kernel_rfl) ?_ _
        go_wp2_with fail
        go_meet
        exact ⟨A7, c7, A', c', PutMid.make hW y7 y9 e9 HB7.out hf7 HO10.out HG10.out HA10.out HB12.out (GX10.out.only ho12 (by omega)) (GZ10.out.only ho12 (by omega)) ho12 RBL0.out⟩
      ·
        go_simp
        have V9 := Go.Lib.hid (Bxo.made w7 89 [.int .i64 x.off, .slice A7 x.body.length c7]); have y9 : Below w7.heap.size w7 (w7.alloc (.cells #[.int .i64 x.off, .slice A7 x.body.length c7] 89)) := (Below.refl _ _).alloc (Nat.le_refl _) _; have GB9 := Go.Lib.hid (GB7.out.keep y9 GB7.out.lt); have GX9 := Go.Lib.hid (GX7.out.keep y9 GX7.out.lt); have GZ9 := Go.Lib.hid (GZ7.out.keep y9 GZ7.out.lt); have RW9 := Go.Lib.hid (own_keepA RW7.out (fun g hg => y9.block g (Nat.lt_of_lt_of_le (RBL2.out g hg) y7.size))); have e9 : (w7.alloc (.cells #[.int .i64 x.off, .slice A7 x.body.length c7] 89)).heap.size = w7.heap.size + 1 := (by simp); clear c18; have c18 := GB9.out.cell 18 rfl; generalize w7.alloc (.cells #[.int .i64 x.off, .slice A7 x.body.length c7] 89) = w9 at *
        refine hKc.out _ _ (GX9.out) (fun hHeld => ?_)
        clear hKc Kc
        try simp only [Act.put, List.setIfInBounds_toArray, List.set_cons_zero, List.set_cons_succ]
        refine wpAnyH_ready (rs := [1]) (by kernel_rfl) (by simp) (AllReadyH.cons (o := ⟨some 16, _, _, _, _, _⟩) rfl (fun Kc hKc => ?_) AllReadyH.nil)
        go_simp
        refine hKc.out _ _ (hHeld) (fun hHeld => ?_)
        clear hKc Kc
        try simp only [Act.put, List.setIfInBounds_toArray, List.set_cons_zero, List.set_cons_succ]
        refine wpAnyH_ready (rs := [10]) (by kernel_rfl) (by simp) (AllReadyH.cons (o := ⟨some 25, _, _, _, _, _⟩) rfl (fun Kc hKc => ?_) AllReadyH.nil)
        go_simp
        go_at_call 60; refine (cinsertN rs e.Ar e.cr e.b.runs.length HRL.out base w7.heap.size ⟨⟨x.off, x.body⟩, A7, c7⟩ w9 RW9.out (by omega) V9.out (fun g hg => by have := RBL2.out g hg; have := y7.size; omega) HN.out k HK.out).mono ?_; rintro e10 w10 ⟨A', c', rfl, ho10, hg10, ha10⟩; have HO10 := Go.Lib.hid ho10; have HG10 := Go.Lib.hid hg10; have HA10 := Go.Lib.hid ha10; have GB10 := Go.Lib.hid (show Bxo w10 w.heap.size 67 _ from (hg10.block _ (by omega) (fun e' => by have := RBL0.out _ e'.symm; omega)).trans GB9.out); have GX10 := Go.Lib.hid (show Bxo w10 (w.heap.size + 1) 25 _ from (hg10.block _ (by omega) (fun e' => by have := RBL0.out _ e'.symm; omega)).trans GX9.out); have GZ10 := Go.Lib.hid (show Bxo w10 (w.heap.size + 2) 67 _ from (hg10.block _ (by omega) (fun e' => by have := RBL0.out _ e'.symm; omega)).trans GZ9.out); clear c18; dsimp only
        refine hKc.out _ _ (GX10.out) (fun hHeld => ?_)
        clear hKc Kc
        try simp only [Act.put, List.setIfInBounds_toArray, List.set_cons_zero, List.set_cons_succ]
        refine wpAnyH_take (i := 11) (oi := ⟨some 26, _, _, _, _, _⟩) (v := ?_) rfl (by kernel_rfl) (by kernel_rfl) (by kernel_rfl) (fun _ _ _ h => h) (Or.inl ⟨by rfl, ?_⟩) (by assumption) ?_
        rotate_left
        · intro w hSw; (try dsimp only at hSw); go_simp; (try with_reducible rfl)
        try simp only [Act.put, List.setIfInBounds_toArray, List.set_cons_zero, List.set_cons_succ]
        refine wpAnyH_ready (rs := [12]) (by kernel_rfl) (by simp) (AllReadyH.cons (o := ⟨none, _, _, _, _, _⟩) rfl (fun Kc hKc => ?_) AllReadyH.nil)
        rw [if_pos (by rfl)]
        refine step_store_any 65 _ _ rfl w.heap.size 18 67 _ [.slice A' (e.b.runs.length + 1) c'] _ rfl rfl rfl GB10.out info_sr (by show 18 + 1 ≤ 19; omega) (by simp [Value.oneCell']) ?_; intro w12 hb12 ho12; have HB12 := Go.Lib.hid hb12; clear hb12
        refine hKc.out _ _ (GX10.out.only ho12 (by omega)) (fun hHeld => ?_)
        clear hKc Kc
        try simp only [Act.put, List.setIfInBounds_toArray, List.set_cons_zero, List.set_cons_succ]
        refine wpAnyH_done (by kernel_rfl) ?_ _
        go_wp2_with fail
        go_meet
        exact ⟨A7, c7, A', c', PutMid.make hW y7 y9 e9 HB7.out hf7 HO10.out HG10.out HA10.out HB12.out (GX10.out.only ho12 (by omega)) (GZ10.out.only ho12 (by omega)) ho12 RBL0.out⟩
  case rest =>
  rename World => wx
  obtain ⟨A7, c7, A', c', hM⟩ := hcut
  have HM := Go.Lib.hid hM
  clear hM c18
  have c3 := HM.out.xbox.cell 3 rfl
  have c4 := HM.out.xbox.cell 4 rfl
  have c10 := HM.out.xbox.cell 10 rfl
  have e1 := IntWalk.i64_in (x.off + (x.body.length : Int)) (by omega)
  have zx := HM.out.size
  go_upto_if 29 with fail
  go_cut [] (fun wy => TotE e x w.heap.size (.slice A' (e.b.runs.length + 1) c') wx wy)
  case first =>
    cases hm : x.mf
    · rw [hm] at c3
      go_wp2_with (first
        | (refine wpList_store_any rfl 3 _ _ rfl w.heap.size 17 67 _ [.int .i64 (x.off + (x.body.length : Int))] _ rfl rfl rfl HM.out.box info_i1 (by show 17 + 1 ≤ 19; omega) (by simp [Value.oneCell']) ?_; intro w20 hb20 ho20; have HB20 := Go.Lib.hid hb20; clear hb20))
      go_meet
      refine ⟨?_, ho20⟩
      have ht : (joinB e.b x).total = x.off + (x.body.length : Int) := by unfold joinB; simp [hm]
      rw [ht]
      exact HB20.out
    · rw [hm] at c3
      go_wp2
      go_meet
      refine ⟨?_, Only.refl⟩
      have ht : (joinB e.b x).total = e.b.total := by unfold joinB; simp [hm]
      rw [ht]
      exact HM.out.box
  case rest =>
  rename World => wy
  have HT := Go.Lib.hid hcut
  clear hcut c3 c4 c10
  have XB := Go.Lib.hid (HM.out.xbox.only HT.out.2 (by omega))
  have ey := HT.out.2.size
  have c4 := XB.out.cell 4 rfl
  have hV2 : ∀ b, V b → wy.heap[b]? = w2.heap[b]? := fun b hb => (HT.out.2.block b (by have := HVL.out b hb; omega)).trans (HM.out.block b (by have := HVL.out b hb; omega) (by have := HVL.out b hb; omega) (fun e' => hVR b e' hb))
  have HXY : Hid (PkAt wy V x Bo do_ Bb db) := Go.Lib.hid ⟨HXP.out.s0, HXP.out.s1, HXP.out.d0, HXP.out.d1, HXP.out.o.keepH hV2, HXP.out.b.keepH hV2, fun b hb => by have := HVL.out b hb; omega⟩
  go_upto_if 39 with fail
  go_cut [] (fun wz => HedE e x w.heap.size (.slice A' (e.b.runs.length + 1) c') wy wz)
  case first =>
    by_cases h0 : x.off = 0
    · have t0 : (x.off == 0) = true := by simp [h0]
      have H0 := Go.Lib.hid h0
      clear h0
      go_wp2_with (first
        | (refine wpList_load_pk rfl _ rfl ⟨w.heap.size + 1, 0, none⟩ rfl x Bo do_ Bb db XB.out.at ?_)
        | (go_at_call 61; refine (cheadOf x Bo do_ Bb db wy V HXY.out xo).mono ?_; rintro e30 w30 ⟨A30, c30, rfl, hp30, hf30, y30⟩; have HP30 := Go.Lib.hid hp30.o; have HF30 := Go.Lib.hid hf30; have BB30 := Go.Lib.hid (HT.out.1.keep y30 HT.out.1.lt); clear hp30 hf30; dsimp only)
        | (refine wpList_store_any rfl 4 _ _ rfl w.heap.size 16 67 _ [.bool true] _ rfl rfl rfl BB30.out info_b1 (by show 16 + 1 ≤ 19; omega) (by simp [Value.oneCell']) ?_; intro w31 hb31 ho31; have HB31 := Go.Lib.hid hb31; clear hb31)
        | (refine wpList_store_any rfl 25 _ _ rfl w.heap.size 5 67 _ (pkL (hdX x) A30 c30 none 0) _ rfl rfl rfl HB31.out info_pk (by show 5 + 11 ≤ 19; omega) (by simp [Value.oneCell']) ?_; intro w32 hb32 ho32; have HB32 := Go.Lib.hid hb32; clear hb32))
      go_meet
      have j1 : (joinB e.b x).head = hdX x := by unfold joinB hdX; simp [H0.out]
      have j2 : (joinB e.b x).first = true := by unfold joinB; simp [H0.out]
      refine ⟨A30, c30, none, 0, ?_, ((gro_below y30).trans ho31.gro).trans ho32.gro, fun _ => ⟨?_, rfl, rfl⟩, fun h => absurd H0.out h⟩
      · rw [j1, j2]; exact HB32.out
      · have z30 := y30.size
        exact ((HP30.out.fresh HF30.out).keepH (fun b hb => (ho32.block b (by omega)).trans (ho31.block b (by omega)))).more (fun b hb => ⟨hb.1, by rw [ho32.size, ho31.size]; exact hb.2⟩)
    · have t0 : (x.off == 0) = false := by simp [h0]
      have H0 := Go.Lib.hid h0
      clear h0
      go_wp2
      go_meet
      have j1 : (joinB e.b x).head = e.b.head := by unfold joinB; simp [H0.out]
      have j2 : (joinB e.b x).first = e.b.first := by unfold joinB; simp [H0.out]
      refine ⟨e.Ao, e.co, e.Ab, e.cb, ?_, Gro.refl, fun h => absurd h H0.out, fun _ => ⟨rfl, rfl, rfl, rfl⟩⟩
      rw [j1, j2]; exact HT.out.1
  case rest =>
  rename World => wz
  obtain ⟨Ao', co', Ab', cb', hH⟩ := hcut
  have HH := Go.Lib.hid hH
  clear hH c4
  have zz := HH.out.gro.size
  have ZZ := Go.Lib.hid (((HM.out.zbox.only HT.out.2 (by omega)).gro HH.out.gro (by omega)))
  have hins : insR e.b.runs ⟨x.off, x.body⟩ = e.b.runs.take k ++ ⟨x.off, x.body⟩ :: e.b.runs.drop k := ins_place e.b.runs ⟨x.off, x.body⟩ k HPL.out.1 HPL.out.2.1 (fun i hi hik => by
    have h1 := HPL.out.2.2 i hi hik
    have h2 := HNO.out _ (List.getElem_mem hi)
    show x.off < _
    omega)
  have HINS := Go.Lib.hid hins
  have hj : ((joinB e.b x).runs).length = e.b.runs.length + 1 := by
    show (insR e.b.runs ⟨x.off, x.body⟩).length = _
    rw [hins, List.length_append, List.length_cons, List.length_take, List.length_drop]
    have := HPL.out.1
    omega
  clear hins
  have HBF : Hid (Bxo wz w.heap.size 67 (bfL (joinB e.b x) Ao' co' Ab' cb' A' c')) := Go.Lib.hid (by
    have h := HH.out.box
    rw [← hj] at h
    exact h)
  go_wp2_with (first
    | (refine wpList_load_bf rfl _ rfl ⟨w.heap.size, 0, none⟩ rfl (joinB e.b x) Ao' co' Ab' cb' A' c' HBF.out.at ?_)
    | (refine wpList_store_whole rfl 67 _ _ rfl (w.heap.size + 2) _ (bfL (joinB e.b x) Ao' co' Ab' cb' A' c') rfl rfl ZZ.out info_bf rfl (by simp [Value.oneCell']) ?_; intro w40 hb40 ho40; have HB40 := Go.Lib.hid hb40; clear hb40))
  refine bodyPost_ret (v := bfV (joinB e.b x) Ao' co' Ab' cb' A' c') (results_cell_row rfl _ _ (w.heap.size + 2) 67 _ _ _ rfl HB40.out Try.underlying67 rfl info_bf) rfl
    ⟨⟨joinB e.b x, Ao', co', Ab', cb', A', c'⟩, rs.take k ++ ⟨⟨x.off, x.body⟩, A7, c7⟩ :: rs.drop k, fun b => D b ∨ (w.heap.size ≤ b ∧ b < w40.heap.size ∧ blk A' ≠ some b), rfl, rfl, ?_, ?_, fun b hb => .inl hb, fun b hb => hb.imp id (fun h => ⟨h.1, h.2.1⟩), ?_, ?_⟩
  all_goals
    have z40 := ho40.size
    have hAg : ∀ g, blk A' = some g → (g < w.heap.size ∨ w2.heap.size ≤ g) ∧ g < wx.heap.size := fun g hg => by
      refine ⟨?_, ?_⟩
      · rcases HM.out.at_ with h | h
        · exact .inl (RBL0.out g (by rw [← h]; exact hg))
        · exact .inr (h g hg)
      · rcases own_addr HM.out.row with ⟨hn', _⟩ | ⟨g2, hg2, h1, h2⟩
        · rw [hn'] at hg; cases hg
        · rw [hg2] at hg; injection hg with hg; have hg : g2 = g := hg; omega
    have hkeep : ∀ b, b < w.heap.size → blk e.Ar ≠ some b → w40.heap[b]? = w.heap[b]? := fun b hb hne => ((((ho40.block b (by omega)).trans (HH.out.gro.block b (by omega) (by omega))).trans (HT.out.2.block b (by omega))).trans (HM.out.block b (by omega) (by omega) hne)).trans (Z2.out.block b hb)
    have hlate : ∀ b, b < wx.heap.size → b ≠ w.heap.size → b ≠ w.heap.size + 2 → w40.heap[b]? = wx.heap[b]? := fun b hb h1 h2 => ((ho40.block b h2).trans (HH.out.gro.block b (by omega) h1)).trans (HT.out.2.block b h1)
    have hkD : ∀ b, D b → w40.heap[b]? = w.heap[b]? := fun b hb => hkeep b (hDl b hb) (fun e' => hde b e' hb)
  · by_cases h0 : x.off = 0
    · obtain ⟨hy1, hy2, hy3⟩ := HH.out.yes h0
      subst hy2
      subst hy3
      have j1 : (joinB e.b x).head = hdX x := by unfold joinB hdX; simp [h0]
      refine ⟨HEL.out.s0, HEL.out.s1, HEL.out.d0, HEL.out.d1, by rw [j1]; exact HXP.out.s0, by rw [j1]; exact HXP.out.s1, by rw [j1]; exact HXP.out.d0, by rw [j1]; exact HXP.out.d1, ?_, ?_, ?_, ?_, ?_⟩
      · rw [j1]
        exact (hy1.keepH (w' := w40) (fun b hb => ho40.block b (by omega))).more (fun b hb => .inr ⟨by omega, by omega, fun e' => by have := (hAg b e').2; omega⟩)
      · rw [j1]; exact ⟨by simp [hdX], Nat.zero_le _, fun _ => rfl, .inl rfl⟩
      · show _ = insR e.b.runs ⟨x.off, x.body⟩
        rw [HINS.out, List.map_append, List.map_cons, List.map_take, List.map_drop, HEL.out.eq]
      · have hl : (rs.take k ++ (⟨⟨x.off, x.body⟩, A7, c7⟩ : Er) :: rs.drop k).length = e.b.runs.length + 1 := by
          rw [List.length_append, List.length_cons, List.length_take, List.length_drop, HRL.out]; have := HPL.out.1; omega
        unfold OwnR
        rw [hl]
        exact own_keepA HM.out.row (fun g hg => by have := hAg g hg; exact hlate g this.2 (by omega) (by omega))
      · intro r hr
        have hmem : r ∈ rs ∨ r = ⟨⟨x.off, x.body⟩, A7, c7⟩ := by
          rcases List.mem_append.1 hr with h | h
          · exact .inl (List.mem_of_mem_take h)
          · rcases List.mem_cons.1 h with h | h
            · exact .inr h
            · exact .inl (List.mem_of_mem_drop h)
        rcases hmem with h | rfl
        · exact ((HEL.out.data r h).keepH hkD).more (fun b hb => .inl hb)
        · exact (HM.out.data.keepH (w' := w40) (fun b hb => hlate b hb.2.1 (by omega) (by omega))).more (fun b hb => .inr ⟨by omega, by omega, hb.2.2⟩)
    · obtain ⟨hy1, hy2, hy3, hy4⟩ := HH.out.no h0
      subst hy1
      subst hy2
      subst hy3
      subst hy4
      have j1 : (joinB e.b x).head = e.b.head := by unfold joinB; simp [h0]
      refine ⟨HEL.out.s0, HEL.out.s1, HEL.out.d0, HEL.out.d1, by rw [j1]; exact HEL.out.hs0, by rw [j1]; exact HEL.out.hs1, by rw [j1]; exact HEL.out.hd0, by rw [j1]; exact HEL.out.hd1, ?_, ?_, ?_, ?_, ?_⟩
      · rw [j1]; exact (HEL.out.o.keepH hkD).more (fun b hb => .inl hb)
      · rw [j1]; exact (HEL.out.bo.keepH hkD).more (fun b hb => .inl hb)
      · show _ = insR e.b.runs ⟨x.off, x.body⟩
        rw [HINS.out, List.map_append, List.map_cons, List.map_take, List.map_drop, HEL.out.eq]
      · have hl : (rs.take k ++ (⟨⟨x.off, x.body⟩, A7, c7⟩ : Er) :: rs.drop k).length = e.b.runs.length + 1 := by
          rw [List.length_append, List.length_cons, List.length_take, List.length_drop, HRL.out]; have := HPL.out.1; omega
        unfold OwnR
        rw [hl]
        exact own_keepA HM.out.row (fun g hg => by have := hAg g hg; exact hlate g this.2 (by omega) (by omega))
      · intro r hr
        have hmem : r ∈ rs ∨ r = ⟨⟨x.off, x.body⟩, A7, c7⟩ := by
          rcases List.mem_append.1 hr with h | h
          · exact .inl (List.mem_of_mem_take h)
          · rcases List.mem_cons.1 h with h | h
            · exact .inr h
            · exact .inl (List.mem_of_mem_drop h)
        rcases hmem with h | rfl
        · exact ((HEL.out.data r h).keepH hkD).more (fun b hb => .inl hb)
        · exact (HM.out.data.keepH (w' := w40) (fun b hb => hlate b hb.2.1 (by omega) (by omega))).more (fun b hb => .inr ⟨by omega, by omega, hb.2.2⟩)
  · exact ⟨(((ho40.os.trans HH.out.gro.os).trans HT.out.2.os).trans HM.out.os).trans Z2.out.os, (((ho40.tape.trans HH.out.gro.tape).trans HT.out.2.tape).trans HM.out.tape).trans Z2.out.tape, (((ho40.output.trans HH.out.gro.output).trans HT.out.2.output).trans HM.out.output).trans Z2.out.output, by omega, fun b hb hne => hkeep b hb (fun e' => hne e'.symm)⟩
  · intro g hg hd
    rcases hd with hd | hd
    · rcases HM.out.at_ with h | h
      · exact hde g (by rw [← h]; exact hg) hd
      · have := h g hg; have := hDl g hd; omega
    · exact hd.2.2 hg
  · rcases HM.out.at_ with h | h
    · exact .inl h
    · exact .inr (fun g hg => by have := h g hg; omega)
end Go.Proofs.Ytmblkgnjcmneeaa

/- What package reasm's Take has in its hands between its calls. -/
namespace Go.Proofs.Ytmblkgnjcmneeaa
open Go.ChangeShapes Go.WideShapes Go.ChangeAt Go.RowKit
set_option linter.unusedVariables false
set_option linter.unusedSimpArgs false

/-- w: the world of the call; its boxes: the pool, the piece, two results. -/
structure TkS (w : World) (V : Nat → Prop) (base : Nat) (x : Pk) (Ao : Option Addr) (co : Nat) (Ab : Option Addr) (cb : Nat) (wx : World) (p : Po) (A : Option Addr) (c : Nat) (es : List El) (D : Nat → Prop) : Prop where
  b2 : Bxo wx w.heap.size 42 (poL p A c)
  b3 : Bxo wx (w.heap.size + 1) 25 (pkL x Ao co Ab cb)
  b4 : Bxo wx (w.heap.size + 2) 42 (poL po0 none 0)
  b5 : Bxo wx (w.heap.size + 3) 25 (pkL pk0 none 0 none 0)
  own : OwnPo wx base D A c es
  map : es.map El.b = p.list
  dv : ∀ b, D b → V b ∨ (base ≤ b ∧ b < wx.heap.size)
  vlt : ∀ b, V b → b < w.heap.size
  pk : PkAt wx V x Ao co Ab cb
  bel : Below w.heap.size w wx
  b0 : w.heap.size + 4 ≤ base
  b1 : base ≤ wx.heap.size
section
variable {w wx wy w5 w6 : World} {V D : Nat → Prop} {base c co cb : Nat} {x : Pk} {A Ao Ab : Option Addr} {p : Po} {es : List El}
theorem TkS.step (h : TkS w V base x Ao co Ab cb wx p A c es D) (y : Below wx.heap.size wx wy) : TkS w V base x Ao co Ab cb wy p A c es D := by
  have z := y.size
  have z0 := h.bel.size
  exact ⟨h.b2.keep y h.b2.lt, h.b3.keep y h.b3.lt, h.b4.keep y h.b4.lt, h.b5.keep y h.b5.lt, h.own.keepH z (fun b hb => y.block b (h.own.lt b hb)) (fun b _ hb => y.block b hb), h.map, fun b hb => (h.dv b hb).imp_right (fun k => ⟨k.1, by omega⟩), h.vlt, h.pk.at y, h.bel.trans (y.mono z0), h.b0, Nat.le_trans h.b1 z⟩
theorem TkS.po (h : TkS w V base x Ao co Ab cb wx p A c es D) : PoAt wx (fun b => V b ∨ (base ≤ b ∧ b < wx.heap.size)) p A c :=
  h.own.po h.dv (fun b h1 h2 => .inr ⟨h1, h2⟩) (fun b hb => hb.elim (fun k => by have := h.vlt b k; have := h.b0; have := h.b1; omega) (fun k => k.2)) p h.map
/-- behind the results' being stored. -/
theorem TkS.end (h : TkS w V base x Ao co Ab cb wx p A c es D) (h5 : Only (w.heap.size + 2) wx w5) (h6 : Only (w.heap.size + 3) w5 w6) : PoAt w6 (growV V w w6) p A c ∧ Below w.heap.size w w6 ∧ ∀ b, growV V w w6 b → b < w6.heap.size := by
  have s5 := h5.size
  have s6 := h6.size
  have z0 := h.bel.size
  have b0 := h.b0
  have b1 := h.b1
  have lt : ∀ b, growV V w w6 b → b < w6.heap.size := fun b hb => hb.elim (fun k => by have := h.vlt b k; omega) (fun k => k.2)
  have hh : ∀ b, b ≠ w.heap.size + 2 → b ≠ w.heap.size + 3 → w6.heap[b]? = wx.heap[b]? := fun b h1 h2 => (h6.block b h2).trans (h5.block b h1)
  have hO := h.own.keepH (w' := w6) (by omega) (fun b hb => hh b (by have := h.dv b hb; have := h.vlt b; rcases ‹V b ∨ _› with k | k; have := h.vlt b k; omega; omega) (by have := h.dv b hb; have := h.vlt b; rcases ‹V b ∨ _› with k | k; have := h.vlt b k; omega; omega)) (fun b h1 h2 => hh b (by omega) (by omega))
  refine ⟨hO.po (fun b hb => (h.dv b hb).imp_right (fun k => ⟨by omega, by omega⟩)) (fun b h1 h2 => .inr ⟨by omega, h2⟩) lt p h.map, (h.bel.trans ((h5.below (by omega)).mono (Nat.le_refl _))).trans (h6.below (by omega)), lt⟩
theorem TkS.el (h : TkS w V base x Ao co Ab cb wx p A c es D) {k : Nat} {e : El} (he : es[k]? = some e) : BfAt wx (fun b => D b ∨ blk e.Ar = some b) e.b e.Ao e.co e.Ab e.cb e.Ar e.cr := by
  have hm := List.mem_of_getElem? he
  obtain ⟨rs, hel⟩ := h.own.els e hm
  exact hel.bf (fun b hb => .inl hb) (fun g hg => .inr hg) (fun b hb => hb.elim (h.own.lt b) (h.own.rlt e hm b))
/-- the pool's row was worked on meanwhile. -/
theorem TkS.end2 {w7 : World} {gL : Nat} {es' : List El} {p' : Po} (h : TkS w V base x Ao co Ab cb wx p (some ⟨gL, 0, none⟩) c es D) (hg : Gro gL wx w7) (hO : OwnPo w7 base D (some ⟨gL, 0, none⟩) c es') (hm : es'.map El.b = p'.list) (h5 : Only (w.heap.size + 2) w7 w5) (h6 : Only (w.heap.size + 3) w5 w6) : PoAt w6 (growV V w w6) p' (some ⟨gL, 0, none⟩) c ∧ Below w.heap.size w w6 ∧ ∀ b, growV V w w6 b → b < w6.heap.size := by
  have s7 := hg.size
  have s5 := h5.size
  have s6 := h6.size
  have z0 := h.bel.size
  have b0 := h.b0
  have b1 := h.b1
  obtain ⟨gL', e1, hL1, hL2⟩ := (own_addr h.own.row).resolve_left (by rintro ⟨h, _⟩; cases h)
  injection e1 with e1
  injection e1 with e1
  subst e1
  have lt : ∀ b, growV V w w6 b → b < w6.heap.size := fun b hb => hb.elim (fun k => by have := h.vlt b k; omega) (fun k => k.2)
  have hh : ∀ b, b ≠ w.heap.size + 2 → b ≠ w.heap.size + 3 → w6.heap[b]? = w7.heap[b]? := fun b h1 h2 => (h6.block b h2).trans (h5.block b h1)
  have hd : ∀ b, D b → b ≠ w.heap.size + 2 ∧ b ≠ w.heap.size + 3 := fun b hb => (h.dv b hb).elim (fun k => by have := h.vlt b k; omega) (fun k => by omega)
  have hO6 := hO.keepH (w' := w6) (by omega) (fun b hb => hh b (hd b hb).1 (hd b hb).2) (fun b h1 h2 => hh b (by omega) (by omega))
  exact ⟨hO6.po (fun b hb => (h.dv b hb).imp_right (fun k => ⟨by omega, by omega⟩)) (fun b h1 h2 => .inr ⟨by omega, h2⟩) lt p' hm, ((h.bel.trans (hg.below (by omega) z0)).trans (h5.below (by omega))).trans (h6.below (by omega)), lt⟩
end
end Go.Proofs.Ytmblkgnjcmneeaa

/- The pool's row where a packet is put back in, where one is appended. -/
namespace Go.Proofs.Ytmblkgnjcmneeaa
open Go.ChangeShapes Go.WideShapes Go.ChangeAt Go.RowKit
set_option linter.unusedVariables false
set_option linter.unusedSimpArgs false

theorem get_set {α : Type} {es : List α} {e : α} {k : Nat} : ∀ j f, (es.set k e)[j]? = some f → (j = k ∧ f = e) ∨ (j ≠ k ∧ es[j]? = some f) := fun j f hj => by
  rw [List.getElem?_set] at hj
  split at hj
  · rename_i hjk
    first
      | (injection hj with hj; exact .inl ⟨hjk.symm, hj.symm⟩)
      | (split at hj
         · injection hj with hj; exact .inl ⟨hjk.symm, hj.symm⟩
         · cases hj)
  · rename_i hjk; exact .inr ⟨fun e => hjk e.symm, hj⟩
theorem OwnPo.apart {w : World} {base : Nat} {D : Nat → Prop} {A : Option Addr} {c : Nat} {es : List El} (h : OwnPo w base D A c es) {i j : Nat} {a b : El} (ha : es[i]? = some a) (hb : es[j]? = some b) (hne : i ≠ j) : ∀ g, blk a.Ar = some g → blk b.Ar ≠ some g := fun g h1 h2 => by
  have hd := List.pairwise_iff_getElem.1 h.dis
  obtain ⟨hi, rfl⟩ := List.getElem?_eq_some_iff.1 ha
  obtain ⟨hj, rfl⟩ := List.getElem?_eq_some_iff.1 hb
  rcases Nat.lt_or_gt_of_ne hne with hlt | hlt
  · exact hd i j hi hj hlt g h1 h2
  · exact hd j i hj hi hlt g h2 h1
/-- the packet at a place is another now. -/
theorem OwnPo.put {w w10 w11 : World} {base : Nat} {D D' : Nat → Prop} {gL c k : Nat} {es : List El} {e e' : El} {rs' : List Er} (h : OwnPo w base D (some ⟨gL, 0, none⟩) c es) (he : es[k]? = some e) (hel : ElAt w10 base D' e' rs') (hg : w.grownBy w10 (blk e.Ar)) (hDD : ∀ b, D b → D' b) (hDD2 : ∀ b, D' b → D b ∨ (w.heap.size ≤ b ∧ b < w10.heap.size)) (hde' : ∀ g, blk e'.Ar = some g → ¬ D' g) (hAr : blk e'.Ar = blk e.Ar ∨ ∀ g, blk e'.Ar = some g → w.heap.size ≤ g) (hrow : OwnB w11 base (some ⟨gL, 0, none⟩) c (es.set k e')) (ho : Only gL w10 w11) : OwnPo w11 base D' (some ⟨gL, 0, none⟩) c (es.set k e') := by
  obtain ⟨gL', e1, hL1, hL2⟩ := (own_addr h.row).resolve_left (by rintro ⟨h, _⟩; cases h)
  injection e1 with e1
  injection e1 with e1
  subst e1
  have s10 := hg.size
  have s11 := ho.size
  have hm := List.mem_of_getElem? he
  have hDne : ∀ b, D' b → b ≠ gL := fun b hb e => by
    rcases hDD2 b hb with h1 | h1
    · exact h.dl gL rfl (e ▸ h1)
    · omega
  have hArne : ∀ g, blk e'.Ar = some g → g ≠ gL := fun g hg' e2 => by
    rcases hAr with h1 | h1
    · exact (h.de e hm g (h1 ▸ hg')).2 (by rw [e2]; rfl)
    · have := h1 g hg'; omega
  have hold : ∀ b, b < w.heap.size → b ≠ gL → blk e.Ar ≠ some b → w11.heap[b]? = w.heap[b]? := fun b h1 h2 h3 => (ho.block b h2).trans (hg.block b h1 (fun e => h3 e.symm))
  have hDw : ∀ b, D b → w11.heap[b]? = w.heap[b]? := fun b hb => hold b (h.lt b hb) (fun e => h.dl gL rfl (e ▸ hb)) (fun e2 => (h.de e hm b e2).1 hb)
  have hoth : ∀ j f, j ≠ k → es[j]? = some f → ∀ g, blk f.Ar = some g → g < w.heap.size ∧ g ≠ gL ∧ blk e.Ar ≠ some g ∧ ¬ D g := fun j f hj hf g hg' =>
    ⟨h.rlt f (List.mem_of_getElem? hf) g hg', fun e2 => (h.de f (List.mem_of_getElem? hf) g hg').2 (by rw [e2]; rfl), h.apart hf he hj g hg', (h.de f (List.mem_of_getElem? hf) g hg').1⟩
  have hcase : ∀ f, f ∈ es.set k e' → f = e' ∨ ∃ j, j ≠ k ∧ es[j]? = some f := fun f hf => by
    obtain ⟨j, hj⟩ := List.getElem?_of_mem hf
    rcases get_set j f hj with ⟨_, h1⟩ | ⟨h1, h2⟩
    · exact .inl h1
    · exact .inr ⟨j, h1, h2⟩
  refine ⟨hrow, ?_, fun g hg' hd => ?_, ?_, ?_, fun b hb => ?_⟩
  · intro f hf
    rcases hcase f hf with rfl | ⟨j, hj, hf'⟩
    · exact ⟨rs', hel.keep (fun b hb => ho.block b (hDne b hb)) (fun g hg' => ho.block g (hArne g hg'))⟩
    · obtain ⟨rs, hr⟩ := h.els f (List.mem_of_getElem? hf')
      exact ⟨rs, (hr.keep hDw (fun g hg' => by obtain ⟨a, b, c, _⟩ := hoth j f hj hf' g hg'; exact hold g a b c)).more hDD (Nat.le_refl _)⟩
  · injection hg' with hg'
    exact hDne g hd hg'.symm
  · intro f hf g hg'
    rcases hcase f hf with rfl | ⟨j, hj, hf'⟩
    · exact ⟨hde' g hg', fun e2 => by injection e2 with e2; exact hArne g hg' e2.symm⟩
    · obtain ⟨a, b, c', d⟩ := hoth j f hj hf' g hg'
      refine ⟨fun hd => ?_, fun e2 => by injection e2 with e2; exact b e2.symm⟩
      rcases hDD2 g hd with h1 | h1
      · exact d h1
      · omega
  · rw [List.pairwise_iff_getElem]
    intro i j hi hj hij g hg' hg2
    rcases get_set i _ (List.getElem?_eq_getElem hi) with ⟨h1, h2⟩ | ⟨h1, h2⟩ <;> rcases get_set j _ (List.getElem?_eq_getElem hj) with ⟨h3, h4⟩ | ⟨h3, h4⟩
    · omega
    · rw [h2] at hg'
      obtain ⟨a, b, c', d⟩ := hoth j _ h3 h4 g hg2
      rcases hAr with h5 | h5
      · exact c' (h5 ▸ hg')
      · have := h5 g hg'; omega
    · rw [h4] at hg2
      obtain ⟨a, b, c', d⟩ := hoth i _ h1 h2 g hg'
      rcases hAr with h5 | h5
      · exact c' (h5 ▸ hg2)
      · have := h5 g hg2; omega
    · exact h.apart h2 h4 (by omega) g hg' hg2
  · rcases hDD2 b hb with h1 | h1
    · have := h.lt b h1; omega
    · omega
section
variable {w wx w10 w11 : World} {V D D' : Nat → Prop} {base c co cb gL k : Nat} {x : Pk} {Ao Ab : Option Addr} {p p' : Po} {es : List El} {e e' : El} {rs' : List Er}
theorem TkS.put (h : TkS w V base x Ao co Ab cb wx p (some ⟨gL, 0, none⟩) c es D) (he : es[k]? = some e) (hel : ElAt w10 base D' e' rs') (hg : wx.grownBy w10 (blk e.Ar)) (hDD : ∀ b, D b → D' b) (hDD2 : ∀ b, D' b → D b ∨ (wx.heap.size ≤ b ∧ b < w10.heap.size)) (hde' : ∀ g, blk e'.Ar = some g → ¬ D' g) (hAr : blk e'.Ar = blk e.Ar ∨ ∀ g, blk e'.Ar = some g → wx.heap.size ≤ g) (hrow : OwnB w11 base (some ⟨gL, 0, none⟩) c (es.set k e')) (ho : Only gL w10 w11)
    (hm : (es.set k e').map El.b = p'.list) (hr : p'.room = p.room) (hl : p'.life = p.life) (hn : p'.now = p.now) : TkS w V base x Ao co Ab cb w11 p' (some ⟨gL, 0, none⟩) c (es.set k e') D' := by
  have hO := h.own.put he hel hg hDD hDD2 hde' hAr hrow ho
  obtain ⟨gL', e1, hL1, hL2⟩ := (own_addr h.own.row).resolve_left (by rintro ⟨h, _⟩; cases h)
  injection e1 with e1
  injection e1 with e1
  subst e1
  have s10 := hg.size
  have s11 := ho.size
  have z0 := h.bel.size
  have b0 := h.b0
  have b1 := h.b1
  have hme := List.mem_of_getElem? he
  have hArb : ∀ g, blk e.Ar = some g → base ≤ g := fun g hg' => by
    obtain ⟨rs, hr⟩ := h.own.els e hme
    rcases own_addr hr.row with ⟨hn', _⟩ | ⟨g2, hg2, h1, h2⟩
    · rw [hn'] at hg'; cases hg'
    · rw [hg2] at hg'; injection hg' with hg'; have hg' : g2 = g := hg'; omega
  have hold : ∀ b, b < base → w11.heap[b]? = wx.heap[b]? := fun b hb => (ho.block b (by omega)).trans (hg.block b (by omega) (fun e2 => by have := hArb b e2.symm; omega))
  have hlen : p'.list.length = p.list.length := by rw [← hm, List.length_map, List.length_set, ← h.map, List.length_map]
  have hb2 : poL p' (some ⟨gL, 0, none⟩) c = poL p (some ⟨gL, 0, none⟩) c := by
    show [_, _, _, _] = [_, _, _, _]
    rw [hr, hl, hn, hlen]
  exact ⟨(hold _ (by omega)).trans (by rw [hb2]; exact h.b2), (hold _ (by omega)).trans h.b3, (hold _ (by omega)).trans h.b4, (hold _ (by omega)).trans h.b5, hO, hm, fun b hb => by
      rcases hDD2 b hb with h1 | h1
      · exact (h.dv b h1).imp_right (fun k => ⟨k.1, by omega⟩)
      · exact .inr ⟨by omega, by omega⟩, h.vlt, ⟨h.pk.s0, h.pk.s1, h.pk.d0, h.pk.d1, h.pk.o.keepH (fun b hb => hold b (by have := h.vlt b hb; omega)), h.pk.b.keepH (fun b hb => hold b (by have := h.vlt b hb; omega)), fun b hb => by have := h.pk.lt b hb; omega⟩,
      ⟨ho.os.trans (hg.os.trans h.bel.os), ho.tape.trans (hg.tape.trans h.bel.tape), ho.output.trans (hg.output.trans h.bel.output), by omega, fun b hb => (hold b (by omega)).trans (h.bel.block b hb)⟩, b0, by omega⟩
end
end Go.Proofs.Ytmblkgnjcmneeaa

/- The end of package reasm's Take. -/
namespace Go.Proofs.Ytmblkgnjcmneeaa
open Go.ChangeShapes Go.WideShapes Go.ChangeAt Go.RowKit
set_option linter.unusedVariables false
set_option linter.unusedSimpArgs false

theorem with_map {p : Po} (h : RightP p) {x : Pk} {es : List El} {k : Nat} (hmap : es.map El.b = p.list) (hkf : findB p.list (nmX x) = k) (hkl : k < p.list.length) {e' : El} (he' : e'.b = joinB (ownP p x) x) : (es.set k e').map El.b = (withP p x).list := by
  subst hkf
  rw [with_there h hkl, List.map_set, hmap, he', (find_some hkl).2.2]
theorem OwnB.cur {w : World} {base gL c k : Nat} {es : List El} (h : OwnB w base (some ⟨gL, 0, none⟩) c es) (hk : k < es.length) (e' : El) : ∃ cur, Bxo w gL 67 cur ∧ k * 19 + 19 ≤ cur.length ∧ ∀ w', Bxo w' gL 67 (spl cur (k * 19) e'.L) → OwnB w' base (some ⟨gL, 0, none⟩) c (es.set k e') := by
  obtain ⟨cur, a1, a2, a3, a4, a5, a6, a7⟩ := own_open h
  refine ⟨cur, a1, by omega, fun w' hb => ?_⟩
  have := own_spl h a1 (vs := e'.L) (o := k * 19) (by show k * 19 + 19 ≤ es.length * 19; omega) hb
  rw [spl_flat El.L 19 El.len es k e' hk] at this
  unfold OwnB
  rw [List.length_set]
  exact this
theorem ctakeOutE (p : Po) (gL c k : Nat) (es : List El) (base : Nat) (D : Nat → Prop) (w : World) (e : El) (he : es[k]? = some e) (hO : OwnPo w base D (some ⟨gL, 0, none⟩) c es) (hp : es.map El.b = p.list) (hn : es.length ≤ 16777216) (hbase : base ≤ w.heap.size)
    (hR : RunsOk e.b.total 0 e.b.runs) (ht1 : e.b.total ≤ 65535) (ho : e.b.head.opts.length ≤ 40) (t : Tk) (htk : tkO p k e.b = t) :
    Calls Try.prog 38 #[poV p (some ⟨gL, 0, none⟩) c, .int .i64 k] w fun z w' => ∃ A' c' Ao co Ab cb, z = .returned (.tuple #[poV t.pool A' c', ipV t.out Ao co Ab cb, .bool t.ok, .int .i64 t.err]) ∧ OutAt w' base D t A' c' Ao co Ab cb ∧ Below base w w' := by
  obtain ⟨hk, rfl⟩ := List.getElem?_eq_some_iff.1 he
  exact ctakeOut p gL c k es base D w hO hp hk hn hbase hR ht1 ho t htk
section
variable {w wx w7 w5 w6 : World} {V D : Nat → Prop} {base c co cb c' co' cb' : Nat} {x : Pk} {A Ao Ab A' Ao' Ab' : Option Addr} {p : Po} {es : List El} {t : Tk}
theorem TkS.out (h : TkS w V base x Ao co Ab cb wx p A c es D) (ho : OutAt w7 base D t A' c' Ao' co' Ab' cb') (y : Below base wx w7) (h5 : Only (w.heap.size + 2) w7 w5) (h6 : Only (w.heap.size + 3) w5 w6) : PoAt w6 (growV V w w6) t.pool A' c' ∧ PkAt w6 (growV V w w6) t.out Ao' co' Ab' cb' ∧ Below w.heap.size w w6 := by
  have s7 := y.size
  have s5 := h5.size
  have s6 := h6.size
  have z0 := h.bel.size
  have b0 := h.b0
  have b1 := h.b1
  have lt : ∀ b, growV V w w6 b → b < w6.heap.size := fun b hb => hb.elim (fun k => by have := h.vlt b k; omega) (fun k => k.2)
  have hU : ∀ b, (D b ∨ (base ≤ b ∧ b < w7.heap.size)) → growV V w w6 b ∧ b ≠ w.heap.size + 2 ∧ b ≠ w.heap.size + 3 := fun b hb => by
    rcases hb with k | k
    · rcases h.dv b k with k2 | k2
      · have := h.vlt b k2; exact ⟨.inl k2, by omega, by omega⟩
      · exact ⟨.inr ⟨by omega, by omega⟩, by omega, by omega⟩
    · exact ⟨.inr ⟨by omega, by omega⟩, by omega, by omega⟩
  have hh : ∀ b, (D b ∨ (base ≤ b ∧ b < w7.heap.size)) → w6.heap[b]? = w7.heap[b]? := fun b hb => (h6.block b (hU b hb).2.2).trans (h5.block b (hU b hb).2.1)
  have kv : KeepV (fun b => D b ∨ (base ≤ b ∧ b < w7.heap.size)) w7 w6 := fun q hq => World.cell?_of_block (hh _ hq)
  obtain ⟨hp, hk⟩ := ho
  refine ⟨⟨(hp.is.keep kv).more (fun b hb => (hU b hb).1), lt⟩, ⟨hk.s0, hk.s1, hk.d0, hk.d1, (hk.o.keepH hh).more (fun b hb => (hU b hb).1), (hk.b.keepH hh).more (fun b hb => (hU b hb).1), lt⟩, ((h.bel.trans (y.mono (by omega))).trans (h5.below (by omega))).trans (h6.below (by omega))⟩
end
/-- ahead of Take's end: the document's answer is the code's. -/
theorem take_code {p : Po} (h : RightP p) {x : Pk} (hm : May x) (hl : x.body.length ≠ 0) (hp : ¬ (x.mf = false ∧ x.off = 0)) (k : ¬ (rightP p = false ∨ mayB x = false ∨ x.body.length = 0)) (hc : clashB (ownP p x) x = false) (hf : ¬ ((thereP p x = false ∧ 64 ≤ p.list.length) ∨ p.room < (heldP p : Int) + (x.body.length : Int))) : takeP p x = tkO (withP p x) (findB p.list (nmX x)) (joinB (ownP p x) x) := by
  rw [take_rest hp k hc hf, take_end h hm (by omega) hc]
end Go.Proofs.Ytmblkgnjcmneeaa

/- The pool's row where a packet is begun. -/
namespace Go.Proofs.Ytmblkgnjcmneeaa
open Go.ChangeShapes Go.WideShapes Go.ChangeAt Go.RowKit
set_option linter.unusedVariables false
set_option linter.unusedSimpArgs false

theorem step_append_own {P : Program} {op : Oper} {a : Act} {w : World} {K : Act → World → Prop} {Q : Exit → Act → World → Prop} (s x : Operand) (t : TypeId)
    (ho : op.op = .call { callee := .builtin .append, args := #[s, x], argTypes := #[t, t] })
    (base : Nat) (e : TypeId) (i : TypeInfo) (z : Value) (k bytes : Nat) (ht : P.underlying t = some (.slice e)) (hi : P.info? e = some i) (hz : i.zero = some z)
    (hsize : i.size = k) (hby : i.bytes = bytes) (hzs : z.cells.size = k) (hk : 0 < k)
    (v : Value) (n : Nat) (xs : List Value) (hs : a.eval s = v) (hown : w.ownsRow base e k v n xs)
    (ad : Addr) (m c : Nat) (news : List Value) (hx : a.eval x = .slice (some ad) m c) (hl : news.length = m * k) (hnews : ∀ j u, news[j]? = some u → w.cell? (ad.add j) = some u) (h1 : ∀ u ∈ news, u.oneCell' = true)
    (h63 : n + m ≤ maxLen) (hbytes : (n + m) * bytes ≤ 140737488355328) (hbase : base ≤ w.heap.size)
    (h : ∀ v' w', w'.ownsRow base e k v' (n + m) (xs ++ news) → w.grownBy w' v.ownBlock → (v'.ownBlock = v.ownBlock ∨ v'.ownBlock = some w.heap.size) → K (a.put op.dst v') w') : op.wp P a w K Q := by
  obtain ⟨v', w', hr, h2, h3, h4, h5⟩ := run_append_own_at (P := P) w base t op.type e i z k bytes ht hi hz hsize hby hzs hk v n xs hown ad m c news hl hnews h1 h63 hbytes hbase
  unfold Oper.wp execOp
  simp only [ho, resolve, invoke, builtin, Sem.run_bind, Sem.run_pure, Result.andThen_ok, List.map_toArray, List.map_cons, List.map_nil, hs, hx, hr]
  exact h v' w' h2 h3 h5
theorem PkAt.keepB2 {w w' : World} {V : Nat → Prop} {x : Pk} {A : Option Addr} {c : Nat} {A' : Option Addr} {c' : Nat} (h : PkAt w V x A c A' c') (hk : ∀ b, V b → w'.heap[b]? = w.heap[b]?) (hs : w.heap.size ≤ w'.heap.size) : PkAt w' V x A c A' c' :=
  ⟨h.s0, h.s1, h.d0, h.d1, h.o.keepH hk, h.b.keepH hk, fun b hb => Nat.lt_of_lt_of_le (h.lt b hb) hs⟩
abbrev begE (p : Po) (x : Pk) : El := ⟨newB p x, none, 0, none, 0, none, 0⟩
abbrev begP (p : Po) (x : Pk) : Po := ⟨p.room, p.life, p.now, p.list ++ [newB p x]⟩
section
variable {w wx w12 w13 : World} {V D : Nat → Prop} {base c co cb c' : Nat} {x : Pk} {A A' Ao Ab : Option Addr} {p : Po} {es : List El}
theorem TkS.push (h : TkS w V base x Ao co Ab cb wx p A c es D) (hrow : w12.ownsRow base 67 19 (.slice A' (es.length + 1) c') (es.length + 1) (es.flatMap El.L ++ (begE p x).L)) (hg : wx.grownBy w12 (blk A)) (hat : blk A' = blk A ∨ blk A' = some wx.heap.size) (ho : Only w.heap.size w12 w13) (hb : Bxo w13 w.heap.size 42 (poL (begP p x) A' c')) : TkS w V base x Ao co Ab cb w13 (begP p x) A' c' (es ++ [begE p x]) D := by
  have s12 := hg.size
  have s13 := ho.size
  have z0 := h.bel.size
  have b0 := h.b0
  have b1 := h.b1
  have hAg : ∀ g, blk A = some g → base ≤ g ∧ g < wx.heap.size := fun g hg' => by
    rcases own_addr h.own.row with ⟨hn', _⟩ | ⟨g2, hg2, h1, h2⟩
    · rw [hn'] at hg'; cases hg'
    · rw [hg2] at hg'; injection hg' with hg'; have hg' : g2 = g := hg'; omega
  have hA'g : ∀ g, blk A' = some g → base ≤ g := fun g hg' => by
    rcases hat with h1 | h1
    · exact (hAg g (h1 ▸ hg')).1
    · rw [h1] at hg'; injection hg' with hg'; omega
  have hold : ∀ b, b < wx.heap.size → b ≠ w.heap.size → blk A ≠ some b → w13.heap[b]? = wx.heap[b]? := fun b h1 h2 h3 => (ho.block b h2).trans (hg.block b h1 (fun e => h3 e.symm))
  have hlow : ∀ b, b < base → b ≠ w.heap.size → w13.heap[b]? = wx.heap[b]? := fun b h1 h2 => hold b (by omega) h2 (fun e => by have := hAg b e; omega)
  have hDs : ∀ b, D b → b ≠ w.heap.size := fun b hb => (h.dv b hb).elim (fun k => by have := h.vlt b k; omega) (fun k => by omega)
  have hDw : ∀ b, D b → w13.heap[b]? = wx.heap[b]? := fun b hb => hold b (h.own.lt b hb) (hDs b hb) (fun e => h.own.dl b e hb)
  have hAr : ∀ e ∈ es, ∀ g, blk e.Ar = some g → base ≤ g := fun e he g hg' => by
    obtain ⟨rs, hr⟩ := h.own.els e he
    rcases own_addr hr.row with ⟨hn', _⟩ | ⟨g2, hg2, h1, h2⟩
    · rw [hn'] at hg'; cases hg'
    · rw [hg2] at hg'; injection hg' with hg'; have hg' : g2 = g := hg'; omega
  have hO : OwnPo w13 base D A' c' (es ++ [begE p x]) := by
    refine ⟨?_, ?_, ?_, ?_, ?_, fun b hb => by have := h.own.lt b hb; omega⟩
    · have h2 := own_keepA hrow (w' := w13) (fun g hg' => ho.block g (by have := hA'g g hg'; omega))
      unfold OwnB
      rw [List.length_append, List.flatMap_append]
      simpa using h2
    · intro e he
      rcases List.mem_append.1 he with he | he
      · obtain ⟨rs, hr⟩ := h.own.els e he
        exact ⟨rs, hr.keep hDw (fun g hg' => hold g (h.own.rlt e he g hg') (by have := hAr e he g hg'; omega) (h.own.de e he g hg').2)⟩
      · obtain rfl := List.mem_singleton.1 he
        exact ⟨[], h.pk.s0, h.pk.s1, h.pk.d0, h.pk.d1, (by show (0 : Int) ≤ 0; omega), (by show (0 : Int) ≤ 4294967295; omega), (by show (0 : Int) ≤ 0; omega), (by show (0 : Int) ≤ 4294967295; omega), ⟨Nat.zero_le _, Nat.zero_le _, fun _ => rfl, .inl rfl⟩, ⟨Nat.zero_le _, Nat.zero_le _, fun _ => rfl, .inl rfl⟩, rfl, own_none _ _ _ _, fun r hr => by cases hr⟩
    · intro g hg' hd
      rcases hat with h1 | h1
      · exact h.own.dl g (h1 ▸ hg') hd
      · rw [h1] at hg'; injection hg' with hg'; have := h.own.lt g hd; omega
    · intro e he g hg'
      rcases List.mem_append.1 he with he | he
      · refine ⟨(h.own.de e he g hg').1, fun e2 => ?_⟩
        rcases hat with h1 | h1
        · exact (h.own.de e he g hg').2 (h1 ▸ e2)
        · rw [h1] at e2; injection e2 with e2; have := h.own.rlt e he g hg'; omega
      · obtain rfl := List.mem_singleton.1 he
        cases hg'
    · rw [List.pairwise_append]
      refine ⟨h.own.dis, List.pairwise_singleton _ _, fun a ha b hb g h1 h2 => ?_⟩
      obtain rfl := List.mem_singleton.1 hb
      cases h2
  refine ⟨hb, (hlow _ (by omega) (by omega)).trans h.b3, (hlow _ (by omega) (by omega)).trans h.b4, (hlow _ (by omega) (by omega)).trans h.b5, hO, ?_, fun b hb => (h.dv b hb).imp_right (fun k => ⟨k.1, by omega⟩), h.vlt, ?_, ?_, b0, by omega⟩
  · show (es ++ [begE p x]).map El.b = p.list ++ [newB p x]
    rw [List.map_append, h.map]; rfl
  · exact h.pk.keepB2 (fun b hb => hlow b (by have := h.vlt b hb; omega) (by have := h.vlt b hb; omega)) (by omega)
  · exact ⟨ho.os.trans (hg.os.trans h.bel.os), ho.tape.trans (hg.tape.trans h.bel.tape), ho.output.trans (hg.output.trans h.bel.output), by omega, fun b hb => (hlow b (by omega) (by omega)).trans (h.bel.block b hb)⟩
end
theorem with_map_new {p : Po} {x : Pk} {es : List El} {k : Nat} (hmap : es.map El.b = p.list) (hkf : findB p.list (nmX x) = k) (hkl : ¬ k < p.list.length) {e' : El} (he' : e'.b = joinB (newB p x) x) : ((es ++ [begE p x]).set k e').map El.b = (withP p x).list := by
  subst hkf
  obtain ⟨a, b, c, d⟩ := find_no hkl
  rw [with_new hkl, List.map_set, List.map_append, hmap, he', c]
  simp
end Go.Proofs.Ytmblkgnjcmneeaa

/- Steps whose new block has a name: an alloc, a row of eight zero bytes; what stays behind a store into a block of its own. -/
namespace Go.Proofs.Ytmblkgnjcmneeaa
open Go.ChangeShapes Go.WideShapes Go.ChangeAt Go.RowKit
set_option linter.unusedVariables false
set_option linter.unusedSimpArgs false

theorem info_zpo : (Try.prog.info? 42).map (·.zero) = some (some (.agg #[.int .i64 0, .int .i64 0, .int .i64 0, .slice none 0 0])) := by kernel_rfl
theorem info_zpk : (Try.prog.info? 25).map (·.zero) = some (some (.agg #[.int .i64 0, .int .i64 0, .bool false, .bool false, .int .i64 0, .int .i64 0, .int .i64 0, .int .u32 0, .int .u32 0, .slice none 0 0, .slice none 0 0])) := by kernel_rfl
theorem zero_of {P : Program} {ty : TypeId} {z : Value} (h : (P.info? ty).map (·.zero) = some (some z)) (w : World) : (zeroValue ty).run P w = .ok z w := by
  obtain ⟨i, hi, hz⟩ := Option.map_eq_some_iff.1 h
  simp [zeroValue, typeInfo, hi, hz]
theorem step_alloc {P : Program} {op : Oper} {a : Act} {w : World} {K : Act → World → Prop} {Q : Exit → Act → World → Prop} (ty : TypeId) (ho : op.op = .alloc ty) (z : List Value) (hz : (P.info? ty).map (·.zero) = some (some (.agg z.toArray)))
    (h : ∀ g w', (g ≤ w.heap.size ∧ w.heap.size ≤ g) → Bxo w' g ty z → Below w.heap.size w w' → (w'.heap.size ≤ w.heap.size + 1 ∧ w.heap.size + 1 ≤ w'.heap.size) → K (a.put op.dst (.pointer (some ⟨g, 0, none⟩))) w') : op.wp P a w K Q := by
  have hr : (Instr.alloc ty true (.tuple #[])).run P w = .ok (.pointer (some ⟨w.heap.size, 0, none⟩)) (w.alloc (.cells z.toArray ty)) := by
    simp [Instr.alloc, zero_of hz, newVar, newRow, Value.cells]
  unfold Oper.wp execOp
  simp only [ho, Sem.run_bind, Sem.run_pure, Result.andThen_ok, hr]
  exact h _ _ ⟨Nat.le_refl _, Nat.le_refl _⟩ (Bxo.made w ty z) ((Below.refl _ _).alloc (Nat.le_refl _) _) (by simp)
theorem step_make8 {P : Program} {op : Oper} {a : Act} {w : World} {K : Act → World → Prop} {Q : Exit → Act → World → Prop} (t e : TypeId) (x y : Operand) (ho : op.op = .makeSlice t x y) (hx : a.eval x = .int .i64 8) (hy : a.eval y = .int .i64 8)
    (ht : P.underlying t = some (.slice e)) (hz : (P.info? e).map (fun i => (i.zero, i.size, i.bytes)) = some (some (.int .u8 0), 1, 1))
    (h : ∀ g w', (g ≤ w.heap.size ∧ w.heap.size ≤ g) → Bxo w' g e [.int .u8 0, .int .u8 0, .int .u8 0, .int .u8 0, .int .u8 0, .int .u8 0, .int .u8 0, .int .u8 0] → Below w.heap.size w w' → (w'.heap.size ≤ w.heap.size + 1 ∧ w.heap.size + 1 ≤ w'.heap.size) → K (a.put op.dst (.slice (some ⟨g, 0, none⟩) 8 8)) w') : op.wp P a w K Q := by
  obtain ⟨i0, hi, hz0, hz1, hz2⟩ := info_parts hz
  have hr := run_make (P := P) w t e i0 _ ht hi hz0 .i64 .i64 8 8 (by omega) (by omega) (by rw [hz2]; decide) (by omega)
  unfold Oper.wp execOp
  simp only [ho, hx, hy, Sem.run_bind, Sem.run_pure, Result.andThen_ok, hr]
  refine h _ _ ⟨Nat.le_refl _, Nat.le_refl _⟩ ?_ ((Below.refl _ _).alloc (Nat.le_refl _) _) (by simp)
  have hm : madeCells (Value.int .u8 0).cells (Int.toNat 8 * i0.size) = #[.int .u8 0, .int .u8 0, .int .u8 0, .int .u8 0, .int .u8 0, .int .u8 0, .int .u8 0, .int .u8 0] := by rw [hz1]; first | kernel_rfl | (simp [madeCells, Value.cells, Array.range, Array.ofFn, List.range]; done) | (apply Array.ext (by simp [madeCells]); intro i h1 h2; simp [madeCells, Value.cells]; omega)
  rw [hm]
  exact Bxo.made w e _
section
variable {w w' : World} {V : Nat → Prop} {p : Po} {A Ao Ab : Option Addr} {c co cb g : Nat} {x : Pk}
theorem KeepV.only (ho : Only g w w') (hn : ¬ V g) : KeepV V w w' := fun q hq => World.cell?_of_block (ho.block _ (fun e => hn (e ▸ hq)))
theorem PoAt.only (h : PoAt w V p A c) (ho : Only g w w') (hn : ¬ V g) : PoAt w' V p A c := ⟨h.is.keep (KeepV.only ho hn), fun b hb => by have := h.lt b hb; have := ho.size; omega⟩
theorem PkAt.only (h : PkAt w V x Ao co Ab cb) (ho : Only g w w') (hn : ¬ V g) : PkAt w' V x Ao co Ab cb := ⟨h.s0, h.s1, h.d0, h.d1, h.o.keep (KeepV.only ho hn), h.b.keep (KeepV.only ho hn), fun b hb => by have := h.lt b hb; have := ho.size; omega⟩
end
/-- behind 'n, x, ok, e := Take(..)': both results in boxes of their own. -/
structure TkD (W : World) (U : Nat → Prop) (t : Tk) (g9 g10 : Nat) (A : Option Addr) (c : Nat) (Ao : Option Addr) (co : Nat) (Ab : Option Addr) (cb : Nat) (U' : Nat → Prop) (Y : World) : Prop where
  bel : Below W.heap.size W Y
  b9 : Bxo Y g9 42 (poL t.pool A c)
  b10 : Bxo Y g10 25 (pkL t.out Ao co Ab cb)
  po : PoAt Y U' t.pool A c
  pk : PkAt Y U' t.out Ao co Ab cb
  l9 : W.heap.size ≤ g9
  l10 : W.heap.size ≤ g10
  ne : g9 ≠ g10
  n9 : ¬ U' g9
  n10 : ¬ U' g10
  up : ∀ b, U' b → U b ∨ W.heap.size ≤ b
theorem TkD.drew {W : World} {U : Nat → Prop} {t : Tk} {g9 g10 : Nat} {A : Option Addr} {c : Nat} {Ao : Option Addr} {co : Nat} {Ab : Option Addr} {cb : Nat} {U' : Nat → Prop} {Y : World} (h : TkD W U t g9 g10 A c Ao co Ab cb U' Y) : TkD W U t g9 g10 A c Ao co Ab cb U' Y.drew :=
  ⟨below_drew h.bel, h.b9, h.b10, h.po.at (below_drew (Below.refl _ _)), h.pk.at (below_drew (Below.refl _ _)), h.l9, h.l10, h.ne, h.n9, h.n10, h.up⟩
end Go.Proofs.Ytmblkgnjcmneeaa

/- A piece of a packet that is taken: plain mathematics. -/
namespace Go.Proofs.Ytmblkgnjcmneeaa
open Go.RowKit
set_option linter.unusedVariables false

/-- a packet that was cut into these pieces. -/
structure WholeP (room : Int) (x : Pk) (M : Mk) : Prop where
  may : May x
  off0 : x.off = 0
  mf0 : x.mf = false
  seq : SeqR 0 (allR M)
  data : dataR (allR M) = x.body
  o8 : ∀ r ∈ allR M, r.off % 8 = 0
  l8 : ∀ i r, M[i]? = some (r, false) → i + 1 < M.length → r.data.length % 8 = 0
  two : 2 ≤ M.length
  small : (x.body.length : Int) ≤ room
def pieceW (x : Pk) (r : Rn) (more : Bool) : Pk := ⟨x.tos, x.id, x.df, more, r.off, x.ttl, x.proto, x.src, x.dst, x.opts, r.data⟩
def headW (x : Pk) : Pk := ⟨x.tos, x.id, x.df, false, 0, x.ttl, x.proto, x.src, x.dst, x.opts, []⟩
def bufW (x : Pk) (M : Mk) : Bf := ⟨x.src, x.dst, x.id, x.proto, 0, if firstT M then headW x else Pk.empty, firstT M, if lastT M then (heldR (allR M) : Int) else -1, tkR M⟩
def poolW (room : Int) (x : Pk) (M : Mk) : Po := ⟨room, 10, 0, if (tkR M).isEmpty then [] else [bufW x M]⟩
theorem all_last : ∀ (M : Mk), M ≠ [] → allT M = true → lastT M = true ∧ firstT M = true
  | [], h, _ => absurd rfl h
  | [a], _, h => by have : a.2 = true := by simpa [allT] using h
                    exact ⟨this, this⟩
  | a :: b :: t, _, h => by
    have h' : a.2 = true ∧ allT (b :: t) = true := by simpa [allT] using h
    exact ⟨(all_last (b :: t) (by simp) h'.2).1, h'.1⟩
theorem set_length (M : Mk) (i : Nat) (r : Rn) : (setM M i r).length = M.length := by simp [setM]
section
variable {room : Int} {x : Pk} {M : Mk} {i : Nat} {r : Rn}
theorem WholeP.held (W : WholeP room x M) : heldR (allR M) = x.body.length := by rw [← dataR_length, W.data]
theorem WholeP.next (W : WholeP room x M) (h : M[i]? = some (r, false)) : WholeP room x (setM M i r) := by
  have e := set_all M i r h
  refine ⟨W.may, W.off0, W.mf0, by rw [e]; exact W.seq, by rw [e]; exact W.data, by rw [e]; exact W.o8, fun j s hj hl => ?_, by rw [set_length]; exact W.two, W.small⟩
  unfold setM at hj
  rw [set_length] at hl
  by_cases hij : i = j
  · subst hij
    rw [List.getElem?_set_self (by have := (List.getElem?_eq_some_iff.1 h).1; exact this)] at hj
    simp at hj
  · rw [List.getElem?_set_ne hij] at hj
    exact W.l8 j s hj hl
theorem WholeP.may_piece (W : WholeP room x M) (h : M[i]? = some (r, false)) : May (pieceW x r (decide (i + 1 < M.length))) ∧ 0 < r.data.length ∧ stopR r ≤ (x.body.length : Int) := by
  obtain ⟨g1, g2, g3⟩ := seq_mem _ _ W.seq r (at_all M i r h)
  have hm := W.may
  have hs := W.small
  have hfit := hm.fit
  rw [W.off0] at hfit
  rw [W.held] at g3
  have g3' : r.off + (r.data.length : Int) ≤ (x.body.length : Int) := by unfold stopR at g3; omega
  have p40 := hm.p40
  refine ⟨⟨hm.t0, hm.t1, hm.l0, hm.l1, hm.r0, hm.r1, hm.i0, hm.i1, g1, ?_, W.o8 r (at_all M i r h), hm.p40, hm.p4, ?_, ?_⟩, g2, by unfold stopR; omega⟩
  · show r.off ≤ 65528; omega
  · show 20 + (x.opts.length : Int) + r.off + (r.data.length : Int) ≤ 65535; omega
  · intro hmf
    have : i + 1 < M.length := by simpa [pieceW] using hmf
    exact ⟨g2, W.l8 i r h this⟩
theorem one_buf (x : Pk) (M : Mk) (r : Rn) (b : Bool) : oneN (bufW x M) (pieceW x r b) = true := (oneN_iff _ _).2 rfl
theorem own_w (room : Int) (x : Pk) (M : Mk) (r : Rn) (b : Bool) : ownP (poolW room x M) (pieceW x r b) = bufW x M ∧ thereP (poolW room x M) (pieceW x r b) = !(tkR M).isEmpty := by
  unfold ownP thereP poolW
  dsimp only
  cases hc : tkR M with
  | nil =>
    obtain ⟨h1, h2⟩ := tk_nil M hc
    refine ⟨?_, rfl⟩
    show newB _ _ = bufW x M
    unfold newB bufW
    rw [h1, h2, hc]
    rfl
  | cons c s =>
    have e : List.find? (fun a => oneN a (pieceW x r b)) [bufW x M] = some (bufW x M) := by
      rw [List.find?_cons_of_pos (p := fun a => oneN a (pieceW x r b)) (one_buf x M r b)]
    show (List.find? _ [bufW x M]).getD _ = _ ∧ (List.find? _ [bufW x M]).isSome = _
    rw [e]
    exact ⟨rfl, rfl⟩
theorem WholeP.clash (W : WholeP room x M) (h : M[i]? = some (r, false)) : clashB (bufW x M) (pieceW x r (decide (i + 1 < M.length))) = false := by
  have hst := seq_mem _ _ W.seq
  have hap := apart M i r 0 W.seq h
  unfold clashB
  rw [Bool.or_eq_false_iff]
  constructor
  · show (decide (0 < (if lastT M then (heldR (allR M) : Int) else -1)) && (!(decide (i + 1 < M.length)) || decide ((if lastT M then (heldR (allR M) : Int) else -1) < r.off + (r.data.length : Int)))) = false
    cases hl : lastT M with
    | false => rfl
    | true =>
      have h1 := last_not M i r h hl
      have h2 := (hst r (at_all M i r h)).2.2
      unfold stopR at h2
      rw [decide_eq_true h1]
      have : ¬ ((heldR (allR M) : Int) < r.off + (r.data.length : Int)) := by omega
      simp [this]
  · rw [List.any_eq_false]
    intro c hc
    have hc' : c ∈ tkR M := hc
    have h3 := hst c (tk_all M c hc')
    show ¬ ((decide (c.off < r.off + (r.data.length : Int)) && decide (r.off < stopR c)) || (!(decide (i + 1 < M.length)) && decide (r.off + (r.data.length : Int) < stopR c))) = true
    simp only [Bool.or_eq_true, Bool.and_eq_true, decide_eq_true_eq, Bool.not_eq_true', decide_eq_false_iff_not, not_or, not_and]
    refine ⟨fun h1 h2 => ?_, fun h1 => ?_⟩
    · rcases hap c hc' with h4 | h4
      · omega
      · unfold stopR at h4; omega
    · have hl : i + 1 = M.length := by have := (List.getElem?_eq_some_iff.1 h).1; omega
      have := stop_last M i r 0 W.seq h hl
      unfold stopR at this h3 ⊢
      omega
theorem WholeP.join (W : WholeP room x M) (h : M[i]? = some (r, false)) : joinB (bufW x M) (pieceW x r (decide (i + 1 < M.length))) = bufW x (setM M i r) := by
  have e1 : insR (tkR M) ⟨r.off, r.data⟩ = tkR (setM M i r) := ins_set M i r 0 W.seq h
  have e2 := last_set M i r h
  have e3 := (first_set M i r W.seq h).1
  have e4 := set_all M i r h
  have hlt := (List.getElem?_eq_some_iff.1 h).1
  have e5 : (if (decide (i + 1 < M.length)) = true then (if lastT M then (heldR (allR M) : Int) else -1) else r.off + (r.data.length : Int)) = (if lastT (setM M i r) then (heldR (allR M) : Int) else -1) := by
    rw [e2]
    by_cases hl : i + 1 = M.length
    · have := stop_last M i r 0 W.seq h hl
      unfold stopR at this
      rw [if_neg (by simp; omega), decide_eq_true hl, Bool.or_true, if_pos rfl]
      omega
    · rw [if_pos (by simp; omega), decide_eq_false hl, Bool.or_false]
  have e6 : (if r.off = 0 then (⟨x.tos, x.id, x.df, false, r.off, x.ttl, x.proto, x.src, x.dst, x.opts, []⟩ : Pk) else (if firstT M then headW x else Pk.empty)) = (if firstT (setM M i r) then headW x else Pk.empty) := by
    rw [e3]
    by_cases h0 : r.off = 0
    · rw [if_pos h0, h0]
      simp [headW]
    · rw [if_neg h0]
      have : (r.off == 0) = false := by simpa using h0
      rw [this, Bool.or_false]
  have hb : joinB (bufW x M) (pieceW x r (decide (i + 1 < M.length))) = ⟨x.src, x.dst, x.id, x.proto, 0, (if r.off = 0 then (⟨x.tos, x.id, x.df, false, r.off, x.ttl, x.proto, x.src, x.dst, x.opts, []⟩ : Pk) else (if firstT M then headW x else Pk.empty)), firstT M || r.off == 0, (if (decide (i + 1 < M.length)) = true then (if lastT M then (heldR (allR M) : Int) else -1) else r.off + (r.data.length : Int)), insR (tkR M) ⟨r.off, r.data⟩⟩ := rfl
  rw [hb, e1, e5, e6, ← e3]
  unfold bufW
  rw [e4]
theorem poolW_held (room : Int) (x : Pk) (M : Mk) : heldP (poolW room x M) = heldR (tkR M) := by
  unfold heldP poolW
  cases hc : tkR M with
  | nil => rfl
  | cons c s =>
    show heldL [bufW x M] = _
    show heldR (tkR M) + 0 = _
    rw [hc]; omega
theorem WholeP.withP_ (W : WholeP room x M) (h : M[i]? = some (r, false)) : withP (poolW room x M) (pieceW x r (decide (i + 1 < M.length))) = poolW room x (setM M i r) := by
  obtain ⟨o1, o2⟩ := own_w room x M r (decide (i + 1 < M.length))
  have hj := W.join h
  have hne : (tkR (setM M i r)).isEmpty = false := by
    have e1 : insR (tkR M) ⟨r.off, r.data⟩ = tkR (setM M i r) := ins_set M i r 0 W.seq h
    rw [← e1]
    cases hc : insR (tkR M) ⟨r.off, r.data⟩ with
    | nil => exact absurd hc (insR_ne _ _)
    | cons c s => rfl
  unfold withP
  rw [o1, o2, hj]
  unfold poolW
  dsimp only
  rw [hne]
  cases hc : (tkR M).isEmpty with
  | true => rfl
  | false =>
    show (⟨room, 10, 0, putL [bufW x M] _ _⟩ : Po) = _
    show (⟨room, 10, 0, [if oneN (bufW x M) (pieceW x r (decide (i + 1 < M.length))) then bufW x (setM M i r) else bufW x M]⟩ : Po) = _
    rw [one_buf, if_pos rfl]
    rfl
theorem without_w (room : Int) (x : Pk) (M : Mk) (r : Rn) (b : Bool) : withoutP (poolW room x M) (pieceW x r b) = ⟨room, 10, 0, []⟩ := by
  unfold withoutP poolW
  dsimp only
  cases hc : (tkR M).isEmpty with
  | true => rfl
  | false =>
    show (⟨room, 10, 0, List.filter _ [bufW x M]⟩ : Po) = _
    rw [List.filter_cons_of_neg (by simp [one_buf])]
    rfl
/-- a piece that is taken: the packet is whole just if it was the last that was missing. -/
theorem WholeP.take (W : WholeP room x M) (R : RightP (poolW room x M)) (h : M[i]? = some (r, false)) :
    takeP (poolW room x M) (pieceW x r (decide (i + 1 < M.length))) = if allT (setM M i r) then ⟨⟨room, 10, 0, []⟩, x, true, 0⟩ else ⟨poolW room x (setM M i r), Pk.empty, false, 0⟩ := by
  obtain ⟨hm, hl, hs⟩ := W.may_piece h
  obtain ⟨o1, o2⟩ := own_w room x M r (decide (i + 1 < M.length))
  have hcl := W.clash h
  have hj := W.join h
  have W' := W.next h
  have hlt := (List.getElem?_eq_some_iff.1 h).1
  have hhe := W.held
  have hsm := W.small
  have hne : setM M i r ≠ [] := by intro e; have := set_length M i r; rw [e] at this; simp at this; omega
  unfold takeP
  rw [if_neg, if_neg, o1, if_neg (by rw [hcl]; simp), if_neg, hj]
  · have hsq : SeqR (([] : List UInt8).length : Int) (allR (setM M i r)) := W'.seq
    have hT : (bufW x (setM M i r)).total = if lastT (setM M i r) then (heldR (allR (setM M i r)) : Int) else -1 := rfl
    have hR : (bufW x (setM M i r)).runs = tkR (setM M i r) := rfl
    rw [hT, hR]
    cases ha : allT (setM M i r) with
    | true =>
      obtain ⟨l1, f1⟩ := all_last _ hne ha
      have hb := body_all (setM M i r) [] hsq ha
      rw [List.nil_append, W'.data] at hb
      rw [l1, hb, W'.held, if_pos rfl, if_neg (by omega)]
      have hx : (⟨(bufW x (setM M i r)).head.tos, (bufW x (setM M i r)).head.id, (bufW x (setM M i r)).head.df, (bufW x (setM M i r)).head.mf, (bufW x (setM M i r)).head.off, (bufW x (setM M i r)).head.ttl, (bufW x (setM M i r)).head.proto, (bufW x (setM M i r)).head.src, (bufW x (setM M i r)).head.dst, (bufW x (setM M i r)).head.opts, x.body⟩ : Pk) = x := by
        have he : (bufW x (setM M i r)).head = headW x := by show (if firstT (setM M i r) then headW x else Pk.empty) = _; rw [f1]; rfl
        rw [he]
        apply Pk.ext' <;> first | rfl | exact W.mf0.symm | exact W.off0.symm
      dsimp only
      rw [hx, if_pos ((mayB_iff x).2 W.may), without_w, if_pos rfl]
    | false =>
      have hb := body_less (setM M i r) [] hsq ha
      rw [if_pos, W.withP_ h]
      · rfl
      · cases hll : lastT (setM M i r) with
        | false => left; show (-1 : Int) < 0; omega
        | true =>
          right
          show ((bodyR (tkR (setM M i r)) []).length : Int) ≠ (heldR (allR (setM M i r)) : Int)
          simp at hb
          omega
  · rw [o2, poolW_held]
    have hk : heldR (tkR M) + r.data.length ≤ heldR (allR M) := by
      have h1 := heldR_ins ⟨r.off, r.data⟩ (tkR M)
      have h2 : insR (tkR M) ⟨r.off, r.data⟩ = tkR (setM M i r) := ins_set M i r 0 W.seq h
      have h3 := held_tk (setM M i r)
      rw [set_all M i r h] at h3
      rw [h2] at h1
      dsimp only at h1
      omega
    rintro (⟨h1, h2⟩ | h1)
    · have he : (tkR M).isEmpty = true := by simpa using h1
      unfold poolW at h2
      rw [he] at h2
      simp at h2
    · have h1' : room < (heldR (tkR M) : Int) + (r.data.length : Int) := h1
      omega
  · rintro (h1 | h1 | h1)
    · rw [(rightP_iff _).2 R] at h1; cases h1
    · rw [(mayB_iff _).2 hm] at h1; cases h1
    · have : r.data.length = 0 := h1
      omega
  · rintro ⟨h1, h2⟩
    have h1' : ¬ i + 1 < M.length := by simpa [pieceW] using h1
    have h2' : r.off = 0 := h2
    have := (first_set M i r W.seq h).2 h2'
    have := W.two
    omega
end
end Go.Proofs.Ytmblkgnjcmneeaa
