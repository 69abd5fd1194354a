/- Lemmas, several texts in one. -/
import Derived.Test.YtmgkkgpdnopeaaaQ13
import Derived.Test.YtmgkkgpdnopeaaaQ11
import Derived.Test.YtmgkkgpdnopeaaaQ03
import Derived.Test.YtmgkkgpdnopeaaaQ07
import Derived.Test.YtmgkkgpdnopeaaaQ02
/- Contract of the document's Parse of segments, whole. -/
namespace Go.Proofs.Ytmgkkgpdnopeaaa
open Go.ChangeShapes Go.WideShapes Go.ChangeAt Go.RowKit
set_option linter.unusedVariables false
set_option linter.unusedSimpArgs false

theorem prsT_none (src dst : Int) (l : List UInt8) (h : (prsT src dst l).1 ≠ 0) : (prsT src dst l).2 = Tc.empty := by
  unfold prsT at h ⊢
  split
  · rfl
  · rename_i h1
    rw [if_neg h1] at h
    split
    · rfl
    · rename_i h2
      rw [if_neg h2] at h
      split
      · rfl
      · rename_i h3
        rw [if_neg h3] at h
        split
        · rfl
        · rename_i h4
          rw [if_neg h4] at h
          cases hp : pOpts 60 ((l.take (tsz l).toNat).drop 20) [] with
          | none => rfl
          | some os => rw [hp] at h; exact absurd rfl h
theorem prsT_small (src dst : Int) (l : List UInt8) (hl : l.length ≤ 3000) : (prsT src dst l).2.body.length ≤ 16777216 ∧ ∀ o ∈ (prsT src dst l).2.opts, o.data.length ≤ 16777216 := by
  by_cases h : (prsT src dst l).1 = 0
  · obtain ⟨M, _, _, hle⟩ := prsT_ok src dst l h
    have hm := (mayT_osm _ M.opts).data
    exact ⟨by omega, fun o ho => by have := hm o ho; omega⟩
  · rw [prsT_none src dst l h]
    exact ⟨by decide, fun o ho => by cases ho⟩
theorem rparseT (src dst : Int) (A : Option Addr) (n c : Nat) (l : List UInt8) (w : World) (hs : 0 ≤ src ∧ src ≤ 4294967295) (hd : 0 ≤ dst ∧ dst ≤ 4294967295) (hn : l.length = n) (h : Bs w w.heap.size A l) (hn2 : n ≤ 16777216) (hnc : n ≤ c) (hc63 : c ≤ 9223372036854775807) :
    Calls Try.prog 24 #[.int .u32 src, .int .u32 dst, .slice A n c] w (ParsT w (prsT src dst l)) := by
  have conv : ∀ e w', ParsedT w (prsT src dst l) e w' → ParsT w (prsT src dst l) e w' := by
    rintro e w' ⟨Ao, co, Ab, cb, he, hg⟩
    exact ⟨Ao, co, Ab, cb, he, hg.is, hg.below⟩
  by_cases hM : tmE l = 0
  · by_cases hS : sumT 6 src dst l = 65535
    · exact rparseTB src dst A n c l w hs hd hn h hn2 hnc hc63 hM hS
    · exact (rparseTA src dst A n c l w hs hd hn h hn2 hnc (.inr (.inr (.inr (.inr hS))))).mono conv
  · refine (rparseTA src dst A n c l w hs hd hn h hn2 hnc ?_).mono conv
    unfold tmE at hM
    rw [hn] at hM
    by_cases h1 : 65535 < n
    · exact .inl h1
    · by_cases h2 : n < 20
      · exact .inr (.inl h2)
      · rw [if_neg h1, if_neg h2] at hM
        by_cases h3 : tsz l < 20 ∨ (n : Int) < tsz l
        · rcases h3 with h3 | h3
          · exact .inr (.inr (.inl h3))
          · exact .inr (.inr (.inr (.inl h3)))
        · rw [if_neg h3] at hM; exact absurd rfl hM
end Go.Proofs.Ytmgkkgpdnopeaaa

/- Datagrams as values and in memory. -/
namespace Go.Proofs.Ytmgkkgpdnopeaaa
open Go.ChangeShapes Go.WideShapes Go.ChangeAt Go.RowKit
set_option linter.unusedVariables false

abbrev udV (u : Ud) (A_body : Option Addr) (c_body : Nat) : Value := .agg #[.int .i64 u.sport, .int .i64 u.dport, .bool u.nosum, .slice A_body u.body.length c_body]
abbrev udO (u : Ud) (A_body : Option Addr) (c_body : Nat) : Obj := .cells #[.int .i64 u.sport, .int .i64 u.dport, .bool u.nosum, .slice A_body u.body.length c_body] 50
/-- it lies in block b. -/
def udIs (w : World) (b : Nat) (u : Ud) (A_body : Option Addr) (c_body : Nat) : Prop := w.cell? ⟨b, 0, none⟩ = some (.int .i64 u.sport) ∧ w.cell? ⟨b, 1, none⟩ = some (.int .i64 u.dport) ∧ w.cell? ⟨b, 2, none⟩ = some (.bool u.nosum) ∧ w.cell? ⟨b, 3, none⟩ = some (.slice A_body u.body.length c_body)
section
variable {w w' : World} {b B : Nat} {u : Ud} {A_body : Option Addr} {c_body : Nat}
theorem udIs.cells (h : udIs w b u A_body c_body) : w.cell? ⟨b, 0, none⟩ = some (.int .i64 u.sport) ∧ w.cell? ⟨b, 1, none⟩ = some (.int .i64 u.dport) ∧ w.cell? ⟨b, 2, none⟩ = some (.bool u.nosum) ∧ w.cell? ⟨b, 3, none⟩ = some (.slice A_body u.body.length c_body) := h
theorem udIs.keep (h : udIs w b u A_body c_body) (hb : Below B w w') (hlt : b < B) : udIs w' b u A_body c_body := by
  obtain ⟨c0, c1, c2, c3⟩ := h
  exact ⟨(hb.cell (p := ⟨b, 0, none⟩) hlt).trans c0, (hb.cell (p := ⟨b, 1, none⟩) hlt).trans c1, (hb.cell (p := ⟨b, 2, none⟩) hlt).trans c2, (hb.cell (p := ⟨b, 3, none⟩) hlt).trans c3⟩
theorem udIs.call (h : udIs w b u A_body c_body) (hb : Below w.heap.size w w') (hlt : b < w.heap.size) : udIs w' b u A_body c_body := h.keep hb hlt
theorem udIs.made : udIs (w.alloc (.cells #[.int .i64 u.sport, .int .i64 u.dport, .bool u.nosum, .slice A_body u.body.length c_body] 50)) w.heap.size u A_body c_body := by
  refine ⟨?_, ?_, ?_, ?_⟩ <;> simp [go_sem]
end
/-- what came, or was made: a datagram's body. -/
structure UdIn (w : World) (B : Nat) (u : Ud) (Ab : Option Addr) (cb : Nat) : Prop where
  blen : u.body.length ≤ cb
  bcap : cb ≤ 9223372036854775807
  bnil : Ab = none → cb = 0
  bs : Bs w B Ab u.body
theorem UdIn.below {w w' : World} {B : Nat} {u : Ud} {Ab : Option Addr} {cb : Nat} (h : UdIn w B u Ab cb) (hb : Below B w w') : UdIn w' B u Ab cb := ⟨h.blen, h.bcap, h.bnil, h.bs.below hb⟩
theorem UdIn.more {w : World} {B B' : Nat} {u : Ud} {Ab : Option Addr} {cb : Nat} (h : UdIn w B u Ab cb) (hb : B ≤ B') : UdIn w B' u Ab cb := ⟨h.blen, h.bcap, h.bnil, h.bs.more hb⟩

end Go.Proofs.Ytmgkkgpdnopeaaa

/- Contracts of the document's own answers for package udp: the sum, Put, Same. -/
namespace Go.Proofs.Ytmgkkgpdnopeaaa
open Go.ChangeShapes Go.WideShapes Go.ChangeAt Go.RowKit
set_option linter.unusedVariables false

set_option maxRecDepth 100000 in
set_option maxHeartbeats 1000000 in
theorem rsumU (src dst : Int) (A : Option Addr) (n c : Nat) (l : List UInt8) (B : Nat) (w : World) (s : Int) (h6 : sumT 17 src dst l = s) (hs : 0 ≤ src ∧ src ≤ 4294967295) (hd : 0 ≤ dst ∧ dst ≤ 4294967295) (hn : l.length = n) (h : Bs w B A l) (hB : B ≤ w.heap.size) (hl : n ≤ 16777216) (hlc : n ≤ c) :
    Calls Try.prog 50 #[.int .u32 src, .int .u32 dst, .slice A n c] w fun e w' => e = .returned (.int .i64 s) ∧ Below w.heap.size w w' := by
  have HS : Hid (fo (pseudo src dst 17 (n : Int) + fo (tot l)) = s) := by show _ = _; rw [← h6]; unfold sumT; rw [hn]
  have HN := Go.Lib.hid hn
  have HB := Go.Lib.hid h
  clear hn h h6
  go_enter Try.func50, Try.ntmps50
  go_wp2_with fail
  refine (rpseudo src dst 17 (n : Int) hs hd _).mono ?_
  rintro e w1 ⟨rfl, hb1⟩
  dsimp only
  go_wp2_with fail
  refine (rsum_n A n c l B _ HN.out (HB.out.below (hb1.mono hB)) (Nat.le_trans hB hb1.size) hl hlc).mono ?_
  rintro e w2 ⟨rfl, hb2⟩
  dsimp only
  have p0 : 0 ≤ pseudo src dst 17 (n : Int) := fo_lo _
  have p1 : pseudo src dst 17 (n : Int) ≤ 65535 := fo_hi _
  have t0 := fo_lo (tot l)
  have t1 := fo_hi (tot l)
  go_wp2_with fail
  refine (rjoin _ _ ⟨p0, p1⟩ ⟨t0, t1⟩ _).mono ?_
  rintro e w3 ⟨rfl, rfl⟩
  dsimp only
  have q0 := fo_lo (pseudo src dst 17 (n : Int) + fo (tot l))
  have q1 := fo_hi (pseudo src dst 17 (n : Int) + fo (tot l))
  have e1 := IntWalk.i64_in (fo (pseudo src dst 17 (n : Int) + fo (tot l))) (by omega)
  go_wp2
  go_ret
  exact ⟨ret_int (by first | exact HS.out | (rw [e1]; exact HS.out)), hb1.trans (hb2.mono hb1.size)⟩

/-- what is put, and whether. -/
structure PutUL (src dst : Int) (u : Ud) (L : List UInt8) (n : Nat) (r : Int) : Prop where
  len : L.length = n
  small : n ≤ 65535
  way : (mayU u = true ∧ L = putU src dst u ∧ r = 0) ∨ (mayU u = false ∧ L = [] ∧ r = 1)
theorem putUL (src dst : Int) (u : Ud) : ∃ L n r, PutUL src dst u L n r := by
  by_cases h : mayU u = true
  · have M := (mayU_iff u).1 h
    refine ⟨putU src dst u, _, 0, rfl, ?_, .inl ⟨h, rfl, rfl⟩⟩
    have := M.fit
    rw [putU_length]; omega
  · exact ⟨[], 0, 1, rfl, by omega, .inr ⟨by simpa using h, rfl, rfl⟩⟩
theorem PutUL.no {src dst : Int} {u : Ud} {L : List UInt8} {n : Nat} {r : Int} (h : PutUL src dst u L n r) (hm : ¬ MayU u) : L = [] ∧ n = 0 ∧ r = 1 := by
  rcases h.way with ⟨a, _⟩ | ⟨_, rfl, rfl⟩
  · exact absurd ((mayU_iff u).1 a) hm
  · have := h.len; simp at this; exact ⟨rfl, this.symm, rfl⟩
theorem PutUL.yes {src dst : Int} {u : Ud} {L : List UInt8} {n : Nat} {r : Int} (h : PutUL src dst u L n r) (hm : MayU u) : L = putU src dst u ∧ n = 8 + u.body.length ∧ r = 0 := by
  rcases h.way with ⟨_, rfl, rfl⟩ | ⟨a, _⟩
  · have := h.len; rw [putU_length] at this; exact ⟨rfl, this.symm, rfl⟩
  · rw [(mayU_iff u).2 hm] at a; cases a
/-- ways in which a datagram may not be put. -/
theorem mayU_not (u : Ud) (h : ¬ MayU u) : u.sport < 0 ∨ (0 ≤ u.sport ∧ 65535 < u.sport) ∨ (0 ≤ u.sport ∧ u.sport ≤ 65535 ∧ u.dport < 0) ∨ (0 ≤ u.sport ∧ u.sport ≤ 65535 ∧ 0 ≤ u.dport ∧ 65535 < u.dport) ∨ (0 ≤ u.sport ∧ u.sport ≤ 65535 ∧ 0 ≤ u.dport ∧ u.dport ≤ 65535 ∧ 65527 < (u.body.length : Int)) := by
  by_cases h1 : 0 ≤ u.sport ∧ u.sport ≤ 65535 ∧ 0 ≤ u.dport ∧ u.dport ≤ 65535
  · have : ¬ u.body.length ≤ 65527 := fun h2 => h ⟨h1.1, h1.2.1, h1.2.2.1, h1.2.2.2, h2⟩
    omega
  · omega

end Go.Proofs.Ytmgkkgpdnopeaaa

/- Contracts of the document's own answers for package udp: Same, Parse. -/
namespace Go.Proofs.Ytmgkkgpdnopeaaa
open Go.ChangeShapes Go.WideShapes Go.ChangeAt Go.RowKit
set_option linter.unusedVariables false

/-- what Parse hands back. -/
structure GivesUd (w w' : World) (u : Ud) (Ab : Option Addr) (cb : Nat) : Prop where
  is : UdIn w' w'.heap.size u Ab cb
  below : Below w.heap.size w w'
def ParsedU (w : World) (q : Int × Ud) (e : Ending) (w' : World) : Prop := ∃ Ab cb, e = .returned (.tuple #[udV q.2 Ab cb, .int .i64 q.1]) ∧ GivesUd w w' q.2 Ab cb
theorem udIn_empty {w : World} {B : Nat} : UdIn w B Ud.empty none 0 := ⟨Nat.le_refl _, by omega, fun _ => rfl, .inl rfl⟩
theorem parsedU_err {w w' : World} {q : Int × Ud} {e : Ending} {n : Int} (hq : q = (n, Ud.empty)) (he : e = .returned (.tuple #[.agg #[.int .i64 0, .int .i64 0, .bool false, .slice none 0 0], .int .i64 n])) (h : Below w.heap.size w w') : ParsedU w q e w' := by
  subst hq
  exact ⟨none, 0, he, udIn_empty, h⟩
theorem parsedU_ok {w w' : World} {q : Int × Ud} {e : Ending} {u : Ud} {Ab : Option Addr} {cb : Nat} (hq : q = (0, u)) (he : e = .returned (.tuple #[udV u Ab cb, .int .i64 0])) (h : GivesUd w w' u Ab cb) : ParsedU w q e w' := by
  subst hq
  exact ⟨Ab, cb, he, h⟩
/-- the four words of a head. -/
theorem words8 {w' : World} {base : Nat} {v : Value} {l : List UInt8} (hl : 8 ≤ l.length) (h : w'.ownsRow base 47 1 v (wrds (l.take 8)).length ((wrds (l.take 8)).map (Value.int .u16))) :
    ∃ g c, v = .slice (some ⟨g, 0, none⟩) 4 c ∧ base ≤ g ∧ g < w'.heap.size ∧ ∀ j, j < 4 → w'.cell? ⟨g, j, none⟩ = some (.int .u16 (wd l (2 * j))) := by
  have hn : (wrds (l.take 8)).length = 4 := by rw [wrds_length, List.length_take]; omega
  rw [hn] at h
  obtain ⟨g, c, rfl, h1, h2, _, _⟩ := own_form h (by omega)
  refine ⟨g, c, rfl, h1, h2, fun j hj => ?_⟩
  rw [own_cell h j (by simp [hn]; exact hj)]
  have := wrds_at j (l.take 8) (by rw [List.length_take]; omega)
  rw [wd_take l 8 (2 * j) (by omega) hl] at this
  rw [List.getElem_map]
  congr 2
  rw [List.getElem?_eq_getElem (by omega)] at this
  exact Option.some.inj this
end Go.Proofs.Ytmgkkgpdnopeaaa

/- The contract of the document's own Parse of datagrams. -/
namespace Go.Proofs.Ytmgkkgpdnopeaaa
open Go.ChangeShapes Go.WideShapes Go.ChangeAt Go.RowKit
set_option linter.unusedVariables false

theorem Row.set {w : World} {base : Nat} {v : Value} {l : List UInt8} (h : Row w base v l) {p : Addr} (hp : p.block < base) (u : Value) : Row (w.setCell p u) base v l := by
  refine ⟨h.is.1, ?_⟩
  rcases h.is.2 with h | ⟨g', cap, cur, hv, hba, hh, rest⟩
  · exact .inl h
  · refine .inr ⟨g', cap, cur, hv, hba, ?_, rest⟩
    rw [Below.heap_setCell w p u g' (by rintro rfl; omega)]
    exact hh
set_option maxRecDepth 100000 in
set_option maxHeartbeats 8000000 in
theorem rparseU (src dst : Int) (A : Option Addr) (n c : Nat) (l : List UInt8) (w : World) (hs : 0 ≤ src ∧ src ≤ 4294967295) (hd : 0 ≤ dst ∧ dst ≤ 4294967295) (hn : l.length = n) (h : Bs w w.heap.size A l) (hn2 : n ≤ 16777216) (hnc : n ≤ c) (hc2 : c ≤ 9223372036854775807) :
    Calls Try.prog 25 #[.int .u32 src, .int .u32 dst, .slice A n c] w (ParsedU w (prsU src dst l)) := by
  by_cases h2 : n < 8
  · have HP : Hid (prsU src dst l = (2, Ud.empty)) := Go.Lib.hid (by unfold prsU; rw [if_pos (by omega)])
    clear h hn
    go_enter Try.func25, Try.ntmps25
    go_wp2
    refine bodyPost_ret (v := .tuple #[.agg #[.int .i64 0, .int .i64 0, .bool false, .slice none 0 0], .int .i64 2]) ?_ rfl (parsedU_err HP.out rfl ?_)
    · simp [results, Try.results25, go_sem]
    · exact (Below.refl _ _).alloc (Nat.le_refl _) _
  obtain ⟨ad, rfl, hlt, _⟩ := g8_cell h (k := 0) (by omega)
  have HN := Go.Lib.hid hn
  have HB := Go.Lib.hid h
  have HL8 : Hid ((l.take 8).length = 8) := Go.Lib.hid (by rw [List.length_take]; omega)
  have hl8 : 8 ≤ l.length := by omega
  have b0 : Below w.heap.size w (w.alloc (.cells #[.int .i64 0, .int .i64 0, .bool false, .slice none 0 0] 50)) := (Below.refl _ _).alloc (Nat.le_refl _) _
  have s0 : (w.alloc (.cells #[.int .i64 0, .int .i64 0, .bool false, .slice none 0 0] 50)).heap.size = w.heap.size + 1 := by simp
  have i8 : (8 : Int) ≤ (c : Int) := by omega
  have z0 : (w.alloc (.cells #[.int .i64 0, .int .i64 0, .bool false, .slice none 0 0] 50)).cell? ⟨w.heap.size, 0, none⟩ = some (.int .i64 0) ∧ (w.alloc (.cells #[.int .i64 0, .int .i64 0, .bool false, .slice none 0 0] 50)).cell? ⟨w.heap.size, 1, none⟩ = some (.int .i64 0) ∧ (w.alloc (.cells #[.int .i64 0, .int .i64 0, .bool false, .slice none 0 0] 50)).cell? ⟨w.heap.size, 2, none⟩ = some (.bool false) ∧ (w.alloc (.cells #[.int .i64 0, .int .i64 0, .bool false, .slice none 0 0] 50)).cell? ⟨w.heap.size, 3, none⟩ = some (.slice none 0 0) ∧ ∀ o, (w.alloc (.cells #[.int .i64 0, .int .i64 0, .bool false, .slice none 0 0] 50)).frozen? ⟨w.heap.size, o, none⟩ = false := by
    refine ⟨?_, ?_, ?_, ?_, fun o => ?_⟩ <;> simp [go_sem]
  clear h hn
  go_enter Try.func25, Try.ntmps25
  go_upto_region 1 with fail
  generalize w.alloc (.cells #[.int .i64 0, .int .i64 0, .bool false, .slice none 0 0] 50) = W at *
  go_wp2_with fail
  refine (rwords_n (some ad) 8 c (l.take 8) w.heap.size _ HL8.out ((HB.out.below b0).take 8) b0.size (by omega) (by omega)).mono ?_
  rintro e w1 ⟨v, rfl, hown, hb1⟩
  dsimp only
  obtain ⟨g, kc, rfl, hg1, hg2, hw⟩ := words8 hl8 hown
  have q0 := hw 0 (by omega)
  have q1 := hw 1 (by omega)
  have q2 := hw 2 (by omega)
  have q3 := hw 3 (by omega)
  simp only [Nat.reduceMul, Nat.mul_zero] at q0 q1 q2 q3
  have a0 := wd_lo l 0
  have a1 := wd_hi l 0
  have a2 := wd_lo l 2
  have a3 := wd_hi l 2
  have a4 := wd_lo l 4
  have a5 := wd_hi l 4
  have a6 := wd_lo l 6
  have a7 := wd_hi l 6
  obtain ⟨z0, z1, z2, z3, zf⟩ := z0
  rw [s0] at hb1 hg1
  have hb1' := hb1
  have y0 := hb1.cell (p := ⟨w.heap.size, 0, none⟩) (Nat.lt_succ_self _)
  have y1 := hb1.cell (p := ⟨w.heap.size, 1, none⟩) (Nat.lt_succ_self _)
  have y2 := hb1.cell (p := ⟨w.heap.size, 2, none⟩) (Nat.lt_succ_self _)
  have y3 := hb1.cell (p := ⟨w.heap.size, 3, none⟩) (Nat.lt_succ_self _)
  rw [z0] at y0
  rw [z1] at y1
  rw [z2] at y2
  rw [z3] at y3
  have yf : ∀ o, w1.frozen? ⟨w.heap.size, o, none⟩ = false := fun o => (hb1.frozen (p := ⟨w.heap.size, o, none⟩) (Nat.lt_succ_self _)).trans (zf o)
  have b1 : Below w.heap.size w w1 := b0.trans (hb1.mono (Nat.le_succ _))
  have s1 : w.heap.size + 1 ≤ w1.heap.size := by have := hb1.size; omega
  clear hown hw hb1 hb1' z0 z1 z2 z3 zf s0 b0 hl8
  generalize hx0 : wd l 0 = x0 at *
  generalize hx2 : wd l 2 = x2 at *
  generalize hx4 : wd l 4 = x4 at *
  generalize hx6 : wd l 6 = x6 at *
  have X0 := Go.Lib.hid hx0
  have X2 := Go.Lib.hid hx2
  have X4 := Go.Lib.hid hx4
  have X6 := Go.Lib.hid hx6
  clear hx0 hx2 hx4 hx6
  have e0 := IntWalk.i64_in x0 (by omega)
  have e2 := IntWalk.i64_in x2 (by omega)
  have e4 := IntWalk.i64_in x4 (by omega)
  by_cases h4 : x4 < 8 ∨ (8 ≤ x4 ∧ (n : Int) < x4)
  · have HP : Hid (prsU src dst l = (4, Ud.empty)) := Go.Lib.hid (by unfold prsU; rw [if_neg (by rw [HN.out]; omega), X4.out, HN.out, if_pos (by omega)])
    have f0 := yf 0
    have f1 := yf 1
    have f2 := yf 2
    have f3 := yf 3
    rcases h4 with h4 | ⟨h4, h5⟩
    all_goals
      go_wp2
      refine bodyPost_ret (v := .tuple #[.agg #[.int .i64 0, .int .i64 0, .bool false, .slice none 0 0], .int .i64 4]) ?_ rfl (parsedU_err HP.out rfl ?_)
      · simp [results, Try.results25, go_sem, y0, y1, y2, y3]
      · exact (((b1.setCell (p := ⟨w.heap.size, 0, none⟩) (Nat.le_refl _) _).setCell (p := ⟨w.heap.size, 1, none⟩) (Nat.le_refl _) _).setCell (p := ⟨w.heap.size, 2, none⟩) (Nat.le_refl _) _).setCell (p := ⟨w.heap.size, 3, none⟩) (Nat.le_refl _) _
  · obtain ⟨N, hN⟩ : ∃ N : Nat, (N : Int) = x4 := ⟨x4.toNat, by omega⟩
    have n8 : 8 ≤ N := by omega
    have nn : N ≤ n := by omega
    have i1 : (N : Int) ≤ (c : Int) := by omega
    have i2 : (8 : Int) ≤ (N : Int) := by omega
    have i3 : (N : Int) ≤ (n : Int) := by omega
    have HNN : Hid (x4.toNat = N) := Go.Lib.hid (by show _ = _; omega)
    subst hN
    have LT : Hid ((l.take N).length = N) := Go.Lib.hid (by rw [List.length_take, HN.out]; show min _ _ = _; omega)
    obtain ⟨s, hsum⟩ : ∃ s : Int, sumT 17 src dst (l.take N) = s := ⟨_, rfl⟩
    have HS := Go.Lib.hid hsum
    clear hsum h4
    obtain ⟨bad, hbad⟩ : ∃ bad : Bool, decide (0 < x6 ∧ s ≠ 65535) = bad := ⟨_, rfl⟩
    have HBAD := Go.Lib.hid hbad
    clear hbad
    go_upto_region 7 with fail
    go_cut [42] (fun b wx => b = .bool bad ∧ Below w1.heap.size w1 wx)
    case first =>
      by_cases h6 : 0 < x6
      · go_wp2_with fail
        refine (rsumU src dst (some ad) N c (l.take N) w.heap.size _ s HS.out hs hd LT.out ((HB.out.below b1).take N) b1.size (by omega) (by omega)).mono ?_
        rintro e w3 ⟨rfl, hb3⟩
        dsimp only
        by_cases h7 : s = 65535
        · have t7 : (s != 65535) = false := by rw [h7]; rfl
          have e7 : bad = false := by rw [← HBAD.out]; simp [h7]
          clear h7
          go_wp2
          go_meet
          exact ⟨by rw [e7], hb3⟩
        · have t7 : (s != 65535) = true := by simpa using h7
          have e7 : bad = true := by rw [← HBAD.out]; simp [h6, h7]
          clear h7
          go_wp2
          go_meet
          exact ⟨by rw [e7], hb3⟩
      · have e7 : bad = false := by rw [← HBAD.out]; simp [h6]
        go_wp2
        go_meet
        exact ⟨by rw [e7], Below.refl _ _⟩
    case rest =>
      obtain ⟨rfl, hb3⟩ := hcut
      have q0' := (hb3.cell (p := ⟨g, 0, none⟩) hg2).trans q0
      have q1' := (hb3.cell (p := ⟨g, 1, none⟩) hg2).trans q1
      have q3' := (hb3.cell (p := ⟨g, 3, none⟩) hg2).trans q3
      have y0' := (hb3.cell (p := ⟨w.heap.size, 0, none⟩) s1).trans y0
      have y1' := (hb3.cell (p := ⟨w.heap.size, 1, none⟩) s1).trans y1
      have y2' := (hb3.cell (p := ⟨w.heap.size, 2, none⟩) s1).trans y2
      have y3' := (hb3.cell (p := ⟨w.heap.size, 3, none⟩) s1).trans y3
      have yf' : ∀ o, wc.frozen? ⟨w.heap.size, o, none⟩ = false := fun o => (hb3.frozen (p := ⟨w.heap.size, o, none⟩) s1).trans (yf o)
      have b3 : Below w.heap.size w wc := b1.trans (hb3.mono b1.size)
      have hsz : w.heap.size + 1 ≤ wc.heap.size := Nat.le_trans s1 hb3.size
      have hgc : g < wc.heap.size := Nat.lt_of_lt_of_le hg2 hb3.size
      clear q0 q1 q2 q3 y0 y1 y2 y3 yf b1 s1 hg2 hb3
      have f0 := yf' 0
      have f1 := yf' 1
      have f2 := yf' 2
      have f3 := yf' 3
      cases bad with
      | true =>
        have HP : Hid (prsU src dst l = (5, Ud.empty)) := Go.Lib.hid (by
          have := HBAD.out
          rw [decide_eq_true_eq] at this
          unfold prsU; rw [if_neg (by rw [HN.out]; omega), X4.out, HN.out, if_neg (by omega), if_pos (by rw [X6.out, HNN.out, HS.out]; exact this)])
        go_wp2
        refine bodyPost_ret (v := .tuple #[.agg #[.int .i64 0, .int .i64 0, .bool false, .slice none 0 0], .int .i64 5]) ?_ rfl (parsedU_err HP.out rfl ?_)
        · simp [results, Try.results25, go_sem, y0', y1', y2', y3']
        · exact (((b3.setCell (p := ⟨w.heap.size, 0, none⟩) (Nat.le_refl _) _).setCell (p := ⟨w.heap.size, 1, none⟩) (Nat.le_refl _) _).setCell (p := ⟨w.heap.size, 2, none⟩) (Nat.le_refl _) _).setCell (p := ⟨w.heap.size, 3, none⟩) (Nat.le_refl _) _
      | false =>
        have HP : Hid (prsU src dst l = (0, ⟨x0, x2, x6 == 0, (l.take N).drop 8⟩)) := Go.Lib.hid (by
          have := HBAD.out
          rw [decide_eq_false_iff_not] at this
          unfold prsU; rw [if_neg (by rw [HN.out]; omega), X4.out, HN.out, if_neg (by omega), if_neg (by rw [X6.out, HNN.out, HS.out]; exact this), X0.out, X2.out, X6.out, HNN.out])
        have LD : Hid (((l.take N).drop 8).length = N - 8) := Go.Lib.hid (by rw [List.length_drop, LT.out])
        have HC : Hid (Bs wc w.heap.size (if c = 8 then some ad else some { block := ad.block, off := ad.off + 8 }) ((l.take N).drop 8)) := Go.Lib.hid (by
          have := ((HB.out.below b3).take N).cut 8 c (by rw [LT.out]; omega) (by omega)
          simpa using this)
        have j1 : N - 8 ≤ 1073741824 := by omega
        have hne : g ≠ w.heap.size := by omega
        have K : ∀ Y, Below wc.heap.size wc Y → Y.cell? ⟨g, 0, none⟩ = some (.int .u16 x0) ∧ Y.cell? ⟨g, 1, none⟩ = some (.int .u16 x2) ∧ Y.cell? ⟨g, 3, none⟩ = some (.int .u16 x6) ∧ Below w.heap.size w Y := fun Y y => ⟨(y.cell (p := ⟨g, 0, none⟩) hgc).trans q0', (y.cell (p := ⟨g, 1, none⟩) hgc).trans q1', (y.cell (p := ⟨g, 3, none⟩) hgc).trans q3', b3.trans (y.mono b3.size)⟩
        have K2 : ∀ (Z Y : World) (a b c d : Value), Z = ((((Y.setCell ⟨w.heap.size, 0, none⟩ a).setCell ⟨w.heap.size, 1, none⟩ b).setCell ⟨w.heap.size, 2, none⟩ c).setCell ⟨w.heap.size, 3, none⟩ d) → (Y.cell? ⟨g, 0, none⟩ = some (.int .u16 x0) ∧ Y.cell? ⟨g, 1, none⟩ = some (.int .u16 x2) ∧ Y.cell? ⟨g, 3, none⟩ = some (.int .u16 x6) ∧ Below w.heap.size w Y) → Z.cell? ⟨g, 0, none⟩ = some (.int .u16 x0) ∧ Z.cell? ⟨g, 1, none⟩ = some (.int .u16 x2) ∧ Z.cell? ⟨g, 3, none⟩ = some (.int .u16 x6) ∧ Below w.heap.size w Z := fun Z Y a b c d hZ ⟨k0, k1, k2, k3⟩ => by
          subst hZ
          have hh : ∀ (Z : World) (k j : Nat) (u : Value), (Z.setCell ⟨w.heap.size, k, none⟩ u).cell? ⟨g, j, none⟩ = Z.cell? ⟨g, j, none⟩ := fun Z k j u => World.cell?_setCell_other Z _ _ u (fun e => hne (by injection e with e1; first | exact e1 | exact e1.symm))
          refine ⟨?_, ?_, ?_, (((k3.setCell (p := ⟨w.heap.size, 0, none⟩) (Nat.le_refl _) _).setCell (p := ⟨w.heap.size, 1, none⟩) (Nat.le_refl _) _).setCell (p := ⟨w.heap.size, 2, none⟩) (Nat.le_refl _) _).setCell (p := ⟨w.heap.size, 3, none⟩) (Nat.le_refl _) _⟩
          · rw [hh, hh, hh, hh]; exact k0
          · rw [hh, hh, hh, hh]; exact k1
          · rw [hh, hh, hh, hh]; exact k2
        have hbz : Below wc.heap.size wc (wc.alloc (.cells #[] 5)) := (Below.refl _ _).alloc (Nat.le_refl _) _
        have hrz : Row (wc.alloc (.cells #[] 5)) wc.heap.size (.slice (some ⟨wc.heap.size, 0, none⟩) 0 0) [] := (own_lit wc wc.heap.size [] (fun x hx => by cases hx) (Nat.le_refl _) (by simp)).row
        have HRZ := Go.Lib.hid hrz
        have l0 : ([] : List UInt8).length ≤ 1073741824 := by simp
        have hcn : (if c = 8 then some ad else some { block := ad.block, off := ad.off + 8 }) = none → c - 8 = 0 := by split <;> (intro h; cases h)
        have HCN := Go.Lib.hid hcn
        have G0 : Hid (∀ Y, Below wc.heap.size wc Y → (Y.cell? ⟨w.heap.size, 0, none⟩ = some (.int .i64 0) ∧ Y.cell? ⟨w.heap.size, 1, none⟩ = some (.int .i64 0) ∧ Y.cell? ⟨w.heap.size, 2, none⟩ = some (.bool false) ∧ Y.cell? ⟨w.heap.size, 3, none⟩ = some (.slice none 0 0)) ∧ (Y.frozen? ⟨w.heap.size, 0, none⟩ = false ∧ Y.frozen? ⟨w.heap.size, 1, none⟩ = false ∧ Y.frozen? ⟨w.heap.size, 2, none⟩ = false ∧ Y.frozen? ⟨w.heap.size, 3, none⟩ = false)) := Go.Lib.hid (fun Y y => ⟨⟨(y.cell (p := ⟨w.heap.size, 0, none⟩) hsz).trans y0', (y.cell (p := ⟨w.heap.size, 1, none⟩) hsz).trans y1', (y.cell (p := ⟨w.heap.size, 2, none⟩) hsz).trans y2', (y.cell (p := ⟨w.heap.size, 3, none⟩) hsz).trans y3'⟩, (y.frozen (p := ⟨w.heap.size, 0, none⟩) hsz).trans f0, (y.frozen (p := ⟨w.heap.size, 1, none⟩) hsz).trans f1, (y.frozen (p := ⟨w.heap.size, 2, none⟩) hsz).trans f2, (y.frozen (p := ⟨w.heap.size, 3, none⟩) hsz).trans f3⟩)
        clear hrz hcn yf' f0 f1 f2 f3 y0' y1' y2' y3' q0' q1' q3'
        go_upto_region 9 with fail
        try simp only [List.append_eq, List.cons_append, List.nil_append]
        go_region_held3 (fun Y => Y.cell? ⟨g, 0, none⟩ = some (.int .u16 x0) ∧ Y.cell? ⟨g, 1, none⟩ = some (.int .u16 x2) ∧ Y.cell? ⟨g, 3, none⟩ = some (.int .u16 x6) ∧ Below w.heap.size w Y)
          (first
            | with_reducible exact K _ (below_drew hbz)
            | with_reducible exact K _ z7
            | with_reducible exact K _ (below_drew (Below.refl _ _))
            | with_reducible exact K2 _ _ _ _ _ _ rfl (by assumption))
          ((refine apS rfl _ _ rfl wc.heap.size _ [] rfl HRZ.out.drew w.heap.size _ _ (c - 8) ((l.take N).drop 8) rfl LD.out HCN.out (HC.out.below ((below_drew hbz).mono b3.size)) l0 j1 (Below.size (below_drew hbz)) ?_; intro v7 w7 hrow7 hb7; have z7 := (below_drew hbz).trans hb7; rw [List.nil_append] at hrow7; obtain ⟨A7, c7, hv7, hl7, hc7, hn7, hs7⟩ := hrow7.form; rw [LD.out] at hv7; subst hv7; obtain ⟨⟨y0, y1, y2, y3⟩, f0, f1, f2, f3⟩ := G0.out _ z7))
        all_goals
          have yF : Below w.heap.size w ((((w7.setCell ⟨w.heap.size, 0, none⟩ (.int .i64 x0)).setCell ⟨w.heap.size, 1, none⟩ (.int .i64 x2)).setCell ⟨w.heap.size, 2, none⟩ (.bool (x6 == 0))).setCell ⟨w.heap.size, 3, none⟩ (.slice A7 (N - 8) c7)) := ((((b3.trans (z7.mono b3.size)).setCell (p := ⟨w.heap.size, 0, none⟩) (Nat.le_refl _) _).setCell (p := ⟨w.heap.size, 1, none⟩) (Nat.le_refl _) _).setCell (p := ⟨w.heap.size, 2, none⟩) (Nat.le_refl _) _).setCell (p := ⟨w.heap.size, 3, none⟩) (Nat.le_refl _) _
          have hr := (((hrow7.set (p := ⟨w.heap.size, 0, none⟩) hsz (.int .i64 x0)).set (p := ⟨w.heap.size, 1, none⟩) hsz (.int .i64 x2)).set (p := ⟨w.heap.size, 2, none⟩) hsz (.bool (x6 == 0))).set (p := ⟨w.heap.size, 3, none⟩) hsz (.slice A7 (N - 8) c7)
          obtain ⟨A8, c8, hv8, hl8, hc8, hn8, hs8⟩ := hr.form
          rw [LD.out] at hv8
          obtain ⟨rfl, _, rfl⟩ := Value.slice.inj hv8
          clear K K2 hv8
          go_wp2
          all_goals refine bodyPost_ret (v := .tuple #[.agg #[.int .i64 x0, .int .i64 x2, .bool (x6 == 0), .slice A7 (N - 8) c7], .int .i64 0]) ?_ rfl (parsedU_ok HP.out (by rw [udV, LD.out]) ⟨⟨hl8, hc8, hn8, hs8⟩, yF⟩)
          all_goals simp [results, Try.results25, go_sem, y0, y1, y2, y3]
end Go.Proofs.Ytmgkkgpdnopeaaa
