/- Lemmas of layer 7, several texts in one. -/
import Derived.Carry
import Derived.ProofKit
import Derived.OpenShut
import Derived.ChangeSlices
import Derived.Deep.Fields
import Derived.Test.YthejakbjekjhjaaQ01
import Derived.Test.YthejakbjekjhjaaRows
import Derived.Deep.Slices
/- Structs of one-cell fields among the arguments, opened: any number of fields; a packet. No condition. -/
namespace Go.Proofs.Ythejakbjekjhjaa
open Go.ChangeShapes Go.WideShapes Go.ChangeAt Go.RowKit
set_option linter.unusedVariables false

section
variable {H : Type} {enc : TypeId × Value → H} {P : Program} {w : World} {base : Nat} {spare : Nat → Bool} {held : Bool}
/-- a struct by value: its cells, each read by its field's type. -/
theorem open_struct {r : Reach} {b0 : Nat} {t : TypeId} {fs : Array Field} {v : Value} {d : DataW H} {ps : List MemPlace} (hs : P.underlying t = some (.struct fs)) (hone : Go.Deep.oneCellFields P fs = true) (hC : P.cellsOf t = fs.size)
    (hv : Value.okWide P w r b0 t v) (h : DataW.Trod enc P w base spare held t v d ps) :
    ∃ cs : List Value, v = .agg cs.toArray ∧ cs.length = fs.size ∧ ∀ (j : Nat) (f : Field) (c : Value), fs[j]? = some f → cs[j]? = some c → ∃ (y : DataW H × List MemPlace) (n : Nat), DataW.trod enc P w base spare held n f.type [c] = some y := by
  obtain ⟨cs, rfl, hsz⟩ := okWide_struct hs hv
  obtain ⟨fuel, hf⟩ := h
  obtain ⟨xs, n, _, hx, _, hlen, hg⟩ := DataW.trod_struct hs hf
  refine ⟨cs.toList, by simp, by simpa using hsz.trans hC, fun j f c hj hc => ?_⟩
  obtain ⟨ho, hk⟩ := Go.Deep.hone_of hone j f hj
  have hjl : j < fs.size := (Array.getElem?_eq_some_iff.1 hj).1
  have hjc : j < cs.size := by rw [hsz, hC]; exact hjl
  have h1 := hg j f hj
  have e : cs.toList[j]? = some cs[j] := by rw [Array.getElem?_toList, Array.getElem?_eq_getElem hjc]
  rw [ho, hk] at h1
  have hone' : ((Value.agg cs).cells.toList.drop j).take 1 = [cs[j]] := by
    show (cs.toList.drop j).take 1 = _
    rw [List.drop_eq_getElem_cons (by simpa using hjc)]
    simp
  rw [hone'] at h1
  obtain rfl := Option.some.inj (hc.symm.trans e)
  exact ⟨xs[j]'(by omega), n, by rw [h1]; exact List.getElem?_eq_getElem (by omega)⟩
/-- a field that is a slice of bytes. -/
theorem bytes_field {t e : TypeId} {n : Nat} {c : Value} {y : DataW H × List MemPlace} (ht : P.underlying t = some (.slice e)) (he : P.underlying e = some (.int .u8)) (hc : P.cellsOf e = 1) (hf : DataW.trod enc P w base spare held n t [c] = some y) :
    ∃ (A : Option Addr) (l : List UInt8) (cp : Nat), c = .slice A l.length cp ∧ l.length ≤ cp ∧ cp ≤ 9223372036854775807 ∧ (A = none → cp = 0) ∧ Bs w w.heap.size A l := by
  rcases open_ints ht he hc hf with ⟨hcs, _⟩ | ⟨a, len', cap', zs, hcs, _, hl, hm, hz, _, hcell, hwz⟩
  · simp at hcs
    subst hcs
    exact ⟨none, [], 0, rfl, by simp, by omega, fun _ => rfl, .inl rfl⟩
  · simp at hcs
    subst hcs
    have hlz : len' ≤ zs.length := by rw [hz]; split <;> omega
    have hll : ((zs.take len').map fun n => UInt8.ofNat n.toNat).length = len' := by simp; omega
    unfold maxLen at hm
    refine ⟨some a, (zs.take len').map fun n => UInt8.ofNat n.toNat, cap', by rw [hll], by omega, by omega, fun h => (by cases h), ?_⟩
    by_cases h0 : len' = 0
    · subst h0; exact .inl (by simp)
    · have hc0 := hcell 0 (by omega)
      have hlt := World.block_lt_of_cell? w _ hc0
      rw [block_add] at hlt
      refine .inr ⟨a, rfl, hlt, fun j b hj => ?_⟩
      rw [List.getElem?_map, Option.map_eq_some_iff] at hj
      obtain ⟨n, hn, rfl⟩ := hj
      rw [List.getElem?_take] at hn
      split at hn
      · rename_i hjl
        have hjz : j < zs.length := by omega
        rw [List.getElem?_eq_getElem hjz] at hn
        obtain rfl := Option.some.inj hn
        rw [hcell j hjz]
        have hw := hwz zs[j] (List.getElem_mem hjz)
        simp only [Lit.wf, Bool.and_eq_true, decide_eq_true_eq] at hw
        have hw0 : 0 ≤ zs[j] ∧ zs[j] ≤ 255 := hw
        have hg : zs.getD j 0 = zs[j] := by simp [List.getD, hjz]
        rw [hg, UInt8.toNat_ofNat_of_lt' (by show _ < 256; omega)]
        congr 2; omega
      · cases hn
theorem int_field {t : TypeId} {k : IntKind} {n : Nat} {c : Value} {y : DataW H × List MemPlace} (ht : P.underlying t = some (.int k)) (hf : DataW.trod enc P w base spare held n t [c] = some y) : ∃ x : Int, c = .int k x ∧ (Lit.int k x).wf = true := by
  obtain ⟨x, h, _, hw⟩ := DataW.trod_int ht hf
  exact ⟨x, by simpa using h, hw⟩
theorem bool_field {t : TypeId} {n : Nat} {c : Value} {y : DataW H × List MemPlace} (ht : P.underlying t = some .bool) (hf : DataW.trod enc P w base spare held n t [c] = some y) : ∃ b : Bool, c = .bool b := by
  obtain ⟨b, h, _⟩ := DataW.trod_bool ht hf
  exact ⟨b, by simpa using h⟩
end
end Go.Proofs.Ythejakbjekjhjaa

/- Packets, runs, packets that are put together and pools among a law's arguments, opened. No condition. -/
namespace Go.Proofs.Ythejakbjekjhjaa
open Go.ChangeShapes Go.WideShapes Go.ChangeAt Go.RowKit
set_option linter.unusedVariables false

section
variable {H : Type} {enc : TypeId × Value → H} {P : Program} {w : World} {base : Nat} {spare : Nat → Bool} {held : Bool}
/-- a struct's field, of any number of cells. -/
theorem some_field {t ty : TypeId} {fs : Array Field} {n : Nat} {cs : List Value} {x : DataW H × List MemPlace} (hs : P.underlying t = some (.struct fs)) (h : DataW.trod enc P w base spare held n t cs = some x) {j o : Nat}
    (hj : (fs[j]?.map fun f => (f.type, f.offset)) = some (ty, o)) : ∃ (y : DataW H × List MemPlace) (m : Nat), DataW.trod enc P w base spare held m ty ((cs.drop o).take (P.cellsOf ty)) = some y := by
  obtain ⟨xs, m, _, _, _, hlen, hg⟩ := DataW.trod_struct hs h
  rw [Option.map_eq_some_iff] at hj
  obtain ⟨f, hf, he⟩ := hj
  obtain ⟨rfl, rfl⟩ := Prod.mk.inj he
  have hjl : j < fs.size := (Array.getElem?_eq_some_iff.1 hf).1
  exact ⟨xs[j]'(by omega), m, by rw [hg j f hf]; exact List.getElem?_eq_getElem (by omega)⟩
/-- a struct's field of one cell. -/
theorem one_field {t ty : TypeId} {fs : Array Field} {n : Nat} {cs : List Value} {x : DataW H × List MemPlace} (hs : P.underlying t = some (.struct fs)) (h : DataW.trod enc P w base spare held n t cs = some x) {j o : Nat} {c : Value}
    (hj : (fs[j]?.map fun f => (f.type, f.offset)) = some (ty, o)) (hc : P.cellsOf ty = 1) (he : cs[o]? = some c) : ∃ (y : DataW H × List MemPlace) (m : Nat), DataW.trod enc P w base spare held m ty [c] = some y := by
  obtain ⟨y, m, h1⟩ := some_field hs h hj
  obtain ⟨ho, hoe⟩ := List.getElem?_eq_some_iff.1 he
  rw [hc, List.drop_eq_getElem_cons ho] at h1
  exact ⟨y, m, by rw [hoe] at h1; simpa using h1⟩
end
theorem Try.oneInt : Try.prog.cellsOf 3 = 1 := by kernel_rfl
theorem Try.oneBool : Try.prog.cellsOf 4 = 1 := by kernel_rfl
theorem Try.oneU32 : Try.prog.cellsOf 31 = 1 := by kernel_rfl
theorem Try.oneU8 : Try.prog.cellsOf 5 = 1 := by kernel_rfl
theorem Try.oneBytes : Try.prog.cellsOf 23 = 1 := by kernel_rfl
theorem Try.oneRuns : Try.prog.cellsOf 40 = 1 := by kernel_rfl
theorem Try.oneBufs : Try.prog.cellsOf 25 = 1 := by kernel_rfl
theorem Try.cellsIP : Try.prog.cellsOf 33 = 11 := by kernel_rfl
theorem Try.cellsRun : Try.prog.cellsOf 66 = 2 := by kernel_rfl
theorem Try.cellsBuffer : Try.prog.cellsOf 42 = 19 := by kernel_rfl

theorem pkc_fields : ∃ fs : Array Field, Try.prog.underlying 33 = some (.struct fs) ∧ (fs[0]?.map fun f => (f.type, f.offset)) = some (3, 0) ∧ (fs[1]?.map fun f => (f.type, f.offset)) = some (3, 1) ∧ (fs[2]?.map fun f => (f.type, f.offset)) = some (4, 2) ∧ (fs[3]?.map fun f => (f.type, f.offset)) = some (4, 3) ∧ (fs[4]?.map fun f => (f.type, f.offset)) = some (3, 4) ∧ (fs[5]?.map fun f => (f.type, f.offset)) = some (3, 5) ∧ (fs[6]?.map fun f => (f.type, f.offset)) = some (3, 6) ∧ (fs[7]?.map fun f => (f.type, f.offset)) = some (31, 7) ∧ (fs[8]?.map fun f => (f.type, f.offset)) = some (31, 8) ∧ (fs[9]?.map fun f => (f.type, f.offset)) = some (23, 9) ∧ (fs[10]?.map fun f => (f.type, f.offset)) = some (23, 10) :=
  ⟨_, Try.underlying33, rfl, rfl, rfl, rfl, rfl, rfl, rfl, rfl, rfl, rfl, rfl⟩
theorem rnc_fields : ∃ fs : Array Field, Try.prog.underlying 66 = some (.struct fs) ∧ (fs[0]?.map fun f => (f.type, f.offset)) = some (3, 0) ∧ (fs[1]?.map fun f => (f.type, f.offset)) = some (23, 1) :=
  ⟨_, Try.underlying66, rfl, rfl⟩
theorem bfc_fields : ∃ fs : Array Field, Try.prog.underlying 42 = some (.struct fs) ∧ (fs[0]?.map fun f => (f.type, f.offset)) = some (31, 0) ∧ (fs[1]?.map fun f => (f.type, f.offset)) = some (31, 1) ∧ (fs[2]?.map fun f => (f.type, f.offset)) = some (3, 2) ∧ (fs[3]?.map fun f => (f.type, f.offset)) = some (3, 3) ∧ (fs[4]?.map fun f => (f.type, f.offset)) = some (3, 4) ∧ (fs[5]?.map fun f => (f.type, f.offset)) = some (33, 5) ∧ (fs[6]?.map fun f => (f.type, f.offset)) = some (4, 16) ∧ (fs[7]?.map fun f => (f.type, f.offset)) = some (3, 17) ∧ (fs[8]?.map fun f => (f.type, f.offset)) = some (40, 18) :=
  ⟨_, Try.underlying42, rfl, rfl, rfl, rfl, rfl, rfl, rfl, rfl, rfl⟩
section
variable {H : Type} {enc : TypeId × Value → H} {w : World} {base : Nat} {spare : Nat → Bool} {held : Bool}
/-- eleven cells that are a packet. -/
theorem pk_cells {n : Nat} {cs : List Value} {x : DataW H × List MemPlace} (h : DataW.trod enc Try.prog w base spare held n 33 cs = some x) (hl : cs.length = 11) {ad : Addr} {k : Nat} (hat : ∀ i, i < 11 → w.cell? (ad.add (k + i)) = cs[i]?) :
    ∃ (p : Pk) (Ao : Option Addr) (co : Nat) (Ab : Option Addr) (cb : Nat), PkCells w (oldV w) ad k p Ao co Ab cb := by
  obtain ⟨fs, hs, t0, t1, t2, t3, t4, t5, t6, t7, t8, t9, t10⟩ := pkc_fields
  match cs, hl with
  | [c0, c1, c2, c3, c4, c5, c6, c7, c8, c9, c10], _ =>
    obtain ⟨_, _, g0⟩ := one_field (c := c0) hs h t0 Try.oneInt rfl
    obtain ⟨tos, rfl, _⟩ := int_field Try.underlying3 g0
    obtain ⟨_, _, g1⟩ := one_field (c := c1) hs h t1 Try.oneInt rfl
    obtain ⟨id, rfl, _⟩ := int_field Try.underlying3 g1
    obtain ⟨_, _, g2⟩ := one_field (c := c2) hs h t2 Try.oneBool rfl
    obtain ⟨df, rfl⟩ := bool_field Try.underlying4 g2
    obtain ⟨_, _, g3⟩ := one_field (c := c3) hs h t3 Try.oneBool rfl
    obtain ⟨mf, rfl⟩ := bool_field Try.underlying4 g3
    obtain ⟨_, _, g4⟩ := one_field (c := c4) hs h t4 Try.oneInt rfl
    obtain ⟨off, rfl, _⟩ := int_field Try.underlying3 g4
    obtain ⟨_, _, g5⟩ := one_field (c := c5) hs h t5 Try.oneInt rfl
    obtain ⟨ttl, rfl, _⟩ := int_field Try.underlying3 g5
    obtain ⟨_, _, g6⟩ := one_field (c := c6) hs h t6 Try.oneInt rfl
    obtain ⟨proto, rfl, _⟩ := int_field Try.underlying3 g6
    obtain ⟨_, _, g7⟩ := one_field (c := c7) hs h t7 Try.oneU32 rfl
    obtain ⟨src, rfl, wsrc⟩ := int_field Try.underlying31 g7
    obtain ⟨_, _, g8⟩ := one_field (c := c8) hs h t8 Try.oneU32 rfl
    obtain ⟨dst, rfl, wdst⟩ := int_field Try.underlying31 g8
    obtain ⟨_, _, g9⟩ := one_field (c := c9) hs h t9 Try.oneBytes rfl
    obtain ⟨Aopts, opts, copts, rfl, opts1, opts2, opts3, opts4⟩ := bytes_field Try.underlying23 Try.underlying5 Try.oneU8 g9
    obtain ⟨_, _, g10⟩ := one_field (c := c10) hs h t10 Try.oneBytes rfl
    obtain ⟨Abody, body, cbody, rfl, body1, body2, body3, body4⟩ := bytes_field Try.underlying23 Try.underlying5 Try.oneU8 g10
    exact ⟨⟨tos, id, df, mf, off, ttl, proto, src, dst, opts, body⟩, Aopts, copts, Abody, cbody, ⟨(bounds_u32 wsrc).1, (bounds_u32 wsrc).2, (bounds_u32 wdst).1, (bounds_u32 wdst).2, hat 0 (by omega), hat 1 (by omega), hat 2 (by omega), hat 3 (by omega), hat 4 (by omega), hat 5 (by omega), hat 6 (by omega), hat 7 (by omega), hat 8 (by omega), hat 9 (by omega), hat 10 (by omega), ⟨opts1, opts2, opts3, opts4.bv fun _ h => h⟩, ⟨body1, body2, body3, body4.bv fun _ h => h⟩⟩⟩
/-- two cells that are a run. -/
theorem rn_cells {n : Nat} {cs : List Value} {x : DataW H × List MemPlace} (h : DataW.trod enc Try.prog w base spare held n 66 cs = some x) (hl : cs.length = 2) {ad : Addr} {k : Nat} (hat : ∀ i, i < 2 → w.cell? (ad.add (k + i)) = cs[i]?) :
    ∃ r : Rn, w.cell? (ad.add k) = some (.int .i64 r.off) ∧ ∃ Ad cd, w.cell? (ad.add (k + 1)) = some (.slice Ad r.data.length cd) ∧ ByIn w (oldV w) Ad cd r.data := by
  obtain ⟨fs, hs, t0, t1⟩ := rnc_fields
  match cs, hl with
  | [c0, c1], _ =>
    obtain ⟨_, _, g0⟩ := one_field (c := c0) hs h t0 Try.oneInt rfl
    obtain ⟨off, rfl, _⟩ := int_field Try.underlying3 g0
    obtain ⟨_, _, g1⟩ := one_field (c := c1) hs h t1 Try.oneBytes rfl
    obtain ⟨Ad, dat, cd, rfl, d1, d2, d3, d4⟩ := bytes_field Try.underlying23 Try.underlying5 Try.oneU8 g1
    exact ⟨⟨off, dat⟩, hat 0 (by omega), Ad, cd, hat 1 (by omega), ⟨d1, d2, d3, d4.bv fun _ h => h⟩⟩
instance : Inhabited Rn := ⟨⟨0, []⟩⟩
/-- a field that is a row of runs. -/
theorem runs_field {n : Nat} {c : Value} {y : DataW H × List MemPlace} (hf : DataW.trod enc Try.prog w base spare held n 40 [c] = some y) :
    ∃ (A : Option Addr) (rs : List Rn) (cp : Nat), c = .slice A rs.length cp ∧ rs.length ≤ cp ∧ cp ≤ 9223372036854775807 ∧ (A = none → cp = 0) ∧ Rs w (oldV w) A rs := by
  rcases Go.Deep.open_slice Try.underlying40 hf with ⟨hcs, _⟩ | ⟨a, len, cap, m, n', D, Pl, hcs, hb, hl, hm, hmm, hx, hi⟩
  · simp at hcs
    subst hcs
    exact ⟨none, [], 0, rfl, by simp, by omega, fun _ => rfl, .inl rfl⟩
  · simp at hcs
    subst hcs
    unfold maxLen at hm
    have hlm : len ≤ m := by rw [hmm]; split <;> omega
    have one : ∀ i, i < len → ∃ o : Rn, w.cell? (a.add (i * 2)) = some (.int .i64 o.off) ∧ ∃ Ad cd, w.cell? (a.add (i * 2 + 1)) = some (.slice Ad o.data.length cd) ∧ ByIn w (oldV w) Ad cd o.data := by
      intro i hil
      obtain ⟨cs', hc, ht'⟩ := hi i (by omega)
      rw [Try.cellsRun] at hc
      obtain ⟨_, hcl, hat⟩ := World.cells?_some hc
      exact rn_cells ht' hcl (fun j hj => by rw [← Go.Deep.add_add]; exact hat j hj)
    obtain ⟨f, hf⟩ := Go.Deep.choose_lt one
    refine ⟨some a, (List.range len).map f, cap, by simp, by simpa using hl, by omega, (fun h => by cases h), ?_⟩
    by_cases h0 : len = 0
    · subst h0; exact .inl rfl
    · have hlt : (a.add (0 * 2)).block < w.heap.size := by
        exact World.block_lt_of_cell? w _ (hf 0 (by omega)).1
      rw [block_add] at hlt
      refine .inr ⟨a, rfl, hlt, fun j o hj => ?_⟩
      rw [List.getElem?_map, Option.map_eq_some_iff] at hj
      obtain ⟨j', hj', rfl⟩ := hj
      have hjl : j < len := by have := (List.getElem?_eq_some_iff.1 hj').1; simpa using this
      rw [List.getElem?_range hjl] at hj'
      cases hj'
      exact hf j hjl
instance : Inhabited Pk := ⟨Pk.empty⟩
/-- a row of packets. -/
theorem pks_field {n : Nat} {c : Value} {y : DataW H × List MemPlace} (hf : DataW.trod enc Try.prog w base spare held n 22 [c] = some y) :
    ∃ (A : Option Addr) (rs : List Pk) (cp : Nat), c = .slice A rs.length cp ∧ rs.length ≤ cp ∧ cp ≤ 9223372036854775807 ∧ (A = none → cp = 0) ∧ Ps w (oldV w) A rs := by
  rcases Go.Deep.open_slice Try.underlying22 hf with ⟨hcs, _⟩ | ⟨a, len, cap, m, n', D, Pl, hcs, hb, hl, hm, hmm, hx, hi⟩
  · simp at hcs
    subst hcs
    exact ⟨none, [], 0, rfl, by simp, by omega, fun _ => rfl, .inl rfl⟩
  · simp at hcs
    subst hcs
    unfold maxLen at hm
    have hlm : len ≤ m := by rw [hmm]; split <;> omega
    have one : ∀ i, i < len → ∃ o : Pk, ∃ Ao co Ab cb, PkCells w (oldV w) a (i * 11) o Ao co Ab cb := by
      intro i hil
      obtain ⟨cs', hc, ht'⟩ := hi i (by omega)
      rw [Try.cellsIP] at hc
      obtain ⟨_, hcl, hat⟩ := World.cells?_some hc
      exact pk_cells ht' hcl (fun j hj => by rw [← Go.Deep.add_add]; exact hat j hj)
    obtain ⟨f, hf⟩ := Go.Deep.choose_lt one
    refine ⟨some a, (List.range len).map f, cap, by simp, by simpa using hl, by omega, (fun h => by cases h), ?_⟩
    by_cases h0 : len = 0
    · subst h0; exact .inl rfl
    · have hlt : (a.add (0 * 11)).block < w.heap.size := by
        obtain ⟨_, _, _, _, q⟩ := hf 0 (by omega)
        exact World.block_lt_of_cell? w _ q.c0
      rw [block_add] at hlt
      refine .inr ⟨a, rfl, hlt, fun j o hj => ?_⟩
      rw [List.getElem?_map, Option.map_eq_some_iff] at hj
      obtain ⟨j', hj', rfl⟩ := hj
      have hjl : j < len := by have := (List.getElem?_eq_some_iff.1 hj').1; simpa using this
      rw [List.getElem?_range hjl] at hj'
      cases hj'
      exact hf j hjl
/-- nineteen cells that are a packet that is put together. -/
theorem bfo_cells {n : Nat} {cs : List Value} {x : DataW H × List MemPlace} (h : DataW.trod enc Try.prog w base spare held n 42 cs = some x) (hl : cs.length = 19) {ad : Addr} {k : Nat} (hat : ∀ i, i < 19 → w.cell? (ad.add (k + i)) = cs[i]?) :
    ∃ (b : Bf) (Ao : Option Addr) (co : Nat) (Ab : Option Addr) (cb : Nat) (Ar : Option Addr) (cr : Nat), BfCells w (oldV w) ad k b Ao co Ab cb Ar cr := by
  obtain ⟨fs, hs, t0, t1, t2, t3, t4, t5, t6, t7, t8⟩ := bfc_fields
  obtain ⟨_, _, gh⟩ := some_field hs h t5
  rw [Try.cellsIP] at gh
  obtain ⟨head, Ao, co, Ab, cb, hh⟩ := pk_cells (ad := ad) (k := k + 5) gh (by simp; omega) (fun i hi => by
    rw [List.getElem?_take, if_pos hi, List.getElem?_drop, Nat.add_assoc]
    exact hat (5 + i) (by omega))
  match cs, hl with
  | [c0, c1, c2, c3, c4, c5, c6, c7, c8, c9, c10, c11, c12, c13, c14, c15, c16, c17, c18], _ =>
    obtain ⟨_, _, g0⟩ := one_field (c := c0) hs h t0 Try.oneU32 rfl
    obtain ⟨src, rfl, wsrc⟩ := int_field Try.underlying31 g0
    obtain ⟨_, _, g1⟩ := one_field (c := c1) hs h t1 Try.oneU32 rfl
    obtain ⟨dst, rfl, wdst⟩ := int_field Try.underlying31 g1
    obtain ⟨_, _, g2⟩ := one_field (c := c2) hs h t2 Try.oneInt rfl
    obtain ⟨id, rfl, _⟩ := int_field Try.underlying3 g2
    obtain ⟨_, _, g3⟩ := one_field (c := c3) hs h t3 Try.oneInt rfl
    obtain ⟨proto, rfl, _⟩ := int_field Try.underlying3 g3
    obtain ⟨_, _, g4⟩ := one_field (c := c4) hs h t4 Try.oneInt rfl
    obtain ⟨born, rfl, _⟩ := int_field Try.underlying3 g4
    obtain ⟨_, _, g6⟩ := one_field (c := c16) hs h t6 Try.oneBool rfl
    obtain ⟨first, rfl⟩ := bool_field Try.underlying4 g6
    obtain ⟨_, _, g7⟩ := one_field (c := c17) hs h t7 Try.oneInt rfl
    obtain ⟨total, rfl, _⟩ := int_field Try.underlying3 g7
    obtain ⟨_, _, g8⟩ := one_field (c := c18) hs h t8 Try.oneRuns rfl
    obtain ⟨Aruns, runs, cruns, rfl, runs1, runs2, runs3, runs4⟩ := runs_field g8
    exact ⟨⟨src, dst, id, proto, born, head, first, total, runs⟩, Ao, co, Ab, cb, Aruns, cruns, ⟨(bounds_u32 wsrc).1, (bounds_u32 wsrc).2, (bounds_u32 wdst).1, (bounds_u32 wdst).2, hat 0 (by omega), hat 1 (by omega), hat 2 (by omega), hat 3 (by omega), hat 4 (by omega), hh, hat 16 (by omega), hat 17 (by omega), hat 18 (by omega), runs1, runs2, runs3, runs4⟩⟩
instance : Inhabited Bf := ⟨⟨0, 0, 0, 0, 0, Pk.empty, false, 0, []⟩⟩
/-- a field that is a row of packets that are put together. -/
theorem bufs_field {n : Nat} {c : Value} {y : DataW H × List MemPlace} (hf : DataW.trod enc Try.prog w base spare held n 25 [c] = some y) :
    ∃ (A : Option Addr) (rs : List Bf) (cp : Nat), c = .slice A rs.length cp ∧ rs.length ≤ cp ∧ cp ≤ 9223372036854775807 ∧ (A = none → cp = 0) ∧ Fs w (oldV w) A rs := by
  rcases Go.Deep.open_slice Try.underlying25 hf with ⟨hcs, _⟩ | ⟨a, len, cap, m, n', D, Pl, hcs, hb, hl, hm, hmm, hx, hi⟩
  · simp at hcs
    subst hcs
    exact ⟨none, [], 0, rfl, by simp, by omega, fun _ => rfl, .inl rfl⟩
  · simp at hcs
    subst hcs
    unfold maxLen at hm
    have hlm : len ≤ m := by rw [hmm]; split <;> omega
    have one : ∀ i, i < len → ∃ o : Bf, ∃ Ao co Ab cb Ar cr, BfCells w (oldV w) a (i * 19) o Ao co Ab cb Ar cr := by
      intro i hil
      obtain ⟨cs', hc, ht'⟩ := hi i (by omega)
      rw [Try.cellsBuffer] at hc
      obtain ⟨_, hcl, hat⟩ := World.cells?_some hc
      exact bfo_cells ht' hcl (fun j hj => by rw [← Go.Deep.add_add]; exact hat j hj)
    obtain ⟨f, hf⟩ := Go.Deep.choose_lt one
    refine ⟨some a, (List.range len).map f, cap, by simp, by simpa using hl, by omega, (fun h => by cases h), ?_⟩
    by_cases h0 : len = 0
    · subst h0; exact .inl rfl
    · have hlt : (a.add (0 * 19)).block < w.heap.size := by
        obtain ⟨_, _, _, _, _, _, q⟩ := hf 0 (by omega)
        exact World.block_lt_of_cell? w _ q.c0
      rw [block_add] at hlt
      refine .inr ⟨a, rfl, hlt, fun j o hj => ?_⟩
      rw [List.getElem?_map, Option.map_eq_some_iff] at hj
      obtain ⟨j', hj', rfl⟩ := hj
      have hjl : j < len := by have := (List.getElem?_eq_some_iff.1 hj').1; simpa using this
      rw [List.getElem?_range hjl] at hj'
      cases hj'
      exact hf j hjl
end
theorem po_fields : ∃ fs : Array Field, Try.prog.underlying 27 = some (.struct fs) ∧ Go.Deep.oneCellFields Try.prog fs = true ∧ Try.prog.cellsOf 27 = fs.size ∧ fs.size = 4 ∧
    (fs[0]?.map (·.type)) = some 3 ∧ (fs[1]?.map (·.type)) = some 3 ∧ (fs[2]?.map (·.type)) = some 3 ∧ (fs[3]?.map (·.type)) = some 25 :=
  ⟨_, Try.underlying27, by kernel_rfl, by kernel_rfl, rfl, rfl, rfl, rfl, rfl⟩
theorem po_field_at {fs : Array Field} {j : Nat} {t : TypeId} (h : (fs[j]?.map (·.type)) = some t) : ∃ f, fs[j]? = some f ∧ f.type = t := by
  rw [Option.map_eq_some_iff] at h
  exact h
/-- a pool that came in. -/
theorem open_po {H : Type} {enc : TypeId × Value → H} {w : World} {base : Nat} {spare : Nat → Bool} {held : Bool} {r : Reach} {b0 : Nat} {v : Value} {d : DataW H} {ps : List MemPlace}
    (hv : Value.okWide Try.prog w r b0 27 v) (h : DataW.Trod enc Try.prog w base spare held 27 v d ps) :
    ∃ (p : Po) (A : Option Addr) (c : Nat), v = poV p A c ∧ PoIn w (oldV w) p A c := by
  obtain ⟨fs, hs, hone, hC, h4, t0, t1, t2, t3⟩ := po_fields
  obtain ⟨cs, rfl, hl, hf⟩ := open_struct hs hone hC hv h
  rw [h4] at hl
  match cs, hl with
  | [c0, c1, c2, c3], _ =>
    obtain ⟨f0, e0, y0⟩ := po_field_at t0
    obtain ⟨_, _, g0⟩ := hf 0 f0 c0 e0 rfl
    rw [y0] at g0
    obtain ⟨f1, e1, y1⟩ := po_field_at t1
    obtain ⟨_, _, g1⟩ := hf 1 f1 c1 e1 rfl
    rw [y1] at g1
    obtain ⟨f2, e2, y2⟩ := po_field_at t2
    obtain ⟨_, _, g2⟩ := hf 2 f2 c2 e2 rfl
    rw [y2] at g2
    obtain ⟨f3, e3, y3⟩ := po_field_at t3
    obtain ⟨_, _, g3⟩ := hf 3 f3 c3 e3 rfl
    rw [y3] at g3
    obtain ⟨room, rfl, _⟩ := int_field Try.underlying3 g0
    obtain ⟨life, rfl, _⟩ := int_field Try.underlying3 g1
    obtain ⟨now, rfl, _⟩ := int_field Try.underlying3 g2
    obtain ⟨A, bs, c, rfl, b1, b2, b3, b4⟩ := bufs_field g3
    exact ⟨⟨room, life, now, bs⟩, A, c, rfl, b1, b2, b3, b4⟩
/-- packets that came in, in a row. -/
theorem open_pks {H : Type} {enc : TypeId × Value → H} {w : World} {base : Nat} {spare : Nat → Bool} {held : Bool} {r : Reach} {b0 : Nat} {v : Value} {d : DataW H} {ps : List MemPlace}
    (hv : Value.okWide Try.prog w r b0 22 v) (h : DataW.Trod enc Try.prog w base spare held 22 v d ps) :
    ∃ (A : Option Addr) (l : List Pk) (c : Nat), v = .slice A l.length c ∧ l.length ≤ c ∧ c ≤ 9223372036854775807 ∧ (A = none → c = 0) ∧ Ps w (oldV w) A l := by
  obtain ⟨a0, len, cap, rfl⟩ := okWide_slice Try.underlying22 hv
  obtain ⟨fuel, hf⟩ := h
  have hf' : DataW.trod enc Try.prog w base spare held fuel 22 [.slice a0 len cap] = some (d, ps) := by simpa [Value.cells] using hf
  exact pks_field hf'
end Go.Proofs.Ythejakbjekjhjaa
