/- Lemmas, several texts in one. -/
import Derived.Test.YtofpalmghdapkaaQ02
import Derived.Test.YtofpalmghdapkaaQ01
import Derived.Carry
import Derived.ProofKit
import Derived.OpenShut
import Derived.ChangeSlices
import Derived.Deep.Fields
import Derived.Test.YtofpalmghdapkaaRows
import Derived.Deep.Slices
import Derived.Deep.RegionHeld3
/- FlowsLeast, from the contracts. -/
namespace Go.Proofs.Ytofpalmghdapkaa
open Go.ChangeShapes Go.WideShapes Go.ChangeAt Go.RowKit
set_option linter.unusedVariables false
set_option linter.unusedSimpArgs false

theorem rng_least (i : Nat) (h : i ≤ 100) : RngFl (leastF i) := by
  refine ⟨⟨?_, ?_, ?_, ?_⟩, ⟨?_, ?_, ?_, ?_⟩⟩ <;> simp [leastF] <;> omega
theorem rng_nine : RngFl flow9 := ⟨⟨by decide, by decide, by decide, by decide⟩, ⟨by decide, by decide, by decide, by decide⟩⟩
/-- what Add answers in the loop. -/
theorem least_step (n i : Nat) (hi : i ≤ n) (h1 : 1 ≤ n) (hn : n ≤ 40) : ∃ (k e : Int), addS (leastS n i) (leastF i) = (leastS n (if i < n then i + 1 else n), k, e) ∧ (i < n → k = (i : Int) ∧ e = 0) ∧ (i = n → e = 8) := by
  by_cases h : i < n
  · exact ⟨(i : Int), 0, by rw [if_pos h]; exact least_add n i h hn, fun _ => ⟨rfl, rfl⟩, fun e => by omega⟩
  · have e : i = n := by omega
    subst e
    exact ⟨0, 8, by rw [if_neg h]; exact least_full i hn, fun h' => absurd h' h, fun _ => rfl⟩
set_option maxRecDepth 100000 in
set_option maxHeartbeats 16000000 in
theorem flowsLeast (K : StoreC) (r d : Int) (w : World) (r0 : 0 ≤ r) (r1 : r ≤ 255) (d0 : 0 ≤ d) (d1 : d ≤ 255) :
    Calls Try.prog 5 #[.int .u8 r, .int .u8 d] w fun e w' => e = .returned (.bool true) ∧ Below w.heap.size w w' := by
  have kA := Go.Lib.hid (cawake12 K)
  obtain ⟨n, hn⟩ : ∃ n : Nat, r % 40 + 1 = (n : Int) := ⟨(r % 40 + 1).toNat, by omega⟩
  have n1 : 1 ≤ n := by omega
  have n2 : n ≤ 40 := by omega
  have HNW := Go.Lib.hid (least_new n n1 n2)
  go_enter Try.func5, Try.ntmps5
  go_upto_region 4 with (first
    | (go_at_call 6; refine (kA.out _).mono ?_; rintro e w1 ⟨rfl, y1⟩; dsimp only))
  try simp only [hn]
  go_wp2_with (first
    | (go_at_call 7; refine (K.new1 (n : Int) _ _ HNW.out).mono ?_; rintro e w2 ⟨ad, F, rfl, r2, f2, y2⟩; have H2 := Go.Lib.hid (SrI.made y1 r2 f2 y2); clear r2 f2 y2; dsimp only))
  go_loopw [8] (fun iv wr => ∃ (i : Nat) (F' : Nat → Prop), iv = .int .i64 i ∧ i ≤ n + 1 ∧ Hid (SrI K w ad (leastS n (if i < n then i else n)) F' wr)) (fun iv _ => 300 - (intOf iv).toNat)
  case atStart => exact ⟨0, F, rfl, by omega, by rw [if_pos (by omega)]; exact H2⟩
  case round =>
    rename World => wo
    obtain ⟨i, F1, rfl, hi1, HI⟩ := hrel
    clear H2
    have i0 : (0 : Int) ≤ (i : Int) := by omega
    by_cases hlt : i ≤ n
    · have t1 : (i : Int) ≤ (n : Int) := by omega
      have hss : (if i < n then i else n) = i := by split <;> omega
      rw [hss] at HI
      obtain ⟨k, e, ha, hk, he⟩ := least_step n i hlt n1 n2
      have HA := Go.Lib.hid ha
      have y2 : Below wo.heap.size wo (wo.alloc (oFl (leastF i))) := below_alloc (Below.refl _ _) (Nat.le_refl _) _
      have HI2 := Go.Lib.hid (HI.out.call y2)
      have B2 : Hid (Bxf F1 wo.heap.size 40 (flL (leastF i)) (wo.alloc (oFl (leastF i)))) := Go.Lib.hid ⟨Bxo.made wo 40 (flL (leastF i)), fun hb => by have := K.lt HI.out.rep _ hb; omega⟩
      have tw : (i : Int) % 4294967296 = (i : Int) := by omega
      clear ha HI y2
      go_upto_region 11 with fail
      generalize wo.alloc (oFl (leastF i)) = W2 at *
      generalize wo.heap.size = g2 at *
      go_upto_region 12 with (first
        | (refine wpList_load_box rfl 40 _ rfl g2 rfl (flL (leastF i)) _ B2.out.box Try.underlying40 rfl info_fl ?_)
        | (go_at_call 9; refine (K.add HI2.out.rep (leastF i) _ (rng_least i (by omega)) HA.out).mono ?_; rintro e3 w3 ⟨F3, rfl, r3, n3, m3⟩; have H3 := Go.Lib.hid (HI2.out.turn r3 n3 m3); clear r3 n3 m3; dsimp only))
      clear HI2 B2 HA
      by_cases hin : i < n
      · have t2 : (i : Int) < (n : Int) := by omega
        have t3 : ¬ (i : Int) = (n : Int) := by omega
        have t3' : ((i : Int) == (n : Int)) = false := by simpa using t3
        obtain ⟨rfl, rfl⟩ := hk hin
        have t4 : ((i : Int) != (i : Int)) = false := by simp
        rw [if_pos hin] at H3
        go_wp2
        go_round
        case rel => exact ⟨i + 1, F3, by go_num, by omega, by
          rw [show (if i + 1 < n then i + 1 else n) = i + 1 by split <;> omega]; exact H3⟩
        case measure => simp [intOf]; omega
      · have t2 : ¬ (i : Int) < (n : Int) := by omega
        have hie : i = n := by omega
        subst hie
        have t3 : ((i : Int) == (i : Int)) = true := by simp
        obtain rfl := he rfl
        rw [if_neg hin] at H3
        go_wp2
        go_round
        case rel => exact ⟨i + 1, F3, by go_num, by omega, by
          rw [show (if i + 1 < i then i + 1 else i) = i by split <;> omega]; exact H3⟩
        case measure => simp [intOf]; omega
    · have t1 : ¬ (i : Int) ≤ (n : Int) := by omega
      have hss : (if i < n then i else n) = n := by split <;> omega
      rw [hss] at HI
      obtain ⟨D, hD⟩ : ∃ D : Nat, d % (n : Int) = (D : Int) := ⟨(d % (n : Int)).toNat, by have := Int.emod_nonneg d (b := (n : Int)) (by omega); omega⟩
      have hDn : D < n := by have := Int.emod_lt_of_pos d (b := (n : Int)) (by omega); omega
      have HDR := Go.Lib.hid (least_drop n D hDn)
      obtain ⟨S9, hS9, hl9⟩ := least_again n D hDn n2
      have HS9 := Go.Lib.hid hS9
      have HL9 : Hid (((allF S9.slots).length : Int) = (n : Int)) := Go.Lib.hid (by rw [hl9])
      clear hS9 hl9
      have tD : ((D : Int) == (D : Int)) = true := by simp
      have tn : ((n : Int) == (n : Int)) = true := by simp
      go_upto_region 16 with (first
        | (go_at_call 12; refine (K.drop HI.out.rep (D : Int) _ (by unfold I64; omega) HDR.out).mono ?_; rintro e3 w3 ⟨F3, rfl, r3, n3, m3⟩; have H3 := Go.Lib.hid (HI.out.turn r3 n3 m3); clear r3 n3 m3; dsimp only))
      have y2 : Below w3.heap.size w3 (w3.alloc (oFl (leastF D))) := below_alloc (Below.refl _ _) (Nat.le_refl _) _
      have H4 := Go.Lib.hid (H3.out.call y2)
      have B4 : Hid (Bxf F3 w3.heap.size 40 (flL (leastF D)) (w3.alloc (oFl (leastF D)))) := Go.Lib.hid ⟨Bxo.made w3 40 (flL (leastF D)), fun hb => by have := K.lt H3.out.rep _ hb; omega⟩
      clear y2 H3
      generalize w3.alloc (oFl (leastF D)) = W4 at *
      generalize w3.heap.size = g4 at *
      go_upto_region 17 with (first
        | (go_at_call 9; refine (K.add H4.out.rep flow9 _ rng_nine HS9.out).mono ?_; rintro e5 w5 ⟨F5, rfl, r5, n5, m5⟩; have H5 := Go.Lib.hid (H4.out.turn r5 n5 m5); have B5 := Go.Lib.hid (B4.out.turn n5 m5); clear r5 n5 m5; dsimp only))
      have b1 := B5.out.box.cell 1 rfl
      have tw : (D : Int) % 4294967296 = (D : Int) := by omega
      go_wp2_with (first
        | (go_at_call 16; refine (K.len_ H5.out.rep (n : Int) HL9.out).mono ?_; rintro e w6 ⟨rfl, y6⟩; have H6 := Go.Lib.hid (H5.out.call y6); dsimp only))
      go_ret
      exact ⟨rfl, H6.out.below⟩
end Go.Proofs.Ytofpalmghdapkaa

/- Structs of one-cell fields among the arguments, opened: any number of fields; a packet. No condition. -/
namespace Go.Proofs.Ytofpalmghdapkaa
open Go.ChangeShapes Go.WideShapes Go.ChangeAt Go.RowKit
set_option linter.unusedVariables false

section
variable {H : Type} {enc : TypeId × Value → H} {P : Program} {w : World} {base : Nat} {spare : Nat → Bool} {held : Bool}
/-- a struct by value: its cells, each read by its field's type. -/
theorem open_struct {r : Reach} {b0 : Nat} {t : TypeId} {fs : Array Field} {v : Value} {d : DataW H} {ps : List MemPlace} (hs : P.underlying t = some (.struct fs)) (hone : Go.Deep.oneCellFields P fs = true) (hC : P.cellsOf t = fs.size)
    (hv : Value.okWide P w r b0 t v) (h : DataW.Trod enc P w base spare held t v d ps) :
    ∃ cs : List Value, v = .agg cs.toArray ∧ cs.length = fs.size ∧ ∀ (j : Nat) (f : Field) (c : Value), fs[j]? = some f → cs[j]? = some c → ∃ (y : DataW H × List MemPlace) (n : Nat), DataW.trod enc P w base spare held n f.type [c] = some y := by
  obtain ⟨cs, rfl, hsz⟩ := okWide_struct hs hv
  obtain ⟨fuel, hf⟩ := h
  obtain ⟨xs, n, _, hx, _, hlen, hg⟩ := DataW.trod_struct hs hf
  refine ⟨cs.toList, by simp, by simpa using hsz.trans hC, fun j f c hj hc => ?_⟩
  obtain ⟨ho, hk⟩ := Go.Deep.hone_of hone j f hj
  have hjl : j < fs.size := (Array.getElem?_eq_some_iff.1 hj).1
  have hjc : j < cs.size := by rw [hsz, hC]; exact hjl
  have h1 := hg j f hj
  have e : cs.toList[j]? = some cs[j] := by rw [Array.getElem?_toList, Array.getElem?_eq_getElem hjc]
  rw [ho, hk] at h1
  have hone' : ((Value.agg cs).cells.toList.drop j).take 1 = [cs[j]] := by
    show (cs.toList.drop j).take 1 = _
    rw [List.drop_eq_getElem_cons (by simpa using hjc)]
    simp
  rw [hone'] at h1
  obtain rfl := Option.some.inj (hc.symm.trans e)
  exact ⟨xs[j]'(by omega), n, by rw [h1]; exact List.getElem?_eq_getElem (by omega)⟩
/-- a field that is a slice of bytes. -/
theorem bytes_field {t e : TypeId} {n : Nat} {c : Value} {y : DataW H × List MemPlace} (ht : P.underlying t = some (.slice e)) (he : P.underlying e = some (.int .u8)) (hc : P.cellsOf e = 1) (hf : DataW.trod enc P w base spare held n t [c] = some y) :
    ∃ (A : Option Addr) (l : List UInt8) (cp : Nat), c = .slice A l.length cp ∧ l.length ≤ cp ∧ cp ≤ 9223372036854775807 ∧ (A = none → cp = 0) ∧ Bs w w.heap.size A l := by
  rcases open_ints ht he hc hf with ⟨hcs, _⟩ | ⟨a, len', cap', zs, hcs, _, hl, hm, hz, _, hcell, hwz⟩
  · simp at hcs
    subst hcs
    exact ⟨none, [], 0, rfl, by simp, by omega, fun _ => rfl, .inl rfl⟩
  · simp at hcs
    subst hcs
    have hlz : len' ≤ zs.length := by rw [hz]; split <;> omega
    have hll : ((zs.take len').map fun n => UInt8.ofNat n.toNat).length = len' := by simp; omega
    unfold maxLen at hm
    refine ⟨some a, (zs.take len').map fun n => UInt8.ofNat n.toNat, cap', by rw [hll], by omega, by omega, fun h => (by cases h), ?_⟩
    by_cases h0 : len' = 0
    · subst h0; exact .inl (by simp)
    · have hc0 := hcell 0 (by omega)
      have hlt := World.block_lt_of_cell? w _ hc0
      rw [block_add] at hlt
      refine .inr ⟨a, rfl, hlt, fun j b hj => ?_⟩
      rw [List.getElem?_map, Option.map_eq_some_iff] at hj
      obtain ⟨n, hn, rfl⟩ := hj
      rw [List.getElem?_take] at hn
      split at hn
      · rename_i hjl
        have hjz : j < zs.length := by omega
        rw [List.getElem?_eq_getElem hjz] at hn
        obtain rfl := Option.some.inj hn
        rw [hcell j hjz]
        have hw := hwz zs[j] (List.getElem_mem hjz)
        simp only [Lit.wf, Bool.and_eq_true, decide_eq_true_eq] at hw
        have hw0 : 0 ≤ zs[j] ∧ zs[j] ≤ 255 := hw
        have hg : zs.getD j 0 = zs[j] := by simp [List.getD, hjz]
        rw [hg, UInt8.toNat_ofNat_of_lt' (by show _ < 256; omega)]
        congr 2; omega
      · cases hn
theorem int_field {t : TypeId} {k : IntKind} {n : Nat} {c : Value} {y : DataW H × List MemPlace} (ht : P.underlying t = some (.int k)) (hf : DataW.trod enc P w base spare held n t [c] = some y) : ∃ x : Int, c = .int k x ∧ (Lit.int k x).wf = true := by
  obtain ⟨x, h, _, hw⟩ := DataW.trod_int ht hf
  exact ⟨x, by simpa using h, hw⟩
theorem bool_field {t : TypeId} {n : Nat} {c : Value} {y : DataW H × List MemPlace} (ht : P.underlying t = some .bool) (hf : DataW.trod enc P w base spare held n t [c] = some y) : ∃ b : Bool, c = .bool b := by
  obtain ⟨b, h, _⟩ := DataW.trod_bool ht hf
  exact ⟨b, by simpa using h⟩
end
end Go.Proofs.Ytofpalmghdapkaa

/- A struct's fields among a law's arguments, of one cell or more. No condition. -/
namespace Go.Proofs.Ytofpalmghdapkaa
open Go.ChangeShapes Go.WideShapes Go.ChangeAt Go.RowKit
set_option linter.unusedVariables false

section
variable {H : Type} {enc : TypeId × Value → H} {P : Program} {w : World} {base : Nat} {spare : Nat → Bool} {held : Bool}
/-- a struct's field, of any number of cells. -/
theorem some_field {t ty : TypeId} {fs : Array Field} {n : Nat} {cs : List Value} {x : DataW H × List MemPlace} (hs : P.underlying t = some (.struct fs)) (h : DataW.trod enc P w base spare held n t cs = some x) {j o : Nat}
    (hj : (fs[j]?.map fun f => (f.type, f.offset)) = some (ty, o)) : ∃ (y : DataW H × List MemPlace) (m : Nat), DataW.trod enc P w base spare held m ty ((cs.drop o).take (P.cellsOf ty)) = some y := by
  obtain ⟨xs, m, _, _, _, hlen, hg⟩ := DataW.trod_struct hs h
  rw [Option.map_eq_some_iff] at hj
  obtain ⟨f, hf, he⟩ := hj
  obtain ⟨rfl, rfl⟩ := Prod.mk.inj he
  have hjl : j < fs.size := (Array.getElem?_eq_some_iff.1 hf).1
  exact ⟨xs[j]'(by omega), m, by rw [hg j f hf]; exact List.getElem?_eq_getElem (by omega)⟩
/-- a struct's field of one cell. -/
theorem one_field {t ty : TypeId} {fs : Array Field} {n : Nat} {cs : List Value} {x : DataW H × List MemPlace} (hs : P.underlying t = some (.struct fs)) (h : DataW.trod enc P w base spare held n t cs = some x) {j o : Nat} {c : Value}
    (hj : (fs[j]?.map fun f => (f.type, f.offset)) = some (ty, o)) (hc : P.cellsOf ty = 1) (he : cs[o]? = some c) : ∃ (y : DataW H × List MemPlace) (m : Nat), DataW.trod enc P w base spare held m ty [c] = some y := by
  obtain ⟨y, m, h1⟩ := some_field hs h hj
  obtain ⟨ho, hoe⟩ := List.getElem?_eq_some_iff.1 he
  rw [hc, List.drop_eq_getElem_cons ho] at h1
  exact ⟨y, m, by rw [hoe] at h1; simpa using h1⟩
end
end Go.Proofs.Ytofpalmghdapkaa

/- Acts of a store in memory; what a store keeps, act by act. -/
namespace Go.Proofs.Ytofpalmghdapkaa
open Go.ChangeShapes Go.WideShapes Go.ChangeAt Go.RowKit
set_option linter.unusedVariables false
set_option linter.unusedSimpArgs false

structure Af where
  kind : Int
  fl : Fl
  num : Int
  at_ : Int
  no : Int
def Af.L (a : Af) : List Value := [.int .i64 a.kind, .int .i64 a.fl.there.proto, .int .u32 a.fl.there.src, .int .i64 a.fl.there.sport, .int .u32 a.fl.there.dst, .int .i64 a.fl.there.dport, .int .i64 a.fl.back.proto, .int .u32 a.fl.back.src, .int .i64 a.fl.back.sport, .int .u32 a.fl.back.dst, .int .i64 a.fl.back.dport, .int .i64 a.fl.until_, .int .i64 a.fl.note, .int .i64 a.num, .int .i64 a.at_, .int .i64 a.no]
abbrev afL (a : Af) : List Value := [.int .i64 a.kind, .int .i64 a.fl.there.proto, .int .u32 a.fl.there.src, .int .i64 a.fl.there.sport, .int .u32 a.fl.there.dst, .int .i64 a.fl.there.dport, .int .i64 a.fl.back.proto, .int .u32 a.fl.back.src, .int .i64 a.fl.back.sport, .int .u32 a.fl.back.dst, .int .i64 a.fl.back.dport, .int .i64 a.fl.until_, .int .i64 a.fl.note, .int .i64 a.num, .int .i64 a.at_, .int .i64 a.no]
abbrev oAf (a : Af) : Obj := .cells #[.int .i64 a.kind, .int .i64 a.fl.there.proto, .int .u32 a.fl.there.src, .int .i64 a.fl.there.sport, .int .u32 a.fl.there.dst, .int .i64 a.fl.there.dport, .int .i64 a.fl.back.proto, .int .u32 a.fl.back.src, .int .i64 a.fl.back.sport, .int .u32 a.fl.back.dst, .int .i64 a.fl.back.dport, .int .i64 a.fl.until_, .int .i64 a.fl.note, .int .i64 a.num, .int .i64 a.at_, .int .i64 a.no] 53
theorem Af.len (a : Af) : a.L.length = 16 := rfl
theorem info_af : (Try.prog.info? 53).map (·.size) = some 16 := by kernel_rfl
/-- acts in a row. -/
structure AfsAt (w : World) (l : List Af) (A : Option Addr) (c : Nat) : Prop where
  len : l.length ≤ c
  cap : c ≤ 9223372036854775807
  nil : A = none → c = 0
  rd : RdC w A (l.flatMap Af.L)
  rng : ∀ a ∈ l, RngFl a.fl ∧ I64 a.num
theorem AfsAt.cell {w : World} {l : List Af} {A : Option Addr} {c : Nat} (h : AfsAt w l A c) {i : Nat} (hi : i < l.length) : ∃ ad, A = some ad ∧ ∀ Y, Below w.heap.size w Y → ∀ j v, (afL l[i])[j]? = some v → Y.cell? ((ad.add (i * 16)).add j) = some v := by
  rcases h.rd with h0 | ⟨ad, e, hc⟩
  · have := flat_len Af.L 16 Af.len l
    rw [h0] at this
    simp at this
    omega
  · refine ⟨ad, e, fun Y y j v hv => ?_⟩
    have hj : j < 16 := by have := (List.getElem?_eq_some_iff.1 hv).1; simpa using this
    have h1 : (l.flatMap Af.L)[i * 16 + j]? = some v := by
      rw [flat_get Af.L 16 Af.len l i j hi hj]; exact hv
    have h2 := hc _ _ h1
    rw [add_add]
    exact (y.cell (World.block_lt_of_cell? w _ h2)).trans h2
/-- an act's flow in its box. -/
theorem Bxo.flow {w : World} {g : Nat} {ty : TypeId} {a : Af} (h : Bxo w g ty (afL a)) : ∀ j v, (flL a.fl)[j]? = some v → w.cell? ((⟨g, 1, none⟩ : Addr).add j) = some v := fun j v hj => by
  rw [Addr.add_mid]
  refine h.cell _ ?_
  have hl := (List.getElem?_eq_some_iff.1 hj).1
  match j, hl with
  | 0, _ => exact hj
  | 1, _ => exact hj
  | 2, _ => exact hj
  | 3, _ => exact hj
  | 4, _ => exact hj
  | 5, _ => exact hj
  | 6, _ => exact hj
  | 7, _ => exact hj
  | 8, _ => exact hj
  | 9, _ => exact hj
  | 10, _ => exact hj
  | 11, _ => exact hj
/-- a flow's tuples in its row. -/
theorem fl_there {w : World} {ad : Addr} {f : Fl} (h : ∀ j v, (flL f)[j]? = some v → w.cell? (ad.add j) = some v) : ∀ j v, (tpL f.there)[j]? = some v → w.cell? (ad.add j) = some v := fun j v hj => by
  refine h _ _ ?_
  have hl := (List.getElem?_eq_some_iff.1 hj).1
  match j, hl with
  | 0, _ => exact hj
  | 1, _ => exact hj
  | 2, _ => exact hj
  | 3, _ => exact hj
  | 4, _ => exact hj
theorem fl_back {w : World} {ad : Addr} {f : Fl} (h : ∀ j v, (flL f)[j]? = some v → w.cell? (ad.add j) = some v) : ∀ j v, (tpL f.back)[j]? = some v → w.cell? ((ad.add 5).add j) = some v := fun j v hj => by
  rw [add_add]
  refine h _ _ ?_
  have hl := (List.getElem?_eq_some_iff.1 hj).1
  match j, hl with
  | 0, _ => exact hj
  | 1, _ => exact hj
  | 2, _ => exact hj
  | 3, _ => exact hj
  | 4, _ => exact hj
/-- what an act leaves as it is. -/
theorem add_keeps (s : Sr) (f : Fl) : (addS s f).1.now = s.now ∧ (addS s f).1.slots.length = s.slots.length := by
  rcases add_cases s f with ⟨e, h, _⟩ | ⟨i, h, _⟩
  · rw [h]; exact ⟨rfl, rfl⟩
  · rw [h]; exact ⟨rfl, List.length_set⟩
theorem set_keeps (s : Sr) (n u no : Int) : (setF11 s n u no).1.now = s.now ∧ (setF11 s n u no).1.slots.length = s.slots.length := by
  unfold setF11
  split
  · exact ⟨rfl, rfl⟩
  · split
    · exact ⟨rfl, rfl⟩
    · split
      · exact ⟨rfl, rfl⟩
      · exact ⟨rfl, List.length_set⟩
theorem drop_keeps (s : Sr) (n : Int) : (dropF s n).1.now = s.now ∧ (dropF s n).1.slots.length = s.slots.length := by
  unfold dropF
  split
  · exact ⟨rfl, rfl⟩
  · exact ⟨rfl, List.length_set⟩
theorem tick_keeps (s : Sr) (n : Int) : (((tickF s n).2.2 = 0 ∧ (tickF s n).1.now = n) ∨ ((tickF s n).2.2 = 1 ∧ (tickF s n).1.now = s.now)) ∧ (tickF s n).1.slots.length = s.slots.length := by
  unfold tickF
  split
  · exact ⟨.inr ⟨rfl, rfl⟩, rfl⟩
  · exact ⟨.inl ⟨rfl, rfl⟩, by dsimp only; exact List.length_map _⟩
/-- the flows of a right store, as a list. -/
theorem all_slot {x : Sr} {k : Nat} (hk : k < (allF x.slots).length) : ∃ i, slotF x.slots i = some (allF x.slots)[k] := allF_mem.1 (List.getElem_mem hk)
theorem all_apart {x : Sr} (r : RightS x) {j k : Nat} (hk : k < (allF x.slots).length) (hj : j < k) : (allF x.slots)[j].there ≠ (allF x.slots)[k].there ∧ (allF x.slots)[j].there ≠ (allF x.slots)[k].back ∧ (allF x.slots)[j].back ≠ (allF x.slots)[k].there ∧ (allF x.slots)[j].back ≠ (allF x.slots)[k].back :=
  List.pairwise_iff_getElem.1 (allF_apart x.slots r.apart) j k (by omega) hk hj
end Go.Proofs.Ytofpalmghdapkaa

/- Acts of a store among a law's arguments, opened. No condition. -/
namespace Go.Proofs.Ytofpalmghdapkaa
open Go.ChangeShapes Go.WideShapes Go.ChangeAt Go.RowKit
set_option linter.unusedVariables false

theorem Y.oneInt : Try.prog.cellsOf 3 = 1 := by kernel_rfl
theorem Y.oneU32 : Try.prog.cellsOf 36 = 1 := by kernel_rfl
theorem Y.cellsTp : Try.prog.cellsOf 38 = 5 := by kernel_rfl
theorem Y.cellsFl : Try.prog.cellsOf 40 = 12 := by kernel_rfl
theorem Y.cellsAct : Try.prog.cellsOf 53 = 16 := by kernel_rfl
theorem tpy_fields : ∃ fs : Array Field, Try.prog.underlying 38 = some (.struct fs) ∧ (fs[0]?.map fun f => (f.type, f.offset)) = some (3, 0) ∧ (fs[1]?.map fun f => (f.type, f.offset)) = some (36, 1) ∧ (fs[2]?.map fun f => (f.type, f.offset)) = some (3, 2) ∧ (fs[3]?.map fun f => (f.type, f.offset)) = some (36, 3) ∧ (fs[4]?.map fun f => (f.type, f.offset)) = some (3, 4) :=
  ⟨_, Try.underlying38, rfl, rfl, rfl, rfl, rfl⟩
theorem fl_fields : ∃ fs : Array Field, Try.prog.underlying 40 = some (.struct fs) ∧ (fs[0]?.map fun f => (f.type, f.offset)) = some (38, 0) ∧ (fs[1]?.map fun f => (f.type, f.offset)) = some (38, 5) ∧ (fs[2]?.map fun f => (f.type, f.offset)) = some (3, 10) ∧ (fs[3]?.map fun f => (f.type, f.offset)) = some (3, 11) :=
  ⟨_, Try.underlying40, rfl, rfl, rfl, rfl⟩
theorem act12_fields : ∃ fs : Array Field, Try.prog.underlying 53 = some (.struct fs) ∧ (fs[0]?.map fun f => (f.type, f.offset)) = some (3, 0) ∧ (fs[1]?.map fun f => (f.type, f.offset)) = some (40, 1) ∧ (fs[2]?.map fun f => (f.type, f.offset)) = some (3, 13) ∧ (fs[3]?.map fun f => (f.type, f.offset)) = some (3, 14) ∧ (fs[4]?.map fun f => (f.type, f.offset)) = some (3, 15) :=
  ⟨_, Try.underlying53, rfl, rfl, rfl, rfl, rfl⟩
theorem wf_i64Y {n : Int} (h : (Lit.int .i64 n).wf = true) : I64 n := bounds_i64 h
section
variable {H : Type} {enc : TypeId × Value → H} {w : World} {base : Nat} {spare : Nat → Bool} {held : Bool}
/-- five cells that are a tuple. -/
theorem tpy_cells {n : Nat} {cs : List Value} {x : DataW H × List MemPlace} (h : DataW.trod enc Try.prog w base spare held n 38 cs = some x) (hl : cs.length = 5) : ∃ t : Tp, RngTp t ∧ cs = tpL t := by
  obtain ⟨fs, hs, t0, t1, t2, t3, t4⟩ := tpy_fields
  match cs, hl with
  | [c0, c1, c2, c3, c4], _ =>
    obtain ⟨_, _, g0⟩ := one_field (c := c0) hs h t0 Y.oneInt rfl
    obtain ⟨proto, rfl, _⟩ := int_field Try.underlying3 g0
    obtain ⟨_, _, g1⟩ := one_field (c := c1) hs h t1 Y.oneU32 rfl
    obtain ⟨src, rfl, w1⟩ := int_field Try.underlying36 g1
    obtain ⟨_, _, g2⟩ := one_field (c := c2) hs h t2 Y.oneInt rfl
    obtain ⟨sport, rfl, _⟩ := int_field Try.underlying3 g2
    obtain ⟨_, _, g3⟩ := one_field (c := c3) hs h t3 Y.oneU32 rfl
    obtain ⟨dst, rfl, w3⟩ := int_field Try.underlying36 g3
    obtain ⟨_, _, g4⟩ := one_field (c := c4) hs h t4 Y.oneInt rfl
    obtain ⟨dport, rfl, _⟩ := int_field Try.underlying3 g4
    exact ⟨⟨proto, src, sport, dst, dport⟩, ⟨(bounds_u32 w1).1, (bounds_u32 w1).2, (bounds_u32 w3).1, (bounds_u32 w3).2⟩, rfl⟩
theorem tp_eq {c1 c2 c3 c4 c5 : Value} {t : Tp} (e : [c1, c2, c3, c4, c5] = tpL t) : c1 = .int .i64 t.proto ∧ c2 = .int .u32 t.src ∧ c3 = .int .i64 t.sport ∧ c4 = .int .u32 t.dst ∧ c5 = .int .i64 t.dport := by
  injection e with e1 e
  injection e with e2 e
  injection e with e3 e
  injection e with e4 e
  injection e with e5 e
  exact ⟨e1, e2, e3, e4, e5⟩
/-- twelve cells that are a flow. -/
theorem fl_cells {n : Nat} {cs : List Value} {x : DataW H × List MemPlace} (h : DataW.trod enc Try.prog w base spare held n 40 cs = some x) (hl : cs.length = 12) : ∃ f : Fl, RngFl f ∧ cs = flL f := by
  obtain ⟨fs, hs, t0, t1, t2, t3⟩ := fl_fields
  obtain ⟨_, _, ga⟩ := some_field hs h t0
  obtain ⟨_, _, gb⟩ := some_field hs h t1
  rw [Y.cellsTp] at ga gb
  obtain ⟨t, rt, ht⟩ := tpy_cells ga (by simp; omega)
  obtain ⟨b, rb, hb⟩ := tpy_cells gb (by simp; omega)
  match cs, hl with
  | [c0, c1, c2, c3, c4, c5, c6, c7, c8, c9, c10, c11], _ =>
    obtain ⟨_, _, g2⟩ := one_field (c := c10) hs h t2 Y.oneInt rfl
    obtain ⟨u, rfl, _⟩ := int_field Try.underlying3 g2
    obtain ⟨_, _, g3⟩ := one_field (c := c11) hs h t3 Y.oneInt rfl
    obtain ⟨no, rfl, _⟩ := int_field Try.underlying3 g3
    obtain ⟨rfl, rfl, rfl, rfl, rfl⟩ := tp_eq (show [c0, c1, c2, c3, c4] = tpL t from ht)
    obtain ⟨rfl, rfl, rfl, rfl, rfl⟩ := tp_eq (show [c5, c6, c7, c8, c9] = tpL b from hb)
    exact ⟨⟨t, b, u, no⟩, ⟨rt, rb⟩, rfl⟩
/-- sixteen cells that are an act. -/
theorem act12_cells {n : Nat} {cs : List Value} {x : DataW H × List MemPlace} (h : DataW.trod enc Try.prog w base spare held n 53 cs = some x) (hl : cs.length = 16) : ∃ a : Af, (RngFl a.fl ∧ I64 a.num) ∧ cs = afL a := by
  obtain ⟨fs, hs, t0, t1, t2, t3, t4⟩ := act12_fields
  obtain ⟨_, _, ga⟩ := some_field hs h t1
  rw [Y.cellsFl] at ga
  obtain ⟨f, rf, hf⟩ := fl_cells ga (by simp; omega)
  match cs, hl with
  | [c0, c1, c2, c3, c4, c5, c6, c7, c8, c9, c10, c11, c12, c13, c14, c15], _ =>
    obtain ⟨_, _, g0⟩ := one_field (c := c0) hs h t0 Y.oneInt rfl
    obtain ⟨kind, rfl, _⟩ := int_field Try.underlying3 g0
    obtain ⟨_, _, g2⟩ := one_field (c := c13) hs h t2 Y.oneInt rfl
    obtain ⟨num, rfl, hn⟩ := int_field Try.underlying3 g2
    obtain ⟨_, _, g3⟩ := one_field (c := c14) hs h t3 Y.oneInt rfl
    obtain ⟨at_, rfl, _⟩ := int_field Try.underlying3 g3
    obtain ⟨_, _, g4⟩ := one_field (c := c15) hs h t4 Y.oneInt rfl
    obtain ⟨no, rfl, _⟩ := int_field Try.underlying3 g4
    have e : [c1, c2, c3, c4, c5, c6, c7, c8, c9, c10, c11, c12] = flL f := hf
    injection e with e1 e
    injection e with e2 e
    injection e with e3 e
    injection e with e4 e
    injection e with e5 e
    injection e with e6 e
    injection e with e7 e
    injection e with e8 e
    injection e with e9 e
    injection e with e10 e
    injection e with e11 e
    injection e with e12 e
    subst e1 e2 e3 e4 e5 e6 e7 e8 e9 e10 e11 e12
    exact ⟨⟨kind, f, num, at_, no⟩, ⟨rf, wf_i64Y hn⟩, rfl⟩
instance : Inhabited Af := ⟨⟨0, fl0, 0, 0, 0⟩⟩
end
set_option maxRecDepth 100000 in
/-- acts that came in. -/
theorem open_afs {H : Type} {enc : TypeId × Value → H} {w : World} {base : Nat} {spare : Nat → Bool} {held : Bool} {r : Reach} {b0 : Nat} {v : Value} {d : DataW H} {ps : List MemPlace}
    (hv : Value.okWide Try.prog w r b0 22 v) (h : DataW.Trod enc Try.prog w base spare held 22 v d ps) :
    ∃ (A : Option Addr) (l : List Af) (c : Nat), v = .slice A l.length c ∧ AfsAt w l A c := by
  obtain ⟨a0, len0, cap0, rfl⟩ := okWide_slice Try.underlying22 hv
  obtain ⟨fuel, hf0⟩ := h
  have hf : DataW.trod enc Try.prog w base spare held fuel 22 [.slice a0 len0 cap0] = some (d, ps) := by simpa [Value.cells] using hf0
  rcases Go.Deep.open_slice Try.underlying22 hf with ⟨hcs, _⟩ | ⟨a, len, cap, m, n', D, Pl, hcs, hb', hl, hm, hmm, hx, hi⟩
  · simp at hcs
    obtain ⟨rfl, rfl, rfl⟩ := hcs
    exact ⟨none, [], 0, rfl, ⟨by simp, by omega, fun _ => rfl, .inl rfl, fun a h => by cases h⟩⟩
  · simp at hcs
    obtain ⟨rfl, rfl, rfl⟩ := hcs
    unfold maxLen at hm
    have hlm : len0 ≤ m := by rw [hmm]; split <;> omega
    have one : ∀ i, i < len0 → ∃ o : Af, (RngFl o.fl ∧ I64 o.num) ∧ ∀ j v, (afL o)[j]? = some v → w.cell? (a.add (i * 16 + j)) = some v := by
      intro i hil
      obtain ⟨cs', hc, ht'⟩ := hi i (by omega)
      rw [Y.cellsAct] at hc
      obtain ⟨_, hcl, hat⟩ := World.cells?_some hc
      obtain ⟨o, ro, rfl⟩ := act12_cells ht' hcl
      refine ⟨o, ro, fun j v hv => ?_⟩
      have hj : j < 16 := by have := (List.getElem?_eq_some_iff.1 hv).1; simpa using this
      rw [← Go.Deep.add_add, hat j hj, hv]
    obtain ⟨f, hf⟩ := Go.Deep.choose_lt one
    have hlen : ((List.range len0).map f).length = len0 := by simp
    refine ⟨some a, (List.range len0).map f, cap0, by simp, ⟨by simpa using hl, by omega, (fun h => by cases h), ?_, fun o ho => ?_⟩⟩
    rotate_left
    · obtain ⟨k, hk, rfl⟩ := List.mem_map.1 ho
      exact (hf k (List.mem_range.1 hk)).1
    refine .inr ⟨a, rfl, fun j u hj => ?_⟩
    have hjl := (List.getElem?_eq_some_iff.1 hj).1
    rw [flat_len Af.L 16 Af.len, hlen] at hjl
    have hq : j / 16 < len0 := by omega
    have hr : j % 16 < 16 := by omega
    have e : j = j / 16 * 16 + j % 16 := by omega
    rw [e, flat_get Af.L 16 Af.len _ _ _ (by rw [hlen]; exact hq) hr] at hj
    have hg : ((List.range len0).map f)[j / 16]'(by rw [hlen]; exact hq) = f (j / 16) := by simp
    rw [hg] at hj
    rw [e]
    exact (hf _ hq).2 _ _ hj
end Go.Proofs.Ytofpalmghdapkaa

/- Rows of bools. -/
namespace Go.Proofs.Ytofpalmghdapkaa
open Go.ChangeShapes Go.WideShapes Go.ChangeAt Go.RowKit
set_option linter.unusedVariables false
set_option linter.unusedSimpArgs false

/-- bools in a row. -/
structure BlsAt (w : World) (l : List Bool) (A : Option Addr) (c : Nat) : Prop where
  len : l.length ≤ c
  cap : c ≤ 9223372036854775807
  nil : A = none → c = 0
  rd : RdC w A (l.map (fun b => Value.bool b))
theorem BlsAt.keep {w w' : World} {l : List Bool} {A : Option Addr} {c : Nat} (h : BlsAt w l A c) (y : Below w.heap.size w w') : BlsAt w' l A c := ⟨h.len, h.cap, h.nil, h.rd.keep y⟩
theorem BlsAt.cell {w : World} {l : List Bool} {A : Option Addr} {c : Nat} (h : BlsAt w l A c) {i : Nat} (hi : i < l.length) : ∃ ad, A = some ad ∧ ∀ Y, Below w.heap.size w Y → Y.cell? (ad.add i) = some (.bool l[i]) := by
  rcases h.rd with h0 | ⟨ad, e, hc⟩
  · have := congrArg List.length h0
    simp at this
    subst this
    simp at hi
  · refine ⟨ad, e, fun Y y => ?_⟩
    have h2 := hc i (.bool l[i]) (by simp [hi])
    exact (y.cell (World.block_lt_of_cell? w _ h2)).trans h2
end Go.Proofs.Ytofpalmghdapkaa

/- The document's store of flows in memory. -/
namespace Go.Proofs.Ytofpalmghdapkaa
open Go.ChangeShapes Go.WideShapes Go.ChangeAt Go.RowKit
set_option linter.unusedVariables false
set_option linter.unusedSimpArgs false

abbrev sdL (x : Sr) (A : Option Addr) (c : Nat) (B : Option Addr) (d : Nat) : List Value := [.slice A x.slots.length c, .slice B x.slots.length d, .int .i64 x.now]
abbrev sdV (x : Sr) (A : Option Addr) (c : Nat) (B : Option Addr) (d : Nat) : Value := .agg #[.slice A x.slots.length c, .slice B x.slots.length d, .int .i64 x.now]
abbrev oSd (x : Sr) (A : Option Addr) (c : Nat) (B : Option Addr) (d : Nat) : Obj := .cells #[.slice A x.slots.length c, .slice B x.slots.length d, .int .i64 x.now] 31
theorem info_sd : (Try.prog.info? 31).map (·.size) = some 3 := by kernel_rfl
def usedF (l : List (Option Fl)) : List Bool := l.map (·.isSome)
def flowsF (l : List (Option Fl)) : List Fl := l.map (·.getD fl0)
theorem used_len (l : List (Option Fl)) : (usedF l).length = l.length := List.length_map _
theorem flows_len (l : List (Option Fl)) : (flowsF l).length = l.length := List.length_map _
theorem used_get {l : List (Option Fl)} {i : Nat} (h : i < l.length) : (usedF l)[i]'(by rw [used_len]; exact h) = (slotF l i).isSome := by
  rw [slot_get h]; simp [usedF]
theorem flows_get {l : List (Option Fl)} {i : Nat} (h : i < l.length) : (flowsF l)[i]'(by rw [flows_len]; exact h) = (slotF l i).getD fl0 := by
  rw [slot_get h]; simp [flowsF]
structure SdAt (w : World) (x : Sr) (A : Option Addr) (c : Nat) (B : Option Addr) (d : Nat) : Prop where
  used : BlsAt w (usedF x.slots) A c
  flows : FlsAt w (flowsF x.slots) B d
section
variable {w w' : World} {x : Sr} {A B : Option Addr} {c d : Nat}
theorem SdAt.at (h : SdAt w x A c B d) (y : Below w.heap.size w w') : SdAt w' x A c B d := ⟨h.used.keep y, h.flows.at y⟩
theorem SdAt.ucell (h : SdAt w x A c B d) {i : Nat} (hi : i < x.slots.length) : ∃ ad, A = some ad ∧ ∀ Y, Below w.heap.size w Y → Y.cell? (ad.add i) = some (.bool (slotF x.slots i).isSome) := by
  obtain ⟨ad, e, hc⟩ := h.used.cell (i := i) (by rw [used_len]; exact hi)
  exact ⟨ad, e, fun Y y => by rw [hc Y y, used_get hi]⟩
theorem SdAt.fcell (h : SdAt w x A c B d) {i : Nat} (hi : i < x.slots.length) : ∃ ad, B = some ad ∧ ∀ Y, Below w.heap.size w Y → ∀ j v, (flL ((slotF x.slots i).getD fl0))[j]? = some v → Y.cell? ((ad.add (i * 12)).add j) = some v := by
  obtain ⟨ad, e, hc⟩ := h.flows.cell (i := i) (by rw [flows_len]; exact hi)
  exact ⟨ad, e, fun Y y j v hv => hc Y y j v (by rw [flows_get hi]; exact hv)⟩
theorem SdAt.ulen (h : SdAt w x A c B d) : x.slots.length ≤ c := by have := h.used.len; rwa [used_len] at this
theorem SdAt.flen (h : SdAt w x A c B d) : x.slots.length ≤ d := by have := h.flows.len; rwa [flows_len] at this
end
/-- what the document's There answers. -/
theorem there_some {x : Sr} {n : Int} : (thereF x n).isSome = true ↔ ∃ i : Nat, n = (i : Int) ∧ i < x.slots.length ∧ (slotF x.slots i).isSome = true := by
  constructor
  · intro h
    obtain ⟨f, hf⟩ := Option.isSome_iff_exists.1 h
    obtain ⟨i, e, hs⟩ := there_iff hf
    exact ⟨i, e, slot_lt hs, by rw [hs]; rfl⟩
  · rintro ⟨i, rfl, _, h⟩
    rw [there_nat]; exact h
set_option maxRecDepth 100000 in
set_option maxHeartbeats 4000000 in
theorem rthere12 (x : Sr) (A : Option Addr) (c : Nat) (B : Option Addr) (d : Nat) (n : Int) (w : World) (h : SdAt w x A c B d) (q : Bool) (hq : (thereF x n).isSome = q) :
    Calls Try.prog 23 #[sdV x A c B d, .int .i64 n] w fun e w' => e = .returned (.bool q) ∧ Below w.heap.size w w' := by
  have HQ := Go.Lib.hid hq
  have y0 : Below w.heap.size w (w.alloc (oSd x A c B d)) := (Below.refl _ _).alloc (Nat.le_refl _) _
  have h1 := Bxo.made w 31 (sdL x A c B d)
  have HC := Go.Lib.hid h
  have hlc := h.ulen
  have hcc := h.used.cap
  clear hq h
  go_enter Try.func23, Try.ntmps23
  go_upto_region 1 with fail
  generalize w.alloc (oSd x A c B d) = W at *
  have c0 := h1.cell 0 rfl
  clear h1
  by_cases h0 : 0 ≤ n
  · obtain ⟨i, rfl⟩ := Int.eq_ofNat_of_zero_le h0
    by_cases hi : i < x.slots.length
    · have t1 : (i : Int) < (x.slots.length : Int) := by omega
      obtain ⟨ad, rfl, hcell⟩ := HC.out.ucell hi
      have d0 := hcell W y0
      have e : (slotF x.slots i).isSome = q := by rw [← HQ.out, there_nat]
      rw [e] at d0
      clear hcell e
      go_wp2_with fail
      go_ret
      exact ⟨rfl, y0⟩
    · have t1 : ¬ (i : Int) < (x.slots.length : Int) := by omega
      have e : q = false := by rw [← HQ.out, there_nat, slot_out (by omega)]; rfl
      subst e
      go_wp2_with fail
      go_ret
      exact ⟨rfl, y0⟩
  · have e : q = false := by
      rw [← HQ.out]
      unfold thereF
      rw [if_neg h0]; rfl
    subst e
    go_wp2_with fail
    go_ret
    exact ⟨rfl, y0⟩
end Go.Proofs.Ytofpalmghdapkaa

/- The document's All over a store of flows. -/
namespace Go.Proofs.Ytofpalmghdapkaa
open Go.ChangeShapes Go.WideShapes Go.ChangeAt Go.RowKit
set_option linter.unusedVariables false
set_option linter.unusedSimpArgs false

theorem grownF {w0 w w' : World} {row : Option Nat} (h : w.grownBy w' row) (hr : ∀ g, row = some g → w0.heap.size ≤ g) (hs : w0.heap.size ≤ w.heap.size) : Below w0.heap.size w w' :=
  ⟨h.os, h.tape, h.output, h.size, fun b hb => h.block b (by omega) (fun e => by have := hr b e.symm; omega)⟩
theorem own_geF {w : World} {base : Nat} {e : TypeId} {size n c : Nat} {A : Option Addr} {xs : List Value} (h : w.ownsRow base e size (.slice A n c) n xs) : ∀ g, blk A = some g → base ≤ g := fun g hg => by
  rcases own_addr h with ⟨rfl, _⟩ | ⟨g', rfl, h1, h2⟩
  · cases hg
  · injection hg with hg; subst hg; exact h1
theorem own_ltF {w : World} {base : Nat} {e : TypeId} {size n c : Nat} {A : Option Addr} {xs : List Value} (h : w.ownsRow base e size (.slice A n c) n xs) : ∀ g, blk A = some g → g < w.heap.size := fun g hg => by
  rcases own_addr h with ⟨rfl, _⟩ | ⟨g', rfl, h1, h2⟩
  · cases hg
  · injection hg with hg; subst hg; exact h2
theorem FlsAt.ofOwn {w : World} {l : List Fl} {A : Option Addr} {c : Nat} {n base : Nat} {e : TypeId} (hn : l.length = n) (ho : w.ownsRow base e 12 (.slice A n c) n (l.flatMap Fl.L)) : FlsAt w l A c := by
  have hcc := own_cap ho
  unfold maxLen at hcc
  refine ⟨by omega, hcc.2, fun e => ?_, own_rd ho⟩
  rcases own_addr ho with ⟨_, _, hc⟩ | ⟨g, e', _⟩
  · exact hc
  · rw [e'] at e; cases e
def outF (l : List (Option Fl)) (k : Nat) : List Fl := allF (l.take k)
theorem out_next {l : List (Option Fl)} {k : Nat} (hk : k < l.length) : outF l (k + 1) = outF l k ++ (slotF l k).toList := by
  unfold outF allF
  rw [List.take_add_one, List.filterMap_append, List.getElem?_eq_getElem hk, slot_get hk]
  cases l[k] <;> rfl
theorem out_le (l : List (Option Fl)) (k : Nat) : (outF l k).length ≤ l.length := Nat.le_trans (allF_length _) (by rw [List.length_take]; omega)
set_option maxRecDepth 100000 in
set_option maxHeartbeats 8000000 in
theorem rall12 (x : Sr) (A : Option Addr) (c : Nat) (B : Option Addr) (d : Nat) (w : World) (h : SdAt w x A c B d) (hx : x.slots.length ≤ 256) (l : List Fl) (hl : allF x.slots = l) :
    Calls Try.prog 24 #[sdV x A c B d] w fun e w' => ∃ A' c', e = .returned (.slice A' l.length c') ∧ FlsAt w' l A' c' ∧ Below w.heap.size w w' ∧ (∀ b, A' = some b → w.heap.size ≤ b.block ∧ b.block < w'.heap.size) := by
  have HQ := Go.Lib.hid hl
  have y0 : Below w.heap.size w (w.alloc (oSd x A c B d)) := below_alloc (Below.refl _ _) (Nat.le_refl _) _
  have h1 := Bxo.made w 31 (sdL x A c B d)
  have HC := Go.Lib.hid h
  have hlc := h.ulen
  have hld := h.flen
  have hcc := h.used.cap
  have hdc := h.flows.cap
  obtain ⟨i0_, hi_, hiz⟩ := Option.map_eq_some_iff.1 info_flz
  have hz0 := congrArg Prod.fst hiz
  have hz1 := congrArg (fun p => p.2.1) hiz
  have hz2 := congrArg (fun p => p.2.2) hiz
  dsimp only at hz0 hz1 hz2
  clear hl h hiz
  go_enter Try.func24, Try.ntmps24
  go_upto_region 1 with fail
  generalize w.alloc (oSd x A c B d) = W at *
  have HX := Go.Lib.hid h1
  clear h1
  go_wp2_with fail
  go_loopw [3, 4] (fun ov iv wr => ∃ (k : Nat) (A' : Option Addr) (c' : Nat), k ≤ x.slots.length ∧ iv = .int .i64 k ∧ ov = .slice A' (outF x.slots k).length c' ∧ Hid (wr.ownsRow W.heap.size 40 12 (.slice A' (outF x.slots k).length c') (outF x.slots k).length ((outF x.slots k).flatMap Fl.L)) ∧ Hid (Below W.heap.size W wr)) (fun _ iv _ => x.slots.length - (intOf iv).toNat)
  case atStart => exact ⟨0, none, 0, by omega, rfl, rfl, Go.Lib.hid (own_none _ _ _ _), Go.Lib.hid (Below.refl _ _)⟩
  case round =>
    rename World => wo
    obtain ⟨k, A', c', hk, rfl, rfl, HO, HB⟩ := hrel
    have k0 : (0 : Int) ≤ (k : Int) := by omega
    have HXo := Go.Lib.hid (HX.out.keep HB.out HX.out.lt)
    have c0 := HXo.out.cell 0 rfl
    have c1 := HXo.out.cell 1 rfl
    have yo := y0.trans (HB.out.mono y0.size)
    have hol := out_le x.slots k
    by_cases hkl : k < x.slots.length
    · have t1 : (k : Int) < (x.slots.length : Int) := by omega
      obtain ⟨ad, rfl, hu⟩ := HC.out.ucell hkl
      obtain ⟨bd, rfl, hf⟩ := HC.out.fcell hkl
      have d0 := hu wo yo
      have e0 := hf wo yo
      have hon := out_next hkl
      clear hu hf
      cases hs : slotF x.slots k with
      | none =>
        rw [hs] at d0 hon
        clear e0 hs
        dsimp only [Option.isSome] at d0
        rw [show (none : Option Fl).toList = [] from rfl, List.append_nil] at hon
        go_wp2_with fail
        go_round
        case rel => exact ⟨k + 1, A', c', by omega, by go_num, by rw [hon], by rw [hon]; exact HO, HB⟩
        case measure => simp [intOf]; omega
      | some f =>
        rw [hs] at d0 e0 hon
        clear hs
        dsimp only [Option.isSome, Option.getD] at d0 e0
        rw [show (some f).toList = [f] from rfl] at hon
        have E0 := Go.Lib.hid e0
        have ya : Below wo.heap.size wo (wo.alloc (oFl f)) := below_alloc (Below.refl _ _) (Nat.le_refl _) _
        have HB6 := Go.Lib.hid (HB.out.trans (ya.mono HB.out.size))
        have HO6 := Go.Lib.hid (own_keepA (w' := wo.alloc (oFl f)) HO.out (fun b e => ya.block b (own_ltF HO.out b e)))
        have V6 := Go.Lib.hid (Bxo.made wo 40 (flL f))
        have z6 := HB6.out.size
        clear e0 ya
        go_wp2_with (first
          | (refine wpList_load_at rfl 40 _ rfl (bd.add (k * 12)) rfl (flL f) _ E0.out Try.underlying40 rfl info_fl ?_)
          | (at_builtin; refine wpList_append_rdK rfl _ _ 29 rfl W.heap.size 40 i0_ _ 12 96 Try.underlying29 hi_ hz0 hz1 hz2 rfl (by omega) (.slice A' (outF x.slots k).length c') (outF x.slots k).length ((outF x.slots k).flatMap Fl.L) rfl HO6.out (some ⟨wo.heap.size, 0, none⟩) 1 1 (flL f) rfl rfl (fun h => by cases h) (.inr ⟨_, rfl, V6.out.at⟩) (by simp [Value.oneCell']) (by unfold maxLen; omega) (by omega) z6 ?_; intro v7 w7 ho7 hg7 hat7; obtain ⟨A7, c7, rfl⟩ := own_slice ho7; have y7 := grownF (w0 := W) hg7 (fun g e => by rw [ownBlock_blk] at e; exact own_geF HO6.out g e) z6; have HO7 := Go.Lib.hid ho7; clear hg7 hat7 ho7; dsimp only))
        go_round
        case rel => exact ⟨k + 1, A7, c7, by omega, by go_num, by rw [hon, List.length_append]; rfl, Go.Lib.hid (by rw [hon, List.length_append, List.flatMap_append]; simpa [Fl.L] using HO7.out), Go.Lib.hid (HB6.out.trans y7)⟩
        case measure => simp [intOf]; omega
    · obtain rfl : k = x.slots.length := by omega
      have t1 : ¬ (x.slots.length : Int) < (x.slots.length : Int) := by omega
      have hr : outF x.slots x.slots.length = l := by rw [← HQ.out]; unfold outF; rw [List.take_length]
      rw [hr] at HO
      simp only [hr]
      go_wp2_with fail
      go_ret
      refine ⟨A', c', rfl, FlsAt.ofOwn rfl HO.out, yo, fun b e => ?_⟩
      have h1 := own_geF HO.out b.block (by rw [e]; rfl)
      have h2 := own_ltF HO.out b.block (by rw [e]; rfl)
      exact ⟨Nat.le_trans y0.size h1, h2⟩
end Go.Proofs.Ytofpalmghdapkaa
