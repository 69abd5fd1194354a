/- Lemmas, several texts in one. -/
import Derived.Test.YtofpalmghdapkaaQ04
import Derived.Deep.RegionHeld3
import Derived.Deep.DeepCutAuto
import Derived.Test.YtofpalmghdapkaaQ02
import Derived.Test.YtofpalmghdapkaaQ01
import Derived.Laws.BitsAllLaws
import Derived.Test.YtofpalmghdapkaaRows
import Derived.Lib.BytesEntry
import Derived.WalkKit
import Derived.ProofKit
import Derived.OpenShut
import Derived.Below
/- Contracts of the document's own answers for package index: Len, size, New. -/
namespace Go.Proofs.Ytofpalmghdapkaa
open Go.ChangeShapes Go.WideShapes Go.ChangeAt Go.RowKit
set_option linter.unusedVariables false
set_option linter.unusedSimpArgs false

theorem used_take (l : List Cl) (i : Nat) (h : i < l.length) : usedN (l.take (i + 1)) = usedN (l.take i) + (if (atC l i).used then 1 else 0) := by
  unfold usedN
  rw [List.take_succ_eq_append_getElem h, List.countP_append, atC_get h]
  cases hu : (l[i]).used <;> simp [hu]
def sizeI (n : Int) : Bool := [2, 4, 8, 16, 32, 64, 128, 256, 512, 1024].contains n
theorem sizeI_nat (n : Nat) : sizeI n = sizeC n := by
  unfold sizeI sizeC
  rw [Bool.eq_iff_iff]
  simp
  omega
theorem sizeI_neg {n : Int} (h : n < 0) : sizeI n = false := by
  unfold sizeI
  simp
  omega
end Go.Proofs.Ytofpalmghdapkaa

/- Contracts of the document's own answers for package tuple: low, Nums, Turn, Right. -/
namespace Go.Proofs.Ytofpalmghdapkaa
open Go.ChangeShapes Go.WideShapes Go.ChangeAt Go.RowKit
set_option linter.unusedVariables false
set_option linter.unusedSimpArgs false

theorem tmod_low (n m : Int) (m0 : 0 < m) : (if Int.tmod n m < 0 then Int.tmod n m + m else Int.tmod n m) = n % m := by
  have e1 := Int.tmod_add_mul_tdiv n m
  have e2 := Int.emod_add_mul_ediv n m
  by_cases h : 0 ≤ n
  · rw [Int.tmod_eq_emod_of_nonneg h]
    have := Int.emod_nonneg n (show m ≠ 0 by omega)
    rw [if_neg (by omega)]
  · have h1 : Int.tmod n m = -((-n) % m) := by
      rw [← Int.tmod_eq_emod_of_nonneg (show 0 ≤ -n by omega), Int.neg_tmod]; omega
    have h2 := Int.emod_nonneg (-n) (show m ≠ 0 by omega)
    have h3 := Int.emod_lt_of_pos (-n) m0
    rw [h1]
    by_cases h4 : (-n) % m = 0
    · rw [h4, if_neg (by omega)]
      have : m ∣ n := by have := Int.dvd_of_emod_eq_zero h4; exact (Int.dvd_neg).1 this
      rw [Int.emod_eq_zero_of_dvd this]; rfl
    · rw [if_pos (by omega)]
      have e3 := Int.emod_add_mul_ediv (-n) m
      generalize (-n) % m = r at *
      generalize (-n) / m = q at *
      have e4 : n = (m - r) + m * (-q - 1) := by rw [Int.mul_sub, Int.mul_neg, Int.mul_one]; omega
      rw [e4, Int.add_mul_emod_self_left, Int.emod_eq_of_lt (by omega) (by omega)]
      omega
set_option maxRecDepth 100000 in
set_option maxHeartbeats 4000000 in
theorem rright9 (t : Tp) (w : World) (b : Bool) (hb : rightT t = b) : Calls Try.prog 41 #[tpV t] w fun e w' => e = .returned (.bool b) ∧ Below w.heap.size w w' := by
  have HB := Go.Lib.hid hb
  have y0 : Below w.heap.size w (w.alloc (oTp t)) := (Below.refl _ _).alloc (Nat.le_refl _) _
  have h1 := Bxo.made w 38 (tpL t)
  clear hb
  go_enter Try.func41, Try.ntmps41
  go_upto_region 1 with fail
  generalize w.alloc (oTp t) = W at *
  have c0 := h1.cell 0 rfl
  have c2 := h1.cell 2 rfl
  have c4 := h1.cell 4 rfl
  clear h1
  by_cases h0 : 0 ≤ t.proto
  · by_cases h1 : t.proto < 256
    · by_cases h2 : 0 ≤ t.sport
      · by_cases h3 : t.sport < 65536
        · by_cases h4 : 0 ≤ t.dport
          · by_cases h5 : t.dport < 65536
            · go_wp2
              go_ret
              exact ⟨ret_bool (by rw [← HB.out]; unfold rightT inT; first | (simp [*]; done) | (simp [*]; omega)), y0⟩
            · go_wp2
              go_ret
              exact ⟨ret_bool (by rw [← HB.out]; unfold rightT inT; first | (simp [*]; done) | (simp [*]; omega)), y0⟩
          · go_wp2
            go_ret
            exact ⟨ret_bool (by rw [← HB.out]; unfold rightT inT; first | (simp [*]; done) | (simp [*]; omega)), y0⟩
        · go_wp2
          go_ret
          exact ⟨ret_bool (by rw [← HB.out]; unfold rightT inT; first | (simp [*]; done) | (simp [*]; omega)), y0⟩
      · go_wp2
        go_ret
        exact ⟨ret_bool (by rw [← HB.out]; unfold rightT inT; first | (simp [*]; done) | (simp [*]; omega)), y0⟩
    · go_wp2
      go_ret
      exact ⟨ret_bool (by rw [← HB.out]; unfold rightT inT; first | (simp [*]; done) | (simp [*]; omega)), y0⟩
  · go_wp2
    go_ret
    exact ⟨ret_bool (by rw [← HB.out]; unfold rightT inT; first | (simp [*]; done) | (simp [*]; omega)), y0⟩
abbrev nmL (t : Tp) : List Value := [.int .i64 (t.proto % 256), .int .i64 t.src, .int .i64 (t.sport % 65536), .int .i64 t.dst, .int .i64 (t.dport % 65536)]
end Go.Proofs.Ytofpalmghdapkaa

/- Contracts of the document's own answers for package tuple: Less. -/
namespace Go.Proofs.Ytofpalmghdapkaa
open Go.ChangeShapes Go.WideShapes Go.ChangeAt Go.RowKit
set_option linter.unusedVariables false
set_option linter.unusedSimpArgs false

theorem n5_one (t : Tp) : ∀ u ∈ nmL t, u.oneCell' = true := by simp [Value.oneCell']
theorem nm_get (t : Tp) (k : Nat) (h : k < (numsT t).length) : (nmL t)[k]? = some (.int .i64 (numsT t)[k]) := by
  match k, h with
  | 0, _ => rfl
  | 1, _ => rfl
  | 2, _ => rfl
  | 3, _ => rfl
  | 4, _ => rfl
  | m + 5, h => exact absurd h (by simp [numsT])
theorem lessL_drop (x y : List Int) (k : Nat) (hx : k < x.length) (hy : k < y.length) : lessL (x.drop k) (y.drop k) = if x[k] = y[k] then lessL (x.drop (k + 1)) (y.drop (k + 1)) else decide (x[k] < y[k]) := by
  rw [List.drop_eq_getElem_cons hx, List.drop_eq_getElem_cons hy, lessL]
end Go.Proofs.Ytofpalmghdapkaa

/- A tuple's bytes, number by number; names that are another by a byte: plain mathematics. -/
namespace Go.Proofs.Ytofpalmghdapkaa
open Go.RowKit
set_option linter.unusedVariables false

/-- the last s bytes of a number, the highest first. -/
def beB (n : Int) (s : Nat) : List Int := (List.range s).map (fun j => n / 256 ^ (s - 1 - j) % 256)
theorem beB_zero (n : Int) : beB n 0 = [] := rfl
theorem beB_succ (n : Int) (s : Nat) : beB n (s + 1) = (n / 256 ^ s % 256) :: beB n s := by
  unfold beB
  rw [List.range_succ_eq_map, List.map_cons, List.map_map]
  congr 1
  refine List.map_congr_left fun j hj => ?_
  simp only [Function.comp, Nat.succ_eq_add_one]
  rw [show s + 1 - 1 - (j + 1) = s - 1 - j by omega]
def bytesN : List Int → List Nat → List Int
  | n :: ns, s :: ss => beB n s ++ bytesN ns ss
  | _, _ => []
abbrev sizesT : List Nat := [1, 4, 2, 4, 2]
theorem bytesN_drop (ns : List Int) (ss : List Nat) (k : Nat) (h1 : k < ns.length) (h2 : k < ss.length) : bytesN (ns.drop k) (ss.drop k) = beB ns[k] ss[k] ++ bytesN (ns.drop (k + 1)) (ss.drop (k + 1)) := by
  rw [List.drop_eq_getElem_cons h1, List.drop_eq_getElem_cons h2, bytesN]
theorem bytes_nums (t : Tp) (h : RngTp t) : bytesN (numsT t) sizesT = bytesT t := by
  have s0 := h.s0
  have s1 := h.s1
  have d0 := h.d0
  have d1 := h.d1
  simp only [numsT, sizesT, bytesN, beB_succ, beB_zero, bytesT, List.cons_append, List.nil_append, List.append_nil]
  simp
  omega
theorem hashL_cons (h c : Int) (l : List Int) : hashL h (c :: l) = hashL (hashS h c) l := rfl
theorem nums_rng (t : Tp) (h : RngTp t) (k : Nat) (hk : k < (numsT t).length) : 0 ≤ (numsT t)[k] ∧ (numsT t)[k] ≤ 4294967295 := by
  have s0 := h.s0
  have s1 := h.s1
  have d0 := h.d0
  have d1 := h.d1
  match k, hk with
  | 0, _ => show 0 ≤ t.proto % 256 ∧ t.proto % 256 ≤ _; omega
  | 1, _ => exact ⟨s0, s1⟩
  | 2, _ => show 0 ≤ t.sport % 65536 ∧ t.sport % 65536 ≤ _; omega
  | 3, _ => exact ⟨d0, d1⟩
  | 4, _ => show 0 ≤ t.dport % 65536 ∧ t.dport % 65536 ≤ _; omega
  | m + 5, h => exact absurd h (by simp [numsT])
theorem sizes_rng (k : Nat) (hk : k < sizesT.length) : 1 ≤ sizesT[k] ∧ sizesT[k] ≤ 4 := by
  match k, hk with
  | 0, _ => show 1 ≤ (1 : Nat) ∧ (1 : Nat) ≤ 4; omega
  | 1, _ => show 1 ≤ (4 : Nat) ∧ (4 : Nat) ≤ 4; omega
  | 2, _ => show 1 ≤ (2 : Nat) ∧ (2 : Nat) ≤ 4; omega
  | 3, _ => show 1 ≤ (4 : Nat) ∧ (4 : Nat) ≤ 4; omega
  | 4, _ => show 1 ≤ (2 : Nat) ∧ (2 : Nat) ≤ 4; omega
  | m + 5, h => exact absurd h (by simp)
theorem div_pow_succ (n : Int) (j : Nat) (h : 0 ≤ n) : n / 256 ^ (j + 1) = n / 256 ^ j / 256 := by
  rw [Int.pow_succ, Int.ediv_ediv_of_nonneg (Int.pow_nonneg (by decide))]
theorem div_pow_rng (n : Int) (j : Nat) (h0 : 0 ≤ n) (h1 : n ≤ 4294967295) : 0 ≤ n / 256 ^ j ∧ n / 256 ^ j ≤ 4294967295 :=
  ⟨Int.ediv_nonneg h0 (Int.pow_nonneg (by decide)), Int.le_trans (Int.ediv_le_self _ h0) h1⟩
end Go.Proofs.Ytofpalmghdapkaa

/- Contracts of the document's own answers for package tuple: Hash. -/
namespace Go.Proofs.Ytofpalmghdapkaa
open Go.ChangeShapes Go.WideShapes Go.ChangeAt Go.RowKit
set_option linter.unusedVariables false
set_option linter.unusedSimpArgs false

theorem sz_get (k : Nat) (h : k < sizesT.length) : ([.int .i64 1, .int .i64 4, .int .i64 2, .int .i64 4, .int .i64 2] : List Value)[k]? = some (.int .i64 (sizesT[k] : Nat)) := by
  match k, h with
  | 0, _ => rfl
  | 1, _ => rfl
  | 2, _ => rfl
  | 3, _ => rfl
  | 4, _ => rfl
  | m + 5, h => exact absurd h (by simp)
end Go.Proofs.Ytofpalmghdapkaa

/- Contracts of the document's own answers for package index: seek. -/
namespace Go.Proofs.Ytofpalmghdapkaa
open Go.ChangeShapes Go.WideShapes Go.ChangeAt Go.RowKit
set_option linter.unusedVariables false
set_option linter.unusedSimpArgs false

theorem hash_rng (t : Tp) (s : Int) : 0 ≤ hashT t s ∧ hashT t s < 4294967296 := by
  show 0 ≤ hashS _ _ ∧ hashS _ _ < _
  unfold hashS
  omega
/-- a cell's key among its cells. -/
theorem key_cells {Y : World} {ad : Addr} {y : Cl} (h : ∀ j v, (clL y)[j]? = some v → Y.cell? (ad.add j) = some v) : ∀ j v, (tpL y.key)[j]? = some v → Y.cell? ((ad.add 1).add j) = some v := fun j v hj => by
  rw [add_add]
  refine h (1 + j) v ?_
  have h5 : j < 5 := by have := (List.getElem?_eq_some_iff.1 hj).1; simpa using this
  match j, h5 with
  | 0, _ => exact hj
  | 1, _ => exact hj
  | 2, _ => exact hj
  | 3, _ => exact hj
  | 4, _ => exact hj
/-- where a search ends, and what it answers. -/
def seekI (l : List Cl) (k : Tp) : Int := if farC l k < l.length then (seekP l k : Nat) else -1
end Go.Proofs.Ytofpalmghdapkaa

/- Contracts of the document's own answers for package index: with, Get, Same. -/
namespace Go.Proofs.Ytofpalmghdapkaa
open Go.ChangeShapes Go.WideShapes Go.ChangeAt Go.RowKit
set_option linter.unusedVariables false
set_option linter.unusedSimpArgs false

theorem cl_one1 (c : Cl) : ∀ u ∈ clL c, u.oneCell' = true := by simp [Value.oneCell']
theorem CsAt.set_rng {w : World} {l : List Cl} {A : Option Addr} {c : Nat} (h : CsAt w l A c) {p : Nat} (hp : p < l.length) {x : Cl} (rx : RngTp x.key) (i : Nat) : RngTp (atC (l.set p x) i).key := by
  rw [atC_set hp]
  split
  · exact rx
  · exact h.rng i
end Go.Proofs.Ytofpalmghdapkaa

/- Contracts of the document's own answers for package index: Put. -/
namespace Go.Proofs.Ytofpalmghdapkaa
open Go.ChangeShapes Go.WideShapes Go.ChangeAt Go.RowKit
set_option linter.unusedVariables false
set_option linter.unusedSimpArgs false

/-- what Put and Del hand back. -/
def TabPost (w : World) (q : List Cl × Int) (e : Ending) (w' : World) : Prop := ∃ A c, e = .returned (.tuple #[.slice A q.1.length c, .int .i64 q.2]) ∧ CsAt w' q.1 A c ∧ Below w.heap.size w w'
theorem TabPost.of {w w' : World} {q : List Cl × Int} {l : List Cl} {f : Int} {A : Option Addr} {c : Nat} (hq : q = (l, f)) (hc : CsAt w' l A c) (y : Below w.heap.size w w') : TabPost w q (.returned (.tuple #[.slice A l.length c, .int .i64 f])) w' := by
  subst hq
  exact ⟨A, c, rfl, hc, y⟩
end Go.Proofs.Ytofpalmghdapkaa

/- Contracts of the document's own answers for package index: Del. -/
namespace Go.Proofs.Ytofpalmghdapkaa
open Go.ChangeShapes Go.WideShapes Go.ChangeAt Go.RowKit
set_option linter.unusedVariables false
set_option linter.unusedSimpArgs false

theorem TabPost.ofn {w w' : World} {q : List Cl × Int} {l : List Cl} {f : Int} {A : Option Addr} {c N : Nat} (hN : l.length = N) (hq : q = (l, f)) (hc : CsAt w' l A c) (y : Below w.heap.size w w') : TabPost w q (.returned (.tuple #[.slice A N c, .int .i64 f])) w' := by
  subst hN
  exact TabPost.of hq hc y
/-- while keys are put anew, in memory. -/
structure DelM (w : World) (N p E : Nat) (T : List Cl) (wr : World) (l : List Cl) (A : Option Addr) (c m f : Nat) : Prop where
  at_ : CsAt wr l A c
  inv : DelI N p m E l
  fuel : E - m < f
  fin : delF f l ((p + m) % N) = T
  below : Below w.heap.size w wr
theorem DelM.end {w : World} {N p E : Nat} {T : List Cl} {wr : World} {l : List Cl} {A : Option Addr} {c m f : Nat} (h : DelM w N p E T wr l A c m f) (hu : (atC l ((p + m) % N)).used = false) : l = T := by
  have hf := h.fuel
  have hd := h.fin
  obtain ⟨g, rfl⟩ : ∃ g, f = g + 1 := ⟨f - 1, by omega⟩
  unfold delF at hd
  rw [if_neg (by rw [hu]; simp)] at hd
  exact hd
theorem DelM.next {w : World} {N p E : Nat} {T : List Cl} {wr wx : World} {l : List Cl} {A A' : Option Addr} {c c' m f : Nat} (h : DelM w N p E T wr l A c m f) (hu : (atC l ((p + m) % N)).used = true) (y : Below wr.heap.size wr wx) (hc : CsAt wx (reputC l ((p + m) % N)) A' c') : m < E ∧ DelM w N p E T wx (reputC l ((p + m) % N)) A' c' (m + 1) (f - 1) := by
  have hf := h.fuel
  have hd := h.fin
  have hmE : m < E := by
    rcases Nat.lt_or_ge m E with k | k
    · exact k
    · have : m = E := by have := h.inv.e0; omega
      rw [this, h.inv.emp] at hu; cases hu
  obtain ⟨g, rfl⟩ : ∃ g, f = g + 1 := ⟨f - 1, by omega⟩
  unfold delF at hd
  rw [if_pos hu, h.inv.len, add_mod3] at hd
  exact ⟨hmE, ⟨hc, (h.inv.step hu).1, by omega, hd, h.below.trans (y.mono h.below.size)⟩⟩
end Go.Proofs.Ytofpalmghdapkaa

/- Contracts of the document's own answers for package index: Same. -/
namespace Go.Proofs.Ytofpalmghdapkaa
open Go.ChangeShapes Go.WideShapes Go.ChangeAt Go.RowKit
set_option linter.unusedVariables false
set_option linter.unusedSimpArgs false

/-- are two tables the same? -/
def sameTab (a b : List Cl) : Bool := decide (a.length = b.length) && (List.range a.length).all (fun i => sameCl (atC a i) (atC b i))
theorem sameTab_iff (a b : List Cl) : sameTab a b = true ↔ a = b := by
  unfold sameTab
  rw [Bool.and_eq_true, decide_eq_true_eq, List.all_eq_true]
  constructor
  · rintro ⟨hl, h⟩
    refine List.ext_getElem hl fun i h1 h2 => ?_
    have := (sameCl_iff _ _).1 (h i (List.mem_range.2 h1))
    rwa [atC_get h1, atC_get h2] at this
  · rintro rfl
    exact ⟨rfl, fun i _ => (sameCl_iff _ _).2 rfl⟩
end Go.Proofs.Ytofpalmghdapkaa

/- What package index's functions owe, as propositions. -/
namespace Go.Proofs.Ytofpalmghdapkaa
open Go.ChangeShapes Go.WideShapes Go.ChangeAt Go.RowKit
set_option linter.unusedVariables false
set_option linter.unusedSimpArgs false

theorem TabPost.n {w w' : World} {q : List Cl × Int} {e : Ending} {N : Nat} (h : TabPost w q e w') (hN : q.1.length = N) : ∃ A c, e = .returned (.tuple #[.slice A N c, .int .i64 q.2]) ∧ CsAt w' q.1 A c ∧ Below w.heap.size w w' := by
  subst hN
  exact h
/-- a table is answered: the one that was given, in its place, or one in memory that is new. -/
def TabF (w : World) (A0 : Option Addr) (q : List Cl × Int) (e : Ending) (w' : World) : Prop := ∃ A c, e = .returned (.tuple #[.slice A q.1.length c, .int .i64 q.2]) ∧ CsAt w' q.1 A c ∧ Below w.heap.size w w' ∧ (A = A0 ∨ ∀ ad, A = some ad → w.heap.size ≤ ad.block)
theorem TabF.n {w w' : World} {A0 : Option Addr} {q : List Cl × Int} {e : Ending} {N : Nat} (h : TabF w A0 q e w') (hN : q.1.length = N) : ∃ A c, e = .returned (.tuple #[.slice A N c, .int .i64 q.2]) ∧ CsAt w' q.1 A c ∧ Below w.heap.size w w' := by
  subst hN
  obtain ⟨A, c, h1, h2, h3, _⟩ := h
  exact ⟨A, c, h1, h2, h3⟩
theorem TabF.nf {w w' : World} {A0 : Option Addr} {q : List Cl × Int} {e : Ending} {N : Nat} (h : TabF w A0 q e w') (hN : q.1.length = N) : ∃ A c, e = .returned (.tuple #[.slice A N c, .int .i64 q.2]) ∧ CsAt w' q.1 A c ∧ Below w.heap.size w w' ∧ (A = A0 ∨ ∀ ad, A = some ad → w.heap.size ≤ ad.block) := by
  subst hN
  exact h
def NewC10 : Prop := ∀ (n : Int) (w : World) (q : List Cl × Int), newC n = q → Calls Try.prog 26 #[.int .i64 n] w (TabF w none q)
def RightC10 : Prop := ∀ (l : List Cl) (A : Option Addr) (c N : Nat) (w : World) (b : Bool), l.length = N → CsAt w l A c → N ≤ 1024 → rightCB l = b →
  Calls Try.prog 46 #[.slice A N c] w fun e w' => e = .returned (.bool b) ∧ Below w.heap.size w w'
def LenC10 : Prop := ∀ (l : List Cl) (A : Option Addr) (c N : Nat) (w : World) (n : Nat), l.length = N → CsAt w l A c → N ≤ 1024 → usedN l = n →
  Calls Try.prog 54 #[.slice A N c] w fun e w' => e = .returned (.int .i64 n) ∧ Below w.heap.size w w'
def GetC10 : Prop := ∀ (l : List Cl) (A : Option Addr) (c N : Nat) (k : Tp) (w : World) (q : Int × Bool), l.length = N → CsAt w l A c → N ≤ 1024 → RngTp k → getC l k = q →
  Calls Try.prog 34 #[.slice A N c, tpV k] w fun e w' => e = .returned (.tuple #[.int .i64 q.1, .bool q.2]) ∧ Below w.heap.size w w'
def PutC10 : Prop := ∀ (l : List Cl) (A : Option Addr) (c N : Nat) (k : Tp) (n : Int) (w : World) (q : List Cl × Int), l.length = N → CsAt w l A c → N ≤ 1024 → RngTp k → putC l k n = q →
  Calls Try.prog 45 #[.slice A N c, tpV k, .int .i64 n] w (TabF w A q)
def DelC10 : Prop := ∀ (l : List Cl) (A : Option Addr) (c N : Nat) (k : Tp) (w : World) (q : List Cl × Int), l.length = N → CsAt w l A c → N ≤ 1024 → RngTp k → delC l k = q →
  Calls Try.prog 50 #[.slice A N c, tpV k] w (TabF w A q)
end Go.Proofs.Ytofpalmghdapkaa

/- A packet's cells. -/
namespace Go.Proofs.Ytofpalmghdapkaa
open Go.ChangeShapes Go.WideShapes Go.ChangeAt Go.RowKit
set_option linter.unusedVariables false

abbrev pkL (x : Pk) (Ao : Option Addr) (co : Nat) (Ab : Option Addr) (cb : Nat) : List Value :=
  [.int .i64 x.tos, .int .i64 x.id, .bool x.df, .bool x.mf, .int .i64 x.off, .int .i64 x.ttl, .int .i64 x.proto, .int .u32 x.src, .int .u32 x.dst, .slice Ao x.opts.length co, .slice Ab x.body.length cb]
theorem pk_one (x : Pk) (Ao : Option Addr) (co : Nat) (Ab : Option Addr) (cb : Nat) : (pkL x Ao co Ab cb).toArray.all (·.oneCell') = true := all_oneCell_toArray (by simp [Value.oneCell'])
end Go.Proofs.Ytofpalmghdapkaa

/- A packet among a law's arguments. -/
namespace Go.Proofs.Ytofpalmghdapkaa
open Go.ChangeShapes Go.WideShapes Go.ChangeAt Go.RowKit
set_option linter.unusedVariables false

/-- a packet that came in. -/
structure PkIn (w : World) (p : Pk) (Ao : Option Addr) (co : Nat) (Ab : Option Addr) (cb : Nat) : Prop where
  rng : Rng p
  olen : p.opts.length ≤ co
  ocap : co ≤ 9223372036854775807
  onil : Ao = none → co = 0
  obs : Bs w w.heap.size Ao p.opts
  blen : p.body.length ≤ cb
  bcap : cb ≤ 9223372036854775807
  bnil : Ab = none → cb = 0
  bbs : Bs w w.heap.size Ab p.body
end Go.Proofs.Ytofpalmghdapkaa

/- What package tuple's functions owe, as propositions; packets whose body was put. -/
namespace Go.Proofs.Ytofpalmghdapkaa
open Go.ChangeShapes Go.WideShapes Go.ChangeAt Go.RowKit
set_option linter.unusedVariables false
set_option linter.unusedSimpArgs false

def RightC9 : Prop := ∀ (t : Tp) (w : World) (b : Bool), rightT t = b → RngTp t → Calls Try.prog 25 #[tpV t] w fun e w' => e = .returned (.bool b) ∧ Below w.heap.size w w'
def HashC9 : Prop := ∀ (t : Tp) (seed : Int) (w : World) (q : Int), hashT t seed = q → RngTp t → 0 ≤ seed → seed ≤ 4294967295 → Calls Try.prog 56 #[tpV t, .int .u32 seed] w fun e w' => e = .returned (.int .u32 q) ∧ Below w.heap.size w w'
theorem ofP_rng (p : Pk) (h : Rng p) : RngTp (ofP p).1 := by
  have z : RngTp tp0 := ⟨by decide, by decide, by decide, by decide⟩
  unfold ofP
  repeat' split
  all_goals first | exact z | exact ⟨h.s0, h.s1, h.d0, h.d1⟩
/-- a packet without options whose body was put. -/
theorem pkIn_own {w : World} {base g n c : Nat} {L : List UInt8} (h : Own w base g n c L) (hn : n = L.length) {p : Pk} (hb : p.body = L) (ho : p.opts = []) (r : Rng p) : PkIn w p none 0 (some ⟨g, 0, none⟩) c := by
  have hc := h.cap
  unfold maxLen at hc
  refine ⟨r, by rw [ho]; exact Nat.le_refl _, by omega, fun _ => rfl, .inl ho, by rw [hb, ← hn]; exact hc.1, hc.2, (fun e => by cases e), by rw [hb]; exact h.bs⟩
end Go.Proofs.Ytofpalmghdapkaa

/- Contracts of package tuple: words of bytes in an array; Turn, Right. -/
namespace Go.Proofs.Ytofpalmghdapkaa
open Go.ChangeShapes Go.WideShapes Go.ChangeAt Go.RowKit
set_option linter.unusedVariables false
set_option linter.unusedSimpArgs false

abbrev u8L (l : List Int) : List Value := l.map (fun n => .int .u8 n)
theorem u8_one (l : List Int) : ∀ u ∈ u8L l, u.oneCell' = true := by
  intro u hu
  obtain ⟨n, _, rfl⟩ := List.mem_map.1 hu
  rfl
set_option maxHeartbeats 400000 in
theorem tupTo9 (n m : Int) (w : World) (b : Bool) (hb : upB n m = b) :
    Calls Try.prog 43 #[.int .i64 n, .int .i64 m] w fun e w' => e = .returned (.bool b) ∧ w = w' := by
  subst hb
  unfold upB
  by_cases h0 : 0 ≤ n
  · by_cases h1 : n ≤ m
    · go_enter Try.func43, Try.ntmps43
      go_wp2
      go_ret
      exact ⟨by simp [h0, h1], rfl⟩
    · go_enter Try.func43, Try.ntmps43
      go_wp2
      go_ret
      exact ⟨by simp [h1], rfl⟩
  · go_enter Try.func43, Try.ntmps43
    go_wp2
    go_ret
    exact ⟨by simp; omega, rfl⟩
abbrev setW (cs : List Value) (k : Nat) (x : Int) : List Value := (cs.set k (.int .u8 (x / 256))).set (k + 1) (.int .u8 (x % 256))
set_option maxHeartbeats 400000 in
theorem tputWord9 (w : World) (g : Nat) (ty : TypeId) (cs : List Value) (H : Bxo w g ty cs) (hn : cs.length = 13) (k : Nat) (ki : Int) (hki : ki = (k : Int)) (hk : k + 1 < 13) (x : Int) (x0 : 0 ≤ x) (x1 : x ≤ 65535) :
    Calls Try.prog 66 #[.slice (some ⟨g, 0, none⟩) 13 13, .int .i64 ki, .int .u16 x] w fun e w' => e = .returned (.tuple #[]) ∧ Bxo w' g ty (setW cs k x) ∧ Only g w w' := by
  subst hki
  have c0 := H.cell k (List.getElem?_eq_getElem (by omega))
  have c1 := H.cell (k + 1) (List.getElem?_eq_getElem (by omega))
  have r0 := H.frozen k
  have r1 := H.frozen (k + 1)
  have S1 := (H.set k (.int .u8 (x / 256))).set (k + 1) (.int .u8 (x % 256))
  have S2 := ((Only.refl (g := g) (w := w)).set k (.int .u8 (x / 256))).set (k + 1) (.int .u8 (x % 256))
  have S := Go.Lib.hid (And.intro S1 S2)
  clear S1 S2
  generalize cs[k] = v0 at *
  generalize cs[k + 1] = v1 at *
  have HN := Go.Lib.hid hn
  clear H hn
  have e1 := IntKind.wrap_u8 x
  have e2 := IntWalk.u8_in (x / 256) (by omega)
  have i0 : (k : Int) < 13 := by omega
  have i1 : (k : Int) + 1 < 13 := by omega
  have j0 : (0 : Int) ≤ (k : Int) := by omega
  have j1 : (0 : Int) ≤ (k : Int) + 1 := by omega
  have s1 : IntKind.i64.wrap ((k : Int) + 1) = (k : Int) + 1 := IntWalk.i64_in _ (by omega)
  have s2 : ((k : Int) + 1).toNat = k + 1 := by omega
  go_enter Try.func66, Try.ntmps66
  go_wp2
  go_end0
  exact ⟨rfl, S.out⟩
abbrev setA (cs : List Value) (k : Nat) (a : Int) : List Value := setW (setW cs k (a / 65536)) (k + 2) (a % 65536)
set_option maxHeartbeats 400000 in
theorem tputAddr9 (w : World) (g : Nat) (ty : TypeId) (cs : List Value) (H : Bxo w g ty cs) (hn : cs.length = 13) (k : Nat) (ki : Int) (hki : ki = (k : Int)) (hk : k + 3 < 13) (a : Int) (a0 : 0 ≤ a) (a1 : a ≤ 4294967295) :
    Calls Try.prog 65 #[.slice (some ⟨g, 0, none⟩) 13 13, .int .i64 ki, .int .u32 a] w fun e w' => e = .returned (.tuple #[]) ∧ Bxo w' g ty (setA cs k a) ∧ Only g w w' := by
  have HB := Go.Lib.hid H
  clear H
  subst hki
  have e1 := IntKind.wrap_u16 a
  have e2 := IntWalk.u16_in (a / 65536) (by omega)
  have s1 : IntKind.i64.wrap ((k : Int) + 2) = (k : Int) + 2 := IntWalk.i64_in _ (by omega)
  go_enter Try.func65, Try.ntmps65
  go_wp2_with fail
  refine (tputWord9 w g ty cs HB.out hn k k rfl (by omega) (a / 65536) (by omega) (by omega)).mono ?_
  rintro e w1 ⟨rfl, hb1, ho1⟩
  have HB1 := Go.Lib.hid hb1
  clear hb1 HB
  dsimp only
  go_wp2_with fail
  refine (tputWord9 w1 g ty _ HB1.out (by simp [hn]) (k + 2) ((k : Int) + 2) (by omega) (by omega) (a % 65536) (by omega) (by omega)).mono ?_
  rintro e w2 ⟨rfl, hb2, ho2⟩
  have HB2 := Go.Lib.hid hb2
  clear hb2
  dsimp only
  go_wp2
  go_end0
  exact ⟨rfl, HB2.out, ho1.trans ho2⟩
theorem rightT_up (t : Tp) : rightT t = (upB t.proto 255 && upB t.sport 65535 && upB t.dport 65535) := by
  rw [Bool.eq_iff_iff, rightT_iff]
  simp [upB]
  omega
set_option maxRecDepth 100000 in
set_option maxHeartbeats 4000000 in
theorem cright9 : RightC9 := by
  intro t w b hb _
  rw [rightT_up] at hb
  have HB := Go.Lib.hid hb
  have y0 : Below w.heap.size w (w.alloc (oTp t)) := (Below.refl _ _).alloc (Nat.le_refl _) _
  have h1 := Bxo.made w 38 (tpL t)
  clear hb
  obtain ⟨b1, e1⟩ : ∃ b1, upB t.proto 255 = b1 := ⟨_, rfl⟩
  obtain ⟨b2, e2⟩ : ∃ b2, upB t.sport 65535 = b2 := ⟨_, rfl⟩
  obtain ⟨b3, e3⟩ : ∃ b3, upB t.dport 65535 = b3 := ⟨_, rfl⟩
  rw [e1, e2, e3] at HB
  go_enter Try.func25, Try.ntmps25
  go_upto_region 1 with fail
  generalize w.alloc (oTp t) = W at *
  have c0 := h1.cell 0 rfl
  have c2 := h1.cell 2 rfl
  have c4 := h1.cell 4 rfl
  clear h1
  go_wp2_with fail
  refine (tupTo9 t.proto 255 _ b1 e1).mono ?_
  rintro e w1 ⟨rfl, rfl⟩
  dsimp only
  cases b1
  · go_wp2
    go_ret
    exact ⟨ret_bool (by have := HB.out; simpa using this), y0⟩
  go_wp2_with fail
  refine (tupTo9 t.sport 65535 _ b2 e2).mono ?_
  rintro e w1 ⟨rfl, rfl⟩
  dsimp only
  cases b2
  · go_wp2
    go_ret
    exact ⟨ret_bool (by have := HB.out; simpa using this), y0⟩
  go_wp2_with fail
  refine (tupTo9 t.dport 65535 _ b3 e3).mono ?_
  rintro e w1 ⟨rfl, rfl⟩
  dsimp only
  go_wp2
  go_ret
  exact ⟨ret_bool (by have := HB.out; simpa using this), y0⟩
end Go.Proofs.Ytofpalmghdapkaa

/- Contracts of package tuple: told. -/
namespace Go.Proofs.Ytofpalmghdapkaa
open Go.ChangeShapes Go.WideShapes Go.ChangeAt Go.RowKit
set_option linter.unusedVariables false
set_option linter.unusedSimpArgs false

theorem info_a13 : (Try.prog.info? 120).map (·.size) = some 13 := by kernel_rfl
theorem spl_at (vs : List Value) : ∀ (p cs : List Value), cs.length = vs.length → spl (p ++ cs) p.length vs = p ++ vs := by
  induction vs with
  | nil => intro p cs h; rw [List.length_eq_zero_iff.1 h, spl]
  | cons v r ih =>
    intro p cs h
    rcases cs with _ | ⟨c, cs⟩
    · cases h
    have := ih (p ++ [v]) cs (by simpa using h)
    rw [spl]
    have e : (p ++ c :: cs).set p.length v = (p ++ [v]) ++ cs := by simp
    rw [e]
    rw [List.length_append] at this
    rw [show p.length + 1 = p.length + [v].length from rfl, this]
    simp
theorem spl_whole13 (cs vs : List Value) (h : vs.length = 13) (h' : cs.length = 13) : spl cs 0 vs = vs := by
  have := spl_at vs [] cs (by rw [h, h'])
  simpa using this
theorem told_cells (t : Tp) (ht : RngTp t) : setW (setA (setW (setA (List.set [.int .u8 0, .int .u8 0, .int .u8 0, .int .u8 0, .int .u8 0, .int .u8 0, .int .u8 0, .int .u8 0, .int .u8 0, .int .u8 0, .int .u8 0, .int .u8 0, .int .u8 0] 0 (.int .u8 (t.proto % 256))) 1 t.src) 5 (t.sport % 65536)) 7 t.dst) 11 (t.dport % 65536) = u8L (bytesT t) := by
  have s0 := ht.s0
  have s1 := ht.s1
  have d0 := ht.d0
  have d1 := ht.d1
  simp only [setW, setA, List.set_cons_zero, List.set_cons_succ, u8L, bytesT, List.map_cons, List.map_nil]
  have q1 : t.src / 65536 / 256 = t.src / 16777216 := by omega
  have q2 : t.src % 65536 / 256 = t.src / 256 % 256 := by omega
  have q3 : t.src % 65536 % 256 = t.src % 256 := by omega
  have q4 : t.dst / 65536 / 256 = t.dst / 16777216 := by omega
  have q5 : t.dst % 65536 / 256 = t.dst / 256 % 256 := by omega
  have q6 : t.dst % 65536 % 256 = t.dst % 256 := by omega
  have q7 : t.sport % 65536 % 256 = t.sport % 256 := by omega
  have q8 : t.dport % 65536 % 256 = t.dport % 256 := by omega
  simp only [q1, q2, q3, q4, q5, q6, q7, q8]
set_option maxRecDepth 100000 in
set_option maxHeartbeats 8000000 in
theorem ctold : ∀ (t : Tp) (ht : RngTp t) (w : World), Calls Try.prog 62 #[tpV t] w fun e w' => e = .returned (.agg (u8L (bytesT t)).toArray) ∧ Below w.heap.size w w' := by
  intro t ht w
  have s0 := ht.s0
  have s1 := ht.s1
  have d0 := ht.d0
  have d1 := ht.d1
  have p0 := IntKind.wrap_u8 t.proto
  have p1 := IntKind.wrap_u16 t.sport
  have p2 := IntKind.wrap_u16 t.dport
  have y0 : Below w.heap.size w (((w.alloc (oTp t)).alloc (.cells #[.int .u8 0, .int .u8 0, .int .u8 0, .int .u8 0, .int .u8 0, .int .u8 0, .int .u8 0, .int .u8 0, .int .u8 0, .int .u8 0, .int .u8 0, .int .u8 0, .int .u8 0] 120)).alloc (.cells #[.int .u8 0, .int .u8 0, .int .u8 0, .int .u8 0, .int .u8 0, .int .u8 0, .int .u8 0, .int .u8 0, .int .u8 0, .int .u8 0, .int .u8 0, .int .u8 0, .int .u8 0] 120)) := below_alloc (below_alloc (below_alloc (Below.refl _ _) (Nat.le_refl _) _) (by simp) _) (by simp; omega) _
  have h1 := ((Bxo.made w 38 (tpL t)).alloc (.cells #[.int .u8 0, .int .u8 0, .int .u8 0, .int .u8 0, .int .u8 0, .int .u8 0, .int .u8 0, .int .u8 0, .int .u8 0, .int .u8 0, .int .u8 0, .int .u8 0, .int .u8 0] 120)).alloc (.cells #[.int .u8 0, .int .u8 0, .int .u8 0, .int .u8 0, .int .u8 0, .int .u8 0, .int .u8 0, .int .u8 0, .int .u8 0, .int .u8 0, .int .u8 0, .int .u8 0, .int .u8 0] 120)
  have h2 : Bxo (((w.alloc (oTp t)).alloc (.cells #[.int .u8 0, .int .u8 0, .int .u8 0, .int .u8 0, .int .u8 0, .int .u8 0, .int .u8 0, .int .u8 0, .int .u8 0, .int .u8 0, .int .u8 0, .int .u8 0, .int .u8 0] 120)).alloc (.cells #[.int .u8 0, .int .u8 0, .int .u8 0, .int .u8 0, .int .u8 0, .int .u8 0, .int .u8 0, .int .u8 0, .int .u8 0, .int .u8 0, .int .u8 0, .int .u8 0, .int .u8 0] 120)) (w.heap.size + 1) 120 [.int .u8 0, .int .u8 0, .int .u8 0, .int .u8 0, .int .u8 0, .int .u8 0, .int .u8 0, .int .u8 0, .int .u8 0, .int .u8 0, .int .u8 0, .int .u8 0, .int .u8 0] := by
    have := (Bxo.made (w.alloc (oTp t)) 120 [.int .u8 0, .int .u8 0, .int .u8 0, .int .u8 0, .int .u8 0, .int .u8 0, .int .u8 0, .int .u8 0, .int .u8 0, .int .u8 0, .int .u8 0, .int .u8 0, .int .u8 0]).alloc (.cells #[.int .u8 0, .int .u8 0, .int .u8 0, .int .u8 0, .int .u8 0, .int .u8 0, .int .u8 0, .int .u8 0, .int .u8 0, .int .u8 0, .int .u8 0, .int .u8 0, .int .u8 0] 120)
    simpa using this
  have h3 : Bxo (((w.alloc (oTp t)).alloc (.cells #[.int .u8 0, .int .u8 0, .int .u8 0, .int .u8 0, .int .u8 0, .int .u8 0, .int .u8 0, .int .u8 0, .int .u8 0, .int .u8 0, .int .u8 0, .int .u8 0, .int .u8 0] 120)).alloc (.cells #[.int .u8 0, .int .u8 0, .int .u8 0, .int .u8 0, .int .u8 0, .int .u8 0, .int .u8 0, .int .u8 0, .int .u8 0, .int .u8 0, .int .u8 0, .int .u8 0, .int .u8 0] 120)) (w.heap.size + 2) 120 [.int .u8 0, .int .u8 0, .int .u8 0, .int .u8 0, .int .u8 0, .int .u8 0, .int .u8 0, .int .u8 0, .int .u8 0, .int .u8 0, .int .u8 0, .int .u8 0, .int .u8 0] := by
    have := Bxo.made ((w.alloc (oTp t)).alloc (.cells #[.int .u8 0, .int .u8 0, .int .u8 0, .int .u8 0, .int .u8 0, .int .u8 0, .int .u8 0, .int .u8 0, .int .u8 0, .int .u8 0, .int .u8 0, .int .u8 0, .int .u8 0] 120)) 120 [.int .u8 0, .int .u8 0, .int .u8 0, .int .u8 0, .int .u8 0, .int .u8 0, .int .u8 0, .int .u8 0, .int .u8 0, .int .u8 0, .int .u8 0, .int .u8 0, .int .u8 0]
    simpa using this
  go_enter Try.func62, Try.ntmps62
  go_upto_region 2 with fail
  generalize (((w.alloc (oTp t)).alloc (.cells #[.int .u8 0, .int .u8 0, .int .u8 0, .int .u8 0, .int .u8 0, .int .u8 0, .int .u8 0, .int .u8 0, .int .u8 0, .int .u8 0, .int .u8 0, .int .u8 0, .int .u8 0] 120)).alloc (.cells #[.int .u8 0, .int .u8 0, .int .u8 0, .int .u8 0, .int .u8 0, .int .u8 0, .int .u8 0, .int .u8 0, .int .u8 0, .int .u8 0, .int .u8 0, .int .u8 0, .int .u8 0] 120)) = W at *
  have c0 := h1.cell 0 rfl
  have k0 := h3.cell 0 rfl
  have f0 := h3.frozen 0
  have HT := Go.Lib.hid h1
  have HR := Go.Lib.hid h2
  have HB := Go.Lib.hid h3
  clear h1 h2 h3
  go_upto_region 3 with fail
  have hb2 := HB.out.set 0 (.int .u8 (t.proto % 256))
  have ho2 : Only (w.heap.size + 2) W _ := Only.refl.set 0 (.int .u8 (t.proto % 256))
  generalize W.setCell ⟨w.heap.size + 2, 0, none⟩ (.int .u8 (t.proto % 256)) = W2 at *
  have HT2 := Go.Lib.hid (HT.out.only ho2 (by omega))
  have HR2 := Go.Lib.hid (HR.out.only ho2 (by omega))
  have HB2 := Go.Lib.hid hb2
  have y2 : Below w.heap.size w W2 := y0.trans (ho2.below (by omega))
  clear HT HR HB hb2 ho2 y0 c0 k0 f0
  try simp only [Act.put, List.setIfInBounds_toArray, List.set_cons_zero, List.set_cons_succ]
  refine wp_region_held_drew (S := fun Y => Bxo Y w.heap.size 38 (tpL t)) (by kernel_rfl) ?_ (fun hHeld => ?_)
  · exact HT2.out.drew
  refine wpAnyH_take (i := 0) (oi := ⟨some 8, _, _, _, _, _⟩) (v := ?_) rfl (by kernel_rfl) (by kernel_rfl) (by kernel_rfl) (fun _ _ _ h => h) (Or.inl ⟨by rfl, ?_⟩) (by assumption) ?_
  rotate_left
  · intro w hSw; (try dsimp only at hSw); go_simp; (try with_reducible rfl)
  try simp only [Act.put, List.setIfInBounds_toArray, List.set_cons_zero, List.set_cons_succ]
  refine wpAnyH_take (i := 1) (oi := ⟨some 9, _, _, _, _, _⟩) (v := ?_) rfl (by kernel_rfl) (by kernel_rfl) (by kernel_rfl) (fun _ _ _ h => h) (Or.inl ⟨by rfl, ?_⟩) (by assumption) ?_
  rotate_left
  · intro w hSw; (try dsimp only at hSw); go_simp; (try with_reducible rfl)
  try simp only [Act.put, List.setIfInBounds_toArray, List.set_cons_zero, List.set_cons_succ]
  refine wpAnyH_take (i := 2) (oi := ⟨some 10, _, _, _, _, _⟩) (v := ?_) rfl (by kernel_rfl) (by kernel_rfl) (by kernel_rfl) (fun _ _ _ h => h) (Or.inl ⟨by rfl, ?_⟩) (by assumption) ?_
  rotate_left
  · intro w hSw; have xc := hSw.cell 1 rfl; (try dsimp only at hSw); go_simp; (try with_reducible rfl)
  try simp only [Act.put, List.setIfInBounds_toArray, List.set_cons_zero, List.set_cons_succ]
  refine wpAnyH_ready (rs := [3]) (by kernel_rfl) (by simp) (AllReadyH.cons (o := ⟨some 11, _, _, _, _, _⟩) rfl (fun Kc hKc => ?_) AllReadyH.nil)
  go_simp
  go_at_call 65; refine (tputAddr9 _ (w.heap.size + 2) _ _ HB2.out.drew (by simp) 1 1 rfl (by omega) t.src s0 s1).mono ?_; rintro e w3 ⟨rfl, hb3, ho3⟩; have HB3 := Go.Lib.hid hb3; clear hb3; dsimp only
  refine hKc.out _ _ (hHeld.only ho3 (by omega)) (fun hHeld => ?_)
  clear hKc Kc
  try simp only [Act.put, List.setIfInBounds_toArray, List.set_cons_zero, List.set_cons_succ]
  refine wpAnyH_done (by kernel_rfl) ?_ _
  go_upto_region 4 with fail
  try simp only [Act.put, List.setIfInBounds_toArray, List.set_cons_zero, List.set_cons_succ]
  refine wp_region_held_drew (S := fun Y => Bxo Y w.heap.size 38 (tpL t)) (by kernel_rfl) ?_ (fun hHeld => ?_)
  · exact hHeld.drew
  refine wpAnyH_take (i := 0) (oi := ⟨some 12, _, _, _, _, _⟩) (v := ?_) rfl (by kernel_rfl) (by kernel_rfl) (by kernel_rfl) (fun _ _ _ h => h) (Or.inl ⟨by rfl, ?_⟩) (by assumption) ?_
  rotate_left
  · intro w hSw; (try dsimp only at hSw); go_simp; (try with_reducible rfl)
  try simp only [Act.put, List.setIfInBounds_toArray, List.set_cons_zero, List.set_cons_succ]
  refine wpAnyH_take (i := 1) (oi := ⟨some 13, _, _, _, _, _⟩) (v := ?_) rfl (by kernel_rfl) (by kernel_rfl) (by kernel_rfl) (fun _ _ _ h => h) (Or.inl ⟨by rfl, ?_⟩) (by assumption) ?_
  rotate_left
  · intro w hSw; (try dsimp only at hSw); go_simp; (try with_reducible rfl)
  try simp only [Act.put, List.setIfInBounds_toArray, List.set_cons_zero, List.set_cons_succ]
  refine wpAnyH_take (i := 2) (oi := ⟨some 14, _, _, _, _, _⟩) (v := ?_) rfl (by kernel_rfl) (by kernel_rfl) (by kernel_rfl) (fun _ _ _ h => h) (Or.inl ⟨by rfl, ?_⟩) (by assumption) ?_
  rotate_left
  · intro w hSw; have xc := hSw.cell 2 rfl; (try dsimp only at hSw); go_simp; (try with_reducible rfl)
  try simp only [Act.put, List.setIfInBounds_toArray, List.set_cons_zero, List.set_cons_succ]
  refine wpAnyH_take (i := 3) (oi := ⟨some 15, _, _, _, _, _⟩) (v := ?_) rfl (by kernel_rfl) (by kernel_rfl) (by kernel_rfl) (fun _ _ _ h => h) (Or.inl ⟨by rfl, ?_⟩) (by assumption) ?_
  rotate_left
  · intro w hSw; (try dsimp only at hSw); go_simp; (try with_reducible rfl)
  try simp only [Act.put, List.setIfInBounds_toArray, List.set_cons_zero, List.set_cons_succ]
  refine wpAnyH_ready (rs := [4]) (by kernel_rfl) (by simp) (AllReadyH.cons (o := ⟨some 16, _, _, _, _, _⟩) rfl (fun Kc hKc => ?_) AllReadyH.nil)
  go_simp
  go_at_call 66; refine (tputWord9 _ (w.heap.size + 2) _ _ HB3.out.drew (by simp) 5 5 rfl (by omega) (t.sport % 65536) (by omega) (by omega)).mono ?_; rintro e w4 ⟨rfl, hb4, ho4⟩; have HB4 := Go.Lib.hid hb4; clear hb4; dsimp only
  refine hKc.out _ _ (hHeld.only ho4 (by omega)) (fun hHeld => ?_)
  clear hKc Kc
  try simp only [Act.put, List.setIfInBounds_toArray, List.set_cons_zero, List.set_cons_succ]
  refine wpAnyH_done (by kernel_rfl) ?_ _
  go_upto_region 5 with fail
  try simp only [Act.put, List.setIfInBounds_toArray, List.set_cons_zero, List.set_cons_succ]
  refine wp_region_held_drew (S := fun Y => Bxo Y w.heap.size 38 (tpL t)) (by kernel_rfl) ?_ (fun hHeld => ?_)
  · exact hHeld.drew
  refine wpAnyH_take (i := 0) (oi := ⟨some 17, _, _, _, _, _⟩) (v := ?_) rfl (by kernel_rfl) (by kernel_rfl) (by kernel_rfl) (fun _ _ _ h => h) (Or.inl ⟨by rfl, ?_⟩) (by assumption) ?_
  rotate_left
  · intro w hSw; (try dsimp only at hSw); go_simp; (try with_reducible rfl)
  try simp only [Act.put, List.setIfInBounds_toArray, List.set_cons_zero, List.set_cons_succ]
  refine wpAnyH_take (i := 1) (oi := ⟨some 18, _, _, _, _, _⟩) (v := ?_) rfl (by kernel_rfl) (by kernel_rfl) (by kernel_rfl) (fun _ _ _ h => h) (Or.inl ⟨by rfl, ?_⟩) (by assumption) ?_
  rotate_left
  · intro w hSw; (try dsimp only at hSw); go_simp; (try with_reducible rfl)
  try simp only [Act.put, List.setIfInBounds_toArray, List.set_cons_zero, List.set_cons_succ]
  refine wpAnyH_take (i := 2) (oi := ⟨some 19, _, _, _, _, _⟩) (v := ?_) rfl (by kernel_rfl) (by kernel_rfl) (by kernel_rfl) (fun _ _ _ h => h) (Or.inl ⟨by rfl, ?_⟩) (by assumption) ?_
  rotate_left
  · intro w hSw; have xc := hSw.cell 3 rfl; (try dsimp only at hSw); go_simp; (try with_reducible rfl)
  try simp only [Act.put, List.setIfInBounds_toArray, List.set_cons_zero, List.set_cons_succ]
  refine wpAnyH_ready (rs := [3]) (by kernel_rfl) (by simp) (AllReadyH.cons (o := ⟨some 20, _, _, _, _, _⟩) rfl (fun Kc hKc => ?_) AllReadyH.nil)
  go_simp
  go_at_call 65; refine (tputAddr9 _ (w.heap.size + 2) _ _ HB4.out.drew (by simp) 7 7 rfl (by omega) t.dst d0 d1).mono ?_; rintro e w5 ⟨rfl, hb5, ho5⟩; have HB5 := Go.Lib.hid hb5; clear hb5; dsimp only
  refine hKc.out _ _ (hHeld.only ho5 (by omega)) (fun hHeld => ?_)
  clear hKc Kc
  try simp only [Act.put, List.setIfInBounds_toArray, List.set_cons_zero, List.set_cons_succ]
  refine wpAnyH_done (by kernel_rfl) ?_ _
  go_upto_region 6 with fail
  try simp only [Act.put, List.setIfInBounds_toArray, List.set_cons_zero, List.set_cons_succ]
  refine wp_region_held_drew (S := fun Y => Bxo Y w.heap.size 38 (tpL t)) (by kernel_rfl) ?_ (fun hHeld => ?_)
  · exact hHeld.drew
  refine wpAnyH_take (i := 0) (oi := ⟨some 21, _, _, _, _, _⟩) (v := ?_) rfl (by kernel_rfl) (by kernel_rfl) (by kernel_rfl) (fun _ _ _ h => h) (Or.inl ⟨by rfl, ?_⟩) (by assumption) ?_
  rotate_left
  · intro w hSw; (try dsimp only at hSw); go_simp; (try with_reducible rfl)
  try simp only [Act.put, List.setIfInBounds_toArray, List.set_cons_zero, List.set_cons_succ]
  refine wpAnyH_take (i := 1) (oi := ⟨some 22, _, _, _, _, _⟩) (v := ?_) rfl (by kernel_rfl) (by kernel_rfl) (by kernel_rfl) (fun _ _ _ h => h) (Or.inl ⟨by rfl, ?_⟩) (by assumption) ?_
  rotate_left
  · intro w hSw; (try dsimp only at hSw); go_simp; (try with_reducible rfl)
  try simp only [Act.put, List.setIfInBounds_toArray, List.set_cons_zero, List.set_cons_succ]
  refine wpAnyH_take (i := 2) (oi := ⟨some 23, _, _, _, _, _⟩) (v := ?_) rfl (by kernel_rfl) (by kernel_rfl) (by kernel_rfl) (fun _ _ _ h => h) (Or.inl ⟨by rfl, ?_⟩) (by assumption) ?_
  rotate_left
  · intro w hSw; have xc := hSw.cell 4 rfl; (try dsimp only at hSw); go_simp; (try with_reducible rfl)
  try simp only [Act.put, List.setIfInBounds_toArray, List.set_cons_zero, List.set_cons_succ]
  refine wpAnyH_take (i := 3) (oi := ⟨some 24, _, _, _, _, _⟩) (v := ?_) rfl (by kernel_rfl) (by kernel_rfl) (by kernel_rfl) (fun _ _ _ h => h) (Or.inl ⟨by rfl, ?_⟩) (by assumption) ?_
  rotate_left
  · intro w hSw; (try dsimp only at hSw); go_simp; (try with_reducible rfl)
  try simp only [Act.put, List.setIfInBounds_toArray, List.set_cons_zero, List.set_cons_succ]
  refine wpAnyH_ready (rs := [4]) (by kernel_rfl) (by simp) (AllReadyH.cons (o := ⟨some 25, _, _, _, _, _⟩) rfl (fun Kc hKc => ?_) AllReadyH.nil)
  go_simp
  go_at_call 66; refine (tputWord9 _ (w.heap.size + 2) _ _ HB5.out.drew (by simp) 11 11 rfl (by omega) (t.dport % 65536) (by omega) (by omega)).mono ?_; rintro e w6 ⟨rfl, hb6, ho6⟩; have HB6 := Go.Lib.hid hb6; clear hb6; dsimp only
  refine hKc.out _ _ (hHeld.only ho6 (by omega)) (fun hHeld => ?_)
  clear hKc Kc
  try simp only [Act.put, List.setIfInBounds_toArray, List.set_cons_zero, List.set_cons_succ]
  refine wpAnyH_done (by kernel_rfl) ?_ _
  have hb7 : Bxo w6 (w.heap.size + 2) 120 (u8L (bytesT t)) := by
    have h := HB6.out
    rwa [told_cells t ht] at h
  have HB7 := Go.Lib.hid hb7
  have hr7 : Bxo w6 (w.heap.size + 1) 120 [.int .u8 0, .int .u8 0, .int .u8 0, .int .u8 0, .int .u8 0, .int .u8 0, .int .u8 0, .int .u8 0, .int .u8 0, .int .u8 0, .int .u8 0, .int .u8 0, .int .u8 0] := ((((HR2.out.drew.only ho3 (by omega)).drew.only ho4 (by omega)).drew.only ho5 (by omega)).drew.only ho6 (by omega))
  have HR7 := Go.Lib.hid hr7
  have y6 : Below w.heap.size w w6 := (y2.trans (below_drew (Below.refl _ _))).trans ((ho3.below (by omega)).trans ((below_drew (Below.refl _ _)).trans ((ho4.below (by omega)).trans ((below_drew (Below.refl _ _)).trans ((ho5.below (by omega)).trans ((below_drew (Below.refl _ _)).trans (ho6.below (by omega))))))))
  have hl7 : (u8L (bytesT t)).length = 13 := by simp [bytesT]
  have ho7 := u8_one (bytesT t)
  obtain ⟨cs, hcs⟩ : ∃ cs, u8L (bytesT t) = cs := ⟨_, rfl⟩
  rw [hcs] at HB7 hl7 ho7
  have HCS := Go.Lib.hid hcs
  clear hcs hb7 hr7 HB6 HB5 HB4 HB3 HB2 HR2 ho3 ho4 ho5 ho6 y2 ht
  go_wp2_with (first
    | (refine wpList_load_box rfl 120 _ rfl (w.heap.size + 2) rfl cs _ HB7.out Try.underlying120 rfl (by rw [info_a13, hl7]) ?_)
    | (refine wpList_store_any rfl 120 _ _ rfl (w.heap.size + 1) 0 120 _ cs _ rfl rfl rfl HR7.out (by rw [info_a13, hl7]) (by rw [hl7]; show 0 + 13 ≤ 13; omega) ho7 ?_; intro wF hbF hoF; have HBF := Go.Lib.hid hbF; clear hbF))
  have HF : Bxo wF (w.heap.size + 1) 120 cs := by
    have h := HBF.out
    rwa [spl_whole13 _ cs hl7 rfl] at h
  exact bodyPost_ret (v := .agg cs.toArray) (results_cell_row rfl _ _ (w.heap.size + 1) 120 _ _ _ rfl HF Try.underlying120 rfl (by rw [info_a13]; simp [hl7])) rfl ⟨by rw [HCS.out], y6.trans (hoF.below (show w.heap.size ≤ w.heap.size + 1 by omega))⟩
end Go.Proofs.Ytofpalmghdapkaa

/- bytes.Compare of two rows of bytes: the model's entry, in the words of the order of lists. -/
namespace Go.Proofs.Ytofpalmghdapkaa
open Go.ChangeShapes Go.WideShapes Go.ChangeAt Go.RowKit
set_option linter.unusedVariables false
set_option linter.unusedSimpArgs false

/-- what the entry answers, from a place on. -/
def cmpAt (a b : ByteArray) (k n : Nat) : Int :=
  match (List.range' k n).find? fun i => a[i]! != b[i]! with
  | some i => if a[i]! < b[i]! then -1 else 1
  | none => 0
theorem cmpAt_zero (a b : ByteArray) (k : Nat) : cmpAt a b k 0 = 0 := rfl
theorem cmpAt_succ (a b : ByteArray) (k n : Nat) : cmpAt a b k (n + 1) = if a[k]! = b[k]! then cmpAt a b (k + 1) n else if a[k]! < b[k]! then -1 else 1 := by
  unfold cmpAt
  rw [List.range'_succ, List.find?_cons]
  by_cases h : a[k]! = b[k]!
  · simp [h]
  · have e : (a[k]! != b[k]!) = true := by simpa using h
    rw [e, if_neg h]
theorem get_bytes (l : List UInt8) (k : Nat) (h : k < l.length) : (ByteArray.mk l.toArray)[k]! = l[k] := by
  rw [getElem!_pos _ k (by show k < l.toArray.size; simpa using h)]
  show l.toArray[k]'(by simpa using h) = _
  simp
theorem cmp_less (x y : List UInt8) : ∀ (n k : Nat), x.length = k + n → y.length = k + n →
    decide (cmpAt ⟨x.toArray⟩ ⟨y.toArray⟩ k n < 0) = lessL ((x.drop k).map (fun b => (b.toNat : Int))) ((y.drop k).map (fun b => (b.toNat : Int)))
  | 0, k, hx, hy => by
    rw [cmpAt_zero, List.drop_eq_nil_of_le (by omega), List.drop_eq_nil_of_le (by omega)]
    rfl
  | n + 1, k, hx, hy => by
    have h1 : k < x.length := by omega
    have h2 : k < y.length := by omega
    have ih := cmp_less x y n (k + 1) (by omega) (by omega)
    rw [cmpAt_succ, get_bytes x k h1, get_bytes y k h2, List.drop_eq_getElem_cons h1, List.drop_eq_getElem_cons h2, List.map_cons, List.map_cons, lessL]
    by_cases e : x[k] = y[k]
    · rw [if_pos e, if_pos (by rw [e]), ih]
    · have e' : ¬ ((x[k].toNat : Int) = (y[k].toNat : Int)) := by
        intro q
        exact e (UInt8.toNat_inj.1 (by omega))
      rw [if_neg e, if_neg e']
      by_cases l : x[k] < y[k]
      · rw [if_pos l]
        have := UInt8.lt_iff_toNat_lt.1 l
        simp; omega
      · rw [if_neg l]
        have : ¬ x[k].toNat < y[k].toNat := fun q => l (UInt8.lt_iff_toNat_lt.2 q)
        simp; omega
theorem bytes_nat (l : List Int) (h : ∀ n ∈ l, 0 ≤ n ∧ n ≤ 255) : (Lib.bytesOf l).map (fun b => (b.toNat : Int)) = l := by
  unfold Lib.bytesOf
  rw [List.map_map]
  refine (List.map_congr_left (g := id) fun n hn => ?_).trans (List.map_id l)
  obtain ⟨h0, h1⟩ := h n hn
  show ((UInt8.ofNat n.toNat).toNat : Int) = n
  rw [UInt8.toNat_ofNat']
  omega
theorem run_cmpSlices {P : Program} (w : World) (g h n c d : Nat) (xs ys : List Int) (hx : xs.length = n) (hy : ys.length = n)
    (kx : ∀ j x, xs[j]? = some x → w.cell? ((⟨g, 0, none⟩ : Addr).add j) = some (.int .u8 x)) (ky : ∀ j x, ys[j]? = some x → w.cell? ((⟨h, 0, none⟩ : Addr).add j) = some (.int .u8 x)) :
    (Extern.BytealgCompare.compare #[.slice (some ⟨g, 0, none⟩) n c, .slice (some ⟨h, 0, none⟩) n d]).run P w = .ok (.int .i64 (cmpAt ⟨(Lib.bytesOf xs).toArray⟩ ⟨(Lib.bytesOf ys).toArray⟩ 0 n)) w := by
  have l1 := Lib.run_loadBytesX (P := P) w xs ⟨g, 0, none⟩ .empty kx
  have l2 := Lib.run_loadBytesX (P := P) w ys ⟨h, 0, none⟩ .empty ky
  have e : ∀ zs : List Int, (⟨ByteArray.empty.data ++ (Lib.bytesOf zs).toArray⟩ : ByteArray) = ⟨(Lib.bytesOf zs).toArray⟩ := by
    intro zs
    apply ByteArray.ext
    show (#[] : Array UInt8) ++ (Lib.bytesOf zs).toArray = (Lib.bytesOf zs).toArray
    simp
  rw [e, hx] at l1
  rw [e, hy] at l2
  change Sem.run P (do pure (goInt (Extern.BytealgCompare.cmp (← Extern.Bytes.bytesOf (.slice (some ⟨g, 0, none⟩) n c)) (← Extern.Bytes.bytesOf (.slice (some ⟨h, 0, none⟩) n d))))) w = _
  simp only [Extern.Bytes.bytesOf, Sem.run_bind, Sem.run_pure, l1, l2, Result.andThen]
  have s1 : (ByteArray.mk (Lib.bytesOf xs).toArray).size = n := by show (Lib.bytesOf xs).toArray.size = n; simp [Lib.bytesOf, hx]
  have s2 : (ByteArray.mk (Lib.bytesOf ys).toArray).size = n := by show (Lib.bytesOf ys).toArray.size = n; simp [Lib.bytesOf, hy]
  have hc : Extern.BytealgCompare.cmp ⟨(Lib.bytesOf xs).toArray⟩ ⟨(Lib.bytesOf ys).toArray⟩ = cmpAt ⟨(Lib.bytesOf xs).toArray⟩ ⟨(Lib.bytesOf ys).toArray⟩ 0 n := by
    unfold Extern.BytealgCompare.cmp cmpAt
    rw [s1, s2, Nat.min_self, List.range_eq_range']
    split
    · rename_i i hi
      rw [hi]
    · rename_i hi
      rw [hi]
      simp
  rw [hc]
  rfl
/-- the order of the bytes is that of the numbers. -/
theorem less_split (n m : Int) (x y : List Int) : lessL (n / 256 :: n % 256 :: x) (m / 256 :: m % 256 :: y) = lessL (n :: x) (m :: y) := by
  simp only [lessL]
  by_cases e : n = m
  · subst e; simp
  · rw [if_neg e]
    by_cases e1 : n / 256 = m / 256
    · rw [if_pos e1]
      have e2 : ¬ n % 256 = m % 256 := by omega
      rw [if_neg e2, decide_eq_decide]
      omega
    · rw [if_neg e1, decide_eq_decide]
      omega
theorem less_four (n m : Int) (x y : List Int) : lessL (n / 16777216 :: n / 65536 % 256 :: n / 256 % 256 :: n % 256 :: x) (m / 16777216 :: m / 65536 % 256 :: m / 256 % 256 :: m % 256 :: y) = lessL (n :: x) (m :: y) := by
  rw [← less_split n m x y, ← less_split (n / 256) (m / 256), ← less_split (n / 256 / 256) (m / 256 / 256)]
  rw [show n / 256 / 256 / 256 = n / 16777216 by omega, show m / 256 / 256 / 256 = m / 16777216 by omega, show n / 256 / 256 = n / 65536 by omega, show m / 256 / 256 = m / 65536 by omega]
theorem less_cons (n m : Int) (x y x' y' : List Int) (h : lessL x y = lessL x' y') : lessL (n :: x) (m :: y) = lessL (n :: x') (m :: y') := by
  simp only [lessL, h]
theorem less_bytes (a b : Tp) : lessL (bytesT a) (bytesT b) = lessT a b := by
  unfold lessT numsT bytesT
  refine less_cons _ _ _ _ _ _ ?_
  rw [less_four]
  refine less_cons _ _ _ _ _ _ ?_
  rw [show a.sport % 256 = a.sport % 65536 % 256 by omega, show b.sport % 256 = b.sport % 65536 % 256 by omega, less_split]
  refine less_cons _ _ _ _ _ _ ?_
  rw [less_four]
  refine less_cons _ _ _ _ _ _ ?_
  rw [show a.dport % 256 = a.dport % 65536 % 256 by omega, show b.dport % 256 = b.dport % 65536 % 256 by omega, less_split]
theorem bytesT_rng (t : Tp) (h : RngTp t) : ∀ n ∈ bytesT t, 0 ≤ n ∧ n ≤ 255 := by
  have s0 := h.s0
  have s1 := h.s1
  have d0 := h.d0
  have d1 := h.d1
  intro n hn
  simp only [bytesT, List.mem_cons, List.not_mem_nil, or_false] at hn
  rcases hn with rfl | rfl | rfl | rfl | rfl | rfl | rfl | rfl | rfl | rfl | rfl | rfl | rfl <;> omega
theorem cmp_bytes (a b : Tp) (ha : RngTp a) (hb : RngTp b) : decide (cmpAt ⟨(Lib.bytesOf (bytesT a)).toArray⟩ ⟨(Lib.bytesOf (bytesT b)).toArray⟩ 0 13 < 0) = lessT a b := by
  rw [cmp_less _ _ 13 0 (by simp [Lib.bytesOf, bytesT]) (by simp [Lib.bytesOf, bytesT]), List.drop_zero, List.drop_zero, bytes_nat _ (bytesT_rng a ha), bytes_nat _ (bytesT_rng b hb), less_bytes]
end Go.Proofs.Ytofpalmghdapkaa

/- Contracts of package tuple: Hash. -/
namespace Go.Proofs.Ytofpalmghdapkaa
open Go.ChangeShapes Go.WideShapes Go.ChangeAt Go.RowKit
set_option linter.unusedVariables false
set_option linter.unusedSimpArgs false

theorem index_u8 (l : List Int) (h : l.length = 13) (k : Nat) (hk : k < 13) (w : World) : (Instr.index 120 (.agg (u8L l).toArray) (.int .i64 (k : Int))).run Try.prog w = .ok (.int .u8 (l[k]'(by omega))) w := by
  obtain ⟨i0, hi⟩ : ∃ i0, Try.prog.info? 5 = some i0 := Option.isSome_iff_exists.1 (by kernel_rfl)
  exact run_index_arr _ _ 13 .u8 i0 _ k _ (by kernel_rfl) Try.underlying5 hi (by kernel_rfl) hk (by simp [u8L, h, hk]) w
set_option maxRecDepth 100000 in
set_option maxHeartbeats 4000000 in
theorem chash9 : HashC9 := by
  intro t seed w q hq ht s0 s1
  have HQ : Hid (hashL (bits .xor .u32 2166136261 seed) ((bytesT t).drop 0) = q) := Go.Lib.hid (by rw [List.drop_zero]; exact hq)
  have HR := Go.Lib.hid (bytesT_rng t ht)
  have hl : (bytesT t).length = 13 := by simp [bytesT]
  have y0 : Below w.heap.size w (w.alloc (oTp t)) := (Below.refl _ _).alloc (Nat.le_refl _) _
  have h1 := Bxo.made w 38 (tpL t)
  clear hq s0 s1
  go_enter Try.func56, Try.ntmps56
  go_upto_region 1 with fail
  generalize w.alloc (oTp t) = W at *
  have HA := Go.Lib.hid h1
  clear h1
  go_wp2_with (first
    | (refine wpList_load_box rfl 38 _ rfl w.heap.size rfl (tpL t) _ HA.out Try.underlying38 rfl info_tp ?_)
    | (go_at_call 62; refine (ctold t ht W).mono ?_; rintro e w1 ⟨rfl, y1⟩; dsimp only))
  have y2 := y0.trans (y1.mono y0.size)
  clear y0 y1 HA ht
  have HI := Go.Lib.hid (index_u8 (bytesT t) hl)
  have HL := Go.Lib.hid hl
  generalize harr : (u8L (bytesT t)).toArray = arr at *
  clear harr
  generalize bytesT t = l at *
  go_loop [5, 12] (fun h i => ∃ (k : Nat) (x : Int), k ≤ 13 ∧ i = .int .i64 k ∧ h = .int .u32 x ∧ Hid (hashL x (l.drop k) = q)) (fun h i => 13 - (intOf i).toNat)
  case atStart => exact ⟨0, _, by omega, rfl, rfl, HQ⟩
  case round =>
    obtain ⟨k, x, hk, rfl, rfl, HM⟩ := hrel
    clear HQ
    by_cases hlt : k < 13
    · have hlk : k < l.length := by have := HL.out; omega
      have hi := HI.out k hlt
      have hst := List.drop_eq_getElem_cons hlk
      obtain ⟨n0, n1⟩ := HR.out l[k] (List.getElem_mem hlk)
      have i1 : (0 : Int) ≤ (k : Int) := by omega
      have i2 : (k : Int) < 13 := by omega
      generalize l[k] = n at *
      have HX : Hid (hashL x (n :: l.drop (k + 1)) = q) := Go.Lib.hid (by rw [← hst]; exact HM.out)
      clear hst HM hlk
      have e4 : IntKind.u32.wrap n = n := IntWalk.u32_in _ (by omega)
      have e5 : IntKind.i64.wrap ((k : Int) + 1) = (k : Int) + 1 := IntWalk.i64_in _ (by omega)
      go_wp2_with fail
      go_round
      case rel => exact ⟨k + 1, hashS x n, by omega, by go_num, rfl, Go.Lib.hid (by have := HX.out; rwa [hashL_cons] at this)⟩
      case measure => simp [intOf]; omega
    · obtain rfl : k = 13 := by omega
      have hd : l.drop 13 = [] := List.drop_eq_nil_of_le (by have := HL.out; omega)
      have HZ : Hid (x = q) := Go.Lib.hid (by have h := HM.out; rw [hd] at h; exact h)
      clear hd HM
      go_wp2
      go_ret
      exact ⟨ret_int HZ.out, y2⟩
end Go.Proofs.Ytofpalmghdapkaa
