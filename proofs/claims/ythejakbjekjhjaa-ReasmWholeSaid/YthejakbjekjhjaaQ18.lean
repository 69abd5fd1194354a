/- Lemmas of layer 7, several texts in one. -/
import Derived.Test.YthejakbjekjhjaaQ03
import Derived.Test.YthejakbjekjhjaaQ16
import Derived.Test.YthejakbjekjhjaaQ17
/- The pieces of a packet, in any order, make it: plain mathematics. -/
namespace Go.Proofs.Ythejakbjekjhjaa
open Go.RowKit
set_option linter.unusedVariables false

/-- the pieces of a packet in their order, and whether each has come. -/
abbrev Mk := List (Rn × Bool)
def allR (M : Mk) : List Rn := M.map (fun a => a.1)
def tkR : Mk → List Rn
  | [] => []
  | (r, true) :: t => r :: tkR t
  | (_, false) :: t => tkR t
def SeqR : Int → List Rn → Prop
  | _, [] => True
  | i, r :: t => r.off = i ∧ 0 < r.data.length ∧ SeqR (stopR r) t
def firstT : Mk → Bool
  | [] => false
  | a :: _ => a.2
def lastT : Mk → Bool
  | [] => false
  | [a] => a.2
  | _ :: b :: t => lastT (b :: t)
def dataR : List Rn → List UInt8
  | [] => []
  | r :: t => r.data ++ dataR t
theorem dataR_length : ∀ l : List Rn, (dataR l).length = heldR l
  | [] => rfl
  | r :: t => by simp [dataR, heldR, dataR_length t]
theorem seq_mem : ∀ (l : List Rn) (i : Int), SeqR i l → ∀ r ∈ l, i ≤ r.off ∧ 0 < r.data.length ∧ stopR r ≤ i + (heldR l : Int)
  | [], _, _, r, h => by cases h
  | a :: t, i, ⟨h1, h2, h3⟩, r, h => by
    rcases List.mem_cons.1 h with rfl | h
    · refine ⟨by omega, h2, ?_⟩
      simp only [heldR, stopR]; omega
    · obtain ⟨g1, g2, g3⟩ := seq_mem t _ h3 r h
      unfold stopR at g1 g3 ⊢
      refine ⟨by omega, g2, ?_⟩
      simp only [heldR]; omega
theorem tk_all : ∀ (M : Mk), ∀ r ∈ tkR M, r ∈ allR M
  | [], r, h => by cases h
  | (a, true) :: t, r, h => by
    rcases List.mem_cons.1 (show r ∈ a :: tkR t from h) with rfl | h
    · exact List.mem_cons_self
    · exact List.mem_cons_of_mem _ (tk_all t r h)
  | (a, false) :: t, r, h => List.mem_cons_of_mem _ (tk_all t r h)
theorem held_tk : ∀ (M : Mk), heldR (tkR M) ≤ heldR (allR M)
  | [] => Nat.le_refl _
  | (a, true) :: t => by have := held_tk t; show a.data.length + heldR (tkR t) ≤ a.data.length + heldR (allR t); omega
  | (a, false) :: t => by have := held_tk t; show heldR (tkR t) ≤ a.data.length + heldR (allR t); omega
/-- a piece more has come. -/
def setM (M : Mk) (i : Nat) (r : Rn) : Mk := M.set i (r, true)
theorem set_all : ∀ (M : Mk) (i : Nat) (r : Rn), M[i]? = some (r, false) → allR (setM M i r) = allR M
  | [], i, r, h => by simp at h
  | a :: t, 0, r, h => by simp at h; subst h; rfl
  | a :: t, i + 1, r, h => by
    have := set_all t i r (by simpa using h)
    show a.1 :: allR (setM t i r) = a.1 :: allR t
    rw [this]
theorem at_all : ∀ (M : Mk) (i : Nat) (r : Rn), M[i]? = some (r, false) → r ∈ allR M := fun M i r h => List.mem_map.2 ⟨(r, false), List.mem_of_getElem? h, rfl⟩
theorem ins_set : ∀ (M : Mk) (i : Nat) (r : Rn) (k : Int), SeqR k (allR M) → M[i]? = some (r, false) → insR (tkR M) r = tkR (setM M i r)
  | [], i, r, k, _, h => by simp at h
  | a :: t, 0, r, k, ⟨h1, h2, h3⟩, h => by
    simp at h
    subst h
    show insR (tkR t) r = r :: tkR t
    cases hc : tkR t with
    | nil => rfl
    | cons c s =>
      have := (seq_mem _ _ h3 c (tk_all t c (by rw [hc]; simp))).1
      unfold stopR at this
      dsimp only at this h2
      unfold insR
      rw [if_pos (by omega)]
  | (a, f) :: t, i + 1, r, k, ⟨h1, h2, h3⟩, h => by
    have ht : t[i]? = some (r, false) := by simpa using h
    have ih := ins_set t i r _ h3 ht
    cases f with
    | true =>
      show insR (a :: tkR t) r = a :: tkR (setM t i r)
      have := (seq_mem _ _ h3 r (at_all t i r ht)).1
      unfold stopR at this
      dsimp only at this h2
      unfold insR
      rw [if_neg (by omega), ih]
    | false => exact ih
/-- pieces don't overlap. -/
theorem apart : ∀ (M : Mk) (i : Nat) (r : Rn) (k : Int), SeqR k (allR M) → M[i]? = some (r, false) → ∀ c ∈ tkR M, stopR c ≤ r.off ∨ stopR r ≤ c.off
  | [], i, r, k, _, h, c, hc => by cases hc
  | a :: t, 0, r, k, ⟨h1, h2, h3⟩, h, c, hc => by
    simp at h
    subst h
    exact .inr (seq_mem _ _ h3 c (tk_all t c hc)).1
  | (a, f) :: t, i + 1, r, k, ⟨h1, h2, h3⟩, h, c, hc => by
    have ht : t[i]? = some (r, false) := by simpa using h
    cases f with
    | true =>
      rcases List.mem_cons.1 (show c ∈ a :: tkR t from hc) with rfl | hc
      · exact .inl (seq_mem _ _ h3 r (at_all t i r ht)).1
      · exact apart t i r _ h3 ht c hc
    | false => exact apart t i r _ h3 ht c hc
def allT (M : Mk) : Bool := M.all (fun a => a.2)
theorem body_all : ∀ (M : Mk) (acc : List UInt8), SeqR (acc.length : Int) (allR M) → allT M = true → bodyR (tkR M) acc = acc ++ dataR (allR M)
  | [], acc, _, _ => by simp [tkR, bodyR, allR, dataR]
  | (a, f) :: t, acc, ⟨h1, h2, h3⟩, h => by
    have hf : f = true ∧ allT t = true := by simpa [allT] using h
    obtain ⟨rfl, ht⟩ := hf
    show bodyR (a :: tkR t) acc = acc ++ (a.data ++ dataR (allR t))
    unfold bodyR
    dsimp only at h1
    rw [if_pos h1, body_all t (acc ++ a.data) (by have e : ((acc ++ a.data).length : Int) = stopR a := (by rw [List.length_append]; unfold stopR; omega); rw [e]; exact h3) ht, List.append_assoc]
theorem body_less : ∀ (M : Mk) (acc : List UInt8), SeqR (acc.length : Int) (allR M) → allT M = false → (bodyR (tkR M) acc).length < acc.length + heldR (allR M)
  | [], acc, _, h => by simp [allT] at h
  | (a, true) :: t, acc, ⟨h1, h2, h3⟩, h => by
    have ht : allT t = false := by simpa [allT] using h
    show (bodyR (a :: tkR t) acc).length < acc.length + (a.data.length + heldR (allR t))
    unfold bodyR
    dsimp only at h1
    rw [if_pos h1]
    have := body_less t (acc ++ a.data) (by have e : ((acc ++ a.data).length : Int) = stopR a := (by rw [List.length_append]; unfold stopR; omega); rw [e]; exact h3) ht
    rw [List.length_append] at this
    omega
  | (a, false) :: t, acc, ⟨h1, h2, h3⟩, h => by
    show (bodyR (tkR t) acc).length < acc.length + (a.data.length + heldR (allR t))
    dsimp only at h1 h2
    cases hc : tkR t with
    | nil => show acc.length < _; omega
    | cons c s =>
      have := (seq_mem _ _ h3 c (tk_all t c (by rw [hc]; simp))).1
      unfold stopR at this
      dsimp only at this
      unfold bodyR
      rw [if_neg (by omega)]
      omega
theorem tk_nil : ∀ (M : Mk), tkR M = [] → firstT M = false ∧ lastT M = false
  | [], _ => ⟨rfl, rfl⟩
  | [(a, true)], h => by cases h
  | [(a, false)], h => ⟨rfl, rfl⟩
  | (a, true) :: b :: t, h => by cases h
  | (a, false) :: b :: t, h => ⟨rfl, (tk_nil (b :: t) h).2⟩
theorem last_set : ∀ (M : Mk) (i : Nat) (r : Rn), M[i]? = some (r, false) → lastT (setM M i r) = (lastT M || decide (i + 1 = M.length))
  | [], i, r, h => by simp at h
  | [a], 0, r, h => by simp at h; subst h; rfl
  | [a], i + 1, r, h => by simp at h
  | a :: b :: t, 0, r, h => by
    simp at h; subst h
    show lastT (b :: t) = (lastT (b :: t) || decide (0 + 1 = (b :: t).length + 1))
    simp
  | a :: b :: t, i + 1, r, h => by
    have := last_set (b :: t) i r (by simpa using h)
    have e : decide (i + 1 + 1 = (a :: b :: t).length) = decide (i + 1 = (b :: t).length) := by simp
    rw [e, show lastT (a :: b :: t) = lastT (b :: t) from rfl, ← this]
    show lastT (a :: setM (b :: t) i r) = lastT (setM (b :: t) i r)
    unfold setM
    cases i with
    | zero => rfl
    | succ i => rfl
theorem first_set : ∀ (M : Mk) (i : Nat) (r : Rn) , SeqR 0 (allR M) → M[i]? = some (r, false) → firstT (setM M i r) = (firstT M || r.off == 0) ∧ (r.off = 0 → i = 0)
  | [], i, r, _, h => by simp at h
  | a :: t, 0, r, ⟨h1, h2, h3⟩, h => by
    simp at h; subst h
    refine ⟨?_, fun _ => rfl⟩
    dsimp only at h1
    show true = (false || r.off == 0)
    simp [h1]
  | a :: t, i + 1, r, ⟨h1, h2, h3⟩, h => by
    have ht : t[i]? = some (r, false) := by simpa using h
    have := (seq_mem _ _ h3 r (at_all t i r ht)).1
    unfold stopR at this
    have h0 : (r.off == 0) = false := by simp; omega
    refine ⟨?_, fun h => by simp [h] at h0⟩
    rw [h0, Bool.or_false]
    rfl
theorem stop_last : ∀ (M : Mk) (i : Nat) (r : Rn) (k : Int), SeqR k (allR M) → M[i]? = some (r, false) → i + 1 = M.length → stopR r = k + (heldR (allR M) : Int)
  | [], i, r, k, _, h, _ => by simp at h
  | a :: t, 0, r, k, ⟨h1, h2, h3⟩, h, hl => by
    simp at h; subst h
    have : t = [] := by simpa using hl
    subst this
    dsimp only at h1
    show r.off + (r.data.length : Int) = k + ((r.data.length + 0 : Nat) : Int)
    omega
  | a :: t, i + 1, r, k, ⟨h1, h2, h3⟩, h, hl => by
    have := stop_last t i r _ h3 (by simpa using h) (by simpa using hl)
    rw [this]
    unfold stopR
    dsimp only at h1
    show a.1.off + (a.1.data.length : Int) + (heldR (allR t) : Int) = k + ((a.1.data.length + heldR (allR t) : Nat) : Int)
    omega
theorem last_not : ∀ (M : Mk) (i : Nat) (r : Rn), M[i]? = some (r, false) → lastT M = true → i + 1 < M.length
  | [], i, r, h, _ => by simp at h
  | [a], 0, r, h, hl => by simp at h; subst h; cases hl
  | [a], i + 1, r, h, _ => by simp at h
  | a :: b :: t, 0, r, h, _ => by simp
  | a :: b :: t, i + 1, r, h, hl => by have := last_not (b :: t) i r (by simpa using h) hl; simp at this ⊢; omega
end Go.Proofs.Ythejakbjekjhjaa

/- The contract of package reasm's putIn. -/
namespace Go.Proofs.Ythejakbjekjhjaa
open Go.ChangeShapes Go.WideShapes Go.ChangeAt Go.RowKit
set_option linter.unusedVariables false
set_option linter.unusedSimpArgs false

theorem cinsertN (rs : List Er) (A : Option Addr) (c n : Nat) (hl : rs.length = n) (base gv : Nat) (x : Er) (w : World) (hE : w.ownsRow base 66 2 (.slice A n c) n (rs.flatMap Er.L)) (hb : base ≤ w.heap.size) (hv : Bxo w gv 66 x.L) (hgv : ∀ g, blk A = some g → gv ≠ g) (hn : n ≤ 1048576) (k : Nat) (hk : k ≤ n) :
    Calls Try.prog 44 #[.slice A n c, .int .i64 k, .slice (some ⟨gv, 0, none⟩) 1 1] w fun e w' => Inserted w base A (rs.take k ++ x :: rs.drop k) (n + 1) e w' := by
  subst hl
  by_cases hkn : k = rs.length
  · exact cinsEnd rs A c base gv x w hE hb hv hn k hkn
  · obtain ⟨g, hA, _⟩ := (own_addr hE).resolve_left (by rintro ⟨_, h, _⟩; omega)
    subst hA
    by_cases hr : rs.length + 1 ≤ c
    · exact cinsRoom rs g c base gv x w hE hb hv (hgv g rfl) hn k (by omega) hr
    · exact cinsGrow rs g c base gv x w hE hb hv hn k (by omega) (by omega)
/-- the piece among the others, by its place. -/
theorem ins_place : ∀ (l : List Rn) (r : Rn) (k : Nat), k ≤ l.length → (∀ i (h : i < l.length), i < k → l[i].off < r.off) → (∀ i (h : i < l.length), k ≤ i → r.off < l[i].off) → insR l r = l.take k ++ r :: l.drop k
  | [], r, k, hk, _, _ => by simp at hk; subst hk; simp [insR]
  | a :: t, r, 0, _, _, h2 => by
    have := h2 0 (by simp) (by omega)
    simp only [List.getElem_cons_zero] at this
    unfold insR
    rw [if_pos this]; simp
  | a :: t, r, k + 1, hk, h1, h2 => by
    have h := h1 0 (by simp) (by omega)
    simp only [List.getElem_cons_zero] at h
    unfold insR
    rw [if_neg (by omega), List.take_succ_cons, List.drop_succ_cons, List.cons_append]
    congr 1
    exact ins_place t r k (by simpa using hk) (fun i hi hik => by have := h1 (i + 1) (by simpa using hi) (by omega); simpa using this) (fun i hi hik => by have := h2 (i + 1) (by simpa using hi) (by omega); simpa using this)
theorem runs_rise : ∀ (total lo : Int) (l : List Rn), RunsOk total lo l → Rises l
  | _, _, [], _ => fun i j hi => by simp at hi
  | total, lo, a :: t, ⟨ha, ht⟩ => fun i j hi hj hij => by
    have hl := ha.len
    cases j with
    | zero => omega
    | succ j =>
      cases i with
      | zero =>
        have h1 := (runs_lo total t (stopR a) ht (t[j]'(by simpa using hj)) (List.getElem_mem _)).1
        simp only [List.getElem_cons_zero, List.getElem_cons_succ]
        unfold stopR at h1
        omega
      | succ i => simpa using runs_rise total (stopR a) t ht i j (by simpa using hi) (by simpa using hj) (by omega)
/-- bytes whose block is known to be new. -/
theorem ByIn.fresh {w0 w : World} {V : Nat → Prop} {A : Option Addr} {c : Nat} {l : List UInt8} (h : ByIn w (growV V w0 w) A c l) (hf : ∀ ad, A = some ad → w0.heap.size ≤ ad.block) : ByIn w (fun y => w0.heap.size ≤ y ∧ y < w.heap.size) A c l := by
  refine ⟨h.len, h.cap, h.nil, ?_⟩
  rcases h.bs with h' | ⟨ad, rfl, hlt, hc⟩
  · exact .inl h'
  · by_cases hl : l = []
    · exact .inl hl
    · obtain ⟨b0, hb0⟩ : ∃ b0, l[0]? = some b0 := by
        cases hx' : l with
        | nil => exact absurd hx' hl
        | cons a t => exact ⟨a, rfl⟩
      have h2 := World.block_lt_of_cell? w _ (hc 0 b0 hb0)
      rw [block_add] at h2
      exact .inr ⟨ad, rfl, ⟨hf ad rfl, h2⟩, hc⟩
/-- behind the run's being put in. W1: the world ahead of it. -/
structure PutMid (w W1 : World) (e : El) (rs : List Er) (base : Nat) (D : Nat → Prop) (x : Pk) (Bo : Option Addr) (do_ : Nat) (Bb : Option Addr) (db k : Nat) (wx : World) (A7 : Option Addr) (c7 : Nat) (A' : Option Addr) (c' : Nat) : Prop where
  box : Bxo wx w.heap.size 42 [.int .u32 e.b.src, .int .u32 e.b.dst, .int .i64 e.b.id, .int .i64 e.b.proto, .int .i64 e.b.born, .int .i64 e.b.head.tos, .int .i64 e.b.head.id, .bool e.b.head.df, .bool e.b.head.mf, .int .i64 e.b.head.off, .int .i64 e.b.head.ttl, .int .i64 e.b.head.proto, .int .u32 e.b.head.src, .int .u32 e.b.head.dst, .slice e.Ao e.b.head.opts.length e.co, .slice e.Ab e.b.head.body.length e.cb, .bool e.b.first, .int .i64 e.b.total, .slice A' (e.b.runs.length + 1) c']
  xbox : Bxo wx (w.heap.size + 1) 33 (pkL x Bo do_ Bb db)
  zbox : Bxo wx (w.heap.size + 2) 42 (bfL bf0 none 0 none 0 none 0)
  row : wx.ownsRow base 66 2 (.slice A' (e.b.runs.length + 1) c') (e.b.runs.length + 1) ((rs.take k ++ ⟨⟨x.off, x.body⟩, A7, c7⟩ :: rs.drop k).flatMap Er.L)
  data : ByIn wx (fun y => W1.heap.size ≤ y ∧ y < wx.heap.size ∧ blk A' ≠ some y) A7 c7 x.body
  os : wx.os = W1.os
  tape : wx.tape = W1.tape
  output : wx.output = W1.output
  size : W1.heap.size ≤ wx.heap.size
  block : ∀ y, y < W1.heap.size → y ≠ w.heap.size → blk e.Ar ≠ some y → wx.heap[y]? = W1.heap[y]?
  at_ : blk A' = blk e.Ar ∨ ∀ g, blk A' = some g → W1.heap.size ≤ g
def PutMidE (w W1 : World) (e : El) (rs : List Er) (base : Nat) (D : Nat → Prop) (x : Pk) (Bo : Option Addr) (do_ : Nat) (Bb : Option Addr) (db k : Nat) (wx : World) : Prop := ∃ A7 c7 A' c', PutMid w W1 e rs base D x Bo do_ Bb db k wx A7 c7 A' c'
theorem PutMid.make {w W1 w7 w9 w10 w12 : World} {e : El} {rs : List Er} {base : Nat} {V : Nat → Prop} {x : Pk} {Bo : Option Addr} {do_ : Nat} {Bb : Option Addr} {db k : Nat} {A7 : Option Addr} {c7 : Nat} {A' : Option Addr} {c' : Nat} {D : Nat → Prop}
    (hW : w.heap.size + 3 ≤ W1.heap.size) (y7 : Below W1.heap.size W1 w7) (y9 : Below w7.heap.size w7 w9) (e9 : w9.heap.size = w7.heap.size + 1) (hb7 : ByIn w7 (growV V W1 w7) A7 c7 x.body) (hf7 : ∀ ad, A7 = some ad → W1.heap.size ≤ ad.block)
    (ho : w10.ownsRow base 66 2 (.slice A' (e.b.runs.length + 1) c') (e.b.runs.length + 1) ((rs.take k ++ ⟨⟨x.off, x.body⟩, A7, c7⟩ :: rs.drop k).flatMap Er.L)) (hg : w9.grownBy w10 (blk e.Ar)) (ha : blk A' = blk e.Ar ∨ ∀ g, blk A' = some g → w9.heap.size ≤ g)
    (hbox : Bxo w12 w.heap.size 42 (spl (bfL e.b e.Ao e.co e.Ab e.cb e.Ar e.cr) 18 [.slice A' (e.b.runs.length + 1) c'])) (hx : Bxo w12 (w.heap.size + 1) 33 (pkL x Bo do_ Bb db)) (hzb : Bxo w12 (w.heap.size + 2) 42 (bfL bf0 none 0 none 0 none 0)) (h12 : Only w.heap.size w10 w12) (hR : ∀ g, blk e.Ar = some g → g < w.heap.size) :
    PutMid w W1 e rs base D x Bo do_ Bb db k w12 A7 c7 A' c' := by
  have z7 := y7.size
  have z10 := hg.size
  have z12 := h12.size
  have hA : ∀ g, blk A' = some g → g < w.heap.size ∨ w9.heap.size ≤ g := fun g hg' => by
    rcases ha with h | h
    · exact .inl (hR g (by rw [← h]; exact hg'))
    · exact .inr (h g hg')
  refine ⟨hbox, hx, hzb, own_keepA ho (fun g hg' => h12.block g (fun e => by have := hA g hg'; omega)), ⟨hb7.len, hb7.cap, hb7.nil, ?_⟩, (h12.os.trans hg.os).trans (y9.os.trans y7.os), (h12.tape.trans hg.tape).trans (y9.tape.trans y7.tape), (h12.output.trans hg.output).trans (y9.output.trans y7.output), by omega, fun y hy h1 h2 => ((h12.block y h1).trans (hg.block y (by omega) (fun e => h2 e.symm))).trans ((y9.block y (by omega)).trans (y7.block y hy)), ?_⟩
  · rcases hb7.bs with h | ⟨ad, rfl, hlt, hc⟩
    · exact .inl h
    by_cases hl : x.body = []
    · exact .inl hl
    · have h1 := hf7 ad rfl
      obtain ⟨b0, hb0⟩ : ∃ b0, x.body[0]? = some b0 := by
        cases hx' : x.body with
        | nil => exact absurd hx' hl
        | cons a t => exact ⟨a, rfl⟩
      have h2 := World.block_lt_of_cell? w7 _ (hc 0 b0 hb0)
      rw [block_add] at h2
      refine .inr ⟨ad, rfl, ⟨h1, by omega, fun e => by have := hA ad.block e; omega⟩, fun j b hj => ?_⟩
      have hh : w12.heap[ad.block]? = w7.heap[ad.block]? := ((h12.block _ (by omega)).trans (hg.block _ (by omega) (fun e => by have := hR ad.block e.symm; omega))).trans (y9.block _ h2)
      rw [World.cell?_of_block (w := w7) (a := ad.add j) (by rw [block_add]; exact hh)]
      exact hc j b hj
  · rcases ha with h | h
    · exact .inl h
    · exact .inr (fun g hg' => by have := h g hg'; omega)
/-- a packet's cells, its parts apart. -/
abbrev cellsM (b : Bf) (h : Pk) (Ao : Option Addr) (co : Nat) (Ab : Option Addr) (cb : Nat) (f : Bool) (t : Int) (rv : Value) : List Value :=
  [.int .u32 b.src, .int .u32 b.dst, .int .i64 b.id, .int .i64 b.proto, .int .i64 b.born, .int .i64 h.tos, .int .i64 h.id, .bool h.df, .bool h.mf, .int .i64 h.off, .int .i64 h.ttl, .int .i64 h.proto, .int .u32 h.src, .int .u32 h.dst, .slice Ao h.opts.length co, .slice Ab h.body.length cb, .bool f, .int .i64 t, rv]
def TotE (e : El) (x : Pk) (g : Nat) (rv : Value) (wx wy : World) : Prop := Bxo wy g 42 (cellsM e.b e.b.head e.Ao e.co e.Ab e.cb e.b.first (joinB e.b x).total rv) ∧ Only g wx wy
structure Hed (e : El) (x : Pk) (g : Nat) (rv : Value) (wy wz : World) (Ao : Option Addr) (co : Nat) (Ab : Option Addr) (cb : Nat) : Prop where
  box : Bxo wz g 42 (cellsM e.b (joinB e.b x).head Ao co Ab cb (joinB e.b x).first (joinB e.b x).total rv)
  gro : Gro g wy wz
  yes : x.off = 0 → ByIn wz (fun y => wy.heap.size ≤ y ∧ y < wz.heap.size) Ao co x.opts ∧ Ab = none ∧ cb = 0
  no : x.off ≠ 0 → Ao = e.Ao ∧ co = e.co ∧ Ab = e.Ab ∧ cb = e.cb
def HedE (e : El) (x : Pk) (g : Nat) (rv : Value) (wy wz : World) : Prop := ∃ Ao co Ab cb, Hed e x g rv wy wz Ao co Ab cb
set_option maxRecDepth 100000 in
set_option maxHeartbeats 8000000 in
theorem cputIn (e : El) (rs : List Er) (base : Nat) (D : Nat → Prop) (x : Pk) (Bo : Option Addr) (do_ : Nat) (Bb : Option Addr) (db : Nat) (w : World) (V : Nat → Prop) (he : ElAt w base D e rs) (hDl : ∀ b, D b → b < w.heap.size) (hde : ∀ g, blk e.Ar = some g → ¬ D g) (hx : PkAt w V x Bo do_ Bb db) (hbase : base ≤ w.heap.size) (hR : RunsOk e.b.total 0 e.b.runs) (hnr : e.b.runs.length ≤ 1048576)
    (o0 : 0 ≤ x.off) (o1 : x.off ≤ 65528) (xo : x.opts.length ≤ 16777216) (xb : x.body.length ≤ 65535) (hno : ∀ r ∈ e.b.runs, r.off ≠ x.off) (hVR : ∀ g, blk e.Ar = some g → ¬ V g) :
    Calls Try.prog 24 #[bfV e.b e.Ao e.co e.Ab e.cb e.Ar e.cr, ipV x Bo do_ Bb db] w fun z w' => ∃ e' rs' D', z = .returned (bfV e'.b e'.Ao e'.co e'.Ab e'.cb e'.Ar e'.cr) ∧ e'.b = joinB e.b x ∧ ElAt w' base D' e' rs' ∧ w.grownBy w' (blk e.Ar) ∧ (∀ b, D b → D' b) ∧ (∀ b, D' b → D b ∨ (w.heap.size ≤ b ∧ b < w'.heap.size)) ∧ (∀ g, blk e'.Ar = some g → ¬ D' g) ∧ (blk e'.Ar = blk e.Ar ∨ ∀ g, blk e'.Ar = some g → w.heap.size ≤ g) := by
  have HRS := Go.Lib.hid (runs_rise _ _ _ hR)
  have HRE := Go.Lib.hid (runs_each _ _ _ hR (Int.le_refl 0))
  have HEL := Go.Lib.hid he
  have hrl := he.len
  have HRL := Go.Lib.hid hrl
  have HNO := Go.Lib.hid hno
  have y0 : Below w.heap.size w (((w.alloc (oBf e.b e.Ao e.co e.Ab e.cb e.Ar e.cr)).alloc (oPk x Bo do_ Bb db)).alloc (oBf bf0 none 0 none 0 none 0)) := below_alloc (below_alloc (below_alloc (Below.refl _ _) (Nat.le_refl _) _) (by simp) _) (by simp; omega) _
  have h1 := ((Bxo.made w 42 (bfL e.b e.Ao e.co e.Ab e.cb e.Ar e.cr)).alloc (oPk x Bo do_ Bb db)).alloc (oBf bf0 none 0 none 0 none 0)
  have h2 : Bxo (((w.alloc (oBf e.b e.Ao e.co e.Ab e.cb e.Ar e.cr)).alloc (oPk x Bo do_ Bb db)).alloc (oBf bf0 none 0 none 0 none 0)) (w.heap.size + 1) 33 (pkL x Bo do_ Bb db) := by
    have := (Bxo.made (w.alloc (oBf e.b e.Ao e.co e.Ab e.cb e.Ar e.cr)) 33 (pkL x Bo do_ Bb db)).alloc (oBf bf0 none 0 none 0 none 0)
    simpa using this
  have h3 : Bxo (((w.alloc (oBf e.b e.Ao e.co e.Ab e.cb e.Ar e.cr)).alloc (oPk x Bo do_ Bb db)).alloc (oBf bf0 none 0 none 0 none 0)) (w.heap.size + 2) 42 (bfL bf0 none 0 none 0 none 0) := by
    have := Bxo.made ((w.alloc (oBf e.b e.Ao e.co e.Ab e.cb e.Ar e.cr)).alloc (oPk x Bo do_ Bb db)) 42 (bfL bf0 none 0 none 0 none 0)
    simpa using this
  have hz : (((w.alloc (oBf e.b e.Ao e.co e.Ab e.cb e.Ar e.cr)).alloc (oPk x Bo do_ Bb db)).alloc (oBf bf0 none 0 none 0 none 0)).heap.size = w.heap.size + 3 := by simp
  have hxo := hx.at y0
  have RBL0 : Hid (∀ g, blk e.Ar = some g → g < w.heap.size) := Go.Lib.hid (fun g hg => by
    rcases own_addr he.row with ⟨hn', _⟩ | ⟨g2, hg2, h1, h2⟩
    · rw [hn'] at hg; cases hg
    · rw [hg2] at hg; injection hg with hg; have hg : g2 = g := hg; omega)
  have hbf := he.bf (U := fun b => b < w.heap.size) hDl (fun g hg => RBL0.out g hg) (fun b h => h)
  have q1 := hbf.rlen
  have q2 := hbf.rcap
  have hrs := (hbf.at y0).runs
  have hrow := own_keepA he.row (fun g hg => y0.block g (RBL0.out g hg))
  rw [hrl] at hrow
  have HVL := Go.Lib.hid hx.lt
  clear he hx hR hno hrl hbf
  go_enter Try.func24, Try.ntmps24
  go_upto_region 1 with fail
  generalize (((w.alloc (oBf e.b e.Ao e.co e.Ab e.cb e.Ar e.cr)).alloc (oPk x Bo do_ Bb db)).alloc (oBf bf0 none 0 none 0 none 0)) = W at *
  have H1 := Go.Lib.hid h1
  have H2 := Go.Lib.hid h2
  have H3 := Go.Lib.hid h3
  have HXO := Go.Lib.hid hxo
  have HRR := Go.Lib.hid hrs
  have HRW := Go.Lib.hid hrow
  clear h1 h2 h3 hxo hrs hrow
  have c18 := H1.out.cell 18 rfl
  have c4 := H2.out.cell 4 rfl
  go_upto_region 2 with (first
    | (go_at_call 42; refine (csearch e.b.runs e.Ar e.cr x.off W _ HRR.out (fun b h => Nat.lt_of_lt_of_le h y0.size) q1 (by omega) HRS.out (fun r hr => by have := HRE.out r hr; have h2 : stopR r = r.off + (r.data.length : Int) := rfl; omega) o0 (by omega)).mono ?_; rintro e2 w2 ⟨k, f, rfl, hk, y2⟩; have HPL := Go.Lib.hid hk; dsimp only))
  clear c18 c4
  have HK := Go.Lib.hid HPL.out.1
  have HN := Go.Lib.hid hnr
  have z2 := y2.size
  have hW : w.heap.size + 3 ≤ w2.heap.size := by omega
  have GB := Go.Lib.hid (H1.out.keep y2 (by omega))
  have GX := Go.Lib.hid (H2.out.keep y2 (by omega))
  have GZ := Go.Lib.hid (H3.out.keep y2 (by omega))
  have l0 : w.heap.size < w2.heap.size := by omega
  have l1 : w.heap.size + 1 < w2.heap.size := by omega
  have l2 : w.heap.size + 2 < w2.heap.size := by omega
  have RBL2 : Hid (∀ g, blk e.Ar = some g → g < w2.heap.size) := Go.Lib.hid (fun g hg => by have := RBL0.out g hg; omega)
  have RW := Go.Lib.hid (own_keepA HRW.out (w' := w2) (fun g hg => y2.block g (by have := RBL0.out g hg; omega)))
  have HX2 := HXO.out.at y2
  have HXP := Go.Lib.hid HX2
  have HXB : Hid (ByIn w2.drew V Bb db x.body) := Go.Lib.hid (HX2.at (below_drew (Below.refl _ _))).b
  have HXL : Hid (∀ b, V b → b < w2.drew.heap.size) := Go.Lib.hid HX2.lt
  have Z2 : Hid (Below w.heap.size w w2) := Go.Lib.hid (y0.trans (y2.mono (by omega)))
  clear H1 H2 H3 HXO HRR HRW HX2 y2 y0
  have c18 := GB.out.cell 18 rfl
  go_cut [] (fun wx => PutMidE w w2 e rs base D x Bo do_ Bb db k wx)
  case first =>
    try simp only [Act.put, List.setIfInBounds_toArray, List.set_cons_zero, List.set_cons_succ]
    refine wp_region_held_drew (S := fun Y => Bxo Y (w.heap.size + 1) 33 (pkL x Bo do_ Bb db)) (by kernel_rfl) ?_ (fun hHeld => ?_)
    · exact GX.out
    refine wpAnyH_take (i := 0) (oi := ⟨some 15, _, _, _, _, _⟩) (v := ?_) rfl (by kernel_rfl) (by kernel_rfl) (by kernel_rfl) (fun _ _ _ h => h) (Or.inl ⟨by rfl, ?_⟩) (by assumption) ?_
    rotate_left
    · intro w hSw; (try dsimp only at hSw); go_simp; (try with_reducible rfl)
    try simp only [Act.put, List.setIfInBounds_toArray, List.set_cons_zero, List.set_cons_succ]
    refine wpAnyH_take (i := 2) (oi := ⟨some 17, _, _, _, _, _⟩) (v := ?_) rfl (by kernel_rfl) (by kernel_rfl) (by kernel_rfl) (fun _ _ _ h => h) (Or.inl ⟨by rfl, ?_⟩) (by assumption) ?_
    rotate_left
    · intro w hSw; (try dsimp only at hSw); go_simp; (try with_reducible rfl)
    try simp only [Act.put, List.setIfInBounds_toArray, List.set_cons_zero, List.set_cons_succ]
    refine wpAnyH_take (i := 3) (oi := ⟨some 18, _, _, _, _, _⟩) (v := ?_) rfl (by kernel_rfl) (by kernel_rfl) (by kernel_rfl) (fun _ _ _ h => h) (Or.inl ⟨by rfl, ?_⟩) (by assumption) ?_
    rotate_left
    · intro w hSw; (try dsimp only at hSw); go_simp; (try with_reducible rfl)
    try simp only [Act.put, List.setIfInBounds_toArray, List.set_cons_zero, List.set_cons_succ]
    refine wpAnyH_take (i := 4) (oi := ⟨some 19, _, _, _, _, _⟩) (v := ?_) rfl (by kernel_rfl) (by kernel_rfl) (by kernel_rfl) (fun _ _ _ h => h) (Or.inl ⟨by rfl, ?_⟩) (by assumption) ?_
    rotate_left
    · intro w hSw; have x4 := hSw.cell 4 rfl; (try dsimp only at hSw); go_simp; (try with_reducible rfl)
    try simp only [Act.put, List.setIfInBounds_toArray, List.set_cons_zero, List.set_cons_succ]
    refine wpAnyH_take (i := 5) (oi := ⟨some 20, _, _, _, _, _⟩) (v := ?_) rfl (by kernel_rfl) (by kernel_rfl) (by kernel_rfl) (fun _ _ _ h => h) (Or.inl ⟨by rfl, ?_⟩) (by assumption) ?_
    rotate_left
    · intro w hSw; (try dsimp only at hSw); go_simp; (try with_reducible rfl)
    try simp only [Act.put, List.setIfInBounds_toArray, List.set_cons_zero, List.set_cons_succ]
    refine wpAnyH_take (i := 6) (oi := ⟨some 21, _, _, _, _, _⟩) (v := ?_) rfl (by kernel_rfl) (by kernel_rfl) (by kernel_rfl) (fun _ _ _ h => h) (Or.inl ⟨by rfl, ?_⟩) (by assumption) ?_
    rotate_left
    · intro w hSw; have x10 := hSw.cell 10 rfl; (try dsimp only at hSw); go_simp; (try with_reducible rfl)
    try simp only [Act.put, List.setIfInBounds_toArray, List.set_cons_zero, List.set_cons_succ]
    refine wpAnyH_ready (rs := [1, 7]) (by kernel_rfl) (by simp) (AllReadyH.cons (o := ⟨some 16, _, _, _, _, _⟩) rfl (fun Kc hKc => ?_) (AllReadyH.cons (o := ⟨some 22, _, _, _, _, _⟩) rfl (fun Kc hKc => ?_) AllReadyH.nil))
    ·
      go_simp
      refine hKc.out _ _ (hHeld) (fun hHeld => ?_)
      clear hKc Kc
      try simp only [Act.put, List.setIfInBounds_toArray, List.set_cons_zero, List.set_cons_succ]
      refine wpAnyH_ready (rs := [7]) (by kernel_rfl) (by simp) (AllReadyH.cons (o := ⟨some 22, _, _, _, _, _⟩) rfl (fun Kc hKc => ?_) AllReadyH.nil)
      go_simp
      go_at_call 36; refine (ccloneV Bb _ db x.body _ V rfl HXB.out HXL.out (Nat.le_trans xb (by omega))).mono ?_; rintro e7 w7 ⟨A7, c7, rfl, hb7, hf7', y7d⟩; have y7 : Below w2.heap.size w2 w7 := (below_drew (Below.refl _ _)).trans y7d; have HB7 : Hid (ByIn w7 (growV V w2 w7) A7 c7 x.body) := Go.Lib.hid hb7; have hf7 : ∀ ad, A7 = some ad → w2.heap.size ≤ ad.block := hf7'; clear hb7 hf7' y7d; have z7 := y7.size; have GB7 := Go.Lib.hid (GB.out.keep y7 l0); have GX7 := Go.Lib.hid (GX.out.keep y7 l1); have GZ7 := Go.Lib.hid (GZ.out.keep y7 l2); have RW7 := Go.Lib.hid (own_keepA RW.out (fun g hg => y7.block g (RBL2.out g hg))); have c18 := GB7.out.cell 18 rfl; dsimp only
      refine hKc.out _ _ (GX7.out) (fun hHeld => ?_)
      clear hKc Kc
      try simp only [Act.put, List.setIfInBounds_toArray, List.set_cons_zero, List.set_cons_succ]
      refine wpAnyH_take (i := 8) (oi := ⟨some 23, _, _, _, _, _⟩) (v := ?_) rfl (by kernel_rfl) (by kernel_rfl) (by kernel_rfl) (fun _ _ _ h => h) (Or.inl ⟨by rfl, ?_⟩) (by assumption) ?_
      rotate_left
      · intro w hSw; (try dsimp only at hSw); go_simp; (try with_reducible rfl)
      try simp only [Act.put, List.setIfInBounds_toArray, List.set_cons_zero, List.set_cons_succ]
      refine wpAnyH_ready (rs := [9]) (by kernel_rfl) (by simp) (AllReadyH.cons (o := ⟨some 24, _, _, _, _, _⟩) rfl (fun Kc hKc => ?_) AllReadyH.nil)
      go_simp
      have V9 := Go.Lib.hid (Bxo.made w7 66 [.int .i64 x.off, .slice A7 x.body.length c7]); have y9 : Below w7.heap.size w7 (w7.alloc (.cells #[.int .i64 x.off, .slice A7 x.body.length c7] 66)) := (Below.refl _ _).alloc (Nat.le_refl _) _; have GB9 := Go.Lib.hid (GB7.out.keep y9 GB7.out.lt); have GX9 := Go.Lib.hid (GX7.out.keep y9 GX7.out.lt); have GZ9 := Go.Lib.hid (GZ7.out.keep y9 GZ7.out.lt); have RW9 := Go.Lib.hid (own_keepA RW7.out (fun g hg => y9.block g (Nat.lt_of_lt_of_le (RBL2.out g hg) y7.size))); have e9 : (w7.alloc (.cells #[.int .i64 x.off, .slice A7 x.body.length c7] 66)).heap.size = w7.heap.size + 1 := (by simp); clear c18; have c18 := GB9.out.cell 18 rfl; generalize w7.alloc (.cells #[.int .i64 x.off, .slice A7 x.body.length c7] 66) = w9 at *
      refine hKc.out _ _ (GX9.out) (fun hHeld => ?_)
      clear hKc Kc
      try simp only [Act.put, List.setIfInBounds_toArray, List.set_cons_zero, List.set_cons_succ]
      refine wpAnyH_ready (rs := [10]) (by kernel_rfl) (by simp) (AllReadyH.cons (o := ⟨some 25, _, _, _, _, _⟩) rfl (fun Kc hKc => ?_) AllReadyH.nil)
      go_simp
      go_at_call 44; refine (cinsertN rs e.Ar e.cr e.b.runs.length HRL.out base w7.heap.size ⟨⟨x.off, x.body⟩, A7, c7⟩ w9 RW9.out (by omega) V9.out (fun g hg => by have := RBL2.out g hg; have := y7.size; omega) HN.out k HK.out).mono ?_; rintro e10 w10 ⟨A', c', rfl, ho10, hg10, ha10⟩; have HO10 := Go.Lib.hid ho10; have HG10 := Go.Lib.hid hg10; have HA10 := Go.Lib.hid ha10; have GB10 := Go.Lib.hid (show Bxo w10 w.heap.size 42 _ from (hg10.block _ (by omega) (fun e' => by have := RBL0.out _ e'.symm; omega)).trans GB9.out); have GX10 := Go.Lib.hid (show Bxo w10 (w.heap.size + 1) 33 _ from (hg10.block _ (by omega) (fun e' => by have := RBL0.out _ e'.symm; omega)).trans GX9.out); have GZ10 := Go.Lib.hid (show Bxo w10 (w.heap.size + 2) 42 _ from (hg10.block _ (by omega) (fun e' => by have := RBL0.out _ e'.symm; omega)).trans GZ9.out); clear c18; dsimp only
      refine hKc.out _ _ (GX10.out) (fun hHeld => ?_)
      clear hKc Kc
      try simp only [Act.put, List.setIfInBounds_toArray, List.set_cons_zero, List.set_cons_succ]
      refine wpAnyH_take (i := 11) (oi := ⟨some 26, _, _, _, _, _⟩) (v := ?_) rfl (by kernel_rfl) (by kernel_rfl) (by kernel_rfl) (fun _ _ _ h => h) (Or.inl ⟨by rfl, ?_⟩) (by assumption) ?_
      rotate_left
      · intro w hSw; (try dsimp only at hSw); go_simp; (try with_reducible rfl)
      try simp only [Act.put, List.setIfInBounds_toArray, List.set_cons_zero, List.set_cons_succ]
      refine wpAnyH_ready (rs := [12]) (by kernel_rfl) (by simp) (AllReadyH.cons (o := ⟨none, _, _, _, _, _⟩) rfl (fun Kc hKc => ?_) AllReadyH.nil)
      rw [if_pos (by rfl)]
      refine step_store_any 40 _ _ rfl w.heap.size 18 42 _ [.slice A' (e.b.runs.length + 1) c'] _ rfl rfl rfl GB10.out info_sr (by show 18 + 1 ≤ 19; omega) (by simp [Value.oneCell']) ?_; intro w12 hb12 ho12; have HB12 := Go.Lib.hid hb12; clear hb12
      refine hKc.out _ _ (GX10.out.only ho12 (by omega)) (fun hHeld => ?_)
      clear hKc Kc
      try simp only [Act.put, List.setIfInBounds_toArray, List.set_cons_zero, List.set_cons_succ]
      refine wpAnyH_done (by kernel_rfl) ?_ _
      go_wp2_with fail
      go_meet
      exact ⟨A7, c7, A', c', PutMid.make hW y7 y9 e9 HB7.out hf7 HO10.out HG10.out HA10.out HB12.out (GX10.out.only ho12 (by omega)) (GZ10.out.only ho12 (by omega)) ho12 RBL0.out⟩
    ·
      go_simp
      go_at_call 36; refine (ccloneV Bb _ db x.body _ V rfl HXB.out HXL.out (Nat.le_trans xb (by omega))).mono ?_; rintro e7 w7 ⟨A7, c7, rfl, hb7, hf7', y7d⟩; have y7 : Below w2.heap.size w2 w7 := (below_drew (Below.refl _ _)).trans y7d; have HB7 : Hid (ByIn w7 (growV V w2 w7) A7 c7 x.body) := Go.Lib.hid hb7; have hf7 : ∀ ad, A7 = some ad → w2.heap.size ≤ ad.block := hf7'; clear hb7 hf7' y7d; have z7 := y7.size; have GB7 := Go.Lib.hid (GB.out.keep y7 l0); have GX7 := Go.Lib.hid (GX.out.keep y7 l1); have GZ7 := Go.Lib.hid (GZ.out.keep y7 l2); have RW7 := Go.Lib.hid (own_keepA RW.out (fun g hg => y7.block g (RBL2.out g hg))); have c18 := GB7.out.cell 18 rfl; dsimp only
      refine hKc.out _ _ (GX7.out) (fun hHeld => ?_)
      clear hKc Kc
      try simp only [Act.put, List.setIfInBounds_toArray, List.set_cons_zero, List.set_cons_succ]
      refine wpAnyH_take (i := 8) (oi := ⟨some 23, _, _, _, _, _⟩) (v := ?_) rfl (by kernel_rfl) (by kernel_rfl) (by kernel_rfl) (fun _ _ _ h => h) (Or.inl ⟨by rfl, ?_⟩) (by assumption) ?_
      rotate_left
      · intro w hSw; (try dsimp only at hSw); go_simp; (try with_reducible rfl)
      try simp only [Act.put, List.setIfInBounds_toArray, List.set_cons_zero, List.set_cons_succ]
      refine wpAnyH_ready (rs := [1, 9]) (by kernel_rfl) (by simp) (AllReadyH.cons (o := ⟨some 16, _, _, _, _, _⟩) rfl (fun Kc hKc => ?_) (AllReadyH.cons (o := ⟨some 24, _, _, _, _, _⟩) rfl (fun Kc hKc => ?_) AllReadyH.nil))
      ·
        go_simp
        refine hKc.out _ _ (hHeld) (fun hHeld => ?_)
        clear hKc Kc
        try simp only [Act.put, List.setIfInBounds_toArray, List.set_cons_zero, List.set_cons_succ]
        refine wpAnyH_ready (rs := [9]) (by kernel_rfl) (by simp) (AllReadyH.cons (o := ⟨some 24, _, _, _, _, _⟩) rfl (fun Kc hKc => ?_) AllReadyH.nil)
        go_simp
        have V9 := Go.Lib.hid (Bxo.made w7 66 [.int .i64 x.off, .slice A7 x.body.length c7]); have y9 : Below w7.heap.size w7 (w7.alloc (.cells #[.int .i64 x.off, .slice A7 x.body.length c7] 66)) := (Below.refl _ _).alloc (Nat.le_refl _) _; have GB9 := Go.Lib.hid (GB7.out.keep y9 GB7.out.lt); have GX9 := Go.Lib.hid (GX7.out.keep y9 GX7.out.lt); have GZ9 := Go.Lib.hid (GZ7.out.keep y9 GZ7.out.lt); have RW9 := Go.Lib.hid (own_keepA RW7.out (fun g hg => y9.block g (Nat.lt_of_lt_of_le (RBL2.out g hg) y7.size))); have e9 : (w7.alloc (.cells #[.int .i64 x.off, .slice A7 x.body.length c7] 66)).heap.size = w7.heap.size + 1 := (by simp); clear c18; have c18 := GB9.out.cell 18 rfl; generalize w7.alloc (.cells #[.int .i64 x.off, .slice A7 x.body.length c7] 66) = w9 at *
        refine hKc.out _ _ (GX9.out) (fun hHeld => ?_)
        clear hKc Kc
        try simp only [Act.put, List.setIfInBounds_toArray, List.set_cons_zero, List.set_cons_succ]
        refine wpAnyH_ready (rs := [10]) (by kernel_rfl) (by simp) (AllReadyH.cons (o := ⟨some 25, _, _, _, _, _⟩) rfl (fun Kc hKc => ?_) AllReadyH.nil)
        go_simp
        go_at_call 44; refine (cinsertN rs e.Ar e.cr e.b.runs.length HRL.out base w7.heap.size ⟨⟨x.off, x.body⟩, A7, c7⟩ w9 RW9.out (by omega) V9.out (fun g hg => by have := RBL2.out g hg; have := y7.size; omega) HN.out k HK.out).mono ?_; rintro e10 w10 ⟨A', c', rfl, ho10, hg10, ha10⟩; have HO10 := Go.Lib.hid ho10; have HG10 := Go.Lib.hid hg10; have HA10 := Go.Lib.hid ha10; have GB10 := Go.Lib.hid (show Bxo w10 w.heap.size 42 _ from (hg10.block _ (by omega) (fun e' => by have := RBL0.out _ e'.symm; omega)).trans GB9.out); have GX10 := Go.Lib.hid (show Bxo w10 (w.heap.size + 1) 33 _ from (hg10.block _ (by omega) (fun e' => by have := RBL0.out _ e'.symm; omega)).trans GX9.out); have GZ10 := Go.Lib.hid (show Bxo w10 (w.heap.size + 2) 42 _ from (hg10.block _ (by omega) (fun e' => by have := RBL0.out _ e'.symm; omega)).trans GZ9.out); clear c18; dsimp only
        refine hKc.out _ _ (GX10.out) (fun hHeld => ?_)
        clear hKc Kc
        try simp only [Act.put, List.setIfInBounds_toArray, List.set_cons_zero, List.set_cons_succ]
        refine wpAnyH_take (i := 11) (oi := ⟨some 26, _, _, _, _, _⟩) (v := ?_) rfl (by kernel_rfl) (by kernel_rfl) (by kernel_rfl) (fun _ _ _ h => h) (Or.inl ⟨by rfl, ?_⟩) (by assumption) ?_
        rotate_left
        · intro w hSw; (try dsimp only at hSw); go_simp; (try with_reducible rfl)
        try simp only [Act.put, List.setIfInBounds_toArray, List.set_cons_zero, List.set_cons_succ]
        refine wpAnyH_ready (rs := [12]) (by kernel_rfl) (by simp) (AllReadyH.cons (o := ⟨none, _, _, _, _, _⟩) rfl (fun Kc hKc => ?_) AllReadyH.nil)
        rw [if_pos (by rfl)]
        refine step_store_any 40 _ _ rfl w.heap.size 18 42 _ [.slice A' (e.b.runs.length + 1) c'] _ rfl rfl rfl GB10.out info_sr (by show 18 + 1 ≤ 19; omega) (by simp [Value.oneCell']) ?_; intro w12 hb12 ho12; have HB12 := Go.Lib.hid hb12; clear hb12
        refine hKc.out _ _ (GX10.out.only ho12 (by omega)) (fun hHeld => ?_)
        clear hKc Kc
        try simp only [Act.put, List.setIfInBounds_toArray, List.set_cons_zero, List.set_cons_succ]
        refine wpAnyH_done (by kernel_rfl) ?_ _
        go_wp2_with fail
        go_meet
        exact ⟨A7, c7, A', c', PutMid.make hW y7 y9 e9 HB7.out hf7 HO10.out HG10.out HA10.out HB12.out (GX10.out.only ho12 (by omega)) (GZ10.out.only ho12 (by omega)) ho12 RBL0.out⟩
      ·
        go_simp
        have V9 := Go.Lib.hid (Bxo.made w7 66 [.int .i64 x.off, .slice A7 x.body.length c7]); have y9 : Below w7.heap.size w7 (w7.alloc (.cells #[.int .i64 x.off, .slice A7 x.body.length c7] 66)) := (Below.refl _ _).alloc (Nat.le_refl _) _; have GB9 := Go.Lib.hid (GB7.out.keep y9 GB7.out.lt); have GX9 := Go.Lib.hid (GX7.out.keep y9 GX7.out.lt); have GZ9 := Go.Lib.hid (GZ7.out.keep y9 GZ7.out.lt); have RW9 := Go.Lib.hid (own_keepA RW7.out (fun g hg => y9.block g (Nat.lt_of_lt_of_le (RBL2.out g hg) y7.size))); have e9 : (w7.alloc (.cells #[.int .i64 x.off, .slice A7 x.body.length c7] 66)).heap.size = w7.heap.size + 1 := (by simp); clear c18; have c18 := GB9.out.cell 18 rfl; generalize w7.alloc (.cells #[.int .i64 x.off, .slice A7 x.body.length c7] 66) = w9 at *
        refine hKc.out _ _ (GX9.out) (fun hHeld => ?_)
        clear hKc Kc
        try simp only [Act.put, List.setIfInBounds_toArray, List.set_cons_zero, List.set_cons_succ]
        refine wpAnyH_ready (rs := [1]) (by kernel_rfl) (by simp) (AllReadyH.cons (o := ⟨some 16, _, _, _, _, _⟩) rfl (fun Kc hKc => ?_) AllReadyH.nil)
        go_simp
        refine hKc.out _ _ (hHeld) (fun hHeld => ?_)
        clear hKc Kc
        try simp only [Act.put, List.setIfInBounds_toArray, List.set_cons_zero, List.set_cons_succ]
        refine wpAnyH_ready (rs := [10]) (by kernel_rfl) (by simp) (AllReadyH.cons (o := ⟨some 25, _, _, _, _, _⟩) rfl (fun Kc hKc => ?_) AllReadyH.nil)
        go_simp
        go_at_call 44; refine (cinsertN rs e.Ar e.cr e.b.runs.length HRL.out base w7.heap.size ⟨⟨x.off, x.body⟩, A7, c7⟩ w9 RW9.out (by omega) V9.out (fun g hg => by have := RBL2.out g hg; have := y7.size; omega) HN.out k HK.out).mono ?_; rintro e10 w10 ⟨A', c', rfl, ho10, hg10, ha10⟩; have HO10 := Go.Lib.hid ho10; have HG10 := Go.Lib.hid hg10; have HA10 := Go.Lib.hid ha10; have GB10 := Go.Lib.hid (show Bxo w10 w.heap.size 42 _ from (hg10.block _ (by omega) (fun e' => by have := RBL0.out _ e'.symm; omega)).trans GB9.out); have GX10 := Go.Lib.hid (show Bxo w10 (w.heap.size + 1) 33 _ from (hg10.block _ (by omega) (fun e' => by have := RBL0.out _ e'.symm; omega)).trans GX9.out); have GZ10 := Go.Lib.hid (show Bxo w10 (w.heap.size + 2) 42 _ from (hg10.block _ (by omega) (fun e' => by have := RBL0.out _ e'.symm; omega)).trans GZ9.out); clear c18; dsimp only
        refine hKc.out _ _ (GX10.out) (fun hHeld => ?_)
        clear hKc Kc
        try simp only [Act.put, List.setIfInBounds_toArray, List.set_cons_zero, List.set_cons_succ]
        refine wpAnyH_take (i := 11) (oi := ⟨some 26, _, _, _, _, _⟩) (v := ?_) rfl (by kernel_rfl) (by kernel_rfl) (by kernel_rfl) (fun _ _ _ h => h) (Or.inl ⟨by rfl, ?_⟩) (by assumption) ?_
        rotate_left
        · intro w hSw; (try dsimp only at hSw); go_simp; (try with_reducible rfl)
        try simp only [Act.put, List.setIfInBounds_toArray, List.set_cons_zero, List.set_cons_succ]
        refine wpAnyH_ready (rs := [12]) (by kernel_rfl) (by simp) (AllReadyH.cons (o := ⟨none, _, _, _, _, _⟩) rfl (fun Kc hKc => ?_) AllReadyH.nil)
        rw [if_pos (by rfl)]
        refine step_store_any 40 _ _ rfl w.heap.size 18 42 _ [.slice A' (e.b.runs.length + 1) c'] _ rfl rfl rfl GB10.out info_sr (by show 18 + 1 ≤ 19; omega) (by simp [Value.oneCell']) ?_; intro w12 hb12 ho12; have HB12 := Go.Lib.hid hb12; clear hb12
        refine hKc.out _ _ (GX10.out.only ho12 (by omega)) (fun hHeld => ?_)
        clear hKc Kc
        try simp only [Act.put, List.setIfInBounds_toArray, List.set_cons_zero, List.set_cons_succ]
        refine wpAnyH_done (by kernel_rfl) ?_ _
        go_wp2_with fail
        go_meet
        exact ⟨A7, c7, A', c', PutMid.make hW y7 y9 e9 HB7.out hf7 HO10.out HG10.out HA10.out HB12.out (GX10.out.only ho12 (by omega)) (GZ10.out.only ho12 (by omega)) ho12 RBL0.out⟩
  case rest =>
  rename World => wx
  obtain ⟨A7, c7, A', c', hM⟩ := hcut
  have HM := Go.Lib.hid hM
  clear hM c18
  have c3 := HM.out.xbox.cell 3 rfl
  have c4 := HM.out.xbox.cell 4 rfl
  have c10 := HM.out.xbox.cell 10 rfl
  have e1 := IntWalk.i64_in (x.off + (x.body.length : Int)) (by omega)
  have zx := HM.out.size
  go_upto_if 29 with fail
  go_cut [] (fun wy => TotE e x w.heap.size (.slice A' (e.b.runs.length + 1) c') wx wy)
  case first =>
    cases hm : x.mf
    · rw [hm] at c3
      go_wp2_with (first
        | (refine wpList_store_any rfl 3 _ _ rfl w.heap.size 17 42 _ [.int .i64 (x.off + (x.body.length : Int))] _ rfl rfl rfl HM.out.box info_i1 (by show 17 + 1 ≤ 19; omega) (by simp [Value.oneCell']) ?_; intro w20 hb20 ho20; have HB20 := Go.Lib.hid hb20; clear hb20))
      go_meet
      refine ⟨?_, ho20⟩
      have ht : (joinB e.b x).total = x.off + (x.body.length : Int) := by unfold joinB; simp [hm]
      rw [ht]
      exact HB20.out
    · rw [hm] at c3
      go_wp2
      go_meet
      refine ⟨?_, Only.refl⟩
      have ht : (joinB e.b x).total = e.b.total := by unfold joinB; simp [hm]
      rw [ht]
      exact HM.out.box
  case rest =>
  rename World => wy
  have HT := Go.Lib.hid hcut
  clear hcut c3 c4 c10
  have XB := Go.Lib.hid (HM.out.xbox.only HT.out.2 (by omega))
  have ey := HT.out.2.size
  have c4 := XB.out.cell 4 rfl
  have hV2 : ∀ b, V b → wy.heap[b]? = w2.heap[b]? := fun b hb => (HT.out.2.block b (by have := HVL.out b hb; omega)).trans (HM.out.block b (by have := HVL.out b hb; omega) (by have := HVL.out b hb; omega) (fun e' => hVR b e' hb))
  have HXY : Hid (PkAt wy V x Bo do_ Bb db) := Go.Lib.hid ⟨HXP.out.s0, HXP.out.s1, HXP.out.d0, HXP.out.d1, HXP.out.o.keepH hV2, HXP.out.b.keepH hV2, fun b hb => by have := HVL.out b hb; omega⟩
  go_upto_if 39 with fail
  go_cut [] (fun wz => HedE e x w.heap.size (.slice A' (e.b.runs.length + 1) c') wy wz)
  case first =>
    by_cases h0 : x.off = 0
    · have t0 : (x.off == 0) = true := by simp [h0]
      have H0 := Go.Lib.hid h0
      clear h0
      go_wp2_with (first
        | (refine wpList_load_pk rfl _ rfl ⟨w.heap.size + 1, 0, none⟩ rfl x Bo do_ Bb db XB.out.at ?_)
        | (go_at_call 45; refine (cheadOf x Bo do_ Bb db wy V HXY.out xo).mono ?_; rintro e30 w30 ⟨A30, c30, rfl, hp30, hf30, y30⟩; have HP30 := Go.Lib.hid hp30.o; have HF30 := Go.Lib.hid hf30; have BB30 := Go.Lib.hid (HT.out.1.keep y30 HT.out.1.lt); clear hp30 hf30; dsimp only)
        | (refine wpList_store_any rfl 4 _ _ rfl w.heap.size 16 42 _ [.bool true] _ rfl rfl rfl BB30.out info_b1 (by show 16 + 1 ≤ 19; omega) (by simp [Value.oneCell']) ?_; intro w31 hb31 ho31; have HB31 := Go.Lib.hid hb31; clear hb31)
        | (refine wpList_store_any rfl 33 _ _ rfl w.heap.size 5 42 _ (pkL (hdX x) A30 c30 none 0) _ rfl rfl rfl HB31.out info_pk (by show 5 + 11 ≤ 19; omega) (by simp [Value.oneCell']) ?_; intro w32 hb32 ho32; have HB32 := Go.Lib.hid hb32; clear hb32))
      go_meet
      have j1 : (joinB e.b x).head = hdX x := by unfold joinB hdX; simp [H0.out]
      have j2 : (joinB e.b x).first = true := by unfold joinB; simp [H0.out]
      refine ⟨A30, c30, none, 0, ?_, ((gro_below y30).trans ho31.gro).trans ho32.gro, fun _ => ⟨?_, rfl, rfl⟩, fun h => absurd H0.out h⟩
      · rw [j1, j2]; exact HB32.out
      · have z30 := y30.size
        exact ((HP30.out.fresh HF30.out).keepH (fun b hb => (ho32.block b (by omega)).trans (ho31.block b (by omega)))).more (fun b hb => ⟨hb.1, by rw [ho32.size, ho31.size]; exact hb.2⟩)
    · have t0 : (x.off == 0) = false := by simp [h0]
      have H0 := Go.Lib.hid h0
      clear h0
      go_wp2
      go_meet
      have j1 : (joinB e.b x).head = e.b.head := by unfold joinB; simp [H0.out]
      have j2 : (joinB e.b x).first = e.b.first := by unfold joinB; simp [H0.out]
      refine ⟨e.Ao, e.co, e.Ab, e.cb, ?_, Gro.refl, fun h => absurd h H0.out, fun _ => ⟨rfl, rfl, rfl, rfl⟩⟩
      rw [j1, j2]; exact HT.out.1
  case rest =>
  rename World => wz
  obtain ⟨Ao', co', Ab', cb', hH⟩ := hcut
  have HH := Go.Lib.hid hH
  clear hH c4
  have zz := HH.out.gro.size
  have ZZ := Go.Lib.hid (((HM.out.zbox.only HT.out.2 (by omega)).gro HH.out.gro (by omega)))
  have hins : insR e.b.runs ⟨x.off, x.body⟩ = e.b.runs.take k ++ ⟨x.off, x.body⟩ :: e.b.runs.drop k := ins_place e.b.runs ⟨x.off, x.body⟩ k HPL.out.1 HPL.out.2.1 (fun i hi hik => by
    have h1 := HPL.out.2.2 i hi hik
    have h2 := HNO.out _ (List.getElem_mem hi)
    show x.off < _
    omega)
  have HINS := Go.Lib.hid hins
  have hj : ((joinB e.b x).runs).length = e.b.runs.length + 1 := by
    show (insR e.b.runs ⟨x.off, x.body⟩).length = _
    rw [hins, List.length_append, List.length_cons, List.length_take, List.length_drop]
    have := HPL.out.1
    omega
  clear hins
  have HBF : Hid (Bxo wz w.heap.size 42 (bfL (joinB e.b x) Ao' co' Ab' cb' A' c')) := Go.Lib.hid (by
    have h := HH.out.box
    rw [← hj] at h
    exact h)
  go_wp2_with (first
    | (refine wpList_load_bf rfl _ rfl ⟨w.heap.size, 0, none⟩ rfl (joinB e.b x) Ao' co' Ab' cb' A' c' HBF.out.at ?_)
    | (refine wpList_store_whole rfl 42 _ _ rfl (w.heap.size + 2) _ (bfL (joinB e.b x) Ao' co' Ab' cb' A' c') rfl rfl ZZ.out info_bf rfl (by simp [Value.oneCell']) ?_; intro w40 hb40 ho40; have HB40 := Go.Lib.hid hb40; clear hb40))
  refine bodyPost_ret (v := bfV (joinB e.b x) Ao' co' Ab' cb' A' c') (results_cell_row rfl _ _ (w.heap.size + 2) 42 _ _ _ rfl HB40.out Try.underlying42 rfl info_bf) rfl
    ⟨⟨joinB e.b x, Ao', co', Ab', cb', A', c'⟩, rs.take k ++ ⟨⟨x.off, x.body⟩, A7, c7⟩ :: rs.drop k, fun b => D b ∨ (w.heap.size ≤ b ∧ b < w40.heap.size ∧ blk A' ≠ some b), rfl, rfl, ?_, ?_, fun b hb => .inl hb, fun b hb => hb.imp id (fun h => ⟨h.1, h.2.1⟩), ?_, ?_⟩
  all_goals
    have z40 := ho40.size
    have hAg : ∀ g, blk A' = some g → (g < w.heap.size ∨ w2.heap.size ≤ g) ∧ g < wx.heap.size := fun g hg => by
      refine ⟨?_, ?_⟩
      · rcases HM.out.at_ with h | h
        · exact .inl (RBL0.out g (by rw [← h]; exact hg))
        · exact .inr (h g hg)
      · rcases own_addr HM.out.row with ⟨hn', _⟩ | ⟨g2, hg2, h1, h2⟩
        · rw [hn'] at hg; cases hg
        · rw [hg2] at hg; injection hg with hg; have hg : g2 = g := hg; omega
    have hkeep : ∀ b, b < w.heap.size → blk e.Ar ≠ some b → w40.heap[b]? = w.heap[b]? := fun b hb hne => ((((ho40.block b (by omega)).trans (HH.out.gro.block b (by omega) (by omega))).trans (HT.out.2.block b (by omega))).trans (HM.out.block b (by omega) (by omega) hne)).trans (Z2.out.block b hb)
    have hlate : ∀ b, b < wx.heap.size → b ≠ w.heap.size → b ≠ w.heap.size + 2 → w40.heap[b]? = wx.heap[b]? := fun b hb h1 h2 => ((ho40.block b h2).trans (HH.out.gro.block b (by omega) h1)).trans (HT.out.2.block b h1)
    have hkD : ∀ b, D b → w40.heap[b]? = w.heap[b]? := fun b hb => hkeep b (hDl b hb) (fun e' => hde b e' hb)
  · by_cases h0 : x.off = 0
    · obtain ⟨hy1, hy2, hy3⟩ := HH.out.yes h0
      subst hy2
      subst hy3
      have j1 : (joinB e.b x).head = hdX x := by unfold joinB hdX; simp [h0]
      refine ⟨HEL.out.s0, HEL.out.s1, HEL.out.d0, HEL.out.d1, by rw [j1]; exact HXP.out.s0, by rw [j1]; exact HXP.out.s1, by rw [j1]; exact HXP.out.d0, by rw [j1]; exact HXP.out.d1, ?_, ?_, ?_, ?_, ?_⟩
      · rw [j1]
        exact (hy1.keepH (w' := w40) (fun b hb => ho40.block b (by omega))).more (fun b hb => .inr ⟨by omega, by omega, fun e' => by have := (hAg b e').2; omega⟩)
      · rw [j1]; exact ⟨by simp [hdX], Nat.zero_le _, fun _ => rfl, .inl rfl⟩
      · show _ = insR e.b.runs ⟨x.off, x.body⟩
        rw [HINS.out, List.map_append, List.map_cons, List.map_take, List.map_drop, HEL.out.eq]
      · have hl : (rs.take k ++ (⟨⟨x.off, x.body⟩, A7, c7⟩ : Er) :: rs.drop k).length = e.b.runs.length + 1 := by
          rw [List.length_append, List.length_cons, List.length_take, List.length_drop, HRL.out]; have := HPL.out.1; omega
        unfold OwnR
        rw [hl]
        exact own_keepA HM.out.row (fun g hg => by have := hAg g hg; exact hlate g this.2 (by omega) (by omega))
      · intro r hr
        have hmem : r ∈ rs ∨ r = ⟨⟨x.off, x.body⟩, A7, c7⟩ := by
          rcases List.mem_append.1 hr with h | h
          · exact .inl (List.mem_of_mem_take h)
          · rcases List.mem_cons.1 h with h | h
            · exact .inr h
            · exact .inl (List.mem_of_mem_drop h)
        rcases hmem with h | rfl
        · exact ((HEL.out.data r h).keepH hkD).more (fun b hb => .inl hb)
        · exact (HM.out.data.keepH (w' := w40) (fun b hb => hlate b hb.2.1 (by omega) (by omega))).more (fun b hb => .inr ⟨by omega, by omega, hb.2.2⟩)
    · obtain ⟨hy1, hy2, hy3, hy4⟩ := HH.out.no h0
      subst hy1
      subst hy2
      subst hy3
      subst hy4
      have j1 : (joinB e.b x).head = e.b.head := by unfold joinB; simp [h0]
      refine ⟨HEL.out.s0, HEL.out.s1, HEL.out.d0, HEL.out.d1, by rw [j1]; exact HEL.out.hs0, by rw [j1]; exact HEL.out.hs1, by rw [j1]; exact HEL.out.hd0, by rw [j1]; exact HEL.out.hd1, ?_, ?_, ?_, ?_, ?_⟩
      · rw [j1]; exact (HEL.out.o.keepH hkD).more (fun b hb => .inl hb)
      · rw [j1]; exact (HEL.out.bo.keepH hkD).more (fun b hb => .inl hb)
      · show _ = insR e.b.runs ⟨x.off, x.body⟩
        rw [HINS.out, List.map_append, List.map_cons, List.map_take, List.map_drop, HEL.out.eq]
      · have hl : (rs.take k ++ (⟨⟨x.off, x.body⟩, A7, c7⟩ : Er) :: rs.drop k).length = e.b.runs.length + 1 := by
          rw [List.length_append, List.length_cons, List.length_take, List.length_drop, HRL.out]; have := HPL.out.1; omega
        unfold OwnR
        rw [hl]
        exact own_keepA HM.out.row (fun g hg => by have := hAg g hg; exact hlate g this.2 (by omega) (by omega))
      · intro r hr
        have hmem : r ∈ rs ∨ r = ⟨⟨x.off, x.body⟩, A7, c7⟩ := by
          rcases List.mem_append.1 hr with h | h
          · exact .inl (List.mem_of_mem_take h)
          · rcases List.mem_cons.1 h with h | h
            · exact .inr h
            · exact .inl (List.mem_of_mem_drop h)
        rcases hmem with h | rfl
        · exact ((HEL.out.data r h).keepH hkD).more (fun b hb => .inl hb)
        · exact (HM.out.data.keepH (w' := w40) (fun b hb => hlate b hb.2.1 (by omega) (by omega))).more (fun b hb => .inr ⟨by omega, by omega, hb.2.2⟩)
  · exact ⟨(((ho40.os.trans HH.out.gro.os).trans HT.out.2.os).trans HM.out.os).trans Z2.out.os, (((ho40.tape.trans HH.out.gro.tape).trans HT.out.2.tape).trans HM.out.tape).trans Z2.out.tape, (((ho40.output.trans HH.out.gro.output).trans HT.out.2.output).trans HM.out.output).trans Z2.out.output, by omega, fun b hb hne => hkeep b hb (fun e' => hne e'.symm)⟩
  · intro g hg hd
    rcases hd with hd | hd
    · rcases HM.out.at_ with h | h
      · exact hde g (by rw [← h]; exact hg) hd
      · have := h g hg; have := hDl g hd; omega
    · exact hd.2.2 hg
  · rcases HM.out.at_ with h | h
    · exact .inl h
    · exact .inr (fun g hg => by have := h g hg; omega)
end Go.Proofs.Ythejakbjekjhjaa

/- What package reasm's Take has in its hands between its calls. -/
namespace Go.Proofs.Ythejakbjekjhjaa
open Go.ChangeShapes Go.WideShapes Go.ChangeAt Go.RowKit
set_option linter.unusedVariables false
set_option linter.unusedSimpArgs false

/-- w: the world of the call; its boxes: the pool, the piece, two results. -/
structure TkS (w : World) (V : Nat → Prop) (base : Nat) (x : Pk) (Ao : Option Addr) (co : Nat) (Ab : Option Addr) (cb : Nat) (wx : World) (p : Po) (A : Option Addr) (c : Nat) (es : List El) (D : Nat → Prop) : Prop where
  b2 : Bxo wx w.heap.size 27 (poL p A c)
  b3 : Bxo wx (w.heap.size + 1) 33 (pkL x Ao co Ab cb)
  b4 : Bxo wx (w.heap.size + 2) 27 (poL po0 none 0)
  b5 : Bxo wx (w.heap.size + 3) 33 (pkL pk0 none 0 none 0)
  own : OwnPo wx base D A c es
  map : es.map El.b = p.list
  dv : ∀ b, D b → V b ∨ (base ≤ b ∧ b < wx.heap.size)
  vlt : ∀ b, V b → b < w.heap.size
  pk : PkAt wx V x Ao co Ab cb
  bel : Below w.heap.size w wx
  b0 : w.heap.size + 4 ≤ base
  b1 : base ≤ wx.heap.size
section
variable {w wx wy w5 w6 : World} {V D : Nat → Prop} {base c co cb : Nat} {x : Pk} {A Ao Ab : Option Addr} {p : Po} {es : List El}
theorem TkS.step (h : TkS w V base x Ao co Ab cb wx p A c es D) (y : Below wx.heap.size wx wy) : TkS w V base x Ao co Ab cb wy p A c es D := by
  have z := y.size
  have z0 := h.bel.size
  exact ⟨h.b2.keep y h.b2.lt, h.b3.keep y h.b3.lt, h.b4.keep y h.b4.lt, h.b5.keep y h.b5.lt, h.own.keepH z (fun b hb => y.block b (h.own.lt b hb)) (fun b _ hb => y.block b hb), h.map, fun b hb => (h.dv b hb).imp_right (fun k => ⟨k.1, by omega⟩), h.vlt, h.pk.at y, h.bel.trans (y.mono z0), h.b0, Nat.le_trans h.b1 z⟩
theorem TkS.po (h : TkS w V base x Ao co Ab cb wx p A c es D) : PoAt wx (fun b => V b ∨ (base ≤ b ∧ b < wx.heap.size)) p A c :=
  h.own.po h.dv (fun b h1 h2 => .inr ⟨h1, h2⟩) (fun b hb => hb.elim (fun k => by have := h.vlt b k; have := h.b0; have := h.b1; omega) (fun k => k.2)) p h.map
/-- behind the results' being stored. -/
theorem TkS.end (h : TkS w V base x Ao co Ab cb wx p A c es D) (h5 : Only (w.heap.size + 2) wx w5) (h6 : Only (w.heap.size + 3) w5 w6) : PoAt w6 (growV V w w6) p A c ∧ Below w.heap.size w w6 ∧ ∀ b, growV V w w6 b → b < w6.heap.size := by
  have s5 := h5.size
  have s6 := h6.size
  have z0 := h.bel.size
  have b0 := h.b0
  have b1 := h.b1
  have lt : ∀ b, growV V w w6 b → b < w6.heap.size := fun b hb => hb.elim (fun k => by have := h.vlt b k; omega) (fun k => k.2)
  have hh : ∀ b, b ≠ w.heap.size + 2 → b ≠ w.heap.size + 3 → w6.heap[b]? = wx.heap[b]? := fun b h1 h2 => (h6.block b h2).trans (h5.block b h1)
  have hO := h.own.keepH (w' := w6) (by omega) (fun b hb => hh b (by have := h.dv b hb; have := h.vlt b; rcases ‹V b ∨ _› with k | k; have := h.vlt b k; omega; omega) (by have := h.dv b hb; have := h.vlt b; rcases ‹V b ∨ _› with k | k; have := h.vlt b k; omega; omega)) (fun b h1 h2 => hh b (by omega) (by omega))
  refine ⟨hO.po (fun b hb => (h.dv b hb).imp_right (fun k => ⟨by omega, by omega⟩)) (fun b h1 h2 => .inr ⟨by omega, h2⟩) lt p h.map, (h.bel.trans ((h5.below (by omega)).mono (Nat.le_refl _))).trans (h6.below (by omega)), lt⟩
theorem TkS.el (h : TkS w V base x Ao co Ab cb wx p A c es D) {k : Nat} {e : El} (he : es[k]? = some e) : BfAt wx (fun b => D b ∨ blk e.Ar = some b) e.b e.Ao e.co e.Ab e.cb e.Ar e.cr := by
  have hm := List.mem_of_getElem? he
  obtain ⟨rs, hel⟩ := h.own.els e hm
  exact hel.bf (fun b hb => .inl hb) (fun g hg => .inr hg) (fun b hb => hb.elim (h.own.lt b) (h.own.rlt e hm b))
/-- the pool's row was worked on meanwhile. -/
theorem TkS.end2 {w7 : World} {gL : Nat} {es' : List El} {p' : Po} (h : TkS w V base x Ao co Ab cb wx p (some ⟨gL, 0, none⟩) c es D) (hg : Gro gL wx w7) (hO : OwnPo w7 base D (some ⟨gL, 0, none⟩) c es') (hm : es'.map El.b = p'.list) (h5 : Only (w.heap.size + 2) w7 w5) (h6 : Only (w.heap.size + 3) w5 w6) : PoAt w6 (growV V w w6) p' (some ⟨gL, 0, none⟩) c ∧ Below w.heap.size w w6 ∧ ∀ b, growV V w w6 b → b < w6.heap.size := by
  have s7 := hg.size
  have s5 := h5.size
  have s6 := h6.size
  have z0 := h.bel.size
  have b0 := h.b0
  have b1 := h.b1
  obtain ⟨gL', e1, hL1, hL2⟩ := (own_addr h.own.row).resolve_left (by rintro ⟨h, _⟩; cases h)
  injection e1 with e1
  injection e1 with e1
  subst e1
  have lt : ∀ b, growV V w w6 b → b < w6.heap.size := fun b hb => hb.elim (fun k => by have := h.vlt b k; omega) (fun k => k.2)
  have hh : ∀ b, b ≠ w.heap.size + 2 → b ≠ w.heap.size + 3 → w6.heap[b]? = w7.heap[b]? := fun b h1 h2 => (h6.block b h2).trans (h5.block b h1)
  have hd : ∀ b, D b → b ≠ w.heap.size + 2 ∧ b ≠ w.heap.size + 3 := fun b hb => (h.dv b hb).elim (fun k => by have := h.vlt b k; omega) (fun k => by omega)
  have hO6 := hO.keepH (w' := w6) (by omega) (fun b hb => hh b (hd b hb).1 (hd b hb).2) (fun b h1 h2 => hh b (by omega) (by omega))
  exact ⟨hO6.po (fun b hb => (h.dv b hb).imp_right (fun k => ⟨by omega, by omega⟩)) (fun b h1 h2 => .inr ⟨by omega, h2⟩) lt p' hm, ((h.bel.trans (hg.below (by omega) z0)).trans (h5.below (by omega))).trans (h6.below (by omega)), lt⟩
end
end Go.Proofs.Ythejakbjekjhjaa
