/- Lemmas of layer 7, several texts in one. -/
import Derived.Test.YthejakbjekjhjaaQ01
import Derived.Test.YthejakbjekjhjaaQ02
import Derived.Deep.MidRow
import Derived.Deep.WholeRow
import Derived.Test.YthejakbjekjhjaaRows
import Derived.WalkKit
import Derived.ProofKit
import Derived.OpenShut
import Derived.Below
import Derived.Deep.QuietTactic
import Derived.Deep.RegionHeld3
import Derived.BigQuiet
import Derived.OwnWalk
import Derived.Lib.SliceRun
/- A right pool stays right, whatever comes: plain mathematics. -/
namespace Go.Proofs.Ythejakbjekjhjaa
open Go.RowKit
set_option linter.unusedVariables false

/-- a packet that is put together, or one that is begun just now. -/
structure PreB (b : Bf) (now : Int) : Prop where
  b0 : 0 ≤ b.born
  b1 : b.born ≤ now
  t0 : b.total = -1 ∨ 1 ≤ b.total
  t1 : b.total ≤ 65535
  runs : RunsOk b.total 0 b.runs
  first : b.first = firstR b.runs
  opts : b.head.opts.length ≤ 40
  hbody : b.head.body = []
  hmf : b.head.mf = false
  hoff : b.head.off = 0
  hemp : b.first = true ∨ b.head = Pk.empty
theorem GoodB.pre {b : Bf} {now : Int} (h : GoodB b now) : PreB b now := ⟨h.b0, h.b1, h.t0, h.t1, h.runs, h.first, h.opts, h.hbody, h.hmf, h.hoff, h.hemp⟩
theorem pre_new {p : Po} (h : RightP p) (x : Pk) : PreB (newB p x) p.now := ⟨h.n0, Int.le_refl _, .inl rfl, by show (-1 : Int) ≤ 65535; omega, trivial, rfl, by show ([] : List UInt8).length ≤ 40; simp, rfl, rfl, rfl, .inr rfl⟩
theorem own_pre {p : Po} (h : RightP p) (x : Pk) : PreB (ownP p x) p.now := by
  unfold ownP
  cases hf : p.list.find? (fun b => oneN b x) with
  | none => exact pre_new h x
  | some b => exact (h.good b (List.mem_of_find?_eq_some hf)).pre
theorem own_name (p : Po) (x : Pk) : nmB (ownP p x) = nmX x := by
  unfold ownP
  cases hf : p.list.find? (fun b => oneN b x) with
  | none => rfl
  | some b => have := List.find?_some hf; exact (oneN_iff b x).1 this
theorem join_good {b : Bf} {x : Pk} {now : Int} (h : PreB b now) (hm : May x) (hl : 0 < x.body.length) (hc : clashB b x = false) : GoodB (joinB b x) now := by
  obtain ⟨n1, n2, n3⟩ := clash_no hc
  have o0 := hm.o0
  have o8 := hm.o8
  have fit := hm.fit
  have hr : ∀ t : Int, (0 < t → x.off + (x.body.length : Int) ≤ t) → RunOk t 0 ⟨x.off, x.body⟩ := fun t ht => ⟨o0, hl, o8, by show x.off + (x.body.length : Int) ≤ 65535; omega, ht⟩
  have hru : RunsOk (joinB b x).total 0 b.runs ∧ RunOk (joinB b x).total 0 ⟨x.off, x.body⟩ := by
    show RunsOk (if x.mf then b.total else _) 0 b.runs ∧ RunOk (if x.mf then b.total else _) 0 _
    by_cases hmf : x.mf = true
    · rw [if_pos hmf]
      exact ⟨h.runs, hr _ (fun h => (n1 h).2)⟩
    · rw [if_neg hmf]
      exact ⟨runs_total _ b.runs _ 0 h.runs (n3 (by simpa using hmf)), hr _ (fun _ => Int.le_refl _)⟩
  refine ⟨h.b0, h.b1, insR_ne _ _, ?_, ?_, runs_ins _ _ _ _ hru.1 hru.2 n2, ?_, ?_, ?_, ?_, ?_, ?_⟩
  · show (if x.mf then b.total else _) = -1 ∨ 1 ≤ (if x.mf then b.total else _)
    split
    · exact h.t0
    · right; omega
  · show (if x.mf then b.total else _) ≤ 65535
    split
    · exact h.t1
    · omega
  · show (b.first || x.off == 0) = firstR (insR b.runs ⟨x.off, x.body⟩)
    rw [first_ins _ _ _ hru.1 hru.2 n2, h.first]
  · show (if x.off = 0 then _ else b.head).opts.length ≤ 40
    split
    · exact hm.p40
    · exact h.opts
  · show (if x.off = 0 then _ else b.head).body = []
    split
    · rfl
    · exact h.hbody
  · show (if x.off = 0 then _ else b.head).mf = false
    split
    · rfl
    · exact h.hmf
  · show (if x.off = 0 then _ else b.head).off = 0
    split
    · rename_i h0; exact h0
    · exact h.hoff
  · show (b.first || x.off == 0) = true ∨ (if x.off = 0 then _ else b.head) = Pk.empty
    by_cases h0 : x.off = 0
    · left; simp [h0]
    · rw [if_neg h0]
      rcases h.hemp with h1 | h1
      · left; simp [h1]
      · exact .inr h1

theorem heldL_append : ∀ (l m : List Bf), heldL (l ++ m) = heldL l + heldL m
  | [], m => by simp [heldL]
  | b :: t, m => by simp only [List.cons_append, heldL, heldL_append t m]; omega
theorem putL_none (x : Pk) (b : Bf) : ∀ l : List Bf, (∀ a ∈ l, oneN a x = false) → putL l x b = l
  | [], _ => rfl
  | a :: t, h => by
    unfold putL
    rw [List.map_cons, h a (by simp)]
    show a :: putL t x b = a :: t
    rw [putL_none x b t (fun c hc => h c (by simp [hc]))]
theorem putL_names (x : Pk) (b : Bf) (hb : nmB b = nmX x) : ∀ l : List Bf, (putL l x b).map nmB = l.map nmB
  | [] => rfl
  | a :: t => by
    show nmB (if oneN a x then b else a) :: (putL t x b).map nmB = nmB a :: t.map nmB
    rw [putL_names x b hb t]
    congr 1
    split
    · rename_i h; rw [hb, (oneN_iff a x).1 h]
    · rfl
theorem putL_held (x : Pk) (b b0 : Bf) (n : Nat) (hb : heldR b.runs = heldR b0.runs + n) : ∀ l : List Bf, (l.map nmB).Nodup → l.find? (fun a => oneN a x) = some b0 → heldL (putL l x b) = heldL l + n
  | [], _, h => by simp at h
  | a :: t, hn, h => by
    rw [List.map_cons, List.nodup_cons] at hn
    show heldR (if oneN a x then b else a).runs + heldL (putL t x b) = heldR a.runs + heldL t + n
    by_cases ha : oneN a x = true
    · rw [List.find?_cons_of_pos (p := fun a => oneN a x) ha] at h
      have h' : a = b0 := Option.some.inj h
      subst h'
      rw [if_pos ha, hb, putL_none x b t]
      · omega
      · intro c hc
        by_cases hcx : oneN c x = true
        · exfalso
          apply hn.1
          rw [(oneN_iff a x).1 ha, ← (oneN_iff c x).1 hcx]
          exact List.mem_map_of_mem hc
        · simpa using hcx
    · rw [List.find?_cons_of_neg (p := fun a => oneN a x) ha] at h
      rw [if_neg ha, putL_held x b b0 n hb t hn.2 h]
      omega
theorem join_name (b : Bf) (x : Pk) : nmB (joinB b x) = nmB b := rfl
theorem right_with {p : Po} (h : RightP p) {x : Pk} (hm : May x) (hl : 0 < x.body.length) (hc : clashB (ownP p x) x = false) (hf : ¬ (thereP p x = false ∧ 64 ≤ p.list.length)) (hr : (heldP p : Int) + (x.body.length : Int) ≤ p.room) : RightP (withP p x) := by
  have hg := join_good (own_pre h x) hm hl hc
  have hh : heldR (joinB (ownP p x) x).runs = heldR (ownP p x).runs + x.body.length := heldR_ins ⟨x.off, x.body⟩ (ownP p x).runs
  have hnm : nmB (joinB (ownP p x) x) = nmX x := (join_name _ _).trans (own_name p x)
  unfold heldP at hr
  cases hf' : p.list.find? (fun b => oneN b x) with
  | none =>
    have ht : thereP p x = false := by unfold thereP; rw [hf']; rfl
    have ho : ownP p x = newB p x := by unfold ownP; rw [hf']; rfl
    have e : withP p x = ⟨p.room, p.life, p.now, p.list ++ [joinB (ownP p x) x]⟩ := by unfold withP; rw [ht]; rfl
    rw [e]
    have hno := List.find?_eq_none.1 hf'
    refine ⟨h.r0, h.r1, h.l0, h.l1, h.n0, h.n1, ?_, ?_, ?_, ?_⟩
    · show (p.list ++ [_]).length ≤ 64
      rw [List.length_append]
      have : ¬ 64 ≤ p.list.length := fun h => hf ⟨ht, h⟩
      simp; omega
    · intro b hb
      rcases List.mem_append.1 hb with hb | hb
      · exact h.good b hb
      · rw [List.mem_singleton.1 hb]; exact hg
    · show ((p.list ++ [_]).map nmB).Nodup
      rw [List.map_append, List.nodup_append]
      refine ⟨h.names, by simp, ?_⟩
      intro a ha c hc' hac
      simp only [List.map_cons, List.map_nil, List.mem_singleton] at hc'
      obtain ⟨b, hb, rfl⟩ := List.mem_map.1 ha
      have := hno b hb
      apply this
      rw [oneN_iff, hac, hc', hnm]
    · show (heldL (p.list ++ [joinB (ownP p x) x]) : Int) ≤ p.room
      rw [heldL_append]
      show ((heldL p.list + (heldR (joinB (ownP p x) x).runs + 0) : Nat) : Int) ≤ p.room
      rw [hh, ho]
      show ((heldL p.list + (0 + x.body.length + 0) : Nat) : Int) ≤ p.room
      omega
  | some b0 =>
    have ht : thereP p x = true := by unfold thereP; rw [hf']; rfl
    have ho : ownP p x = b0 := by unfold ownP; rw [hf']; rfl
    have e : withP p x = ⟨p.room, p.life, p.now, putL p.list x (joinB (ownP p x) x)⟩ := by unfold withP; rw [ht]; rfl
    rw [e]
    refine ⟨h.r0, h.r1, h.l0, h.l1, h.n0, h.n1, ?_, ?_, ?_, ?_⟩
    · show (putL p.list x _).length ≤ 64
      unfold putL; rw [List.length_map]; exact h.few
    · intro b hb
      obtain ⟨a, ha, rfl⟩ := List.mem_map.1 hb
      split
      · exact hg
      · exact h.good a ha
    · show ((putL p.list x _).map nmB).Nodup
      rw [putL_names x _ hnm]; exact h.names
    · show (heldL (putL p.list x (joinB (ownP p x) x)) : Int) ≤ p.room
      rw [putL_held x _ b0 x.body.length (by rw [hh, ho]) p.list h.names hf']
      omega
/-- a right pool stays right, its time and its bounds as they were; what is in it was, or is begun now. -/
structure KeptP (p q : Po) : Prop where
  right : RightP q
  room : q.room = p.room
  life : q.life = p.life
  now : q.now = p.now
  born : ∀ b ∈ q.list, (∃ a ∈ p.list, b.born = a.born) ∨ b.born = p.now
theorem kept_same {p : Po} (h : RightP p) : KeptP p p := ⟨h, rfl, rfl, rfl, fun b hb => .inl ⟨b, hb, rfl⟩⟩
theorem kept_without {p : Po} (h : RightP p) (x : Pk) : KeptP p (withoutP p x) := ⟨right_without h x, rfl, rfl, rfl, fun b hb => .inl ⟨b, (List.mem_filter.1 hb).1, rfl⟩⟩
theorem kept_with {p : Po} (h : RightP p) {x : Pk} (hR : RightP (withP p x)) : KeptP p (withP p x) := by
  refine ⟨hR, rfl, rfl, rfl, fun b hb => ?_⟩
  have hown : (∃ a ∈ p.list, (joinB (ownP p x) x).born = a.born) ∨ (joinB (ownP p x) x).born = p.now := by
    show (∃ a ∈ p.list, (ownP p x).born = a.born) ∨ (ownP p x).born = p.now
    unfold ownP
    cases hf' : p.list.find? (fun b => oneN b x) with
    | none => exact .inr rfl
    | some b0 => exact .inl ⟨b0, List.mem_of_find?_eq_some hf', rfl⟩
  have hb' : b ∈ (if thereP p x then putL p.list x (joinB (ownP p x) x) else p.list ++ [joinB (ownP p x) x]) := hb
  split at hb'
  · obtain ⟨a, ha, rfl⟩ := List.mem_map.1 hb'
    split
    · exact hown
    · exact .inl ⟨a, ha, rfl⟩
  · rcases List.mem_append.1 hb' with hb' | hb'
    · exact .inl ⟨b, hb', rfl⟩
    · rw [List.mem_singleton.1 hb']; exact hown
theorem take_kept {p : Po} (h : RightP p) (x : Pk) : KeptP p (takeP p x).pool ∧ ((takeP p x).ok = false → (takeP p x).out.body = []) ∧ ((takeP p x).ok = true → (takeP p x).err = 0) := by
  unfold takeP
  split
  · exact ⟨kept_same h, (fun h => by cases h), fun _ => rfl⟩
  split
  · exact ⟨kept_same h, fun _ => rfl, (fun h => by cases h)⟩
  rename_i hg
  split
  · exact ⟨kept_without h x, fun _ => rfl, (fun h => by cases h)⟩
  rename_i hc
  split
  · exact ⟨kept_same h, fun _ => rfl, (fun h => by cases h)⟩
  rename_i hf
  have hm : May x := (mayB_iff x).1 (by
    cases hx : mayB x
    · exact absurd (.inr (.inl hx)) hg
    · rfl)
  have hl : 0 < x.body.length := by
    by_cases h0 : x.body.length = 0
    · exact absurd (.inr (.inr h0)) hg
    · omega
  have hR := right_with h hm hl (by simpa using hc) (fun h => hf (.inl h)) (by
    by_cases h0 : p.room < (heldP p : Int) + (x.body.length : Int)
    · exact absurd (.inr h0) hf
    · omega)
  split
  · exact ⟨kept_with h hR, fun _ => rfl, (fun h => by cases h)⟩
  · dsimp only
    split
    · exact ⟨kept_without h x, (fun h => by cases h), fun _ => rfl⟩
    · exact ⟨kept_without h x, fun _ => rfl, (fun h => by cases h)⟩
/-- nothing is there any more, when time has gone on by as much as a packet waits. -/
theorem tick_all {p : Po} (h : RightP p) (hn : p.now + p.life ≤ 1099511627776) : (tickP p (p.now + p.life)).1.list = [] := by
  have hl := h.l0
  obtain ⟨_, _, _, _, _, _, hb⟩ := tick_right h (now := p.now + p.life) (by omega) hn
  cases hc : (tickP p (p.now + p.life)).1.list with
  | nil => rfl
  | cons b t =>
    exfalso
    have h1 := hb b (by rw [hc]; simp)
    have h2 := (h.good b h1.1).b1
    omega
end Go.Proofs.Ythejakbjekjhjaa

/- What package reasm's functions owe, as propositions: the walks of layer 7's statements stand on them. -/
namespace Go.Proofs.Ythejakbjekjhjaa
open Go.ChangeShapes Go.WideShapes Go.ChangeAt Go.RowKit
set_option linter.unusedVariables false

/-- no more bytes than a number of 64 bits tells. -/
def FewP (p : Po) : Prop := heldP p ≤ 4611686018427387904
def RightC : Prop := ∀ (p : Po) (A : Option Addr) (c : Nat) (w : World) (V : Nat → Prop) (b : Bool), rightP p = b → PoAt w V p A c → FewP p →
  Calls Try.prog 10 #[poV p A c] w fun e w' => e = .returned (.bool b) ∧ Below w.heap.size w w'
def HeldC : Prop := ∀ (p : Po) (A : Option Addr) (c : Nat) (w : World) (V : Nat → Prop), PoAt w V p A c → FewP p →
  Calls Try.prog 11 #[poV p A c] w fun e w' => e = .returned (.int .i64 (heldP p)) ∧ Below w.heap.size w w'
def TickC : Prop := ∀ (p : Po) (A : Option Addr) (c : Nat) (now : Int) (w : World) (V : Nat → Prop) (q : Po) (many err : Int), tickP p now = (q, many, err) → PoAt w V p A c → FewP p →
  Calls Try.prog 9 #[poV p A c, .int .i64 now] w fun e w' => ∃ A' c', e = .returned (.tuple #[poV q A' c', .int .i64 many, .int .i64 err]) ∧ PoAt w' (growV V w w') q A' c' ∧ Below w.heap.size w w'
def newP (room life : Int) : Po × Int := if 1 ≤ room ∧ room ≤ 1048576 ∧ 1 ≤ life ∧ life ≤ 1048576 then (⟨room, life, 0, []⟩, 0) else (⟨0, 0, 0, []⟩, 1)
def NewC : Prop := ∀ (room life : Int) (w : World) (p : Po) (err : Int), newP room life = (p, err) →
  Calls Try.prog 7 #[.int .i64 room, .int .i64 life] w fun e w' => ∃ A c, e = .returned (.tuple #[poV p A c, .int .i64 err]) ∧ PoAt w' (growV (fun _ => False) w w') p A c ∧ Below w.heap.size w w'
def TakeC : Prop := ∀ (p : Po) (A : Option Addr) (c : Nat) (x : Pk) (Ao : Option Addr) (co : Nat) (Ab : Option Addr) (cb : Nat) (w : World) (V : Nat → Prop) (t : Tk), takeP p x = t → PoAt w V p A c → PkAt w V x Ao co Ab cb → FewP p →
  Calls Try.prog 8 #[poV p A c, ipV x Ao co Ab cb] w fun e w' => ∃ A' c' Ao' co' Ab' cb', e = .returned (.tuple #[poV t.pool A' c', ipV t.out Ao' co' Ab' cb', .bool t.ok, .int .i64 t.err]) ∧
    PoAt w' (growV V w w') t.pool A' c' ∧ PkAt w' (growV V w w') t.out Ao' co' Ab' cb' ∧ Below w.heap.size w w'
def AwakeC : Prop := ∀ w, Calls Try.prog 6 #[] w fun e w' => e = .returned (.bool true) ∧ Below w.heap.size w w'

theorem heldR_short : ∀ (rs : List Rn), rs.all dataS = true → heldR rs ≤ rs.length * 2000
  | [], _ => by simp [heldR]
  | r :: t, h => by
    rw [List.all_cons, Bool.and_eq_true] at h
    have h1 : r.data.length ≤ 2000 := by simpa [dataS] using h.1
    have h2 := heldR_short t h.2
    simp only [heldR, List.length_cons]
    omega
theorem heldL_short : ∀ (bs : List Bf), bs.all shortB = true → heldL bs ≤ bs.length * 80000
  | [], _ => by simp [heldL]
  | b :: t, h => by
    rw [List.all_cons, Bool.and_eq_true] at h
    have h1 := h.1
    unfold shortB at h1
    simp only [Bool.and_eq_true, decide_eq_true_eq] at h1
    have h2 := heldL_short t h.2
    have h3 := heldR_short b.runs h1.2.2.2
    have h4 := h1.1
    simp only [heldL, List.length_cons]
    omega
theorem short_few {p : Po} (h : shortP p = true) : FewP p := by
  unfold shortP at h
  simp only [Bool.and_eq_true, decide_eq_true_eq] at h
  have := heldL_short p.list h.2
  have h1 := h.1
  unfold FewP heldP
  omega
theorem right_few {p : Po} (h : RightP p) : FewP p := by
  have h1 := h.r1
  have h2 := h.fits
  unfold FewP
  omega
end Go.Proofs.Ythejakbjekjhjaa

/- Structs of many cells, by value: a load, a store into the block that was made last, as laws of the walk (cell by cell the kernel runs out of memory at nineteen). No condition. -/
namespace Go.Proofs.Ythejakbjekjhjaa
open Go.ChangeShapes Go.WideShapes Go.ChangeAt Go.RowKit
set_option linter.unusedVariables false

section
variable {P : Program}
theorem run_loadVar_at (w : World) (ad : Addr) (ty : TypeId) (cs : List Value) (d : TypeDesc) (hc : ∀ j v, cs[j]? = some v → w.cell? (ad.add j) = some v)
    (hu : P.underlying ty = some d) (hd : d.isRow = true) (hi : (P.info? ty).map (·.size) = some cs.length) :
    (loadVar ty ad).run P w = .ok (.agg cs.toArray) w := by
  have hl : (loadCells ad cs.length).run P w = .ok cs.toArray w := run_loadCells_list (P := P) w ad cs hc
  cases hq : P.info? ty with
  | none => simp [hq] at hi
  | some i =>
    have hs : i.size = cs.length := by simpa [hq] using hi
    have hagg : (isAgg ty).run P w = .ok true w := by
      unfold isAgg
      rw [Sem.run_bind, run_underlying hu w]
      cases d <;> simp_all
    simp [loadVar, Sem.run_bind, hagg, sizeOf, typeInfo, hq, hs, hl]
theorem wpList_load_at {ops : Array Oper} {rest : List Oper} {op : Oper} {a : Act} {w : World} {Q : Exit → Act → World → Prop} (hgd : Region.wanted op (yielded ops a.tmps) = true) (ty : TypeId) (x : Operand) (ho : op.op = .load ty x)
    (ad : Addr) (hx : a.eval x = .pointer (some ad)) (cs : List Value) (d : TypeDesc) (hc : ∀ j v, cs[j]? = some v → w.cell? (ad.add j) = some v)
    (hu : P.underlying ty = some d) (hd : d.isRow = true) (hi : (P.info? ty).map (·.size) = some cs.length)
    (h : wpList P ops Q rest (a.put op.dst (.agg cs.toArray)) w) : wpList P ops Q (op :: rest) a w :=
  BigFrame.wpList_want hgd fun _ hK => by
    unfold Oper.wp execOp
    simp only [ho, hx, Instr.loadAt, Instr.sureAddr, Sem.run_bind, Sem.run_pure, Result.andThen_ok, run_loadVar_at w ad ty cs d hc hu hd hi]
    exact hK _ _ h
theorem yieldsIf_load_at {ops : Array Oper} {S : World → Prop} {op : Oper} {a : Act} (hw : Region.wanted op (yielded ops a.tmps) = true) (ty : TypeId) (x : Operand) (ho : op.op = .load ty x)
    (ad : Addr) (hx : a.eval x = .pointer (some ad)) (cs : List Value) (d : TypeDesc) (hS : ∀ w, S w → ∀ j v, cs[j]? = some v → w.cell? (ad.add j) = some v)
    (hu : P.underlying ty = some d) (hd : d.isRow = true) (hi : (P.info? ty).map (·.size) = some cs.length) : YieldsIf P ops S op (.agg cs.toArray) a :=
  .inl ⟨hw, fun w hw' => by
    unfold execOp
    simp only [ho, hx, Instr.loadAt, Instr.sureAddr, Sem.run_bind, Sem.run_pure, Result.andThen_ok, run_loadVar_at w ad ty cs d (hS w hw') hu hd hi]⟩
theorem wpList_store_new {ops : Array Oper} {rest : List Oper} {op : Oper} {a : Act} {w : World} {Q : Exit → Act → World → Prop} (hgd : Region.wanted op (yielded ops a.tmps) = true) (ty : TypeId) (x y : Operand) (ho : op.op = .store ty x y)
    (c c' : Array Value) (hx : a.eval x = .pointer (some ⟨w.heap.size, 0, none⟩)) (hy : a.eval y = .agg c')
    (hi : (P.info? ty).map (·.size) = some c'.size) (hs : c.size = c'.size) (h1 : c'.all (·.oneCell') = true)
    (h : wpList P ops Q rest (a.put op.dst undef) (w.alloc (.cells c' ty))) : wpList P ops Q (op :: rest) a (w.alloc (.cells c ty)) :=
  BigFrame.wpList_want hgd fun _ hK => by
    unfold Oper.wp execOp
    simp only [ho, hx, hy, Instr.storeAt, Instr.sureAddr, Sem.run_bind, Sem.run_pure, Result.andThen_ok, run_storeVar_new (P := P) w ty c c' hi hs h1]
    exact hK _ _ h
end
/-- a block of a struct's own, known whole. -/
def Bxo (w : World) (g : Nat) (ty : TypeId) (cs : List Value) : Prop := w.heap[g]? = some (.cells cs.toArray ty (0, 0))
/-- one block has turned, and nothing else. -/
structure Only (g : Nat) (w w' : World) : Prop where
  os : w'.os = w.os
  tape : w'.tape = w.tape
  output : w'.output = w.output
  size : w'.heap.size = w.heap.size
  block : ∀ k, k ≠ g → w'.heap[k]? = w.heap[k]?
section
variable {w w' w'' : World} {g g' B : Nat} {ty : TypeId} {cs : List Value}
theorem Bxo.lt (h : Bxo w g ty cs) : g < w.heap.size := (Array.getElem?_eq_some_iff.1 h).1
theorem Bxo.made (w : World) (ty : TypeId) (cs : List Value) : Bxo (w.alloc (.cells cs.toArray ty)) w.heap.size ty cs := heap_alloc_new w _
theorem Bxo.keep (h : Bxo w g ty cs) (hb : Below B w w') (hg : g < B) : Bxo w' g ty cs := (hb.block g hg).trans h
theorem Bxo.cell (h : Bxo w g ty cs) (j : Nat) {v : Value} (hj : cs[j]? = some v) : w.cell? ⟨g, j, none⟩ = some v := by
  rw [cell_of_row w g j _ ty _ h]; simpa using hj
theorem Bxo.at (h : Bxo w g ty cs) : ∀ j v, cs[j]? = some v → w.cell? ((⟨g, 0, none⟩ : Addr).add j) = some v := fun j v hj => by
  rw [Addr.add_mid, Nat.zero_add]; exact h.cell j hj
theorem Bxo.frozen (h : Bxo w g ty cs) (j : Nat) : w.frozen? ⟨g, j, none⟩ = false := frozen_of_row w g j _ ty h
theorem Bxo.drew (h : Bxo w g ty cs) : Bxo w.drew g ty cs := h
theorem Bxo.alloc (h : Bxo w g ty cs) (o : Obj) : Bxo (w.alloc o) g ty cs := (Below.heap_alloc w o g h.lt).trans h
theorem Bxo.set (h : Bxo w g ty cs) (j : Nat) (v : Value) : Bxo (w.setCell ⟨g, j, none⟩ v) g ty (cs.set j v) := by
  have := heap_setCell_same w g j cs.toArray ty v h
  rw [List.setIfInBounds_toArray] at this
  exact this
theorem Bxo.other (h : Bxo w g ty cs) {a : Addr} (ha : g ≠ a.block) (v : Value) : Bxo (w.setCell a v) g ty cs := (heap_setCell_other w a g v ha).trans h
theorem Bxo.only (h : Bxo w g ty cs) (ho : Only g' w w') (hg : g ≠ g') : Bxo w' g ty cs := (ho.block g hg).trans h
theorem Only.refl : Only g w w := ⟨rfl, rfl, rfl, rfl, fun _ _ => rfl⟩
theorem Only.trans (h : Only g w w') (h' : Only g w' w'') : Only g w w'' := ⟨h'.os.trans h.os, h'.tape.trans h.tape, h'.output.trans h.output, h'.size.trans h.size, fun k hk => (h'.block k hk).trans (h.block k hk)⟩
theorem Only.below (h : Only g w w') (hB : B ≤ g) : Below B w w' := ⟨h.os, h.tape, h.output, Nat.le_of_eq h.size.symm, fun k hk => h.block k (by omega)⟩
theorem Only.drew (h : Only g w w') : Only g w w'.drew := ⟨h.os, h.tape, h.output, h.size, h.block⟩
theorem Only.set (h : Only g w w') (j : Nat) (v : Value) : Only g w (w'.setCell ⟨g, j, none⟩ v) := ⟨h.os, h.tape, h.output, by rw [← h.size]; simp, fun k hk => (heap_setCell_other w' ⟨g, j, none⟩ k v hk).trans (h.block k hk)⟩
end
/-- cells from a place on, replaced. -/
def spl : List Value → Nat → List Value → List Value
  | cs, _, [] => cs
  | cs, o, v :: r => spl (cs.set o v) (o + 1) r
theorem spl_length : ∀ (vs : List Value) (cs : List Value) (o : Nat), (spl cs o vs).length = cs.length
  | [], _, _ => rfl
  | v :: r, cs, o => by rw [spl, spl_length r]; simp
theorem Bxo.setCells {g : Nat} {ty : TypeId} : ∀ (vs : List Value) (o : Nat) (cs : List Value) (w : World), Bxo w g ty cs → Bxo (w.setCells g o vs) g ty (spl cs o vs) ∧ Only g w (w.setCells g o vs)
  | [], _, _, _, h => ⟨h, Only.refl⟩
  | v :: r, o, cs, w, h => by
    have := Bxo.setCells r (o + 1) (cs.set o v) _ (h.set o v)
    exact ⟨this.1, (Only.refl.set o v).trans this.2⟩
section
variable {P : Program}
/-- the walk's load of a whole block; its store; a store of several cells in the middle. -/
theorem wpList_load_box {ops : Array Oper} {rest : List Oper} {op : Oper} {a : Act} {w : World} {Q : Exit → Act → World → Prop} (hgd : Region.wanted op (yielded ops a.tmps) = true) (ty : TypeId) (x : Operand) (ho : op.op = .load ty x)
    (g : Nat) (hx : a.eval x = .pointer (some ⟨g, 0, none⟩)) (cs : List Value) (d : TypeDesc) (hc : Bxo w g ty cs)
    (hu : P.underlying ty = some d) (hd : d.isRow = true) (hi : (P.info? ty).map (·.size) = some cs.length)
    (h : wpList P ops Q rest (a.put op.dst (.agg cs.toArray)) w) : wpList P ops Q (op :: rest) a w :=
  wpList_load_at hgd ty x ho _ hx cs d hc.at hu hd hi h
theorem run_storeVar_box (w : World) (g o : Nat) (ty sty : TypeId) (cs vs : List Value) (hc : Bxo w g ty cs) (hi : (P.info? sty).map (·.size) = some vs.length) (ho : o + vs.length ≤ cs.length) (h1 : vs.toArray.all (·.oneCell') = true) :
    (storeVar sty ⟨g, o, none⟩ (.agg vs.toArray)).run P w = .ok () (w.setCells g o vs) :=
  run_storeVar_mid w g o sty vs.toArray (fun j hj => ⟨by rw [hc.cell (o + j) (List.getElem?_eq_getElem (Nat.lt_of_lt_of_le (Nat.add_lt_add_left (show j < vs.length from by simpa using hj) o) ho))]; rfl, hc.frozen _⟩) (by simpa using hi) h1
theorem wpList_store_box {ops : Array Oper} {rest : List Oper} {op : Oper} {a : Act} {w : World} {Q : Exit → Act → World → Prop} (hgd : Region.wanted op (yielded ops a.tmps) = true) (sty : TypeId) (x y : Operand) (ho : op.op = .store sty x y)
    (g o : Nat) (ty : TypeId) (cs vs : List Value) (hx : a.eval x = .pointer (some ⟨g, o, none⟩)) (hy : a.eval y = .agg vs.toArray) (hc : Bxo w g ty cs)
    (hi : (P.info? sty).map (·.size) = some vs.length) (hs : o + vs.length ≤ cs.length) (h1 : vs.toArray.all (·.oneCell') = true)
    (h : ∀ w', Bxo w' g ty (spl cs o vs) → Only g w w' → wpList P ops Q rest (a.put op.dst undef) w') : wpList P ops Q (op :: rest) a w :=
  BigFrame.wpList_want hgd fun _ hK => by
    unfold Oper.wp execOp
    simp only [ho, hx, hy, Instr.storeAt, Instr.sureAddr, Sem.run_bind, Sem.run_pure, Result.andThen_ok, run_storeVar_box w g o ty sty cs vs hc hi hs h1]
    obtain ⟨h2, h3⟩ := Bxo.setCells vs o cs w hc
    exact hK _ _ (h _ h2 h3)
/-- .. of a region that draws: one step of it. -/
theorem step_store_box {op : Oper} {a : Act} {w : World} {K : Act → World → Prop} {Q : Exit → Act → World → Prop} (sty : TypeId) (x y : Operand) (ho : op.op = .store sty x y)
    (g o : Nat) (ty : TypeId) (cs vs : List Value) (hx : a.eval x = .pointer (some ⟨g, o, none⟩)) (hy : a.eval y = .agg vs.toArray) (hc : Bxo w g ty cs)
    (hi : (P.info? sty).map (·.size) = some vs.length) (hs : o + vs.length ≤ cs.length) (h1 : vs.toArray.all (·.oneCell') = true)
    (h : ∀ w', Bxo w' g ty (spl cs o vs) → Only g w w' → K (a.put op.dst undef) w') : op.wp P a w K Q := by
  unfold Oper.wp execOp
  simp only [ho, hx, hy, Instr.storeAt, Instr.sureAddr, Sem.run_bind, Sem.run_pure, Result.andThen_ok, run_storeVar_box w g o ty sty cs vs hc hi hs h1]
  obtain ⟨h2, h3⟩ := Bxo.setCells vs o cs w hc
  exact h _ h2 h3
end
end Go.Proofs.Ythejakbjekjhjaa

/- Structs of many cells: stores of whatever value, as steps; loads out of the middle. No condition. -/
namespace Go.Proofs.Ythejakbjekjhjaa
open Go.ChangeShapes Go.WideShapes Go.ChangeAt Go.RowKit
set_option linter.unusedVariables false

section
variable {P : Program}
theorem run_storeVar_any (w : World) (g o : Nat) (ty sty : TypeId) (cs vs : List Value) (v : Value) (hv : v.cells = vs.toArray) (hc : Bxo w g ty cs) (hi : (P.info? sty).map (·.size) = some vs.length) (ho : o + vs.length ≤ cs.length) (h1 : ∀ u ∈ vs, u.oneCell' = true) :
    (storeVar sty ⟨g, o, none⟩ v).run P w = .ok () (w.setCells g o vs) := by
  have := run_storeCells_cells (P := P) g o vs 0 w (fun j hj => by simp only [Nat.add_zero]; rw [hc.cell (o + j) (List.getElem?_eq_getElem (Nat.lt_of_lt_of_le (Nat.add_lt_add_left hj o) ho))]; rfl) (fun j hj => hc.frozen _) h1
  cases hq : P.info? sty with
  | none => simp [hq] at hi
  | some i =>
    have hs : vs.length = i.size := by simp [hq] at hi; omega
    simp only [Nat.add_zero] at this
    simp [storeVar, sizeOf, typeInfo, hq, hv, hs, this]
theorem wpList_store_any {ops : Array Oper} {rest : List Oper} {op : Oper} {a : Act} {w : World} {Q : Exit → Act → World → Prop} (hgd : Region.wanted op (yielded ops a.tmps) = true) (sty : TypeId) (x y : Operand) (ho : op.op = .store sty x y)
    (g o : Nat) (ty : TypeId) (cs vs : List Value) (v : Value) (hx : a.eval x = .pointer (some ⟨g, o, none⟩)) (hy : a.eval y = v) (hv : v.cells = vs.toArray) (hc : Bxo w g ty cs)
    (hi : (P.info? sty).map (·.size) = some vs.length) (hs : o + vs.length ≤ cs.length) (h1 : ∀ u ∈ vs, u.oneCell' = true)
    (h : ∀ w', Bxo w' g ty (spl cs o vs) → Only g w w' → wpList P ops Q rest (a.put op.dst undef) w') : wpList P ops Q (op :: rest) a w :=
  BigFrame.wpList_want hgd fun _ hK => by
    unfold Oper.wp execOp
    simp only [ho, hx, hy, Instr.storeAt, Instr.sureAddr, Sem.run_bind, Sem.run_pure, Result.andThen_ok, run_storeVar_any w g o ty sty cs vs v hv hc hi hs h1]
    obtain ⟨h2, h3⟩ := Bxo.setCells vs o cs w hc
    exact hK _ _ (h _ h2 h3)
theorem step_store_any {op : Oper} {a : Act} {w : World} {K : Act → World → Prop} {Q : Exit → Act → World → Prop} (sty : TypeId) (x y : Operand) (ho : op.op = .store sty x y)
    (g o : Nat) (ty : TypeId) (cs vs : List Value) (v : Value) (hx : a.eval x = .pointer (some ⟨g, o, none⟩)) (hy : a.eval y = v) (hv : v.cells = vs.toArray) (hc : Bxo w g ty cs)
    (hi : (P.info? sty).map (·.size) = some vs.length) (hs : o + vs.length ≤ cs.length) (h1 : ∀ u ∈ vs, u.oneCell' = true)
    (h : ∀ w', Bxo w' g ty (spl cs o vs) → Only g w w' → K (a.put op.dst undef) w') : op.wp P a w K Q := by
  unfold Oper.wp execOp
  simp only [ho, hx, hy, Instr.storeAt, Instr.sureAddr, Sem.run_bind, Sem.run_pure, Result.andThen_ok, run_storeVar_any w g o ty sty cs vs v hv hc hi hs h1]
  obtain ⟨h2, h3⟩ := Bxo.setCells vs o cs w hc
  exact h _ h2 h3
theorem Bxo.mid {w : World} {g : Nat} {ty : TypeId} {cs : List Value} (h : Bxo w g ty cs) (o : Nat) (vs : List Value) (hs : ∀ j v, vs[j]? = some v → cs[o + j]? = some v) : ∀ j v, vs[j]? = some v → w.cell? ((⟨g, o, none⟩ : Addr).add j) = some v := fun j v hj => by
  rw [Addr.add_mid]; exact h.cell _ (hs j v hj)
theorem sub_get {cs vs : List Value} {o : Nat} (h : (cs.drop o).take vs.length = vs) : ∀ j v, vs[j]? = some v → cs[o + j]? = some v := fun j v hj => by
  rw [← List.getElem?_drop]
  have hl := (List.getElem?_eq_some_iff.1 hj).1
  rw [← h, List.getElem?_take, if_pos hl] at hj
  exact hj
theorem step_load_at {op : Oper} {a : Act} {w : World} {K : Act → World → Prop} {Q : Exit → Act → World → Prop} (ty : TypeId) (x : Operand) (ho : op.op = .load ty x)
    (ad : Addr) (hx : a.eval x = .pointer (some ad)) (cs : List Value) (d : TypeDesc) (hc : ∀ j v, cs[j]? = some v → w.cell? (ad.add j) = some v)
    (hu : P.underlying ty = some d) (hd : d.isRow = true) (hi : (P.info? ty).map (·.size) = some cs.length)
    (h : K (a.put op.dst (.agg cs.toArray)) w) : op.wp P a w K Q := by
  unfold Oper.wp execOp
  simp only [ho, hx, Instr.loadAt, Instr.sureAddr, Sem.run_bind, Sem.run_pure, Result.andThen_ok, run_loadVar_at w ad ty cs d hc hu hd hi]
  exact h
end
end Go.Proofs.Ythejakbjekjhjaa

/- Results out of blocks: two structs and two plain ones; a struct and two plain ones. No condition. -/
namespace Go.Proofs.Ythejakbjekjhjaa
open Go.ChangeShapes Go.WideShapes Go.ChangeAt Go.RowKit
set_option linter.unusedVariables false

section
variable {P : Program}
theorem results_cctt {fn : Func} {p q u v : Tmp} {t1 t2 : TypeId} (h : fn.results = #[.cell p t1, .cell q t2, .tmp u, .tmp v]) (tmps : Array Value) (w : World) (g1 g2 : Nat) (c1 c2 : List Value) (d1 d2 : TypeDesc)
    (hp : tmps.getD p undef = .pointer (some ⟨g1, 0, none⟩)) (hq : tmps.getD q undef = .pointer (some ⟨g2, 0, none⟩)) (h1 : Bxo w g1 t1 c1) (h2 : Bxo w g2 t2 c2)
    (u1 : P.underlying t1 = some d1) (r1 : (match d1 with | .struct _ | .array _ _ => true | _ => false) = true) (i1 : (P.info? t1).map (·.size) = some c1.length)
    (u2 : P.underlying t2 = some d2) (r2 : (match d2 with | .struct _ | .array _ _ => true | _ => false) = true) (i2 : (P.info? t2).map (·.size) = some c2.length) :
    (results fn tmps).run P w = .ok (.tuple #[.agg c1.toArray, .agg c2.toArray, tmps.getD u undef, tmps.getD v undef]) w := by
  have hp' : tmps[p]?.getD undef = .pointer (some ⟨g1, 0, none⟩) := by simpa using hp
  have hq' : tmps[q]?.getD undef = .pointer (some ⟨g2, 0, none⟩) := by simpa using hq
  have e1 := run_loadVar_row (P := P) w g1 t1 t1 c1.toArray (0, 0) d1 h1 u1 r1 (by simpa using i1)
  have e2 := run_loadVar_row (P := P) w g2 t2 t2 c2.toArray (0, 0) d2 h2 u2 r2 (by simpa using i2)
  simp [results, h, hp', hq', asAddr, e1, e2]
theorem results_ctt {fn : Func} {p u v : Tmp} {t1 : TypeId} (h : fn.results = #[.cell p t1, .tmp u, .tmp v]) (tmps : Array Value) (w : World) (g1 : Nat) (c1 : List Value) (d1 : TypeDesc)
    (hp : tmps.getD p undef = .pointer (some ⟨g1, 0, none⟩)) (h1 : Bxo w g1 t1 c1)
    (u1 : P.underlying t1 = some d1) (r1 : (match d1 with | .struct _ | .array _ _ => true | _ => false) = true) (i1 : (P.info? t1).map (·.size) = some c1.length) :
    (results fn tmps).run P w = .ok (.tuple #[.agg c1.toArray, tmps.getD u undef, tmps.getD v undef]) w := by
  have hp' : tmps[p]?.getD undef = .pointer (some ⟨g1, 0, none⟩) := by simpa using hp
  have e1 := run_loadVar_row (P := P) w g1 t1 t1 c1.toArray (0, 0) d1 h1 u1 r1 (by simpa using i1)
  simp [results, h, hp', asAddr, e1]
end
end Go.Proofs.Ythejakbjekjhjaa

/- Packets that are put together, runs, names: as values; their cells, read at once. -/
namespace Go.Proofs.Ythejakbjekjhjaa
open Go.ChangeShapes Go.WideShapes Go.ChangeAt Go.RowKit
set_option linter.unusedVariables false

/-- a packet that is put together, as a value. -/
abbrev bfV (b : Bf) (Ao : Option Addr) (co : Nat) (Ab : Option Addr) (cb : Nat) (Ar : Option Addr) (cr : Nat) : Value :=
  .agg #[.int .u32 b.src, .int .u32 b.dst, .int .i64 b.id, .int .i64 b.proto, .int .i64 b.born, .int .i64 b.head.tos, .int .i64 b.head.id, .bool b.head.df, .bool b.head.mf, .int .i64 b.head.off, .int .i64 b.head.ttl, .int .i64 b.head.proto, .int .u32 b.head.src, .int .u32 b.head.dst, .slice Ao b.head.opts.length co, .slice Ab b.head.body.length cb, .bool b.first, .int .i64 b.total, .slice Ar b.runs.length cr]
abbrev bfO (b : Bf) (Ao : Option Addr) (co : Nat) (Ab : Option Addr) (cb : Nat) (Ar : Option Addr) (cr : Nat) : Obj :=
  .cells #[.int .u32 b.src, .int .u32 b.dst, .int .i64 b.id, .int .i64 b.proto, .int .i64 b.born, .int .i64 b.head.tos, .int .i64 b.head.id, .bool b.head.df, .bool b.head.mf, .int .i64 b.head.off, .int .i64 b.head.ttl, .int .i64 b.head.proto, .int .u32 b.head.src, .int .u32 b.head.dst, .slice Ao b.head.opts.length co, .slice Ab b.head.body.length cb, .bool b.first, .int .i64 b.total, .slice Ar b.runs.length cr] 42
/-- what it names, in these blocks. -/
structure BfAt (w : World) (V : Nat → Prop) (b : Bf) (Ao : Option Addr) (co : Nat) (Ab : Option Addr) (cb : Nat) (Ar : Option Addr) (cr : Nat) : Prop where
  s0 : 0 ≤ b.src
  s1 : b.src ≤ 4294967295
  d0 : 0 ≤ b.dst
  d1 : b.dst ≤ 4294967295
  hs0 : 0 ≤ b.head.src
  hs1 : b.head.src ≤ 4294967295
  hd0 : 0 ≤ b.head.dst
  hd1 : b.head.dst ≤ 4294967295
  o : ByIn w V Ao co b.head.opts
  bo : ByIn w V Ab cb b.head.body
  rlen : b.runs.length ≤ cr
  rcap : cr ≤ 9223372036854775807
  rnil : Ar = none → cr = 0
  runs : Rs w V Ar b.runs
  lt : ∀ b, V b → b < w.heap.size
section
variable {w w' : World} {V V' : Nat → Prop} {b : Bf} {Ao : Option Addr} {co : Nat} {Ab : Option Addr} {cb : Nat} {Ar : Option Addr} {cr : Nat}
theorem BfAt.at (h : BfAt w V b Ao co Ab cb Ar cr) (hb : Below w.heap.size w w') : BfAt w' V b Ao co Ab cb Ar cr :=
  have k := KeepV.of hb h.lt
  ⟨h.s0, h.s1, h.d0, h.d1, h.hs0, h.hs1, h.hd0, h.hd1, h.o.keep k, h.bo.keep k, h.rlen, h.rcap, h.rnil, h.runs.keep k, fun b hv => Nat.lt_of_lt_of_le (h.lt b hv) hb.size⟩
theorem BfCells.bf {ad : Addr} {k : Nat} (h : BfCells w V ad k b Ao co Ab cb Ar cr) (lt : ∀ b, V b → b < w.heap.size) : BfAt w V b Ao co Ab cb Ar cr :=
  ⟨h.s0, h.s1, h.d0, h.d1, h.head.s0, h.head.s1, h.head.d0, h.head.d1, h.head.o, h.head.b, h.rlen, h.rcap, h.rnil, h.runs, lt⟩
/-- all nineteen cells, as a walk names them. -/
structure Nine (w : World) (ad : Addr) (b : Bf) (Ao : Option Addr) (co : Nat) (Ab : Option Addr) (cb : Nat) (Ar : Option Addr) (cr : Nat) : Prop where
  c0 : w.cell? ad = some (.int .u32 b.src)
  c1 : w.cell? { block := ad.block, off := ad.off + 1 } = some (.int .u32 b.dst)
  c2 : w.cell? { block := ad.block, off := ad.off + 2 } = some (.int .i64 b.id)
  c3 : w.cell? { block := ad.block, off := ad.off + 3 } = some (.int .i64 b.proto)
  c4 : w.cell? { block := ad.block, off := ad.off + 4 } = some (.int .i64 b.born)
  c5 : w.cell? { block := ad.block, off := ad.off + 5 } = some (.int .i64 b.head.tos)
  c6 : w.cell? { block := ad.block, off := ad.off + 6 } = some (.int .i64 b.head.id)
  c7 : w.cell? { block := ad.block, off := ad.off + 7 } = some (.bool b.head.df)
  c8 : w.cell? { block := ad.block, off := ad.off + 8 } = some (.bool b.head.mf)
  c9 : w.cell? { block := ad.block, off := ad.off + 9 } = some (.int .i64 b.head.off)
  c10 : w.cell? { block := ad.block, off := ad.off + 10 } = some (.int .i64 b.head.ttl)
  c11 : w.cell? { block := ad.block, off := ad.off + 11 } = some (.int .i64 b.head.proto)
  c12 : w.cell? { block := ad.block, off := ad.off + 12 } = some (.int .u32 b.head.src)
  c13 : w.cell? { block := ad.block, off := ad.off + 13 } = some (.int .u32 b.head.dst)
  c14 : w.cell? { block := ad.block, off := ad.off + 14 } = some (.slice Ao b.head.opts.length co)
  c15 : w.cell? { block := ad.block, off := ad.off + 15 } = some (.slice Ab b.head.body.length cb)
  c16 : w.cell? { block := ad.block, off := ad.off + 16 } = some (.bool b.first)
  c17 : w.cell? { block := ad.block, off := ad.off + 17 } = some (.int .i64 b.total)
  c18 : w.cell? { block := ad.block, off := ad.off + 18 } = some (.slice Ar b.runs.length cr)
theorem BfCells.nine {ad : Addr} {k : Nat} (h : BfCells w V ad k b Ao co Ab cb Ar cr) : Nine w (ad.add k) b Ao co Ab cb Ar cr :=
  ⟨h.c0, at_off 1 h.c1 (by omega), at_off 2 h.c2 (by omega), at_off 3 h.c3 (by omega), at_off 4 h.c4 (by omega), at_off 5 h.head.c0 (by omega), at_off 6 h.head.c1 (by omega), at_off 7 h.head.c2 (by omega), at_off 8 h.head.c3 (by omega), at_off 9 h.head.c4 (by omega), at_off 10 h.head.c5 (by omega), at_off 11 h.head.c6 (by omega), at_off 12 h.head.c7 (by omega), at_off 13 h.head.c8 (by omega), at_off 14 h.head.c9 (by omega), at_off 15 h.head.c10 (by omega), at_off 16 h.c16 (by omega), at_off 17 h.c17 (by omega), at_off 18 h.c18 (by omega)⟩
end
/-- .. as a list of cells. -/
abbrev bfL (b : Bf) (Ao : Option Addr) (co : Nat) (Ab : Option Addr) (cb : Nat) (Ar : Option Addr) (cr : Nat) : List Value :=
  [.int .u32 b.src, .int .u32 b.dst, .int .i64 b.id, .int .i64 b.proto, .int .i64 b.born, .int .i64 b.head.tos, .int .i64 b.head.id, .bool b.head.df, .bool b.head.mf, .int .i64 b.head.off, .int .i64 b.head.ttl, .int .i64 b.head.proto, .int .u32 b.head.src, .int .u32 b.head.dst, .slice Ao b.head.opts.length co, .slice Ab b.head.body.length cb, .bool b.first, .int .i64 b.total, .slice Ar b.runs.length cr]
theorem add_add (ad : Addr) (k j : Nat) : (ad.add k).add j = ad.add (k + j) := by
  by_cases h : j = 0
  · subst h; simp [Addr.add]
  · rw [add_at ad k j (by omega)]; unfold Addr.add; simp [h]
theorem list_cells {w : World} {ad : Addr} {cs : List Value} (h : ∀ j (hj : j < cs.length), w.cell? (ad.add j) = some cs[j]) : ∀ j v, cs[j]? = some v → w.cell? (ad.add j) = some v := fun j v hv => by
  obtain ⟨hj, rfl⟩ := List.getElem?_eq_some_iff.1 hv
  exact h j hj
theorem BfCells.all {w : World} {V : Nat → Prop} {b : Bf} {Ao : Option Addr} {co : Nat} {Ab : Option Addr} {cb : Nat} {Ar : Option Addr} {cr : Nat} {ad : Addr} {k : Nat} (h : BfCells w V ad k b Ao co Ab cb Ar cr) : ∀ j v, (bfL b Ao co Ab cb Ar cr)[j]? = some v → w.cell? ((ad.add k).add j) = some v := by
  refine list_cells fun j hj => ?_
  rw [add_add]
  match j, hj with
  | 0, _ => exact h.c0
  | 1, _ => exact h.c1
  | 2, _ => exact h.c2
  | 3, _ => exact h.c3
  | 4, _ => exact h.c4
  | 5, _ => exact h.head.c0
  | 6, _ => exact h.head.c1
  | 7, _ => exact h.head.c2
  | 8, _ => exact h.head.c3
  | 9, _ => exact h.head.c4
  | 10, _ => exact h.head.c5
  | 11, _ => exact h.head.c6
  | 12, _ => exact h.head.c7
  | 13, _ => exact h.head.c8
  | 14, _ => exact h.head.c9
  | 15, _ => exact h.head.c10
  | 16, _ => exact h.c16
  | 17, _ => exact h.c17
  | 18, _ => exact h.c18
  | n + 19, hj => exact absurd hj (by simp)
theorem info_bf : (Try.prog.info? 42).map (·.size) = some 19 := by kernel_rfl
theorem bf_one (b : Bf) (Ao : Option Addr) (co : Nat) (Ab : Option Addr) (cb : Nat) (Ar : Option Addr) (cr : Nat) : (bfL b Ao co Ab cb Ar cr).toArray.all (·.oneCell') = true := all_oneCell_toArray (by simp [Value.oneCell'])
/-- the walk's load of one, and its store into the block that was made last. -/
theorem wpList_load_bf {ops : Array Oper} {rest : List Oper} {op : Oper} {a : Act} {w : World} {Q : Exit → Act → World → Prop} (hgd : Region.wanted op (yielded ops a.tmps) = true) (x : Operand) (ho : op.op = .load 42 x)
    (ad : Addr) (hx : a.eval x = .pointer (some ad)) (b : Bf) (Ao : Option Addr) (co : Nat) (Ab : Option Addr) (cb : Nat) (Ar : Option Addr) (cr : Nat) (hc : ∀ j v, (bfL b Ao co Ab cb Ar cr)[j]? = some v → w.cell? (ad.add j) = some v)
    (h : wpList Try.prog ops Q rest (a.put op.dst (bfV b Ao co Ab cb Ar cr)) w) : wpList Try.prog ops Q (op :: rest) a w :=
  wpList_load_at hgd _ x ho ad hx _ _ hc Try.underlying42 rfl info_bf h
theorem yieldsIf_bf {ops : Array Oper} {S : World → Prop} {op : Oper} {a : Act} (hw : Region.wanted op (yielded ops a.tmps) = true) (x : Operand) (ho : op.op = .load 42 x)
    (ad : Addr) (hx : a.eval x = .pointer (some ad)) (b : Bf) (Ao : Option Addr) (co : Nat) (Ab : Option Addr) (cb : Nat) (Ar : Option Addr) (cr : Nat) (hS : ∀ w, S w → ∀ j v, (bfL b Ao co Ab cb Ar cr)[j]? = some v → w.cell? (ad.add j) = some v) : YieldsIf Try.prog ops S op (bfV b Ao co Ab cb Ar cr) a :=
  yieldsIf_load_at hw _ x ho ad hx _ _ hS Try.underlying42 rfl info_bf
theorem wpList_store_bf {ops : Array Oper} {rest : List Oper} {op : Oper} {a : Act} {w : World} {Q : Exit → Act → World → Prop} (hgd : Region.wanted op (yielded ops a.tmps) = true) (x y : Operand) (ho : op.op = .store 42 x y)
    (c : Array Value) (hx : a.eval x = .pointer (some ⟨w.heap.size, 0, none⟩)) (b : Bf) (Ao : Option Addr) (co : Nat) (Ab : Option Addr) (cb : Nat) (Ar : Option Addr) (cr : Nat) (hy : a.eval y = bfV b Ao co Ab cb Ar cr) (hs : c.size = 19)
    (h : wpList Try.prog ops Q rest (a.put op.dst undef) (w.alloc (bfO b Ao co Ab cb Ar cr))) : wpList Try.prog ops Q (op :: rest) a (w.alloc (.cells c 42)) :=
  wpList_store_new hgd _ x y ho c _ hx hy info_bf hs (bf_one b Ao co Ab cb Ar cr) h
abbrev poL (p : Po) (A : Option Addr) (c : Nat) : List Value := [.int .i64 p.room, .int .i64 p.life, .int .i64 p.now, .slice A p.list.length c]
theorem info_po : (Try.prog.info? 27).map (·.size) = some 4 := by kernel_rfl
theorem po_one (p : Po) (A : Option Addr) (c : Nat) : (poL p A c).toArray.all (·.oneCell') = true := all_oneCell_toArray (by simp [Value.oneCell'])
/-- a run as a value; a name. -/
abbrev rnV (r : Rn) (Ad : Option Addr) (cd : Nat) : Value := .agg #[.int .i64 r.off, .slice Ad r.data.length cd]
abbrev nmV (n : Int × Int × Int × Int) : Value := .agg #[.int .u32 n.1, .int .u32 n.2.1, .int .i64 n.2.2.1, .int .i64 n.2.2.2]
abbrev pkL (x : Pk) (Ao : Option Addr) (co : Nat) (Ab : Option Addr) (cb : Nat) : List Value :=
  [.int .i64 x.tos, .int .i64 x.id, .bool x.df, .bool x.mf, .int .i64 x.off, .int .i64 x.ttl, .int .i64 x.proto, .int .u32 x.src, .int .u32 x.dst, .slice Ao x.opts.length co, .slice Ab x.body.length cb]
theorem info_pk : (Try.prog.info? 33).map (·.size) = some 11 := by kernel_rfl
theorem pk_one (x : Pk) (Ao : Option Addr) (co : Nat) (Ab : Option Addr) (cb : Nat) : (pkL x Ao co Ab cb).toArray.all (·.oneCell') = true := all_oneCell_toArray (by simp [Value.oneCell'])
theorem yieldsIf_pk {ops : Array Oper} {S : World → Prop} {op : Oper} {a : Act} (hw : Region.wanted op (yielded ops a.tmps) = true) (x : Operand) (ho : op.op = .load 33 x)
    (ad : Addr) (hx : a.eval x = .pointer (some ad)) (b : Pk) (Ao : Option Addr) (co : Nat) (Ab : Option Addr) (cb : Nat) (hS : ∀ w, S w → ∀ j v, (pkL b Ao co Ab cb)[j]? = some v → w.cell? (ad.add j) = some v) : YieldsIf Try.prog ops S op (ipV b Ao co Ab cb) a :=
  yieldsIf_load_at hw _ x ho ad hx _ _ hS Try.underlying33 rfl info_pk
theorem wpList_load_pk {ops : Array Oper} {rest : List Oper} {op : Oper} {a : Act} {w : World} {Q : Exit → Act → World → Prop} (hgd : Region.wanted op (yielded ops a.tmps) = true) (x : Operand) (ho : op.op = .load 33 x)
    (ad : Addr) (hx : a.eval x = .pointer (some ad)) (b : Pk) (Ao : Option Addr) (co : Nat) (Ab : Option Addr) (cb : Nat) (hc : ∀ j v, (pkL b Ao co Ab cb)[j]? = some v → w.cell? (ad.add j) = some v)
    (h : wpList Try.prog ops Q rest (a.put op.dst (ipV b Ao co Ab cb)) w) : wpList Try.prog ops Q (op :: rest) a w :=
  wpList_load_at hgd _ x ho ad hx _ _ hc Try.underlying33 rfl info_pk h
/-- a new block of a value's own. -/
theorem below_alloc {w0 w : World} {B : Nat} (h : Below B w0 w) (hB : B ≤ w.heap.size) (o : Obj) : Below B w0 (w.alloc o) := h.trans ((Below.refl _ _).alloc hB _)
theorem heldR_take (l : List Rn) (k : Nat) (h : k < l.length) : heldR (l.take (k + 1)) = heldR (l.take k) + l[k].data.length := by
  induction l generalizing k with
  | nil => simp at h
  | cons a t ih =>
    cases k with
    | zero => simp [heldR]
    | succ k =>
      simp only [List.take_succ_cons, heldR, List.getElem_cons_succ]
      rw [ih k (by simpa using h)]; omega
theorem heldR_le (l : List Rn) (k : Nat) : heldR (l.take k) ≤ heldR l := by
  induction l generalizing k with
  | nil => simp [heldR]
  | cons a t ih => cases k with
    | zero => simp [heldR]
    | succ k => simp only [List.take_succ_cons, heldR]; have := ih k; omega
theorem heldL_take (l : List Bf) (k : Nat) (h : k < l.length) : heldL (l.take (k + 1)) = heldL (l.take k) + heldR l[k].runs := by
  induction l generalizing k with
  | nil => simp at h
  | cons a t ih =>
    cases k with
    | zero => simp [heldL]
    | succ k =>
      simp only [List.take_succ_cons, heldL, List.getElem_cons_succ]
      rw [ih k (by simpa using h)]; omega
theorem heldL_le (l : List Bf) (k : Nat) : heldL (l.take k) ≤ heldL l := by
  induction l generalizing k with
  | nil => simp [heldL]
  | cons a t ih => cases k with
    | zero => simp [heldL]
    | succ k => simp only [List.take_succ_cons, heldL]; have := ih k; omega
end Go.Proofs.Ythejakbjekjhjaa

/- Structs in blocks of their own: their cells. -/
namespace Go.Proofs.Ythejakbjekjhjaa
open Go.ChangeShapes Go.WideShapes Go.ChangeAt Go.RowKit
set_option linter.unusedVariables false
abbrev oBf (b : Bf) (Ao : Option Addr) (co : Nat) (Ab : Option Addr) (cb : Nat) (Ar : Option Addr) (cr : Nat) : Obj := .cells #[.int .u32 b.src, .int .u32 b.dst, .int .i64 b.id, .int .i64 b.proto, .int .i64 b.born, .int .i64 b.head.tos, .int .i64 b.head.id, .bool b.head.df, .bool b.head.mf, .int .i64 b.head.off, .int .i64 b.head.ttl, .int .i64 b.head.proto, .int .u32 b.head.src, .int .u32 b.head.dst, .slice Ao b.head.opts.length co, .slice Ab b.head.body.length cb, .bool b.first, .int .i64 b.total, .slice Ar b.runs.length cr] 42
def BoBf (w : World) (g : Nat) (b : Bf) (Ao : Option Addr) (co : Nat) (Ab : Option Addr) (cb : Nat) (Ar : Option Addr) (cr : Nat) : Prop := w.cell? ⟨g, 0, none⟩ = some (.int .u32 b.src) ∧ w.cell? ⟨g, 1, none⟩ = some (.int .u32 b.dst) ∧ w.cell? ⟨g, 2, none⟩ = some (.int .i64 b.id) ∧ w.cell? ⟨g, 3, none⟩ = some (.int .i64 b.proto) ∧ w.cell? ⟨g, 4, none⟩ = some (.int .i64 b.born) ∧ w.cell? ⟨g, 5, none⟩ = some (.int .i64 b.head.tos) ∧ w.cell? ⟨g, 6, none⟩ = some (.int .i64 b.head.id) ∧ w.cell? ⟨g, 7, none⟩ = some (.bool b.head.df) ∧ w.cell? ⟨g, 8, none⟩ = some (.bool b.head.mf) ∧ w.cell? ⟨g, 9, none⟩ = some (.int .i64 b.head.off) ∧ w.cell? ⟨g, 10, none⟩ = some (.int .i64 b.head.ttl) ∧ w.cell? ⟨g, 11, none⟩ = some (.int .i64 b.head.proto) ∧ w.cell? ⟨g, 12, none⟩ = some (.int .u32 b.head.src) ∧ w.cell? ⟨g, 13, none⟩ = some (.int .u32 b.head.dst) ∧ w.cell? ⟨g, 14, none⟩ = some (.slice Ao b.head.opts.length co) ∧ w.cell? ⟨g, 15, none⟩ = some (.slice Ab b.head.body.length cb) ∧ w.cell? ⟨g, 16, none⟩ = some (.bool b.first) ∧ w.cell? ⟨g, 17, none⟩ = some (.int .i64 b.total) ∧ w.cell? ⟨g, 18, none⟩ = some (.slice Ar b.runs.length cr)
section
variable {w w' : World} {g B : Nat} {b : Bf} {Ao : Option Addr} {co : Nat} {Ab : Option Addr} {cb : Nat} {Ar : Option Addr} {cr : Nat}
theorem BoBf.cells (h : BoBf w g b Ao co Ab cb Ar cr) : w.cell? ⟨g, 0, none⟩ = some (.int .u32 b.src) ∧ w.cell? ⟨g, 1, none⟩ = some (.int .u32 b.dst) ∧ w.cell? ⟨g, 2, none⟩ = some (.int .i64 b.id) ∧ w.cell? ⟨g, 3, none⟩ = some (.int .i64 b.proto) ∧ w.cell? ⟨g, 4, none⟩ = some (.int .i64 b.born) ∧ w.cell? ⟨g, 5, none⟩ = some (.int .i64 b.head.tos) ∧ w.cell? ⟨g, 6, none⟩ = some (.int .i64 b.head.id) ∧ w.cell? ⟨g, 7, none⟩ = some (.bool b.head.df) ∧ w.cell? ⟨g, 8, none⟩ = some (.bool b.head.mf) ∧ w.cell? ⟨g, 9, none⟩ = some (.int .i64 b.head.off) ∧ w.cell? ⟨g, 10, none⟩ = some (.int .i64 b.head.ttl) ∧ w.cell? ⟨g, 11, none⟩ = some (.int .i64 b.head.proto) ∧ w.cell? ⟨g, 12, none⟩ = some (.int .u32 b.head.src) ∧ w.cell? ⟨g, 13, none⟩ = some (.int .u32 b.head.dst) ∧ w.cell? ⟨g, 14, none⟩ = some (.slice Ao b.head.opts.length co) ∧ w.cell? ⟨g, 15, none⟩ = some (.slice Ab b.head.body.length cb) ∧ w.cell? ⟨g, 16, none⟩ = some (.bool b.first) ∧ w.cell? ⟨g, 17, none⟩ = some (.int .i64 b.total) ∧ w.cell? ⟨g, 18, none⟩ = some (.slice Ar b.runs.length cr) := h
theorem BoBf.keep (h : BoBf w g b Ao co Ab cb Ar cr) (hb : Below B w w') (hlt : g < B) : BoBf w' g b Ao co Ab cb Ar cr := by
  obtain ⟨c0, c1, c2, c3, c4, c5, c6, c7, c8, c9, c10, c11, c12, c13, c14, c15, c16, c17, c18⟩ := h
  exact ⟨(hb.cell (p := ⟨g, 0, none⟩) hlt).trans c0, (hb.cell (p := ⟨g, 1, none⟩) hlt).trans c1, (hb.cell (p := ⟨g, 2, none⟩) hlt).trans c2, (hb.cell (p := ⟨g, 3, none⟩) hlt).trans c3, (hb.cell (p := ⟨g, 4, none⟩) hlt).trans c4, (hb.cell (p := ⟨g, 5, none⟩) hlt).trans c5, (hb.cell (p := ⟨g, 6, none⟩) hlt).trans c6, (hb.cell (p := ⟨g, 7, none⟩) hlt).trans c7, (hb.cell (p := ⟨g, 8, none⟩) hlt).trans c8, (hb.cell (p := ⟨g, 9, none⟩) hlt).trans c9, (hb.cell (p := ⟨g, 10, none⟩) hlt).trans c10, (hb.cell (p := ⟨g, 11, none⟩) hlt).trans c11, (hb.cell (p := ⟨g, 12, none⟩) hlt).trans c12, (hb.cell (p := ⟨g, 13, none⟩) hlt).trans c13, (hb.cell (p := ⟨g, 14, none⟩) hlt).trans c14, (hb.cell (p := ⟨g, 15, none⟩) hlt).trans c15, (hb.cell (p := ⟨g, 16, none⟩) hlt).trans c16, (hb.cell (p := ⟨g, 17, none⟩) hlt).trans c17, (hb.cell (p := ⟨g, 18, none⟩) hlt).trans c18⟩
theorem BoBf.made : BoBf (w.alloc (oBf b Ao co Ab cb Ar cr)) w.heap.size b Ao co Ab cb Ar cr := by
  refine ⟨?_, ?_, ?_, ?_, ?_, ?_, ?_, ?_, ?_, ?_, ?_, ?_, ?_, ?_, ?_, ?_, ?_, ?_, ?_⟩ <;> simp [go_sem]
theorem BoBf.at (h : BoBf w g b Ao co Ab cb Ar cr) : ∀ j v, ([.int .u32 b.src, .int .u32 b.dst, .int .i64 b.id, .int .i64 b.proto, .int .i64 b.born, .int .i64 b.head.tos, .int .i64 b.head.id, .bool b.head.df, .bool b.head.mf, .int .i64 b.head.off, .int .i64 b.head.ttl, .int .i64 b.head.proto, .int .u32 b.head.src, .int .u32 b.head.dst, .slice Ao b.head.opts.length co, .slice Ab b.head.body.length cb, .bool b.first, .int .i64 b.total, .slice Ar b.runs.length cr] : List Value)[j]? = some v → w.cell? ((⟨g, 0, none⟩ : Addr).add j) = some v := by
  obtain ⟨c0, c1, c2, c3, c4, c5, c6, c7, c8, c9, c10, c11, c12, c13, c14, c15, c16, c17, c18⟩ := h
  refine list_cells fun j hj => ?_
  rw [Addr.add_mid, Nat.zero_add]
  match j, hj with
  | 0, _ => exact c0
  | 1, _ => exact c1
  | 2, _ => exact c2
  | 3, _ => exact c3
  | 4, _ => exact c4
  | 5, _ => exact c5
  | 6, _ => exact c6
  | 7, _ => exact c7
  | 8, _ => exact c8
  | 9, _ => exact c9
  | 10, _ => exact c10
  | 11, _ => exact c11
  | 12, _ => exact c12
  | 13, _ => exact c13
  | 14, _ => exact c14
  | 15, _ => exact c15
  | 16, _ => exact c16
  | 17, _ => exact c17
  | 18, _ => exact c18
  | m + 19, hj => exact absurd hj (by simp)
end
abbrev oPk (x : Pk) (Ao : Option Addr) (co : Nat) (Ab : Option Addr) (cb : Nat) : Obj := .cells #[.int .i64 x.tos, .int .i64 x.id, .bool x.df, .bool x.mf, .int .i64 x.off, .int .i64 x.ttl, .int .i64 x.proto, .int .u32 x.src, .int .u32 x.dst, .slice Ao x.opts.length co, .slice Ab x.body.length cb] 33
def BoPk (w : World) (g : Nat) (x : Pk) (Ao : Option Addr) (co : Nat) (Ab : Option Addr) (cb : Nat) : Prop := w.cell? ⟨g, 0, none⟩ = some (.int .i64 x.tos) ∧ w.cell? ⟨g, 1, none⟩ = some (.int .i64 x.id) ∧ w.cell? ⟨g, 2, none⟩ = some (.bool x.df) ∧ w.cell? ⟨g, 3, none⟩ = some (.bool x.mf) ∧ w.cell? ⟨g, 4, none⟩ = some (.int .i64 x.off) ∧ w.cell? ⟨g, 5, none⟩ = some (.int .i64 x.ttl) ∧ w.cell? ⟨g, 6, none⟩ = some (.int .i64 x.proto) ∧ w.cell? ⟨g, 7, none⟩ = some (.int .u32 x.src) ∧ w.cell? ⟨g, 8, none⟩ = some (.int .u32 x.dst) ∧ w.cell? ⟨g, 9, none⟩ = some (.slice Ao x.opts.length co) ∧ w.cell? ⟨g, 10, none⟩ = some (.slice Ab x.body.length cb)
section
variable {w w' : World} {g B : Nat} {x : Pk} {Ao : Option Addr} {co : Nat} {Ab : Option Addr} {cb : Nat}
theorem BoPk.cells (h : BoPk w g x Ao co Ab cb) : w.cell? ⟨g, 0, none⟩ = some (.int .i64 x.tos) ∧ w.cell? ⟨g, 1, none⟩ = some (.int .i64 x.id) ∧ w.cell? ⟨g, 2, none⟩ = some (.bool x.df) ∧ w.cell? ⟨g, 3, none⟩ = some (.bool x.mf) ∧ w.cell? ⟨g, 4, none⟩ = some (.int .i64 x.off) ∧ w.cell? ⟨g, 5, none⟩ = some (.int .i64 x.ttl) ∧ w.cell? ⟨g, 6, none⟩ = some (.int .i64 x.proto) ∧ w.cell? ⟨g, 7, none⟩ = some (.int .u32 x.src) ∧ w.cell? ⟨g, 8, none⟩ = some (.int .u32 x.dst) ∧ w.cell? ⟨g, 9, none⟩ = some (.slice Ao x.opts.length co) ∧ w.cell? ⟨g, 10, none⟩ = some (.slice Ab x.body.length cb) := h
theorem BoPk.keep (h : BoPk w g x Ao co Ab cb) (hb : Below B w w') (hlt : g < B) : BoPk w' g x Ao co Ab cb := by
  obtain ⟨c0, c1, c2, c3, c4, c5, c6, c7, c8, c9, c10⟩ := h
  exact ⟨(hb.cell (p := ⟨g, 0, none⟩) hlt).trans c0, (hb.cell (p := ⟨g, 1, none⟩) hlt).trans c1, (hb.cell (p := ⟨g, 2, none⟩) hlt).trans c2, (hb.cell (p := ⟨g, 3, none⟩) hlt).trans c3, (hb.cell (p := ⟨g, 4, none⟩) hlt).trans c4, (hb.cell (p := ⟨g, 5, none⟩) hlt).trans c5, (hb.cell (p := ⟨g, 6, none⟩) hlt).trans c6, (hb.cell (p := ⟨g, 7, none⟩) hlt).trans c7, (hb.cell (p := ⟨g, 8, none⟩) hlt).trans c8, (hb.cell (p := ⟨g, 9, none⟩) hlt).trans c9, (hb.cell (p := ⟨g, 10, none⟩) hlt).trans c10⟩
theorem BoPk.made : BoPk (w.alloc (oPk x Ao co Ab cb)) w.heap.size x Ao co Ab cb := by
  refine ⟨?_, ?_, ?_, ?_, ?_, ?_, ?_, ?_, ?_, ?_, ?_⟩ <;> simp [go_sem]
theorem BoPk.at (h : BoPk w g x Ao co Ab cb) : ∀ j v, ([.int .i64 x.tos, .int .i64 x.id, .bool x.df, .bool x.mf, .int .i64 x.off, .int .i64 x.ttl, .int .i64 x.proto, .int .u32 x.src, .int .u32 x.dst, .slice Ao x.opts.length co, .slice Ab x.body.length cb] : List Value)[j]? = some v → w.cell? ((⟨g, 0, none⟩ : Addr).add j) = some v := by
  obtain ⟨c0, c1, c2, c3, c4, c5, c6, c7, c8, c9, c10⟩ := h
  refine list_cells fun j hj => ?_
  rw [Addr.add_mid, Nat.zero_add]
  match j, hj with
  | 0, _ => exact c0
  | 1, _ => exact c1
  | 2, _ => exact c2
  | 3, _ => exact c3
  | 4, _ => exact c4
  | 5, _ => exact c5
  | 6, _ => exact c6
  | 7, _ => exact c7
  | 8, _ => exact c8
  | 9, _ => exact c9
  | 10, _ => exact c10
  | m + 11, hj => exact absurd hj (by simp)
end
abbrev oPo (p : Po) (A : Option Addr) (c : Nat) : Obj := .cells #[.int .i64 p.room, .int .i64 p.life, .int .i64 p.now, .slice A p.list.length c] 27
def BoPo (w : World) (g : Nat) (p : Po) (A : Option Addr) (c : Nat) : Prop := w.cell? ⟨g, 0, none⟩ = some (.int .i64 p.room) ∧ w.cell? ⟨g, 1, none⟩ = some (.int .i64 p.life) ∧ w.cell? ⟨g, 2, none⟩ = some (.int .i64 p.now) ∧ w.cell? ⟨g, 3, none⟩ = some (.slice A p.list.length c)
section
variable {w w' : World} {g B : Nat} {p : Po} {A : Option Addr} {c : Nat}
theorem BoPo.cells (h : BoPo w g p A c) : w.cell? ⟨g, 0, none⟩ = some (.int .i64 p.room) ∧ w.cell? ⟨g, 1, none⟩ = some (.int .i64 p.life) ∧ w.cell? ⟨g, 2, none⟩ = some (.int .i64 p.now) ∧ w.cell? ⟨g, 3, none⟩ = some (.slice A p.list.length c) := h
theorem BoPo.keep (h : BoPo w g p A c) (hb : Below B w w') (hlt : g < B) : BoPo w' g p A c := by
  obtain ⟨c0, c1, c2, c3⟩ := h
  exact ⟨(hb.cell (p := ⟨g, 0, none⟩) hlt).trans c0, (hb.cell (p := ⟨g, 1, none⟩) hlt).trans c1, (hb.cell (p := ⟨g, 2, none⟩) hlt).trans c2, (hb.cell (p := ⟨g, 3, none⟩) hlt).trans c3⟩
theorem BoPo.made : BoPo (w.alloc (oPo p A c)) w.heap.size p A c := by
  refine ⟨?_, ?_, ?_, ?_⟩ <;> simp [go_sem]
theorem BoPo.at (h : BoPo w g p A c) : ∀ j v, ([.int .i64 p.room, .int .i64 p.life, .int .i64 p.now, .slice A p.list.length c] : List Value)[j]? = some v → w.cell? ((⟨g, 0, none⟩ : Addr).add j) = some v := by
  obtain ⟨c0, c1, c2, c3⟩ := h
  refine list_cells fun j hj => ?_
  rw [Addr.add_mid, Nat.zero_add]
  match j, hj with
  | 0, _ => exact c0
  | 1, _ => exact c1
  | 2, _ => exact c2
  | 3, _ => exact c3
  | m + 4, hj => exact absurd hj (by simp)
end
abbrev oRn (r : Rn) (Ad : Option Addr) (cd : Nat) : Obj := .cells #[.int .i64 r.off, .slice Ad r.data.length cd] 66
def BoRn (w : World) (g : Nat) (r : Rn) (Ad : Option Addr) (cd : Nat) : Prop := w.cell? ⟨g, 0, none⟩ = some (.int .i64 r.off) ∧ w.cell? ⟨g, 1, none⟩ = some (.slice Ad r.data.length cd)
section
variable {w w' : World} {g B : Nat} {r : Rn} {Ad : Option Addr} {cd : Nat}
theorem BoRn.cells (h : BoRn w g r Ad cd) : w.cell? ⟨g, 0, none⟩ = some (.int .i64 r.off) ∧ w.cell? ⟨g, 1, none⟩ = some (.slice Ad r.data.length cd) := h
theorem BoRn.keep (h : BoRn w g r Ad cd) (hb : Below B w w') (hlt : g < B) : BoRn w' g r Ad cd := by
  obtain ⟨c0, c1⟩ := h
  exact ⟨(hb.cell (p := ⟨g, 0, none⟩) hlt).trans c0, (hb.cell (p := ⟨g, 1, none⟩) hlt).trans c1⟩
theorem BoRn.made : BoRn (w.alloc (oRn r Ad cd)) w.heap.size r Ad cd := by
  refine ⟨?_, ?_⟩ <;> simp [go_sem]
theorem BoRn.at (h : BoRn w g r Ad cd) : ∀ j v, ([.int .i64 r.off, .slice Ad r.data.length cd] : List Value)[j]? = some v → w.cell? ((⟨g, 0, none⟩ : Addr).add j) = some v := by
  obtain ⟨c0, c1⟩ := h
  refine list_cells fun j hj => ?_
  rw [Addr.add_mid, Nat.zero_add]
  match j, hj with
  | 0, _ => exact c0
  | 1, _ => exact c1
  | m + 2, hj => exact absurd hj (by simp)
end
abbrev oNm (n : Int × Int × Int × Int) : Obj := .cells #[.int .u32 n.1, .int .u32 n.2.1, .int .i64 n.2.2.1, .int .i64 n.2.2.2] 53
def BoNm (w : World) (g : Nat) (n : Int × Int × Int × Int) : Prop := w.cell? ⟨g, 0, none⟩ = some (.int .u32 n.1) ∧ w.cell? ⟨g, 1, none⟩ = some (.int .u32 n.2.1) ∧ w.cell? ⟨g, 2, none⟩ = some (.int .i64 n.2.2.1) ∧ w.cell? ⟨g, 3, none⟩ = some (.int .i64 n.2.2.2)
section
variable {w w' : World} {g B : Nat} {n : Int × Int × Int × Int}
theorem BoNm.cells (h : BoNm w g n) : w.cell? ⟨g, 0, none⟩ = some (.int .u32 n.1) ∧ w.cell? ⟨g, 1, none⟩ = some (.int .u32 n.2.1) ∧ w.cell? ⟨g, 2, none⟩ = some (.int .i64 n.2.2.1) ∧ w.cell? ⟨g, 3, none⟩ = some (.int .i64 n.2.2.2) := h
theorem BoNm.keep (h : BoNm w g n) (hb : Below B w w') (hlt : g < B) : BoNm w' g n := by
  obtain ⟨c0, c1, c2, c3⟩ := h
  exact ⟨(hb.cell (p := ⟨g, 0, none⟩) hlt).trans c0, (hb.cell (p := ⟨g, 1, none⟩) hlt).trans c1, (hb.cell (p := ⟨g, 2, none⟩) hlt).trans c2, (hb.cell (p := ⟨g, 3, none⟩) hlt).trans c3⟩
theorem BoNm.made : BoNm (w.alloc (oNm n)) w.heap.size n := by
  refine ⟨?_, ?_, ?_, ?_⟩ <;> simp [go_sem]
theorem BoNm.at (h : BoNm w g n) : ∀ j v, ([.int .u32 n.1, .int .u32 n.2.1, .int .i64 n.2.2.1, .int .i64 n.2.2.2] : List Value)[j]? = some v → w.cell? ((⟨g, 0, none⟩ : Addr).add j) = some v := by
  obtain ⟨c0, c1, c2, c3⟩ := h
  refine list_cells fun j hj => ?_
  rw [Addr.add_mid, Nat.zero_add]
  match j, hj with
  | 0, _ => exact c0
  | 1, _ => exact c1
  | 2, _ => exact c2
  | 3, _ => exact c3
  | m + 4, hj => exact absurd hj (by simp)
end
end Go.Proofs.Ythejakbjekjhjaa

/- The contract of bytes.Clone. -/
namespace Go.Proofs.Ythejakbjekjhjaa
open Go.ChangeShapes Go.WideShapes Go.ChangeAt Go.RowKit
set_option linter.unusedVariables false

/-- a slice that some call has handed back: it reads as these bytes. -/
structure Gives (w0 w : World) (A : Option Addr) (c : Nat) (l : List UInt8) : Prop where
  len : l.length ≤ c
  cap : c ≤ 9223372036854775807
  nil : A = none → c = 0
  bs : Bs w w.heap.size A l
  fresh : ∀ ad, A = some ad → w0.heap.size ≤ ad.block
  below : Below w0.heap.size w0 w
def Cloned (w0 : World) (n : Nat) (l : List UInt8) (e : Ending) (w : World) : Prop := ∃ A c, e = .returned (.slice A n c) ∧ Gives w0 w A c l

theorem own_gives {w0 w : World} {n : Nat} {v : Value} {l : List UInt8} (h : w.ownsRow w0.heap.size 5 1 v n (l.map bv)) (hb : Below w0.heap.size w0 w) : ∃ A c, v = .slice A n c ∧ Gives w0 w A c l := by
  have hn : l.length = n := by have := h.1; simpa using this
  obtain ⟨A, c, rfl, h1, h2, h3, h4⟩ := rd_of_own h
  unfold maxLen at h2
  refine ⟨A, c, rfl, by omega, by omega, h3, h4.bs, fun ad e => ?_, hb⟩
  subst e
  exact (h.lt ad.block rfl).1

set_option maxHeartbeats 400000 in
theorem cclone (A : Option Addr) (n c : Nat) (l : List UInt8) (B : Nat) (w : World) (hn : l.length = n) (h : Bs w B A l) (hB : B ≤ w.heap.size) (hn2 : n ≤ 16777216) (hnil : A = none → c = 0) (hnc : n ≤ c) :
    Calls Try.prog 36 #[.slice A n c] w (Cloned w n l) := by
  obtain ⟨i0, hi, hz0, hz1, hz2⟩ := info_parts info_byte
  have q := fun (W : World) (a : Option Addr) (n c n' c' : Nat) => Lib.run_eql_slice_nil (P := Try.prog) W _ _ a n c n' c' Try.underlying23
  rcases A with _ | ad
  · have hc := hnil rfl
    subst hc
    obtain rfl : n = 0 := by omega
    have hl : l = [] := List.eq_nil_of_length_eq_zero hn
    subst hl
    clear hn h hnil
    go_enter Try.func36, Try.ntmps36
    go_wp2
    go_ret
    exact ⟨none, 0, rfl, by simp, by omega, fun _ => rfl, .inl rfl, fun _ h => (by cases h), Below.refl _ _⟩
  · have HN := Go.Lib.hid hn
    have HB := Go.Lib.hid h
    have HX := Go.Lib.hid hnil
    clear hn h hnil
    go_enter Try.func36, Try.ntmps36
    go_wp2_with (at_builtin; refine wpList_copy_rd rfl _ _ 23 rfl 5 i0 (.int .u8 0) 1 Try.underlying23 hi hz0 hz1 hz2 rfl rfl B (some ad) n c (l.map bv) rfl (by simpa using HN.out) HX.out HB.out.rd hB (bv_one _) (by unfold maxLen; omega) (by omega) ?_; intro v2 w2 hown2 hb2)
    obtain ⟨A2, c2, rfl, hg⟩ := own_gives hown2 hb2
    go_ret
    exact ⟨A2, c2, rfl, hg⟩
end Go.Proofs.Ythejakbjekjhjaa

/- Rows of packets that are put together, and of runs, of a call's own. -/
namespace Go.Proofs.Ythejakbjekjhjaa
open Go.ChangeShapes Go.WideShapes Go.ChangeAt Go.RowKit
set_option linter.unusedVariables false
set_option linter.unusedSimpArgs false

section
variable {α : Type} (L : α → List Value) (k : Nat) (hL : ∀ x, (L x).length = k)
include hL
theorem flat_len : ∀ es : List α, (es.flatMap L).length = es.length * k
  | [] => by simp
  | e :: t => by simp only [List.flatMap_cons, List.length_append, hL, flat_len t, List.length_cons]; rw [Nat.succ_mul, Nat.add_comm]
theorem flat_take : ∀ (es : List α) (j : Nat), (es.flatMap L).take (j * k) = (es.take j).flatMap L
  | [], j => by simp
  | e :: t, 0 => by simp
  | e :: t, j + 1 => by
    rw [List.flatMap_cons, List.take_succ_cons, List.flatMap_cons, List.take_append, hL, List.take_of_length_le (by rw [hL, Nat.succ_mul]; omega), ← flat_take t j]
    congr 2
    rw [Nat.succ_mul]; omega
theorem flat_drop : ∀ (es : List α) (j : Nat), (es.flatMap L).drop (j * k) = (es.drop j).flatMap L
  | [], j => by simp
  | e :: t, 0 => by simp
  | e :: t, j + 1 => by
    rw [List.flatMap_cons, List.drop_succ_cons, List.drop_append, hL, List.drop_eq_nil_of_le (by rw [hL, Nat.succ_mul]; omega), List.nil_append, ← flat_drop t j]
    congr 1
    rw [Nat.succ_mul]; omega
theorem flat_get (es : List α) (j i : Nat) (hj : j < es.length) (hi : i < k) : (es.flatMap L)[j * k + i]? = (L es[j])[i]? := by
  rw [← List.getElem?_drop, flat_drop L k hL, List.drop_eq_getElem_cons hj, List.flatMap_cons, List.getElem?_append_left (by rw [hL]; exact hi)]
end
/-- cells replaced from a place on. -/
theorem set_eq {α : Type} : ∀ (l : List α) (o : Nat) (v : α), o < l.length → l.set o v = l.take o ++ v :: l.drop (o + 1)
  | [], _, _, h => by simp at h
  | a :: t, 0, v, _ => by simp
  | a :: t, o + 1, v, h => by simp [set_eq t o v (by simpa using h)]
theorem spl_eq : ∀ (vs cs : List Value) (o : Nat), o + vs.length ≤ cs.length → spl cs o vs = cs.take o ++ vs ++ cs.drop (o + vs.length)
  | [], cs, o, _ => by simp [spl]
  | v :: r, cs, o, h => by
    simp only [List.length_cons] at h
    have ho : o < cs.length := by omega
    rw [spl, spl_eq r _ _ (by simp; omega), set_eq cs o v ho]
    have e1 : (cs.take o ++ v :: cs.drop (o + 1)).take (o + 1) = cs.take o ++ [v] := by
      rw [List.take_append, List.take_of_length_le (by rw [List.length_take]; omega), List.length_take, Nat.min_eq_left (by omega), show o + 1 - o = 1 by omega]
      rfl
    have e2 : (cs.take o ++ v :: cs.drop (o + 1)).drop (o + 1 + r.length) = cs.drop (o + (v :: r).length) := by
      rw [List.drop_append, List.length_take, Nat.min_eq_left (by omega), List.drop_eq_nil_of_le (by rw [List.length_take]; omega), List.nil_append]
      rw [show o + 1 + r.length - o = r.length + 1 by omega, List.drop_succ_cons, List.drop_drop]
      congr 1; simp; omega
    rw [e1, e2]; simp
theorem spl_take (vs cs : List Value) (o n : Nat) (h : o + vs.length ≤ n) (hn : n ≤ cs.length) : (spl cs o vs).take n = spl (cs.take n) o vs := by
  rw [spl_eq vs cs o (by omega), spl_eq vs (cs.take n) o (by rw [List.length_take]; omega)]
  rw [List.take_append, List.take_of_length_le (by rw [List.length_append, List.length_take]; omega), List.length_append, List.length_take, Nat.min_eq_left (by omega), List.take_take, Nat.min_eq_left (by omega), List.drop_take]
theorem spl_flat {α : Type} (L : α → List Value) (k : Nat) (hL : ∀ x, (L x).length = k) (es : List α) (j : Nat) (e : α) (hj : j < es.length) : spl (es.flatMap L) (j * k) (L e) = (es.set j e).flatMap L := by
  have hl := flat_len L k hL es
  have h1 : j * k + k ≤ es.length * k := by rw [← Nat.succ_mul]; exact Nat.mul_le_mul_right k hj
  rw [spl_eq _ _ _ (by rw [hL, hl]; exact h1), hL, set_eq es j e hj, List.flatMap_append, List.flatMap_cons, flat_take L k hL, ← Nat.succ_mul, flat_drop L k hL, List.append_assoc]
/-- a row of the call's own, opened; a store into it. -/
theorem own_open {w : World} {base : Nat} {e : TypeId} {size g n c : Nat} {xs : List Value} (h : w.ownsRow base e size (.slice (some ⟨g, 0, none⟩) n c) n xs) :
    ∃ cur, Bxo w g e cur ∧ cur.length = c * size ∧ cur.take (n * size) = xs ∧ base ≤ g ∧ n ≤ c ∧ c ≤ maxLen ∧ xs.length = n * size := by
  rcases h.2 with ⟨h', _⟩ | ⟨g', cap, cur, hv, hb, hh, hn, hm, hs, ht⟩
  · cases h'
  · injection hv with h1 h2 h3
    subst h3
    injection h1 with h1
    injection h1 with h1
    subst h1
    exact ⟨cur.toList, by unfold Bxo; simpa using hh, by simpa using hs, by simpa using ht, hb, hn, hm, h.1⟩
theorem own_shut {w : World} {base : Nat} {e : TypeId} {size g n c : Nat} {xs cur : List Value} (hb : Bxo w g e cur) (h1 : cur.length = c * size) (h2 : cur.take (n * size) = xs) (h3 : base ≤ g) (h4 : n ≤ c) (h5 : c ≤ maxLen) (h6 : xs.length = n * size) :
    w.ownsRow base e size (.slice (some ⟨g, 0, none⟩) n c) n xs :=
  ⟨h6, .inr ⟨g, c, cur.toArray, rfl, h3, hb, h4, h5, by simpa using h1, by simpa using h2⟩⟩
theorem own_keep {w w' : World} {base : Nat} {e : TypeId} {size g n c : Nat} {xs : List Value} (h : w.ownsRow base e size (.slice (some ⟨g, 0, none⟩) n c) n xs) (hh : w'.heap[g]? = w.heap[g]?) : w'.ownsRow base e size (.slice (some ⟨g, 0, none⟩) n c) n xs := by
  obtain ⟨cur, a1, a2, a3, a4, a5, a6, a7⟩ := own_open h
  exact own_shut (hh.trans a1) a2 a3 a4 a5 a6 a7
theorem own_spl {w w' : World} {base : Nat} {e : TypeId} {size g n c : Nat} {xs cur vs : List Value} {o : Nat} (h : w.ownsRow base e size (.slice (some ⟨g, 0, none⟩) n c) n xs) (hc : Bxo w g e cur) (ho : o + vs.length ≤ n * size) (hb : Bxo w' g e (spl cur o vs)) :
    w'.ownsRow base e size (.slice (some ⟨g, 0, none⟩) n c) n (spl xs o vs) := by
  obtain ⟨cur', a1, a2, a3, a4, a5, a6, a7⟩ := own_open h
  have e : cur' = cur := by
    have := a1.symm.trans hc
    simpa using this
  subst e
  have hle : n * size ≤ cur'.length := by rw [a2]; exact Nat.mul_le_mul_right size a5
  exact own_shut hb (by rw [spl_length]; exact a2) (by rw [spl_take vs cur' o _ ho hle, a3]) a4 a5 a6 (by rw [spl_length]; exact a7)
/-- a run, a packet that is put together, with where its parts lie. -/
structure Er where
  r : Rn
  A : Option Addr
  c : Nat
structure El where
  b : Bf
  Ao : Option Addr
  co : Nat
  Ab : Option Addr
  cb : Nat
  Ar : Option Addr
  cr : Nat
def Er.L (e : Er) : List Value := [.int .i64 e.r.off, .slice e.A e.r.data.length e.c]
def El.L (e : El) : List Value := bfL e.b e.Ao e.co e.Ab e.cb e.Ar e.cr
theorem Er.len (e : Er) : e.L.length = 2 := rfl
theorem El.len (e : El) : e.L.length = 19 := rfl
def OwnR (w : World) (base : Nat) (A : Option Addr) (c : Nat) (rs : List Er) : Prop := w.ownsRow base 66 2 (.slice A rs.length c) rs.length (rs.flatMap Er.L)
def OwnB (w : World) (base : Nat) (A : Option Addr) (c : Nat) (es : List El) : Prop := w.ownsRow base 42 19 (.slice A es.length c) es.length (es.flatMap El.L)
theorem info_run : (Try.prog.info? 66).map (fun i => (i.zero, i.size, i.bytes)) = some (some (.agg #[.int .i64 0, .slice none 0 0]), 2, 32) := by kernel_rfl
theorem info_rn : (Try.prog.info? 66).map (·.size) = some 2 := by kernel_rfl
theorem Bv.keepH {w w' : World} {V : Nat → Prop} {A : Option Addr} {l : List UInt8} (h : Bv w V A l) (hk : ∀ b, V b → w'.heap[b]? = w.heap[b]?) : Bv w' V A l := h.keep (fun p hp => World.cell?_of_block (hk _ hp))
theorem ByIn.keepH {w w' : World} {V : Nat → Prop} {A : Option Addr} {c : Nat} {l : List UInt8} (h : ByIn w V A c l) (hk : ∀ b, V b → w'.heap[b]? = w.heap[b]?) : ByIn w' V A c l := ⟨h.len, h.cap, h.nil, h.bs.keepH hk⟩
end Go.Proofs.Ythejakbjekjhjaa

/- Copies of slices of structs: the walk's append at elements of several cells; slices.Clone of runs, of packets that are put together; copyPacket's and headOf's bytes. -/
namespace Go.Proofs.Ythejakbjekjhjaa
open Go.ChangeShapes Go.WideShapes Go.ChangeAt Go.RowKit
set_option linter.unusedVariables false
set_option linter.unusedSimpArgs false

/-- the slice at A reads as these cells. -/
def RdC (w : World) (A : Option Addr) (cs : List Value) : Prop := cs = [] ∨ ∃ ad, A = some ad ∧ ∀ (j : Nat) (u : Value), cs[j]? = some u → w.cell? (ad.add j) = some u
theorem RdC.keep {w w' : World} {A : Option Addr} {cs : List Value} (h : RdC w A cs) (hb : Below w.heap.size w w') : RdC w' A cs := by
  rcases h with h | ⟨ad, e, hc⟩
  · exact .inl h
  · refine .inr ⟨ad, e, fun j u hj => ?_⟩
    have := hc j u hj
    rw [← this]
    exact hb.cell (World.block_lt_of_cell? w _ this)
theorem wpList_append_rdK {P : Program} {w : World} {ops : Array Oper} {rest : List Oper} {o : Oper} {a : Act} {Q : Exit → Act → World → Prop} (hgd : o.guard = none) (s x : Operand) (t : TypeId)
    (ho : o.op = .call { callee := .builtin .append, args := #[s, x], argTypes := #[t, t] })
    (base : Nat) (e : TypeId) (i : TypeInfo) (z : Value) (k bytes : Nat) (ht : P.underlying t = some (.slice e)) (hi : P.info? e = some i) (hz : i.zero = some z)
    (hsize : i.size = k) (hby : i.bytes = bytes) (hzs : z.cells.size = k) (hk : 0 < k)
    (v : Value) (n : Nat) (xs : List Value) (hs : a.eval s = v) (hown : w.ownsRow base e k v n xs)
    (A : Option Addr) (m c : Nat) (news : List Value) (hx : a.eval x = .slice A m c) (hm : news.length = m * k) (hc : A = none → c = 0 ∧ m = 0) (hr : RdC w A news) (h1 : ∀ u ∈ news, u.oneCell' = true)
    (h63 : n + m ≤ maxLen) (hbytes : (n + m) * bytes ≤ 140737488355328) (hbase : base ≤ w.heap.size)
    (h : ∀ v' w', w'.ownsRow base e k v' (n + m) (xs ++ news) → w.grownBy w' v.ownBlock → (v'.ownBlock = v.ownBlock ∨ v'.ownBlock = some w.heap.size) → wpList P ops Q rest (a.put o.dst v') w') :
    wpList P ops Q (o :: rest) a w := by
  rcases A with _ | ad
  · obtain ⟨rfl, rfl⟩ := hc rfl
    have hn : news = [] := List.eq_nil_of_length_eq_zero (by simpa using hm)
    subst hn
    exact wpList_append_own_none hgd s x t ho base e i k ht hi v n xs hs hown hx (h v w (by simpa using hown) (World.grownBy.refl w _) (.inl rfl))
  · refine wpList_append_own_at w hgd s x t ho base e i z k bytes ht hi hz hsize hby hzs hk v n xs hs hown ad m c news hx (by omega) ?_ h1 h63 hbytes hbase (fun v' w' g1 g2 _ g4 => h v' w' g1 g2 g4)
    intro j u hj
    rcases hr with h | ⟨ad', h', hcell⟩
    · subst h; simp at hj
    · cases h'; exact hcell j u hj
theorem wpList_copy_rdK {P : Program} {w : World} {ops : Array Oper} {rest : List Oper} {o : Oper} {a : Act} {Q : Exit → Act → World → Prop} (hgd : o.guard = none) (s x : Operand) (t : TypeId)
    (ho : o.op = .call { callee := .builtin .append, args := #[s, x], argTypes := #[t, t] })
    (e : TypeId) (i : TypeInfo) (z : Value) (k bytes : Nat) (ht : P.underlying t = some (.slice e)) (hi : P.info? e = some i) (hz : i.zero = some z)
    (hsize : i.size = k) (hby : i.bytes = bytes) (hzs : z.cells.size = k) (hk : 0 < k) (hs : a.eval s = .slice (some ⟨w.heap.size, 0, none⟩) 0 0)
    (A : Option Addr) (m c : Nat) (news : List Value) (hx : a.eval x = .slice A m c) (hm : news.length = m * k) (hc : A = none → c = 0 ∧ m = 0) (hr : RdC w A news) (h1 : ∀ u ∈ news, u.oneCell' = true)
    (h63 : m ≤ maxLen) (hbytes : m * bytes ≤ 140737488355328)
    (h : ∀ v' w', w'.ownsRow w.heap.size e k v' m news → Below w.heap.size w w' → wpList P ops Q rest (a.put o.dst v') w') :
    wpList P ops Q (o :: rest) a (w.alloc (.cells #[] e)) := by
  refine wpList_append_rdK hgd s x t ho w.heap.size e i z k bytes ht hi hz hsize hby hzs hk _ 0 [] hs (World.ownsRow_made w #[] 0 (Nat.le_refl _) (by unfold maxLen; omega) (by simp)) A m c news hx hm hc (hr.keep ((Below.refl _ _).alloc (Nat.le_refl _) _)) h1 (by simpa using h63) (by simpa using hbytes) (by simp) ?_
  intro v' w' hown hg hat
  rw [Nat.zero_add, List.nil_append] at hown
  exact h v' w' hown (((Below.refl _ _).alloc (Nat.le_refl _) _).grown hg (by simp) (fun k hk => by simp [Value.ownBlock] at hk; omega))
/-- a copy of a row. -/
def CopiedK (w0 : World) (e : TypeId) (k n : Nat) (cs : List Value) (x : Ending) (w : World) : Prop := ∃ A c, x = .returned (.slice A n c) ∧ w.ownsRow w0.heap.size e k (.slice A n c) n cs ∧ Below w0.heap.size w0 w
theorem own_slice {w : World} {base : Nat} {e : TypeId} {k : Nat} {v : Value} {n : Nat} {xs : List Value} (h : w.ownsRow base e k v n xs) : ∃ A c, v = .slice A n c := by
  rcases h.2 with ⟨rfl, rfl⟩ | ⟨g, cap, cur, rfl, _⟩
  · exact ⟨_, _, rfl⟩
  · exact ⟨_, _, rfl⟩
theorem own_none (w : World) (base : Nat) (e : TypeId) (k : Nat) : w.ownsRow base e k (.slice none 0 0) 0 [] := ⟨by simp, .inl ⟨rfl, rfl⟩⟩
set_option maxHeartbeats 400000 in
theorem ccloneR (A : Option Addr) (n c : Nat) (cs : List Value) (w : World) (hm : cs.length = n * 2) (hr : RdC w A cs) (h1 : ∀ u ∈ cs, u.oneCell' = true) (hn : n ≤ 16777216) (hnil : A = none → c = 0) (hnc : n ≤ c) :
    Calls Try.prog 35 #[.slice A n c] w (CopiedK w 66 2 n cs) := by
  obtain ⟨i0, hi, hz0, hz1, hz2⟩ := info_parts info_run
  have q := fun (W : World) (a : Option Addr) (n c n' c' : Nat) => Lib.run_eql_slice_nil (P := Try.prog) W _ _ a n c n' c' Try.underlying40
  rcases A with _ | ad
  · have hc := hnil rfl
    subst hc
    obtain rfl : n = 0 := by omega
    have hl : cs = [] := List.eq_nil_of_length_eq_zero (by simpa using hm)
    subst hl
    clear hm hr hnil
    go_enter Try.func35, Try.ntmps35
    go_wp2
    go_ret
    exact ⟨none, 0, rfl, own_none _ _ _ _, Below.refl _ _⟩
  · have HM := Go.Lib.hid hm
    have HR := Go.Lib.hid hr
    have HX := Go.Lib.hid hnil
    have H1 := Go.Lib.hid h1
    clear hm hr hnil h1
    go_enter Try.func35, Try.ntmps35
    go_wp2_with (at_builtin; refine wpList_copy_rdK rfl _ _ 40 rfl 66 i0 (.agg #[.int .i64 0, .slice none 0 0]) 2 32 Try.underlying40 hi hz0 hz1 hz2 rfl (by omega) rfl (some ad) n c cs rfl HM.out (fun h => by cases h) HR.out H1.out (by unfold maxLen; omega) (by omega) ?_; intro v2 w2 hown2 hb2)
    obtain ⟨A2, c2, rfl⟩ := own_slice hown2
    go_ret
    exact ⟨A2, c2, rfl, hown2, hb2⟩
theorem info_buf : (Try.prog.info? 42).map (fun i => (i.zero, i.size, i.bytes)) = some (some (.agg #[.int .u32 0, .int .u32 0, .int .i64 0, .int .i64 0, .int .i64 0, .int .i64 0, .int .i64 0, .bool false, .bool false, .int .i64 0, .int .i64 0, .int .i64 0, .int .u32 0, .int .u32 0, .slice none 0 0, .slice none 0 0, .bool false, .int .i64 0, .slice none 0 0]), 19, 176) := by kernel_rfl
set_option maxHeartbeats 400000 in
theorem ccloneB (A : Option Addr) (n c : Nat) (cs : List Value) (w : World) (hm : cs.length = n * 19) (hr : RdC w A cs) (h1 : ∀ u ∈ cs, u.oneCell' = true) (hn : n ≤ 16777216) (hnil : A = none → c = 0) (hnc : n ≤ c) :
    Calls Try.prog 34 #[.slice A n c] w (CopiedK w 42 19 n cs) := by
  obtain ⟨i0, hi, hz0, hz1, hz2⟩ := info_parts info_buf
  have q := fun (W : World) (a : Option Addr) (n c n' c' : Nat) => Lib.run_eql_slice_nil (P := Try.prog) W _ _ a n c n' c' Try.underlying25
  rcases A with _ | ad
  · have hc := hnil rfl
    subst hc
    obtain rfl : n = 0 := by omega
    have hl : cs = [] := List.eq_nil_of_length_eq_zero (by simpa using hm)
    subst hl
    clear hm hr hnil
    go_enter Try.func34, Try.ntmps34
    go_wp2
    go_ret
    exact ⟨none, 0, rfl, own_none _ _ _ _, Below.refl _ _⟩
  · have HM := Go.Lib.hid hm
    have HR := Go.Lib.hid hr
    have HX := Go.Lib.hid hnil
    have H1 := Go.Lib.hid h1
    clear hm hr hnil h1
    go_enter Try.func34, Try.ntmps34
    go_wp2_with (at_builtin; refine wpList_copy_rdK rfl _ _ 25 rfl 42 i0 _ 19 176 Try.underlying25 hi hz0 hz1 hz2 rfl (by omega) rfl (some ad) n c cs rfl HM.out (fun h => by cases h) HR.out H1.out (by unfold maxLen; omega) (by omega) ?_; intro v2 w2 hown2 hb2)
    obtain ⟨A2, c2, rfl⟩ := own_slice hown2
    go_ret
    exact ⟨A2, c2, rfl, hown2, hb2⟩
/-- a copy of bytes that came in. -/
theorem ccloneV (A : Option Addr) (n c : Nat) (l : List UInt8) (w : World) (V : Nat → Prop) (hn : l.length = n) (h : ByIn w V A c l) (lt : ∀ b, V b → b < w.heap.size) (hl : n ≤ 16777216) :
    Calls Try.prog 36 #[.slice A n c] w fun e w' => ∃ A' c', e = .returned (.slice A' n c') ∧ ByIn w' (growV V w w') A' c' l ∧ (∀ ad, A' = some ad → w.heap.size ≤ ad.block) ∧ Below w.heap.size w w' := by
  subst hn
  refine (cclone A l.length c l w.heap.size w rfl (h.bs.bs lt) (Nat.le_refl _) hl h.nil h.len).mono ?_
  rintro e w' ⟨A', c', rfl, hg⟩
  refine ⟨A', c', rfl, ⟨hg.len, hg.cap, hg.nil, ?_⟩, hg.fresh, hg.below⟩
  rcases hg.bs with h | ⟨ad, rfl, hlt, hc⟩
  · exact .inl h
  · exact .inr ⟨ad, rfl, .inr ⟨hg.fresh ad rfl, hlt⟩, hc⟩
end Go.Proofs.Ythejakbjekjhjaa
