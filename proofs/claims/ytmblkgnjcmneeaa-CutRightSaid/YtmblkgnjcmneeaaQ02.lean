/- Lemmas, several texts in one. -/
import Derived.Test.YtmblkgnjcmneeaaQ01
import Derived.Deep.RegionHeld3
import Derived.Test.YtmblkgnjcmneeaaRows
import Derived.WalkKit
import Derived.ProofKit
import Derived.OpenShut
import Derived.Below
import Derived.Deep.QuietTactic
import Derived.BigQuiet
import Derived.OwnWalk
import Derived.Laws.BytesString
/- A right pool stays right, whatever comes: plain mathematics. -/
namespace Go.Proofs.Ytmblkgnjcmneeaa
open Go.RowKit
set_option linter.unusedVariables false

/-- a packet that is put together, or one that is begun just now. -/
structure PreB (b : Bf) (now : Int) : Prop where
  b0 : 0 ≤ b.born
  b1 : b.born ≤ now
  t0 : b.total = -1 ∨ 1 ≤ b.total
  t1 : b.total ≤ 65535
  runs : RunsOk b.total 0 b.runs
  first : b.first = firstR b.runs
  opts : b.head.opts.length ≤ 40
  hbody : b.head.body = []
  hmf : b.head.mf = false
  hoff : b.head.off = 0
  hemp : b.first = true ∨ b.head = Pk.empty
theorem GoodB.pre {b : Bf} {now : Int} (h : GoodB b now) : PreB b now := ⟨h.b0, h.b1, h.t0, h.t1, h.runs, h.first, h.opts, h.hbody, h.hmf, h.hoff, h.hemp⟩
theorem pre_new {p : Po} (h : RightP p) (x : Pk) : PreB (newB p x) p.now := ⟨h.n0, Int.le_refl _, .inl rfl, by show (-1 : Int) ≤ 65535; omega, trivial, rfl, by show ([] : List UInt8).length ≤ 40; simp, rfl, rfl, rfl, .inr rfl⟩
theorem own_pre {p : Po} (h : RightP p) (x : Pk) : PreB (ownP p x) p.now := by
  unfold ownP
  cases hf : p.list.find? (fun b => oneN b x) with
  | none => exact pre_new h x
  | some b => exact (h.good b (List.mem_of_find?_eq_some hf)).pre
theorem own_name (p : Po) (x : Pk) : nmB (ownP p x) = nmX x := by
  unfold ownP
  cases hf : p.list.find? (fun b => oneN b x) with
  | none => rfl
  | some b => have := List.find?_some hf; exact (oneN_iff b x).1 this
theorem join_good {b : Bf} {x : Pk} {now : Int} (h : PreB b now) (hm : May x) (hl : 0 < x.body.length) (hc : clashB b x = false) : GoodB (joinB b x) now := by
  obtain ⟨n1, n2, n3⟩ := clash_no hc
  have o0 := hm.o0
  have o8 := hm.o8
  have fit := hm.fit
  have hr : ∀ t : Int, (0 < t → x.off + (x.body.length : Int) ≤ t) → RunOk t 0 ⟨x.off, x.body⟩ := fun t ht => ⟨o0, hl, o8, by show x.off + (x.body.length : Int) ≤ 65535; omega, ht⟩
  have hru : RunsOk (joinB b x).total 0 b.runs ∧ RunOk (joinB b x).total 0 ⟨x.off, x.body⟩ := by
    show RunsOk (if x.mf then b.total else _) 0 b.runs ∧ RunOk (if x.mf then b.total else _) 0 _
    by_cases hmf : x.mf = true
    · rw [if_pos hmf]
      exact ⟨h.runs, hr _ (fun h => (n1 h).2)⟩
    · rw [if_neg hmf]
      exact ⟨runs_total _ b.runs _ 0 h.runs (n3 (by simpa using hmf)), hr _ (fun _ => Int.le_refl _)⟩
  refine ⟨h.b0, h.b1, insR_ne _ _, ?_, ?_, runs_ins _ _ _ _ hru.1 hru.2 n2, ?_, ?_, ?_, ?_, ?_, ?_⟩
  · show (if x.mf then b.total else _) = -1 ∨ 1 ≤ (if x.mf then b.total else _)
    split
    · exact h.t0
    · right; omega
  · show (if x.mf then b.total else _) ≤ 65535
    split
    · exact h.t1
    · omega
  · show (b.first || x.off == 0) = firstR (insR b.runs ⟨x.off, x.body⟩)
    rw [first_ins _ _ _ hru.1 hru.2 n2, h.first]
  · show (if x.off = 0 then _ else b.head).opts.length ≤ 40
    split
    · exact hm.p40
    · exact h.opts
  · show (if x.off = 0 then _ else b.head).body = []
    split
    · rfl
    · exact h.hbody
  · show (if x.off = 0 then _ else b.head).mf = false
    split
    · rfl
    · exact h.hmf
  · show (if x.off = 0 then _ else b.head).off = 0
    split
    · rename_i h0; exact h0
    · exact h.hoff
  · show (b.first || x.off == 0) = true ∨ (if x.off = 0 then _ else b.head) = Pk.empty
    by_cases h0 : x.off = 0
    · left; simp [h0]
    · rw [if_neg h0]
      rcases h.hemp with h1 | h1
      · left; simp [h1]
      · exact .inr h1

theorem heldL_append : ∀ (l m : List Bf), heldL (l ++ m) = heldL l + heldL m
  | [], m => by simp [heldL]
  | b :: t, m => by simp only [List.cons_append, heldL, heldL_append t m]; omega
theorem putL_none (x : Pk) (b : Bf) : ∀ l : List Bf, (∀ a ∈ l, oneN a x = false) → putL l x b = l
  | [], _ => rfl
  | a :: t, h => by
    unfold putL
    rw [List.map_cons, h a (by simp)]
    show a :: putL t x b = a :: t
    rw [putL_none x b t (fun c hc => h c (by simp [hc]))]
theorem putL_names (x : Pk) (b : Bf) (hb : nmB b = nmX x) : ∀ l : List Bf, (putL l x b).map nmB = l.map nmB
  | [] => rfl
  | a :: t => by
    show nmB (if oneN a x then b else a) :: (putL t x b).map nmB = nmB a :: t.map nmB
    rw [putL_names x b hb t]
    congr 1
    split
    · rename_i h; rw [hb, (oneN_iff a x).1 h]
    · rfl
theorem putL_held (x : Pk) (b b0 : Bf) (n : Nat) (hb : heldR b.runs = heldR b0.runs + n) : ∀ l : List Bf, (l.map nmB).Nodup → l.find? (fun a => oneN a x) = some b0 → heldL (putL l x b) = heldL l + n
  | [], _, h => by simp at h
  | a :: t, hn, h => by
    rw [List.map_cons, List.nodup_cons] at hn
    show heldR (if oneN a x then b else a).runs + heldL (putL t x b) = heldR a.runs + heldL t + n
    by_cases ha : oneN a x = true
    · rw [List.find?_cons_of_pos (p := fun a => oneN a x) ha] at h
      have h' : a = b0 := Option.some.inj h
      subst h'
      rw [if_pos ha, hb, putL_none x b t]
      · omega
      · intro c hc
        by_cases hcx : oneN c x = true
        · exfalso
          apply hn.1
          rw [(oneN_iff a x).1 ha, ← (oneN_iff c x).1 hcx]
          exact List.mem_map_of_mem hc
        · simpa using hcx
    · rw [List.find?_cons_of_neg (p := fun a => oneN a x) ha] at h
      rw [if_neg ha, putL_held x b b0 n hb t hn.2 h]
      omega
theorem join_name (b : Bf) (x : Pk) : nmB (joinB b x) = nmB b := rfl
theorem right_with {p : Po} (h : RightP p) {x : Pk} (hm : May x) (hl : 0 < x.body.length) (hc : clashB (ownP p x) x = false) (hf : ¬ (thereP p x = false ∧ 64 ≤ p.list.length)) (hr : (heldP p : Int) + (x.body.length : Int) ≤ p.room) : RightP (withP p x) := by
  have hg := join_good (own_pre h x) hm hl hc
  have hh : heldR (joinB (ownP p x) x).runs = heldR (ownP p x).runs + x.body.length := heldR_ins ⟨x.off, x.body⟩ (ownP p x).runs
  have hnm : nmB (joinB (ownP p x) x) = nmX x := (join_name _ _).trans (own_name p x)
  unfold heldP at hr
  cases hf' : p.list.find? (fun b => oneN b x) with
  | none =>
    have ht : thereP p x = false := by unfold thereP; rw [hf']; rfl
    have ho : ownP p x = newB p x := by unfold ownP; rw [hf']; rfl
    have e : withP p x = ⟨p.room, p.life, p.now, p.list ++ [joinB (ownP p x) x]⟩ := by unfold withP; rw [ht]; rfl
    rw [e]
    have hno := List.find?_eq_none.1 hf'
    refine ⟨h.r0, h.r1, h.l0, h.l1, h.n0, h.n1, ?_, ?_, ?_, ?_⟩
    · show (p.list ++ [_]).length ≤ 64
      rw [List.length_append]
      have : ¬ 64 ≤ p.list.length := fun h => hf ⟨ht, h⟩
      simp; omega
    · intro b hb
      rcases List.mem_append.1 hb with hb | hb
      · exact h.good b hb
      · rw [List.mem_singleton.1 hb]; exact hg
    · show ((p.list ++ [_]).map nmB).Nodup
      rw [List.map_append, List.nodup_append]
      refine ⟨h.names, by simp, ?_⟩
      intro a ha c hc' hac
      simp only [List.map_cons, List.map_nil, List.mem_singleton] at hc'
      obtain ⟨b, hb, rfl⟩ := List.mem_map.1 ha
      have := hno b hb
      apply this
      rw [oneN_iff, hac, hc', hnm]
    · show (heldL (p.list ++ [joinB (ownP p x) x]) : Int) ≤ p.room
      rw [heldL_append]
      show ((heldL p.list + (heldR (joinB (ownP p x) x).runs + 0) : Nat) : Int) ≤ p.room
      rw [hh, ho]
      show ((heldL p.list + (0 + x.body.length + 0) : Nat) : Int) ≤ p.room
      omega
  | some b0 =>
    have ht : thereP p x = true := by unfold thereP; rw [hf']; rfl
    have ho : ownP p x = b0 := by unfold ownP; rw [hf']; rfl
    have e : withP p x = ⟨p.room, p.life, p.now, putL p.list x (joinB (ownP p x) x)⟩ := by unfold withP; rw [ht]; rfl
    rw [e]
    refine ⟨h.r0, h.r1, h.l0, h.l1, h.n0, h.n1, ?_, ?_, ?_, ?_⟩
    · show (putL p.list x _).length ≤ 64
      unfold putL; rw [List.length_map]; exact h.few
    · intro b hb
      obtain ⟨a, ha, rfl⟩ := List.mem_map.1 hb
      split
      · exact hg
      · exact h.good a ha
    · show ((putL p.list x _).map nmB).Nodup
      rw [putL_names x _ hnm]; exact h.names
    · show (heldL (putL p.list x (joinB (ownP p x) x)) : Int) ≤ p.room
      rw [putL_held x _ b0 x.body.length (by rw [hh, ho]) p.list h.names hf']
      omega
/-- a right pool stays right, its time and its bounds as they were; what is in it was, or is begun now. -/
structure KeptP (p q : Po) : Prop where
  right : RightP q
  room : q.room = p.room
  life : q.life = p.life
  now : q.now = p.now
  born : ∀ b ∈ q.list, (∃ a ∈ p.list, b.born = a.born) ∨ b.born = p.now
theorem kept_same {p : Po} (h : RightP p) : KeptP p p := ⟨h, rfl, rfl, rfl, fun b hb => .inl ⟨b, hb, rfl⟩⟩
theorem kept_without {p : Po} (h : RightP p) (x : Pk) : KeptP p (withoutP p x) := ⟨right_without h x, rfl, rfl, rfl, fun b hb => .inl ⟨b, (List.mem_filter.1 hb).1, rfl⟩⟩
theorem kept_with {p : Po} (h : RightP p) {x : Pk} (hR : RightP (withP p x)) : KeptP p (withP p x) := by
  refine ⟨hR, rfl, rfl, rfl, fun b hb => ?_⟩
  have hown : (∃ a ∈ p.list, (joinB (ownP p x) x).born = a.born) ∨ (joinB (ownP p x) x).born = p.now := by
    show (∃ a ∈ p.list, (ownP p x).born = a.born) ∨ (ownP p x).born = p.now
    unfold ownP
    cases hf' : p.list.find? (fun b => oneN b x) with
    | none => exact .inr rfl
    | some b0 => exact .inl ⟨b0, List.mem_of_find?_eq_some hf', rfl⟩
  have hb' : b ∈ (if thereP p x then putL p.list x (joinB (ownP p x) x) else p.list ++ [joinB (ownP p x) x]) := hb
  split at hb'
  · obtain ⟨a, ha, rfl⟩ := List.mem_map.1 hb'
    split
    · exact hown
    · exact .inl ⟨a, ha, rfl⟩
  · rcases List.mem_append.1 hb' with hb' | hb'
    · exact .inl ⟨b, hb', rfl⟩
    · rw [List.mem_singleton.1 hb']; exact hown
theorem take_kept {p : Po} (h : RightP p) (x : Pk) : KeptP p (takeP p x).pool ∧ ((takeP p x).ok = false → (takeP p x).out.body = []) ∧ ((takeP p x).ok = true → (takeP p x).err = 0) := by
  unfold takeP
  split
  · exact ⟨kept_same h, (fun h => by cases h), fun _ => rfl⟩
  split
  · exact ⟨kept_same h, fun _ => rfl, (fun h => by cases h)⟩
  rename_i hg
  split
  · exact ⟨kept_without h x, fun _ => rfl, (fun h => by cases h)⟩
  rename_i hc
  split
  · exact ⟨kept_same h, fun _ => rfl, (fun h => by cases h)⟩
  rename_i hf
  have hm : May x := (mayB_iff x).1 (by
    cases hx : mayB x
    · exact absurd (.inr (.inl hx)) hg
    · rfl)
  have hl : 0 < x.body.length := by
    by_cases h0 : x.body.length = 0
    · exact absurd (.inr (.inr h0)) hg
    · omega
  have hR := right_with h hm hl (by simpa using hc) (fun h => hf (.inl h)) (by
    by_cases h0 : p.room < (heldP p : Int) + (x.body.length : Int)
    · exact absurd (.inr h0) hf
    · omega)
  split
  · exact ⟨kept_with h hR, fun _ => rfl, (fun h => by cases h)⟩
  · dsimp only
    split
    · exact ⟨kept_without h x, (fun h => by cases h), fun _ => rfl⟩
    · exact ⟨kept_without h x, fun _ => rfl, (fun h => by cases h)⟩
/-- nothing is there any more, when time has gone on by as much as a packet waits. -/
theorem tick_all {p : Po} (h : RightP p) (hn : p.now + p.life ≤ 1099511627776) : (tickP p (p.now + p.life)).1.list = [] := by
  have hl := h.l0
  obtain ⟨_, _, _, _, _, _, hb⟩ := tick_right h (now := p.now + p.life) (by omega) hn
  cases hc : (tickP p (p.now + p.life)).1.list with
  | nil => rfl
  | cons b t =>
    exfalso
    have h1 := hb b (by rw [hc]; simp)
    have h2 := (h.good b h1.1).b1
    omega
end Go.Proofs.Ytmblkgnjcmneeaa

/- What package reasm's functions owe, as propositions. -/
namespace Go.Proofs.Ytmblkgnjcmneeaa
open Go.ChangeShapes Go.WideShapes Go.ChangeAt Go.RowKit
set_option linter.unusedVariables false

/-- no more bytes than a number of 64 bits tells. -/
def FewP (p : Po) : Prop := heldP p ≤ 4611686018427387904
def RightC : Prop := ∀ (p : Po) (A : Option Addr) (c : Nat) (w : World) (V : Nat → Prop) (b : Bool), rightP p = b → PoAt w V p A c → FewP p →
  Calls Try.prog 26 #[poV p A c] w fun e w' => e = .returned (.bool b) ∧ Below w.heap.size w w'
def HeldC : Prop := ∀ (p : Po) (A : Option Addr) (c : Nat) (w : World) (V : Nat → Prop), PoAt w V p A c → FewP p →
  Calls Try.prog 35 #[poV p A c] w fun e w' => e = .returned (.int .i64 (heldP p)) ∧ Below w.heap.size w w'
def newP (room life : Int) : Po × Int := if 1 ≤ room ∧ room ≤ 1048576 ∧ 1 ≤ life ∧ life ≤ 1048576 then (⟨room, life, 0, []⟩, 0) else (⟨0, 0, 0, []⟩, 1)
def NewC : Prop := ∀ (room life : Int) (w : World) (p : Po) (err : Int), newP room life = (p, err) →
  Calls Try.prog 16 #[.int .i64 room, .int .i64 life] w fun e w' => ∃ A c, e = .returned (.tuple #[poV p A c, .int .i64 err]) ∧ PoAt w' (growV (fun _ => False) w w') p A c ∧ Below w.heap.size w w'
theorem right_few {p : Po} (h : RightP p) : FewP p := by
  have h1 := h.r1
  have h2 := h.fits
  unfold FewP
  omega
end Go.Proofs.Ytmblkgnjcmneeaa

/- The contract of package reasm's Held. -/
namespace Go.Proofs.Ytmblkgnjcmneeaa
open Go.ChangeShapes Go.WideShapes Go.ChangeAt Go.RowKit
set_option linter.unusedVariables false

set_option maxRecDepth 100000 in
set_option maxHeartbeats 4000000 in
theorem cheld : HeldC := by
  intro p A c w V hP hF
  unfold FewP heldP at hF
  unfold heldP
  have m0 := poIs.made (w := w) (p := p) (A_list := A) (c_list := c)
  have b0 : Below w.heap.size w (w.alloc (poO p A c)) := (Below.refl _ _).alloc (Nat.le_refl _) _
  have HP := Go.Lib.hid (hP.at b0)
  have oc := hP.is.len
  have oc2 := hP.is.cap
  clear hP
  go_enter Try.func35, Try.ntmps35
  go_wp2
  generalize w.alloc (poO p A c) = W at *
  clear m0
  go_loopw [3, 11] (fun n i wr => ∃ k : Nat, k ≤ p.list.length ∧ i = .int .i64 k ∧ n = .int .i64 (heldL (p.list.take k) : Nat) ∧ Below W.heap.size W wr) (fun _ i _ => p.list.length - (intOf i).toNat)
  case atStart => exact ⟨0, by omega, rfl, rfl, Below.refl _ _⟩
  case round =>
    obtain ⟨k, hk, rfl, rfl, x1⟩ := hrel
    by_cases hlt : k < p.list.length
    · obtain ⟨ad, Ao, co, Ab, cb, Ar, cr, rfl, hb, hc⟩ := (HP.out.at x1).is.fs.at_ hlt
      have HE := Go.Lib.hid (heldL_take p.list k hlt)
      have HLE := Go.Lib.hid (heldL_le p.list (k + 1))
      have i1 : (0 : Int) ≤ (k : Int) := by omega
      have i2 : (k : Int) < (p.list.length : Int) := by omega
      have HC := Go.Lib.hid hc.all
      have HB := Go.Lib.hid (hc.bf (HP.out.at x1).lt)
      clear hc
      generalize hr : p.list[k] = x at *
      clear hr
      have q1 := HB.out.rlen
      have q2 := HB.out.rcap
      have y1 := below_alloc x1 x1.size (bfO x Ao co Ab cb Ar cr)
      have HB1 := Go.Lib.hid (HB.out.at ((Below.refl _ _).alloc (Nat.le_refl _) (bfO x Ao co Ab cb Ar cr)))
      clear HB
      go_wp2_with (first
        | (refine wpList_load_bf rfl _ rfl (ad.add (k * 19)) rfl x Ao co Ab cb Ar cr HC.out ?_)
        | (refine wpList_store_bf rfl _ _ rfl _ rfl x Ao co Ab cb Ar cr rfl rfl ?_))
      generalize wr.alloc (bfO x Ao co Ab cb Ar cr) = W2 at *
      go_loopw [3, 18] (fun n i w3 => ∃ j : Nat, j ≤ x.runs.length ∧ i = .int .i64 j ∧ n = .int .i64 ((heldL (p.list.take k) : Int) + (heldR (x.runs.take j) : Int)) ∧ Below W2.heap.size W2 w3) (fun _ i _ => x.runs.length - (intOf i).toNat)
      case atStart => exact ⟨0, by omega, rfl, by simp [heldR], Below.refl _ _⟩
      case round =>
        obtain ⟨j, hj, rfl, rfl, x3⟩ := hrel
        by_cases hjl : j < x.runs.length
        · obtain ⟨ad2, Ad, cd, rfl, hb2, r0, r1, rb⟩ := (HB1.out.at x3).runs.at_ hjl
          have HR := Go.Lib.hid (heldR_take x.runs j hjl)
          have HRL := Go.Lib.hid (heldR_le x.runs (j + 1))
          have i3 : (0 : Int) ≤ (j : Int) := by omega
          have i4 : (j : Int) < (x.runs.length : Int) := by omega
          have q7 := rb.len
          have q8 := rb.cap
          clear rb
          generalize hd : x.runs[j] = y at *
          clear hd
          have s1 := IntWalk.i64_in ((heldL (p.list.take k) : Int) + (heldR (x.runs.take j) : Int) + (y.data.length : Int)) (by have := HE.out; have := HLE.out; have := HR.out; have := HRL.out; omega)
          go_wp2
          go_round
          case rel => exact ⟨j + 1, by omega, by go_num, by rw [HR.out]; simp [Int.natCast_add, Int.add_assoc], x3.trans ((Below.refl _ _).alloc x3.size _)⟩
          case measure => simp [intOf]; omega
        · obtain rfl : j = x.runs.length := by omega
          go_wp2
          go_round
          case rel => exact ⟨k + 1, by omega, by go_num, by rw [HE.out, List.take_length]; simp [Int.natCast_add], y1.trans (x3.mono y1.size)⟩
          case measure => simp [intOf]; omega
    · obtain rfl : k = p.list.length := by omega
      go_wp2
      go_ret
      exact ⟨ret_int (by rw [List.take_length]), b0.trans (x1.mono b0.size)⟩
end Go.Proofs.Ytmblkgnjcmneeaa

/- Contracts of package reasm's small functions: within, endOf, names. -/
namespace Go.Proofs.Ytmblkgnjcmneeaa
open Go.ChangeShapes Go.WideShapes Go.ChangeAt Go.RowKit
set_option linter.unusedVariables false

def inB (n lo hi : Int) : Bool := decide (lo ≤ n) && decide (n ≤ hi)
set_option maxHeartbeats 400000 in
theorem cwithin (n lo hi : Int) (b : Bool) (hb : inB n lo hi = b) (w : World) :
    Calls Try.prog 49 #[.int .i64 n, .int .i64 lo, .int .i64 hi] w fun e w' => e = .returned (.bool b) ∧ w = w' := by
  subst hb
  unfold inB
  by_cases h0 : lo ≤ n
  · by_cases h1 : n ≤ hi
    · go_enter Try.func49, Try.ntmps49
      go_wp2
      go_ret
      exact ⟨by simp [h0, h1], rfl⟩
    · go_enter Try.func49, Try.ntmps49
      go_wp2
      go_ret
      exact ⟨ret_bool (by simp [h1]), rfl⟩
  · go_enter Try.func49, Try.ntmps49
    go_wp2
    go_ret
    exact ⟨ret_bool (by simp; omega), rfl⟩

set_option maxHeartbeats 400000 in
theorem cendOf (r : Rn) (Ad : Option Addr) (cd : Nat) (w : World) (s : Int) (hs : stopR r = s) (h0 : -9223372036854775808 ≤ s) (h1 : s ≤ 9223372036854775807) :
    Calls Try.prog 56 #[rnV r Ad cd] w fun e w' => e = .returned (.int .i64 s) ∧ Below w.heap.size w w' := by
  subst hs
  unfold stopR at h0 h1 ⊢
  have e1 := IntWalk.i64_in _ ⟨h0, h1⟩
  go_enter Try.func56, Try.ntmps56
  go_wp2
  go_ret
  exact ⟨rfl, (Below.refl _ _).alloc (Nat.le_refl _) _⟩

set_option maxHeartbeats 400000 in
theorem cnameOf (b : Bf) (Ao : Option Addr) (co : Nat) (Ab : Option Addr) (cb : Nat) (Ar : Option Addr) (cr : Nat) (w : World) :
    Calls Try.prog 51 #[bfV b Ao co Ab cb Ar cr] w fun e w' => e = .returned (nmV (nmB b)) ∧ Below w.heap.size w w' := by
  go_enter Try.func51, Try.ntmps51
  go_wp2
  refine bodyPost_ret (v := nmV (nmB b)) ?_ rfl ⟨rfl, below_alloc (below_alloc (Below.refl _ _) (Nat.le_refl _) _) (by simp) _⟩
  simp [results, Try.results51, go_sem, nmB]
set_option maxHeartbeats 400000 in
theorem cnameOfPiece (x : Pk) (Ao : Option Addr) (co : Nat) (Ab : Option Addr) (cb : Nat) (w : World) :
    Calls Try.prog 32 #[ipV x Ao co Ab cb] w fun e w' => e = .returned (nmV (nmX x)) ∧ Below w.heap.size w w' := by
  go_enter Try.func32, Try.ntmps32
  go_wp2
  refine bodyPost_ret (v := nmV (nmX x)) ?_ rfl ⟨rfl, below_alloc (below_alloc (Below.refl _ _) (Nat.le_refl _) _) (by simp) _⟩
  simp [results, Try.results32, go_sem, nmX]

end Go.Proofs.Ytmblkgnjcmneeaa

/- The contract of package reasm's find. -/
namespace Go.Proofs.Ytmblkgnjcmneeaa
open Go.ChangeShapes Go.WideShapes Go.ChangeAt Go.RowKit
set_option linter.unusedVariables false
set_option linter.unusedSimpArgs false

def findB (bs : List Bf) (n : Int × Int × Int × Int) : Nat := bs.findIdx (fun b => nmB b == n)
theorem find_here (bs : List Bf) (n : Int × Int × Int × Int) (k : Nat) (hk : k < bs.length) (hp : ∀ j (h : j < k), (nmB (bs[j]'(by omega)) == n) = false) (h : (nmB bs[k] == n) = true) : findB bs n = k := by
  unfold findB
  rw [List.findIdx_eq hk]
  exact ⟨h, fun j hj => hp j hj⟩
theorem find_none (bs : List Bf) (n : Int × Int × Int × Int) (hp : ∀ j (h : j < bs.length), (nmB bs[j] == n) = false) : findB bs n = bs.length := by
  unfold findB
  rw [List.findIdx_eq_length]
  intro x hx
  obtain ⟨j, hj, rfl⟩ := List.getElem_of_mem hx
  exact hp j hj
/-- a list of packets in memory. -/
abbrev LsAt (w : World) (V : Nat → Prop) (bs : List Bf) (A : Option Addr) (c : Nat) : Prop := PoAt w V ⟨0, 0, 0, bs⟩ A c
theorem eqNm (m n : Int × Int × Int × Int) (w : World) : (binOp .eql 62 (nmV m) (nmV n)).run Try.prog w = .ok (.bool (m == n)) w := by
  have hS : Try.prog.underlying 62 = some (.struct (Try.prog.fieldsOf 62)) := by kernel_rfl
  have hp : Try.prog.stoodInHeld 62 = false := by kernel_rfl
  have u3 := Try.underlying3
  have u4 := Try.underlying22
  have a3 := Try.isAgg3
  have z3 := Try.sizeOf3
  have a4 := Try.isAgg22
  have z4 := Try.sizeOf22
  rw [run_eql_struct, show (10000 : Nat) = 9999 + 1 from rfl, run_equalIn_agg w 9999 62 _ _ hS hp]
  simp only [Program.fieldsOf, Try.underlying62]
  obtain ⟨m1, m2, m3, m4⟩ := m
  obtain ⟨n1, n2, n3, n4⟩ := n
  go_simp
  by_cases h1 : m1 = n1 <;> by_cases h2 : m2 = n2 <;> by_cases h3 : m3 = n3 <;> by_cases h4 : m4 = n4 <;> simp [h1, h2, h3, h4]

set_option maxRecDepth 100000 in
set_option maxHeartbeats 4000000 in
theorem cfind (bs : List Bf) (A : Option Addr) (c : Nat) (n : Int × Int × Int × Int) (k0 : Nat) (hf : findB bs n = k0) (w : World) (V : Nat → Prop) (hP : LsAt w V bs A c) :
    Calls Try.prog 31 #[.slice A bs.length c, nmV n] w fun e w' => e = .returned (.int .i64 k0) ∧ Below w.heap.size w w' := by
  have HF := Go.Lib.hid hf
  clear hf
  have b0 : Below w.heap.size w (w.alloc (oNm n)) := (Below.refl _ _).alloc (Nat.le_refl _) _
  have M0 := Go.Lib.hid (BoNm.made (w := w) (n := n))
  have s0 : w.heap.size < (w.alloc (oNm n)).heap.size := by simp
  have HP := Go.Lib.hid (hP.at b0)
  have oc := hP.is.len
  have oc2 := hP.is.cap
  dsimp only at oc
  clear hP
  go_enter Try.func31, Try.ntmps31
  go_wp2
  generalize w.alloc (oNm n) = W at *
  go_loopw [9] (fun i wr => ∃ k : Nat, k ≤ bs.length ∧ i = .int .i64 k ∧ Hid (∀ j (h : j < bs.length), j < k → (nmB bs[j] == n) = false) ∧ Below W.heap.size W wr) (fun i _ => bs.length - (intOf i).toNat)
  case atStart => exact ⟨0, by omega, rfl, Go.Lib.hid (fun j _ h => by omega), Below.refl _ _⟩
  case round =>
    obtain ⟨k, hk, rfl, HT, x1⟩ := hrel
    by_cases hlt : k < bs.length
    · obtain ⟨ad, Ao, co, Ab, cb, Ar, cr, rfl, hb, hc⟩ := (HP.out.at x1).is.fs.at_ hlt
      have HX : Hid (bs[k]? = some bs[k]) := Go.Lib.hid (List.getElem?_eq_getElem hlt)
      have i1 : (0 : Int) ≤ (k : Int) := by omega
      have i2 : (k : Int) < (bs.length : Int) := by omega
      have HC := Go.Lib.hid hc.all
      clear hc
      dsimp only at HC
      have HY : Hid (∀ x, bs[k] = x → (nmB x == n) = true → findB bs n = k) := Go.Lib.hid (fun x h e => find_here bs n k hlt (fun j hj => HT.out j (by omega) hj) (by rw [h]; exact e))
      have HZ : Hid (∀ x, bs[k] = x → (nmB x == n) = false → ∀ j (h : j < bs.length), j < k + 1 → (nmB bs[j] == n) = false) := Go.Lib.hid (fun x h e j hj hjk => by
        by_cases h' : j = k
        · subst h'; rw [h]; exact e
        · exact HT.out j hj (by omega))
      generalize hr : bs[k] = x at *
      have HY2 := Go.Lib.hid (HY.out x rfl)
      have HZ2 := Go.Lib.hid (HZ.out x rfl)
      clear HY HZ HX hr HT
      have y1 := below_alloc x1 x1.size (oBf x Ao co Ab cb Ar cr)
      have M1 := BoBf.made (w := wr) (b := x) (Ao := Ao) (co := co) (Ab := Ab) (cb := cb) (Ar := Ar) (cr := cr)
      have s1 : wr.heap.size < (wr.alloc (oBf x Ao co Ab cb Ar cr)).heap.size := by simp
      go_upto_region 3 with fail
      go_wp2_with (first
        | (refine wpList_load_bf rfl _ rfl (ad.add (k * 19)) rfl x Ao co Ab cb Ar cr HC.out ?_)
        | (refine wpList_store_bf rfl _ _ rfl _ rfl x Ao co Ab cb Ar cr rfl rfl ?_))
      generalize wr.alloc (oBf x Ao co Ab cb Ar cr) = W3 at *
      generalize wr.heap.size = bb at *
      have K : ∀ Y, Below W3.heap.size W3 Y → Y.cell? ⟨w.heap.size, 0, none⟩ = some (.int .u32 n.1) ∧ Y.cell? ⟨w.heap.size, 1, none⟩ = some (.int .u32 n.2.1) ∧ Y.cell? ⟨w.heap.size, 2, none⟩ = some (.int .i64 n.2.2.1) ∧ Y.cell? ⟨w.heap.size, 3, none⟩ = some (.int .i64 n.2.2.2) := fun Y y => M0.out.keep (y1.trans (y.mono y1.size)) s0
      clear HC
      cases hq : (nmB x == n)
      · have eq1 := fun W => (eqNm (nmB x) n W).trans (by rw [hq])
        have HQ := Go.Lib.hid hq
        clear hq
        try simp only [Act.put, List.setIfInBounds_toArray, List.set_cons_zero, List.set_cons_succ]
        refine wp_region_held_drew (S := fun Y => Below W3.heap.size W3 Y) (by kernel_rfl) ?_ (fun hHeld => ?_)
        · exact below_drew (Below.refl _ _)
        refine wpAnyH_take (i := 0) (oi := ⟨some 14, _, _, _, _, _⟩) (v := bfV x Ao co Ab cb Ar cr) rfl (by kernel_rfl) (by kernel_rfl) (by kernel_rfl) (fun _ _ _ h => h) (yieldsIf_bf (by rfl) _ rfl ⟨bb, 0, none⟩ rfl x Ao co Ab cb Ar cr (fun w h => (M1.keep h s1).at)) (by assumption) ?_
        try simp only [Act.put, List.setIfInBounds_toArray, List.set_cons_zero, List.set_cons_succ]
        refine wpAnyH_take (i := 2) (oi := ⟨some 16, _, _, _, _, _⟩) (v := ?_) rfl (by kernel_rfl) (by kernel_rfl) (by kernel_rfl) (fun _ _ _ h => h) (Or.inl ⟨by rfl, ?_⟩) (by assumption) ?_
        rotate_left
        · intro w hSw; obtain ⟨n0, n1, n2, n3⟩ := K w hSw; (try dsimp only at hSw); go_simp; (try with_reducible rfl)
        try simp only [Act.put, List.setIfInBounds_toArray, List.set_cons_zero, List.set_cons_succ]
        refine wpAnyH_ready (rs := [1]) (by kernel_rfl) (by simp) (AllReadyH.cons (o := ⟨some 15, _, _, _, _, _⟩) rfl (fun Kc hKc => ?_) AllReadyH.nil)
        go_simp
        go_at_call 51; refine (cnameOf x Ao co Ab cb Ar cr _).mono ?_; rintro e w' ⟨rfl, hcall⟩; dsimp only
        refine hKc.out _ _ (hHeld.trans (hcall.mono hHeld.size)) (fun hHeld => ?_)
        clear hKc Kc
        try simp only [Act.put, List.setIfInBounds_toArray, List.set_cons_zero, List.set_cons_succ]
        refine wpAnyH_take (i := 3) (oi := ⟨some 17, _, _, _, _, _⟩) (v := ?_) rfl (by kernel_rfl) (by kernel_rfl) (by kernel_rfl) (fun _ _ _ h => h) (Or.inl ⟨by rfl, ?_⟩) (by assumption) ?_
        rotate_left
        · intro w hSw; (try dsimp only at hSw); go_simp; (try with_reducible rfl)
        try simp only [Act.put, List.setIfInBounds_toArray, List.set_cons_zero, List.set_cons_succ]
        refine wpAnyH_done (by kernel_rfl) ?_ _
        have xF := y1.trans (hHeld.mono y1.size)
        clear hcall hHeld
        go_wp2
        go_round
        case rel => exact ⟨k + 1, by omega, by go_num, Go.Lib.hid (HZ2.out HQ.out), xF⟩
        case measure => simp [intOf]; omega
      · have eq1 := fun W => (eqNm (nmB x) n W).trans (by rw [hq])
        have HQ := Go.Lib.hid hq
        clear hq
        try simp only [Act.put, List.setIfInBounds_toArray, List.set_cons_zero, List.set_cons_succ]
        refine wp_region_held_drew (S := fun Y => Below W3.heap.size W3 Y) (by kernel_rfl) ?_ (fun hHeld => ?_)
        · exact below_drew (Below.refl _ _)
        refine wpAnyH_take (i := 0) (oi := ⟨some 14, _, _, _, _, _⟩) (v := bfV x Ao co Ab cb Ar cr) rfl (by kernel_rfl) (by kernel_rfl) (by kernel_rfl) (fun _ _ _ h => h) (yieldsIf_bf (by rfl) _ rfl ⟨bb, 0, none⟩ rfl x Ao co Ab cb Ar cr (fun w h => (M1.keep h s1).at)) (by assumption) ?_
        try simp only [Act.put, List.setIfInBounds_toArray, List.set_cons_zero, List.set_cons_succ]
        refine wpAnyH_take (i := 2) (oi := ⟨some 16, _, _, _, _, _⟩) (v := ?_) rfl (by kernel_rfl) (by kernel_rfl) (by kernel_rfl) (fun _ _ _ h => h) (Or.inl ⟨by rfl, ?_⟩) (by assumption) ?_
        rotate_left
        · intro w hSw; obtain ⟨n0, n1, n2, n3⟩ := K w hSw; (try dsimp only at hSw); go_simp; (try with_reducible rfl)
        try simp only [Act.put, List.setIfInBounds_toArray, List.set_cons_zero, List.set_cons_succ]
        refine wpAnyH_ready (rs := [1]) (by kernel_rfl) (by simp) (AllReadyH.cons (o := ⟨some 15, _, _, _, _, _⟩) rfl (fun Kc hKc => ?_) AllReadyH.nil)
        go_simp
        go_at_call 51; refine (cnameOf x Ao co Ab cb Ar cr _).mono ?_; rintro e w' ⟨rfl, hcall⟩; dsimp only
        refine hKc.out _ _ (hHeld.trans (hcall.mono hHeld.size)) (fun hHeld => ?_)
        clear hKc Kc
        try simp only [Act.put, List.setIfInBounds_toArray, List.set_cons_zero, List.set_cons_succ]
        refine wpAnyH_take (i := 3) (oi := ⟨some 17, _, _, _, _, _⟩) (v := ?_) rfl (by kernel_rfl) (by kernel_rfl) (by kernel_rfl) (fun _ _ _ h => h) (Or.inl ⟨by rfl, ?_⟩) (by assumption) ?_
        rotate_left
        · intro w hSw; (try dsimp only at hSw); go_simp; (try with_reducible rfl)
        try simp only [Act.put, List.setIfInBounds_toArray, List.set_cons_zero, List.set_cons_succ]
        refine wpAnyH_done (by kernel_rfl) ?_ _
        have xF := y1.trans (hHeld.mono y1.size)
        clear hcall hHeld
        go_wp2
        go_ret
        exact ⟨ret_int (by rw [← HF.out, HY2.out HQ.out]), b0.trans (xF.mono b0.size)⟩
    · obtain rfl : k = bs.length := by omega
      go_wp2
      go_ret
      exact ⟨ret_int (by rw [← HF.out, find_none bs n (fun j h => HT.out j h h)]), b0.trans (x1.mono b0.size)⟩
end Go.Proofs.Ytmblkgnjcmneeaa

/- The contract of package reasm's rightRuns. -/
namespace Go.Proofs.Ytmblkgnjcmneeaa
open Go.ChangeShapes Go.WideShapes Go.ChangeAt Go.RowKit
set_option linter.unusedVariables false
set_option linter.unusedSimpArgs false

def limB (t : Int) : Int := if t = -1 then 65535 else t
def rrB (b : Bf) : Bool := inB (limB b.total) 1 65535 && (runsB b.total 0 b.runs && decide (0 < b.runs.length))
/-- the test as the code asks it. -/
theorem runB_code (t lo : Int) (r : Rn) (hl : inB (limB t) 1 65535 = true) : runB t lo r = (!(r.data.length == 0) && (decide (r.off % 8 = 0) && inB r.off lo (limB t - (r.data.length : Int)))) := by
  unfold inB limB at hl
  unfold runB inB limB stopR
  rw [Bool.eq_iff_iff]
  simp only [Bool.and_eq_true, Bool.or_eq_true, Bool.not_eq_true', decide_eq_true_eq, decide_eq_false_iff_not, beq_eq_false_iff_ne] at hl ⊢
  split at hl <;> (split <;> omega)
theorem tmod_iff (a : Int) : Int.tmod a 8 = 0 ↔ a % 8 = 0 := ⟨fun h => Int.emod_eq_zero_of_dvd (Int.dvd_of_tmod_eq_zero h), fun h => Int.tmod_eq_zero_of_dvd (Int.dvd_of_emod_eq_zero h)⟩
theorem drop_cons {α : Type} (l : List α) (k : Nat) (h : k < l.length) : l.drop k = l[k] :: l.drop (k + 1) := List.drop_eq_getElem_cons h
theorem runsB_step (t lo : Int) (l : List Rn) (k : Nat) (h : k < l.length) : runsB t lo (l.drop k) = (runB t lo l[k] && runsB t (stopR l[k]) (l.drop (k + 1))) := by
  rw [drop_cons l k h]; rfl
set_option maxRecDepth 100000 in
set_option maxHeartbeats 4000000 in
theorem crightRuns (b : Bf) (Ao : Option Addr) (co : Nat) (Ab : Option Addr) (cb : Nat) (Ar : Option Addr) (cr : Nat) (q : Bool) (hq : rrB b = q) (w : World) (V : Nat → Prop) (hB : BfAt w V b Ao co Ab cb Ar cr) :
    Calls Try.prog 65 #[bfV b Ao co Ab cb Ar cr] w fun e w' => e = .returned (.bool q) ∧ Below w.heap.size w w' := by
  have HQ := Go.Lib.hid hq
  have b0 : Below w.heap.size w (w.alloc (oBf b Ao co Ab cb Ar cr)) := (Below.refl _ _).alloc (Nat.le_refl _) _
  have M0 := Go.Lib.hid (BoBf.made (w := w) (b := b) (Ao := Ao) (co := co) (Ab := Ab) (cb := cb) (Ar := Ar) (cr := cr))
  have s0 : w.heap.size < (w.alloc (oBf b Ao co Ab cb Ar cr)).heap.size := by simp
  have HB0 := Go.Lib.hid (hB.at b0)
  have rlen := hB.rlen
  have rcap := hB.rcap
  clear hB hq
  go_enter Try.func65, Try.ntmps65
  go_upto_region 1 with fail
  generalize w.alloc (oBf b Ao co Ab cb Ar cr) = W at *
  obtain ⟨c0, c1, c2, c3, c4, c5, c6, c7, c8, c9, c10, c11, c12, c13, c14, c15, c16, c17, c18⟩ := M0.out.cells
  clear c0 c1 c2 c3 c4 c5 c6 c7 c8 c9 c10 c11 c12 c13 c14 c15 c16
  go_upto_if 9 with fail
  go_cut [3] (fun s wx => s = .int .i64 (limB b.total) ∧ W = wx)
  case first =>
    by_cases h1 : b.total = -1
    · have e1 : (b.total != -1) = false := by simp [h1]
      go_wp2
      all_goals (go_meet; exact ⟨by simp [limB, h1], rfl⟩)
    · have e1 : (b.total != -1) = true := by simp [h1]
      go_wp2
      all_goals (go_meet; exact ⟨by simp [limB, h1], rfl⟩)
  case rest =>
  obtain ⟨rfl, rfl⟩ := hcut
  have HLI : Hid (limB b.total = limB b.total) := Go.Lib.hid rfl
  cases hl : inB (limB b.total) 1 65535
  · go_wp2_with (first | (go_at_call 49; refine (cwithin _ _ _ false hl _).mono ?_; rintro e w' ⟨rfl, rfl⟩; dsimp only))
    go_ret
    exact ⟨ret_bool (by rw [← HQ.out]; unfold rrB; rw [hl]; rfl), b0⟩
  · have HC := Go.Lib.hid (fun lo r => runB_code b.total lo r hl)
    have hl2 := hl
    unfold inB at hl2
    simp only [Bool.and_eq_true, decide_eq_true_eq] at hl2
    obtain ⟨l0, l1⟩ := hl2
    have HQ2 : Hid (q = (runsB b.total 0 b.runs && decide (0 < b.runs.length))) := Go.Lib.hid (by rw [← HQ.out]; unfold rrB; rw [hl]; rfl)
    clear HQ
    go_upto_region 7 with (first | (go_at_call 49; refine (cwithin _ _ _ true hl _).mono ?_; rintro e w' ⟨rfl, rfl⟩; dsimp only))
    go_wp2
    go_loopw [4, 18] (fun n i wr => ∃ (k : Nat) (lo : Int), k ≤ b.runs.length ∧ i = .int .i64 k ∧ n = .int .i64 lo ∧ 0 ≤ lo ∧ lo ≤ 65535 ∧ Hid (runsB b.total 0 b.runs = runsB b.total lo (b.runs.drop k)) ∧ Below W.heap.size W wr) (fun _ i _ => b.runs.length - (intOf i).toNat)
    case atStart => exact ⟨0, 0, by omega, rfl, rfl, by omega, by omega, Go.Lib.hid (by simp), Below.refl _ _⟩
    case round =>
      obtain ⟨k, lo, hk, rfl, rfl, lo0, lo1, HT, x1⟩ := hrel
      by_cases hlt : k < b.runs.length
      · obtain ⟨ad, Ad, cd, rfl, hb, r0, r1, rb⟩ := (HB0.out.at x1).runs.at_ hlt
        have HS := Go.Lib.hid (runsB_step b.total lo b.runs k hlt)
        have i1 : (0 : Int) ≤ (k : Int) := by omega
        have i2 : (k : Int) < (b.runs.length : Int) := by omega
        have q7 := rb.len
        have q8 := rb.cap
        clear rb
        generalize hd : b.runs[k] = y at *
        clear hd
        have HR := Go.Lib.hid (HC.out lo y)
        have e0 := IntWalk.i64_in (limB b.total - (y.data.length : Int)) (by omega)
        have y1 := below_alloc x1 x1.size (oRn y Ad cd)
        have M1 := Go.Lib.hid (BoRn.made (w := wr) (r := y) (Ad := Ad) (cd := cd))
        have s1 : wr.heap.size < (wr.alloc (oRn y Ad cd)).heap.size := by simp
        have HF : Hid (runB b.total lo y = false → q = false) := Go.Lib.hid (fun h => by rw [HQ2.out, HT.out, HS.out, h]; rfl)
        go_upto_region 10 with fail
        generalize wr.alloc (oRn y Ad cd) = W2 at *
        obtain ⟨d0, d1⟩ := M1.out.cells
        by_cases h1 : y.data.length = 0
        · have t1 : ((y.data.length : Int) == 0) = true := by simp [h1]
          go_wp2
          all_goals (go_ret; exact ⟨ret_bool (by rw [HF.out (by rw [HR.out]; simp [h1])]), b0.trans (y1.mono b0.size)⟩)
        · have t1 : ((y.data.length : Int) == 0) = false := by simp; intro h; rw [h] at h1; simp at h1
          by_cases h2 : y.off % 8 = 0
          · have t2 : (Int.tmod y.off 8 != 0) = false := by simp [(tmod_iff _).2 h2]
            cases h3 : inB y.off lo (limB b.total - (y.data.length : Int))
            · go_wp2_with (first | (go_at_call 49; refine (cwithin _ _ _ false h3 _).mono ?_; rintro e w' ⟨rfl, rfl⟩; dsimp only))
              all_goals (go_ret; exact ⟨ret_bool (by rw [HF.out (by rw [HR.out, h3]; simp)]), b0.trans (y1.mono b0.size)⟩)
            · have HRT : Hid (runB b.total lo y = true) := Go.Lib.hid (by rw [HR.out, h3]; simp [h1, h2])
              have OK := (runB_iff _ _ _).1 HRT.out
              have k1 := OK.top
              have k2 := OK.lo
              have k3 := OK.len
              have k4 : stopR y = y.off + (y.data.length : Int) := rfl
              clear OK
              have HN : Hid (runsB b.total 0 b.runs = runsB b.total (stopR y) (b.runs.drop (k + 1))) := Go.Lib.hid (by rw [HT.out, HS.out, HRT.out]; rfl)
              generalize hst : stopR y = st at *
              have HST := Go.Lib.hid hst
              clear hst
              go_wp2_with (first
                | (go_at_call 49; refine (cwithin _ _ _ true h3 _).mono ?_; rintro e w' ⟨rfl, rfl⟩; dsimp only)
                | (go_at_call 56; refine (cendOf y Ad cd _ st HST.out (by omega) (by omega)).mono ?_; rintro e w' ⟨rfl, hcall⟩; dsimp only))
              go_round
              case rel => exact ⟨k + 1, st, by omega, by go_num, rfl, by omega, by omega, HN, y1.trans (hcall.mono y1.size)⟩
              case measure => simp [intOf]; omega
          · have t2 : (Int.tmod y.off 8 != 0) = true := by simpa using fun h => h2 ((tmod_iff _).1 h)
            go_wp2
            all_goals (go_ret; exact ⟨ret_bool (by rw [HF.out (by rw [HR.out]; simp [h2])]), b0.trans (y1.mono b0.size)⟩)
      · obtain rfl : k = b.runs.length := by omega
        have HE : Hid (q = decide (0 < b.runs.length)) := Go.Lib.hid (by rw [HQ2.out, HT.out, List.drop_length]; simp [runsB])
        obtain ⟨c0, c1, c2, c3, c4, c5, c6, c7, c8, c9, c10, c11, c12, c13, c14, c15, c16, c17, c18⟩ := (M0.out.keep x1 s0).cells
        clear c0 c1 c2 c3 c4 c5 c6 c7 c8 c9 c10 c11 c12 c13 c14 c15 c16
        go_wp2
        go_ret
        exact ⟨ret_bool (by rw [HE.out]), b0.trans (x1.mono b0.size)⟩
end Go.Proofs.Ytmblkgnjcmneeaa

/- The contract of bytes.Equal. -/
namespace Go.Proofs.Ytmblkgnjcmneeaa
open Go.ChangeShapes Go.WideShapes Go.ChangeAt Go.RowKit
set_option linter.unusedVariables false

/-- the string of these bytes. -/
def strB (l : List UInt8) : ByteArray := (l.map fun b => (b.toNat : Int)).foldl (fun r n => r.push (UInt8.ofNat n.toNat)) ByteArray.empty
theorem push_data (l : List UInt8) : ∀ r : ByteArray, ((l.map fun b => (b.toNat : Int)).foldl (fun r n => r.push (UInt8.ofNat n.toNat)) r).data.toList = r.data.toList ++ l := by
  induction l with
  | nil => intro r; simp
  | cons a l ih =>
    intro r
    simp only [List.map_cons, List.foldl_cons]
    rw [ih]
    simp [ByteArray.push]
theorem strB_data (l : List UInt8) : (strB l).data.toList = l := by
  unfold strB
  rw [push_data]
  rfl
theorem strB_eq (a b : List UInt8) : ((strB a).toList == (strB b).toList) = (a == b) := by
  rw [ByteArray.toList_eq, ByteArray.toList_eq, strB_data, strB_data]

theorem conv_bytes (A : Option Addr) (n c : Nat) (l : List UInt8) (B : Nat) (w : World) (hn : l.length = n) (h : Bs w B A l) :
    (convert 23 9 (.slice A n c)).run Try.prog w = .ok (.string (strB l)) w := by
  subst hn
  rw [run_convert_bytes_string w _ _ 5 A l.length c Try.underlying23 Try.underlying5 Try.underlying9]
  rcases A with _ | ad
  · have hl : l = [] := by
      rcases h with h | ⟨ad, h, _⟩
      · exact h
      · cases h
    subst hl
    simp [Conv.bytesToString, strB]
  · have := run_bytesToString (P := Try.prog) w ad l.length c (l.map fun b => (b.toNat : Int)) ?_
    · exact this
    · have hr := run_loadCells_list (P := Try.prog) w ad ((l.map fun b => (b.toNat : Int)).map (Value.int .u8)) (fun j v hj => by
        rcases h with h | ⟨ad', e, _, hc⟩
        · subst h; simp at hj
        · cases e
          rw [List.map_map, List.getElem?_map, Option.map_eq_some_iff] at hj
          obtain ⟨b, hb, rfl⟩ := hj
          exact hc j b hb)
      simpa using hr

set_option maxHeartbeats 400000 in
theorem cequal (A : Option Addr) (n c : Nat) (a : List UInt8) (A' : Option Addr) (n' c' : Nat) (b : List UInt8) (B B' : Nat) (w : World) (hn : a.length = n) (hn' : b.length = n') (h : Bs w B A a) (h' : Bs w B' A' b) :
    Calls Try.prog 25 #[.slice A n c, .slice A' n' c'] w fun e w' => e = .returned (.bool (a == b)) ∧ w = w' := by
  have e1 := conv_bytes A n c a B w hn h
  have e2 := conv_bytes A' n' c' b B' w hn' h'
  have HE := Go.Lib.hid (strB_eq a b)
  clear h h' hn hn'
  generalize strB a = s at *
  generalize strB b = t at *
  go_enter Try.func25, Try.ntmps25
  go_wp2
  go_ret
  exact ⟨ret_bool HE.out, rfl⟩
end Go.Proofs.Ytmblkgnjcmneeaa
