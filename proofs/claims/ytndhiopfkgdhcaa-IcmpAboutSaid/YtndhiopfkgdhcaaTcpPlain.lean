/- Segments and their bytes: plain mathematics. No condition beyond bounds. -/
import Derived.Test.YtndhiopfkgdhcaaIpPlain
namespace Go.Proofs.Ytndhiopfkgdhcaa
open Go.RowKit
set_option linter.unusedVariables false

structure Op where
  kind : Int
  data : List UInt8
structure Tc where
  sport : Int
  dport : Int
  seq : Int
  ack : Int
  flags : Int
  win : Int
  urg : Int
  opts : List Op
  body : List UInt8
def Tc.empty : Tc := ⟨0, 0, 0, 0, 0, 0, 0, [], []⟩
def sameO (a b : Op) : Bool := a.kind == b.kind && a.data == b.data
theorem sameO_iff (a b : Op) : sameO a b = true ↔ a = b := by cases a; cases b; simp [sameO]

/-- one of the five kinds of which there is at most one each. -/
def five (k : Int) : Bool := (decide (2 ≤ k) && decide (k ≤ 5)) || k == 8
/-- has an option of this kind so much data? -/
def okLen (k : Int) (d : Nat) : Bool :=
  if k = 2 then d == 2 else if k = 3 then d == 1 else if k = 4 then d == 0 else if k = 5 then (d != 0 && decide (d ≤ 32)) && d % 8 == 0 else if k = 8 then d == 8 else true
/-- how many bytes options have. -/
def olen : List Op → Nat
  | [] => 0
  | o :: r => 2 + o.data.length + olen r
theorem olen_append : ∀ (a b : List Op), olen (a ++ b) = olen a + olen b
  | [], b => by simp [olen]
  | o :: r, b => by have := olen_append r b; simp only [List.cons_append, olen, this]; omega
theorem olen_take_succ (os : List Op) (i : Nat) (h : i < os.length) : olen (os.take (i + 1)) = olen (os.take i) + (2 + os[i].data.length) := by
  rw [List.take_succ_eq_append_getElem h, olen_append]
  simp [olen]
theorem olen_take_le (os : List Op) (i : Nat) : olen (os.take i) ≤ olen os := by
  have := olen_append (os.take i) (os.drop i)
  rw [List.take_append_drop] at this
  omega
/-- is there one of the same kind, of the five, ahead of place i? -/
def twin (os : List Op) (i : Nat) (k : Int) : Bool := (os.take i).any fun o => o.kind == k && five k
/-- is the option at place i right, behind those ahead of it? -/
def goodAt (os : List Op) (i : Nat) : Bool :=
  match os[i]? with
  | none => false
  | some o => decide (2 ≤ o.kind) && (decide (o.kind ≤ 255) && (okLen o.kind o.data.length && (!twin os i o.kind && decide (olen (os.take (i + 1)) ≤ 40))))
def rightB (os : List Op) : Bool := (List.range os.length).all (goodAt os)
theorem rightB_iff (os : List Op) : rightB os = true ↔ ∀ i, i < os.length → goodAt os i = true := by simp [rightB]
structure Good (os : List Op) (i : Nat) (h : i < os.length) : Prop where
  k0 : 2 ≤ os[i].kind
  k1 : os[i].kind ≤ 255
  len : okLen os[i].kind os[i].data.length = true
  tw : twin os i os[i].kind = false
  n40 : olen (os.take (i + 1)) ≤ 40
theorem goodAt_iff (os : List Op) (i : Nat) (h : i < os.length) : goodAt os i = true ↔ Good os i h := by
  unfold goodAt
  rw [List.getElem?_eq_getElem h]
  simp only [Bool.and_eq_true, decide_eq_true_eq, Bool.not_eq_true']
  exact ⟨fun ⟨a, b, c, d, e⟩ => ⟨a, b, c, d, e⟩, fun h => ⟨h.k0, h.k1, h.len, h.tw, h.n40⟩⟩
theorem right_olen (os : List Op) (h : rightB os = true) : olen os ≤ 40 := by
  rw [rightB_iff] at h
  by_cases h0 : os.length = 0
  · rw [List.length_eq_zero_iff.1 h0]; simp [olen]
  · have := ((goodAt_iff os (os.length - 1) (by omega)).1 (h _ (by omega))).n40
    rw [show os.length - 1 + 1 = os.length by omega, List.take_length] at this
    exact this
theorem goodAt_append (a b : List Op) (i : Nat) (h : i < a.length) : goodAt (a ++ b) i = goodAt a i := by
  unfold goodAt twin
  rw [List.getElem?_append_left h, List.take_append_of_le_length (by omega), List.take_append_of_le_length (by omega)]
theorem right_prefix (a b : List Op) (h : rightB (a ++ b) = true) : rightB a = true := by
  rw [rightB_iff] at h ⊢
  intro i hi
  have := h i (by rw [List.length_append]; omega)
  rwa [goodAt_append a b i hi] at this
theorem right_nil : rightB [] = true := rfl
/-- one option more. -/
theorem right_snoc (a : List Op) (o : Op) (h : rightB a = true) : rightB (a ++ [o]) = goodAt (a ++ [o]) a.length := by
  rw [Bool.eq_iff_iff, rightB_iff]
  constructor
  · intro h2; exact h2 _ (by simp)
  · intro h2 i hi
    by_cases e : i = a.length
    · subst e; exact h2
    · have hl : i < a.length := by simp at hi; omega
      rw [goodAt_append a [o] i hl]
      exact (rightB_iff a).1 h i hl
theorem right_first (o : Op) : True := trivial

/-- the bytes of options. -/
def opB (o : Op) : List UInt8 := b8 o.kind :: b8 (2 + o.data.length) :: o.data
def opsB : List Op → List UInt8
  | [] => []
  | o :: r => opB o ++ opsB r
theorem opsB_append : ∀ (a b : List Op), opsB (a ++ b) = opsB a ++ opsB b
  | [], b => rfl
  | o :: r, b => by have := opsB_append r b; simp only [List.cons_append, opsB, this, List.append_assoc]
theorem opsB_length : ∀ (os : List Op), (opsB os).length = olen os
  | [] => rfl
  | o :: r => by have := opsB_length r; simp only [opsB, olen, opB, List.length_append, List.length_cons, this]; omega
theorem opsB_take_succ (os : List Op) (i : Nat) (h : i < os.length) : opsB (os.take (i + 1)) = opsB (os.take i) ++ opB os[i] := by
  rw [List.take_succ_eq_append_getElem h, opsB_append]
  simp [opsB]
/-- how many bytes 0 stand behind so many bytes of options. -/
def padN (n : Nat) : Nat := (4 - n % 4) % 4
theorem padN_spec (n : Nat) : (n + padN n) % 4 = 0 ∧ padN n < 4 := by unfold padN; omega
def padB (os : List Op) : List UInt8 := opsB os ++ List.replicate (padN (olen os)) 0
theorem padB_length (os : List Op) : (padB os).length = olen os + padN (olen os) := by simp [padB, opsB_length]

def two (n : Int) : List UInt8 := [b8 (n / 256), b8 (n % 256)]
def four (n : Int) : List UInt8 := [b8 (n / 16777216), b8 (n / 65536 % 256), b8 (n / 256 % 256), b8 (n % 256)]
/-- how long the head is. -/
def thl (os : List Op) : Nat := 20 + (olen os + padN (olen os))
theorem thl_four (os : List Op) : thl os % 4 = 0 := by unfold thl; have := padN_spec (olen os); omega
/-- a segment's bytes, with a check sum. -/
def seg20 (t : Tc) (check : Int) : List UInt8 :=
  [b8 (t.sport / 256), b8 (t.sport % 256), b8 (t.dport / 256), b8 (t.dport % 256), b8 (t.seq / 16777216), b8 (t.seq / 65536 % 256), b8 (t.seq / 256 % 256), b8 (t.seq % 256), b8 (t.ack / 16777216), b8 (t.ack / 65536 % 256), b8 (t.ack / 256 % 256), b8 (t.ack % 256),
    b8 ((thl t.opts : Int) / 4 * 16), b8 t.flags, b8 (t.win / 256), b8 (t.win % 256), b8 (check / 256), b8 (check % 256), b8 (t.urg / 256), b8 (t.urg % 256)]
def segB (t : Tc) (check : Int) : List UInt8 := seg20 t check ++ (padB t.opts ++ t.body)
theorem segB_length (t : Tc) (c : Int) : (segB t c).length = thl t.opts + t.body.length := by simp [segB, seg20, padB_length, thl]; omega
/-- the sum with the pseudo head. -/
def sumT (proto : Int) (src dst : Int) (l : List UInt8) : Int := fo (pseudo src dst proto (l.length : Int) + fo (tot l))
theorem sumT_lo (p src dst : Int) (l : List UInt8) : 0 ≤ sumT p src dst l := fo_lo _
theorem sumT_hi (p src dst : Int) (l : List UInt8) : sumT p src dst l ≤ 65535 := fo_hi _
def chkT (src dst : Int) (t : Tc) : Int := 65535 - sumT 6 src dst (segB t 0)
theorem chkT_lo (src dst : Int) (t : Tc) : 0 ≤ chkT src dst t := by have := sumT_hi 6 src dst (segB t 0); unfold chkT; omega
theorem chkT_hi (src dst : Int) (t : Tc) : chkT src dst t ≤ 65535 := by have := sumT_lo 6 src dst (segB t 0); unfold chkT; omega
def putT (src dst : Int) (t : Tc) : List UInt8 := segB t (chkT src dst t)
theorem putT_length (src dst : Int) (t : Tc) : (putT src dst t).length = thl t.opts + t.body.length := segB_length _ _

structure MayT (t : Tc) : Prop where
  s0 : 0 ≤ t.sport
  s1 : t.sport ≤ 65535
  d0 : 0 ≤ t.dport
  d1 : t.dport ≤ 65535
  w0 : 0 ≤ t.win
  w1 : t.win ≤ 65535
  u0 : 0 ≤ t.urg
  u1 : t.urg ≤ 65535
  f0 : 0 ≤ t.flags
  f1 : t.flags ≤ 255
  opts : rightB t.opts = true
  fit : thl t.opts + t.body.length ≤ 65535
def inB (n m : Int) : Bool := decide (0 ≤ n) && decide (n ≤ m)
def mayT (t : Tc) : Bool := inB t.sport 65535 && (inB t.dport 65535 && (inB t.win 65535 && (inB t.urg 65535 && (inB t.flags 255 && (rightB t.opts && decide (thl t.opts + t.body.length ≤ 65535))))))
theorem mayT_iff (t : Tc) : mayT t = true ↔ MayT t := by
  unfold mayT inB
  simp only [Bool.and_eq_true, decide_eq_true_eq]
  constructor
  · rintro ⟨⟨a, b⟩, ⟨c, d⟩, ⟨e, f⟩, ⟨g, i⟩, ⟨j, k⟩, l, m⟩
    exact ⟨a, b, c, d, e, f, g, i, j, k, l, m⟩
  · intro h
    exact ⟨⟨h.s0, h.s1⟩, ⟨h.d0, h.d1⟩, ⟨h.w0, h.w1⟩, ⟨h.u0, h.u1⟩, ⟨h.f0, h.f1⟩, h.opts, h.fit⟩

/-- the options of these bytes, behind those that came; none: there is one that is none. -/
def pOpts : Nat → List UInt8 → List Op → Option (List Op)
  | 0, _, acc => some acc
  | _ + 1, [], acc => some acc
  | f + 1, k :: r, acc =>
    if k = 0 then some acc
    else if k = 1 then pOpts f r acc
    else
      match r with
      | [] => none
      | n :: r =>
        if n.toNat < 2 ∨ r.length < n.toNat - 2 then none
        else if rightB (acc ++ [⟨(k.toNat : Int), r.take (n.toNat - 2)⟩]) then pOpts f (r.drop (n.toNat - 2)) (acc ++ [⟨(k.toNat : Int), r.take (n.toNat - 2)⟩]) else none

/-- how long the head says that it is. -/
def tsz (l : List UInt8) : Int := g8 l 12 / 16 * 4
def prsT (src dst : Int) (l : List UInt8) : Int × Tc :=
  if 65535 < l.length then (4, Tc.empty)
  else if l.length < 20 then (2, Tc.empty)
  else if tsz l < 20 ∨ (l.length : Int) < tsz l then (3, Tc.empty)
  else if sumT 6 src dst l ≠ 65535 then (5, Tc.empty)
  else
    match pOpts 60 ((l.take (tsz l).toNat).drop 20) [] with
    | none => (6, Tc.empty)
    | some os => (0, ⟨wd l 0, wd l 2, ad4 l 4, ad4 l 8, g8 l 13, wd l 14, wd l 18, os, l.drop (tsz l).toNat⟩)

/-- what is put is read as it was. -/
theorem pOpts_put : ∀ (os : List Op) (f m : Nat) (acc : List Op), (opsB os).length + m ≤ f → rightB (acc ++ os) = true → pOpts f (opsB os ++ List.replicate m 0) acc = some (acc ++ os)
  | [], f, m, acc, _, h => by
    simp only [opsB, List.nil_append, List.append_nil]
    cases f with
    | zero => rfl
    | succ f =>
      cases m with
      | zero => rfl
      | succ m => simp [List.replicate_succ, pOpts]
  | o :: r, f, m, acc, hf, h => by
    have hg := (goodAt_iff (acc ++ o :: r) acc.length (by simp)).1 ((rightB_iff _).1 h _ (by simp))
    have e0 : (acc ++ o :: r)[acc.length]'(by simp) = o := by simp
    have k0 := hg.k0
    have k1 := hg.k1
    rw [e0] at k0 k1
    have n40 := right_olen _ h
    rw [olen_append] at n40
    simp only [olen] at n40
    simp only [opsB, opB, List.length_append, List.length_cons] at hf
    cases f with
    | zero => omega
    | succ f =>
      have b1 := b8_is o.kind (by omega) k1
      have b2 := b8_is (2 + o.data.length) (by omega) (by omega)
      have hk : ¬ b8 o.kind = 0 := fun e => by rw [e] at b1; simp at b1; omega
      have hk1 : ¬ b8 o.kind = 1 := fun e => by rw [e] at b1; simp at b1; omega
      have e2 : (b8 (2 + (o.data.length : Int))).toNat = 2 + o.data.length := by omega
      simp only [opsB, opB, List.cons_append, List.append_assoc]
      rw [pOpts, if_neg hk, if_neg hk1, e2, if_neg (by simp), show 2 + o.data.length - 2 = o.data.length by omega, List.take_left, List.drop_left, b1]
      have h' : rightB (acc ++ [o] ++ r) = true := by simpa using h
      have hs := right_prefix _ _ h'
      rw [if_pos hs, pOpts_put r f m (acc ++ [o]) (by omega) h']
      simp

/-- what is read of them is right, and no longer than they. -/
theorem pOpts_right : ∀ (f : Nat) (l : List UInt8) (acc os : List Op), rightB acc = true → pOpts f l acc = some os → rightB os = true ∧ olen os ≤ olen acc + l.length
  | 0, l, acc, os, h, e => by simp only [pOpts, Option.some.injEq] at e; subst e; exact ⟨h, by omega⟩
  | f + 1, [], acc, os, h, e => by simp only [pOpts, Option.some.injEq] at e; subst e; exact ⟨h, by omega⟩
  | f + 1, [k], acc, os, h, e => by
    rw [pOpts] at e
    split at e
    · simp only [Option.some.injEq] at e; subst e; exact ⟨h, by omega⟩
    · split at e
      · have := pOpts_right f [] acc os h e
        exact ⟨this.1, by have := this.2; simp at this ⊢; omega⟩
      · simp at e
  | f + 1, k :: n :: r, acc, os, h, e => by
    rw [pOpts] at e
    split at e
    · simp only [Option.some.injEq] at e; subst e; exact ⟨h, by omega⟩
    · split at e
      · have := pOpts_right f (n :: r) acc os h e
        exact ⟨this.1, by have := this.2; simp at this ⊢; omega⟩
      · split at e
        · simp at e
        · rename_i hn
          split at e
          · rename_i hr
            have := pOpts_right f _ _ os hr e
            refine ⟨this.1, ?_⟩
            have h2 := this.2
            rw [olen_append] at h2
            simp only [olen, List.length_take, List.length_drop, List.length_cons] at h2 ⊢
            omega
          · simp at e

theorem g8_list (l : List UInt8) (k : Nat) : True := trivial
theorem seg_bytes (t : Tc) (c : Int) (h : MayT t) (hq : 0 ≤ t.seq ∧ t.seq ≤ 4294967295) (ha : 0 ≤ t.ack ∧ t.ack ≤ 4294967295) :
    wd (segB t c) 0 = t.sport ∧ wd (segB t c) 2 = t.dport ∧ ad4 (segB t c) 4 = t.seq ∧ ad4 (segB t c) 8 = t.ack ∧ tsz (segB t c) = (thl t.opts : Int) ∧ g8 (segB t c) 13 = t.flags ∧ wd (segB t c) 14 = t.win ∧ wd (segB t c) 18 = t.urg := by
  obtain ⟨s0, s1, d0, d1, w0, w1, u0, u1, f0, f1, ho, fit⟩ := h
  have h40 := right_olen _ ho
  have h4 := thl_four t.opts
  have hp := padN_spec (olen t.opts)
  have h60 : thl t.opts ≤ 60 := by unfold thl; omega
  have h20 : 20 ≤ thl t.opts := by unfold thl; omega
  unfold segB seg20 tsz ad4 wd
  simp only [List.cons_append, List.nil_append, Nat.reduceAdd]
  refine ⟨?_, ?_, ?_, ?_, ?_, ?_, ?_, ?_⟩ <;> simp only [show ∀ (a : UInt8) (r : List UInt8), g8 (a :: r) 0 = (a.toNat : Int) from fun _ _ => rfl, show ∀ (a : UInt8) (r : List UInt8) (k : Nat), g8 (a :: r) (k + 1) = g8 r k from fun _ _ _ => rfl]
  · rw [b8_is _ (by omega) (by omega), b8_is _ (by omega) (by omega)]; omega
  · rw [b8_is _ (by omega) (by omega), b8_is _ (by omega) (by omega)]; omega
  · rw [b8_is _ (by omega) (by omega), b8_is _ (by omega) (by omega), b8_is _ (by omega) (by omega), b8_is _ (by omega) (by omega)]; omega
  · rw [b8_is _ (by omega) (by omega), b8_is _ (by omega) (by omega), b8_is _ (by omega) (by omega), b8_is _ (by omega) (by omega)]; omega
  · rw [b8_is _ (by omega) (by omega)]; omega
  · rw [b8_is _ (by omega) (by omega)]
  · rw [b8_is _ (by omega) (by omega), b8_is _ (by omega) (by omega)]; omega
  · rw [b8_is _ (by omega) (by omega), b8_is _ (by omega) (by omega)]; omega

/-- the check sum stands at 16. -/
theorem seg_set (t : Tc) (c : Int) : ((segB t 0).set 16 (b8 (c / 256))).set (16 + 1) (b8 (c % 256)) = segB t c := by
  unfold segB seg20
  simp only [List.set_cons_succ, List.set_cons_zero, Nat.reduceAdd, List.cons_append, List.nil_append]
theorem tot_seg (t : Tc) (c : Int) (h0 : 0 ≤ c) (h1 : c ≤ 65535) : tot (segB t c) = tot (segB t 0) + c := by
  rw [← seg_set t c]
  have := tot_set 8 (segB t 0) (b8 (c / 256)) (b8 (c % 256)) (by rw [segB_length]; unfold thl; omega)
  simp only [Nat.reduceMul, Nat.reduceAdd] at this
  simp only [Nat.reduceAdd]
  have z : (segB t 0)[16]'(by rw [segB_length]; unfold thl; omega) = 0 := rfl
  have z1 : (segB t 0)[17]'(by rw [segB_length]; unfold thl; omega) = 0 := rfl
  rw [this, z, z1, b8_is _ (by omega) (by omega), b8_is _ (by omega) (by omega)]
  simp; omega
theorem pseudo_lo (s d p z : Int) : 0 ≤ pseudo s d p z := fo_lo _
/-- the sum of what is put fits. -/
theorem sum_put (src dst : Int) (t : Tc) : sumT 6 src dst (putT src dst t) = 65535 := by
  have c0 := chkT_lo src dst t
  have c1 := chkT_hi src dst t
  have t0 := tot_lo (segB t 0)
  have p0 := pseudo_lo src dst 6 (((segB t 0).length : Nat) : Int)
  have hl : (putT src dst t).length = (segB t 0).length := by rw [putT_length, segB_length]
  unfold sumT
  rw [hl, show tot (putT src dst t) = tot (segB t 0) + chkT src dst t from tot_seg t _ c0 c1, fo_fo' _ _ p0 (by omega)]
  have hc : chkT src dst t = 65535 - fo (pseudo src dst 6 ((segB t 0).length : Int) + tot (segB t 0)) := by
    unfold chkT sumT; rw [fo_fo' _ _ p0 t0]
  rw [hc]
  have := stands (pseudo src dst 6 ((segB t 0).length : Int) + tot (segB t 0)) (by omega)
  rw [← this]
  congr 1
  omega
theorem seg_opts (t : Tc) (c : Int) : ((segB t c).take (thl t.opts)).drop 20 = padB t.opts ∧ (segB t c).drop (thl t.opts) = t.body := by
  have hl : (seg20 t c ++ padB t.opts).length = thl t.opts := by simp [seg20, padB_length, thl]; omega
  have e : segB t c = (seg20 t c ++ padB t.opts) ++ t.body := by unfold segB; rw [List.append_assoc]
  rw [e, ← hl]
  constructor
  · rw [List.take_left, show 20 = (seg20 t c).length from rfl, List.drop_left]
  · rw [List.drop_left]
/-- what is put is parsed as it was. -/
theorem prs_putT (src dst : Int) (t : Tc) (h : MayT t) (hq : 0 ≤ t.seq ∧ t.seq ≤ 4294967295) (ha : 0 ≤ t.ack ∧ t.ack ≤ 4294967295) : prsT src dst (putT src dst t) = (0, t) := by
  obtain ⟨g0, g2, g4, g8', g12, g13, g14, g18⟩ := seg_bytes t (chkT src dst t) h hq ha
  have hl := putT_length src dst t
  have fit := h.fit
  have h20 : 20 ≤ thl t.opts := by unfold thl; omega
  have h40 := right_olen _ h.opts
  have hp := padN_spec (olen t.opts)
  obtain ⟨o1, o2⟩ := seg_opts t (chkT src dst t)
  have hs := sum_put src dst t
  have hx : tsz (putT src dst t) = (thl t.opts : Int) := g12
  have eo : pOpts 60 (padB t.opts) [] = some t.opts := by
    have := pOpts_put t.opts 60 (padN (olen t.opts)) [] (by rw [opsB_length]; omega) (by simpa using h.opts)
    exact this
  unfold prsT
  rw [if_neg (by omega), if_neg (by omega), if_neg (by rw [hx]; omega), if_neg (by rw [hs]; simp), hx]
  have ex : ((thl t.opts : Int)).toNat = thl t.opts := by omega
  rw [ex]
  unfold putT
  rw [o1, eo, g0, g2, g4, g8', g13, g14, g18, o2]

/-- what is read may be put, and is no longer then. -/
theorem prsT_ok (src dst : Int) (l : List UInt8) (h : (prsT src dst l).1 = 0) : MayT (prsT src dst l).2 ∧ (0 ≤ (prsT src dst l).2.seq ∧ (prsT src dst l).2.seq ≤ 4294967295) ∧ (0 ≤ (prsT src dst l).2.ack ∧ (prsT src dst l).2.ack ≤ 4294967295) ∧
    thl (prsT src dst l).2.opts + (prsT src dst l).2.body.length ≤ l.length := by
  unfold prsT at h ⊢
  split at h
  · cases h
  · rename_i h1
    rw [if_neg h1]
    split at h
    · cases h
    · rename_i h2
      rw [if_neg h2]
      split at h
      · cases h
      · rename_i h3
        rw [if_neg h3]
        split at h
        · cases h
        · rename_i h4
          rw [if_neg h4]
          cases hp : pOpts 60 ((l.take (tsz l).toNat).drop 20) [] with
          | none => rw [hp] at h; cases h
          | some os =>
            dsimp only
            obtain ⟨hr, hn⟩ := pOpts_right _ _ _ _ right_nil hp
            simp only [olen, List.length_drop, List.length_take] at hn
            have hz : tsz l % 4 = 0 := by unfold tsz; omega
            have hf : thl os + (l.drop (tsz l).toNat).length ≤ l.length := by
              rw [List.length_drop]
              have := padN_spec (olen os)
              unfold thl
              omega
            refine ⟨⟨wd_lo _ _, wd_hi _ _, wd_lo _ _, wd_hi _ _, wd_lo _ _, wd_hi _ _, wd_lo _ _, wd_hi _ _, g8_lo _ _, g8_hi _ _, hr, by dsimp only; omega⟩, ⟨ad4_lo _ _, ad4_hi _ _⟩, ⟨ad4_lo _ _, ad4_hi _ _⟩, hf⟩
end Go.Proofs.Ytndhiopfkgdhcaa
