/- Messages of control and their bytes, and the packets that they are about: plain mathematics. No condition beyond bounds. -/
import Derived.Test.YtndhiopfkgdhcaaIpE
import Derived.Test.YtndhiopfkgdhcaaUdpPlain
namespace Go.Proofs.Ytndhiopfkgdhcaa
open Go.RowKit
set_option linter.unusedVariables false

structure Ic where
  type : Int
  code : Int
  rest : Int
  body : List UInt8
def Ic.empty : Ic := ⟨0, 0, 0, []⟩
def sameI (a b : Ic) : Bool := a.type == b.type && (a.code == b.code && (a.rest == b.rest && a.body == b.body))
theorem sameI_iff (a b : Ic) : sameI a b = true ↔ a = b := by cases a; cases b; simp [sameI]
def icB (m : Ic) (c : Int) : List UInt8 := [b8 m.type, b8 m.code, b8 (c / 256), b8 (c % 256), b8 (m.rest / 16777216), b8 (m.rest / 65536 % 256), b8 (m.rest / 256 % 256), b8 (m.rest % 256)] ++ m.body
theorem icB_length (m : Ic) (c : Int) : (icB m c).length = 8 + m.body.length := by simp [icB]; omega
def chkI (m : Ic) : Int := 65535 - fo (tot (icB m 0))
theorem chkI_lo (m : Ic) : 0 ≤ chkI m := by unfold chkI; have := fo_hi (tot (icB m 0)); omega
theorem chkI_hi (m : Ic) : chkI m ≤ 65535 := by unfold chkI; have := fo_lo (tot (icB m 0)); omega
def putI (m : Ic) : List UInt8 := icB m (chkI m)
theorem putI_length (m : Ic) : (putI m).length = 8 + m.body.length := icB_length _ _
structure MayI (m : Ic) : Prop where
  t0 : 0 ≤ m.type
  t1 : m.type ≤ 255
  c0 : 0 ≤ m.code
  c1 : m.code ≤ 255
  fit : m.body.length ≤ 65527
def mayI (m : Ic) : Bool := inB m.type 255 && (inB m.code 255 && decide (m.body.length ≤ 65527))
theorem mayI_iff (m : Ic) : mayI m = true ↔ MayI m := by
  unfold mayI inB
  simp only [Bool.and_eq_true, decide_eq_true_eq]
  exact ⟨fun ⟨⟨a, b⟩, ⟨c, d⟩, e⟩ => ⟨a, b, c, d, e⟩, fun h => ⟨⟨h.t0, h.t1⟩, ⟨h.c0, h.c1⟩, h.fit⟩⟩
def errK (k : Int) : Bool := k == 3 || (k == 4 || (k == 11 || k == 12))
def prsI (l : List UInt8) : Int × Ic :=
  if l.length < 8 then (2, Ic.empty)
  else if 65535 < l.length then (4, Ic.empty)
  else if fo (tot l) ≠ 65535 then (5, Ic.empty)
  else (0, ⟨g8 l 0, g8 l 1, ad4 l 4, l.drop 8⟩)

/-- the sum is taken without its own place: that of a word 0. -/
theorem tot_skip (m : Ic) : tot ([b8 m.type, b8 m.code] ++ ([b8 (m.rest / 16777216), b8 (m.rest / 65536 % 256), b8 (m.rest / 256 % 256), b8 (m.rest % 256)] ++ m.body)) = tot (icB m 0) := by
  have z : b8 ((0 : Int) / 256) = 0 := rfl
  have z' : b8 ((0 : Int) % 256) = 0 := rfl
  unfold icB
  rw [z, z']
  simp [tot]
theorem ic_bytes (m : Ic) (c : Int) (h : MayI m) (hr : 0 ≤ m.rest ∧ m.rest ≤ 4294967295) : g8 (icB m c) 0 = m.type ∧ g8 (icB m c) 1 = m.code ∧ ad4 (icB m c) 4 = m.rest := by
  obtain ⟨t0, t1, c0, c1, fit⟩ := h
  unfold icB ad4 wd
  simp only [List.cons_append, List.nil_append, Nat.reduceAdd]
  refine ⟨?_, ?_, ?_⟩ <;> simp only [show ∀ (a : UInt8) (r : List UInt8), g8 (a :: r) 0 = (a.toNat : Int) from fun _ _ => rfl, show ∀ (a : UInt8) (r : List UInt8) (k : Nat), g8 (a :: r) (k + 1) = g8 r k from fun _ _ _ => rfl]
  · rw [b8_is _ (by omega) (by omega)]
  · rw [b8_is _ (by omega) (by omega)]
  · rw [b8_is _ (by omega) (by omega), b8_is _ (by omega) (by omega), b8_is _ (by omega) (by omega), b8_is _ (by omega) (by omega)]; omega
theorem ic_set (m : Ic) (c : Int) : ((icB m 0).set 2 (b8 (c / 256))).set (2 + 1) (b8 (c % 256)) = icB m c := by
  unfold icB
  simp only [List.set_cons_succ, List.set_cons_zero, Nat.reduceAdd, List.cons_append, List.nil_append]
theorem tot_ic (m : Ic) (c : Int) (h0 : 0 ≤ c) (h1 : c ≤ 65535) : tot (icB m c) = tot (icB m 0) + c := by
  rw [← ic_set m c]
  have := tot_set 1 (icB m 0) (b8 (c / 256)) (b8 (c % 256)) (by rw [icB_length]; omega)
  simp only [Nat.reduceMul, Nat.reduceAdd] at this
  simp only [Nat.reduceAdd]
  have z : (icB m 0)[2]'(by rw [icB_length]; omega) = 0 := rfl
  have z1 : (icB m 0)[3]'(by rw [icB_length]; omega) = 0 := rfl
  rw [this, z, z1, b8_is _ (by omega) (by omega), b8_is _ (by omega) (by omega)]
  simp; omega
theorem sum_putI (m : Ic) : fo (tot (putI m)) = 65535 := by
  have := stands (tot (icB m 0)) (tot_lo _)
  unfold putI
  rw [tot_ic m _ (chkI_lo m) (chkI_hi m)]
  exact this
/-- what is put is parsed as it was. -/
theorem prs_putI (m : Ic) (h : MayI m) (hr : 0 ≤ m.rest ∧ m.rest ≤ 4294967295) : prsI (putI m) = (0, m) := by
  obtain ⟨g0, g1, g4⟩ := ic_bytes m (chkI m) h hr
  have hl := putI_length m
  have fit := h.fit
  have e : putI m = icB m (chkI m) := rfl
  unfold prsI
  rw [if_neg (by omega), if_neg (by omega), if_neg (by rw [sum_putI]; simp), e, g0, g1, g4]
  rfl
theorem prsI_ok (l : List UInt8) (h : (prsI l).1 = 0) : MayI (prsI l).2 ∧ (0 ≤ (prsI l).2.rest ∧ (prsI l).2.rest ≤ 4294967295) ∧ (putI (prsI l).2).length = l.length ∧ (putI (prsI l).2).drop 4 = l.drop 4 ∧ g8 (putI (prsI l).2) 0 = g8 l 0 ∧ g8 (putI (prsI l).2) 1 = g8 l 1 := by
  unfold prsI at h
  split at h
  · cases h
  · rename_i h1
    split at h
    · cases h
    · rename_i h2
      split at h
      · cases h
      · rename_i h3
        have e : (prsI l).2 = ⟨g8 l 0, g8 l 1, ad4 l 4, l.drop 8⟩ := by unfold prsI; rw [if_neg h1, if_neg h2, if_neg h3]
        rw [e]
        have hM : MayI ⟨g8 l 0, g8 l 1, ad4 l 4, l.drop 8⟩ := ⟨g8_lo _ _, g8_hi _ _, g8_lo _ _, g8_hi _ _, by dsimp only; rw [List.length_drop]; omega⟩
        have hr : 0 ≤ ad4 l 4 ∧ ad4 l 4 ≤ 4294967295 := ⟨ad4_lo _ _, ad4_hi _ _⟩
        obtain ⟨g0, g1, _⟩ := ic_bytes ⟨g8 l 0, g8 l 1, ad4 l 4, l.drop 8⟩ (chkI ⟨g8 l 0, g8 l 1, ad4 l 4, l.drop 8⟩) hM hr
        refine ⟨hM, hr, ?_, ?_, g0, g1⟩
        · rw [putI_length]; dsimp only; rw [List.length_drop]; omega
        · unfold putI icB
          dsimp only
          have a4 := g8_lo l 4
          have a5 := g8_lo l 5
          have a6 := g8_lo l 6
          have a7 := g8_lo l 7
          have b4 := g8_hi l 4
          have b5 := g8_hi l 5
          have b6 := g8_hi l 6
          have b7 := g8_hi l 7
          have e1 : ad4 l 4 / 16777216 = g8 l 4 := by simp only [ad4, wd, Nat.reduceAdd]; omega
          have e2 : ad4 l 4 / 65536 % 256 = g8 l 5 := by simp only [ad4, wd, Nat.reduceAdd]; omega
          have e3 : ad4 l 4 / 256 % 256 = g8 l 6 := by simp only [ad4, wd, Nat.reduceAdd]; omega
          have e4 : ad4 l 4 % 256 = g8 l 7 := by simp only [ad4, wd, Nat.reduceAdd]; omega
          rw [e1, e2, e3, e4, b8g l 4 (by omega), b8g l 5 (by omega), b8g l 6 (by omega), b8g l 7 (by omega)]
          have h8 : 8 ≤ l.length := by omega
          rw [List.drop_eq_getElem_cons (l := l) (i := 4) (by omega), List.drop_eq_getElem_cons (l := l) (i := 5) (by omega), List.drop_eq_getElem_cons (l := l) (i := 6) (by omega), List.drop_eq_getElem_cons (l := l) (i := 7) (by omega)]
          rfl

/-- the packet that an error is about: its first error, or it. -/
def aboutI (m : Ic) : Int × Pk :=
  if errK m.type = false then (1, Pk.empty)
  else if m.body.length < 20 then (2, Pk.empty)
  else if g8 m.body 0 / 16 ≠ 4 ∨ headN m.body < 20 ∨ (m.body.length : Int) < headN m.body then (3, Pk.empty)
  else if wd m.body 2 < headN m.body then (4, Pk.empty)
  else if fo (tot (m.body.take (headN m.body).toNat)) ≠ 65535 then (5, Pk.empty)
  else if (m.body.length : Int) - headN m.body < 8 ∧ (m.body.length : Int) < wd m.body 2 then (2, Pk.empty)
  else (0, ⟨g8 m.body 1, wd m.body 4, decide (wd m.body 6 / 16384 % 2 = 1), decide (wd m.body 6 / 8192 % 2 = 1), wd m.body 6 % 8192 * 8, g8 m.body 8, g8 m.body 9, ad4 m.body 12, ad4 m.body 16, (m.body.take (headN m.body).toNat).drop 20, (m.body.take (wd m.body 2).toNat).drop (headN m.body).toNat⟩)
/-- is this packet itself an error's? -/
def ownErr (p : Pk) : Bool := p.proto == 1 && (decide (0 < p.body.length) && errK (g8 p.body 0))
/-- an error that is told of a packet. -/
def tellI (kind code rest : Int) (l : List UInt8) : Int × Ic :=
  if errK kind = false ∨ code < 0 ∨ 255 < code then (1, Ic.empty)
  else if (prs l).1 ≠ 0 then ((prs l).1, Ic.empty)
  else if 0 < (prs l).2.off ∨ ownErr (prs l).2 = true then (14, Ic.empty)
  else (0, ⟨kind, code, rest, l.take (20 + (prs l).2.opts.length + min 8 (prs l).2.body.length)⟩)

theorem putB_front (p : Pk) : (putB p).take (20 + p.opts.length + min 8 p.body.length) = hd p (chk p) ++ p.body.take 8 := by
  have h : 20 + p.opts.length = (hd p (chk p)).length := by rw [hd_length]
  unfold putB
  rw [h, List.take_length_add_append]
  congr 1
  by_cases h8 : p.body.length ≤ 8
  · rw [Nat.min_eq_right h8, List.take_of_length_le (Nat.le_refl _), List.take_of_length_le h8]
  · rw [Nat.min_eq_left (by omega)]
/-- an error that is told of a packet is about that one: its head, and the beginning of its body. -/
theorem about_front (p : Pk) (h : May p) (hr : Rng p) (x : Ic) (ht : errK x.type = true) (hb : x.body = (putB p).take (20 + p.opts.length + min 8 p.body.length)) :
    aboutI x = (0, ⟨p.tos, p.id, p.df, p.mf, p.off, p.ttl, p.proto, p.src, p.dst, p.opts, p.body.take 8⟩) := by
  rw [putB_front] at hb
  obtain ⟨g0, g1, g2, g4, g6, g8', g9, g12, g16⟩ := put_bytes p (chk p) (p.body.take 8) h hr (chk_lo p) (chk_hi p)
  have hl : ((hd p (chk p) ++ p.body.take 8).length : Int) = hln p + (min 8 p.body.length : Nat) := by rw [List.length_append, hd_length, List.length_take]; unfold hln; omega
  have hh : hln p = 20 + (p.opts.length : Int) := rfl
  have hw : whl p = hln p + (p.body.length : Int) := rfl
  have p4 := h.p4
  have p40 := h.p40
  obtain ⟨d1, d2, d3, d4, d5⟩ := flg_parts p h
  have hn : headN (hd p (chk p) ++ p.body.take 8) = hln p := by unfold headN; rw [g0]; omega
  have e1 : ((hd p (chk p)).drop 20) = p.opts := by
    unfold hd
    rw [List.drop_append_of_le_length (by simp [hd20])]
    simp [hd20]
  have e2 : ((hd p (chk p) ++ p.body.take 8).take (whl p).toNat).drop (hln p).toNat = p.body.take 8 := by
    have a : (hln p).toNat = (hd p (chk p)).length := by rw [hd_length]; omega
    rw [List.take_of_length_le (by omega), a, List.drop_left]
  unfold aboutI
  rw [if_neg (by rw [ht]; simp), hb, if_neg (by omega), if_neg (by rw [g0, hn]; omega), if_neg (by rw [g2, hn]; omega), if_neg (by rw [hn, hd_take, hd_sum]; simp), if_neg (by rw [hn, g2]; omega)]
  rw [g1, g2, g4, g6, g8', g9, g12, g16, hn, hd_take, d1, d2, d3, e1, e2]
theorem tell_put (p : Pk) (h : May p) (hr : Rng p) (rest : Int) : tellI 3 1 rest (putB p) = if 0 < p.off ∨ ownErr p = true then (14, Ic.empty) else (0, ⟨3, 1, rest, (putB p).take (20 + p.opts.length + min 8 p.body.length)⟩) := by
  have e := prs_put p [] h hr
  rw [List.append_nil] at e
  unfold tellI
  rw [if_neg (by simp [errK]), e, if_neg (by simp)]
end Go.Proofs.Ytndhiopfkgdhcaa
