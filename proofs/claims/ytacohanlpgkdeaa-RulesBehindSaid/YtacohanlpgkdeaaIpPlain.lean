/- Packets and the bytes of their heads: plain mathematics. No condition beyond bounds. -/
import Derived.Test.YtacohanlpgkdeaaSet
namespace Go.Proofs.Ytacohanlpgkdeaa
open Go.RowKit

/-- the byte at a place, as a number. -/
def g8 (l : List UInt8) (k : Nat) : Int := ((l.getD k 0).toNat : Int)
theorem g8_lo (l : List UInt8) (k : Nat) : 0 ≤ g8 l k := by unfold g8; omega
theorem g8_hi (l : List UInt8) (k : Nat) : g8 l k ≤ 255 := by unfold g8; have := (l.getD k 0).toNat_lt; omega
theorem g8_at (l : List UInt8) (k : Nat) (h : k < l.length) : g8 l k = (l[k].toNat : Int) := by unfold g8; simp [List.getD, h]
/-- the number of two bytes at a place. -/
def wd (l : List UInt8) (k : Nat) : Int := g8 l k * 256 + g8 l (k + 1)
theorem wd_lo (l : List UInt8) (k : Nat) : 0 ≤ wd l k := by have := g8_lo l k; have := g8_lo l (k + 1); unfold wd; omega
theorem wd_hi (l : List UInt8) (k : Nat) : wd l k ≤ 65535 := by have := g8_hi l k; have := g8_hi l (k + 1); unfold wd; omega
/-- the address at a place. -/
def ad4 (l : List UInt8) (k : Nat) : Int := wd l k * 65536 + wd l (k + 2)
theorem ad4_lo (l : List UInt8) (k : Nat) : 0 ≤ ad4 l k := by have := wd_lo l k; have := wd_lo l (k + 2); unfold ad4; omega
theorem ad4_hi (l : List UInt8) (k : Nat) : ad4 l k ≤ 4294967295 := by have := wd_hi l k; have := wd_hi l (k + 2); unfold ad4; omega

structure Pk where
  tos : Int
  id : Int
  df : Bool
  mf : Bool
  off : Int
  ttl : Int
  proto : Int
  src : Int
  dst : Int
  opts : List UInt8
  body : List UInt8

def Pk.empty : Pk := ⟨0, 0, false, false, 0, 0, 0, 0, 0, [], []⟩
theorem Pk.ext' {p q : Pk} (h1 : p.tos = q.tos) (h2 : p.id = q.id) (h3 : p.df = q.df) (h4 : p.mf = q.mf) (h5 : p.off = q.off) (h6 : p.ttl = q.ttl) (h7 : p.proto = q.proto) (h8 : p.src = q.src) (h9 : p.dst = q.dst) (h10 : p.opts = q.opts) (h11 : p.body = q.body) : p = q := by
  cases p; cases q; simp_all

/-- the two packets' fields are the same. -/
def sameB (p q : Pk) : Bool := p.tos == q.tos && (p.id == q.id && (p.df == q.df && (p.mf == q.mf && (p.off == q.off && (p.ttl == q.ttl && (p.proto == q.proto && (p.src == q.src && (p.dst == q.dst && (p.opts == q.opts && p.body == q.body)))))))))
theorem sameB_iff (p q : Pk) : sameB p q = true ↔ p = q := by
  cases p; cases q; simp [sameB]

/-- do a body and its place fit? -/
def fitsB (p : Pk) : Bool := decide (20 + (p.opts.length : Int) + p.off + (p.body.length : Int) ≤ 65535) && (!p.mf || (decide (0 < p.body.length) && decide (p.body.length % 8 = 0)))
def upB (n m : Int) : Bool := decide (0 ≤ n) && decide (n ≤ m)
/-- may it be put? -/
def mayB (p : Pk) : Bool := upB p.tos 255 && (upB p.ttl 255 && (upB p.proto 255 && (upB p.id 65535 && (upB p.off 65528 && (decide (p.off % 8 = 0) && (decide (p.opts.length ≤ 40) && (decide (p.opts.length % 4 = 0) && fitsB p)))))))
structure May (p : Pk) : Prop where
  t0 : 0 ≤ p.tos
  t1 : p.tos ≤ 255
  l0 : 0 ≤ p.ttl
  l1 : p.ttl ≤ 255
  r0 : 0 ≤ p.proto
  r1 : p.proto ≤ 255
  i0 : 0 ≤ p.id
  i1 : p.id ≤ 65535
  o0 : 0 ≤ p.off
  o1 : p.off ≤ 65528
  o8 : p.off % 8 = 0
  p40 : p.opts.length ≤ 40
  p4 : p.opts.length % 4 = 0
  fit : 20 + (p.opts.length : Int) + p.off + (p.body.length : Int) ≤ 65535
  mf : p.mf = true → 0 < p.body.length ∧ p.body.length % 8 = 0
theorem fitsB_iff (p : Pk) : fitsB p = true ↔ 20 + (p.opts.length : Int) + p.off + (p.body.length : Int) ≤ 65535 ∧ (p.mf = true → 0 < p.body.length ∧ p.body.length % 8 = 0) := by
  unfold fitsB
  cases p.mf <;> simp
theorem mayB_iff (p : Pk) : mayB p = true ↔ May p := by
  unfold mayB upB
  constructor
  · intro h
    simp only [Bool.and_eq_true, decide_eq_true_eq, fitsB_iff] at h
    obtain ⟨⟨a, b⟩, ⟨c, d⟩, ⟨e, f⟩, ⟨g, i⟩, ⟨j, k⟩, l, m, n, o, q⟩ := h
    exact ⟨a, b, c, d, e, f, g, i, j, k, l, m, n, o, q⟩
  · intro h
    simp only [Bool.and_eq_true, decide_eq_true_eq, fitsB_iff]
    exact ⟨⟨h.t0, h.t1⟩, ⟨h.l0, h.l1⟩, ⟨h.r0, h.r1⟩, ⟨h.i0, h.i1⟩, ⟨h.o0, h.o1⟩, h.o8, h.p40, h.p4, h.fit, h.mf⟩

/-- the word that Off shares with its bits. -/
def flg (p : Pk) : Int := p.off / 8 + (if p.mf then 8192 else 0) + (if p.df then 16384 else 0)
/-- how many bytes the head has, and the whole. -/
def hln (p : Pk) : Int := 20 + (p.opts.length : Int)
def whl (p : Pk) : Int := hln p + (p.body.length : Int)
/-- a head of 20 bytes, with a check sum. -/
def hd20 (p : Pk) (check : Int) : List UInt8 :=
  [b8 (64 + hln p / 4), b8 p.tos, b8 (whl p / 256), b8 (whl p % 256), b8 (p.id / 256), b8 (p.id % 256), b8 (flg p / 256), b8 (flg p % 256), b8 p.ttl, b8 p.proto, b8 (check / 256), b8 (check % 256),
    b8 (p.src / 16777216), b8 (p.src / 65536 % 256), b8 (p.src / 256 % 256), b8 (p.src % 256), b8 (p.dst / 16777216), b8 (p.dst / 65536 % 256), b8 (p.dst / 256 % 256), b8 (p.dst % 256)]
def hd (p : Pk) (check : Int) : List UInt8 := hd20 p check ++ p.opts
def chk (p : Pk) : Int := 65535 - fo (tot (hd p 0))
theorem chk_lo (p : Pk) : 0 ≤ chk p := by unfold chk; have := fo_hi (tot (hd p 0)); omega
theorem chk_hi (p : Pk) : chk p ≤ 65535 := by unfold chk; have := fo_lo (tot (hd p 0)); omega
/-- the packet's bytes. -/
def putB (p : Pk) : List UInt8 := hd p (chk p) ++ p.body
theorem hd_length (p : Pk) (c : Int) : (hd p c).length = 20 + p.opts.length := by simp [hd, hd20]; omega
theorem putB_length (p : Pk) : (putB p).length = 20 + p.opts.length + p.body.length := by simp [putB, hd_length]

/-- the packet of these bytes, or the first error. -/
def headN (l : List UInt8) : Int := g8 l 0 % 16 * 4
def prs (l : List UInt8) : Int × Pk :=
  if l.length < 20 then (2, Pk.empty)
  else if g8 l 0 / 16 ≠ 4 ∨ headN l < 20 ∨ (l.length : Int) < headN l then (3, Pk.empty)
  else if wd l 2 < headN l ∨ (l.length : Int) < wd l 2 then (4, Pk.empty)
  else if fo (tot (l.take (headN l).toNat)) ≠ 65535 then (5, Pk.empty)
  else
    let p : Pk := ⟨g8 l 1, wd l 4, decide (wd l 6 / 16384 % 2 = 1), decide (wd l 6 / 8192 % 2 = 1), wd l 6 % 8192 * 8, g8 l 8, g8 l 9, ad4 l 12, ad4 l 16, (l.take (headN l).toNat).drop 20, (l.take (wd l 2).toNat).drop (headN l).toNat⟩
    if 32768 ≤ wd l 6 ∨ fitsB p = false then (7, Pk.empty) else (0, p)
end Go.Proofs.Ytacohanlpgkdeaa
