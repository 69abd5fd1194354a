/- A packet among a law's arguments. -/
import Derived.Test.YtndhiopfkgdhcaaIpD
import Derived.Test.YtndhiopfkgdhcaaIpE
namespace Go.Proofs.Ytndhiopfkgdhcaa
open Go.ChangeShapes Go.WideShapes Go.ChangeAt Go.RowKit
set_option linter.unusedVariables false

/-- a packet that came in. -/
structure PkIn (w : World) (p : Pk) (Ao : Option Addr) (co : Nat) (Ab : Option Addr) (cb : Nat) : Prop where
  rng : Rng p
  olen : p.opts.length ≤ co
  ocap : co ≤ 9223372036854775807
  onil : Ao = none → co = 0
  obs : Bs w w.heap.size Ao p.opts
  blen : p.body.length ≤ cb
  bcap : cb ≤ 9223372036854775807
  bnil : Ab = none → cb = 0
  bbs : Bs w w.heap.size Ab p.body
end Go.Proofs.Ytndhiopfkgdhcaa
