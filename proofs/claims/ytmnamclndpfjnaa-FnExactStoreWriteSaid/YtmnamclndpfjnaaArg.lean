/-
  Space that came in.
-/
import Derived.Test.YtmnamclndpfjnaaMem
namespace Go.Proofs.Ytmnamclndpfjnaa
open Go.RowKit
structure SArg (w : World) (A B : Option Addr) (s : Sp) : Prop where
  n : s.refs.length ≤ maxLen
  m : s.last.length ≤ maxLen
  at_ : SpAt w A B s
end Go.Proofs.Ytmnamclndpfjnaa
