/-
  A store that came in.
-/
import Derived.Test.YtmnamclndpfjnaaStT
namespace Go.Proofs.Ytmnamclndpfjnaa
open Go.RowKit
structure TArg (w : World) (x : SA) (s : St) : Prop where
  rows : s.rows.length ≤ maxLen
  refs : s.sp.refs.length ≤ maxLen
  last : s.sp.last.length ≤ maxLen
  gone : s.gone.length ≤ maxLen
  dead : s.dead.length ≤ maxLen
  texts : ∀ t ∈ s.rows, t.size ≤ maxLen
  wtxg : (Lit.int .i64 s.txg).wf = true
  wkeep : (Lit.int .i64 s.keep).wf = true
  nums : ∀ p ∈ s.gone ++ s.dead, (Lit.int .i64 p.a).wf = true
  at_ : StAt w x s
end Go.Proofs.Ytmnamclndpfjnaa
