/-
  What the walks of sets of disks ask of each call.
-/
import Derived.Test.YtndckncoipkhaaaRHf
import Derived.Test.YtndckncoipkhaaaKR
namespace Go.Proofs.Ytndckncoipkhaaa
open Go.RowKit

structure Small (R : List Dk) : Prop where
  len : R.length ≤ 1048576
  each : ∀ d ∈ R, Bulk d
  marks : mkR R ≤ 4000000
theorem Small.of {R : List Dk} {ps : List RD} (h : Small R) (hp : dks ps = R) : ps.length ≤ 1048576 ∧ ∀ p ∈ ps, Bulk p.d := by
  subst hp
  exact ⟨by have := h.len; rwa [dks_len] at this, fun p hp => h.each _ (List.mem_map.2 ⟨p, hp, rfl⟩)⟩
theorem eq_two {A B : Option Addr} {ca cb : Nat} {ps qs : List RD} {w : World} {R : List Dk} (h : Small R) (hp : dks ps = R) (hq : dks qs = R) (hA : RAt w A ps) (hB : RAt w B qs) :
    Calls Try.prog 13 #[.agg #[.slice A ps.length ca], .agg #[.slice B qs.length cb]] w fun e w' => e = .returned (.bool true) ∧ Below w.heap.size w w' :=
  eq_raid A B ca cb ps qs w (hp.trans hq.symm) (h.of hp).1 (h.of hp).2 hA hB
theorem mark_two {base top : Nat} {A : Option Addr} {c : Nat} {ps : List RD} {w : World} {R : List Dk} (hs : Small R) (hp : dks ps = R) (htop : top ≤ w.heap.size) (h : RBox w base top (.slice A ps.length c) ps) :
    Calls Try.prog 14 #[.agg #[.slice A ps.length c], .int .i64 1] w fun r w' => r = .returned (.int .i64 ((1 + mkR R : Nat) : Int)) ∧ RBox w' base top (.slice A ps.length c) (marksR 1 ps) ∧ Only base top w w' := by
  subst hp
  exact mark_raid base top A c ps w hs.marks htop h
theorem held_two {base top : Nat} {A : Option Addr} {c : Nat} {ps : List RD} {w : World} {R : List Dk} (hs : Small R) (hp : dks ps = R) (h : RBox w base top (.slice A ps.length c) (marksR 1 ps)) :
    Calls Try.prog 15 #[.agg #[.slice A ps.length c], .int .i64 1] w fun r w' => r = .returned (.int .i64 ((1 + mkR R : Nat) : Int)) ∧ Below w.heap.size w w' := by
  subst hp
  exact held_raid base top A c ps w hs.marks h
end Go.Proofs.Ytndckncoipkhaaa
