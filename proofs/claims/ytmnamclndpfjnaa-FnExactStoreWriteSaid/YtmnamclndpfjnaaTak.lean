/-
  takeAway: references are taken from those of each row, one by one.
-/
import Derived.Test.YtmnamclndpfjnaaStM
namespace Go.Proofs.Ytmnamclndpfjnaa
open Go.RowKit

/-- What is left of R behind some pointers. -/
structure SubR (R : List Int) (pre : List P5) (xs : List Int) : Prop where
  len : xs.length = 64
  at_ : ∀ i, i < 64 → xs.getD i 0 = R.getD i 0 - ((cntAt pre (i : Int) : Nat) : Int) ∧ 0 ≤ xs.getD i 0
theorem getD_set_same {xs : List Int} {n : Nat} (h : n < xs.length) (x : Int) : (xs.set n x).getD n 0 = x := by simp [List.getD_eq_getElem?_getD, h]
theorem getD_set_other {xs : List Int} {n i : Nat} (h : n ≠ i) (x : Int) : (xs.set n x).getD i 0 = xs.getD i 0 := by simp [List.getD_eq_getElem?_getD, List.getElem?_set_ne h]
theorem SubR.next {R xs : List Int} {pre : List P5} {p : P5} {n : Nat} (h : SubR R pre xs) (hn : n < 64) (hp : p.a = (n : Int)) (hx : xs.getD n 0 ≠ 0) : SubR R (pre ++ [p]) (xs.set n (xs.getD n 0 - 1)) := by
  refine ⟨by rw [List.length_set]; exact h.len, fun i hi => ?_⟩
  have hi2 := h.at_ i hi
  have hn2 := h.at_ n hn
  rw [cntAt_snoc, hp]
  by_cases e : n = i
  · subst e
    rw [getD_set_same (by rw [h.len]; exact hn), if_pos rfl]
    omega
  · rw [getD_set_other e, if_neg (by omega)]
    omega
theorem SubR.ok {R xs : List Int} {pre : List P5} {p : P5} {n : Nat} {top : Int} (h : SubR R pre xs) (hn : n < 64) (hp : p.a = (n : Int)) : okAt R pre top p ↔ (p.ok = true ∧ p.b ≤ top ∧ xs.getD n 0 ≠ 0) := by
  have hn2 := h.at_ n hn
  unfold okAt
  rw [hp, Int.toNat_natCast]
  constructor
  · rintro ⟨h1, h2, h3⟩; exact ⟨h1, h2, by omega⟩
  · rintro ⟨h1, h2, h3⟩; exact ⟨h1, h2, by omega⟩
theorem SubR.start {R : List Int} (h : R.length = 64) (h0 : ∀ i, i < 64 → 0 ≤ R.getD i 0) : SubR R [] R := ⟨h, fun i hi => ⟨by rw [cntAt_nil]; simp, h0 i hi⟩⟩
theorem okTo_next {R : List Int} {pre L : List P5} {top : Int} {k : Nat} (h : okTo R pre L top k) (hk : okAt R (pre ++ L.take k) top (L.getD k P5.zero)) : okTo R pre L top (k + 1) := fun j hj => by
  by_cases e : j = k
  · subst e; exact hk
  · exact h j (by omega)
theorem takeB_yes {R : List Int} {pre L : List P5} {top : Int} (h : okTo R pre L top L.length) : takeB R pre L top = true := decide_eq_true h
theorem takeB_no {R : List Int} {pre L : List P5} {top : Int} {k : Nat} (hk : k < L.length) (h : ¬ okAt R (pre ++ L.take k) top (L.getD k P5.zero)) : takeB R pre L top = false := decide_eq_false (fun h2 => h (h2 k hk))
theorem PArg.grown {W W' : World} {A : Option Addr} {ps : List P5} {g : Nat} (h : PArg W A ps) (hb : W.grownBy W' (some g)) (hg : ∀ b o, A = some ⟨b, o, none⟩ → b ≠ g) : PArg W' A ps := by
  intro h0
  obtain ⟨b, off, rfl, hlt, hc⟩ := h h0
  have hne := hg b off rfl
  exact ⟨b, off, rfl, Nat.lt_of_lt_of_le hlt hb.size, fun j hj k v hk hv => (World.cell?_of_block (a := ⟨b, off + (j * 5 + k), none⟩) (hb.block b hlt (fun e => hne (by injection e)))).trans (hc j hj k v hk hv)⟩
theorem PArg.five {W : World} {A : Option Addr} {ps : List P5} (h : PArg W A ps) (k : Nat) (hk : k < ps.length) {a c d e f : Int} (hp : ps[k] = ⟨a, c, d, e, f⟩) : ∃ b off, A = some ⟨b, off, none⟩ ∧ b < W.heap.size ∧
    W.cell? ⟨b, off + k * 5, none⟩ = some (.int .i64 a) ∧ W.cell? ⟨b, off + k * 5 + 1, none⟩ = some (.int .i64 c) ∧ W.cell? ⟨b, off + k * 5 + 2, none⟩ = some (.int .i64 d) ∧ W.cell? ⟨b, off + k * 5 + 3, none⟩ = some (.int .i64 e) ∧ W.cell? ⟨b, off + k * 5 + 4, none⟩ = some (.int .i64 f) := by
  obtain ⟨b, off, rfl, hlt, hc⟩ := h (by omega)
  have hck := hc k hk
  rw [hp] at hck
  exact ⟨b, off, rfl, hlt, hck 0 _ (by decide) rfl, hck 1 _ (by decide) rfl, hck 2 _ (by decide) rfl, hck 3 _ (by decide) rfl, hck 4 _ (by decide) rfl⟩

def TakePost (base g c : Nat) (R : List Int) (pre L : List P5) (top : Int) (w : World) (r : Ending) (w' : World) : Prop :=
  r = .returned (.bool (takeB R pre L top)) ∧ w.grownBy w' (some g) ∧ (takeB R pre L top = true → ∃ ys, SubR R (pre ++ L) ys ∧ w'.ownsRow base 3 1 (.slice (some ⟨g, 0, none⟩) 64 c) 64 (intCells ys))

set_option maxRecDepth 100000 in
set_option maxHeartbeats 4000000 in
theorem impl_takeaway (base g c cc : Nat) (A : Option Addr) (R : List Int) (pre L : List P5) (top : Int) (xs : List Int) (w : World) (hR : ∀ i, i < 64 → 0 ≤ R.getD i 0 ∧ R.getD i 0 ≤ 900) (hS : SubR R pre xs) (hL : L.length ≤ 1048576)
    (ho : w.ownsRow base 3 1 (.slice (some ⟨g, 0, none⟩) 64 c) 64 (intCells xs)) (hA : PArg w A L) (hg : ∀ b o, A = some ⟨b, o, none⟩ → b ≠ g) :
    Calls Try.prog 108 #[.slice (some ⟨g, 0, none⟩) 64 c, .slice A L.length cc, .int .i64 top] w (TakePost base g c R pre L top w) := by
  have HR := Lib.hid hR
  have HG := Lib.hid hg
  clear hR hg
  have hgw := (ho.lt g rfl).2
  go_enter Try.func108, Try.ntmps108
  go_wp2_with fail
  go_loopw [8, 11] (fun t i wr => ∃ (k : Nat) (ys : List Int), k ≤ L.length ∧ i = .int .i64 k ∧ okTo R pre L top k ∧ SubR R (pre ++ L.take k) ys ∧ wr.ownsRow base 3 1 (.slice (some ⟨g, 0, none⟩) 64 c) 64 (intCells ys) ∧ w.grownBy wr (some g)) (fun _ i _ => L.length - (intOf i).toNat)
  case atStart => exact ⟨0, xs, Nat.zero_le _, rfl, fun j hj => absurd hj (Nat.not_lt_zero j), by simpa using hS, ho, World.grownBy.refl w (some g)⟩
  case round =>
    obtain ⟨k, ys, hk, rfl, hok, hY, hoY, GB⟩ := hrel
    clear hS ho
    have HOK := Lib.hid hok
    have HY := Lib.hid hY
    have hgr : g < wr.heap.size := Nat.lt_of_lt_of_le hgw GB.size
    have hgr1 : g < wr.heap.size + 1 := by omega
    have hgr2 : g < wr.heap.size + 1 + 1 := by omega
    clear hok hY
    by_cases hlt : k < L.length
    · have hki : (k : Int) < (L.length : Int) := by omega
      obtain ⟨a, b, cs, d, e, hp⟩ : ∃ a b cs d e, L[k] = ⟨a, b, cs, d, e⟩ := ⟨_, _, _, _, _, rfl⟩
      obtain ⟨bb, off, rfl, hlb, z0, z1, z2, z3, z4⟩ := (hA.grown GB HG.out).five k hlt hp
      have hgd : L.getD k P5.zero = ⟨a, b, cs, d, e⟩ := by rw [List.getD_eq_getElem?_getD, List.getElem?_eq_getElem hlt, Option.getD_some, hp]
      have htk : L.take (k + 1) = L.take k ++ [⟨a, b, cs, d, e⟩] := by rw [List.take_succ_eq_append_getElem hlt, hp]
      have HTK := Lib.hid htk
      have HGD := Lib.hid hgd
      have hM := fun W => m_ok a b cs d e W
      clear hp hgd htk
      have hpo : (P5.ok ⟨a, b, cs, d, e⟩) = isOk a b cs d e := rfl
      have HPO := Lib.hid hpo
      clear hpo
      cases hio : isOk a b cs d e with
      | false =>
        rw [hio] at hM
        have HNO := Lib.hid (takeB_no hlt (R := R) (pre := pre) (L := L) (top := top) (k := k) (fun h => by rw [HGD.out] at h; have := h.1; rw [HPO.out, hio] at this; cases this))
        clear hio
        go_wp2_with (go_at_call 57; refine (hM _).mono ?_; rintro r w2 ⟨rfl, rfl⟩)
        go_ret
        exact ⟨by rw [HNO.out]; rfl, GB.trans ((((World.grownBy_alloc _ _ _).trans (World.grownBy_alloc _ _ _)).trans (World.grownBy_alloc _ _ _))), by rw [HNO.out]; intro h; cases h⟩
      | true =>
        have ha := P5.ok_row (p := ⟨a, b, cs, d, e⟩) (HPO.out.trans hio)
        obtain ⟨n, hn⟩ : ∃ n : Nat, a = (n : Int) := ⟨a.toNat, by have := ha.1; simp only at this; omega⟩
        subst hn
        have hn64 : n < 64 := by have := ha.2; simp only at this; omega
        have hn64i : (n : Int) < 64 := by omega
        have HIO := Lib.hid hio
        rw [hio] at hM
        obtain ⟨x, hx⟩ : ∃ x, x = ys.getD n 0 := ⟨_, rfl⟩
        have hc := hoY.cellAt n (by omega)
        have hf := hoY.frozenAt n
        rw [intCells_at ys n (by have := HY.out.len; omega), show ys[n]'(by have := HY.out.len; omega) = x by rw [hx, List.getD_eq_getElem?_getD, List.getElem?_eq_getElem (by have := HY.out.len; omega), Option.getD_some]] at hc
        have hx9 : 0 ≤ x ∧ x ≤ 900 := by
          have h1 := HY.out.at_ n hn64
          have h2 := HR.out n hn64
          rw [← hx] at h1
          omega
        have hok := HY.out.ok (top := top) (p := ⟨n, b, cs, d, e⟩) hn64 rfl
        rw [← hx] at hok
        have HX := Lib.hid hx
        have HK := Lib.hid hok
        clear hio ha hx hok
        by_cases hb : b ≤ top
        · have hbt : ¬ top < b := by omega
          by_cases hx0 : x = 0
          · have hxx : (x == 0) = true := by simpa using hx0
            have HNO := Lib.hid (takeB_no hlt (R := R) (pre := pre) (L := L) (top := top) (k := k) (fun h => by rw [HGD.out] at h; exact (HK.out.1 h).2.2 hx0))
            clear hx0 hb
            go_wp2_with (go_at_call 57; refine (hM _).mono ?_; rintro r w2 ⟨rfl, rfl⟩)
            go_ret
            exact ⟨by rw [HNO.out]; rfl, GB.trans ((((World.grownBy_alloc _ _ _).trans (World.grownBy_alloc _ _ _)).trans (World.grownBy_alloc _ _ _))), by rw [HNO.out]; intro h; cases h⟩
          · have hxx : (x == 0) = false := by simpa using hx0
            have HSN := Lib.hid (HY.out.next (p := ⟨n, b, cs, d, e⟩) hn64 rfl (by rw [← HX.out]; exact hx0))
            have HOK2 := Lib.hid (okTo_next HOK.out (by rw [HGD.out]; exact HK.out.2 ⟨HPO.out.trans HIO.out, hb, hx0⟩))
            have hst := hoY.stored n (.int .i64 (x - 1))
            have HST := Lib.hid (((hst.1.alloc (.cells #[.int .i64 (n : Int), .int .i64 b, .int .i64 cs, .int .i64 d, .int .i64 e] 45)).alloc (.cells #[.int .i64 (n : Int), .int .i64 b, .int .i64 cs, .int .i64 d, .int .i64 e] 45)).alloc (.cells #[.int .i64 (n : Int), .int .i64 b, .int .i64 cs, .int .i64 d, .int .i64 e] 45))
            have HG2 := Lib.hid ((((GB.trans hst.2).trans (World.grownBy_alloc _ (.cells #[.int .i64 (n : Int), .int .i64 b, .int .i64 cs, .int .i64 d, .int .i64 e] 45) (some g))).trans (World.grownBy_alloc _ (.cells #[.int .i64 (n : Int), .int .i64 b, .int .i64 cs, .int .i64 d, .int .i64 e] 45) (some g))).trans (World.grownBy_alloc _ (.cells #[.int .i64 (n : Int), .int .i64 b, .int .i64 cs, .int .i64 d, .int .i64 e] 45) (some g)))
            clear hx0 hb hst
            go_wp2_with (go_at_call 57; refine (hM _).mono ?_; rintro r w2 ⟨rfl, rfl⟩)
            go_roundw
            case rel => exact ⟨k + 1, ys.set n (x - 1), by omega, by go_num, HOK2.out, by rw [HTK.out, ← List.append_assoc, HX.out]; exact HSN.out, by have := HST.out; rwa [intCells_set] at this, HG2.out⟩
            case measure => simp [intOf]; omega
        · have hbt : top < b := by omega
          have HNO := Lib.hid (takeB_no hlt (R := R) (pre := pre) (L := L) (top := top) (k := k) (fun h => by rw [HGD.out] at h; exact hb (HK.out.1 h).2.1))
          clear hb
          go_wp2_with (go_at_call 57; refine (hM _).mono ?_; rintro r w2 ⟨rfl, rfl⟩)
          go_ret
          exact ⟨by rw [HNO.out]; rfl, GB.trans ((((World.grownBy_alloc _ _ _).trans (World.grownBy_alloc _ _ _)).trans (World.grownBy_alloc _ _ _))), by rw [HNO.out]; intro h; cases h⟩
    · have hke : k = L.length := by omega
      subst hke
      have HYE := Lib.hid (takeB_yes HOK.out)
      clear hA
      go_wp2_with fail
      go_ret
      exact ⟨by rw [HYE.out]; rfl, GB, fun _ => ⟨ys, by have := HY.out; rwa [List.take_length] at this, hoY⟩⟩
end Go.Proofs.Ytmnamclndpfjnaa
