/-
  l1Num answers the number text at the head of a text, and NumGet, the program's and the model's, answer alike.
-/
import Derived.Test.YtehmaacbmkfedaaDoorDig
import Derived.Deep.DeepCutAuto
import Derived.Deep.CutBlock
import Derived.Deep.LoopGhost
namespace Go.Proofs.YtehmaacbmkfedaaDoor
open Go.RowKit

def dk : Nat → List UInt8 → Nat
  | 0, _ => 0
  | _ + 1, [] => 0
  | m + 1, c :: l => if isD c then dk m l + 1 else 0
theorem dk_hit (m : Nat) (c : UInt8) (l : List UInt8) (h : isD c) : dk (m + 1) (c :: l) = dk m l + 1 := if_pos h
theorem dk_miss (m : Nat) (c : UInt8) (l : List UInt8) (h : ¬ isD c) : dk (m + 1) (c :: l) = 0 := if_neg h
theorem dk_nil (m : Nat) : dk m [] = 0 := by cases m <;> rfl
theorem dk_le (m : Nat) (l : List UInt8) : dk m l ≤ m ∧ dk m l ≤ l.length := by
  induction m generalizing l with
  | zero => simp [dk]
  | succ m ih =>
    cases l with
    | nil => simp [dk]
    | cons c l =>
      by_cases h : isD c
      · rw [dk_hit m c l h]
        have := ih l
        simp
        omega
      · rw [dk_miss m c l h]
        simp
theorem dk_digs (m : Nat) (l : List UInt8) : digs (l.take (dk m l)) := by
  induction m generalizing l with
  | zero => intro c hc; simp [dk] at hc
  | succ m ih =>
    cases l with
    | nil => intro c hc; simp at hc
    | cons c l =>
      by_cases h : isD c
      · rw [dk_hit m c l h]
        intro x hx
        rw [List.take_succ_cons, List.mem_cons] at hx
        rcases hx with rfl | hx
        · exact h
        · exact ih l x hx
      · rw [dk_miss m c l h]
        intro x hx
        simp at hx
theorem dk_all (m : Nat) (l : List UInt8) (h : digs l) (hl : l.length ≤ m) : dk m l = l.length := by
  induction m generalizing l with
  | zero =>
    cases l with
    | nil => rfl
    | cons c l => simp at hl
  | succ m ih =>
    cases l with
    | nil => rfl
    | cons c l =>
      rw [dk_hit m c l (h c (by simp)), ih l (fun x hx => h x (by simp [hx])) (by simp at hl; exact hl)]
      rfl

def l1 (l : List UInt8) : Int × Int := if 1 < dk 9 l ∧ l.head? = some 48 then (0, 1) else ((val (l.take (dk 9 l)) : Int), (dk 9 l : Int))

theorem drop_at (s : ByteArray) (k : Nat) (h : k < s.size) : s.data.toList.drop k = s[k] :: s.data.toList.drop (k + 1) := by
  rw [List.drop_eq_getElem_cons (by simpa using h)]
  rfl
theorem take_snoc (s : ByteArray) (k : Nat) (h : k < s.size) : s.data.toList.take (k + 1) = s.data.toList.take k ++ [s[k]] := by
  rw [List.take_succ_eq_append_getElem (by simpa using h)]; rfl
theorem head_at (s : ByteArray) (h : 0 < s.size) : s.data.toList.head? = some s[0] := by
  have := drop_at s 0 h
  rw [List.drop_zero] at this
  rw [this]
  rfl
theorem u8_rng (c : UInt8) : 0 ≤ (c.toNat : Int) ∧ (c.toNat : Int) ≤ 255 := by
  have := c.toNat_lt
  omega

theorem int_val (n c : Nat) (h : 48 ≤ c) : Value.int .i64 (10 * (n : Int) + ((c : Int) - 48)) = .int .i64 ((10 * n + (c - 48) : Nat) : Int) := by
  congr 1
  omega

set_option maxHeartbeats 1000000 in
theorem l1_num (s : ByteArray) (w : World) (hs : s.size ≤ 4294967296) :
    Calls Tryd.prog 52 #[.string s] w fun e w' => e = .returned (.tuple #[.int .i64 (l1 s.data.toList).1, .int .i64 (l1 s.data.toList).2]) ∧ w = w' := by
  have hK := dk_le 9 s.data.toList
  simp only [Array.length_toList, ByteArray.size_data] at hK
  obtain ⟨hK9, hKs⟩ := hK
  go_enter Tryd.func52, Tryd.ntmps52
  go_upto_block 0 with fail
  go_cut [4, 5] (fun n i wx => n = .int .i64 (val (s.data.toList.take (dk 9 s.data.toList))) ∧ i = .int .i64 (dk 9 s.data.toList) ∧ wx = w)
  case first =>
    go_wp2_with fail
    go_loopg [4, 5] 9 (fun g n i wx => ∃ k : Nat, g = 9 - k ∧ k ≤ 9 ∧ k ≤ s.size ∧ i = .int .i64 k ∧ n = .int .i64 (val (s.data.toList.take k)) ∧ digs (s.data.toList.take k) ∧ dk 9 s.data.toList = k + dk (9 - k) (s.data.toList.drop k) ∧ wx = w)
    case atStart => exact ⟨0, by omega, by omega, by omega, rfl, rfl, (by intro c hc; simp at hc), by simp, rfl⟩
    case round =>
      obtain ⟨k, hg, hk9, hks, rfl, rfl, hd, hdk, rfl⟩ := hrel
      have hle := dk_le (9 - k) (s.data.toList.drop k)
      by_cases h1 : k < s.size
      · have hdr := drop_at s k h1
        have hts := take_snoc s k h1
        obtain ⟨hc0, hc1⟩ := u8_rng s[k]
        by_cases h2 : k < 9
        · obtain ⟨m, hm⟩ : ∃ m, 9 - k = m + 1 := ⟨8 - k, by omega⟩
          by_cases h3 : isD s[k]
          · have hv := val_small8 (s.data.toList.take k) hd (by simp; omega)
            have hd2 : digs (s.data.toList.take (k + 1)) := by
              rw [hts]
              intro c hc
              simp only [List.mem_append, List.mem_singleton] at hc
              rcases hc with hc | rfl
              · exact hd c hc
              · exact h3
            have hv2 : val (s.data.toList.take (k + 1)) = 10 * val (s.data.toList.take k) + (s[k].toNat - 48) := by rw [hts, val_snoc]
            rw [hdr, hm, dk_hit _ _ _ h3] at hdk
            have hm' : 9 - (k + 1) = m := by omega
            unfold isD at h3
            obtain ⟨h3a, h3b⟩ := h3
            have h4 : (48 : Int) ≤ (s[k].toNat : Int) := by omega
            have h5 : (s[k].toNat : Int) ≤ 57 := by omega
            have HD := Lib.hid hdk
            have HM := Lib.hid hm'
            have HV := Lib.hid hv2
            obtain ⟨n, hn⟩ : ∃ n, n = val (s.data.toList.take k) := ⟨_, rfl⟩
            rw [← hn] at hv HV ⊢
            have HG := Lib.hid hg
            clear hn hdk hm' hv2 hdr hts hm hg hle
            go_wp2_with fail
            go_roundg (9 - (k + 1))
            case measure => have := HG.out; omega
            case rel => exact ⟨k + 1, rfl, by omega, by omega, by go_num, by rw [HV.out]; exact int_val n _ h3a, hd2, by rw [HD.out, HM.out]; omega, rfl⟩
          · have hK : dk 9 s.data.toList = k := by rw [hdk, hdr, hm, dk_miss _ _ _ h3]; omega
            have HK := Lib.hid hK
            have h2' : (k : Int) < 9 := by omega
            clear hdk hm hdr hts hg hle hK
            unfold isD at h3
            by_cases h4 : 48 ≤ s[k].toNat
            · have h4' : (48 : Int) ≤ (s[k].toNat : Int) := by omega
              have h5 : ¬ (s[k].toNat : Int) ≤ 57 := by omega
              clear h3
              go_wp2_with fail
              go_meet
              exact ⟨by rw [HK.out], by rw [HK.out], rfl⟩
            · have h4' : ¬ (48 : Int) ≤ (s[k].toNat : Int) := by omega
              clear h3
              go_wp2_with fail
              go_meet
              exact ⟨by rw [HK.out], by rw [HK.out], rfl⟩
        · have hK : dk 9 s.data.toList = k := by omega
          have HK := Lib.hid hK
          have h2' : ¬ (k : Int) < 9 := by omega
          clear hdk hdr hts hg hle hK
          go_wp2_with fail
          go_meet
          exact ⟨by rw [HK.out], by rw [HK.out], rfl⟩
      · have hK : dk 9 s.data.toList = k := by omega
        have HK := Lib.hid hK
        clear hdk hg hle hK
        go_wp2_with fail
        go_meet
        exact ⟨by rw [HK.out], by rw [HK.out], rfl⟩
  case rest =>
    obtain ⟨rfl, rfl, rfl⟩ := hcut
    obtain ⟨K, hKe⟩ : ∃ K, K = dk 9 s.data.toList := ⟨_, rfl⟩
    have hl1 : l1 s.data.toList = if 1 < K ∧ s.data.toList.head? = some 48 then (0, 1) else ((val (s.data.toList.take K) : Int), (K : Int)) := by rw [hKe]; rfl
    rw [← hKe] at hK9 hKs ⊢
    clear hKe
    by_cases h1 : 1 < K
    · have hh := head_at s (by omega)
      have h1' : (1 : Int) < (K : Int) := by omega
      have h0 : 0 < s.size := by omega
      by_cases h2 : s[0] = 48
      · rw [if_pos ⟨h1, by rw [hh, h2]⟩] at hl1
        have hq : ((s[0].toNat : Int) == 48) = true := by rw [h2]; rfl
        have HL := Lib.hid hl1
        clear hl1 hh h2
        go_wp2_with fail
        go_ret2
        exact ⟨by rw [HL.out]; rfl, rfl⟩
      · rw [if_neg (by rw [hh]; intro e; exact h2 (Option.some.inj e.2))] at hl1
        have hq : ((s[0].toNat : Int) == 48) = false := by
          simp only [beq_eq_false_iff_ne, ne_eq]
          intro h
          exact h2 (UInt8.toNat_inj.1 (by have : s[0].toNat = 48 := by omega
                                          rw [this]; rfl))
        have HL := Lib.hid hl1
        clear hl1 hh h2
        go_wp2_with fail
        go_ret2
        exact ⟨by rw [HL.out]; rfl, rfl⟩
    · rw [if_neg (by intro e; exact h1 e.1)] at hl1
      have h1' : ¬ (1 : Int) < (K : Int) := by omega
      have HL := Lib.hid hl1
      clear hl1
      go_wp2_with fail
      go_ret2
      exact ⟨by rw [HL.out]; rfl, rfl⟩

theorem l1_good {l : List UInt8} : Good l ↔ (l1 l).2 ≠ 0 ∧ (l1 l).2 = (l.length : Int) := by
  have hle := dk_le 9 l
  have hdg := dk_digs 9 l
  constructor
  · rintro ⟨h0, h9, hd, hh⟩
    have hk := dk_all 9 l hd h9
    have hpos : 0 < l.length := List.length_pos_iff.2 h0
    unfold l1
    rw [hk, if_neg (by intro e; exact hh e.1 e.2)]
    dsimp only
    omega
  · intro h
    unfold l1 at h
    split at h
    · rename_i hc
      dsimp only at h
      omega
    · rename_i hc
      dsimp only at h
      have hk : dk 9 l = l.length := by omega
      rw [hk, List.take_of_length_le (Nat.le_refl _)] at hdg
      refine ⟨by intro e; subst e; simp at h, by omega, hdg, fun h1 e => hc ⟨by omega, e⟩⟩
theorem l1_val {l : List UInt8} (h : Good l) : (l1 l).1 = (val l : Int) := by
  obtain ⟨h0, h9, hd, hh⟩ := h
  have hk := dk_all 9 l hd h9
  unfold l1
  rw [hk, if_neg (by intro e; exact hh e.1 e.2), List.take_of_length_le (Nat.le_refl _)]

set_option maxHeartbeats 1000000 in
theorem spec_numget (s : ByteArray) (w : World) (hs : s.size ≤ 4294967296) :
    Calls Tryd.prog 28 #[.string s] w fun e w' => e = .returned (.tuple #[.int .i64 (numG s.data.toList).1, .bool (numG s.data.toList).2]) ∧ w = w' := by
  have hC := l1_num s w hs
  have hlen : s.data.toList.length = s.size := by simp
  have hgood := @l1_good s.data.toList
  rw [hlen] at hgood
  by_cases hg : Good s.data.toList
  · have hv := l1_val hg
    have hn := numG_yes hg
    obtain ⟨h1, h2⟩ := hgood.1 hg
    obtain ⟨n, hn1⟩ : ∃ n, n = (l1 s.data.toList).1 := ⟨_, rfl⟩
    rw [h2, ← hn1] at hC
    have hp : 0 < s.size := by omega
    have hq : ((s.size : Int) == 0) = false := by rw [beq_eq_false_iff_ne]; omega
    have HN : Hid (numG s.data.toList = (n, true)) := Lib.hid (by rw [hn, hn1, hv])
    clear hgood hg hv hn h1 h2 hn1 hlen
    go_enter Tryd.func28, Tryd.ntmps28
    go_wp2_with (go_at_call 52; refine hC.mono ?_; rintro e w1 ⟨rfl, rfl⟩)
    go_ret2
    exact ⟨by rw [HN.out]; rfl, rfl⟩
  · have HN := Lib.hid (numG_no hg)
    obtain ⟨k, hk⟩ : ∃ k, k = (l1 s.data.toList).2 := ⟨_, rfl⟩
    rw [← hk] at hC hgood
    by_cases h0 : k = 0
    · subst h0
      clear hgood hg hk hlen
      go_enter Tryd.func28, Tryd.ntmps28
      go_wp2_with (go_at_call 52; refine hC.mono ?_; rintro e w1 ⟨rfl, rfl⟩)
      go_ret2
      exact ⟨by rw [HN.out]; rfl, rfl⟩
    · have hks : ¬ k = (s.size : Int) := fun e => hg (hgood.2 ⟨h0, e⟩)
      have hq1 : (k == 0) = false := by simpa using h0
      have hq2 : (k != (s.size : Int)) = true := by simpa using hks
      clear hgood hg hk h0 hks hlen
      go_enter Tryd.func28, Tryd.ntmps28
      go_wp2_with (go_at_call 52; refine hC.mono ?_; rintro e w1 ⟨rfl, rfl⟩)
      go_ret2
      exact ⟨by rw [HN.out]; rfl, rfl⟩

end Go.Proofs.YtehmaacbmkfedaaDoor
