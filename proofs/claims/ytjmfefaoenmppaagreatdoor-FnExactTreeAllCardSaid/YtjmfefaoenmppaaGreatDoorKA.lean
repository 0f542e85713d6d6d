/-
  l6Dec answers the decimal numeral of a number that is not negative.
  The shelf's contracts of strconv.Itoa, strconv.Atoi, strings.Join and strings.SplitN at this seat's program, in plain words, as the shelf's own command prints them.
  NumPut, the program's and the model's, answer one text at every number.
  Plain facts on number texts: which texts they are, and what they are the texts of.
  l1Num answers the number text at the head of a text, and NumGet, the program's and the model's, answer alike.
  impl.NumGet answers as the model does at every text of at most 2^36 bytes, where strconv's two errors and its table read as laid.
-/
import Derived.Test.YtjmfefaoenmppaaGreatDoorRows
import Derived.WalkKit
import Derived.WalkSpells
import Derived.Lib.Hide
import Derived.Lib.ItoaNum
import Derived.Laws.BytesArg
import Derived.RegionTactic
import Derived.IntWalk
import Derived.Deep.RegionWith
import Derived.Deep.RegionHeld3
import Derived.WalkSmall
import Derived.Shelf.Strings.Builder1
import Derived.Shelf.Strings.Builder2
import Derived.Shelf.Strings.OnBuilder
import Derived.Shelf.Strconv.Atoi
import Derived.Shelf.Strconv.Itoa0
import Derived.Shelf.Strconv.Itoa1
import Derived.Shelf.LaysM
import Derived.Shelf.Strconv.Itoa2
import Derived.Shelf.Strconv.Itoa3
import Derived.Shelf.Strconv.AtoiErrFast
import Derived.Shelf.Strconv.ParseIntEmpty
import Derived.Shelf.Strconv.AtoiFail
import Derived.Shelf.Strconv.Clone
import Derived.Shelf.Strconv.SyntaxError
import Derived.Shelf.LaysC
import Derived.Shelf.Strconv.ToError
import Derived.Shelf.Strconv.Lower
import Derived.Shelf.Strconv.ParseUint10
import Derived.Shelf.Strconv.ParseUint10Empty
import Derived.Shelf.Strconv.ParseUint10Any
import Derived.Shelf.Strconv.ParseInt10
import Derived.Shelf.Strconv.AtoiLong
import Derived.Shelf.Strconv.AtoiInnerAll
import Derived.Shelf.Strconv.RangeError
import Derived.Shelf.Strconv.ToErrorRange
import Derived.Shelf.Strconv.AtoiAll
import Derived.Shelf.Strconv.ErrVarAll
import Derived.Shelf.Strings.Search1
import Derived.Shelf.Strings.Search2
import Derived.Shelf.Strings.Search3
import Derived.Shelf.Strings.Count
import Derived.Shelf.Strings.Shaped
import Derived.Shelf.Strings.Split
import Derived.Shelf.Unicode.DecodeSlow
import Derived.Test.YtjmfefaoenmppaaGreatDoorProg
import Derived.Lib.AppendIntMem
import Derived.Lib.AtoiTie
import Derived.Deep.DeepCutAuto
import Derived.Deep.CutBlock
import Derived.Deep.LoopGhost
import Derived.Lib.AtoiErrMem
set_option linter.unusedVariables false

namespace Go.Proofs.YtjmfefaoenmppaaGreatDoor.Fx
open Go.RowKit

def strOf (l : List UInt8) : ByteArray := ⟨l.toArray⟩
theorem strOf_toList (l : List UInt8) : (strOf l).data.toList = l := by simp [strOf]
theorem strOf_size (l : List UInt8) : (strOf l).size = l.length := by simp [strOf, ByteArray.size]

theorem bytes_inj {a b : ByteArray} (h : a.data.toList = b.data.toList) : a = b := by
  cases a; cases b
  simp at h
  rw [h]
theorem strOf_app (l m : List UInt8) : strOf l ++ strOf m = strOf (l ++ m) := by
  apply bytes_inj
  rw [strOf_toList]
  simp [strOf]
theorem add_strs (P : Program) (l m : List UInt8) (h : l.length + m.length ≤ 9223372036854775807) (w : World) : (Op.stringOp .add (strOf l) (strOf m)).run P w = .ok (.string (strOf (l ++ m))) w := by
  rw [run_string_add_sum w _ _ (by rw [strOf_size, strOf_size]; exact h), strOf_app]

set_option maxRecDepth 100000 in
theorem conv_one (w : World) (B : Nat) (x : UInt8) (h : w.cell? ⟨B, 0, none⟩ = some (.int .u8 (x.toNat : Int))) :
    (convert 121 9 (.slice (some ⟨B, 0, none⟩) 1 1)).run Tryz.prog w = .ok (.string (strOf [x])) w := by
  have hr := run_convert_bytes_arg (P := Tryz.prog) w 121 5 Tryz.underlying121 Tryz.underlying5 B 0 1 1 [(x.toNat : Int)] rfl (fun i hi => by
    obtain rfl : i = 0 := by omega
    rw [h]; rfl) 9 Tryz.underlying9
  rw [hr]
  congr 2
  simp [strOfNums, strOf]

theorem dec_small (u : Nat) (h : u < 10) : Lib.decDigits u = [UInt8.ofNat (48 + u)] := by rw [Lib.decDigits, dif_pos h]
theorem dec_more (u : Nat) (h : ¬ u < 10) : Lib.decDigits u = Lib.decDigits (u / 10) ++ [UInt8.ofNat (48 + u % 10)] := by rw [Lib.decDigits, dif_neg h]

theorem dec_len (u : Nat) : (Lib.decDigits u).length ≤ u + 1 := by
  induction u using Nat.strongRecOn with
  | _ u ih =>
    by_cases h : u < 10
    · rw [dec_small u h]; simp
    · rw [dec_more u h, List.length_append]
      have := ih (u / 10) (by omega)
      simp only [List.length_cons, List.length_nil]
      omega

theorem bcell {W w1 : World} (hb : Below W.heap.size W w1) : (∀ b o, b < W.heap.size → w1.cell? ⟨b, o, none⟩ = W.cell? ⟨b, o, none⟩) ∧ (∀ b o, b < W.heap.size → w1.frozen? ⟨b, o, none⟩ = W.frozen? ⟨b, o, none⟩) :=
  ⟨fun b o h => hb.cell (p := ⟨b, o, none⟩) h, fun b o h => hb.frozen (p := ⟨b, o, none⟩) h⟩

theorem dig_nums (a : Int) (h0 : 0 ≤ a) (h9 : a < 10) : (48 + a : Int) = ((UInt8.ofNat (48 + a.toNat)).toNat : Int) := by
  have h : (UInt8.ofNat (48 + a.toNat)).toNat = 48 + a.toNat := by simp; omega
  rw [h]
  omega

theorem not_least (a : Int) (h0 : 0 ≤ a) : decide (a < -9223372036854775807) = false := decide_eq_false (by omega)

set_option maxRecDepth 100000 in
set_option maxHeartbeats 1000000 in
theorem dec_lt (a : Int) (w : World) (h0 : 0 ≤ a) (h10 : a < 10) :
    Calls Tryz.prog 153 #[.int .i64 a] w fun e w' => e = .returned (.string (strOf (Lib.decDigits a.toNat))) ∧ Below w.heap.size w w' := by
  have hd := dec_small a.toNat (by omega)
  have hn := dig_nums a h0 h10
  obtain ⟨x, hx⟩ : ∃ x, x = UInt8.ofNat (48 + a.toNat) := ⟨_, rfl⟩
  rw [← hx] at hn hd
  have hcv := conv_one (w.alloc (.cells #[.int .u8 (48 + a)] 5)) w.heap.size x (by rw [← hn]; simp)
  have HD := Lib.hid hd
  clear hn hx hd
  have h1 := not_least a h0
  go_enter Tryz.func153, Tryz.ntmps153
  go_wp2_with fail
  go_ret
  exact ⟨by rw [HD.out]; rfl, (Below.refl _ _).alloc (Nat.le_refl _) _⟩

set_option maxRecDepth 100000 in
set_option maxHeartbeats 400000 in
theorem dec_any (k : Nat) : ∀ (a : Int) (w : World), 0 ≤ a → a ≤ k → a ≤ 1099511627776 →
    Calls Tryz.prog 153 #[.int .i64 a] w fun e w' => e = .returned (.string (strOf (Lib.decDigits a.toNat))) ∧ Below w.heap.size w w' := by
  induction k with
  | zero =>
    intro a w h0 hk hm
    exact dec_lt a w h0 (by omega)
  | succ k ih =>
    intro a w h0 hk hm
    by_cases h10 : a < 10
    · exact dec_lt a w h0 h10
    · have hmore := dec_more a.toNat (by omega)
      obtain ⟨q, hq⟩ : ∃ q, q = a / 10 := ⟨_, rfl⟩
      obtain ⟨m, hm2⟩ : ∃ m, m = a % 10 := ⟨_, rfl⟩
      have hq0 : 0 ≤ q := by omega
      have hm0 : 0 ≤ m := by omega
      have hm9 : m < 10 := by omega
      have hqn : a.toNat / 10 = q.toNat := by omega
      have hrn : a.toNat % 10 = m.toNat := by omega
      rw [hqn, hrn] at hmore
      obtain ⟨x, hx⟩ : ∃ x, x = UInt8.ofNat (48 + m.toNat) := ⟨_, rfl⟩
      have hn := dig_nums m hm0 hm9
      rw [← hx] at hn hmore
      have hI := fun w => ih q w hq0 (by omega) (by omega)
      have hl := dec_len q.toNat
      have hq1 : q ≤ 1099511627776 := by omega
      obtain ⟨l, hl2⟩ : ∃ l, l = Lib.decDigits q.toNat := ⟨_, rfl⟩
      rw [← hl2] at hI hl hmore
      have hadd := add_strs Tryz.prog l [x] (by simp; omega)
      have HD := Lib.hid hmore
      have hcv : ∀ (W : World) (B : Nat), W.cell? ⟨B, 0, none⟩ = some (.int .u8 (48 + m)) → (convert 121 9 (.slice (some ⟨B, 0, none⟩) 1 1)).run Tryz.prog W = .ok (.string (strOf [x])) W := fun W B h => conv_one W B x (by rw [h, hn])
      have hd : a.tdiv 10 = q := by rw [hq]; exact Int.tdiv_eq_ediv_of_nonneg h0
      have hmm : a.tmod 10 = m := by rw [hm2]; exact Int.tmod_eq_emod_of_nonneg h0
      have hwq : IntKind.i64.wrap q = q := IntWalk.i64_in _ (by omega)
      have hwm : IntKind.i64.wrap (48 + m) = 48 + m := IntWalk.i64_in _ (by omega)
      have hwu : IntKind.u8.wrap (48 + m) = 48 + m := IntWalk.u8_in _ (by omega)
      have h1 := not_least a h0
      clear hmore hqn hrn hx hn hq hm2 hl hl2 hk hm ih
      go_enter Tryz.func153, Tryz.ntmps153
      go_wp2_with fail
      clear h1
      go_region_with (go_at_call 153; refine (hI _).mono ?_; rintro e w1 ⟨rfl, hb1⟩; obtain ⟨hc1, hf1⟩ := bcell hb1)
      all_goals clear hcv hadd hwq hwm hwu hd hmm hI
      all_goals go_wp2_with fail
      all_goals go_ret
      all_goals refine ⟨by rw [HD.out]; rfl, ?_⟩
      all_goals first
        | exact ((Below.refl _ w).drew.trans hb1).alloc hb1.size _
        | exact ((Below.refl _ w).drew.alloc (Nat.le_refl _) _).trans (hb1.mono (by simp))
        | exact (((Below.refl _ w).alloc (Nat.le_refl _) _).drew).trans (hb1.mono (by simp))
        | trace_state

end Go.Proofs.YtjmfefaoenmppaaGreatDoor.Fx

namespace Go.Proofs
open Go.Shelf
def Tryz.lays156_ren : Go.Shelf.Ren := ⟨fun | 156 => 156 | 165 => 164 | 166 => 165 | 169 => 166 | 240 => 173 | 241 => 174 | 276 => 183 | 277 => 184 | n => n, fun | 31 => 22 | 9 => 9 | 3 => 3 | 4 => 4 | 0 => 0 | 20 => 20 | 72 => 181 | 76 => 184 | 70 => 179 | 37 => 121 | 75 => 183 | 127 => 189 | 164 => 192 | 5 => 5 | 80 => 165 | n => n, fun | n => n⟩
theorem Tryz.lays156 : Go.Proofs.Lays.n156 Tryz.prog Tryz.lays156_ren := {
  mixed := by kernel_rfl
  f156 := Tryz.func156.trans (congrArg some (by kernel_rfl))
  f165 := Tryz.func164.trans (congrArg some (by kernel_rfl))
  f166 := Tryz.func165.trans (congrArg some (by kernel_rfl))
  f169 := Tryz.func166.trans (congrArg some (by kernel_rfl))
  f240 := Tryz.func173.trans (congrArg some (by kernel_rfl))
  f241 := Tryz.func174.trans (congrArg some (by kernel_rfl))
  f276 := Tryz.func183.trans (congrArg some (by kernel_rfl))
  f277 := Tryz.func184.trans (congrArg some (by kernel_rfl))
  t0 := Tryz.underlying0
  a0 := Tryz.isAgg0
  z0 := Tryz.sizeOf0
  v0 := Tryz.zeroValue0
  t3 := Tryz.underlying3
  a3 := Tryz.isAgg3
  z3 := Tryz.sizeOf3
  v3 := Tryz.zeroValue3
  t4 := Tryz.underlying4
  a4 := Tryz.isAgg4
  z4 := Tryz.sizeOf4
  v4 := Tryz.zeroValue4
  t9 := Tryz.underlying9
  a9 := Tryz.isAgg9
  z9 := Tryz.sizeOf9
  v9 := Tryz.zeroValue9
  t20 := Tryz.underlying20
  a20 := Tryz.isAgg20
  z20 := Tryz.sizeOf20
  v20 := Tryz.zeroValue20
  t31 := Tryz.underlying22
  a31 := Tryz.isAgg22
  z31 := Tryz.sizeOf22
  v31 := Tryz.zeroValue22
  t37 := Tryz.underlying121
  a37 := Tryz.isAgg121
  z37 := Tryz.sizeOf121
  v37 := Tryz.zeroValue121
  t70 := Tryz.underlying179
  a70 := Tryz.isAgg179
  z70 := Tryz.sizeOf179
  v70 := Tryz.zeroValue179
  t72 := Tryz.underlying181
  a72 := Tryz.isAgg181
  z72 := Tryz.sizeOf181
  v72 := Tryz.zeroValue181
  t75 := Tryz.underlying183
  a75 := Tryz.isAgg183
  z75 := Tryz.sizeOf183
  v75 := Tryz.zeroValue183
  t76 := Tryz.underlying184
  a76 := Tryz.isAgg184
  z76 := Tryz.sizeOf184
  v76 := Tryz.zeroValue184
  t127 := Tryz.underlying189
  a127 := Tryz.isAgg189
  z127 := Tryz.sizeOf189
  v127 := Tryz.zeroValue189
  t164 := Tryz.underlying192
  a164 := Tryz.isAgg192
  z164 := Tryz.sizeOf192
  v164 := Tryz.zeroValue192 }
theorem Tryz.Builder_Extra_156 : Builder.Extra Tryz.prog Tryz.lays156_ren := {
  sizeBuilder := by kernel_rfl
  liesBuilder := by kernel_rfl
  t5 := Tryz.underlying5
  a5 := Tryz.isAgg5
  z5 := Tryz.sizeOf5
  v5 := Tryz.zeroValue5
  infoByte := by kernel_rfl
  cellsByte := by kernel_rfl
  sizeByte := by kernel_rfl
  neB5 := by decide }
open Go.RowKit in
/-- strings.Join: "Join concatenates the elements of its first argument to create a single string. The separator string sep is placed between elements in the resulting string.": HOWEVER MANY ELEMENTS. Below the heap's end the world is as it was. (LAID: no walk: one application.) -/
theorem Tryz.strings_Join (bk o c : Nat) (xs : List ByteArray) (sep : ByteArray) (w : World) (hcells : ∀ (j : Nat) x, xs[j]? = some x → w.cell? ⟨bk, o + j, none⟩ = some (.string x)) (hbk : bk < w.heap.size) (hN : xs.length ≤ 140737488355328) (hcap : xs.length ≤ c) (hlen : (Lib.join (xs.map (·.data.toList)) sep.data.toList).length ≤ 140737488355328) :
    Calls Tryz.prog 156 #[.slice (some ⟨bk, o, none⟩) xs.length c, .string sep] w fun e w' => e = .returned (.string ⟨(Lib.join (xs.map (·.data.toList)) sep.data.toList).toArray⟩) ∧ Below w.heap.size w w' := Any.strings_Join Tryz.lays156 Tryz.Builder_Extra_156 bk o c xs sep w hcells hbk hN hcap hlen
def Tryz.laysM171_ren : Go.Shelf.Ren := ⟨fun | 171 => 172 | 243 => 182 | 246 => 192 | 283 => 196 | 284 => 197 | 285 => 198 | 286 => 199 | 129 => 203 | 317 => 202 | 318 => 204 | 319 => 205 | 320 => 206 | 337 => 207 | 338 => 208 | n => n, fun | 3 => 3 | 9 => 9 | 2 => 2 | 4 => 4 | 171 => 216 | 0 => 0 | 53 => 209 | 37 => 121 | 5 => 5 | 173 => 219 | 212 => 226 | 51 => 199 | 20 => 20 | 213 => 227 | 46 => 190 | 232 => 230 | 233 => 231 | n => n, fun | 17 => 5 | 18 => 6 | 19 => 7 | n => n⟩
theorem Tryz.laysM171 : Go.Proofs.LaysM.n171 Tryz.prog Tryz.laysM171_ren := {
  mixed := by kernel_rfl
  f129 := Tryz.func203.trans (congrArg some (by kernel_rfl))
  f171 := Tryz.func172.trans (congrArg some (by kernel_rfl))
  f243 := Tryz.func182.trans (congrArg some (by kernel_rfl))
  f246 := Tryz.func192.trans (congrArg some (by kernel_rfl))
  f283 := Tryz.func196.trans (congrArg some (by kernel_rfl))
  f284 := Tryz.func197.trans (congrArg some (by kernel_rfl))
  f285 := Tryz.func198.trans (congrArg some (by kernel_rfl))
  f286 := Tryz.func199.trans (congrArg some (by kernel_rfl))
  f317 := Tryz.func202.trans (congrArg some (by kernel_rfl))
  f318 := Tryz.func204.trans (congrArg some (by kernel_rfl))
  f319 := Tryz.func205.trans (congrArg some (by kernel_rfl))
  f320 := Tryz.func206.trans (congrArg some (by kernel_rfl))
  f337 := Tryz.func207.trans (congrArg some (by kernel_rfl))
  f338 := Tryz.func208.trans (congrArg some (by kernel_rfl))
  t0 := Tryz.underlying0
  a0 := Tryz.isAgg0
  z0 := Tryz.sizeOf0
  v0 := Tryz.zeroValue0
  t2 := Tryz.underlying2
  a2 := Tryz.isAgg2
  z2 := Tryz.sizeOf2
  v2 := Tryz.zeroValue2
  t3 := Tryz.underlying3
  a3 := Tryz.isAgg3
  z3 := Tryz.sizeOf3
  v3 := Tryz.zeroValue3
  t4 := Tryz.underlying4
  a4 := Tryz.isAgg4
  z4 := Tryz.sizeOf4
  v4 := Tryz.zeroValue4
  t5 := Tryz.underlying5
  a5 := Tryz.isAgg5
  z5 := Tryz.sizeOf5
  v5 := Tryz.zeroValue5
  t9 := Tryz.underlying9
  a9 := Tryz.isAgg9
  z9 := Tryz.sizeOf9
  v9 := Tryz.zeroValue9
  t20 := Tryz.underlying20
  a20 := Tryz.isAgg20
  z20 := Tryz.sizeOf20
  v20 := Tryz.zeroValue20
  t37 := Tryz.underlying121
  a37 := Tryz.isAgg121
  z37 := Tryz.sizeOf121
  v37 := Tryz.zeroValue121
  t46 := Tryz.underlying190
  a46 := Tryz.isAgg190
  z46 := Tryz.sizeOf190
  v46 := Tryz.zeroValue190
  t51 := Tryz.underlying199
  a51 := Tryz.isAgg199
  z51 := Tryz.sizeOf199
  v51 := Tryz.zeroValue199
  t53 := Tryz.underlying209
  a53 := Tryz.isAgg209
  z53 := Tryz.sizeOf209
  v53 := Tryz.zeroValue209
  t171 := Tryz.underlying216
  a171 := Tryz.isAgg216
  z171 := Tryz.sizeOf216
  v171 := Tryz.zeroValue216
  t173 := Tryz.underlying219
  a173 := Tryz.isAgg219
  z173 := Tryz.sizeOf219
  v173 := Tryz.zeroValue219
  t212 := Tryz.underlying226
  a212 := Tryz.isAgg226
  z212 := Tryz.sizeOf226
  v212 := Tryz.zeroValue226
  t213 := Tryz.underlying227
  a213 := Tryz.isAgg227
  z213 := Tryz.sizeOf227
  t232 := Tryz.underlying230
  a232 := Tryz.isAgg230
  z232 := Tryz.sizeOf230
  v232 := Tryz.zeroValue230
  t233 := Tryz.underlying231
  a233 := Tryz.isAgg231
  z233 := Tryz.sizeOf231
  v233 := Tryz.zeroValue231
  g17 := by kernel_rfl
  g18 := by kernel_rfl
  g19 := by kernel_rfl
  i0 := by kernel_rfl
  i2 := by kernel_rfl
  i3 := by kernel_rfl
  i4 := by kernel_rfl
  i5 := by kernel_rfl
  i9 := by kernel_rfl
  i20 := by kernel_rfl
  i37 := by kernel_rfl
  i46 := by kernel_rfl
  i51 := by kernel_rfl
  i53 := by kernel_rfl
  i171 := by kernel_rfl
  i173 := by kernel_rfl
  i212 := by kernel_rfl
  i232 := by kernel_rfl
  i233 := by kernel_rfl
  m17 := by kernel_rfl
  m18 := by kernel_rfl
  m19 := by kernel_rfl }
open Go.RowKit Go.Sort Go.Lib in
/-- strconv.Itoa: "Itoa is equivalent to FormatInt(int64(i), 10).": i's DECIMAL NUMERAL ('Lib.itoa': a '-' where i is negative, then the digits), FOR EVERY int. The world behind the call: the world before it, new blocks behind the heap (the library's 'var a [24]byte'), draws. (LAID: no walk: one application.) -/
theorem Tryz.strconv_Itoa (n : Int) (h0 : -9223372036854775808 ≤ n) (h1 : n ≤ 9223372036854775807) (w : World) (htab : Lib.TabIs Tryz.prog w "internal/strconv.uint64pow10" .u64 Lib.pow10Tab) :
    Calls Tryz.prog 172 #[.int .i64 n] w fun e w' => e = .returned (.string ⟨(Lib.itoa n).toArray⟩) ∧ ∃ k os, w' = grow (w.drewN k) os := Any.strconv_Itoa Tryz.laysM171 n h0 h1 w htab
def Tryz.laysC172_ren : Go.Shelf.Ren := ⟨fun | 172 => 171 | 244 => 180 | 245 => 181 | 247 => 187 | 279 => 188 | 280 => 189 | 281 => 190 | 282 => 191 | 287 => 193 | 316 => 194 | 171 => 172 | 205 => 195 | 321 => 200 | 322 => 201 | 243 => 182 | 246 => 192 | 283 => 196 | 284 => 197 | 285 => 198 | 286 => 199 | 129 => 203 | 317 => 202 | 318 => 204 | 319 => 205 | 320 => 206 | 337 => 207 | 338 => 208 | n => n, fun | 9 => 9 | 3 => 3 | 75 => 183 | 76 => 184 | 4 => 4 | 5 => 5 | 167 => 202 | 37 => 121 | 0 => 0 | 85 => 203 | 2 => 2 | 168 => 205 | 53 => 209 | 175 => 210 | 46 => 190 | 210 => 214 | 127 => 189 | 145 => 224 | 143 => 222 | 21 => 21 | 171 => 216 | 173 => 219 | 212 => 226 | 51 => 199 | 20 => 20 | 213 => 227 | 232 => 230 | 233 => 231 | 80 => 165 | n => n, fun | 15 => 3 | 16 => 4 | 17 => 5 | 18 => 6 | 19 => 7 | n => n⟩
theorem Tryz.laysC172 : Go.Proofs.LaysC.n172 Tryz.prog Tryz.laysC172_ren := {
  mixed := by kernel_rfl
  f129 := Tryz.func203.trans (congrArg some (by kernel_rfl))
  f171 := Tryz.func172.trans (congrArg some (by kernel_rfl))
  f172 := Tryz.func171.trans (congrArg some (by kernel_rfl))
  f205 := Tryz.func195.trans (congrArg some (by kernel_rfl))
  f243 := Tryz.func182.trans (congrArg some (by kernel_rfl))
  f244 := Tryz.func180.trans (congrArg some (by kernel_rfl))
  f245 := Tryz.func181.trans (congrArg some (by kernel_rfl))
  f246 := Tryz.func192.trans (congrArg some (by kernel_rfl))
  f247 := Tryz.func187.trans (congrArg some (by kernel_rfl))
  f279 := Tryz.func188.trans (congrArg some (by kernel_rfl))
  f280 := Tryz.func189.trans (congrArg some (by kernel_rfl))
  f281 := Tryz.func190.trans (congrArg some (by kernel_rfl))
  f282 := Tryz.func191.trans (congrArg some (by kernel_rfl))
  f283 := Tryz.func196.trans (congrArg some (by kernel_rfl))
  f284 := Tryz.func197.trans (congrArg some (by kernel_rfl))
  f285 := Tryz.func198.trans (congrArg some (by kernel_rfl))
  f286 := Tryz.func199.trans (congrArg some (by kernel_rfl))
  f287 := Tryz.func193.trans (congrArg some (by kernel_rfl))
  f316 := Tryz.func194.trans (congrArg some (by kernel_rfl))
  f317 := Tryz.func202.trans (congrArg some (by kernel_rfl))
  f318 := Tryz.func204.trans (congrArg some (by kernel_rfl))
  f319 := Tryz.func205.trans (congrArg some (by kernel_rfl))
  f320 := Tryz.func206.trans (congrArg some (by kernel_rfl))
  f321 := Tryz.func200.trans (congrArg some (by kernel_rfl))
  f322 := Tryz.func201.trans (congrArg some (by kernel_rfl))
  f337 := Tryz.func207.trans (congrArg some (by kernel_rfl))
  f338 := Tryz.func208.trans (congrArg some (by kernel_rfl))
  t0 := Tryz.underlying0
  a0 := Tryz.isAgg0
  z0 := Tryz.sizeOf0
  v0 := Tryz.zeroValue0
  t2 := Tryz.underlying2
  a2 := Tryz.isAgg2
  z2 := Tryz.sizeOf2
  v2 := Tryz.zeroValue2
  t3 := Tryz.underlying3
  a3 := Tryz.isAgg3
  z3 := Tryz.sizeOf3
  v3 := Tryz.zeroValue3
  t4 := Tryz.underlying4
  a4 := Tryz.isAgg4
  z4 := Tryz.sizeOf4
  v4 := Tryz.zeroValue4
  t5 := Tryz.underlying5
  a5 := Tryz.isAgg5
  z5 := Tryz.sizeOf5
  v5 := Tryz.zeroValue5
  t9 := Tryz.underlying9
  a9 := Tryz.isAgg9
  z9 := Tryz.sizeOf9
  v9 := Tryz.zeroValue9
  t20 := Tryz.underlying20
  a20 := Tryz.isAgg20
  z20 := Tryz.sizeOf20
  v20 := Tryz.zeroValue20
  t21 := Tryz.underlying21
  a21 := Tryz.isAgg21
  z21 := Tryz.sizeOf21
  v21 := Tryz.zeroValue21
  t37 := Tryz.underlying121
  a37 := Tryz.isAgg121
  z37 := Tryz.sizeOf121
  v37 := Tryz.zeroValue121
  t46 := Tryz.underlying190
  a46 := Tryz.isAgg190
  z46 := Tryz.sizeOf190
  v46 := Tryz.zeroValue190
  t51 := Tryz.underlying199
  a51 := Tryz.isAgg199
  z51 := Tryz.sizeOf199
  v51 := Tryz.zeroValue199
  t53 := Tryz.underlying209
  a53 := Tryz.isAgg209
  z53 := Tryz.sizeOf209
  v53 := Tryz.zeroValue209
  t75 := Tryz.underlying183
  a75 := Tryz.isAgg183
  z75 := Tryz.sizeOf183
  v75 := Tryz.zeroValue183
  t76 := Tryz.underlying184
  a76 := Tryz.isAgg184
  z76 := Tryz.sizeOf184
  v76 := Tryz.zeroValue184
  t85 := Tryz.underlying203
  a85 := Tryz.isAgg203
  z85 := Tryz.sizeOf203
  v85 := Tryz.zeroValue203
  t127 := Tryz.underlying189
  a127 := Tryz.isAgg189
  z127 := Tryz.sizeOf189
  v127 := Tryz.zeroValue189
  t143 := Tryz.underlying222
  a143 := Tryz.isAgg222
  z143 := Tryz.sizeOf222
  v143 := Tryz.zeroValue222
  t145 := Tryz.underlying224
  a145 := Tryz.isAgg224
  z145 := Tryz.sizeOf224
  v145 := Tryz.zeroValue224
  t167 := Tryz.underlying202
  a167 := Tryz.isAgg202
  z167 := Tryz.sizeOf202
  v167 := Tryz.zeroValue202
  t168 := Tryz.underlying205
  a168 := Tryz.isAgg205
  z168 := Tryz.sizeOf205
  v168 := Tryz.zeroValue205
  t171 := Tryz.underlying216
  a171 := Tryz.isAgg216
  z171 := Tryz.sizeOf216
  v171 := Tryz.zeroValue216
  t173 := Tryz.underlying219
  a173 := Tryz.isAgg219
  z173 := Tryz.sizeOf219
  v173 := Tryz.zeroValue219
  t175 := Tryz.underlying210
  a175 := Tryz.isAgg210
  z175 := Tryz.sizeOf210
  v175 := Tryz.zeroValue210
  t210 := Tryz.underlying214
  a210 := Tryz.isAgg214
  z210 := Tryz.sizeOf214
  v210 := Tryz.zeroValue214
  t212 := Tryz.underlying226
  a212 := Tryz.isAgg226
  z212 := Tryz.sizeOf226
  v212 := Tryz.zeroValue226
  t213 := Tryz.underlying227
  a213 := Tryz.isAgg227
  z213 := Tryz.sizeOf227
  t232 := Tryz.underlying230
  a232 := Tryz.isAgg230
  z232 := Tryz.sizeOf230
  v232 := Tryz.zeroValue230
  t233 := Tryz.underlying231
  a233 := Tryz.isAgg231
  z233 := Tryz.sizeOf231
  v233 := Tryz.zeroValue231
  g15 := by kernel_rfl
  g16 := by kernel_rfl
  g17 := by kernel_rfl
  g18 := by kernel_rfl
  g19 := by kernel_rfl
  t80 := Tryz.underlying165
  a80 := Tryz.isAgg165
  z80 := Tryz.sizeOf165
  v80 := Tryz.zeroValue165
  i0 := by kernel_rfl
  i2 := by kernel_rfl
  i3 := by kernel_rfl
  i4 := by kernel_rfl
  i5 := by kernel_rfl
  i9 := by kernel_rfl
  i20 := by kernel_rfl
  i21 := by kernel_rfl
  i37 := by kernel_rfl
  i46 := by kernel_rfl
  i51 := by kernel_rfl
  i53 := by kernel_rfl
  i75 := by kernel_rfl
  i76 := by kernel_rfl
  i80 := by kernel_rfl
  i85 := by kernel_rfl
  i127 := by kernel_rfl
  i143 := by kernel_rfl
  i145 := by kernel_rfl
  i167 := by kernel_rfl
  i168 := by kernel_rfl
  i171 := by kernel_rfl
  i173 := by kernel_rfl
  i175 := by kernel_rfl
  i210 := by kernel_rfl
  i212 := by kernel_rfl
  i232 := by kernel_rfl
  i233 := by kernel_rfl
  m15 := by kernel_rfl
  m16 := by kernel_rfl
  m17 := by kernel_rfl
  m18 := by kernel_rfl
  m19 := by kernel_rfl
  c0 := by kernel_rfl
  c2 := by kernel_rfl
  c3 := by kernel_rfl
  c4 := by kernel_rfl
  c5 := by kernel_rfl
  c9 := by kernel_rfl
  c20 := by kernel_rfl
  c21 := by kernel_rfl
  c37 := by kernel_rfl
  c46 := by kernel_rfl
  c51 := by kernel_rfl
  c53 := by kernel_rfl
  c75 := by kernel_rfl
  c76 := by kernel_rfl
  c80 := by kernel_rfl
  c85 := by kernel_rfl
  c127 := by kernel_rfl
  c143 := by kernel_rfl
  c145 := by kernel_rfl
  c167 := by kernel_rfl
  c168 := by kernel_rfl
  c171 := by kernel_rfl
  c173 := by kernel_rfl
  c175 := by kernel_rfl
  c210 := by kernel_rfl
  c212 := by kernel_rfl
  c213 := by kernel_rfl
  c232 := by kernel_rfl
  c233 := by kernel_rfl }
open Go.RowKit in
/-- strconv.Atoi, AT EVERY STRING THAT SPELLS AN int ('Lib.atoiAll .. = .ok v'; of whatever length: leading zeros count): v, AND NO ERROR. The world: as it was, or with the one new row that '[]byte(..)' lays. (LAID: no walk: one application.) -/
theorem Tryz.strconv_Atoi_ok (s : ByteArray) (hmax : s.size ≤ 9223372036854775806) (v : Int) (h : Lib.atoiAll s.data.toList = .ok v) (w : World) :
    Calls Tryz.prog 171 #[.string s] w fun e w' => e = .returned (.tuple #[.int .i64 v, .nilIface]) ∧ (w' = w ∨ ∃ t, w' = Lib.bytesWorld w 5 t) := Any.strconv_Atoi_ok Tryz.laysC172 s hmax v h w
open Go.RowKit in
theorem Tryz.strconv_Atoi_bad (s : ByteArray) (hlim : s.size ≤ 281474976710656) (h1 : ∀ v, Lib.atoiAll s.data.toList ≠ .ok v) (h2 : Lib.atoiAll s.data.toList ≠ .range) (tp : TypeId) (p : Value) (w : World) (hvar : w.var? Tryz.prog "strconv.ErrSyntax" = some #[.iface tp p]) :
    Calls Tryz.prog 171 #[.string s] w fun e w' => ∃ N, e = .returned (.tuple #[.int .i64 0, .iface 205 (.pointer (some ⟨N, 0, none⟩))]) ∧ w.heap.size ≤ N ∧ w'.heap[N]? = some (.cells #[.string ⟨#[65, 116, 111, 105]⟩, .string s, .iface tp p] 214 (0, 0)) ∧ Below w.heap.size w w' := by
  cases h : Lib.atoiAll s.data.toList with
  | ok v => exact absurd h (h1 v)
  | range => exact absurd h h2
  | _ => exact Any.strconv_Atoi_syntax_var Tryz.laysC172 s hlim h tp p w hvar
open Go.RowKit in
theorem Tryz.strconv_Atoi_range_var (s : ByteArray) (hlim : s.size ≤ 281474976710656) (h : Lib.atoiAll s.data.toList = .range) (tp : TypeId) (p : Value) (w : World) (hvar : w.var? Tryz.prog "strconv.ErrRange" = some #[.iface tp p]) :
    Calls Tryz.prog 171 #[.string s] w fun e w' => ∃ N, e = .returned (.tuple #[.int .i64 (Lib.atoiSat s.data.toList), .iface 205 (.pointer (some ⟨N, 0, none⟩))]) ∧ w.heap.size ≤ N ∧ w'.heap[N]? = some (.cells #[.string ⟨#[65, 116, 111, 105]⟩, .string s, .iface tp p] 214 (0, 0)) ∧ Below w.heap.size w w' := Any.strconv_Atoi_range_var Tryz.laysC172 s hlim h tp p w hvar
def Tryz.lays147_ren : Go.Shelf.Ren := ⟨fun | 147 => 135 | 221 => 150 | 268 => 158 | 138 => 159 | 143 => 160 | 195 => 167 | 197 => 168 | 218 => 169 | 219 => 170 | 260 => 175 | 217 => 176 | 225 => 177 | 224 => 178 | 267 => 179 | 266 => 185 | 314 => 186 | n => n, fun | 9 => 9 | 3 => 3 | 31 => 22 | 4 => 4 | 0 => 0 | 105 => 186 | 21 => 21 | 5 => 5 | 46 => 190 | 119 => 195 | 139 => 198 | 138 => 197 | 146 => 200 | 51 => 199 | n => n, fun | 1 => 0 | 3 => 1 | 4 => 2 | n => n⟩
theorem Tryz.lays147 : Go.Proofs.Lays.n147 Tryz.prog Tryz.lays147_ren := {
  mixed := by kernel_rfl
  f138 := Tryz.func159.trans (congrArg some (by kernel_rfl))
  f143 := Tryz.func160.trans (congrArg some (by kernel_rfl))
  f147 := Tryz.func135.trans (congrArg some (by kernel_rfl))
  f195 := Tryz.func167.trans (congrArg some (by kernel_rfl))
  f197 := Tryz.func168.trans (congrArg some (by kernel_rfl))
  f217 := Tryz.func176.trans (congrArg some (by kernel_rfl))
  f218 := Tryz.func169.trans (congrArg some (by kernel_rfl))
  f219 := Tryz.func170.trans (congrArg some (by kernel_rfl))
  f221 := Tryz.func150.trans (congrArg some (by kernel_rfl))
  f224 := Tryz.func178.trans (congrArg some (by kernel_rfl))
  f225 := Tryz.func177.trans (congrArg some (by kernel_rfl))
  f260 := Tryz.func175.trans (congrArg some (by kernel_rfl))
  f266 := Tryz.func185.trans (congrArg some (by kernel_rfl))
  f267 := Tryz.func179.trans (congrArg some (by kernel_rfl))
  f268 := Tryz.func158.trans (congrArg some (by kernel_rfl))
  f314 := Tryz.func186.trans (congrArg some (by kernel_rfl))
  t0 := Tryz.underlying0
  a0 := Tryz.isAgg0
  z0 := Tryz.sizeOf0
  v0 := Tryz.zeroValue0
  t3 := Tryz.underlying3
  a3 := Tryz.isAgg3
  z3 := Tryz.sizeOf3
  v3 := Tryz.zeroValue3
  t4 := Tryz.underlying4
  a4 := Tryz.isAgg4
  z4 := Tryz.sizeOf4
  v4 := Tryz.zeroValue4
  t5 := Tryz.underlying5
  a5 := Tryz.isAgg5
  z5 := Tryz.sizeOf5
  v5 := Tryz.zeroValue5
  t9 := Tryz.underlying9
  a9 := Tryz.isAgg9
  z9 := Tryz.sizeOf9
  v9 := Tryz.zeroValue9
  t21 := Tryz.underlying21
  a21 := Tryz.isAgg21
  z21 := Tryz.sizeOf21
  v21 := Tryz.zeroValue21
  t31 := Tryz.underlying22
  a31 := Tryz.isAgg22
  z31 := Tryz.sizeOf22
  v31 := Tryz.zeroValue22
  t46 := Tryz.underlying190
  a46 := Tryz.isAgg190
  z46 := Tryz.sizeOf190
  v46 := Tryz.zeroValue190
  t51 := Tryz.underlying199
  a51 := Tryz.isAgg199
  z51 := Tryz.sizeOf199
  v51 := Tryz.zeroValue199
  t105 := Tryz.underlying186
  a105 := Tryz.isAgg186
  z105 := Tryz.sizeOf186
  v105 := Tryz.zeroValue186
  t119 := Tryz.underlying195
  a119 := Tryz.isAgg195
  z119 := Tryz.sizeOf195
  t138 := Tryz.underlying197
  a138 := Tryz.isAgg197
  z138 := Tryz.sizeOf197
  v138 := Tryz.zeroValue197
  t139 := Tryz.underlying198
  a139 := Tryz.isAgg198
  z139 := Tryz.sizeOf198
  v139 := Tryz.zeroValue198
  t146 := Tryz.underlying200
  a146 := Tryz.isAgg200
  z146 := Tryz.sizeOf200
  v146 := Tryz.zeroValue200
  g1 := by kernel_rfl
  g3 := by kernel_rfl
  g4 := by kernel_rfl }
open Go.RowKit Go.Lib in
/-- strings.SplitN, n > 0. (LAID: no walk: one application.) -/
theorem Tryz.strings_SplitN (s sep : ByteArray) (n : Nat) (m : Int) (w : World) (hs : s.size < 4294967281) (hm : w.cell? ⟨0, 0, none⟩ = some (.int .i64 m)) (h1 : 1 ≤ sep.size) (hn : 1 ≤ n) (hn63 : n ≤ 9223372036854775807) :
    Calls Tryz.prog 135 #[.string s, .string sep, .int .i64 n] w fun e w' =>
      e = .returned (.slice (some ⟨w.heap.size, 0, none⟩) (Lib.splitB sep 0 (min n (s.size + 1) - 1) s).length (min n (s.size + 1))) ∧ w' = w.alloc (.cells (Lib.cellsOf (Lib.splitB sep 0 (min n (s.size + 1) - 1) s) (min n (s.size + 1))) 9) := Any.strings_SplitN Tryz.lays147 (by kernel_rfl) s sep n m w hs hm h1 hn hn63
end Go.Proofs

namespace Go.Proofs.YtjmfefaoenmppaaGreatDoor.Fx
open Go.RowKit

def numText (a : Int) : List UInt8 := if 0 ≤ a ∧ a ≤ 999999999 then Lib.decDigits a.toNat else []

set_option maxRecDepth 100000 in
set_option maxHeartbeats 400000 in
theorem impl_num (a : Int) (w : World) (htab : Lib.TabIs Tryz.prog w "internal/strconv.uint64pow10" .u64 Lib.pow10Tab) :
    Calls Tryz.prog 163 #[.int .i64 a] w fun e w' => e = .returned (.string (strOf (numText a))) ∧ Below w.heap.size w w' := by
  by_cases h : 0 ≤ a ∧ a ≤ 999999999
  · have hT : numText a = Lib.decDigits a.toNat := if_pos h
    have HT := Lib.hid hT
    obtain ⟨h0, h1⟩ := h
    have hI := Tryz.strconv_Itoa a (by omega) (by omega) w htab
    have hi : (⟨(Lib.itoa a).toArray⟩ : ByteArray) = strOf (numText a) := by unfold Lib.itoa; rw [if_neg (by omega), hT]; rfl
    rw [hi] at hI
    have h2 : ¬ a < 0 := by omega
    have h3 : ¬ 999999999 < a := by omega
    clear hT hi HT
    go_enter Tryz.func163, Tryz.ntmps163
    go_wp2_with (go_at_call 172; refine hI.mono ?_; rintro e w1 ⟨rfl, k, os, rfl⟩)
    go_ret
    exact ⟨rfl, Lib.below_grow _ w (Nat.le_refl _) k os⟩
  · have hT : numText a = [] := if_neg h
    have HT := Lib.hid hT
    clear hT
    by_cases h0 : a < 0
    · clear h
      go_enter Tryz.func163, Tryz.ntmps163
      go_wp2_with fail
      go_ret
      exact ⟨by rw [HT.out]; rfl, Below.refl _ _⟩
    · have h1 : 999999999 < a := by omega
      clear h
      go_enter Tryz.func163, Tryz.ntmps163
      go_wp2_with fail
      go_ret
      exact ⟨by rw [HT.out]; rfl, Below.refl _ _⟩

end Go.Proofs.YtjmfefaoenmppaaGreatDoor.Fx

namespace Go.Proofs.YtjmfefaoenmppaaGreatDoor.Fx

def isD (c : UInt8) : Prop := 48 ≤ c.toNat ∧ c.toNat ≤ 57
instance (c : UInt8) : Decidable (isD c) := by unfold isD; infer_instance
def digs (l : List UInt8) : Prop := ∀ c ∈ l, isD c
instance (l : List UInt8) : Decidable (digs l) := by unfold digs; infer_instance
def Good (l : List UInt8) : Prop := l ≠ [] ∧ l.length ≤ 9 ∧ digs l ∧ (1 < l.length → l.head? ≠ some 48)
instance (l : List UInt8) : Decidable (Good l) := by unfold Good; infer_instance

def valF (acc : Nat) : List UInt8 → Nat
  | [] => acc
  | c :: l => valF (10 * acc + (c.toNat - 48)) l
def val (l : List UInt8) : Nat := valF 0 l
theorem valF_snoc (l : List UInt8) (c : UInt8) (acc : Nat) : valF acc (l ++ [c]) = 10 * valF acc l + (c.toNat - 48) := by
  induction l generalizing acc with
  | nil => rfl
  | cons d l ih => exact ih _
theorem val_snoc (l : List UInt8) (c : UInt8) : val (l ++ [c]) = 10 * val l + (c.toNat - 48) := valF_snoc l c 0
theorem valF_ge (l : List UInt8) (acc : Nat) : acc ≤ valF acc l := by
  induction l generalizing acc with
  | nil => exact Nat.le_refl _
  | cons d l ih =>
    have := ih (10 * acc + (d.toNat - 48))
    unfold valF
    omega
theorem valF_lt (l : List UInt8) (acc : Nat) (h : digs l) : valF acc l < (acc + 1) * 10 ^ l.length := by
  induction l generalizing acc with
  | nil =>
    show acc < (acc + 1) * 10 ^ 0
    rw [Nat.pow_zero]
    omega
  | cons d l ih =>
    have hd := h d (by simp)
    have := ih (10 * acc + (d.toNat - 48)) (fun c hc => h c (by simp [hc]))
    unfold valF
    have e : (acc + 1) * 10 ^ (d :: l).length = ((acc + 1) * 10) * 10 ^ l.length := by
      rw [List.length_cons, Nat.pow_succ, Nat.mul_comm (10 ^ l.length) 10, Nat.mul_assoc]
    rw [e]
    refine Nat.lt_of_lt_of_le this (Nat.mul_le_mul_right _ ?_)
    unfold isD at hd
    omega
theorem val_lt (l : List UInt8) (h : digs l) : val l < 10 ^ l.length := by
  have := valF_lt l 0 h
  unfold val
  omega
theorem ten9 : (10 : Nat) ^ 9 = 1000000000 := by rfl
theorem ten8 : (10 : Nat) ^ 8 = 100000000 := by rfl
theorem val_small (l : List UInt8) (h : digs l) (hl : l.length ≤ 9) : val l ≤ 999999999 := by
  have h1 := val_lt l h
  have h2 : 10 ^ l.length ≤ 10 ^ 9 := Nat.pow_le_pow_right (by decide) hl
  rw [ten9] at h2
  omega
theorem val_small8 (l : List UInt8) (h : digs l) (hl : l.length ≤ 8) : val l ≤ 99999999 := by
  have h1 := val_lt l h
  have h2 : 10 ^ l.length ≤ 10 ^ 8 := Nat.pow_le_pow_right (by decide) hl
  rw [ten8] at h2
  omega
theorem decFrom_val (l : List UInt8) (acc : Nat) (h : digs l) : Lib.decFrom acc l = some (valF acc l) := by
  induction l generalizing acc with
  | nil => rfl
  | cons d l ih =>
    have hd : isD d := h d (by simp)
    have hv : Lib.digitVal d = some (d.toNat - 48) := if_pos hd
    unfold Lib.decFrom
    rw [hv]
    simp only
    rw [ih _ (fun c hc => h c (by simp [hc])), Nat.mul_comm acc 10]
    rfl

theorem ofNat_dig (c : UInt8) (h : isD c) : UInt8.ofNat (48 + (c.toNat - 48)) = c := by
  unfold isD at h
  rw [show 48 + (c.toNat - 48) = c.toNat by omega]
  simp

theorem dec_val : ∀ (n : Nat) (l : List UInt8), l.length = n → Good l → Lib.decDigits (val l) = l := by
  intro n
  induction n with
  | zero =>
    intro l hl hg
    exact absurd (List.eq_nil_of_length_eq_zero hl) hg.1
  | succ n ih =>
    intro l hl hg
    obtain ⟨h0, h9, hd, hh⟩ := hg
    obtain ⟨l', c, rfl⟩ : ∃ l' c, l = l' ++ [c] := ⟨l.dropLast, l.getLast h0, (List.dropLast_concat_getLast h0).symm⟩
    have hc : isD c := hd c (by simp)
    have hd' : digs l' := fun x hx => hd x (by simp [hx])
    have hcn := ofNat_dig c hc
    simp only [List.length_append, List.length_cons, List.length_nil] at hl h9 hh
    unfold isD at hc
    rw [val_snoc]
    by_cases hl0 : l' = []
    · subst hl0
      rw [show val [] = 0 from rfl, dec_small _ (by omega), show 48 + (10 * 0 + (c.toNat - 48)) = 48 + (c.toNat - 48) by omega, hcn]
      rfl
    · obtain ⟨a, t, rfl⟩ : ∃ a t, l' = a :: t := by
        cases l' with
        | nil => exact absurd rfl hl0
        | cons a t => exact ⟨a, t, rfl⟩
      have ha : a ≠ 48 := by
        have := hh (by simp)
        simpa using this
      have hpos : 1 ≤ val (a :: t) := by
        have h1 := valF_ge t (10 * 0 + (a.toNat - 48))
        have h2 : isD a := hd' a (by simp)
        unfold isD at h2
        have h3 : a.toNat ≠ 48 := fun e => ha (UInt8.toNat_inj.1 e)
        have h4 : val (a :: t) = valF (10 * 0 + (a.toNat - 48)) t := rfl
        omega
      rw [dec_more _ (by omega), show (10 * val (a :: t) + (c.toNat - 48)) / 10 = val (a :: t) by omega, show (10 * val (a :: t) + (c.toNat - 48)) % 10 = c.toNat - 48 by omega,
        hcn, ih (a :: t) (by simp at hl ⊢; omega) ⟨by simp, by omega, hd', fun _ => by simpa using ha⟩]

theorem dec_head (v : Nat) (h : 1 ≤ v) : Lib.decDigits v ≠ [] ∧ (Lib.decDigits v).head? ≠ some 48 := by
  induction v using Nat.strongRecOn with
  | _ v ih =>
    by_cases h10 : v < 10
    · rw [dec_small v h10]
      refine ⟨by simp, ?_⟩
      intro e
      simp only [List.head?_cons, Option.some.injEq] at e
      have e2 := congrArg UInt8.toNat e
      simp at e2
      omega
    · obtain ⟨h1, h2⟩ := ih (v / 10) (by omega) (by omega)
      rw [dec_more v h10]
      refine ⟨by simp, ?_⟩
      cases hd : Lib.decDigits (v / 10) with
      | nil => exact absurd hd h1
      | cons a t =>
        rw [hd] at h2
        simpa using h2
theorem dec_length (k : Nat) : ∀ v : Nat, v < 10 ^ (k + 1) → (Lib.decDigits v).length ≤ k + 1 := by
  induction k with
  | zero =>
    intro v h
    rw [dec_small v (by simpa using h)]
    simp
  | succ k ih =>
    intro v h
    by_cases h10 : v < 10
    · rw [dec_small v h10]; simp
    · rw [dec_more v h10]
      have := ih (v / 10) (by rw [Nat.pow_succ] at h; omega)
      simp
      omega
theorem dec_digs (v : Nat) : digs (Lib.decDigits v) ∧ val (Lib.decDigits v) = v ∧ Lib.decDigits v ≠ [] := by
  induction v using Nat.strongRecOn with
  | _ v ih =>
    have hu : ∀ d : Nat, d < 10 → (UInt8.ofNat (48 + d)).toNat = 48 + d := by intro d hd; simp; omega
    by_cases h10 : v < 10
    · rw [dec_small v h10]
      have hv := hu v h10
      refine ⟨fun c hc => ?_, ?_, by simp⟩
      · simp only [List.mem_singleton] at hc
        subst hc
        unfold isD
        omega
      · show 10 * 0 + ((UInt8.ofNat (48 + v)).toNat - 48) = v
        omega
    · obtain ⟨h1, h2, h3⟩ := ih (v / 10) (by omega)
      have hv := hu (v % 10) (by omega)
      rw [dec_more v h10]
      refine ⟨fun c hc => ?_, ?_, by simp⟩
      · simp only [List.mem_append, List.mem_singleton] at hc
        rcases hc with hc | hc
        · exact h1 c hc
        · subst hc
          unfold isD
          omega
      · rw [val_snoc, h2, hv]
        omega
theorem dec_good (v : Nat) (h : v ≤ 999999999) : Good (Lib.decDigits v) := by
  obtain ⟨h1, h2, h3⟩ := dec_digs v
  refine ⟨h3, dec_length 8 v (by omega), h1, fun hl => ?_⟩
  by_cases h10 : v < 10
  · rw [dec_small v h10] at hl; simp at hl
  · exact (dec_head v (by omega)).2

def numG (l : List UInt8) : Int × Bool := if Good l then ((val l : Int), true) else (0, false)
theorem numG_yes {l : List UInt8} (h : Good l) : numG l = ((val l : Int), true) := if_pos h
theorem numG_no {l : List UInt8} (h : ¬ Good l) : numG l = (0, false) := if_neg h

theorem atoi_good {l : List UInt8} (h : Good l) : Lib.atoiAll l = .ok (val l : Int) := by
  obtain ⟨h0, h9, hd, _⟩ := h
  rw [Lib.atoiAll_short l (by omega)]
  cases l with
  | nil => exact absurd rfl h0
  | cons a t =>
    have ha : isD a := hd a (by simp)
    unfold isD at ha
    have h45 : (a == 45) = false := by
      rw [beq_eq_false_iff_ne]
      intro e
      subst e
      simp at ha
    have h43 : (a == 43) = false := by
      rw [beq_eq_false_iff_ne]
      intro e
      subst e
      simp at ha
    unfold Lib.atoi
    simp only [h45, h43, Lib.decNat, List.isEmpty_cons, Bool.false_eq_true, if_false, decFrom_val _ 0 hd]
    rfl
theorem num_back {v : Int} {l : List UInt8} (hl : l ≠ []) (h : numText v = l) : Good l ∧ (val l : Int) = v := by
  unfold numText at h
  split at h
  · rename_i hv
    subst h
    refine ⟨dec_good _ (by omega), ?_⟩
    rw [(dec_digs _).2.1]
    omega
  · exact absurd h.symm hl
theorem num_of_good {l : List UInt8} (h : Good l) : numText (val l : Int) = l := by
  have h2 := val_small l h.2.2.1 h.2.1
  unfold numText
  rw [if_pos ⟨by omega, by omega⟩, Int.toNat_natCast]
  exact dec_val _ l rfl h

end Go.Proofs.YtjmfefaoenmppaaGreatDoor.Fx

namespace Go.Proofs.YtjmfefaoenmppaaGreatDoor.Fx
open Go.RowKit

def dk : Nat → List UInt8 → Nat
  | 0, _ => 0
  | _ + 1, [] => 0
  | m + 1, c :: l => if isD c then dk m l + 1 else 0
theorem dk_hit (m : Nat) (c : UInt8) (l : List UInt8) (h : isD c) : dk (m + 1) (c :: l) = dk m l + 1 := if_pos h
theorem dk_miss (m : Nat) (c : UInt8) (l : List UInt8) (h : ¬ isD c) : dk (m + 1) (c :: l) = 0 := if_neg h
theorem dk_nil (m : Nat) : dk m [] = 0 := by cases m <;> rfl
theorem dk_le (m : Nat) (l : List UInt8) : dk m l ≤ m ∧ dk m l ≤ l.length := by
  induction m generalizing l with
  | zero => simp [dk]
  | succ m ih =>
    cases l with
    | nil => simp [dk]
    | cons c l =>
      by_cases h : isD c
      · rw [dk_hit m c l h]
        have := ih l
        simp
        omega
      · rw [dk_miss m c l h]
        simp
theorem dk_digs (m : Nat) (l : List UInt8) : digs (l.take (dk m l)) := by
  induction m generalizing l with
  | zero => intro c hc; simp [dk] at hc
  | succ m ih =>
    cases l with
    | nil => intro c hc; simp at hc
    | cons c l =>
      by_cases h : isD c
      · rw [dk_hit m c l h]
        intro x hx
        rw [List.take_succ_cons, List.mem_cons] at hx
        rcases hx with rfl | hx
        · exact h
        · exact ih l x hx
      · rw [dk_miss m c l h]
        intro x hx
        simp at hx
theorem dk_all (m : Nat) (l : List UInt8) (h : digs l) (hl : l.length ≤ m) : dk m l = l.length := by
  induction m generalizing l with
  | zero =>
    cases l with
    | nil => rfl
    | cons c l => simp at hl
  | succ m ih =>
    cases l with
    | nil => rfl
    | cons c l =>
      rw [dk_hit m c l (h c (by simp)), ih l (fun x hx => h x (by simp [hx])) (by simp at hl; exact hl)]
      rfl

def l1 (l : List UInt8) : Int × Int := if 1 < dk 9 l ∧ l.head? = some 48 then (0, 1) else ((val (l.take (dk 9 l)) : Int), (dk 9 l : Int))

theorem drop_at (s : ByteArray) (k : Nat) (h : k < s.size) : s.data.toList.drop k = s[k] :: s.data.toList.drop (k + 1) := by
  rw [List.drop_eq_getElem_cons (by simpa using h)]
  rfl
theorem take_snoc (s : ByteArray) (k : Nat) (h : k < s.size) : s.data.toList.take (k + 1) = s.data.toList.take k ++ [s[k]] := by
  rw [List.take_succ_eq_append_getElem (by simpa using h)]; rfl
theorem head_at (s : ByteArray) (h : 0 < s.size) : s.data.toList.head? = some s[0] := by
  have := drop_at s 0 h
  rw [List.drop_zero] at this
  rw [this]
  rfl
theorem u8_rng (c : UInt8) : 0 ≤ (c.toNat : Int) ∧ (c.toNat : Int) ≤ 255 := by
  have := c.toNat_lt
  omega

theorem int_val (n c : Nat) (h : 48 ≤ c) : Value.int .i64 (10 * (n : Int) + ((c : Int) - 48)) = .int .i64 ((10 * n + (c - 48) : Nat) : Int) := by
  congr 1
  omega

set_option maxHeartbeats 1000000 in
theorem l1_num (s : ByteArray) (w : World) (hs : s.size ≤ 4294967296) :
    Calls Tryz.prog 152 #[.string s] w fun e w' => e = .returned (.tuple #[.int .i64 (l1 s.data.toList).1, .int .i64 (l1 s.data.toList).2]) ∧ w = w' := by
  have hK := dk_le 9 s.data.toList
  simp only [Array.length_toList, ByteArray.size_data] at hK
  obtain ⟨hK9, hKs⟩ := hK
  go_enter Tryz.func152, Tryz.ntmps152
  go_upto_block 0 with fail
  go_cut [4, 5] (fun n i wx => n = .int .i64 (val (s.data.toList.take (dk 9 s.data.toList))) ∧ i = .int .i64 (dk 9 s.data.toList) ∧ wx = w)
  case first =>
    go_wp2_with fail
    go_loopg [4, 5] 9 (fun g n i wx => ∃ k : Nat, g = 9 - k ∧ k ≤ 9 ∧ k ≤ s.size ∧ i = .int .i64 k ∧ n = .int .i64 (val (s.data.toList.take k)) ∧ digs (s.data.toList.take k) ∧ dk 9 s.data.toList = k + dk (9 - k) (s.data.toList.drop k) ∧ wx = w)
    case atStart => exact ⟨0, by omega, by omega, by omega, rfl, rfl, (by intro c hc; simp at hc), by simp, rfl⟩
    case round =>
      obtain ⟨k, hg, hk9, hks, rfl, rfl, hd, hdk, rfl⟩ := hrel
      have hle := dk_le (9 - k) (s.data.toList.drop k)
      by_cases h1 : k < s.size
      · have hdr := drop_at s k h1
        have hts := take_snoc s k h1
        obtain ⟨hc0, hc1⟩ := u8_rng s[k]
        by_cases h2 : k < 9
        · obtain ⟨m, hm⟩ : ∃ m, 9 - k = m + 1 := ⟨8 - k, by omega⟩
          by_cases h3 : isD s[k]
          · have hv := val_small8 (s.data.toList.take k) hd (by simp; omega)
            have hd2 : digs (s.data.toList.take (k + 1)) := by
              rw [hts]
              intro c hc
              simp only [List.mem_append, List.mem_singleton] at hc
              rcases hc with hc | rfl
              · exact hd c hc
              · exact h3
            have hv2 : val (s.data.toList.take (k + 1)) = 10 * val (s.data.toList.take k) + (s[k].toNat - 48) := by rw [hts, val_snoc]
            rw [hdr, hm, dk_hit _ _ _ h3] at hdk
            have hm' : 9 - (k + 1) = m := by omega
            unfold isD at h3
            obtain ⟨h3a, h3b⟩ := h3
            have h4 : (48 : Int) ≤ (s[k].toNat : Int) := by omega
            have h5 : (s[k].toNat : Int) ≤ 57 := by omega
            have HD := Lib.hid hdk
            have HM := Lib.hid hm'
            have HV := Lib.hid hv2
            obtain ⟨n, hn⟩ : ∃ n, n = val (s.data.toList.take k) := ⟨_, rfl⟩
            rw [← hn] at hv HV ⊢
            have HG := Lib.hid hg
            clear hn hdk hm' hv2 hdr hts hm hg hle
            go_wp2_with fail
            go_roundg (9 - (k + 1))
            case measure => have := HG.out; omega
            case rel => exact ⟨k + 1, rfl, by omega, by omega, by go_num, by rw [HV.out]; exact int_val n _ h3a, hd2, by rw [HD.out, HM.out]; omega, rfl⟩
          · have hK : dk 9 s.data.toList = k := by rw [hdk, hdr, hm, dk_miss _ _ _ h3]; omega
            have HK := Lib.hid hK
            have h2' : (k : Int) < 9 := by omega
            clear hdk hm hdr hts hg hle hK
            unfold isD at h3
            by_cases h4 : 48 ≤ s[k].toNat
            · have h4' : (48 : Int) ≤ (s[k].toNat : Int) := by omega
              have h5 : ¬ (s[k].toNat : Int) ≤ 57 := by omega
              clear h3
              go_wp2_with fail
              go_meet
              exact ⟨by rw [HK.out], by rw [HK.out], rfl⟩
            · have h4' : ¬ (48 : Int) ≤ (s[k].toNat : Int) := by omega
              clear h3
              go_wp2_with fail
              go_meet
              exact ⟨by rw [HK.out], by rw [HK.out], rfl⟩
        · have hK : dk 9 s.data.toList = k := by omega
          have HK := Lib.hid hK
          have h2' : ¬ (k : Int) < 9 := by omega
          clear hdk hdr hts hg hle hK
          go_wp2_with fail
          go_meet
          exact ⟨by rw [HK.out], by rw [HK.out], rfl⟩
      · have hK : dk 9 s.data.toList = k := by omega
        have HK := Lib.hid hK
        clear hdk hg hle hK
        go_wp2_with fail
        go_meet
        exact ⟨by rw [HK.out], by rw [HK.out], rfl⟩
  case rest =>
    obtain ⟨rfl, rfl, rfl⟩ := hcut
    obtain ⟨K, hKe⟩ : ∃ K, K = dk 9 s.data.toList := ⟨_, rfl⟩
    have hl1 : l1 s.data.toList = if 1 < K ∧ s.data.toList.head? = some 48 then (0, 1) else ((val (s.data.toList.take K) : Int), (K : Int)) := by rw [hKe]; rfl
    rw [← hKe] at hK9 hKs ⊢
    clear hKe
    by_cases h1 : 1 < K
    · have hh := head_at s (by omega)
      have h1' : (1 : Int) < (K : Int) := by omega
      have h0 : 0 < s.size := by omega
      by_cases h2 : s[0] = 48
      · rw [if_pos ⟨h1, by rw [hh, h2]⟩] at hl1
        have hq : ((s[0].toNat : Int) == 48) = true := by rw [h2]; rfl
        have HL := Lib.hid hl1
        clear hl1 hh h2
        go_wp2_with fail
        go_ret2
        exact ⟨by rw [HL.out]; rfl, rfl⟩
      · rw [if_neg (by rw [hh]; intro e; exact h2 (Option.some.inj e.2))] at hl1
        have hq : ((s[0].toNat : Int) == 48) = false := by
          simp only [beq_eq_false_iff_ne, ne_eq]
          intro h
          exact h2 (UInt8.toNat_inj.1 (by have : s[0].toNat = 48 := by omega
                                          rw [this]; rfl))
        have HL := Lib.hid hl1
        clear hl1 hh h2
        go_wp2_with fail
        go_ret2
        exact ⟨by rw [HL.out]; rfl, rfl⟩
    · rw [if_neg (by intro e; exact h1 e.1)] at hl1
      have h1' : ¬ (1 : Int) < (K : Int) := by omega
      have HL := Lib.hid hl1
      clear hl1
      go_wp2_with fail
      go_ret2
      exact ⟨by rw [HL.out]; rfl, rfl⟩

theorem l1_good {l : List UInt8} : Good l ↔ (l1 l).2 ≠ 0 ∧ (l1 l).2 = (l.length : Int) := by
  have hle := dk_le 9 l
  have hdg := dk_digs 9 l
  constructor
  · rintro ⟨h0, h9, hd, hh⟩
    have hk := dk_all 9 l hd h9
    have hpos : 0 < l.length := List.length_pos_iff.2 h0
    unfold l1
    rw [hk, if_neg (by intro e; exact hh e.1 e.2)]
    dsimp only
    omega
  · intro h
    unfold l1 at h
    split at h
    · rename_i hc
      dsimp only at h
      omega
    · rename_i hc
      dsimp only at h
      have hk : dk 9 l = l.length := by omega
      rw [hk, List.take_of_length_le (Nat.le_refl _)] at hdg
      refine ⟨by intro e; subst e; simp at h, by omega, hdg, fun h1 e => hc ⟨by omega, e⟩⟩
theorem l1_val {l : List UInt8} (h : Good l) : (l1 l).1 = (val l : Int) := by
  obtain ⟨h0, h9, hd, hh⟩ := h
  have hk := dk_all 9 l hd h9
  unfold l1
  rw [hk, if_neg (by intro e; exact hh e.1 e.2), List.take_of_length_le (Nat.le_refl _)]

set_option maxHeartbeats 1000000 in
theorem spec_numget (s : ByteArray) (w : World) (hs : s.size ≤ 4294967296) :
    Calls Tryz.prog 138 #[.string s] w fun e w' => e = .returned (.tuple #[.int .i64 (numG s.data.toList).1, .bool (numG s.data.toList).2]) ∧ w = w' := by
  have hC := l1_num s w hs
  have hlen : s.data.toList.length = s.size := by simp
  have hgood := @l1_good s.data.toList
  rw [hlen] at hgood
  by_cases hg : Good s.data.toList
  · have hv := l1_val hg
    have hn := numG_yes hg
    obtain ⟨h1, h2⟩ := hgood.1 hg
    obtain ⟨n, hn1⟩ : ∃ n, n = (l1 s.data.toList).1 := ⟨_, rfl⟩
    rw [h2, ← hn1] at hC
    have hp : 0 < s.size := by omega
    have hq : ((s.size : Int) == 0) = false := by rw [beq_eq_false_iff_ne]; omega
    have HN : Hid (numG s.data.toList = (n, true)) := Lib.hid (by rw [hn, hn1, hv])
    clear hgood hg hv hn h1 h2 hn1 hlen
    go_enter Tryz.func138, Tryz.ntmps138
    go_wp2_with (go_at_call 152; refine hC.mono ?_; rintro e w1 ⟨rfl, rfl⟩)
    go_ret2
    exact ⟨by rw [HN.out]; rfl, rfl⟩
  · have HN := Lib.hid (numG_no hg)
    obtain ⟨k, hk⟩ : ∃ k, k = (l1 s.data.toList).2 := ⟨_, rfl⟩
    rw [← hk] at hC hgood
    by_cases h0 : k = 0
    · subst h0
      clear hgood hg hk hlen
      go_enter Tryz.func138, Tryz.ntmps138
      go_wp2_with (go_at_call 152; refine hC.mono ?_; rintro e w1 ⟨rfl, rfl⟩)
      go_ret2
      exact ⟨by rw [HN.out]; rfl, rfl⟩
    · have hks : ¬ k = (s.size : Int) := fun e => hg (hgood.2 ⟨h0, e⟩)
      have hq1 : (k == 0) = false := by simpa using h0
      have hq2 : (k != (s.size : Int)) = true := by simpa using hks
      clear hgood hg hk h0 hks hlen
      go_enter Tryz.func138, Tryz.ntmps138
      go_wp2_with (go_at_call 152; refine hC.mono ?_; rintro e w1 ⟨rfl, rfl⟩)
      go_ret2
      exact ⟨by rw [HN.out]; rfl, rfl⟩

end Go.Proofs.YtjmfefaoenmppaaGreatDoor.Fx

namespace Go.Proofs.YtjmfefaoenmppaaGreatDoor.Fx
open Go.RowKit

structure Errs (w : World) : Prop where
  synt : ∃ tp p, w.var? Tryz.prog "strconv.ErrSyntax" = some #[.iface tp p]
  rang : ∃ tp p, w.var? Tryz.prog "strconv.ErrRange" = some #[.iface tp p]

theorem str_diff {l : List UInt8} {s : ByteArray} (h : l ≠ s.data.toList) : (!(strOf l).toList == s.toList) = true := by
  rw [ByteArray.toList_eq, ByteArray.toList_eq, strOf_toList]
  simpa using h
theorem str_same {l : List UInt8} {s : ByteArray} (h : l = s.data.toList) : (!(strOf l).toList == s.toList) = false := by
  rw [ByteArray.toList_eq, ByteArray.toList_eq, strOf_toList]
  simpa using h

set_option maxRecDepth 100000 in
set_option maxHeartbeats 1000000 in
theorem impl_numget (s : ByteArray) (w : World) (hs : s.size ≤ 4294967296) (hT : Lib.TabBelow Tryz.prog w.heap.size w "internal/strconv.uint64pow10" .u64 Lib.pow10Tab) (hE : Errs w) :
    Calls Tryz.prog 161 #[.string s] w fun e w' => e = .returned (.tuple #[.int .i64 (numG s.data.toList).1, .bool (numG s.data.toList).2]) ∧ Below w.heap.size w w' := by
  obtain ⟨tp, p, hv⟩ := hE.synt
  obtain ⟨tp2, p2, hv2⟩ := hE.rang
  by_cases hg : Good s.data.toList
  · have ha := atoi_good hg
    have hn := numG_yes hg
    have hb := num_of_good hg
    obtain ⟨v, hv0⟩ : ∃ v, v = (val s.data.toList : Int) := ⟨_, rfl⟩
    rw [← hv0] at ha hn hb
    have hA := (Tryz.strconv_Atoi_ok s (by omega) v ha w)
    have hA2 : Calls Tryz.prog 171 #[.string s] w fun e w' => e = .returned (.tuple #[.int .i64 v, .nilIface]) ∧ Below w.heap.size w w' := hA.mono fun e w' ⟨he, hw⟩ => ⟨he, by
      rcases hw with rfl | ⟨t, rfl⟩
      · exact Below.refl _ _
      · exact Lib.bytesWorld_below w 5 t⟩
    have hP := fun w1 (hb1 : Below w.heap.size w w1) => impl_num v w1 (hT.on hb1).here
    have hq := str_same hb
    obtain ⟨t, ht⟩ : ∃ t, t = numText v := ⟨_, rfl⟩
    rw [← ht] at hP hq
    have HN := Lib.hid hn
    clear ha hn hb hv0 hA hg hv hv2 hE hT ht
    go_enter Tryz.func161, Tryz.ntmps161
    go_wp2_with (first | (go_at_call 171; refine hA2.mono ?_; rintro e w1 ⟨rfl, hb1⟩) | (go_at_call 163; refine (hP _ hb1).mono ?_; rintro e w2 ⟨rfl, hb2⟩))
    go_ret2
    exact ⟨by rw [HN.out]; rfl, hb1.trans (hb2.mono hb1.size)⟩
  · have HN := Lib.hid (numG_no hg)
    cases ha : Lib.atoiAll s.data.toList with
    | ok v =>
      have hne : s.data.toList ≠ [] := by
        intro e
        rw [e] at ha
        cases ha
      have hb : numText v ≠ s.data.toList := fun e => hg (num_back hne e).1
      have hA := (Tryz.strconv_Atoi_ok s (by omega) v ha w)
      have hA2 : Calls Tryz.prog 171 #[.string s] w fun e w' => e = .returned (.tuple #[.int .i64 v, .nilIface]) ∧ Below w.heap.size w w' := hA.mono fun e w' ⟨he, hw⟩ => ⟨he, by
        rcases hw with rfl | ⟨t, rfl⟩
        · exact Below.refl _ _
        · exact Lib.bytesWorld_below w 5 t⟩
      have hP := fun w1 (hb1 : Below w.heap.size w w1) => impl_num v w1 (hT.on hb1).here
      have hq := str_diff hb
      obtain ⟨t, ht⟩ : ∃ t, t = numText v := ⟨_, rfl⟩
      rw [← ht] at hP hq
      clear ha hb hA hg hv hv2 hE hT ht hne
      go_enter Tryz.func161, Tryz.ntmps161
      go_wp2_with (first | (go_at_call 171; refine hA2.mono ?_; rintro e w1 ⟨rfl, hb1⟩) | (go_at_call 163; refine (hP _ hb1).mono ?_; rintro e w2 ⟨rfl, hb2⟩))
      go_ret2
      exact ⟨by rw [HN.out]; rfl, hb1.trans (hb2.mono hb1.size)⟩
    | range =>
      have hA := Tryz.strconv_Atoi_range_var s (by omega) ha tp2 p2 w hv2
      obtain ⟨z, hz⟩ : ∃ z, z = Lib.atoiSat s.data.toList := ⟨_, rfl⟩
      rw [← hz] at hA
      clear ha hg hv hv2 hE hT hz
      go_enter Tryz.func161, Tryz.ntmps161
      go_wp2_with (go_at_call 171; refine hA.mono ?_; rintro e w1 ⟨N, rfl, _, _, hb1⟩)
      go_ret2
      exact ⟨by rw [HN.out]; rfl, hb1⟩
    | _ =>
      have hA := Tryz.strconv_Atoi_bad s (by omega) (fun v e => by rw [ha] at e; cases e) (fun e => by rw [ha] at e; cases e) tp p w hv
      clear ha hg hv hv2 hE hT
      go_enter Tryz.func161, Tryz.ntmps161
      go_wp2_with (go_at_call 171; refine hA.mono ?_; rintro e w1 ⟨N, rfl, _, _, hb1⟩)
      go_ret2
      exact ⟨by rw [HN.out]; rfl, hb1⟩

end Go.Proofs.YtjmfefaoenmppaaGreatDoor.Fx
