/-
  A pointer is given up, as the specification does it in a store of the call's own.
-/
import Derived.Test.YtmnamclndpfjnaaNxj
import Derived.Test.YtmnamclndpfjnaaNxR
namespace Go.Proofs.Ytmnamclndpfjnaa
open Go.RowKit

theorem run_append_five {P : Program} (w : World) (base : Nat) (t ty e : TypeId) (i : TypeInfo) (z : Value) (size bytes : Nat) (ht : P.underlying t = some (.slice e)) (hi : P.info? e = some i) (hz : i.zero = some z)
    (hsize : i.size = size) (hby : i.bytes = bytes) (hzs : z.cells.size = size) (hsz : 0 < size)
    (v : Value) (n : Nat) (xs : List Value) (hown : w.ownsRow base e size v n xs)
    (A : Option Addr) (m c : Nat) (news : List Value) (hm : 0 < m) (hl : news.length = m * size) (hr : Lies w A news) (h1 : ∀ u ∈ news, u.oneCell' = true)
    (h63 : n + m ≤ maxLen) (hbytes : (n + m) * bytes ≤ 140737488355328) (hbase : base ≤ w.heap.size) :
    ∃ v' w', (Builtin.append_ #[t, t] ty #[v, .slice A m c]).run P w = .ok v' w' ∧ w'.ownsRow base e size v' (n + m) (xs ++ news) ∧ w.grownBy w' v.ownBlock ∧ (v'.ownBlock = v.ownBlock ∨ v'.ownBlock = some w.heap.size) := by
  have hpos : 0 < news.length := by rw [hl]; exact Nat.mul_pos hm hsz
  obtain ⟨b, off, rfl, hb, hc⟩ := hr hpos
  obtain ⟨v', w', hrun, h2, h3, _, h5⟩ := run_append_own_at (P := P) w base t ty e i z size bytes ht hi hz hsize hby hzs hsz v n xs hown ⟨b, off, none⟩ m c news hl (fun j u hu => by rw [Addr.add_mid]; exact hc j u hu) h1 h63 hbytes hbase
  exact ⟨v', w', hrun, h2, h3, h5⟩
theorem wpList_append_five {P : Program} (w : World) {ops : Array Oper} {rest : List Oper} {o : Oper} {a : Act} {Q : Exit → Act → World → Prop} (hgd : o.guard = none) (s x : Operand) (t : TypeId)
    (ho : o.op = .call { callee := .builtin .append, args := #[s, x], argTypes := #[t, t] })
    (base : Nat) (e : TypeId) (i : TypeInfo) (z : Value) (size bytes : Nat) (ht : P.underlying t = some (.slice e)) (hi : P.info? e = some i) (hz : i.zero = some z)
    (hsize : i.size = size) (hby : i.bytes = bytes) (hzs : z.cells.size = size) (hsz : 0 < size)
    (v : Value) (n : Nat) (xs : List Value) (hs : a.eval s = v) (hown : w.ownsRow base e size v n xs)
    (A : Option Addr) (m c : Nat) (news : List Value) (hm : 0 < m) (hx : a.eval x = .slice A m c) (hl : news.length = m * size) (hr : Lies w A news) (h1 : ∀ u ∈ news, u.oneCell' = true)
    (h63 : n + m ≤ maxLen) (hbytes : (n + m) * bytes ≤ 140737488355328) (hbase : base ≤ w.heap.size)
    (h : ∀ v' w', w'.ownsRow base e size v' (n + m) (xs ++ news) → w.grownBy w' v.ownBlock → (v'.ownBlock = v.ownBlock ∨ v'.ownBlock = some w.heap.size) → wpList P ops Q rest (a.put o.dst v') w') : wpList P ops Q (o :: rest) a w :=
  wpList_plain hgd fun _ hK => by
    obtain ⟨v', w', hrun, h2, h3, h5⟩ := run_append_five (P := P) w base t o.type e i z size bytes ht hi hz hsize hby hzs hsz v n xs hown A m c news hm hl hr h1 h63 hbytes hbase
    unfold Oper.wp execOp
    simp only [ho, resolve, invoke, builtin, Sem.run_bind, Sem.run_pure, Result.andThen_ok, List.map_toArray, List.map_cons, List.map_nil, hs, hx, hrun]
    exact hK _ _ (h v' w' h2 h3 h5)
/-- One row has grown, in its place or into a new one. -/
theorem Own.put2 {w w' : World} {base top : Nat} {L : List Rw} (h : Own w base top L) (i : Nat) (hi : i < L.length) {r : Rw} (htop : top ≤ w.heap.size) (hv : r.v.ownBlock = L[i].v.ownBlock ∨ r.v.ownBlock = some w.heap.size) (hg : w.grownBy w' L[i].v.ownBlock) (hr : w'.ownsRow base r.t r.sz r.v r.n r.xs) : Own w' base w'.heap.size (L.set i r) := by
  rcases hv with hv | hv
  · exact (h.put i hi hv hg hr).at_top
  refine ⟨fun s hs => ?_, List.pairwise_iff_getElem.2 fun a b ha hb hab => ?_⟩
  · obtain ⟨j, hj, rfl⟩ := List.getElem_of_mem hs
    have hj' : j < L.length := by simpa using hj
    rw [List.getElem_set]
    split
    · exact ⟨hr, fun k hk => (hr.lt k hk).2⟩
    · rename_i hne
      have hs := (h.1 L[j] (List.getElem_mem hj')).1.kept hg (ne_own (apart_at h.2 hi hj' hne))
      exact ⟨hs, fun k hk => (hs.lt k hk).2⟩
  · have ha' : a < L.length := by simpa using ha
    have hb' : b < L.length := by simpa using hb
    have far : ∀ j (hj : j < L.length), Rw.apart r L[j] := fun j hj k h1 h2 => by
      rw [hv] at h1
      injection h1 with h1
      have := (h.1 L[j] (List.getElem_mem hj)).2 k h2
      omega
    rw [List.getElem_set, List.getElem_set]
    split
    · split
      · omega
      · exact far b hb'
    · split
      · exact (far a ha').symm
      · exact apart_at h.2 ha' hb' (by omega)
theorem own_app_dead {w w' : World} {base top n : Nat} {y : SA} {s : St} {A : Option Addr} {k : Nat} {L : List P5} (h : Own w base top (rows5 y s)) (htop : top ≤ w.heap.size) (hv : (Value.slice A n k).ownBlock = (Value.slice y.D s.dead.length y.d).ownBlock ∨ (Value.slice A n k).ownBlock = some w.heap.size)
    (hn : n = L.length) (hg : w.grownBy w' (Value.slice y.D s.dead.length y.d).ownBlock) (hr : w'.ownsRow base 45 5 (.slice A n k) n (flat L)) : Own w' base w'.heap.size (rows5 { y with D := A, d := k } { s with dead := L }) := by
  subst hn
  exact h.put2 4 (by decide : 4 < 5) (r := ⟨45, 5, L.length, .slice A L.length k, flat L⟩) htop hv hg hr
theorem own_app_gone {w w' : World} {base top n : Nat} {y : SA} {s : St} {A : Option Addr} {k : Nat} {L : List P5} (h : Own w base top (rows5 y s)) (htop : top ≤ w.heap.size) (hv : (Value.slice A n k).ownBlock = (Value.slice y.G s.gone.length y.g).ownBlock ∨ (Value.slice A n k).ownBlock = some w.heap.size)
    (hn : n = L.length) (hg : w.grownBy w' (Value.slice y.G s.gone.length y.g).ownBlock) (hr : w'.ownsRow base 45 5 (.slice A n k) n (flat L)) : Own w' base w'.heap.size (rows5 { y with G := A, g := k } { s with gone := L }) := by
  subst hn
  exact h.put2 3 (by decide : 3 < 5) (r := ⟨45, 5, L.length, .slice A L.length k, flat L⟩) htop hv hg hr
theorem flat_snoc (L : List P5) (p : P5) : flat (L ++ [p]) = flat L ++ P5.cells p := by simp [flat]
/-- A block of five numbers. -/
def Q5 (W : World) (g : Nat) (a b c d e : Int) : Prop := W.heap[g]? = some (.cells #[.int .i64 a, .int .i64 b, .int .i64 c, .int .i64 d, .int .i64 e] 45 (0, 0))
section
variable {W W' : World} {g : Nat} {a b c d e : Int}
theorem Q5.new (w : World) (a b c d e : Int) : Q5 (w.alloc (.cells #[.int .i64 a, .int .i64 b, .int .i64 c, .int .i64 d, .int .i64 e] 45)) w.heap.size a b c d e := heap_alloc_new w _
theorem Q5.lt (h : Q5 W g a b c d e) : g < W.heap.size := (Array.getElem?_eq_some_iff.1 h).1
theorem Q5.below (h : Q5 W g a b c d e) (hb : Below W.heap.size W W') : Q5 W' g a b c d e := (hb.block g h.lt).trans h
theorem Q5.alloc (h : Q5 W g a b c d e) (o : Obj) : Q5 (W.alloc o) g a b c d e := (Below.heap_alloc W o g h.lt).trans h
theorem Q5.only {lo hi : Nat} (h : Q5 W g a b c d e) (hg : Only lo hi W W') (hn : ¬ (lo ≤ g ∧ g < hi)) : Q5 W' g a b c d e := (hg.block g h.lt hn).trans h
theorem Q5.cell (h : Q5 W g a b c d e) (i : Nat) : W.cell? ⟨g, i, none⟩ = (#[.int .i64 a, .int .i64 b, .int .i64 c, .int .i64 d, .int .i64 e] : Array Value)[i]? := by
  have h' : W.heap[g]? = some (.cells #[.int .i64 a, .int .i64 b, .int .i64 c, .int .i64 d, .int .i64 e] 45 (0, 0)) := h
  simp [World.cell?, h']
theorem Q5.cells (h : Q5 W g a b c d e) : W.cell? ⟨g, 0, none⟩ = some (.int .i64 a) ∧ W.cell? ⟨g, 1, none⟩ = some (.int .i64 b) ∧ W.cell? ⟨g, 2, none⟩ = some (.int .i64 c) ∧ W.cell? ⟨g, 3, none⟩ = some (.int .i64 d) ∧ W.cell? ⟨g, 4, none⟩ = some (.int .i64 e) := ⟨h.cell 0, h.cell 1, h.cell 2, h.cell 3, h.cell 4⟩
theorem Q5.lies (h : Q5 W g a b c d e) : Lies W (some ⟨g, 0, none⟩) (P5.cells ⟨a, b, c, d, e⟩) := fun _ => ⟨g, 0, rfl, h.lt, fun j v hj => by
  rw [Nat.zero_add, h.cell j]
  rw [← hj]
  simp [P5.cells]⟩
end

set_option maxRecDepth 100000 in
set_option maxHeartbeats 4000000 in
theorem spec_l7free (y : SA) (s : St) (a b cs d e : Int) (w : World) (base top : Nat) (hok : StOk s) (hg : s.gone.length ≤ 1048576) (hd : s.dead.length ≤ 1048576) (hf : freeOk s (⟨a, b, cs, d, e⟩ : P5)) (htop : top ≤ w.heap.size) (hO : Own w base top (rows5 y s)) :
    Calls Try.prog 65 #[(.agg #[.slice y.A s.rows.length y.a, .slice y.R s.sp.refs.length y.r, .slice y.L s.sp.last.length y.l, .int .i64 s.txg, .slice y.G s.gone.length y.g, .int .i64 s.keep, .slice y.D s.dead.length y.d, .bool s.same]), .agg #[.int .i64 a, .int .i64 b, .int .i64 cs, .int .i64 d, .int .i64 e]] w (NxPost (freeSt s (⟨a, b, cs, d, e⟩ : P5)) base w) := by
  obtain ⟨i45, hi45, hz450, hz451, hz452⟩ := info_parts Try.info45
  have a0 := ((B8.new w 28 (.slice y.A s.rows.length y.a) (.slice y.R s.sp.refs.length y.r) (.slice y.L s.sp.last.length y.l) (.int .i64 s.txg) (.slice y.G s.gone.length y.g) (.int .i64 s.keep) (.slice y.D s.dead.length y.d) (.bool s.same)).alloc (.cells #[.int .i64 a, .int .i64 b, .int .i64 cs, .int .i64 d, .int .i64 e] 45)).alloc (.cells #[.slice none 0 0, .slice none 0 0, .slice none 0 0, .int .i64 0, .slice none 0 0, .int .i64 0, .slice none 0 0, .bool false] 28)
  have p0 := (Q5.new (w.alloc (.cells #[.slice y.A s.rows.length y.a, .slice y.R s.sp.refs.length y.r, .slice y.L s.sp.last.length y.l, .int .i64 s.txg, .slice y.G s.gone.length y.g, .int .i64 s.keep, .slice y.D s.dead.length y.d, .bool s.same] 28)) a b cs d e).alloc (.cells #[.slice none 0 0, .slice none 0 0, .slice none 0 0, .int .i64 0, .slice none 0 0, .int .i64 0, .slice none 0 0, .bool false] 28)
  have c0 := B8.new ((w.alloc (.cells #[.slice y.A s.rows.length y.a, .slice y.R s.sp.refs.length y.r, .slice y.L s.sp.last.length y.l, .int .i64 s.txg, .slice y.G s.gone.length y.g, .int .i64 s.keep, .slice y.D s.dead.length y.d, .bool s.same] 28)).alloc (.cells #[.int .i64 a, .int .i64 b, .int .i64 cs, .int .i64 d, .int .i64 e] 45)) 28 (.slice none 0 0) (.slice none 0 0) (.slice none 0 0) (.int .i64 0) (.slice none 0 0) (.int .i64 0) (.slice none 0 0) (.bool false)
  rw [World.size_alloc] at p0
  rw [World.size_alloc, World.size_alloc] at c0
  have hbw : base ≤ w.heap.size := by
    have := (hO.row 0 (by decide : 0 < 5)).lt
    have h64 := hok.len
    obtain ⟨r, p, q, xa, xr, xl, xG, xg, xD, xd, rfl⟩ := five_addr hO hok.len hok.sp.1 hok.sp.2.1
    have := this r rfl
    omega
  have B0 := (bel_new (bel_new (bel_new (Below.refl w.heap.size w) (.cells #[.slice y.A s.rows.length y.a, .slice y.R s.sp.refs.length y.r, .slice y.L s.sp.last.length y.l, .int .i64 s.txg, .slice y.G s.gone.length y.g, .int .i64 s.keep, .slice y.D s.dead.length y.d, .bool s.same] 28)) (.cells #[.int .i64 a, .int .i64 b, .int .i64 cs, .int .i64 d, .int .i64 e] 45)) (.cells #[.slice none 0 0, .slice none 0 0, .slice none 0 0, .int .i64 0, .slice none 0 0, .int .i64 0, .slice none 0 0, .bool false] 28)).mono hbw
  have O0 := hO.below (bel_new (bel_new (bel_new (Below.refl w.heap.size w) (.cells #[.slice y.A s.rows.length y.a, .slice y.R s.sp.refs.length y.r, .slice y.L s.sp.last.length y.l, .int .i64 s.txg, .slice y.G s.gone.length y.g, .int .i64 s.keep, .slice y.D s.dead.length y.d, .bool s.same] 28)) (.cells #[.int .i64 a, .int .i64 b, .int .i64 cs, .int .i64 d, .int .i64 e] 45)) (.cells #[.slice none 0 0, .slice none 0 0, .slice none 0 0, .int .i64 0, .slice none 0 0, .int .i64 0, .slice none 0 0, .bool false] 28))
  have sz : (((w.alloc (.cells #[.slice y.A s.rows.length y.a, .slice y.R s.sp.refs.length y.r, .slice y.L s.sp.last.length y.l, .int .i64 s.txg, .slice y.G s.gone.length y.g, .int .i64 s.keep, .slice y.D s.dead.length y.d, .bool s.same] 28)).alloc (.cells #[.int .i64 a, .int .i64 b, .int .i64 cs, .int .i64 d, .int .i64 e] 45)).alloc (.cells #[.slice none 0 0, .slice none 0 0, .slice none 0 0, .int .i64 0, .slice none 0 0, .int .i64 0, .slice none 0 0, .bool false] 28)).heap.size = w.heap.size + 1 + 1 + 1 := by rw [World.size_alloc, World.size_alloc, World.size_alloc]
  by_cases hh : isHole a b cs d e = true
  · rw [freeSt_hole (show (⟨a, b, cs, d, e⟩ : P5).hole = true from hh)]
    clear hO hok hf
    go_enter Try.func65, Try.ntmps65
    go_upto_region 2 with fail
    obtain ⟨W0, hW0⟩ : ∃ W, W = (((w.alloc (.cells #[.slice y.A s.rows.length y.a, .slice y.R s.sp.refs.length y.r, .slice y.L s.sp.last.length y.l, .int .i64 s.txg, .slice y.G s.gone.length y.g, .int .i64 s.keep, .slice y.D s.dead.length y.d, .bool s.same] 28)).alloc (.cells #[.int .i64 a, .int .i64 b, .int .i64 cs, .int .i64 d, .int .i64 e] 45)).alloc (.cells #[.slice none 0 0, .slice none 0 0, .slice none 0 0, .int .i64 0, .slice none 0 0, .int .i64 0, .slice none 0 0, .bool false] 28)) := ⟨_, rfl⟩
    rw [← hW0] at a0 p0 c0 B0 O0 sz ⊢
    clear hW0
    replace sz := Nat.le_of_eq sz.symm
    obtain ⟨v0, v1, v2, v3, v4⟩ := p0.cells
    go_wp2_with (go_at_call 51; refine (spec_hole a b cs d e _).mono ?_; rintro r w1 ⟨rfl, rfl⟩; refine Hid.out ?_)
    refine Lib.hid ?_
    clear v0 v1 v2 v3 v4
    have a1 := a0.alloc (.cells #[.int .i64 a, .int .i64 b, .int .i64 cs, .int .i64 d, .int .i64 e] 45)
    have p1 := p0.alloc (.cells #[.int .i64 a, .int .i64 b, .int .i64 cs, .int .i64 d, .int .i64 e] 45)
    have c1 := c0.alloc (.cells #[.int .i64 a, .int .i64 b, .int .i64 cs, .int .i64 d, .int .i64 e] 45)
    have B1 := B0.alloc (by omega) (.cells #[.int .i64 a, .int .i64 b, .int .i64 cs, .int .i64 d, .int .i64 e] 45)
    have O1 := O0.alloc (.cells #[.int .i64 a, .int .i64 b, .int .i64 cs, .int .i64 d, .int .i64 e] 45)
    have s1 : w.heap.size + 1 + 1 + 1 ≤ (W0.alloc (.cells #[.int .i64 a, .int .i64 b, .int .i64 cs, .int .i64 d, .int .i64 e] 45)).heap.size := by rw [World.size_alloc]; omega
    generalize W0.alloc (.cells #[.int .i64 a, .int .i64 b, .int .i64 cs, .int .i64 d, .int .i64 e] 45) = w1 at a1 p1 c1 B1 O1 s1 ⊢
    clear a0 p0 c0 B0 O0
    obtain ⟨x0, x1, x2, x3, x4, x5, x6, x7⟩ := a1.cells
    obtain ⟨g0, g1, g2, g3, g4, g5, g6, g7⟩ := a1.fro
    obtain ⟨v0, v1, v2, v3, v4⟩ := p1.cells
    obtain ⟨z0, z1, z2, z3, z4, z5, z6, z7⟩ := c1.cells
    obtain ⟨f0, f1, f2, f3, f4, f5, f6, f7⟩ := c1.fro
    go_wp2_with fail
    have OG := (set8_ownA (H := w.heap.size + 1 + 1) (u0 := .slice y.A s.rows.length y.a) (u1 := .slice y.R s.sp.refs.length y.r) (u2 := .slice y.L s.sp.last.length y.l) (u3 := .int .i64 s.txg) (u4 := .slice y.G s.gone.length y.g) (u5 := .int .i64 s.keep) (u6 := .slice y.D s.dead.length y.d) (u7 := .bool s.same) O1 (by omega)).at_top
    have QB := set8_box (H := w.heap.size + 1 + 1) (u0 := .slice y.A s.rows.length y.a) (u1 := .slice y.R s.sp.refs.length y.r) (u2 := .slice y.L s.sp.last.length y.l) (u3 := .int .i64 s.txg) (u4 := .slice y.G s.gone.length y.g) (u5 := .int .i64 s.keep) (u6 := .slice y.D s.dead.length y.d) (u7 := .bool s.same) c1
    have BE := set8_bel (H := w.heap.size + 1 + 1) (u0 := .slice y.A s.rows.length y.a) (u1 := .slice y.R s.sp.refs.length y.r) (u2 := .slice y.L s.sp.last.length y.l) (u3 := .int .i64 s.txg) (u4 := .slice y.G s.gone.length y.g) (u5 := .int .i64 s.keep) (u6 := .slice y.D s.dead.length y.d) (u7 := .bool s.same) B1 (by omega)
    change bodyPost Try.prog Try.f65 _ Exit.ret _ (((((((((w1.setCell ⟨w.heap.size + 1 + 1, 0, none⟩ (.slice y.A s.rows.length y.a)).setCell ⟨w.heap.size + 1 + 1, 1, none⟩ (.slice y.R s.sp.refs.length y.r)).setCell ⟨w.heap.size + 1 + 1, 2, none⟩ (.slice y.L s.sp.last.length y.l)).setCell ⟨w.heap.size + 1 + 1, 3, none⟩ (.int .i64 s.txg)).setCell ⟨w.heap.size + 1 + 1, 4, none⟩ (.slice y.G s.gone.length y.g)).setCell ⟨w.heap.size + 1 + 1, 5, none⟩ (.int .i64 s.keep)).setCell ⟨w.heap.size + 1 + 1, 6, none⟩ (.slice y.D s.dead.length y.d)).setCell ⟨w.heap.size + 1 + 1, 7, none⟩ (.bool s.same)))
    generalize ((((((((w1.setCell ⟨w.heap.size + 1 + 1, 0, none⟩ (.slice y.A s.rows.length y.a)).setCell ⟨w.heap.size + 1 + 1, 1, none⟩ (.slice y.R s.sp.refs.length y.r)).setCell ⟨w.heap.size + 1 + 1, 2, none⟩ (.slice y.L s.sp.last.length y.l)).setCell ⟨w.heap.size + 1 + 1, 3, none⟩ (.int .i64 s.txg)).setCell ⟨w.heap.size + 1 + 1, 4, none⟩ (.slice y.G s.gone.length y.g)).setCell ⟨w.heap.size + 1 + 1, 5, none⟩ (.int .i64 s.keep)).setCell ⟨w.heap.size + 1 + 1, 6, none⟩ (.slice y.D s.dead.length y.d)).setCell ⟨w.heap.size + 1 + 1, 7, none⟩ (.bool s.same)) = WF at OG QB BE ⊢
    clear z0 z1 z2 z3 z4 z5 z6 z7 f0 f1 f2 f3 f4 f5 f6 f7
    obtain ⟨q0, q1, q2, q3, q4, q5, q6, q7⟩ := QB.cells
    exact bodyPost_ret (v := .agg #[.slice y.A s.rows.length y.a, .slice y.R s.sp.refs.length y.r, .slice y.L s.sp.last.length y.l, .int .i64 s.txg, .slice y.G s.gone.length y.g, .int .i64 s.keep, .slice y.D s.dead.length y.d, .bool s.same]) (by simp [results, Try.f65, go_sem, q0, q1, q2, q3, q4, q5, q6, q7]) rfl ⟨y, rfl, OG, BE⟩
  · have hh : isHole a b cs d e = false := by simpa using hh
    have hp : (⟨a, b, cs, d, e⟩ : P5).hole = false := hh
    by_cases hk : b ≤ s.keep
    · rw [freeSt_dead hp hk]
      clear hO hok hf hp
      go_enter Try.func65, Try.ntmps65
      go_upto_region 2 with fail
      obtain ⟨W0, hW0⟩ : ∃ W, W = (((w.alloc (.cells #[.slice y.A s.rows.length y.a, .slice y.R s.sp.refs.length y.r, .slice y.L s.sp.last.length y.l, .int .i64 s.txg, .slice y.G s.gone.length y.g, .int .i64 s.keep, .slice y.D s.dead.length y.d, .bool s.same] 28)).alloc (.cells #[.int .i64 a, .int .i64 b, .int .i64 cs, .int .i64 d, .int .i64 e] 45)).alloc (.cells #[.slice none 0 0, .slice none 0 0, .slice none 0 0, .int .i64 0, .slice none 0 0, .int .i64 0, .slice none 0 0, .bool false] 28)) := ⟨_, rfl⟩
      rw [← hW0] at a0 p0 c0 B0 O0 sz ⊢
      clear hW0
      replace sz := Nat.le_of_eq sz.symm
      obtain ⟨v0, v1, v2, v3, v4⟩ := p0.cells
      go_wp2_with (go_at_call 51; refine (spec_hole a b cs d e _).mono ?_; rintro r w1 ⟨rfl, rfl⟩; refine Hid.out ?_)
      refine Lib.hid ?_
      clear v0 v1 v2 v3 v4
      have a1 := a0.alloc (.cells #[.int .i64 a, .int .i64 b, .int .i64 cs, .int .i64 d, .int .i64 e] 45)
      have p1 := p0.alloc (.cells #[.int .i64 a, .int .i64 b, .int .i64 cs, .int .i64 d, .int .i64 e] 45)
      have c1 := c0.alloc (.cells #[.int .i64 a, .int .i64 b, .int .i64 cs, .int .i64 d, .int .i64 e] 45)
      have B1 := B0.alloc (by omega) (.cells #[.int .i64 a, .int .i64 b, .int .i64 cs, .int .i64 d, .int .i64 e] 45)
      have O1 := O0.alloc (.cells #[.int .i64 a, .int .i64 b, .int .i64 cs, .int .i64 d, .int .i64 e] 45)
      have s1 : w.heap.size + 1 + 1 + 1 ≤ (W0.alloc (.cells #[.int .i64 a, .int .i64 b, .int .i64 cs, .int .i64 d, .int .i64 e] 45)).heap.size := by rw [World.size_alloc]; omega
      generalize W0.alloc (.cells #[.int .i64 a, .int .i64 b, .int .i64 cs, .int .i64 d, .int .i64 e] 45) = w1 at a1 p1 c1 B1 O1 s1 ⊢
      clear a0 p0 c0 B0 O0
      obtain ⟨x0, x1, x2, x3, x4, x5, x6, x7⟩ := a1.cells
      obtain ⟨g0, g1, g2, g3, g4, g5, g6, g7⟩ := a1.fro
      obtain ⟨v0, v1, v2, v3, v4⟩ := p1.cells
      go_upto_region 5 with fail
      have n5 := Q5.new w1 a b cs d e
      have hL := Lib.hid n5.lies
      have al := fun (o : Obj) => (Below.refl w1.heap.size w1).alloc (Nat.le_refl _) o
      have hro := Lib.hid (show (w1.alloc (.cells #[.int .i64 a, .int .i64 b, .int .i64 cs, .int .i64 d, .int .i64 e] 45)).ownsRow base 45 5 (.slice y.D s.dead.length y.d) s.dead.length (flat s.dead) from (O1.alloc (.cells #[.int .i64 a, .int .i64 b, .int .i64 cs, .int .i64 d, .int .i64 e] 45)).row 4 (by decide : 4 < 5))
      have O1a := O1.alloc (.cells #[.int .i64 a, .int .i64 b, .int .i64 cs, .int .i64 d, .int .i64 e] 45)
      have hl1 : w.heap.size < w1.heap.size := by omega
      have hl2 : w.heap.size + 1 < w1.heap.size := by omega
      have hl3 : w.heap.size + 1 + 1 < w1.heap.size := by omega
      go_wp2_with (at_builtin; go_loud (refine wpList_append_five _ rfl _ _ 26 rfl _ 45 i45 (.agg #[.int .i64 0, .int .i64 0, .int .i64 0, .int .i64 0, .int .i64 0]) 5 40 Try.underlying26 hi45 hz450 hz451 hz452 rfl (by decide) (.slice y.D s.dead.length y.d) s.dead.length (flat s.dead) rfl hro.out _ 1 1 (P5.cells (⟨a, b, cs, d, e⟩ : P5)) (by decide) rfl rfl hL.out (by intro u hu; simp only [P5.cells, List.mem_cons, List.not_mem_nil, or_false] at hu; rcases hu with rfl | rfl | rfl | rfl | rfl <;> rfl) (by unfold maxLen; omega) (by omega) (by rw [World.size_alloc]; omega) ?_))
      intro v' w2 hr hg hv
      obtain ⟨A', k', rfl, _⟩ := own_lies hr
      have hn : s.dead.length + 1 = (s.dead ++ [(⟨a, b, cs, d, e⟩ : P5)]).length := by simp
      have hr : w2.ownsRow base 45 5 (.slice A' (s.dead.length + 1) k') (s.dead.length + 1) (flat (s.dead ++ [(⟨a, b, cs, d, e⟩ : P5)])) := by rw [flat_snoc]; exact hr
      have O2 := own_app_dead O1a (by rw [World.size_alloc]; omega) (by rw [World.size_alloc]; exact hv) hn hg hr
      have hne : ∀ k, (Value.slice y.D s.dead.length y.d).ownBlock = some k → base ≤ k ∧ k < top := fun k hk => ⟨((O1.row 4 (by decide : 4 < 5)).lt k hk).1, (O1.1 ⟨45, 5, s.dead.length, .slice y.D s.dead.length y.d, flat s.dead⟩ (by simp [rows5])).2 k hk⟩
      have a2 := (a1.alloc (.cells #[.int .i64 a, .int .i64 b, .int .i64 cs, .int .i64 d, .int .i64 e] 45)).grown hg (fun e => by have := (hne _ e.symm).2; omega)
      have c2 := (c1.alloc (.cells #[.int .i64 a, .int .i64 b, .int .i64 cs, .int .i64 d, .int .i64 e] 45)).grown hg (fun e => by have := (hne _ e.symm).2; omega)
      have B2 := (B1.alloc (by omega) (.cells #[.int .i64 a, .int .i64 b, .int .i64 cs, .int .i64 d, .int .i64 e] 45)).grown hg (by rw [World.size_alloc]; omega) (fun k hk => (hne k hk).1)
      have s2 := hg.size
      rw [World.size_alloc] at s2
      clear n5 hL al hro O1a hr hg hv hne hn a1 c1 B1 O1 p1 x0 x1 x2 x3 x4 x5 x6 x7 g0 g1 g2 g3 g4 g5 g6 g7 v0 v1 v2 v3 v4
      obtain ⟨x0, x1, x2, x3, x4, x5, x6, x7⟩ := a2.cells
      obtain ⟨g0, g1, g2, g3, g4, g5, g6, g7⟩ := a2.fro
      obtain ⟨z0, z1, z2, z3, z4, z5, z6, z7⟩ := c2.cells
      obtain ⟨f0, f1, f2, f3, f4, f5, f6, f7⟩ := c2.fro
      go_wp2_with fail
      have O3 := O2.setB (i := 6) a2 (.slice A' (s.dead.length + 1) k')
      have c3 := c2.set (p := ⟨w.heap.size, 6, none⟩) (by show w.heap.size + 1 + 1 ≠ w.heap.size; omega) (.slice A' (s.dead.length + 1) k')
      have B3 := B2.setCell (p := ⟨w.heap.size, 6, none⟩) hbw (.slice A' (s.dead.length + 1) k')
      clear x0 x1 x2 x3 x4 x5 x6 x7 g0 g1 g2 g3 g4 g5 g6 g7
      have OG := (set8_ownB (H := w.heap.size + 1 + 1) (u0 := .slice y.A s.rows.length y.a) (u1 := .slice y.R s.sp.refs.length y.r) (u2 := .slice y.L s.sp.last.length y.l) (u3 := .int .i64 s.txg) (u4 := .slice y.G s.gone.length y.g) (u5 := .int .i64 s.keep) (u6 := .slice A' (s.dead.length + 1) k') (u7 := .bool s.same) O3 c3).at_top
      have QB := set8_box (H := w.heap.size + 1 + 1) (u0 := .slice y.A s.rows.length y.a) (u1 := .slice y.R s.sp.refs.length y.r) (u2 := .slice y.L s.sp.last.length y.l) (u3 := .int .i64 s.txg) (u4 := .slice y.G s.gone.length y.g) (u5 := .int .i64 s.keep) (u6 := .slice A' (s.dead.length + 1) k') (u7 := .bool s.same) c3
      have BE := set8_bel (H := w.heap.size + 1 + 1) (u0 := .slice y.A s.rows.length y.a) (u1 := .slice y.R s.sp.refs.length y.r) (u2 := .slice y.L s.sp.last.length y.l) (u3 := .int .i64 s.txg) (u4 := .slice y.G s.gone.length y.g) (u5 := .int .i64 s.keep) (u6 := .slice A' (s.dead.length + 1) k') (u7 := .bool s.same) B3 (by omega)
      change bodyPost Try.prog Try.f65 _ Exit.ret _ ((((((((((w2.setCell ⟨w.heap.size, 6, none⟩ (.slice A' (s.dead.length + 1) k')).setCell ⟨w.heap.size + 1 + 1, 0, none⟩ (.slice y.A s.rows.length y.a)).setCell ⟨w.heap.size + 1 + 1, 1, none⟩ (.slice y.R s.sp.refs.length y.r)).setCell ⟨w.heap.size + 1 + 1, 2, none⟩ (.slice y.L s.sp.last.length y.l)).setCell ⟨w.heap.size + 1 + 1, 3, none⟩ (.int .i64 s.txg)).setCell ⟨w.heap.size + 1 + 1, 4, none⟩ (.slice y.G s.gone.length y.g)).setCell ⟨w.heap.size + 1 + 1, 5, none⟩ (.int .i64 s.keep)).setCell ⟨w.heap.size + 1 + 1, 6, none⟩ (.slice A' (s.dead.length + 1) k')).setCell ⟨w.heap.size + 1 + 1, 7, none⟩ (.bool s.same)))
      generalize (((((((((w2.setCell ⟨w.heap.size, 6, none⟩ (.slice A' (s.dead.length + 1) k')).setCell ⟨w.heap.size + 1 + 1, 0, none⟩ (.slice y.A s.rows.length y.a)).setCell ⟨w.heap.size + 1 + 1, 1, none⟩ (.slice y.R s.sp.refs.length y.r)).setCell ⟨w.heap.size + 1 + 1, 2, none⟩ (.slice y.L s.sp.last.length y.l)).setCell ⟨w.heap.size + 1 + 1, 3, none⟩ (.int .i64 s.txg)).setCell ⟨w.heap.size + 1 + 1, 4, none⟩ (.slice y.G s.gone.length y.g)).setCell ⟨w.heap.size + 1 + 1, 5, none⟩ (.int .i64 s.keep)).setCell ⟨w.heap.size + 1 + 1, 6, none⟩ (.slice A' (s.dead.length + 1) k')).setCell ⟨w.heap.size + 1 + 1, 7, none⟩ (.bool s.same)) = WF at OG QB BE ⊢
      clear z0 z1 z2 z3 z4 z5 z6 z7 f0 f1 f2 f3 f4 f5 f6 f7
      obtain ⟨q0, q1, q2, q3, q4, q5, q6, q7⟩ := QB.cells
      exact bodyPost_ret (v := .agg #[.slice y.A s.rows.length y.a, .slice y.R s.sp.refs.length y.r, .slice y.L s.sp.last.length y.l, .int .i64 s.txg, .slice y.G s.gone.length y.g, .int .i64 s.keep, .slice A' (s.dead.length + 1) k', .bool s.same]) (by simp [results, Try.f65, go_sem, q0, q1, q2, q3, q4, q5, q6, q7]) rfl ⟨_, by simp only [List.length_append]; rfl, OG, BE⟩
    · by_cases ht : b < s.txg
      · rw [freeSt_gone hp hk ht]
        clear hO hok hf hp
        go_enter Try.func65, Try.ntmps65
        go_upto_region 2 with fail
        obtain ⟨W0, hW0⟩ : ∃ W, W = (((w.alloc (.cells #[.slice y.A s.rows.length y.a, .slice y.R s.sp.refs.length y.r, .slice y.L s.sp.last.length y.l, .int .i64 s.txg, .slice y.G s.gone.length y.g, .int .i64 s.keep, .slice y.D s.dead.length y.d, .bool s.same] 28)).alloc (.cells #[.int .i64 a, .int .i64 b, .int .i64 cs, .int .i64 d, .int .i64 e] 45)).alloc (.cells #[.slice none 0 0, .slice none 0 0, .slice none 0 0, .int .i64 0, .slice none 0 0, .int .i64 0, .slice none 0 0, .bool false] 28)) := ⟨_, rfl⟩
        rw [← hW0] at a0 p0 c0 B0 O0 sz ⊢
        clear hW0
        replace sz := Nat.le_of_eq sz.symm
        obtain ⟨v0, v1, v2, v3, v4⟩ := p0.cells
        go_wp2_with (go_at_call 51; refine (spec_hole a b cs d e _).mono ?_; rintro r w1 ⟨rfl, rfl⟩; refine Hid.out ?_)
        refine Lib.hid ?_
        clear v0 v1 v2 v3 v4
        have a1 := a0.alloc (.cells #[.int .i64 a, .int .i64 b, .int .i64 cs, .int .i64 d, .int .i64 e] 45)
        have p1 := p0.alloc (.cells #[.int .i64 a, .int .i64 b, .int .i64 cs, .int .i64 d, .int .i64 e] 45)
        have c1 := c0.alloc (.cells #[.int .i64 a, .int .i64 b, .int .i64 cs, .int .i64 d, .int .i64 e] 45)
        have B1 := B0.alloc (by omega) (.cells #[.int .i64 a, .int .i64 b, .int .i64 cs, .int .i64 d, .int .i64 e] 45)
        have O1 := O0.alloc (.cells #[.int .i64 a, .int .i64 b, .int .i64 cs, .int .i64 d, .int .i64 e] 45)
        have s1 : w.heap.size + 1 + 1 + 1 ≤ (W0.alloc (.cells #[.int .i64 a, .int .i64 b, .int .i64 cs, .int .i64 d, .int .i64 e] 45)).heap.size := by rw [World.size_alloc]; omega
        generalize W0.alloc (.cells #[.int .i64 a, .int .i64 b, .int .i64 cs, .int .i64 d, .int .i64 e] 45) = w1 at a1 p1 c1 B1 O1 s1 ⊢
        clear a0 p0 c0 B0 O0
        obtain ⟨x0, x1, x2, x3, x4, x5, x6, x7⟩ := a1.cells
        obtain ⟨g0, g1, g2, g3, g4, g5, g6, g7⟩ := a1.fro
        obtain ⟨v0, v1, v2, v3, v4⟩ := p1.cells
        go_upto_region 7 with fail
        have n5 := Q5.new w1 a b cs d e
        have hL := Lib.hid n5.lies
        have al := fun (o : Obj) => (Below.refl w1.heap.size w1).alloc (Nat.le_refl _) o
        have hro := Lib.hid (show (w1.alloc (.cells #[.int .i64 a, .int .i64 b, .int .i64 cs, .int .i64 d, .int .i64 e] 45)).ownsRow base 45 5 (.slice y.G s.gone.length y.g) s.gone.length (flat s.gone) from (O1.alloc (.cells #[.int .i64 a, .int .i64 b, .int .i64 cs, .int .i64 d, .int .i64 e] 45)).row 3 (by decide : 3 < 5))
        have O1a := O1.alloc (.cells #[.int .i64 a, .int .i64 b, .int .i64 cs, .int .i64 d, .int .i64 e] 45)
        have hl1 : w.heap.size < w1.heap.size := by omega
        have hl2 : w.heap.size + 1 < w1.heap.size := by omega
        have hl3 : w.heap.size + 1 + 1 < w1.heap.size := by omega
        go_wp2_with (at_builtin; go_loud (refine wpList_append_five _ rfl _ _ 26 rfl _ 45 i45 (.agg #[.int .i64 0, .int .i64 0, .int .i64 0, .int .i64 0, .int .i64 0]) 5 40 Try.underlying26 hi45 hz450 hz451 hz452 rfl (by decide) (.slice y.G s.gone.length y.g) s.gone.length (flat s.gone) rfl hro.out _ 1 1 (P5.cells (⟨a, b, cs, d, e⟩ : P5)) (by decide) rfl rfl hL.out (by intro u hu; simp only [P5.cells, List.mem_cons, List.not_mem_nil, or_false] at hu; rcases hu with rfl | rfl | rfl | rfl | rfl <;> rfl) (by unfold maxLen; omega) (by omega) (by rw [World.size_alloc]; omega) ?_))
        intro v' w2 hr hg hv
        obtain ⟨A', k', rfl, _⟩ := own_lies hr
        have hn : s.gone.length + 1 = (s.gone ++ [(⟨a, b, cs, d, e⟩ : P5)]).length := by simp
        have hr : w2.ownsRow base 45 5 (.slice A' (s.gone.length + 1) k') (s.gone.length + 1) (flat (s.gone ++ [(⟨a, b, cs, d, e⟩ : P5)])) := by rw [flat_snoc]; exact hr
        have O2 := own_app_gone O1a (by rw [World.size_alloc]; omega) (by rw [World.size_alloc]; exact hv) hn hg hr
        have hne : ∀ k, (Value.slice y.G s.gone.length y.g).ownBlock = some k → base ≤ k ∧ k < top := fun k hk => ⟨((O1.row 3 (by decide : 3 < 5)).lt k hk).1, (O1.1 ⟨45, 5, s.gone.length, .slice y.G s.gone.length y.g, flat s.gone⟩ (by simp [rows5])).2 k hk⟩
        have a2 := (a1.alloc (.cells #[.int .i64 a, .int .i64 b, .int .i64 cs, .int .i64 d, .int .i64 e] 45)).grown hg (fun e => by have := (hne _ e.symm).2; omega)
        have c2 := (c1.alloc (.cells #[.int .i64 a, .int .i64 b, .int .i64 cs, .int .i64 d, .int .i64 e] 45)).grown hg (fun e => by have := (hne _ e.symm).2; omega)
        have B2 := (B1.alloc (by omega) (.cells #[.int .i64 a, .int .i64 b, .int .i64 cs, .int .i64 d, .int .i64 e] 45)).grown hg (by rw [World.size_alloc]; omega) (fun k hk => (hne k hk).1)
        have s2 := hg.size
        rw [World.size_alloc] at s2
        clear n5 hL al hro O1a hr hg hv hne hn a1 c1 B1 O1 p1 x0 x1 x2 x3 x4 x5 x6 x7 g0 g1 g2 g3 g4 g5 g6 g7 v0 v1 v2 v3 v4
        obtain ⟨x0, x1, x2, x3, x4, x5, x6, x7⟩ := a2.cells
        obtain ⟨g0, g1, g2, g3, g4, g5, g6, g7⟩ := a2.fro
        obtain ⟨z0, z1, z2, z3, z4, z5, z6, z7⟩ := c2.cells
        obtain ⟨f0, f1, f2, f3, f4, f5, f6, f7⟩ := c2.fro
        go_wp2_with fail
        have O3 := O2.setB (i := 4) a2 (.slice A' (s.gone.length + 1) k')
        have c3 := c2.set (p := ⟨w.heap.size, 4, none⟩) (by show w.heap.size + 1 + 1 ≠ w.heap.size; omega) (.slice A' (s.gone.length + 1) k')
        have B3 := B2.setCell (p := ⟨w.heap.size, 4, none⟩) hbw (.slice A' (s.gone.length + 1) k')
        clear x0 x1 x2 x3 x4 x5 x6 x7 g0 g1 g2 g3 g4 g5 g6 g7
        have OG := (set8_ownB (H := w.heap.size + 1 + 1) (u0 := .slice y.A s.rows.length y.a) (u1 := .slice y.R s.sp.refs.length y.r) (u2 := .slice y.L s.sp.last.length y.l) (u3 := .int .i64 s.txg) (u4 := .slice A' (s.gone.length + 1) k') (u5 := .int .i64 s.keep) (u6 := .slice y.D s.dead.length y.d) (u7 := .bool s.same) O3 c3).at_top
        have QB := set8_box (H := w.heap.size + 1 + 1) (u0 := .slice y.A s.rows.length y.a) (u1 := .slice y.R s.sp.refs.length y.r) (u2 := .slice y.L s.sp.last.length y.l) (u3 := .int .i64 s.txg) (u4 := .slice A' (s.gone.length + 1) k') (u5 := .int .i64 s.keep) (u6 := .slice y.D s.dead.length y.d) (u7 := .bool s.same) c3
        have BE := set8_bel (H := w.heap.size + 1 + 1) (u0 := .slice y.A s.rows.length y.a) (u1 := .slice y.R s.sp.refs.length y.r) (u2 := .slice y.L s.sp.last.length y.l) (u3 := .int .i64 s.txg) (u4 := .slice A' (s.gone.length + 1) k') (u5 := .int .i64 s.keep) (u6 := .slice y.D s.dead.length y.d) (u7 := .bool s.same) B3 (by omega)
        change bodyPost Try.prog Try.f65 _ Exit.ret _ ((((((((((w2.setCell ⟨w.heap.size, 4, none⟩ (.slice A' (s.gone.length + 1) k')).setCell ⟨w.heap.size + 1 + 1, 0, none⟩ (.slice y.A s.rows.length y.a)).setCell ⟨w.heap.size + 1 + 1, 1, none⟩ (.slice y.R s.sp.refs.length y.r)).setCell ⟨w.heap.size + 1 + 1, 2, none⟩ (.slice y.L s.sp.last.length y.l)).setCell ⟨w.heap.size + 1 + 1, 3, none⟩ (.int .i64 s.txg)).setCell ⟨w.heap.size + 1 + 1, 4, none⟩ (.slice A' (s.gone.length + 1) k')).setCell ⟨w.heap.size + 1 + 1, 5, none⟩ (.int .i64 s.keep)).setCell ⟨w.heap.size + 1 + 1, 6, none⟩ (.slice y.D s.dead.length y.d)).setCell ⟨w.heap.size + 1 + 1, 7, none⟩ (.bool s.same)))
        generalize (((((((((w2.setCell ⟨w.heap.size, 4, none⟩ (.slice A' (s.gone.length + 1) k')).setCell ⟨w.heap.size + 1 + 1, 0, none⟩ (.slice y.A s.rows.length y.a)).setCell ⟨w.heap.size + 1 + 1, 1, none⟩ (.slice y.R s.sp.refs.length y.r)).setCell ⟨w.heap.size + 1 + 1, 2, none⟩ (.slice y.L s.sp.last.length y.l)).setCell ⟨w.heap.size + 1 + 1, 3, none⟩ (.int .i64 s.txg)).setCell ⟨w.heap.size + 1 + 1, 4, none⟩ (.slice A' (s.gone.length + 1) k')).setCell ⟨w.heap.size + 1 + 1, 5, none⟩ (.int .i64 s.keep)).setCell ⟨w.heap.size + 1 + 1, 6, none⟩ (.slice y.D s.dead.length y.d)).setCell ⟨w.heap.size + 1 + 1, 7, none⟩ (.bool s.same)) = WF at OG QB BE ⊢
        clear z0 z1 z2 z3 z4 z5 z6 z7 f0 f1 f2 f3 f4 f5 f6 f7
        obtain ⟨q0, q1, q2, q3, q4, q5, q6, q7⟩ := QB.cells
        exact bodyPost_ret (v := .agg #[.slice y.A s.rows.length y.a, .slice y.R s.sp.refs.length y.r, .slice y.L s.sp.last.length y.l, .int .i64 s.txg, .slice A' (s.gone.length + 1) k', .int .i64 s.keep, .slice y.D s.dead.length y.d, .bool s.same]) (by simp [results, Try.f65, go_sem, q0, q1, q2, q3, q4, q5, q6, q7]) rfl ⟨_, by simp only [List.length_append]; rfl, OG, BE⟩
      · rw [freeSt_drop hp hk ht]
        obtain ⟨r, p, q, xa, xr, xl, xG, xg, xD, xd, rfl⟩ := five_addr hO hok.len hok.sp.1 hok.sp.2.1
        obtain ⟨hl64, hb64⟩ := P5.ok_bounds hf.2.1 hp
        obtain ⟨n, hn⟩ : ∃ n : Nat, a = (n : Int) := ⟨a.toNat, by simp only at hl64; omega⟩
        subst hn
        simp only at hl64
        have hn64 : n < 64 := by omega
        have hx : s.sp.refs.getD n 0 ≠ 0 := by
          rcases hf.2.2.2 with h | h
          · rw [hp] at h; cases h
          · exact h
        have hx2 := give_used hok hn64 hx
        have hD := fun W (hW : Own W base top (rows5 (⟨some ⟨r, 0, none⟩, xa, some ⟨p, 0, none⟩, xr, some ⟨q, 0, none⟩, xl, xG, xg, xD, xd⟩ : SA) s)) (ht : top ≤ W.heap.size) => spec_l7drop p q r xa xr xl xg xd n base top xG xD s W hn64 hok.len hok.sp.1 hok.sp.2.1 ⟨hx2.1, hx2.2.1⟩ ht hW
        have e1 : (dropSt s n).rows.length = 64 := by rw [drop_rows, hok.len]
        have e2 : (dropSt s n).sp.refs.length = 64 := by rw [drop_refs, hok.sp.1]
        have e3 : (dropSt s n).sp.last.length = 64 := by rw [drop_last, hok.sp.2.1]
        have E1 := Lib.hid (⟨e1, e2, e3⟩ : _ ∧ _ ∧ _)
        have ht2 : s.txg ≤ b := by omega
        have hk2 : ¬ b ≤ s.keep := hk
        simp only [hok.len, hok.sp.1, hok.sp.2.1] at a0 p0 c0 B0 O0 sz ⊢
        clear hO hok hf hp hx hx2 e1 e2 e3
        go_enter Try.func65, Try.ntmps65
        go_upto_region 2 with fail
        obtain ⟨W0, hW0⟩ : ∃ W, W = (((w.alloc (.cells #[.slice (some ⟨r, 0, none⟩) 64 xa, .slice (some ⟨p, 0, none⟩) 64 xr, .slice (some ⟨q, 0, none⟩) 64 xl, .int .i64 s.txg, .slice xG s.gone.length xg, .int .i64 s.keep, .slice xD s.dead.length xd, .bool s.same] 28)).alloc (.cells #[.int .i64 (n : Int), .int .i64 b, .int .i64 cs, .int .i64 d, .int .i64 e] 45)).alloc (.cells #[.slice none 0 0, .slice none 0 0, .slice none 0 0, .int .i64 0, .slice none 0 0, .int .i64 0, .slice none 0 0, .bool false] 28)) := ⟨_, rfl⟩
        rw [← hW0] at a0 p0 c0 B0 O0 sz ⊢
        clear hW0
        replace sz := Nat.le_of_eq sz.symm
        obtain ⟨v0, v1, v2, v3, v4⟩ := p0.cells
        go_wp2_with (go_at_call 51; refine (spec_hole (n : Int) b cs d e _).mono ?_; rintro r w1 ⟨rfl, rfl⟩; refine Hid.out ?_)
        refine Lib.hid ?_
        clear v0 v1 v2 v3 v4
        have a1 := a0.alloc (.cells #[.int .i64 (n : Int), .int .i64 b, .int .i64 cs, .int .i64 d, .int .i64 e] 45)
        have p1 := p0.alloc (.cells #[.int .i64 (n : Int), .int .i64 b, .int .i64 cs, .int .i64 d, .int .i64 e] 45)
        have c1 := c0.alloc (.cells #[.int .i64 (n : Int), .int .i64 b, .int .i64 cs, .int .i64 d, .int .i64 e] 45)
        have B1 := B0.alloc (by omega) (.cells #[.int .i64 (n : Int), .int .i64 b, .int .i64 cs, .int .i64 d, .int .i64 e] 45)
        have O1 := O0.alloc (.cells #[.int .i64 (n : Int), .int .i64 b, .int .i64 cs, .int .i64 d, .int .i64 e] 45)
        have s1 : w.heap.size + 1 + 1 + 1 ≤ (W0.alloc (.cells #[.int .i64 (n : Int), .int .i64 b, .int .i64 cs, .int .i64 d, .int .i64 e] 45)).heap.size := by rw [World.size_alloc]; omega
        generalize W0.alloc (.cells #[.int .i64 (n : Int), .int .i64 b, .int .i64 cs, .int .i64 d, .int .i64 e] 45) = w1 at a1 p1 c1 B1 O1 s1 ⊢
        clear a0 p0 c0 B0 O0
        obtain ⟨x0, x1, x2, x3, x4, x5, x6, x7⟩ := a1.cells
        obtain ⟨g0, g1, g2, g3, g4, g5, g6, g7⟩ := a1.fro
        obtain ⟨v0, v1, v2, v3, v4⟩ := p1.cells
        have L := hD w1 O1 (by omega)
        unfold DropPost at L
        go_wp2_with (go_at_call 70; refine L.mono ?_; rintro rr w2 ⟨rfl, O2, N2⟩; refine Hid.out ?_)
        refine Lib.hid ?_
        have c2 := c1.only N2 (by omega)
        have B2 := B1.trans (N2.below (B := base) (Nat.le_refl _) (by omega))
        clear hD L a1 p1 c1 B1 O1 N2 x0 x1 x2 x3 x4 x5 x6 x7 g0 g1 g2 g3 g4 g5 g6 g7 v0 v1 v2 v3 v4
        obtain ⟨z0, z1, z2, z3, z4, z5, z6, z7⟩ := c2.cells
        obtain ⟨f0, f1, f2, f3, f4, f5, f6, f7⟩ := c2.fro
        go_wp2_with fail
        have OG := (set8_ownA (H := w.heap.size + 1 + 1) (u0 := .slice (some ⟨r, 0, none⟩) 64 xa) (u1 := .slice (some ⟨p, 0, none⟩) 64 xr) (u2 := .slice (some ⟨q, 0, none⟩) 64 xl) (u3 := .int .i64 s.txg) (u4 := .slice xG s.gone.length xg) (u5 := .int .i64 s.keep) (u6 := .slice xD s.dead.length xd) (u7 := .bool s.same) O2 (by omega)).at_top
        have QB := set8_box (H := w.heap.size + 1 + 1) (u0 := .slice (some ⟨r, 0, none⟩) 64 xa) (u1 := .slice (some ⟨p, 0, none⟩) 64 xr) (u2 := .slice (some ⟨q, 0, none⟩) 64 xl) (u3 := .int .i64 s.txg) (u4 := .slice xG s.gone.length xg) (u5 := .int .i64 s.keep) (u6 := .slice xD s.dead.length xd) (u7 := .bool s.same) c2
        have BE := set8_bel (H := w.heap.size + 1 + 1) (u0 := .slice (some ⟨r, 0, none⟩) 64 xa) (u1 := .slice (some ⟨p, 0, none⟩) 64 xr) (u2 := .slice (some ⟨q, 0, none⟩) 64 xl) (u3 := .int .i64 s.txg) (u4 := .slice xG s.gone.length xg) (u5 := .int .i64 s.keep) (u6 := .slice xD s.dead.length xd) (u7 := .bool s.same) B2 (by omega)
        change bodyPost Try.prog Try.f65 _ Exit.ret _ (((((((((w2.setCell ⟨w.heap.size + 1 + 1, 0, none⟩ (.slice (some ⟨r, 0, none⟩) 64 xa)).setCell ⟨w.heap.size + 1 + 1, 1, none⟩ (.slice (some ⟨p, 0, none⟩) 64 xr)).setCell ⟨w.heap.size + 1 + 1, 2, none⟩ (.slice (some ⟨q, 0, none⟩) 64 xl)).setCell ⟨w.heap.size + 1 + 1, 3, none⟩ (.int .i64 s.txg)).setCell ⟨w.heap.size + 1 + 1, 4, none⟩ (.slice xG s.gone.length xg)).setCell ⟨w.heap.size + 1 + 1, 5, none⟩ (.int .i64 s.keep)).setCell ⟨w.heap.size + 1 + 1, 6, none⟩ (.slice xD s.dead.length xd)).setCell ⟨w.heap.size + 1 + 1, 7, none⟩ (.bool s.same)))
        generalize ((((((((w2.setCell ⟨w.heap.size + 1 + 1, 0, none⟩ (.slice (some ⟨r, 0, none⟩) 64 xa)).setCell ⟨w.heap.size + 1 + 1, 1, none⟩ (.slice (some ⟨p, 0, none⟩) 64 xr)).setCell ⟨w.heap.size + 1 + 1, 2, none⟩ (.slice (some ⟨q, 0, none⟩) 64 xl)).setCell ⟨w.heap.size + 1 + 1, 3, none⟩ (.int .i64 s.txg)).setCell ⟨w.heap.size + 1 + 1, 4, none⟩ (.slice xG s.gone.length xg)).setCell ⟨w.heap.size + 1 + 1, 5, none⟩ (.int .i64 s.keep)).setCell ⟨w.heap.size + 1 + 1, 6, none⟩ (.slice xD s.dead.length xd)).setCell ⟨w.heap.size + 1 + 1, 7, none⟩ (.bool s.same)) = WF at OG QB BE ⊢
        clear z0 z1 z2 z3 z4 z5 z6 z7 f0 f1 f2 f3 f4 f5 f6 f7
        obtain ⟨q0, q1, q2, q3, q4, q5, q6, q7⟩ := QB.cells
        exact bodyPost_ret (v := .agg #[.slice (some ⟨r, 0, none⟩) 64 xa, .slice (some ⟨p, 0, none⟩) 64 xr, .slice (some ⟨q, 0, none⟩) 64 xl, .int .i64 s.txg, .slice xG s.gone.length xg, .int .i64 s.keep, .slice xD s.dead.length xd, .bool s.same]) (by simp [results, Try.f65, go_sem, q0, q1, q2, q3, q4, q5, q6, q7]) rfl ⟨_, by rw [Int.toNat_natCast, E1.out.1, E1.out.2.1, E1.out.2.2]; rfl, OG, BE⟩
end Go.Proofs.Ytmnamclndpfjnaa
