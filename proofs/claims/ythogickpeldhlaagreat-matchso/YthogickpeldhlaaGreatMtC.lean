/- Rows of binds as cells; the walks of slices.Grow and slices.Concat at binds, and of match.Meet's closure. -/
import Derived.Test.YthogickpeldhlaaGreatMtB
import Derived.Test.YthogickpeldhlaaGreatGrowBLay
import Derived.Shelf.Spec.SlicesGrow
namespace Go.Proofs.YthogickpeldhlaaGreat
open Go.RowKit Go.Sort Go.Shelf

theorem infoBind : ∃ i, Tryz.prog.info? 34 = some i ∧ i.zero = some (.agg #[.string ByteArray.empty, .string ByteArray.empty]) ∧ i.size = 2 ∧ i.bytes = 32 := ⟨Tryz.t34, by kernel_rfl, by kernel_rfl, by kernel_rfl, by kernel_rfl⟩

/-- The cells of binds. -/
def encB (b : BindD) : List Value := [.string b.1, .string b.2]
def cellsB (l : List BindD) : List Value := l.flatMap encB

theorem cellsB_append (l m : List BindD) : cellsB (l ++ m) = cellsB l ++ cellsB m := by simp [cellsB]
theorem cellsB_len : ∀ l : List BindD, (cellsB l).length = l.length * 2
  | [] => rfl
  | b :: l => by
    have := cellsB_len l
    simp only [cellsB, List.flatMap_cons, List.length_append, encB, List.length_cons] at this ⊢
    rw [this]; simp; omega
theorem cellsB_at : ∀ (l : List BindD) (i j : Nat), j < 2 → (cellsB l)[i * 2 + j]? = (l[i]?).bind fun b => (encB b)[j]?
  | [], i, j, _ => by simp [cellsB]
  | b :: l, 0, j, hj => by
    have : j = 0 ∨ j = 1 := by omega
    rcases this with rfl | rfl <;> simp [cellsB, encB]
  | b :: l, i + 1, j, hj => by
    have e : (i + 1) * 2 + j = (i * 2 + j) + 2 := by omega
    rw [e]
    simp only [List.getElem?_cons_succ]
    rw [← cellsB_at l i j hj]
    show ([.string b.1, .string b.2] ++ cellsB l)[i * 2 + j + 2]? = _
    rw [List.getElem?_append_right (by simp)]
    simp
theorem cellsB_one {l : List BindD} : ∀ u ∈ cellsB l, u.oneCell' = true := fun u hu => by
  obtain ⟨b, _, hb⟩ := List.mem_flatMap.1 hu
  simp [encB] at hb
  rcases hb with rfl | rfl <;> rfl

theorem own_cells {ty : TypeId} {lo : Nat} {w : World} {v : Value} {l : List BindD} (h : bindK.own ty lo w v l) : w.ownsRow lo ty 2 v l.length (cellsB l) := by
  obtain ⟨xs, ho, hx⟩ := h
  have e : xs = cellsB l := by
    apply List.ext_getElem?
    intro n
    by_cases hn : n < l.length * 2
    · have hi : n / 2 < l.length := by omega
      obtain ⟨c, rfl, hc⟩ := hx (n / 2) _ (List.getElem?_eq_getElem hi)
      have hm : n % 2 < 2 := Nat.mod_lt _ (by omega)
      have e1 : n = n / 2 * 2 + n % 2 := by omega
      have e2 := cellsB_at l (n / 2) (n % 2) hm
      rw [List.getElem?_eq_getElem hi] at e2
      rw [← e1] at e2
      rw [e2]
      rcases (by omega : n % 2 = 0 ∨ n % 2 = 1) with h0 | h0
      · have := hc 0 _ rfl
        rw [show n / 2 * bindK.size + 0 = n by show n / 2 * 2 + 0 = n; omega] at this
        rw [this, h0]; rfl
      · have := hc 1 _ rfl
        rw [show n / 2 * bindK.size + 1 = n by show n / 2 * 2 + 1 = n; omega] at this
        rw [this, h0]; rfl
    · have h1 : xs.length = l.length * 2 := ho.1
      rw [List.getElem?_eq_none (by omega), List.getElem?_eq_none (by rw [cellsB_len]; omega)]
  rw [← e]; exact ho

theorem own_of {ty : TypeId} {lo : Nat} {w : World} {v : Value} {l : List BindD} (h : w.ownsRow lo ty 2 v l.length (cellsB l)) : bindK.own ty lo w v l := by
  refine ⟨cellsB l, h, fun i x hi => ⟨_, rfl, fun j u hu => ?_⟩⟩
  have hj : j < 2 := (List.getElem?_eq_some_iff.1 hu).1
  show (cellsB l)[i * 2 + j]? = _
  rw [cellsB_at l i j hj, hi]
  exact hu

theorem sl_cells {B : Nat → Prop} {w : World} {a : Addr} {n cap : Nat} {l : List BindD} (h : bindK.sl B w (.slice (some a) n cap) l) : ∀ j u, (cellsB l)[j]? = some u → w.cell? (a.add j) = some u := fun j u hu => by
  have hj : j < l.length * 2 := by rw [← cellsB_len]; exact (List.getElem?_eq_some_iff.1 hu).1
  have hi : j / 2 < l.length := by omega
  obtain ⟨b, off, c, e, hb, rfl, hc⟩ := Kind.sl_at h (List.getElem?_eq_getElem hi)
  cases e
  have e1 : j = j / 2 * 2 + j % 2 := by omega
  have e2 := cellsB_at l (j / 2) (j % 2) (Nat.mod_lt _ (by omega))
  rw [List.getElem?_eq_getElem hi] at e2
  rw [← e1, hu] at e2
  have := hc (j % 2) u e2.symm
  rw [Addr.add_lit]
  rw [show off + j / 2 * bindK.size + j % 2 = off + j by show off + j / 2 * 2 + j % 2 = off + j; omega] at this
  exact this

/-- append of a slice of binds, wherever it lies, onto a row of the call's own. -/
theorem appendBinds {lo : Nat} {w : World} {v : Value} {l m : List BindD} {a : Option Addr} {cap : Nat} (h : bindK.own 34 lo w v l) (hm : bindK.sl Anyw w (.slice a m.length cap) m) (hl : l.length + m.length ≤ 4398046511104) (hlo : lo ≤ w.heap.size) :
    ∃ v' w', (Builtin.append_ #[24, 24] 24 #[v, .slice a m.length cap]).run Tryz.prog w = .ok v' w' ∧ bindK.own 34 lo w' v' (l ++ m) ∧ w.grownBy w' v.ownBlock ∧ w.drawn ≤ w'.drawn ∧ ∀ k, v'.ownBlock = some k → v.ownBlock = some k ∨ w.heap.size ≤ k := by
  obtain ⟨i, i1, i2, i3, i4⟩ := infoBind
  have ho := own_cells h
  cases a with
  | none =>
    have hm0 : m = [] := by
      refine Classical.byContradiction fun hne => ?_
      obtain ⟨_, a', _, e, h1⟩ := hm
      simp only [Value.slice.injEq] at e
      obtain ⟨b, off, e', _⟩ := h1 hne
      rw [e'] at e; cases e.1
    subst hm0
    refine ⟨v, w, ?_, by rw [List.append_nil]; exact h, ⟨rfl, rfl, rfl, Nat.le_refl _, fun _ _ _ => rfl⟩, Nat.le_refl _, fun k hk => Or.inl hk⟩
    rcases ho.2 with ⟨rfl, e0⟩ | ⟨g, c, cur, rfl, _, _, hnc, _⟩
    · simp [Builtin.append_, run_underlying Tryz.underlying24, sizeOf, typeInfo, i1, Builtin.lenOf, Builtin.firstCells]
    · simp [Builtin.append_, run_underlying Tryz.underlying24, sizeOf, typeInfo, i1, Builtin.lenOf, Builtin.firstCells, hnc, storeCells]
  | some a =>
    obtain ⟨v', w', hrun, r1, r2, r3, r4⟩ := append_own (P := Tryz.prog) w lo 24 24 34 i _ 2 32 Tryz.underlying24 i1 i2 i3 i4 rfl (by omega) v l.length (cellsB l) ho a m.length cap (cellsB m) (cellsB_len m) (sl_cells hm) cellsB_one (by simp only [maxLen]; omega) (by omega) hlo
    exact ⟨v', w', hrun, own_of (by rw [List.length_append, cellsB_append]; exact r1), r2, r3, r4⟩

/-- append of one bind more. -/
theorem appendBind {lo : Nat} {w : World} {v : Value} {l : List BindD} (h : bindK.own 34 lo w v l) (x y : ByteArray) (hl : l.length + 1 ≤ 4398046511104) (hlo : lo ≤ w.heap.size) :
    ∃ v' w', (Builtin.append_ #[24, 24] 24 #[v, .slice (some ⟨w.heap.size, 0, none⟩) 1 1]).run Tryz.prog (w.alloc (.cells #[.string x, .string y] 34)) = .ok v' w' ∧ bindK.own 34 lo w' v' (l ++ [(x, y)]) ∧ (w.alloc (.cells #[.string x, .string y] 34)).grownBy w' v.ownBlock ∧ w.drawn ≤ w'.drawn ∧
      ∀ k, v'.ownBlock = some k → v.ownBlock = some k ∨ w.heap.size < k := by
  obtain ⟨i, i1, i2, i3, i4⟩ := infoBind
  exact Kind.own_more h Tryz.underlying24 i1 i2 i3 i4 rfl (by decide) (c := [.string x, .string y]) (x := (x, y)) rfl (by omega) (by simp [maxLen]; omega) hlo

theorem growB (w : World) (n : Nat) (hn : n ≤ 4398046511104) : Calls Tryz.prog 54 #[.slice none 0 0, .int .i64 n] w fun e w' =>
    ∃ v', e = .returned v' ∧ bindK.own 34 w.heap.size w' v' [] ∧ Later w w' := by
  by_cases h0 : n = 0
  · subst h0
    exact (Any8.slices_Grow_room Tryz.growBinds none 0 0 0 w (Nat.le_refl _) (by omega) (by omega) (Nat.le_refl _)).mono fun e w' ⟨he, hw⟩ =>
      ⟨_, he, bindK.own_nil _ _ _, by rw [hw]; exact Later.refl _⟩
  · obtain ⟨i, i1, i2, i3, i4⟩ := infoBind
    refine (Any8.slices_Grow_grow Tryz.growBinds i _ i1 i2 (by omega) none 0 0 n [] w (Nat.le_refl _) (by omega) (by rw [i4]; omega) (by omega) (by simp) (fun _ => rfl) (fun a h => by cases h)).mono fun e w' ⟨he, hw⟩ => ⟨_, he, ?_, ?_⟩
    · rw [hw]
      have hcm := grownCap_le_maxLen w (0 + n) 0 (Tryz.growBinds_ren.t 25) (by simp only [maxLen]; omega)
      have hge := grownCap_ge w (0 + n) 0 (Tryz.growBinds_ren.t 25)
      refine own_of (World.ownsRow_made (base := w.heap.size) (e := 34) (size := 2) w.drew _ _ (Nat.le_refl _) hcm ?_)
      simp only [Array.size_append, List.size_toArray, size_zeroCells]
      show 0 + (0 + n - 0) * 2 + (grownCap w (0 + n) 0 (Tryz.growBinds_ren.t 25) - (0 + n)) * 2 = _
      omega
    · rw [hw]; exact (Later.refl w).drew.alloc _

theorem own_kept' {ty : TypeId} {lo : Nat} {w w' : World} {v : Value} {l : List BindD} (h : bindK.own ty lo w v l) (k : Later w w') : bindK.own ty lo w' v l := own_block h fun _ e => k.block (Kind.own_lt h e).2

set_option maxHeartbeats 1000000 in
theorem concatB (w : World) (c cp : Nat) (va vb : Value) (la lb : List BindD) (ha : bindK.sl Anyw w va la) (hb : bindK.sl Anyw w vb lb) (hn : la.length + lb.length ≤ 4398046511104) (hc0 : w.cell? ⟨c, 0, none⟩ = some va) (hc1 : w.cell? ⟨c, 1, none⟩ = some vb) (hcb : c < w.heap.size) :
    Calls Tryz.prog 34 #[.slice (some ⟨c, 0, none⟩) 2 cp] w fun e w' => ∃ v', e = .returned v' ∧ bindK.own 34 w.heap.size w' v' (la ++ lb) ∧ Later w w' := by
  have HA := hide ha
  have HB := hide hb
  obtain ⟨a1, c1, rfl⟩ := Kind.slice ha
  obtain ⟨a2, c2, rfl⟩ := Kind.slice hb
  clear ha hb
  have s1 : ¬ ((la.length : Int) < 0) := by omega
  have s2 : ¬ ((la.length : Int) + (lb.length : Int) < 0) := by omega
  go_enter Tryz.func34, Tryz.ntmps34
  go_wp2
  refine wp_loop_rounds 3 ?_
  rw [rounds_succ]
  go_wp2
  rw [rounds_succ]
  go_wp2
  rw [rounds_succ]
  go_wp2_with fail
  rw [show ((la.length : Int) + (lb.length : Int)) = ((la.length + lb.length : Nat) : Int) by omega]
  refine (growB w (la.length + lb.length) hn).mono ?_
  rintro e w1 ⟨v1, rfl, hR1, hL1⟩
  obtain ⟨v2, w2, run2, hR2, hg2, hd2, hk2⟩ := appendBinds hR1 (Kind.sl_later HA.out hL1) (by simp; omega) hL1.size
  have hL2 : Later w w2 := Later.of_below (hL1.below.grown hg2 hL1.size fun k hk => (Kind.own_lt hR1 hk).1) (Nat.le_trans hL1.drawn hd2)
  obtain ⟨v3, w3, run3, hR3, hg3, hd3, hk3⟩ := appendBinds hR2 (Kind.sl_later HB.out hL2) (by simp; omega) hL2.size
  have hL3 : Later w w3 := Later.of_below (hL2.below.grown hg3 hL2.size fun k hk => (Kind.own_lt hR2 hk).1) (Nat.le_trans hL2.drawn hd3)
  rw [List.nil_append] at hR3
  have y0 : w1.cell? ⟨c, 0, none⟩ = some (.slice a1 la.length c1) := by rw [hL1.cell (p := ⟨c, 0, none⟩) hcb]; exact hc0
  have y1 : w1.cell? ⟨c, 1, none⟩ = some (.slice a2 lb.length c2) := by rw [hL1.cell (p := ⟨c, 1, none⟩) hcb]; exact hc1
  have y2 : w2.cell? ⟨c, 1, none⟩ = some (.slice a2 lb.length c2) := by rw [hL2.cell (p := ⟨c, 1, none⟩) hcb]; exact hc1
  have R2 := hide run2
  have R3 := hide run3
  have HR := hide hR3
  clear run2 run3 hR1 hR2 hR3 hg2 hg3
  go_wp2
  refine wp_loop_rounds 3 ?_
  rw [rounds_succ]
  go_wp2_with (at_builtin; refine wpList_append_run rfl (.tmp 31) (.tmp 32) 24 rfl _ _ _ _ rfl rfl R2.out ?_)
  rw [rounds_succ]
  go_wp2_with (at_builtin; refine wpList_append_run rfl (.tmp 31) (.tmp 32) 24 rfl _ _ _ _ rfl rfl R3.out ?_)
  rw [rounds_succ]
  go_wp2
  go_ret
  exact ⟨v3, rfl, HR.out, hL3⟩

theorem enters_meet1 : ∀ args w, (callFunc 33 args).run Tryz.prog w = .ok (.enter 33 args) w := enters_of Tryz.func33 (by kernel_rfl) rfl

set_option maxHeartbeats 1000000 in
theorem tellsMeet (cl cm : Nat) (u um : Value) (l m : List BindD) (w0 : World) (hc : w0.cell? ⟨cl, 0, none⟩ = some u) (hb : cl < w0.heap.size) (hd : w0.cell? ⟨cm, 0, none⟩ = some um) (he : cm < w0.heap.size) (hu : bindK.sl Anyw w0 u l) (hm : bindK.sl Anyw w0 um m) :
    Tells 33 #[.pointer (some ⟨cl, 0, none⟩), .pointer (some ⟨cm, 0, none⟩)] (l ++ m) w0 := by
  intro w v hL
  have HG := hide (getC u l v w (Kind.sl_later hu hL))
  have HM : Hid (∀ w2, Later w w2 → w2.cell? ⟨cm, 0, none⟩ = some um ∧ cm < w2.heap.size ∧ Calls Tryz.prog 14 #[um, .string v] w2 fun e w' => e = .returned (toldV (getB m v)) ∧ Hid (Later w w')) := fun w2 h2 =>
    ⟨by rw [(hL.trans h2).cell he]; exact hd, Nat.lt_of_lt_of_le he (hL.trans h2).size, (getC um m v w2 (Kind.sl_later hm (hL.trans h2))).mono fun e w' ⟨h3, h4⟩ => ⟨h3, h2.trans h4⟩⟩
  have hc' : w.cell? ⟨cl, 0, none⟩ = some u := by rw [hL.cell hb]; exact hc
  have hb' : cl < w.heap.size := Nat.lt_of_lt_of_le hb hL.size
  obtain ⟨a, cap, rfl⟩ := Kind.slice hu
  obtain ⟨am, capm, rfl⟩ := Kind.slice hm
  have E := hide (getB_append l m v)
  clear hu hm hc hb hd he hL
  show Calls _ _ #[.string v, .pointer (some ⟨cl, 0, none⟩), .pointer (some ⟨cm, 0, none⟩)] _ _
  cases hg : getB l v with
  | some s =>
    have E1 : Hid (getB (l ++ m) v = some s) := by show _ = _; rw [E.out, hg]
    rw [hg] at HG
    unfold toldV at HG
    simp only [Option.getD_some, Option.isSome_some] at HG
    clear HM hg E
    go_enter Tryz.func33, Tryz.ntmps33
    go_wp2_with (go_at_call 14; refine HG.out.mono ?_; rintro e w2 ⟨rfl, hL2⟩; replace hL2 := hide hL2)
    go_ret2
    exact ⟨by rw [E1.out]; rfl, unhide hL2⟩
  | none =>
    have E1 : Hid (getB (l ++ m) v = getB m v) := by show _ = _; rw [E.out, hg]
    rw [hg] at HG
    unfold toldV at HG HM
    simp only [Option.getD_none, Option.isSome_none] at HG
    clear hg E
    generalize hgm : (getB m v).getD ByteArray.empty = s at *
    generalize hbm : (getB m v).isSome = b at *
    have E2 : Hid (toldV (getB (l ++ m) v) = .tuple #[.string s, .bool b]) := by show _ = _; rw [E1.out]; unfold toldV; rw [hgm, hbm]
    clear hgm hbm E1
    go_enter Tryz.func33, Tryz.ntmps33
    go_wp2_with fail
    refine HG.out.mono ?_
    rintro e w2 ⟨rfl, hL2⟩
    obtain ⟨y0, y1, hcall⟩ := HM.out w2 hL2
    have HC := hide hcall
    clear hcall hL2 HM HG
    go_wp2_with fail
    refine HC.out.mono ?_
    rintro e w3 ⟨rfl, hL3⟩
    go_wp2
    go_ret2
    exact ⟨by rw [E2.out]; rfl, hL3.out⟩

end Go.Proofs.YthogickpeldhlaaGreat
