/- The walk of match.Meet. -/
import Derived.Test.YthogickpeldhlaaGreatMtC
namespace Go.Proofs.YthogickpeldhlaaGreat
open Go.RowKit Go.Sort

theorem meetGo_step {l : List BindD} {ts : List TermD} {xs : List ByteArray} {j : Nat} {t : TermD} {x : ByteArray} (ht : ts[j]? = some t) (hx : xs[j]? = some x) :
    meetGo l (ts.drop j) (xs.drop j) = match worthB l t with | none => meetGo (l ++ [(bs t.2, x)]) (ts.drop (j + 1)) (xs.drop (j + 1)) | some s => if s = x then meetGo l (ts.drop (j + 1)) (xs.drop (j + 1)) else none := by
  obtain ⟨h1, e1⟩ := List.getElem?_eq_some_iff.1 ht
  obtain ⟨h2, e2⟩ := List.getElem?_eq_some_iff.1 hx
  rw [List.drop_eq_getElem_cons h1, List.drop_eq_getElem_cons h2, e1, e2]; rfl

/-- What Meet tells. -/
def MetV (w0 w : World) (v : Value) (r : Option (List BindD)) : Prop := match r with
  | none => v = .slice none 0 0
  | some m => bindK.own 34 w0.heap.size w v m

set_option maxRecDepth 100000 in
set_option maxHeartbeats 1000000 in
theorem meet_no (a : AtomD) (sa : Option Addr) (cap : Nat) (fn : ByteArray) (fa : Option Addr) (nf capf : Nat) (sb : Option Addr) (nb capb : Nat) (w : World) (h : (decide (bs a.name = fn) && decide ((a.terms.length : Int) = nf)) = false) :
    Calls Tryz.prog 12 #[.agg #[.bool a.no, .string (bs a.name), .slice sa a.terms.length cap], .agg #[.string fn, .slice fa nf capf], .slice sb nb capb] w fun e w' => e = .returned (.tuple #[.slice none 0 0, .bool false]) ∧ Later w w' := by
  obtain ⟨no, name, ts⟩ := a
  dsimp only at *
  generalize bs name = nm at *
  have E := eq_list (a := nm) (b := fn)
  cases hq : (nm.toList == fn.toList) with
  | false =>
    clear h E
    go_enter Tryz.func12, Tryz.ntmps12
    go_wp2
    go_ret2
    exact ⟨rfl, (by repeat (first | exact Later.refl _ | assumption | refine Later.drewN ?_ _ | refine Later.drew ?_ | refine Later.alloc ?_ _ | refine Later.grow ?_ _))⟩
  | true =>
    rw [← E, hq] at h
    have hne : ¬ ((ts.length : Int) = (nf : Int)) := by simpa using h
    have hne2 : ((ts.length : Int) != (nf : Int)) = true := by simpa using hne
    clear h E hne
    go_enter Tryz.func12, Tryz.ntmps12
    go_wp2
    go_ret2
    exact ⟨rfl, (by repeat (first | exact Later.refl _ | assumption | refine Later.drewN ?_ _ | refine Later.drew ?_ | refine Later.alloc ?_ _ | refine Later.grow ?_ _))⟩

set_option maxRecDepth 100000 in
set_option maxHeartbeats 4000000 in
theorem meet_yes (a : AtomD) (sa : Option Addr) (cap : Nat) (xs : List ByteArray) (fa : Option Addr) (capf : Nat) (u : Value) (l : List BindD) (w : World) (ht : termK.sl Anyw w (.slice sa a.terms.length cap) a.terms) (hf : Strs w (.slice fa a.terms.length capf) xs) (hu : bindK.sl Anyw w u l)
    (hlen : xs.length = a.terms.length) (hn : l.length + a.terms.length ≤ 4398046511104) :
    Calls Tryz.prog 12 #[.agg #[.bool a.no, .string (bs a.name), .slice sa a.terms.length cap], .agg #[.string (bs a.name), .slice fa a.terms.length capf], u] w fun e w' => ∃ v, e = .returned (.tuple #[v, .bool (meetGo l a.terms xs).isSome]) ∧ MetV w w' v (meetGo l a.terms xs) ∧ Later w w' := by
  obtain ⟨sb, capb, rfl⟩ := Kind.slice hu
  have HT := hide ht
  have HU := hide hu
  have HFS := hide hf
  have HLen := hide hlen
  clear ht hu hf hlen
  obtain ⟨no, name, ts⟩ := a
  dsimp only at *
  generalize bs name = nm at *
  have hq : (nm.toList == nm.toList) = true := by simp
  have hq2 : ((ts.length : Int) != (ts.length : Int)) = false := by simp
  go_enter Tryz.func12, Tryz.ntmps12
  go_wp2
  go_loopg [32] ts.length (fun g i wr => ∃ j : Nat, j + g = ts.length ∧ i = .int .i64 j ∧ ∃ mm o, Hid (meetGo l ts xs = meetGo (l ++ mm) (ts.drop j) (xs.drop j)) ∧ Hid (bindK.own 34 (w.heap.size + 4) wr o mm) ∧ Hid (mm.length ≤ j) ∧ Hid (Later w wr) ∧ w.heap.size + 4 ≤ wr.heap.size ∧
    Hid (wr.heap[w.heap.size + 1]? = some (.cells #[.string nm, .slice fa ts.length capf] 41 (0, 0))) ∧ Hid (wr.heap[w.heap.size + 2]? = some (.cells #[.slice sb l.length capb] 24 (0, 0))) ∧ Hid (wr.heap[w.heap.size + 3]? = some (.cells #[o] 24 (0, 0))))
  case atStart =>
    refine ⟨0, by omega, rfl, [], .slice none 0 0, (by simp : _ = _), bindK.own_nil _ _ _, (Nat.le_refl _ : _ ≤ _), ((by repeat (first | exact Later.refl _ | assumption | refine Later.drewN ?_ _ | refine Later.drew ?_ | refine Later.alloc ?_ _ | refine Later.grow ?_ _)) : Later _ _), by simp, ?_, ?_, ?_⟩
    all_goals
      show _ = _
      simp only [heap_at, World.size_alloc]
      repeat (first | rw [if_pos trivial] | rw [if_pos (by omega)] | rw [if_neg (by omega)])
  case round =>
    obtain ⟨j, hj, rfl, mm, o, HE, HO, HML, HL, hsz, H1, H2, H3⟩ := hrel
    obtain ⟨ao, no', co, rfl⟩ : ∃ a n c, o = .slice a n c := by obtain ⟨a, c, e⟩ := Kind.own_slice HO.out; exact ⟨a, _, c, e⟩
    by_cases hlt : j < ts.length
    · obtain ⟨x, hx⟩ : ∃ x, ts[j]? = some x := ⟨_, List.getElem?_eq_getElem hlt⟩
      have hltx : j < xs.length := by rw [HLen.out]; exact hlt
      obtain ⟨y, hy⟩ : ∃ y, xs[j]? = some y := ⟨_, List.getElem?_eq_getElem hltx⟩
      obtain ⟨b1, o1, _, rfl, hb1, rfl, hc⟩ := Kind.sl_at HT.out hx
      have d0 : wr.cell? ⟨b1, o1 + j * 2, none⟩ = some (.bool x.1) := by rw [HL.out.cell hb1]; exact hc 0 _ rfl
      have d1 : wr.cell? ⟨b1, o1 + j * 2 + 1, none⟩ = some (.string (bs x.2)) := by rw [HL.out.cell hb1]; exact hc 1 _ rfl
      have hbr : b1 < wr.heap.size := by omega
      obtain ⟨b2, o2, rfl, hb2, hyc⟩ : ∃ b2 o2, fa = some ⟨b2, o2, none⟩ ∧ b2 < w.heap.size ∧ w.cell? ⟨b2, o2 + j, none⟩ = some (.string y) := by
        obtain ⟨_, a', cap', e, h1⟩ := HFS.out
        simp only [Value.slice.injEq] at e
        obtain ⟨rfl, _, _⟩ := e
        obtain ⟨b, off, rfl, hb, hcc⟩ := h1 (by intro e; rw [e] at hltx; simp at hltx)
        have := hcc j hltx
        rw [List.getD_eq_getElem?_getD, hy] at this
        exact ⟨b, off, rfl, hb, this⟩
      have HS := hide (meetGo_step (l := l ++ mm) hx hy)
      obtain ⟨wt, hwt⟩ : ∃ wt, wt = wr.alloc (.cells #[.bool x.1, .string (bs x.2)] 73) := ⟨_, rfl⟩
      have hLt : Later w wt := by rw [hwt]; exact HL.out.alloc _
      have hLr : Later wr wt := by rw [hwt]; exact (Later.refl _).alloc _
      have hst : wt.heap.size = wr.heap.size + 1 := by rw [hwt]; simp
      have hbl : ∀ k, k < wr.heap.size → wt.heap[k]? = wr.heap[k]? := fun k hk => by rw [hwt]; exact Below.heap_alloc _ _ _ hk
      have htm : wt.heap[wr.heap.size]? = some (.cells #[.bool x.1, .string (bs x.2)] 73 (0, 0)) := by rw [hwt]; exact heap_alloc_new _ _
      have K2 := row1 ((hbl _ (by omega)).trans H2.out)
      have K3 := row1 ((hbl _ (by omega)).trans H3.out)
      have hml := HML.out
      have HW : Hid (Calls Tryz.prog 31 #[.agg #[.bool x.1, .string (bs x.2)], .func (.func 33) #[] #[.pointer (some ⟨w.heap.size + 2, 0, none⟩), .pointer (some ⟨w.heap.size + 3, 0, none⟩)]] wt fun e w2 => e = .returned (toldV (worthB (l ++ mm) x)) ∧ Later wt w2) :=
        worthC _ _ enters_meet1 x (l ++ mm) wt wt (tellsMeet (w.heap.size + 2) (w.heap.size + 3) _ _ l mm wt K2.1 K2.2.2 K3.1 K3.2.2 (Kind.sl_later HU.out hLt) (Kind.sl_any (Kind.own_sl (own_kept' HO.out hLr) (by omega)))) (Later.refl _)
      rw [hwt] at HW
      have HWT := hide hwt
      have HTM := hide htm
      clear hc hx hy K2 K3 hwt htm
      obtain ⟨x1, x2⟩ := x
      dsimp only at *
      cases hw : worthB (l ++ mm) (x1, x2) with
      | some s =>
        rw [hw] at HW HS
        have hw0 : toldV (some s) = .tuple #[.string s, .bool true] := rfl
        rw [hw0] at HW
        clear hw hw0
        generalize bs x2 = kx at *
        by_cases hsy : s = y
        · have HE1 : Hid (meetGo l ts xs = meetGo (l ++ mm) (ts.drop (j + 1)) (xs.drop (j + 1))) := by
            show _ = _
            have h1 := HS.out
            dsimp only at h1
            rw [if_pos hsy] at h1
            rw [HE.out, h1]
          have hqs : (s.toList == y.toList) = true := by rw [hsy]; simp
          clear HS HE hsy
          go_wp2_with fail
          refine HW.out.mono ?_
          rintro e w2 ⟨rfl, hL2⟩
          rw [← HWT.out] at hL2
          have hb2' : ∀ k, k < wr.heap.size → w2.heap[k]? = wr.heap[k]? := fun k hk => (hL2.block (by omega)).trans (hbl k hk)
          have hs2 : wr.heap.size < w2.heap.size := by have := hL2.size; omega
          obtain ⟨q0, q1, p0, p1, q2⟩ := row2 ((hb2' _ (by omega)).trans H1.out)
          have d2 : w2.cell? ⟨b2, o2 + j, none⟩ = some (.string y) := by rw [(hLt.trans hL2).cell hb2]; exact hyc
          have hbb2 : b2 < w2.heap.size := by have := (hLt.trans hL2).size; omega
          have Z1 := hide ((hb2' _ (by omega)).trans H1.out)
          have Z2 := hide ((hb2' _ (by omega)).trans H2.out)
          have Z3 := hide ((hb2' _ (by omega)).trans H3.out)
          have HL2 := hide (hLt.trans hL2)
          have HO2 := hide (own_kept' HO.out (hLr.trans hL2))
          clear hL2 hb2' HW hbl
          go_wp2
          go_roundg (ts.length - (j + 1))
          case measure => omega
          case rel => exact ⟨j + 1, by omega, by go_num, mm, _, HE1, HO2, (by omega : mm.length ≤ j + 1), HL2, by omega, Z1, Z2, Z3⟩
        · have HE1 : Hid (meetGo l ts xs = none) := by
            show _ = _
            have h1 := HS.out
            dsimp only at h1
            rw [if_neg hsy] at h1
            rw [HE.out, h1]
          have hqs : (s.toList == y.toList) = false := by rw [eq_list]; simpa using hsy
          clear HS HE hsy
          go_wp2_with fail
          refine HW.out.mono ?_
          rintro e w2 ⟨rfl, hL2⟩
          rw [← HWT.out] at hL2
          have hb2' : ∀ k, k < wr.heap.size → w2.heap[k]? = wr.heap[k]? := fun k hk => (hL2.block (by omega)).trans (hbl k hk)
          have hs2 : wr.heap.size < w2.heap.size := by have := hL2.size; omega
          obtain ⟨q0, q1, p0, p1, q2⟩ := row2 ((hb2' _ (by omega)).trans H1.out)
          have d2 : w2.cell? ⟨b2, o2 + j, none⟩ = some (.string y) := by rw [(hLt.trans hL2).cell hb2]; exact hyc
          have hbb2 : b2 < w2.heap.size := by have := (hLt.trans hL2).size; omega
          have HL2 := hide (hLt.trans hL2)
          clear hL2 hb2' HW hbl
          go_wp2
          go_ret2
          exact ⟨_, by rw [HE1.out]; rfl, by rw [HE1.out]; exact rfl, HL2.out⟩
      | none =>
        rw [hw] at HW HS
        have hw0 : toldV none = .tuple #[.string ByteArray.empty, .bool false] := rfl
        rw [hw0] at HW
        have HE1 : Hid (meetGo l ts xs = meetGo (l ++ (mm ++ [(bs x2, y)])) (ts.drop (j + 1)) (xs.drop (j + 1))) := by
          show _ = _
          have h1 := HS.out
          dsimp only at h1
          rw [HE.out, h1, List.append_assoc]
        clear hw hw0 HS HE
        generalize bs x2 = kx at *
        go_wp2_with fail
        refine HW.out.mono ?_
        rintro e w2 ⟨rfl, hL2⟩
        rw [← HWT.out] at hL2
        have hb2' : ∀ k, k < wr.heap.size → w2.heap[k]? = wr.heap[k]? := fun k hk => (hL2.block (by omega)).trans (hbl k hk)
        have hs2 : wr.heap.size < w2.heap.size := by have := hL2.size; omega
        obtain ⟨q0, q1, p0, p1, q2⟩ := row2 ((hb2' _ (by omega)).trans H1.out)
        have d2 : w2.cell? ⟨b2, o2 + j, none⟩ = some (.string y) := by rw [(hLt.trans hL2).cell hb2]; exact hyc
        have hbb2 : b2 < w2.heap.size := by have := (hLt.trans hL2).size; omega
        obtain ⟨t0, t1, _, _, t2⟩ := row2 ((hL2.block (by omega)).trans HTM.out)
        obtain ⟨m0, m1, m2⟩ := row1 ((hb2' _ (by omega)).trans H3.out)
        obtain ⟨v', w4, hrun, hO4, hg4, hd4, hv4⟩ := appendBind (w := w2.drew) (own_kept' HO.out ((hLr.trans hL2).drew)) kx y (by omega) (by show w.heap.size + 4 ≤ w2.heap.size; omega)
        have hlo : ∀ k, (Value.slice ao no' co).ownBlock = some k → w.heap.size + 4 ≤ k := fun k e => (Kind.own_lt HO.out e).1
        have hb4 : ∀ k, k < w.heap.size + 4 → w4.heap[k]? = wr.heap[k]? := fun k hk => by
          rw [hg4.block k (by simp; omega) (fun e => by have := hlo k e.symm; omega), Below.heap_alloc _ _ _ (by show k < w2.heap.size; omega)]
          exact hb2' k (by omega)
        have hs4 : w2.heap.size < w4.heap.size := by have := hg4.size; simp at this; omega
        have HL4 := hide ((hLt.trans hL2).drew.more hg4 hd4 fun k e => by have := hlo k e; omega)
        have Z3 := hide ((hb4 _ (by omega)).trans H3.out)
        have Z1 := hide ((hb4 _ (by omega)).trans H1.out)
        have Z2 := hide ((hb4 _ (by omega)).trans H2.out)
        obtain ⟨n0, n1, n2⟩ := row1 Z3.out
        obtain ⟨a4, n4, c4, rfl⟩ : ∃ a n c, v' = .slice a n c := by obtain ⟨a, c, e⟩ := Kind.own_slice hO4; exact ⟨a, _, c, e⟩
        have HR4 := hide hrun
        have HO4 := hide hO4
        clear hL2 hb2' HW hrun hO4 hg4 hd4 hv4 hb4 hbl
        go_wp2
        go_region_law (refine step_append_run rfl (.tmp 45) (.tmp 54) 24 rfl _ _ _ _ (by simp [Act.eval]) (by simp [Act.eval]) HR4.out ?_)
        all_goals
          go_wp2
          go_roundg (ts.length - (j + 1))
          case measure => omega
          case rel =>
            refine ⟨j + 1, by omega, by go_num, mm ++ [(kx, y)], .slice a4 n4 c4, HE1, ?_, (by simp; omega : (mm ++ [(kx, y)]).length ≤ j + 1), ?_, ?_, ?_, ?_, ?_⟩
            · exact Kind.own_kept HO4.out (by simp [World.setCell]) fun k _ hk => Below.heap_setCell _ _ _ _ (by show k ≠ w.heap.size + 3; omega)
            · exact (Later.setCell HL4.out (p := ⟨w.heap.size + 1 + 1 + 1, 0, none⟩) (by show w.heap.size ≤ w.heap.size + 3; omega) _ : Later _ _)
            · simp [World.setCell]; omega
            · show _ = _
              rw [Below.heap_setCell _ _ _ _ (by show w.heap.size + 1 ≠ w.heap.size + 3; omega)]; exact Z1.out
            · show _ = _
              rw [Below.heap_setCell _ _ _ _ (by show w.heap.size + 2 ≠ w.heap.size + 3; omega)]; exact Z2.out
            · show _ = _
              rw [set_at Z3.out]; rfl
    · have e : j = ts.length := by omega
      subst e
      have HE1 : Hid (meetGo l ts xs = some (l ++ mm)) := by
        show _ = _
        rw [HE.out, List.drop_length]; rfl
      have hml := HML.out
      have hLc : Later wr (wr.alloc (.cells #[.slice sb l.length capb, .slice ao no' co] 24)) := (Later.refl _).alloc _
      have HCc := hide (concatB (wr.alloc (.cells #[.slice sb l.length capb, .slice ao no' co] 24)) wr.heap.size 2 (.slice sb l.length capb) (.slice ao no' co) l mm (Kind.sl_later HU.out (HL.out.trans hLc)) (Kind.sl_any (Kind.own_sl (own_kept' HO.out hLc) (by omega))) (by omega) (by simp) (by simp) (by simp))
      obtain ⟨q0, p0, q2⟩ := row1 H2.out
      obtain ⟨y0, t0, y2⟩ := row1 H3.out
      clear hLc
      go_wp2_with fail
      refine HCc.out.mono ?_
      rintro e w2 ⟨v, rfl, hO2, hL2⟩
      have HL2 := hide ((HL.out.alloc (.cells #[.slice sb l.length capb, .slice ao no' co] 24)).trans hL2)
      have HO2 := hide (own_base hO2 (lo' := w.heap.size) (by simp; omega))
      clear hO2 hL2 HCc
      go_wp2
      go_ret2
      exact ⟨v, by rw [HE1.out]; rfl, by rw [HE1.out]; exact HO2.out, HL2.out⟩

/-- match.Meet: l with what was put behind it, in memory of its own; or nothing. -/
theorem meetC (a : AtomD) (tv fv u : Value) (f : FactD) (l : List BindD) (w : World) (ht : termK.sl Anyw w tv a.terms) (hf : FactV w fv f) (hu : bindK.sl Anyw w u l) (hn : l.length + a.terms.length ≤ 4398046511104) :
    Calls Tryz.prog 12 #[.agg #[.bool a.no, .string (bs a.name), tv], fv, u] w fun e w' => ∃ v, e = .returned (.tuple #[v, .bool (meetB a f l).isSome]) ∧ MetV w w' v (meetB a f l) ∧ Later w w' := by
  obtain ⟨sa, cap, rfl⟩ := Kind.slice ht
  obtain ⟨s, rfl, hs⟩ := hf
  obtain ⟨fa, capf, rfl⟩ := sliceStr hs
  unfold meetB
  split
  · rename_i h
    obtain ⟨h1, h2⟩ := h
    rw [← h1, ← h2]
    rw [← h2] at hs
    exact meet_yes a sa cap f.2 fa capf u l w ht hs hu h2.symm hn
  · rename_i h
    obtain ⟨sb, capb, rfl⟩ := Kind.slice hu
    refine (meet_no a sa cap f.1 fa f.2.length capf sb l.length capb w ?_).mono fun e w' ⟨he, hL⟩ => ⟨_, he, rfl, hL⟩
    rw [Bool.and_eq_false_iff]
    by_cases h1 : bs a.name = f.1
    · right
      simp only [decide_eq_false_iff_not]
      intro h2
      exact h ⟨h1, by omega⟩
    · left; simpa using h1

end Go.Proofs.YthogickpeldhlaaGreat
