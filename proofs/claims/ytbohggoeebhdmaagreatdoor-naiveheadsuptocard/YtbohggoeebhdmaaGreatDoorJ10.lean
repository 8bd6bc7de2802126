import Derived.Test.YtbohggoeebhdmaaGreatDoorJ9
import Derived.Shelf.SlSortCmp.WholeK
import Derived.Test.YtbohggoeebhdmaaGreatDoorProg
import Derived.Shelf.SlSortCmp.Whole1
import Derived.Shelf.SlSortCmp.NoneTotal
/- The walk of match.Meet. -/
namespace Go.Proofs.YtbohggoeebhdmaaGreatDoor
open Go.RowKit Go.Sort

theorem meetGo_step {l : List BindD} {ts : List TermD} {xs : List ByteArray} {j : Nat} {t : TermD} {x : ByteArray} (ht : ts[j]? = some t) (hx : xs[j]? = some x) :
    meetGo l (ts.drop j) (xs.drop j) = match worthB l t with | none => meetGo (l ++ [(bs t.2, x)]) (ts.drop (j + 1)) (xs.drop (j + 1)) | some s => if s = x then meetGo l (ts.drop (j + 1)) (xs.drop (j + 1)) else none := by
  obtain ⟨h1, e1⟩ := List.getElem?_eq_some_iff.1 ht
  obtain ⟨h2, e2⟩ := List.getElem?_eq_some_iff.1 hx
  rw [List.drop_eq_getElem_cons h1, List.drop_eq_getElem_cons h2, e1, e2]; rfl

/-- What Meet tells. -/
def MetV (w0 w : World) (v : Value) (r : Option (List BindD)) : Prop := match r with
  | none => v = .slice none 0 0
  | some m => bindK.own 147 w0.heap.size w v m

set_option maxRecDepth 100000 in
set_option maxHeartbeats 1000000 in
theorem meet_no (a : AtomD) (sa : Option Addr) (cap : Nat) (fn : ByteArray) (fa : Option Addr) (nf capf : Nat) (sb : Option Addr) (nb capb : Nat) (w : World) (h : (decide (bs a.name = fn) && decide ((a.terms.length : Int) = nf)) = false) :
    Calls Tryz.prog 166 #[.agg #[.bool a.no, .string (bs a.name), .slice sa a.terms.length cap], .agg #[.string fn, .slice fa nf capf], .slice sb nb capb] w fun e w' => e = .returned (.tuple #[.slice none 0 0, .bool false]) ∧ Later w w' := by
  obtain ⟨no, name, ts⟩ := a
  dsimp only at *
  generalize bs name = nm at *
  have E := eq_list (a := nm) (b := fn)
  cases hq : (nm.toList == fn.toList) with
  | false =>
    clear h E
    go_enter Tryz.func166, Tryz.ntmps166
    go_wp2
    go_ret2
    exact ⟨rfl, (by repeat (first | exact Later.refl _ | assumption | refine Later.drewN ?_ _ | refine Later.drew ?_ | refine Later.alloc ?_ _ | refine Later.grow ?_ _))⟩
  | true =>
    rw [← E, hq] at h
    have hne : ¬ ((ts.length : Int) = (nf : Int)) := by simpa using h
    have hne2 : ((ts.length : Int) != (nf : Int)) = true := by simpa using hne
    clear h E hne
    go_enter Tryz.func166, Tryz.ntmps166
    go_wp2
    go_ret2
    exact ⟨rfl, (by repeat (first | exact Later.refl _ | assumption | refine Later.drewN ?_ _ | refine Later.drew ?_ | refine Later.alloc ?_ _ | refine Later.grow ?_ _))⟩

set_option maxRecDepth 100000 in
set_option maxHeartbeats 4000000 in
theorem meet_yes (a : AtomD) (sa : Option Addr) (cap : Nat) (xs : List ByteArray) (fa : Option Addr) (capf : Nat) (u : Value) (l : List BindD) (w : World) (ht : termK.sl Anyw w (.slice sa a.terms.length cap) a.terms) (hf : Strs w (.slice fa a.terms.length capf) xs) (hu : bindK.sl Anyw w u l)
    (hlen : xs.length = a.terms.length) (hn : l.length + a.terms.length ≤ 4398046511104) :
    Calls Tryz.prog 166 #[.agg #[.bool a.no, .string (bs a.name), .slice sa a.terms.length cap], .agg #[.string (bs a.name), .slice fa a.terms.length capf], u] w fun e w' => ∃ v, e = .returned (.tuple #[v, .bool (meetGo l a.terms xs).isSome]) ∧ MetV w w' v (meetGo l a.terms xs) ∧ Later w w' := by
  obtain ⟨sb, capb, rfl⟩ := Kind.slice hu
  have HT := hide ht
  have HU := hide hu
  have HFS := hide hf
  have HLen := hide hlen
  clear ht hu hf hlen
  obtain ⟨no, name, ts⟩ := a
  dsimp only at *
  generalize bs name = nm at *
  have hq : (nm.toList == nm.toList) = true := by simp
  have hq2 : ((ts.length : Int) != (ts.length : Int)) = false := by simp
  go_enter Tryz.func166, Tryz.ntmps166
  go_wp2
  go_loopg [32] ts.length (fun g i wr => ∃ j : Nat, j + g = ts.length ∧ i = .int .i64 j ∧ ∃ mm o, Hid (meetGo l ts xs = meetGo (l ++ mm) (ts.drop j) (xs.drop j)) ∧ Hid (bindK.own 147 (w.heap.size + 4) wr o mm) ∧ Hid (mm.length ≤ j) ∧ Hid (Later w wr) ∧ w.heap.size + 4 ≤ wr.heap.size ∧
    Hid (wr.heap[w.heap.size + 1]? = some (.cells #[.string nm, .slice fa ts.length capf] 54 (0, 0))) ∧ Hid (wr.heap[w.heap.size + 2]? = some (.cells #[.slice sb l.length capb] 58 (0, 0))) ∧ Hid (wr.heap[w.heap.size + 3]? = some (.cells #[o] 58 (0, 0))))
  case atStart =>
    refine ⟨0, by omega, rfl, [], .slice none 0 0, (by simp : _ = _), bindK.own_nil _ _ _, (Nat.le_refl _ : _ ≤ _), ((by repeat (first | exact Later.refl _ | assumption | refine Later.drewN ?_ _ | refine Later.drew ?_ | refine Later.alloc ?_ _ | refine Later.grow ?_ _)) : Later _ _), by simp, ?_, ?_, ?_⟩
    all_goals
      show _ = _
      simp only [heap_at, World.size_alloc]
      repeat (first | rw [if_pos trivial] | rw [if_pos (by omega)] | rw [if_neg (by omega)])
  case round =>
    obtain ⟨j, hj, rfl, mm, o, HE, HO, HML, HL, hsz, H1, H2, H3⟩ := hrel
    obtain ⟨ao, no', co, rfl⟩ : ∃ a n c, o = .slice a n c := by obtain ⟨a, c, e⟩ := Kind.own_slice HO.out; exact ⟨a, _, c, e⟩
    by_cases hlt : j < ts.length
    · obtain ⟨x, hx⟩ : ∃ x, ts[j]? = some x := ⟨_, List.getElem?_eq_getElem hlt⟩
      have hltx : j < xs.length := by rw [HLen.out]; exact hlt
      obtain ⟨y, hy⟩ : ∃ y, xs[j]? = some y := ⟨_, List.getElem?_eq_getElem hltx⟩
      obtain ⟨b1, o1, _, rfl, hb1, rfl, hc⟩ := Kind.sl_at HT.out hx
      have d0 : wr.cell? ⟨b1, o1 + j * 2, none⟩ = some (.bool x.1) := by rw [HL.out.cell hb1]; exact hc 0 _ rfl
      have d1 : wr.cell? ⟨b1, o1 + j * 2 + 1, none⟩ = some (.string (bs x.2)) := by rw [HL.out.cell hb1]; exact hc 1 _ rfl
      have hbr : b1 < wr.heap.size := by omega
      obtain ⟨b2, o2, rfl, hb2, hyc⟩ : ∃ b2 o2, fa = some ⟨b2, o2, none⟩ ∧ b2 < w.heap.size ∧ w.cell? ⟨b2, o2 + j, none⟩ = some (.string y) := by
        obtain ⟨_, a', cap', e, h1⟩ := HFS.out
        simp only [Value.slice.injEq] at e
        obtain ⟨rfl, _, _⟩ := e
        obtain ⟨b, off, rfl, hb, hcc⟩ := h1 (by intro e; rw [e] at hltx; simp at hltx)
        have := hcc j hltx
        rw [List.getD_eq_getElem?_getD, hy] at this
        exact ⟨b, off, rfl, hb, this⟩
      have HS := hide (meetGo_step (l := l ++ mm) hx hy)
      obtain ⟨wt, hwt⟩ : ∃ wt, wt = wr.alloc (.cells #[.bool x.1, .string (bs x.2)] 101) := ⟨_, rfl⟩
      have hLt : Later w wt := by rw [hwt]; exact HL.out.alloc _
      have hLr : Later wr wt := by rw [hwt]; exact (Later.refl _).alloc _
      have hst : wt.heap.size = wr.heap.size + 1 := by rw [hwt]; simp
      have hbl : ∀ k, k < wr.heap.size → wt.heap[k]? = wr.heap[k]? := fun k hk => by rw [hwt]; exact Below.heap_alloc _ _ _ hk
      have htm : wt.heap[wr.heap.size]? = some (.cells #[.bool x.1, .string (bs x.2)] 101 (0, 0)) := by rw [hwt]; exact heap_alloc_new _ _
      have K2 := row1 ((hbl _ (by omega)).trans H2.out)
      have K3 := row1 ((hbl _ (by omega)).trans H3.out)
      have hml := HML.out
      have HW : Hid (Calls Tryz.prog 63 #[.agg #[.bool x.1, .string (bs x.2)], .func (.func 184) #[] #[.pointer (some ⟨w.heap.size + 2, 0, none⟩), .pointer (some ⟨w.heap.size + 3, 0, none⟩)]] wt fun e w2 => e = .returned (toldV (worthB (l ++ mm) x)) ∧ Later wt w2) :=
        worthC _ _ enters_meet1 x (l ++ mm) wt wt (tellsMeet (w.heap.size + 2) (w.heap.size + 3) _ _ l mm wt K2.1 K2.2.2 K3.1 K3.2.2 (Kind.sl_later HU.out hLt) (Kind.sl_any (Kind.own_sl (own_kept' HO.out hLr) (by omega)))) (Later.refl _)
      rw [hwt] at HW
      have HWT := hide hwt
      have HTM := hide htm
      clear hc hx hy K2 K3 hwt htm
      obtain ⟨x1, x2⟩ := x
      dsimp only at *
      cases hw : worthB (l ++ mm) (x1, x2) with
      | some s =>
        rw [hw] at HW HS
        have hw0 : toldV (some s) = .tuple #[.string s, .bool true] := rfl
        rw [hw0] at HW
        clear hw hw0
        generalize bs x2 = kx at *
        by_cases hsy : s = y
        · have HE1 : Hid (meetGo l ts xs = meetGo (l ++ mm) (ts.drop (j + 1)) (xs.drop (j + 1))) := by
            show _ = _
            have h1 := HS.out
            dsimp only at h1
            rw [if_pos hsy] at h1
            rw [HE.out, h1]
          have hqs : (s.toList == y.toList) = true := by rw [hsy]; simp
          clear HS HE hsy
          go_wp2_with fail
          refine HW.out.mono ?_
          rintro e w2 ⟨rfl, hL2⟩
          rw [← HWT.out] at hL2
          have hb2' : ∀ k, k < wr.heap.size → w2.heap[k]? = wr.heap[k]? := fun k hk => (hL2.block (by omega)).trans (hbl k hk)
          have hs2 : wr.heap.size < w2.heap.size := by have := hL2.size; omega
          obtain ⟨q0, q1, p0, p1, q2⟩ := row2 ((hb2' _ (by omega)).trans H1.out)
          have d2 : w2.cell? ⟨b2, o2 + j, none⟩ = some (.string y) := by rw [(hLt.trans hL2).cell hb2]; exact hyc
          have hbb2 : b2 < w2.heap.size := by have := (hLt.trans hL2).size; omega
          have Z1 := hide ((hb2' _ (by omega)).trans H1.out)
          have Z2 := hide ((hb2' _ (by omega)).trans H2.out)
          have Z3 := hide ((hb2' _ (by omega)).trans H3.out)
          have HL2 := hide (hLt.trans hL2)
          have HO2 := hide (own_kept' HO.out (hLr.trans hL2))
          clear hL2 hb2' HW hbl
          go_wp2
          go_roundg (ts.length - (j + 1))
          case measure => omega
          case rel => exact ⟨j + 1, by omega, by go_num, mm, _, HE1, HO2, (by omega : mm.length ≤ j + 1), HL2, by omega, Z1, Z2, Z3⟩
        · have HE1 : Hid (meetGo l ts xs = none) := by
            show _ = _
            have h1 := HS.out
            dsimp only at h1
            rw [if_neg hsy] at h1
            rw [HE.out, h1]
          have hqs : (s.toList == y.toList) = false := by rw [eq_list]; simpa using hsy
          clear HS HE hsy
          go_wp2_with fail
          refine HW.out.mono ?_
          rintro e w2 ⟨rfl, hL2⟩
          rw [← HWT.out] at hL2
          have hb2' : ∀ k, k < wr.heap.size → w2.heap[k]? = wr.heap[k]? := fun k hk => (hL2.block (by omega)).trans (hbl k hk)
          have hs2 : wr.heap.size < w2.heap.size := by have := hL2.size; omega
          obtain ⟨q0, q1, p0, p1, q2⟩ := row2 ((hb2' _ (by omega)).trans H1.out)
          have d2 : w2.cell? ⟨b2, o2 + j, none⟩ = some (.string y) := by rw [(hLt.trans hL2).cell hb2]; exact hyc
          have hbb2 : b2 < w2.heap.size := by have := (hLt.trans hL2).size; omega
          have HL2 := hide (hLt.trans hL2)
          clear hL2 hb2' HW hbl
          go_wp2
          go_ret2
          exact ⟨_, by rw [HE1.out]; rfl, by rw [HE1.out]; exact rfl, HL2.out⟩
      | none =>
        rw [hw] at HW HS
        have hw0 : toldV none = .tuple #[.string ByteArray.empty, .bool false] := rfl
        rw [hw0] at HW
        have HE1 : Hid (meetGo l ts xs = meetGo (l ++ (mm ++ [(bs x2, y)])) (ts.drop (j + 1)) (xs.drop (j + 1))) := by
          show _ = _
          have h1 := HS.out
          dsimp only at h1
          rw [HE.out, h1, List.append_assoc]
        clear hw hw0 HS HE
        generalize bs x2 = kx at *
        go_wp2_with fail
        refine HW.out.mono ?_
        rintro e w2 ⟨rfl, hL2⟩
        rw [← HWT.out] at hL2
        have hb2' : ∀ k, k < wr.heap.size → w2.heap[k]? = wr.heap[k]? := fun k hk => (hL2.block (by omega)).trans (hbl k hk)
        have hs2 : wr.heap.size < w2.heap.size := by have := hL2.size; omega
        obtain ⟨q0, q1, p0, p1, q2⟩ := row2 ((hb2' _ (by omega)).trans H1.out)
        have d2 : w2.cell? ⟨b2, o2 + j, none⟩ = some (.string y) := by rw [(hLt.trans hL2).cell hb2]; exact hyc
        have hbb2 : b2 < w2.heap.size := by have := (hLt.trans hL2).size; omega
        obtain ⟨t0, t1, _, _, t2⟩ := row2 ((hL2.block (by omega)).trans HTM.out)
        obtain ⟨m0, m1, m2⟩ := row1 ((hb2' _ (by omega)).trans H3.out)
        obtain ⟨v', w4, hrun, hO4, hg4, hd4, hv4⟩ := appendBind (w := w2.drew) (own_kept' HO.out ((hLr.trans hL2).drew)) kx y (by omega) (by show w.heap.size + 4 ≤ w2.heap.size; omega)
        have hlo : ∀ k, (Value.slice ao no' co).ownBlock = some k → w.heap.size + 4 ≤ k := fun k e => (Kind.own_lt HO.out e).1
        have hb4 : ∀ k, k < w.heap.size + 4 → w4.heap[k]? = wr.heap[k]? := fun k hk => by
          rw [hg4.block k (by simp; omega) (fun e => by have := hlo k e.symm; omega), Below.heap_alloc _ _ _ (by show k < w2.heap.size; omega)]
          exact hb2' k (by omega)
        have hs4 : w2.heap.size < w4.heap.size := by have := hg4.size; simp at this; omega
        have HL4 := hide ((hLt.trans hL2).drew.more hg4 hd4 fun k e => by have := hlo k e; omega)
        have Z3 := hide ((hb4 _ (by omega)).trans H3.out)
        have Z1 := hide ((hb4 _ (by omega)).trans H1.out)
        have Z2 := hide ((hb4 _ (by omega)).trans H2.out)
        obtain ⟨n0, n1, n2⟩ := row1 Z3.out
        obtain ⟨a4, n4, c4, rfl⟩ : ∃ a n c, v' = .slice a n c := by obtain ⟨a, c, e⟩ := Kind.own_slice hO4; exact ⟨a, _, c, e⟩
        have HR4 := hide hrun
        have HO4 := hide hO4
        clear hL2 hb2' HW hrun hO4 hg4 hd4 hv4 hb4 hbl
        go_wp2
        go_region_law (refine step_append_run rfl (.tmp 45) (.tmp 54) 58 rfl _ _ _ _ (by simp [Act.eval]) (by simp [Act.eval]) HR4.out ?_)
        all_goals
          go_wp2
          go_roundg (ts.length - (j + 1))
          case measure => omega
          case rel =>
            refine ⟨j + 1, by omega, by go_num, mm ++ [(kx, y)], .slice a4 n4 c4, HE1, ?_, (by simp; omega : (mm ++ [(kx, y)]).length ≤ j + 1), ?_, ?_, ?_, ?_, ?_⟩
            · exact Kind.own_kept HO4.out (by simp [World.setCell]) fun k _ hk => Below.heap_setCell _ _ _ _ (by show k ≠ w.heap.size + 3; omega)
            · exact (Later.setCell HL4.out (p := ⟨w.heap.size + 1 + 1 + 1, 0, none⟩) (by show w.heap.size ≤ w.heap.size + 3; omega) _ : Later _ _)
            · simp [World.setCell]; omega
            · show _ = _
              rw [Below.heap_setCell _ _ _ _ (by show w.heap.size + 1 ≠ w.heap.size + 3; omega)]; exact Z1.out
            · show _ = _
              rw [Below.heap_setCell _ _ _ _ (by show w.heap.size + 2 ≠ w.heap.size + 3; omega)]; exact Z2.out
            · show _ = _
              rw [set_at Z3.out]; rfl
    · have e : j = ts.length := by omega
      subst e
      have HE1 : Hid (meetGo l ts xs = some (l ++ mm)) := by
        show _ = _
        rw [HE.out, List.drop_length]; rfl
      have hml := HML.out
      have hLc : Later wr (wr.alloc (.cells #[.slice sb l.length capb, .slice ao no' co] 58)) := (Later.refl _).alloc _
      have HCc := hide (concatB (wr.alloc (.cells #[.slice sb l.length capb, .slice ao no' co] 58)) wr.heap.size 2 (.slice sb l.length capb) (.slice ao no' co) l mm (Kind.sl_later HU.out (HL.out.trans hLc)) (Kind.sl_any (Kind.own_sl (own_kept' HO.out hLc) (by omega))) (by omega) (by simp) (by simp) (by simp))
      obtain ⟨q0, p0, q2⟩ := row1 H2.out
      obtain ⟨y0, t0, y2⟩ := row1 H3.out
      clear hLc
      go_wp2_with fail
      refine HCc.out.mono ?_
      rintro e w2 ⟨v, rfl, hO2, hL2⟩
      have HL2 := hide ((HL.out.alloc (.cells #[.slice sb l.length capb, .slice ao no' co] 58)).trans hL2)
      have HO2 := hide (own_base hO2 (lo' := w.heap.size) (by simp; omega))
      clear hO2 hL2 HCc
      go_wp2
      go_ret2
      exact ⟨v, by rw [HE1.out]; rfl, by rw [HE1.out]; exact HO2.out, HL2.out⟩

/-- match.Meet: l with what was put behind it, in memory of its own; or nothing. -/
theorem meetC (a : AtomD) (tv fv u : Value) (f : FactD) (l : List BindD) (w : World) (ht : termK.sl Anyw w tv a.terms) (hf : FactV w fv f) (hu : bindK.sl Anyw w u l) (hn : l.length + a.terms.length ≤ 4398046511104) :
    Calls Tryz.prog 166 #[.agg #[.bool a.no, .string (bs a.name), tv], fv, u] w fun e w' => ∃ v, e = .returned (.tuple #[v, .bool (meetB a f l).isSome]) ∧ MetV w w' v (meetB a f l) ∧ Later w w' := by
  obtain ⟨sa, cap, rfl⟩ := Kind.slice ht
  obtain ⟨s, rfl, hs⟩ := hf
  obtain ⟨fa, capf, rfl⟩ := sliceStr hs
  unfold meetB
  split
  · rename_i h
    obtain ⟨h1, h2⟩ := h
    rw [← h1, ← h2]
    rw [← h2] at hs
    exact meet_yes a sa cap f.2 fa capf u l w ht hs hu h2.symm hn
  · rename_i h
    obtain ⟨sb, capb, rfl⟩ := Kind.slice hu
    refine (meet_no a sa cap f.1 fa f.2.length capf sb l.length capb w ?_).mono fun e w' ⟨he, hL⟩ => ⟨_, he, rfl, hL⟩
    rw [Bool.and_eq_false_iff]
    by_cases h1 : bs a.name = f.1
    · right
      simp only [decide_eq_false_iff_not]
      intro h2
      exact h ⟨h1, by omega⟩
    · left; simpa using h1

end Go.Proofs.YtbohggoeebhdmaaGreatDoor

/-
  DERIVED: THE SHELF's CONTRACTS AT THIS DUMP, IN PLAIN WORDS (tools/lay-plain.mjs out of 'TryzSortBLay.lean', which tools/lay-shelf.mjs wrote): THE SAME DECLARATIONS UNDER THE SAME NAMES: 'import', 'namespace', 'open', 'def', 'theorem' AND NOTHING ELSE: no command of the shelf's: FOR A HAND-IN. Each laying: the table of numbers ('.._ren') and one theorem, a field a fact of the dump's own or the kernel's comparison; each contract: ONE APPLICATION.
-/
namespace Go.Proofs
open Go.Shelf
def Tryz.sortBinds_ren : Go.Shelf.Ren := ⟨fun | 6 => 140 | 15 => 131 | 14 => 167 | 28 => 162 | 29 => 163 | 20 => 186 | 21 => 187 | 22 => 188 | 23 => 189 | 24 => 190 | 25 => 191 | 26 => 192 | 27 => 193 | 46 => 213 | 47 => 180 | 48 => 181 | 49 => 214 | 50 => 215 | 57 => 225 | n => n, fun | 22 => 58 | 24 => 147 | 25 => 185 | 3 => 3 | 39 => 174 | 0 => 0 | 53 => 202 | 55 => 204 | 4 => 4 | 46 => 196 | 45 => 195 | 50 => 69 | 5 => 5 | 9 => 9 | 66 => 221 | 70 => 225 | 76 => 244 | 77 => 245 | n => n, fun | n => n⟩
theorem Tryz.sortBinds : Go.Proofs.SlLaysF0.n6 Tryz.prog Tryz.sortBinds_ren := {
  mixed := by kernel_rfl
  f6 := ⟨Tryz.f140.name, by decide, Tryz.func140.trans (congrArg some (by kernel_rfl))⟩
  f14 := ⟨Tryz.f167.name, by decide, Tryz.func167.trans (congrArg some (by kernel_rfl))⟩
  f15 := Tryz.func131.trans (congrArg some (by kernel_rfl))
  f20 := ⟨Tryz.f186.name, by decide, Tryz.func186.trans (congrArg some (by kernel_rfl))⟩
  f21 := ⟨Tryz.f187.name, by decide, Tryz.func187.trans (congrArg some (by kernel_rfl))⟩
  f22 := ⟨Tryz.f188.name, by decide, Tryz.func188.trans (congrArg some (by kernel_rfl))⟩
  f23 := ⟨Tryz.f189.name, by decide, Tryz.func189.trans (congrArg some (by kernel_rfl))⟩
  f24 := ⟨Tryz.f190.name, by decide, Tryz.func190.trans (congrArg some (by kernel_rfl))⟩
  f25 := ⟨Tryz.f191.name, by decide, Tryz.func191.trans (congrArg some (by kernel_rfl))⟩
  f26 := ⟨Tryz.f192.name, by decide, Tryz.func192.trans (congrArg some (by kernel_rfl))⟩
  f27 := ⟨Tryz.f193.name, by decide, Tryz.func193.trans (congrArg some (by kernel_rfl))⟩
  f28 := Tryz.func162.trans (congrArg some (by kernel_rfl))
  f29 := Tryz.func163.trans (congrArg some (by kernel_rfl))
  f46 := ⟨Tryz.f213.name, by decide, Tryz.func213.trans (congrArg some (by kernel_rfl))⟩
  f47 := Tryz.func180.trans (congrArg some (by kernel_rfl))
  f48 := Tryz.func181.trans (congrArg some (by kernel_rfl))
  f49 := ⟨Tryz.f214.name, by decide, Tryz.func214.trans (congrArg some (by kernel_rfl))⟩
  f50 := ⟨Tryz.f215.name, by decide, Tryz.func215.trans (congrArg some (by kernel_rfl))⟩
  f57 := ⟨Tryz.f225.name, by decide, Tryz.func225.trans (congrArg some (by kernel_rfl))⟩
  t0 := Tryz.underlying0
  a0 := Tryz.isAgg0
  z0 := Tryz.sizeOf0
  v0 := Tryz.zeroValue0
  t3 := Tryz.underlying3
  a3 := Tryz.isAgg3
  z3 := Tryz.sizeOf3
  v3 := Tryz.zeroValue3
  t4 := Tryz.underlying4
  a4 := Tryz.isAgg4
  z4 := Tryz.sizeOf4
  v4 := Tryz.zeroValue4
  t5 := Tryz.underlying5
  a5 := Tryz.isAgg5
  z5 := Tryz.sizeOf5
  v5 := Tryz.zeroValue5
  t9 := Tryz.underlying9
  a9 := Tryz.isAgg9
  z9 := Tryz.sizeOf9
  v9 := Tryz.zeroValue9
  t22 := Tryz.underlying58
  a22 := Tryz.isAgg58
  z22 := Tryz.sizeOf58
  v22 := Tryz.zeroValue58
  t25 := Tryz.underlying185
  a25 := Tryz.isAgg185
  z25 := Tryz.sizeOf185
  v25 := Tryz.zeroValue185
  t39 := Tryz.underlying174
  a39 := Tryz.isAgg174
  z39 := Tryz.sizeOf174
  v39 := Tryz.zeroValue174
  t45 := Tryz.underlying195
  a45 := Tryz.isAgg195
  z45 := Tryz.sizeOf195
  v45 := Tryz.zeroValue195
  t46 := Tryz.underlying196
  a46 := Tryz.isAgg196
  z46 := Tryz.sizeOf196
  v46 := Tryz.zeroValue196
  t50 := Tryz.underlying69
  a50 := Tryz.isAgg69
  z50 := Tryz.sizeOf69
  v50 := Tryz.zeroValue69
  t53 := Tryz.underlying202
  a53 := Tryz.isAgg202
  z53 := Tryz.sizeOf202
  v53 := Tryz.zeroValue202
  t55 := Tryz.underlying204
  a55 := Tryz.isAgg204
  z55 := Tryz.sizeOf204
  v55 := Tryz.zeroValue204
  t66 := Tryz.underlying221
  a66 := Tryz.isAgg221
  z66 := Tryz.sizeOf221
  v66 := Tryz.zeroValue221
  t70 := Tryz.underlying225
  a70 := Tryz.isAgg225
  z70 := Tryz.sizeOf225
  v70 := Tryz.zeroValue225
  t76 := Tryz.underlying244
  a76 := Tryz.isAgg244
  z76 := Tryz.sizeOf244
  v76 := Tryz.zeroValue244
  t77 := Tryz.underlying245
  a77 := Tryz.isAgg245
  z77 := Tryz.sizeOf245
  v77 := Tryz.zeroValue245 }
end Go.Proofs

/-
  DERIVED: THE SHELF's CONTRACTS AT THIS DUMP, IN PLAIN WORDS (tools/lay-plain.mjs out of 'TryzSortLLay.lean', which tools/lay-shelf.mjs wrote): THE SAME DECLARATIONS UNDER THE SAME NAMES: 'import', 'namespace', 'open', 'def', 'theorem' AND NOTHING ELSE: no command of the shelf's: FOR A HAND-IN. Each laying: the table of numbers ('.._ren') and one theorem, a field a fact of the dump's own or the kernel's comparison; each contract: ONE APPLICATION.
-/
namespace Go.Proofs
open Go.Shelf
def Tryz.sortLists_ren : Go.Shelf.Ren := ⟨fun | 6 => 142 | 15 => 131 | 14 => 169 | 28 => 162 | 29 => 163 | 20 => 194 | 21 => 195 | 22 => 196 | 23 => 197 | 24 => 198 | 25 => 199 | 26 => 200 | 27 => 201 | 46 => 216 | 47 => 180 | 48 => 181 | 49 => 217 | 50 => 218 | 57 => 226 | n => n, fun | 22 => 55 | 24 => 58 | 25 => 188 | 3 => 3 | 39 => 174 | 0 => 0 | 53 => 202 | 55 => 204 | 4 => 4 | 46 => 196 | 45 => 195 | 50 => 69 | 5 => 5 | 9 => 9 | 66 => 221 | 70 => 225 | 76 => 244 | 77 => 245 | n => n, fun | n => n⟩
theorem Tryz.sortLists : Go.Proofs.SlLaysF.n6 Tryz.prog Tryz.sortLists_ren := {
  mixed := by kernel_rfl
  f6 := ⟨Tryz.f142.name, by decide, Tryz.func142.trans (congrArg some (by kernel_rfl))⟩
  f14 := ⟨Tryz.f169.name, by decide, Tryz.func169.trans (congrArg some (by kernel_rfl))⟩
  f15 := Tryz.func131.trans (congrArg some (by kernel_rfl))
  f20 := ⟨Tryz.f194.name, by decide, Tryz.func194.trans (congrArg some (by kernel_rfl))⟩
  f21 := ⟨Tryz.f195.name, by decide, Tryz.func195.trans (congrArg some (by kernel_rfl))⟩
  f22 := ⟨Tryz.f196.name, by decide, Tryz.func196.trans (congrArg some (by kernel_rfl))⟩
  f23 := ⟨Tryz.f197.name, by decide, Tryz.func197.trans (congrArg some (by kernel_rfl))⟩
  f24 := ⟨Tryz.f198.name, by decide, Tryz.func198.trans (congrArg some (by kernel_rfl))⟩
  f25 := ⟨Tryz.f199.name, by decide, Tryz.func199.trans (congrArg some (by kernel_rfl))⟩
  f26 := ⟨Tryz.f200.name, by decide, Tryz.func200.trans (congrArg some (by kernel_rfl))⟩
  f27 := ⟨Tryz.f201.name, by decide, Tryz.func201.trans (congrArg some (by kernel_rfl))⟩
  f28 := Tryz.func162.trans (congrArg some (by kernel_rfl))
  f29 := Tryz.func163.trans (congrArg some (by kernel_rfl))
  f46 := ⟨Tryz.f216.name, by decide, Tryz.func216.trans (congrArg some (by kernel_rfl))⟩
  f47 := Tryz.func180.trans (congrArg some (by kernel_rfl))
  f48 := Tryz.func181.trans (congrArg some (by kernel_rfl))
  f49 := ⟨Tryz.f217.name, by decide, Tryz.func217.trans (congrArg some (by kernel_rfl))⟩
  f50 := ⟨Tryz.f218.name, by decide, Tryz.func218.trans (congrArg some (by kernel_rfl))⟩
  f57 := ⟨Tryz.f226.name, by decide, Tryz.func226.trans (congrArg some (by kernel_rfl))⟩
  t0 := Tryz.underlying0
  a0 := Tryz.isAgg0
  z0 := Tryz.sizeOf0
  v0 := Tryz.zeroValue0
  t3 := Tryz.underlying3
  a3 := Tryz.isAgg3
  z3 := Tryz.sizeOf3
  v3 := Tryz.zeroValue3
  t4 := Tryz.underlying4
  a4 := Tryz.isAgg4
  z4 := Tryz.sizeOf4
  v4 := Tryz.zeroValue4
  t5 := Tryz.underlying5
  a5 := Tryz.isAgg5
  z5 := Tryz.sizeOf5
  v5 := Tryz.zeroValue5
  t9 := Tryz.underlying9
  a9 := Tryz.isAgg9
  z9 := Tryz.sizeOf9
  v9 := Tryz.zeroValue9
  t22 := Tryz.underlying55
  a22 := Tryz.isAgg55
  z22 := Tryz.sizeOf55
  v22 := Tryz.zeroValue55
  a24 := Tryz.isAgg58
  z24 := Tryz.sizeOf58
  t25 := Tryz.underlying188
  a25 := Tryz.isAgg188
  z25 := Tryz.sizeOf188
  v25 := Tryz.zeroValue188
  t39 := Tryz.underlying174
  a39 := Tryz.isAgg174
  z39 := Tryz.sizeOf174
  v39 := Tryz.zeroValue174
  t45 := Tryz.underlying195
  a45 := Tryz.isAgg195
  z45 := Tryz.sizeOf195
  v45 := Tryz.zeroValue195
  t46 := Tryz.underlying196
  a46 := Tryz.isAgg196
  z46 := Tryz.sizeOf196
  v46 := Tryz.zeroValue196
  t50 := Tryz.underlying69
  a50 := Tryz.isAgg69
  z50 := Tryz.sizeOf69
  v50 := Tryz.zeroValue69
  t53 := Tryz.underlying202
  a53 := Tryz.isAgg202
  z53 := Tryz.sizeOf202
  v53 := Tryz.zeroValue202
  t55 := Tryz.underlying204
  a55 := Tryz.isAgg204
  z55 := Tryz.sizeOf204
  v55 := Tryz.zeroValue204
  t66 := Tryz.underlying221
  a66 := Tryz.isAgg221
  z66 := Tryz.sizeOf221
  v66 := Tryz.zeroValue221
  t70 := Tryz.underlying225
  a70 := Tryz.isAgg225
  z70 := Tryz.sizeOf225
  v70 := Tryz.zeroValue225
  t76 := Tryz.underlying244
  a76 := Tryz.isAgg244
  z76 := Tryz.sizeOf244
  v76 := Tryz.zeroValue244
  t77 := Tryz.underlying245
  a77 := Tryz.isAgg245
  z77 := Tryz.sizeOf245
  v77 := Tryz.zeroValue245 }
end Go.Proofs

/- The walks of cmp.Or at ints, match.compare, slices.CompareFunc at binds, match.risen's closure; slices.SortFunc at binds and at lists of them. -/
namespace Go.Proofs.YtbohggoeebhdmaaGreatDoor
open Go.RowKit Go.Sort Go.Shelf

set_option maxHeartbeats 1000000 in
theorem orC (c cp : Nat) (x y : Int) (w : World) (h0 : w.cell? ⟨c, 0, none⟩ = some (.int .i64 x)) (h1 : w.cell? ⟨c, 1, none⟩ = some (.int .i64 y)) :
    Calls Tryz.prog 168 #[.slice (some ⟨c, 0, none⟩) 2 cp] w fun e w' => e = .returned (.int .i64 (if x ≠ 0 then x else y)) ∧ w' = w := by
  by_cases hx : x = 0
  · subst hx
    by_cases hy : y = 0
    · subst hy
      go_enter Tryz.func168, Tryz.ntmps168
      go_wp2
      refine wp_loop_rounds 3 ?_
      rw [rounds_succ]
      go_wp2
      rw [rounds_succ]
      go_wp2
      rw [rounds_succ]
      go_wp2
      go_ret
      exact ⟨rfl, rfl⟩
    · have hq : (y != 0) = true := by simpa using hy
      go_enter Tryz.func168, Tryz.ntmps168
      go_wp2
      refine wp_loop_rounds 3 ?_
      rw [rounds_succ]
      go_wp2
      rw [rounds_succ]
      go_wp2
      go_ret
      exact ⟨rfl, rfl⟩
  · have hq : (x != 0) = true := by simpa using hx
    rw [if_pos hx]
    clear hx
    go_enter Tryz.func168, Tryz.ntmps168
    go_wp2
    refine wp_loop_rounds 3 ?_
    rw [rounds_succ]
    go_wp2
    go_ret
    exact ⟨rfl, rfl⟩

set_option maxRecDepth 100000 in
set_option maxHeartbeats 2000000 in
theorem compareB (a b : BindD) (w : World) : Calls Tryz.prog 141 #[.agg (encB a).toArray, .agg (encB b).toArray] w fun e w' => e = .returned (.int .i64 (cmpB a b)) ∧ Later w w' := by
  obtain ⟨a1, a2⟩ := a
  obtain ⟨b1, b2⟩ := b
  show Calls _ _ #[.agg #[.string a1, .string a2], .agg #[.string b1, .string b2]] _ fun e w' => e = .returned (.int .i64 (if cmpS a1 b1 ≠ 0 then cmpS a1 b1 else cmpS a2 b2)) ∧ _
  generalize hwb : (w.alloc (.cells #[.string a1, .string a2] 147)).alloc (.cells #[.string b1, .string b2] 147) = wb
  have HWB := hide hwb
  have hLb : Later w wb := by rw [← hwb]; exact (by repeat (first | exact Later.refl _ | assumption | refine Later.drewN ?_ _ | refine Later.drew ?_ | refine Later.alloc ?_ _ | refine Later.grow ?_ _))
  have z0 : wb.cell? ⟨w.heap.size, 0, none⟩ = some (.string a1) := by rw [← hwb]; simp
  have z1 : wb.cell? ⟨w.heap.size, 1, none⟩ = some (.string a2) := by rw [← hwb]; simp
  have z2 : wb.cell? ⟨w.heap.size + 1, 0, none⟩ = some (.string b1) := by rw [← hwb]; simp
  have z3 : wb.cell? ⟨w.heap.size + 1, 1, none⟩ = some (.string b2) := by rw [← hwb]; simp
  have hsb : wb.heap.size = w.heap.size + 2 := by rw [← hwb]; simp
  clear hwb
  obtain ⟨r, hr⟩ : ∃ r, r = if cmpS a1 b1 ≠ 0 then cmpS a1 b1 else cmpS a2 b2 := ⟨_, rfl⟩
  have HOr : Hid (∀ (c : Nat) (w : World), w.cell? ⟨c, 0, none⟩ = some (.int .i64 (cmpS a1 b1)) → w.cell? ⟨c, 1, none⟩ = some (.int .i64 (cmpS a2 b2)) → Calls Tryz.prog 168 #[.slice (some ⟨c, 0, none⟩) 2 2] w fun e w' => e = .returned (.int .i64 r) ∧ w' = w) := fun c w h0 h1 => by
    rw [hr]; exact orC c 2 _ _ w h0 h1
  rw [← hr]
  clear hr
  go_enter Tryz.func141, Tryz.ntmps141
  go_wp2
  rw [HWB.out]
  have cell : ∀ w', Later wb w' → w'.cell? ⟨w.heap.size, 0, none⟩ = some (.string a1) ∧ w'.cell? ⟨w.heap.size, 1, none⟩ = some (.string a2) ∧ w'.cell? ⟨w.heap.size + 1, 0, none⟩ = some (.string b1) ∧ w'.cell? ⟨w.heap.size + 1, 1, none⟩ = some (.string b2) := fun w' hL =>
    ⟨by rw [hL.cell (by show w.heap.size < _; omega)]; exact z0, by rw [hL.cell (by show w.heap.size < _; omega)]; exact z1, by rw [hL.cell (by show w.heap.size + 1 < _; omega)]; exact z2, by rw [hL.cell (by show w.heap.size + 1 < _; omega)]; exact z3⟩
  have CELL := hide cell
  clear cell z0 z1 z2 z3 hsb
  refine wp_region_held_drew (S := fun w' => Later wb w') (by kernel_rfl) (Later.refl _).drew (fun hHeld => ?_)
  refine take_at (i := 0) (d := some 5) (v := ?_) rfl rfl (by kernel_rfl) (by kernel_rfl) (by kernel_rfl) (fun _ _ _ h => h) (Or.inl ⟨by rfl, ?_⟩) hHeld ?_
  rotate_left
  · intro w hSw; (try dsimp only at hSw);  go_simp; try with_reducible rfl
  simp only [Act.put, List.setIfInBounds_toArray, List.set_cons_zero, List.set_cons_succ]
  refine take_at (i := 1) (d := some 6) (v := ?_) rfl rfl (by kernel_rfl) (by kernel_rfl) (by kernel_rfl) (fun _ _ _ h => h) (Or.inl ⟨by rfl, ?_⟩) hHeld ?_
  rotate_left
  · intro w hSw; (try dsimp only at hSw); obtain ⟨q0, q1, q2, q3⟩ := CELL.out w hSw; go_simp; try with_reducible rfl
  simp only [Act.put, List.setIfInBounds_toArray, List.set_cons_zero, List.set_cons_succ]
  refine take_at (i := 2) (d := some 7) (v := ?_) rfl rfl (by kernel_rfl) (by kernel_rfl) (by kernel_rfl) (fun _ _ _ h => h) (Or.inl ⟨by rfl, ?_⟩) hHeld ?_
  rotate_left
  · intro w hSw; (try dsimp only at hSw);  go_simp; try with_reducible rfl
  simp only [Act.put, List.setIfInBounds_toArray, List.set_cons_zero, List.set_cons_succ]
  refine take_at (i := 3) (d := some 8) (v := ?_) rfl rfl (by kernel_rfl) (by kernel_rfl) (by kernel_rfl) (fun _ _ _ h => h) (Or.inl ⟨by rfl, ?_⟩) hHeld ?_
  rotate_left
  · intro w hSw; (try dsimp only at hSw); obtain ⟨q0, q1, q2, q3⟩ := CELL.out w hSw; go_simp; try with_reducible rfl
  simp only [Act.put, List.setIfInBounds_toArray, List.set_cons_zero, List.set_cons_succ]
  refine take_at (i := 5) (d := some 10) (v := ?_) rfl rfl (by kernel_rfl) (by kernel_rfl) (by kernel_rfl) (fun _ _ _ h => h) (Or.inl ⟨by rfl, ?_⟩) hHeld ?_
  rotate_left
  · intro w hSw; (try dsimp only at hSw);  go_simp; try with_reducible rfl
  simp only [Act.put, List.setIfInBounds_toArray, List.set_cons_zero, List.set_cons_succ]
  refine take_at (i := 6) (d := some 11) (v := ?_) rfl rfl (by kernel_rfl) (by kernel_rfl) (by kernel_rfl) (fun _ _ _ h => h) (Or.inl ⟨by rfl, ?_⟩) hHeld ?_
  rotate_left
  · intro w hSw; (try dsimp only at hSw); obtain ⟨q0, q1, q2, q3⟩ := CELL.out w hSw; go_simp; try with_reducible rfl
  simp only [Act.put, List.setIfInBounds_toArray, List.set_cons_zero, List.set_cons_succ]
  refine take_at (i := 7) (d := some 12) (v := ?_) rfl rfl (by kernel_rfl) (by kernel_rfl) (by kernel_rfl) (fun _ _ _ h => h) (Or.inl ⟨by rfl, ?_⟩) hHeld ?_
  rotate_left
  · intro w hSw; (try dsimp only at hSw);  go_simp; try with_reducible rfl
  simp only [Act.put, List.setIfInBounds_toArray, List.set_cons_zero, List.set_cons_succ]
  refine take_at (i := 8) (d := some 13) (v := ?_) rfl rfl (by kernel_rfl) (by kernel_rfl) (by kernel_rfl) (fun _ _ _ h => h) (Or.inl ⟨by rfl, ?_⟩) hHeld ?_
  rotate_left
  · intro w hSw; (try dsimp only at hSw); obtain ⟨q0, q1, q2, q3⟩ := CELL.out w hSw; go_simp; try with_reducible rfl
  simp only [Act.put, List.setIfInBounds_toArray, List.set_cons_zero, List.set_cons_succ]
  refine wpAnyH_ready (rs := [4]) (by kernel_rfl) (by simp) ?_
  refine AllReadyH.cons rfl (fun K hK => ?_) AllReadyH.nil
  go_simp
  refine (compareS _ _ _).mono ?_
  rintro e u1 ⟨rfl, rfl⟩
  dsimp only
  refine hK.out _ _ hHeld (fun hHeld => ?_)
  clear hK K
  refine wpAnyH_ready (rs := [9]) (by kernel_rfl) (by simp) ?_
  refine AllReadyH.cons rfl (fun K hK => ?_) AllReadyH.nil
  go_simp
  refine (compareS _ _ _).mono ?_
  rintro e u2 ⟨rfl, rfl⟩
  dsimp only
  refine hK.out _ _ hHeld (fun hHeld => ?_)
  clear hK K
  refine wpAnyH_ready (rs := [10]) (by kernel_rfl) (by simp) ?_
  refine AllReadyH.cons rfl (fun K hK => ?_) AllReadyH.nil
  go_simp
  refine hK.out _ _ (hHeld.alloc _) (fun hHeld => ?_)
  clear hK K
  refine wpAnyH_ready (rs := [11]) (by kernel_rfl) (by simp) ?_
  refine AllReadyH.cons rfl (fun K hK => ?_) AllReadyH.nil
  go_simp
  refine (HOr.out _ _ (by simp) (by simp)).mono ?_
  rintro e u3 ⟨rfl, rfl⟩
  dsimp only
  refine hK.out _ _ hHeld (fun hHeld => ?_)
  clear hK K
  refine take_at (i := 12) (d := some 4) (v := ?_) rfl rfl (by kernel_rfl) (by kernel_rfl) (by kernel_rfl) (fun _ _ _ h => h) (Or.inl ⟨by rfl, ?_⟩) hHeld ?_
  rotate_left
  · intro w hSw; (try dsimp only at hSw);  go_simp; try with_reducible rfl
  simp only [Act.put, List.setIfInBounds_toArray, List.set_cons_zero, List.set_cons_succ]
  refine wpAnyH_done (by kernel_rfl) ?_ _
  go_wp2
  go_ret
  exact ⟨rfl, hLb.trans hHeld⟩

set_option maxRecDepth 100000 in
set_option maxHeartbeats 2000000 in
/-- slices.CompareFunc at binds, by match.compare. -/
theorem compareBs (u v : Value) (l m : List BindD) (w : World) (hu : bindK.sl Anyw w u l) (hv : bindK.sl Anyw w v m) :
    Calls Tryz.prog 144 #[u, v, .func (.func 141) #[] #[]] w fun e w' => e = .returned (.int .i64 (cmpBs l m)) ∧ Later w w' := by
  obtain ⟨a, cap, rfl⟩ := Kind.slice hu
  obtain ⟨a', cap', rfl⟩ := Kind.slice hv
  have hl := hu.1.1
  have hm := hv.1.1
  have HU := hide hu
  have HV := hide hv
  clear hu hv
  go_enter Tryz.func144, Tryz.ntmps144
  go_wp2
  go_loopg [13] l.length (fun g i wr => ∃ j : Nat, j + g = l.length ∧ i = .int .i64 j ∧ Hid (cmpBs l m = cmpBs (l.drop j) (m.drop j)) ∧ Hid (j ≤ m.length) ∧ Hid (Later w wr))
  case atStart => exact ⟨0, by omega, rfl, (rfl : _ = _), (Nat.zero_le _ : _ ≤ _), Later.refl _⟩
  case round =>
    obtain ⟨j, hj, rfl, HE, HJ, HL⟩ := hrel
    have hjm := HJ.out
    by_cases hlt : j < l.length
    · obtain ⟨x, hx⟩ : ∃ x, l[j]? = some x := ⟨_, List.getElem?_eq_getElem hlt⟩
      obtain ⟨b1, o1, _, rfl, hb1, rfl, hc⟩ := Kind.sl_at HU.out hx
      have d0 : wr.cell? ⟨b1, o1 + j * 2, none⟩ = some (.string x.1) := by rw [HL.out.cell hb1]; exact hc 0 _ rfl
      have d1 : wr.cell? ⟨b1, o1 + j * 2 + 1, none⟩ = some (.string x.2) := by rw [HL.out.cell hb1]; exact hc 1 _ rfl
      have hbr : b1 < wr.heap.size := Nat.lt_of_lt_of_le hb1 HL.out.size
      have hdx : l.drop j = x :: l.drop (j + 1) := by
        obtain ⟨h1, e1⟩ := List.getElem?_eq_some_iff.1 hx
        rw [List.drop_eq_getElem_cons h1, e1]
      by_cases hlm : j < m.length
      · obtain ⟨y, hy⟩ : ∃ y, m[j]? = some y := ⟨_, List.getElem?_eq_getElem hlm⟩
        obtain ⟨b2, o2, _, rfl, hb2, rfl, hc2⟩ := Kind.sl_at HV.out hy
        have hLa := HL.out.alloc (.cells #[.string x.1, .string x.2] 147)
        have d2 : (wr.alloc (.cells #[.string x.1, .string x.2] 147)).cell? ⟨b2, o2 + j * 2, none⟩ = some (.string y.1) := by rw [hLa.cell hb2]; exact hc2 0 _ rfl
        have d3 : (wr.alloc (.cells #[.string x.1, .string x.2] 147)).cell? ⟨b2, o2 + j * 2 + 1, none⟩ = some (.string y.2) := by rw [hLa.cell hb2]; exact hc2 1 _ rfl
        have hbr2 : b2 < wr.heap.size := Nat.lt_of_lt_of_le hb2 HL.out.size
        have hdy : m.drop j = y :: m.drop (j + 1) := by
          obtain ⟨h1, e1⟩ := List.getElem?_eq_some_iff.1 hy
          rw [List.drop_eq_getElem_cons h1, e1]
        have HC : Hid (Calls Tryz.prog 141 #[.agg #[.string x.1, .string x.2], .agg #[.string y.1, .string y.2]] ((wr.alloc (.cells #[.string x.1, .string x.2] 147)).alloc (.cells #[.string y.1, .string y.2] 147)) fun e w2 => e = .returned (.int .i64 (cmpB x y)) ∧ Hid (Later w w2)) :=
          (compareB x y _).mono fun e w2 ⟨he, h2⟩ => ⟨he, (hLa.alloc _).trans h2⟩
        have E : cmpBs l m = if cmpB x y ≠ 0 then cmpB x y else cmpBs (l.drop (j + 1)) (m.drop (j + 1)) := by rw [HE.out, hdx, hdy]; rfl
        have hjz : ¬ ((m.length : Int) ≤ (j : Int)) := by omega
        clear hc hc2 hx hy hdx hdy hLa
        obtain ⟨x1, x2⟩ := x
        obtain ⟨y1, y2⟩ := y
        dsimp only at *
        generalize cmpB (x1, x2) (y1, y2) = r at *
        by_cases h0 : r = 0
        · subst h0
          have HE1 : Hid (cmpBs l m = cmpBs (l.drop (j + 1)) (m.drop (j + 1))) := by show _ = _; rw [E]; rfl
          clear E HE
          go_wp2_with (go_at_call 141; refine HC.out.mono ?_; rintro e w2 ⟨rfl, hL2⟩)
          go_roundg (l.length - (j + 1))
          case measure => omega
          case rel => exact ⟨j + 1, by omega, by go_num, HE1, (by omega : j + 1 ≤ m.length), hL2⟩
        · have HE1 : Hid (cmpBs l m = r) := by show _ = _; rw [E, if_pos h0]
          have hq : (r != 0) = true := by simpa using h0
          clear E HE h0
          go_wp2_with (go_at_call 141; refine HC.out.mono ?_; rintro e w2 ⟨rfl, hL2⟩)
          go_ret
          exact ⟨by rw [HE1.out]; rfl, hL2.out⟩
      · have HE1 : Hid (cmpBs l m = 1) := by show _ = _; rw [HE.out, hdx, List.drop_eq_nil_of_le (by omega : m.length ≤ j)]; rfl
        have hjz : (m.length : Int) ≤ (j : Int) := by omega
        clear hc hx hdx HE
        obtain ⟨x1, x2⟩ := x
        dsimp only at *
        go_wp2
        go_ret
        exact ⟨by rw [HE1.out]; rfl, HL.out.alloc _⟩
    · have e : j = l.length := by omega
      by_cases hlm : l.length < m.length
      · have HE1 : Hid (cmpBs l m = -1) := by
          show _ = _
          rw [HE.out, List.drop_eq_nil_of_le (by omega), List.drop_eq_getElem_cons (by omega : j < m.length)]; rfl
        have hz : (l.length : Int) < (m.length : Int) := by omega
        clear HE
        go_wp2
        go_ret
        exact ⟨by rw [HE1.out]; rfl, HL.out⟩
      · have HE1 : Hid (cmpBs l m = 0) := by
          show _ = _
          rw [HE.out, List.drop_eq_nil_of_le (by omega), List.drop_eq_nil_of_le (by omega)]; rfl
        have hz : ¬ ((l.length : Int) < (m.length : Int)) := by omega
        clear HE
        go_wp2
        go_ret
        exact ⟨by rw [HE1.out]; rfl, HL.out⟩

theorem enters_compare : ∀ args w, (callFunc 141 args).run Tryz.prog w = .ok (.enter 141 args) w := enters_of Tryz.func141 (by kernel_rfl) rfl
theorem enters_risen1 : ∀ args w, (callFunc 143 args).run Tryz.prog w = .ok (.enter 143 args) w := enters_of Tryz.func143 (by kernel_rfl) rfl

set_option maxHeartbeats 400000 in
theorem risen1 (u v : Value) (l m : List BindD) (w : World) (hu : bindK.sl Anyw w u l) (hv : bindK.sl Anyw w v m) :
    Calls Tryz.prog 143 #[u, v] w fun e w' => e = .returned (.int .i64 (cmpBs l m)) ∧ Later w w' := by
  have HC := hide (compareBs u v l m w hu hv)
  obtain ⟨a, cap, rfl⟩ := Kind.slice hu
  obtain ⟨a', cap', rfl⟩ := Kind.slice hv
  clear hu hv
  generalize cmpBs l m = r at *
  go_enter Tryz.func143, Tryz.ntmps143
  go_wp2_with (go_at_call 144; refine HC.out.mono ?_; rintro e w2 ⟨rfl, hL2⟩; replace hL2 := hide hL2)
  go_ret
  exact ⟨rfl, unhide hL2⟩

end Go.Proofs.YtbohggoeebhdmaaGreatDoor
