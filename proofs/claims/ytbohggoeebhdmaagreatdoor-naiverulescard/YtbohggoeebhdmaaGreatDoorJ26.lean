import Derived.Test.YtbohggoeebhdmaaGreatDoorJ25
import Derived.Test.YtbohggoeebhdmaaGreatDoorJ21
import Derived.BigQuiet
import Derived.Test.YtbohggoeebhdmaaGreatDoorJ24
import Derived.Defers
import Derived.Recover
import Derived.Shelf.Spec.SlicesGrow
import Derived.Test.YtbohggoeebhdmaaGreatDoorProg
import Derived.Test.YtbohggoeebhdmaaGreatDoorJ23
import Derived.Test.YtbohggoeebhdmaaGreatDoorJ22
import Derived.ProofKit
import Derived.SliceStrings
import Derived.Deep.Slices
import Derived.Deep.Strs
import Derived.Lib.SmallJoins
import Derived.SizedLaws
import Derived.Shelf.LaysM
/- The walks of naive's widthsOf, Facts and Count. -/
namespace Go.Proofs.YtbohggoeebhdmaaGreatDoor
open Go.RowKit Go.Sort Go.Maps

theorem atomsP_append (p q : List RuleD) : atomsP (p ++ q) = atomsP p ++ atomsP q := by simp [atomsP]

theorem WidM.mono {w : World} {b n n' : Nat} {m : Wids} (h : WidM w b n m) (hn : n ≤ n') : WidM w b n' m := by obtain ⟨D, h, hf⟩ := h; exact ⟨D, h.mono hn, hf⟩

set_option maxRecDepth 100000 in
set_option maxHeartbeats 4000000 in
theorem widthsOfC (p : List RuleD) (v : Value) (w : World) (hv : ruleK.sl Anyw w v p) (h16 : p.length ≤ 16) (h5 : ∀ r ∈ p, r.body.length ≤ 5) (hs : ∀ a ∈ atomsP p, a.name.length ≤ 12) :
    Calls Tryz.prog 36 #[v] w fun e w' => ∃ n m, e = .returned (.map (some w.heap.size)) ∧ WidM w' w.heap.size n m ∧ WidOf (atomsP p) m ∧ Below w.heap.size w w' := by
  obtain ⟨pa, pc, rfl⟩ := Kind.slice hv
  have HV := hide hv
  have HS := hide hs
  have H5 := hide h5
  have HM0 : Hid (WidM (w.alloc (.map #[] 0)) w.heap.size 0 (fun _ => none)) := WidM.made w
  have HB0 : Hid (Below w.heap.size w (w.alloc (.map #[] 0))) := ((Later.refl w).alloc _).below
  have hmm := @run_makeMap Tryz.prog
  clear hv hs h5
  go_enter Tryz.func36, Tryz.ntmps36
  go_wp2
  go_loopg [11] p.length (fun g i wr => ∃ j : Nat, j + g = p.length ∧ i = .int .i64 j ∧ w.heap.size < wr.heap.size ∧ ∃ m, Hid (WidM wr w.heap.size (6 * j) m) ∧ Hid (WidOf (atomsP (p.take j)) m) ∧ Hid (Below w.heap.size w wr))
  case atStart => exact ⟨0, by omega, rfl, by simp, _, HM0, WidOf.nil, HB0⟩
  case round =>
    clear HM0 HB0 hmm
    obtain ⟨j, hj, rfl, hwr, m, HM, HO, HBr⟩ := hrel
    obtain ⟨wo, hwo⟩ : ∃ wo, wo = wr := ⟨_, rfl⟩
    subst hwo
    by_cases hlt : j < p.length
    · obtain ⟨r, hr⟩ : ∃ x, p[j]? = some x := ⟨_, List.getElem?_eq_getElem hlt⟩
      have hrm : r ∈ p := List.mem_of_getElem? hr
      obtain ⟨b1, o1, _, rfl, hb1, ⟨tv, bv, rfl, htv, hbv⟩, hc⟩ := Kind.sl_at HV.out hr
      have d0 : wo.cell? ⟨b1, o1 + j * 4, none⟩ = some (.bool r.head.no) := by rw [HBr.out.cell (p := ⟨b1, o1 + j * 4, none⟩) hb1]; exact hc 0 _ rfl
      have d1 : wo.cell? ⟨b1, o1 + j * 4 + 1, none⟩ = some (.string (bs r.head.name)) := by rw [HBr.out.cell (p := ⟨b1, o1 + j * 4 + 1, none⟩) hb1]; exact hc 1 _ rfl
      have d2 : wo.cell? ⟨b1, o1 + j * 4 + 2, none⟩ = some tv := by rw [HBr.out.cell (p := ⟨b1, o1 + j * 4 + 2, none⟩) hb1]; exact hc 2 _ rfl
      have d3 : wo.cell? ⟨b1, o1 + j * 4 + 3, none⟩ = some bv := by rw [HBr.out.cell (p := ⟨b1, o1 + j * 4 + 3, none⟩) hb1]; exact hc 3 _ rfl
      obtain ⟨ta, tc, rfl⟩ := Kind.slice htv
      obtain ⟨ba, bc, rfl⟩ := Kind.slice hbv
      have hsz := HBr.out.size
      have htk : atomsP (p.take (j + 1)) = atomsP (p.take j) ++ (r.head :: r.body) := by
        rw [List.take_add_one, hr, atomsP_append]; simp [atomsP]
      have hram : ∀ a ∈ r.head :: r.body, a.name.length ≤ 12 := fun a ha => HS.out a (List.mem_flatMap.2 ⟨r, hrm, ha⟩)
      have hb5 := H5.out r hrm
      have hbox := RuleBox.made w.heap.size wo (.bool r.head.no) (.string (bs r.head.name)) (.slice ta r.head.terms.length tc) (.slice ba r.body.length bc)
      obtain ⟨wb, hwb⟩ : ∃ wb, wb = wo.alloc (.cells #[.bool r.head.no, .string (bs r.head.name), .slice ta r.head.terms.length tc, .slice ba r.body.length bc] 43) := ⟨_, rfl⟩
      rw [← hwb] at hbox
      have hLb : Later wo wb := by rw [hwb]; exact (Later.refl _).alloc _
      have hBb : Below w.heap.size w wb := below_trans HBr.out hLb.below hsz
      have HC := hide (widAddC w.heap.size (6 * j) m r.head (.slice ta r.head.terms.length tc) wb (HM.out.later hLb) (Kind.sl_below htv hBb) (by have := hram r.head (by simp); unfold maxLen; omega) (by unfold maxLen; omega))
      have HBx := hide hbox
      have HBb := hide hBb
      have HBV := hide hbv
      have HTK := hide htk
      have HRA := hide hram
      have HWb := hide hwb
      clear hc hr htv hbv htk hram hbox hLb hBb hwb hrm
      generalize bs r.head.name = nm at *
      generalize hno : r.head.no = no at *
      go_wp2_with fail
      rw [← HWb.out]
      refine HC.out.mono ?_
      rintro e w2 ⟨⟨u2, rfl⟩, hM2, hT2⟩
      have HX2 := hide (HBx.out.turned hT2 hwr)
      have HM2 := hide hM2
      have HO2 : Hid (WidOf (atomsP (p.take j) ++ (r.head :: r.body.take 0)) (widOne m r.head)) := by show WidOf _ _; have := HO.out.step r.head; simpa using this
      have HT2 : Hid (Tn w.heap.size wb w2) := hT2
      have x3 : w2.cell? ⟨wo.heap.size, 3, none⟩ = some (.slice ba r.body.length bc) := HX2.out.z3
      clear hM2 hT2 HC hno
      go_wp2
      go_loopg [22] r.body.length (fun g i wz => ∃ k : Nat, k + g = r.body.length ∧ i = .int .i64 k ∧ ∃ m', Hid (WidM wz w.heap.size (6 * j + 1 + k) m') ∧ Hid (WidOf (atomsP (p.take j) ++ (r.head :: r.body.take k)) m') ∧ Hid (Tn w.heap.size wb wz))
      case atStart => exact ⟨0, by omega, rfl, _, HM2, HO2, HT2⟩
      case round =>
        clear HM2 HO2 HT2 x3
        obtain ⟨k, hk, rfl, m', HM', HO', HT'⟩ := hrel
        have hbs : w.heap.size ≤ wb.heap.size := by have := HBb.out.size; omega
        have hBz : Below w.heap.size wb wr := HT'.out.below (Nat.le_refl _) hbs
        have hwz := HT'.out.size
        have hww : wo.heap.size < wb.heap.size := HBx.out.lt
        by_cases hltk : k < r.body.length
        · obtain ⟨t, ht⟩ : ∃ x, r.body[k]? = some x := ⟨_, List.getElem?_eq_getElem hltk⟩
          obtain ⟨b2, o2, _, rfl, hb2, ⟨sv, rfl, hsv⟩, hc⟩ := Kind.sl_at HBV.out ht
          have hBw : Below w.heap.size w wr := HBb.out.trans hBz
          have e0 : wr.cell? ⟨b2, o2 + k * 3, none⟩ = some (.bool t.no) := by rw [hBw.cell (p := ⟨b2, o2 + k * 3, none⟩) hb2]; exact hc 0 _ rfl
          have e1 : wr.cell? ⟨b2, o2 + k * 3 + 1, none⟩ = some (.string (bs t.name)) := by rw [hBw.cell (p := ⟨b2, o2 + k * 3 + 1, none⟩) hb2]; exact hc 1 _ rfl
          have e2 : wr.cell? ⟨b2, o2 + k * 3 + 2, none⟩ = some sv := by rw [hBw.cell (p := ⟨b2, o2 + k * 3 + 2, none⟩) hb2]; exact hc 2 _ rfl
          have hbr : b2 < wr.heap.size := by omega
          obtain ⟨sva, svc, rfl⟩ := Kind.slice hsv
          have hL5 : Later wr (wr.alloc (.cells #[.bool t.no, .string (bs t.name), .slice sva t.terms.length svc] 40)) := (Later.refl _).alloc _
          have htk : r.head :: r.body.take (k + 1) = (r.head :: r.body.take k) ++ [t] := by rw [List.take_add_one, ht]; rfl
          have HC5 := hide (widAddC w.heap.size (6 * j + 1 + k) m' t (.slice sva t.terms.length svc) (wr.alloc (.cells #[.bool t.no, .string (bs t.name), .slice sva t.terms.length svc] 40)) (HM'.out.later hL5) (Kind.sl_below hsv (below_trans hBw hL5.below hBw.size)) (by have := HRA.out t (List.mem_cons_of_mem _ (List.mem_of_getElem? ht)); unfold maxLen; omega) (by unfold maxLen; omega))
          have HO5 : Hid (WidOf (atomsP (p.take j) ++ (r.head :: r.body.take (k + 1))) (widOne m' t)) := by show WidOf _ _; rw [htk, ← List.append_assoc]; exact HO'.out.step t
          have HL5 := hide hL5
          clear hc ht hsv hBw hL5 htk hBz
          generalize bs t.name = nm5 at *
          generalize t.no = no5 at *
          go_wp2_with fail
          refine HC5.out.mono ?_
          rintro e w6 ⟨⟨u6, rfl⟩, hM6, hT6⟩
          have HM6 : Hid (WidM w6 w.heap.size (6 * j + 1 + (k + 1)) (widOne m' t)) := hM6
          have HT6 : Hid (Tn w.heap.size wb w6) := (HT'.out.trans (Tn.of_below HL5.out.below)).trans hT6
          clear hM6 hT6 HC5
          go_wp2
          go_roundg (r.body.length - (k + 1))
          case measure => omega
          case rel => exact ⟨k + 1, by omega, by go_num, _, HM6, HO5, HT6⟩
        · have hk' : r.body.take k = r.body := List.take_of_length_le (by omega)
          rw [hk', ← HTK.out] at HO'
          have HB4 : Hid (Below w.heap.size w wr) := HBb.out.trans hBz
          have HM4 : Hid (WidM wr w.heap.size (6 * (j + 1)) m') := HM'.out.mono (by omega)
          have hws : w.heap.size < wr.heap.size := by omega
          clear hk' hBz
          go_wp2
          go_roundg (p.length - (j + 1))
          case measure => omega
          case rel => exact ⟨j + 1, by omega, by go_num, hws, m', HM4, HO', HB4⟩
    · have hj' : p.take j = p := List.take_of_length_le (by omega)
      rw [hj'] at HO
      clear hj'
      go_wp2
      go_ret
      exact ⟨_, m, rfl, HM.out, HO.out, HBr.out⟩

/-- The first fact from k on that does not go with the program. -/
def fitFrom (p : List RuleD) (l : List FactB) : Nat → Nat → Int × Int
  | 0, _ => (0, 0)
  | n + 1, k => if fitF p (l.getD k noFact) = true then fitFrom p l n (k + 1) else (8, k)
def factsP (p : List RuleD) (l : List FactB) : Int × Int := if (setFault l).1 ≠ 0 then setFault l else fitFrom p l l.length 0

theorem fitFrom_zero {p : List RuleD} {l : List FactB} : ∀ (n k : Nat), (fitFrom p l n k).1 = 0 → ∀ i, k ≤ i → i < k + n → fitF p (l.getD i noFact) = true
  | 0, k, _, i, h1, h2 => by omega
  | n + 1, k, h, i, h1, h2 => by
    unfold fitFrom at h
    split at h
    · rename_i hf
      by_cases e : i = k
      · subst e; exact hf
      · exact fitFrom_zero n (k + 1) h i (by omega) (by omega)
    · simp at h
theorem fitFrom_all {p : List RuleD} {l : List FactB} (h : ∀ f ∈ l, fitF p f = true) : ∀ (n k : Nat), k + n = l.length → fitFrom p l n k = (0, 0)
  | 0, _, _ => rfl
  | n + 1, k, hk => by
    unfold fitFrom
    rw [if_pos (h _ (by rw [List.getD_eq_getElem?_getD, List.getElem?_eq_getElem (by omega)]; exact List.getElem_mem _))]
    exact fitFrom_all h n (k + 1) (by omega)
theorem facts_good {p : List RuleD} {l : List FactB} (h : (factsP p l).1 = 0) : GoodS p l := by
  unfold factsP at h
  split at h
  · rename_i h1; exact absurd h h1
  · rename_i h1
    refine good_of_fault (by simpa using h1) fun f hf => ?_
    obtain ⟨i, hi, rfl⟩ := List.getElem_of_mem hf
    have := fitFrom_zero l.length 0 h i (Nat.zero_le _) (by omega)
    rwa [List.getD_eq_getElem?_getD, List.getElem?_eq_getElem hi] at this
theorem good_facts {p : List RuleD} {l : List FactB} (h : GoodS p l) : factsP p l = (0, 0) := by
  unfold factsP
  rw [fault_right h.up h.right h.few, if_neg (by simp)]
  exact fitFrom_all h.fit _ 0 (by omega)

theorem fit_wid {p : List RuleD} {m : Wids} (h : WidOf (atomsP p) m) (f : FactB) : widFits m f = fitF p f := by
  unfold widFits
  obtain ⟨h1, h2⟩ := h (raw f.1)
  rw [Bool.eq_iff_iff, fitF_iff]
  cases e : m (raw f.1) with
  | none =>
    simp only [true_iff]
    intro a ha hb
    exact absurd (by rw [← hb, raw_bs]) (h1.1 e a ha)
  | some k =>
    simp only [decide_eq_true_eq]
    rw [h2 k e f.2.length]
    exact ⟨fun h a ha hb => h a ha (by rw [← hb, raw_bs]), fun h a ha hb => h a ha (by rw [hb, bs_raw])⟩

theorem right_names {p : List RuleD} (hp : RightP p) : (∀ r ∈ p, r.body.length ≤ 5) ∧ ∀ a ∈ atomsP p, a.name.length ≤ 12 := by
  have hn : ∀ a : AtomD, wrongAtom a = 0 → a.name.length ≤ 12 := fun a ha => by
    have h1 := (atom_zero ha).1
    unfold isNamed at h1
    simp only [Bool.and_eq_true, decide_eq_true_eq] at h1
    exact h1.1.1
  have hb : ∀ l : List AtomD, wrongAtoms l = 0 → ∀ a ∈ l, wrongAtom a = 0 := fun l => by
    induction l with
    | nil => intro _ a ha; cases ha
    | cons x l ih =>
      intro h a ha
      unfold wrongAtoms at h
      split at h
      · rename_i hx
        rcases List.mem_cons.1 ha with rfl | ha
        · exact hx
        · exact ih h a ha
      · rename_i hx; exact absurd h hx
  have key : ∀ r ∈ p, r.body.length ≤ 5 ∧ ∀ a ∈ r.body, wrongAtom a = 0 := fun r hr => by
    have := (hp.rules r hr).body
    unfold wrongBody at this
    split at this
    · cases this
    · rename_i h5
      split at this
      · rename_i h0; exact ⟨by omega, hb _ h0⟩
      · rename_i h0; exact absurd this h0
  refine ⟨fun r hr => (key r hr).1, fun a ha => ?_⟩
  obtain ⟨r, hr, ha⟩ := List.mem_flatMap.1 ha
  rcases List.mem_cons.1 ha with rfl | ha
  · exact hn _ (hp.rules r hr).head
  · exact hn _ ((key r hr).2 a ha)

end Go.Proofs.YtbohggoeebhdmaaGreatDoor

/- The walks of naive.Facts and naive.Count. -/
namespace Go.Proofs.YtbohggoeebhdmaaGreatDoor
open Go.RowKit Go.Sort Go.Maps

set_option maxRecDepth 100000 in
set_option maxHeartbeats 4000000 in
theorem naiveFactsC (p : List RuleD) (hp : RightP p) (pv fv : Value) (l : List FactB) (w : World) (hv : ruleK.sl Anyw w pv p) (hf : Facts w fv l) :
    Calls Tryz.prog 10 #[pv, fv] w fun e w' => e = .returned (.agg #[.int .i64 (factsP p l).1, .int .i64 (factsP p l).2]) ∧ Below w.heap.size w w' := by
  obtain ⟨pa, pc, rfl⟩ := Kind.slice hv
  obtain ⟨a, cap, rfl, hln, hz⟩ := hf.addr
  have hL0 : Later w (w.alloc (.cells #[.int .i64 0, .int .i64 0] 27)) := (Later.refl w).alloc _
  have hR0 : (w.alloc (.cells #[.int .i64 0, .int .i64 0] 27)).heap[w.heap.size]? = some (.cells #[.int .i64 0, .int .i64 0] 27 (0, 0)) := heap_alloc_new w _
  have HSet := hide (setC (.slice a l.length cap) l (w.alloc (.cells #[.int .i64 0, .int .i64 0] 27)) (hf.later hL0))
  have HL0 := hide hL0
  have HR0 := hide hR0
  have HV := hide hv
  have HF := hide hf
  have HRP := hide hp
  clear hv hf hp hL0 hR0
  obtain ⟨ex, ea, hse⟩ : ∃ ex ea, setFault l = (ex, ea) := ⟨_, _, rfl⟩
  rw [hse] at HSet
  have HSE := hide hse
  clear hse
  go_enter Tryz.func10, Tryz.ntmps10
  go_wp2_with fail
  refine HSet.out.mono ?_
  rintro e w1 ⟨rfl, hL1⟩
  dsimp only
  have hs1 : w.heap.size < w1.heap.size := by have := hL1.size; simp at this; omega
  have HR1 : Hid (w1.heap[w.heap.size]? = some (.cells #[.int .i64 0, .int .i64 0] 27 (0, 0))) := by show _ = _; rw [hL1.block (by simp)]; exact HR0.out
  have HL1 : Hid (Later w w1) := HL0.out.trans hL1
  clear hL1 HSet HL0 HR0
  by_cases h0 : ex = 0
  · subst h0
    have HX : Hid (factsP p l = fitFrom p l l.length 0) := by show _ = _; unfold factsP; rw [HSE.out, if_neg (by simp)]
    have hsr := set_right (l := l) (by rw [HSE.out])
    have HSR := hide hsr.2.2
    obtain ⟨hn5, hn12⟩ := right_names HRP.out
    obtain ⟨w2, hw2⟩ : ∃ w2, w2 = w1.alloc (.cells #[.int .i64 0, .int .i64 ea] 27) := ⟨_, rfl⟩
    have hL2 : Later w1 w2 := by rw [hw2]; exact (Later.refl _).alloc _
    have hB2 : Below w.heap.size w w2 := (HL1.out.trans hL2).below
    have HW := hide (widthsOfC p (.slice pa p.length pc) w2 (Kind.sl_below HV.out hB2) HRP.out.few hn5 hn12)
    have HB2 := hide hB2
    have HR2 : Hid (w2.heap[w.heap.size]? = some (.cells #[.int .i64 0, .int .i64 0] 27 (0, 0))) := by show _ = _; rw [hL2.block hs1]; exact HR1.out
    have hs2 : w.heap.size < w2.heap.size := by have := hL2.size; omega
    have HW2 := hide hw2
    clear hsr hn5 hn12 hL2 hB2 hw2 HSE HR1 HL1 HRP
    go_wp2_with fail
    rw [← HW2.out]
    refine HW.out.mono ?_
    rintro e w3 ⟨n, m, rfl, hM3, hO3, hB3⟩
    have HM3 := hide hM3
    have HFit : Hid (∀ f, widFits m f = fitF p f) := fun f => fit_wid hO3 f
    have HB3 : Hid (Below w.heap.size w w3) := below_trans HB2.out hB3 HB2.out.size
    have HR3 : Hid (w3.heap[w.heap.size]? = some (.cells #[.int .i64 0, .int .i64 0] 27 (0, 0))) := by show _ = _; rw [hB3.block _ hs2]; exact HR2.out
    have hs3 : w.heap.size < w3.heap.size := by have := hB3.size; omega
    generalize w2.heap.size = bm at *
    clear hM3 hO3 hB3 HB2 HR2 HW HW2 hs2 hs1
    go_wp2
    go_loopg [19] l.length (fun g i wr => ∃ j k : Nat, k = g ∧ j + k = l.length ∧ i = .int .i64 j ∧ Hid (Later w3 wr) ∧ Hid (factsP p l = fitFrom p l k j))
    case atStart => exact ⟨0, l.length, rfl, by omega, rfl, Later.refl _, HX⟩
    case round =>
      clear HX
      obtain ⟨j, k, hkg, hj, rfl, HL, HX⟩ := hrel
      have hRr : wr.heap[w.heap.size]? = some (.cells #[.int .i64 0, .int .i64 0] 27 (0, 0)) := by rw [HL.out.block hs3]; exact HR3.out
      have hsr : w.heap.size < wr.heap.size := by have := HL.out.size; omega
      by_cases hlt : j < l.length
      · rcases hz with rfl | ⟨b, off, rfl⟩
        · simp at hlt
        have hltz : (j : Int) < (l.length : Int) := by omega
        have hFr : Facts wr (.slice (some ⟨b, off, none⟩) l.length cap) l := HF.out.below (below_trans HB3.out HL.out.below HB3.out.size)
        obtain ⟨hb, ax, lx, cx, g1, g2, fx⟩ := hFr.at hlt
        have hfm : l.getD j noFact ∈ l := by rw [List.getD_eq_getElem?_getD, List.getElem?_eq_getElem hlt]; exact List.getElem_mem hlt
        have hfs := right_short (wrongF_right.1 (HSR.out _ hfm))
        obtain ⟨wb, hwb⟩ : ∃ wb, wb = wr.alloc (.cells #[.string (l.getD j noFact).1, .slice ax lx cx] 54) := ⟨_, rfl⟩
        have hLb : Later wr wb := by rw [hwb]; exact (Later.refl _).alloc _
        have HC := hide (widFitC bm n m (l.getD j noFact) (.agg #[.string (l.getD j noFact).1, .slice ax lx cx]) wb (HM3.out.later (HL.out.trans hLb)) (fx.later hLb) (by have := hfs.1; unfold maxLen; omega))
        rw [HFit.out] at HC
        obtain ⟨g, rfl⟩ : ∃ g, k = g + 1 := ⟨k - 1, by omega⟩
        have hX : factsP p l = if fitF p (l.getD j noFact) = true then fitFrom p l g (j + 1) else (8, j) := by
          rw [HX.out]; rfl
        have HLb : Hid (Later w3 wb) := HL.out.trans hLb
        have HRb : Hid (wb.heap[w.heap.size]? = some (.cells #[.int .i64 0, .int .i64 0] 27 (0, 0))) := by show _ = _; rw [hLb.block hsr]; exact hRr
        have hsb : w.heap.size < wb.heap.size := by have := hLb.size; omega
        have HWb := hide hwb
        generalize hff : fitF p (l.getD j noFact) = ft at *
        generalize (l.getD j noFact).1 = nk at *
        clear hff hFr fx hfm hfs hLb hwb hRr HX
        cases ft with
        | true =>
          have HX' : Hid (factsP p l = fitFrom p l g (j + 1)) := by show _ = _; rw [hX]; rfl
          clear hX
          go_wp2_with fail
          rw [← HWb.out]
          refine HC.out.mono ?_
          rintro e w5 ⟨rfl, hL5⟩
          have HL5 : Hid (Later w3 w5) := HLb.out.trans hL5
          clear hL5 HC
          go_wp2
          go_roundg g
          case measure => omega
          case rel => exact ⟨j + 1, g, rfl, by omega, by go_num, HL5, HX'⟩
        | false =>
          have HX' : Hid (factsP p l = (8, (j : Int))) := by show _ = _; rw [hX]; rfl
          clear hX
          go_wp2_with fail
          rw [← HWb.out]
          refine HC.out.mono ?_
          rintro e w5 ⟨rfl, hL5⟩
          have HL5 : Hid (Later w3 w5) := HLb.out.trans hL5
          have hR5 : w5.heap[w.heap.size]? = some (.cells #[.int .i64 0, .int .i64 0] 27 (0, 0)) := by rw [hL5.block hsb]; exact HRb.out
          have q0 : w5.cell? ⟨w.heap.size, 0, none⟩ = some (.int .i64 0) := by rw [cell_of_row _ _ _ _ _ _ hR5]; rfl
          have q1 : w5.cell? ⟨w.heap.size, 1, none⟩ = some (.int .i64 0) := by rw [cell_of_row _ _ _ _ _ _ hR5]; rfl
          have p0 : w5.frozen? ⟨w.heap.size, 0, none⟩ = false := frozen_rowC 0 hR5
          have p1 : w5.frozen? ⟨w.heap.size, 1, none⟩ = false := frozen_rowC 1 hR5
          have HR5 := hide hR5
          clear hL5 HC hR5
          go_wp2
          obtain ⟨r0, r1⟩ := fault_two HR5.out (.int .i64 8) (.int .i64 j)
          refine bodyPost_ret (v := .agg #[.int .i64 8, .int .i64 j]) (by simp [results, Tryz.results10, go_sem, r0, r1]) rfl ⟨by rw [HX'.out], ?_⟩
          exact ((below_trans HB3.out HL5.out.below HB3.out.size).setCell (Nat.le_refl _) _).setCell (Nat.le_refl _) _
      · have hk0 : k = 0 := by omega
        have HX' : Hid (factsP p l = (0, 0)) := by show _ = _; rw [HX.out, hk0]; rfl
        have q0 : wr.cell? ⟨w.heap.size, 0, none⟩ = some (.int .i64 0) := by rw [cell_of_row _ _ _ _ _ _ hRr]; rfl
        have q1 : wr.cell? ⟨w.heap.size, 1, none⟩ = some (.int .i64 0) := by rw [cell_of_row _ _ _ _ _ _ hRr]; rfl
        have p0 : wr.frozen? ⟨w.heap.size, 0, none⟩ = false := frozen_rowC 0 hRr
        have p1 : wr.frozen? ⟨w.heap.size, 1, none⟩ = false := frozen_rowC 1 hRr
        have HRr := hide hRr
        clear hRr HX
        go_wp2
        obtain ⟨r0, r1⟩ := fault_two HRr.out (.int .i64 0) (.int .i64 0)
        refine bodyPost_ret (v := .agg #[.int .i64 0, .int .i64 0]) (by simp [results, Tryz.results10, go_sem, r0, r1]) rfl ⟨by rw [HX'.out], ?_⟩
        exact ((below_trans HB3.out HL.out.below HB3.out.size).setCell (Nat.le_refl _) _).setCell (Nat.le_refl _) _
  · have HX : Hid (factsP p l = (ex, ea)) := by show _ = _; unfold factsP; rw [HSE.out, if_pos h0]
    have hq : (ex != 0) = true := by simpa using h0
    have hR2 := HR1.out
    have q0 : w1.cell? ⟨w.heap.size, 0, none⟩ = some (.int .i64 0) := by rw [cell_of_row _ _ _ _ _ _ hR2]; rfl
    have q1 : w1.cell? ⟨w.heap.size, 1, none⟩ = some (.int .i64 0) := by rw [cell_of_row _ _ _ _ _ _ hR2]; rfl
    have p0 : w1.frozen? ⟨w.heap.size, 0, none⟩ = false := frozen_rowC 0 hR2
    have p1 : w1.frozen? ⟨w.heap.size, 1, none⟩ = false := frozen_rowC 1 hR2
    clear hR2 HSE h0 HV HF
    go_wp2
    obtain ⟨r0, r1⟩ := fault_two HR1.out (.int .i64 ex) (.int .i64 ea)
    have hBX : Below w.heap.size w ((w1.setCell ⟨w.heap.size, 0, none⟩ (.int .i64 ex)).setCell ⟨w.heap.size, 1, none⟩ (.int .i64 ea)) := (HL1.out.below.setCell (Nat.le_refl _) _).setCell (Nat.le_refl _) _
    have hzX : w.heap.size < ((w1.setCell ⟨w.heap.size, 0, none⟩ (.int .i64 ex)).setCell ⟨w.heap.size, 1, none⟩ (.int .i64 ea)).heap.size := by rw [size_setCell, size_setCell]; exact hs1
    generalize (w1.setCell ⟨w.heap.size, 0, none⟩ (.int .i64 ex)).setCell ⟨w.heap.size, 1, none⟩ (.int .i64 ea) = wx at *
    have s0 : (wx.alloc (.cells #[.int .i64 ex, .int .i64 ea] 27)).cell? ⟨w.heap.size, 0, none⟩ = some (.int .i64 ex) := by rw [((Later.refl wx).alloc _).cell (p := ⟨w.heap.size, 0, none⟩) hzX]; exact r0
    have s1 : (wx.alloc (.cells #[.int .i64 ex, .int .i64 ea] 27)).cell? ⟨w.heap.size, 1, none⟩ = some (.int .i64 ea) := by rw [((Later.refl wx).alloc _).cell (p := ⟨w.heap.size, 1, none⟩) hzX]; exact r1
    refine bodyPost_ret (v := .agg #[.int .i64 ex, .int .i64 ea]) (by simp [results, Tryz.results10, go_sem, s0, s1]) rfl ⟨by rw [HX.out], ?_⟩
    exact hBX.alloc hBX.size _

theorem foldl_max (ss : List Nat) : ∀ s : Nat, (ss.map fun x : Nat => (x : Int)).foldl max (s : Int) + 1 = (max (s + 1) (countP ss) : Nat) := by
  induction ss with
  | nil => intro s; simp [countP]
  | cons t ss ih =>
    intro s
    rw [List.map_cons, List.foldl_cons, show (max (s : Int) (t : Int)) = ((max s t : Nat) : Int) by omega, ih]
    simp only [countP]; omega

theorem countP_le {c : Nat} : ∀ {ss : List Nat}, (∀ s ∈ ss, s < c) → countP ss ≤ c
  | [], _ => Nat.zero_le _
  | s :: ss, h => by
    have h1 := h s (by simp)
    have h2 := countP_le (ss := ss) fun t ht => h t (by simp [ht])
    simp only [countP]; omega

set_option maxHeartbeats 1000000 in
theorem countC (ss : List Nat) (v : Value) (w : World) (hv : intK.sl Anyw w v ss) (hs : ∀ s ∈ ss, s < 1000) :
    Calls Tryz.prog 16 #[v] w fun e w' => e = .returned (.int .i64 (countP ss : Nat)) ∧ Later w w' := by
  obtain ⟨a, cap, rfl⟩ := Kind.slice hv
  have hl := hv.1.1
  cases ss with
  | nil =>
    clear hv hs
    go_enter Tryz.func16, Tryz.ntmps16
    go_wp2
    go_ret
    exact ⟨rfl, Later.refl _⟩
  | cons s ss =>
    obtain ⟨b, off, _, rfl, hb, _, _⟩ := Kind.sl_at hv (i := 0) (x := s) rfl
    have hM := Tryz.slices_Max_int b off (s :: ss).length cap ((s :: ss).map fun x : Nat => (x : Int)) w (by simp) (by simp) (by omega) (fun j hj => by
      rw [List.length_map] at hj
      obtain ⟨x, hx⟩ : ∃ x, (s :: ss)[j]? = some x := ⟨_, List.getElem?_eq_getElem hj⟩
      obtain ⟨b1, o1, _, e1, _, rfl, hc⟩ := Kind.sl_at hv hx
      simp only [Option.some.injEq, Addr.mk.injEq, and_true] at e1
      obtain ⟨rfl, rfl⟩ := e1
      rw [List.getD_eq_getElem?_getD, List.getElem?_map, hx]
      simpa [intK] using hc 0 _ rfl)
    have e : Lib.maxOf (((s :: ss).map fun x : Nat => (x : Int)).take (s :: ss).length) + 1 = (countP (s :: ss) : Nat) := by
      rw [List.take_of_length_le (by simp)]
      unfold Lib.maxOf
      rw [List.map_cons, List.headD_cons, List.foldl_cons, show max (s : Int) (s : Int) = (s : Int) by omega, foldl_max]
      rfl
    have hcp : countP (s :: ss) ≤ 1000 := countP_le hs
    generalize Lib.maxOf (((s :: ss).map fun x : Nat => (x : Int)).take (s :: ss).length) = mx at *
    generalize countP (s :: ss) = cp at *
    have hmx : mx = (cp : Int) - 1 := by omega
    subst hmx
    have HM := hide hM
    have hne : ¬ ((((s :: ss).length : Nat) : Int) = 0) := by simp; omega
    clear hv hs hM e
    go_enter Tryz.func16, Tryz.ntmps16
    go_wp2_with fail
    refine HM.out.mono ?_
    rintro e w1 ⟨rfl, rfl⟩
    go_wp2
    go_ret
    refine ⟨?_, Later.refl _⟩
    congr 2

end Go.Proofs.YtbohggoeebhdmaaGreatDoor

/- The walk of naive.All. -/
namespace Go.Proofs.YtbohggoeebhdmaaGreatDoor
open Go.RowKit Go.Sort Go.Maps

/-- No stratum is as high as there are rules. -/
theorem lev_small {p : List RuleD} {m : Nums} (hl : Least p m) (hs : Sol p (numOf m)) : ∀ r ∈ p, numOf m r.head.name < p.length := by
  have key : ∀ k, (∃ r ∈ p, k ≤ numOf m r.head.name) → k ≤ (p.map fun r => if numOf m r.head.name < k then 1 else 0).sum := by
    intro k
    induction k with
    | zero => intro _; exact Nat.zero_le _
    | succ k ih =>
      rintro ⟨r, hr, hk⟩
      have h1 := ih ⟨r, hr, by omega⟩
      obtain ⟨q, hq, hqk⟩ : ∃ q ∈ p, numOf m q.head.name = k := by
        refine Classical.byContradiction fun hn => ?_
        have := no_gap hl hs k (fun q hq e => hn ⟨q, hq, e⟩) r hr
        omega
      have h2 : (p.map fun r => if numOf m r.head.name < k then 1 else 0).sum < (p.map fun r => if numOf m r.head.name < k + 1 then 1 else 0).sum := by
        refine sum_lt (fun x _ => ?_) ⟨q, hq, ?_⟩
        · split
          · rw [if_pos (by omega)]; exact Nat.le_refl _
          · exact Nat.zero_le _
        · rw [if_neg (by omega), if_pos (by omega)]; exact Nat.one_pos
      omega
  intro r hr
  have h1 := key _ ⟨r, hr, Nat.le_refl _⟩
  have h2 : (p.map fun q => if numOf m q.head.name < numOf m r.head.name then 1 else 0).sum < (p.map fun _ => 1).sum := by
    refine sum_lt (fun x _ => ?_) ⟨r, hr, ?_⟩
    · split <;> omega
    · rw [if_neg (by omega)]; exact Nat.one_pos
  have h3 : (p.map fun _ => 1).sum = p.length := by
    clear h1 h2 key hr hl hs
    induction p with
    | nil => rfl
    | cons a p ih => simp only [List.map_cons, List.sum_cons, List.length_cons, ih]; omega
  omega

theorem below_drewN {n : Nat} {a b : World} (h : Below n a b) (q : Nat) : Below n a (b.drewN q) := ⟨h.os, h.tape, h.output, h.size, h.block⟩

/-- What All tells. -/
def allP (p : List RuleD) (l : List FactB) : Int × List FactB :=
  if (strataP p).2.1 ≠ 0 then ((strataP p).2.1, []) else if (factsP p l).1 ≠ 0 then ((factsP p l).1, []) else runGo p (strataP p).1 (countP (strataP p).1) 0 l

set_option maxRecDepth 100000 in
set_option maxHeartbeats 4000000 in
theorem naiveAllC (p : List RuleD) (l : List FactB) (pv fv : Value) (w : World) (hv : ruleK.sl Anyw w pv p) (hf : Facts w fv l) :
    Calls Tryz.prog 12 #[pv, fv] w fun e w' => ∃ v' er, e = .returned (.tuple #[v', .int .i64 er]) ∧ OnceT w' v' er (allP p l) ∧ Below w.heap.size w w' := by
  have HSt := hide (strataC p pv w hv)
  obtain ⟨pa, pc, rfl⟩ := Kind.slice hv
  obtain ⟨fa, fc, rfl⟩ := sliceFacts hf
  have HV := hide hv
  have HF := hide hf
  clear hv hf
  obtain ⟨ss, ex, ea, hse⟩ : ∃ ss ex ea, strataP p = (ss, ex, ea) := ⟨_, _, _, rfl⟩
  rw [hse] at HSt
  have HSE := hide hse
  clear hse
  go_enter Tryz.func12, Tryz.ntmps12
  go_wp2_with fail
  refine HSt.out.mono ?_
  rintro e w1 ⟨u, rfl, hu, hB1⟩
  dsimp only at hu ⊢
  have HU : Hid (intK.sl Anyw w1 u ss) := Kind.sl_mono hu fun _ _ _ => trivial
  obtain ⟨ua, uc, rfl⟩ := Kind.slice hu
  have HB1 := hide hB1
  clear hu hB1 HSt
  by_cases h0 : ex = 0
  · subst h0
    obtain ⟨hw0, m, hms, hdm, hlm, hsm⟩ := strataP_ok HSE.out
    have hp := rightP_iff.1 hw0
    have hsm1 : ∀ s ∈ ss, s < 1000 := fun s hs => by
      rw [hms] at hs
      obtain ⟨r, hr, rfl⟩ := List.mem_map.1 hs
      have := lev_small hlm hsm r hr
      have := hp.few
      omega
    have hcs : countP ss ≤ 1000 := countP_le hsm1
    have HMS : Hid (ss = p.map fun r => numOf m r.head.name) := hms
    have HRP := hide hp
    obtain ⟨w2, hw2⟩ : ∃ w2, w2 = w1.alloc (.cells #[.int .i64 0, .int .i64 (ea : Nat)] 27) := ⟨_, rfl⟩
    have hL2 : Later w1 w2 := by rw [hw2]; exact (Later.refl _).alloc _
    have hB2 : Below w.heap.size w w2 := below_trans HB1.out hL2.below HB1.out.size
    have HFC := hide (naiveFactsC p hp (.slice pa p.length pc) (.slice fa l.length fc) l w2 (Kind.sl_below HV.out hB2) (HF.out.below hB2))
    obtain ⟨fx, fe, hfe⟩ : ∃ fx fe, factsP p l = (fx, fe) := ⟨_, _, rfl⟩
    rw [hfe] at HFC
    have HFE := hide hfe
    have HB2 := hide hB2
    have HU2 := hide (Kind.sl_later HU.out hL2)
    have HSm := hide hsm1
    have HW2 := hide hw2
    clear hw0 hms hdm hlm hsm hp hsm1 hL2 hB2 hfe hw2 HB1 HU
    go_wp2_with fail
    rw [← HW2.out]
    refine HFC.out.mono ?_
    rintro e w3 ⟨rfl, hB3⟩
    dsimp only
    have HB3 : Hid (Below w.heap.size w w3) := below_trans HB2.out hB3 HB2.out.size
    have HU3 := hide (Kind.sl_below HU2.out hB3)
    clear hB3 HFC HW2 HB2 HU2
    by_cases h1 : fx = 0
    · subst h1
      have hgood : GoodS p l := facts_good (by rw [HFE.out])
      have HX : Hid (allP p l = runGo p ss (countP ss) 0 l) := by show _ = _; unfold allP; rw [HSE.out, HFE.out]; simp
      obtain ⟨w4, hw4⟩ : ∃ w4, w4 = w3.alloc (.cells #[.int .i64 0, .int .i64 fe] 27) := ⟨_, rfl⟩
      have hL4 : Later w3 w4 := by rw [hw4]; exact (Later.refl _).alloc _
      have hB4 : Below w.heap.size w w4 := below_trans HB3.out hL4.below HB3.out.size
      have HOw := hide (ownC (.slice fa l.length fc) l w4 (HF.out.below hB4))
      have HB4 := hide hB4
      have HU4 := hide (Kind.sl_later HU3.out hL4)
      have HG := hide hgood
      have hfew := hgood.few
      have HW4 := hide hw4
      clear hgood hL4 hB4 hw4 HB3 HU3 HSE HFE
      go_wp2_with fail
      rw [← HW4.out]
      refine HOw.out.mono ?_
      rintro e w5 ⟨v5, rfl, hO5, hL5⟩
      have HF5 : Hid (Facts w5 v5 l) := hO5.facts (by omega)
      have HB5 : Hid (Below w.heap.size w w5) := below_trans HB4.out hL5.below HB4.out.size
      have HU5 := hide (Kind.sl_later HU4.out hL5)
      have HCn := hide (countC ss (.slice ua ss.length uc) w5 HU5.out HSm.out)
      obtain ⟨a5, c5, rfl⟩ := sliceFacts HF5.out
      clear hO5 hL5 HOw HW4 HB4 HU4
      go_wp2_with fail
      refine HCn.out.mono ?_
      rintro e w6 ⟨rfl, hL6⟩
      have HF6 : Hid (Facts w6 (.slice a5 l.length c5) l) := HF5.out.later hL6
      have HB6 : Hid (Below w.heap.size w w6) := below_trans HB5.out hL6.below HB5.out.size
      have HU6 := hide (Kind.sl_later HU5.out hL6)
      have HBw6 : Hid (Below w6.heap.size w6 w6) := Below.refl _ _
      clear hL6 HCn HF5 HB5 HU5
      generalize hc : countP ss = c at *
      have HCC := hide hc
      clear hc
      go_wp2
      go_loopg [9, 34] c (fun g v9 i wr => ∃ j k : Nat, k = g ∧ j + k = c ∧ i = .int .i64 j ∧ ∃ L, Hid (Facts wr v9 L) ∧ Hid (GoodS p L) ∧ Hid (Below w6.heap.size w6 wr) ∧ Hid (allP p l = runGo p ss k j L))
      case atStart => exact ⟨0, c, rfl, by omega, rfl, l, HF6, HG, HBw6, HX⟩
      case round =>
        clear HF6 HG HBw6 HX
        obtain ⟨j, k, hkg, hj, rfl, L, HFr, HG, HBr, HX⟩ := hrel
        have hBwr : Below w.heap.size w wr := below_trans HB6.out HBr.out HB6.out.size
        by_cases hlt : j < c
        · obtain ⟨k', rfl⟩ : ∃ k', k = k' + 1 := ⟨k - 1, by omega⟩
          have hltz : (j : Int) < (c : Int) := by omega
          have hUr := Kind.sl_below HU6.out HBr.out
          obtain ⟨va, vc, hva⟩ := sliceFacts HFr.out
          subst hva
          have hOC := overC p HRP.out (fun r => numOf m r.head.name) j L (.slice pa p.length pc) (.slice ua ss.length uc) (.slice va L.length vc) wr (Kind.sl_below HV.out hBwr) (by rw [← HMS.out]; exact hUr) HFr.out HG.out
          rw [← HMS.out] at hOC
          have HOC := hide hOC
          obtain ⟨er, S, hS⟩ : ∃ er S, overGo p ss (j : Int) 201 L = (er, S) := ⟨_, _, rfl⟩
          rw [hS] at HOC
          have hX : allP p l = if er ≠ 0 then (er, []) else runGo p ss k' (j + 1) S := by rw [HX.out, runGo, hS]
          have HXX := hide hX
          have HBwr := hide hBwr
          clear hUr hOC hS hX HX hBwr
          go_wp2_with fail
          refine HOC.out.mono ?_
          rintro e w7 ⟨v7, er', rfl, ⟨her, hT1, hT2⟩, hG7, hB7⟩
          dsimp only at her hT1 hT2 hG7 ⊢
          have her' := her.symm
          clear her
          subst her'
          have HB7 : Hid (Below w.heap.size w w7) := below_trans HBwr.out hB7 HBwr.out.size
          have HB67 : Hid (Below w6.heap.size w6 w7) := below_trans HBr.out hB7 HBr.out.size
          clear HOC hB7
          by_cases he : er = 0
          · subst he
            have HF7 := hide (hT2 rfl)
            have HG7 := hide (hG7 rfl)
            have HX7 : Hid (allP p l = runGo p ss k' (j + 1) S) := by show _ = _; rw [HXX.out, if_neg (by simp)]
            obtain ⟨a7, c7, rfl⟩ := sliceFacts HF7.out
            clear hT1 hT2 hG7 HXX
            go_wp2
            go_roundg k'
            case measure => omega
            case rel => exact ⟨j + 1, k', rfl, by omega, by go_num, S, HF7, HG7, HB67, HX7⟩
          · have e2 := hT1 he
            subst e2
            have HT : Hid (∀ w', OnceT w' (.slice none 0 0) er (allP p l)) := fun w' => by rw [HXX.out, if_pos he]; exact ⟨rfl, fun _ => rfl, fun h => absurd h he⟩
            have hne : (er != 0) = true := by simpa using he
            clear hT1 hT2 hG7 HXX
            go_wp2
            exact bodyPost_ret (v := .tuple #[.slice none 0 0, .int .i64 er]) (by simp [results, Tryz.results12, go_sem]) rfl ⟨_, er, rfl, HT.out _, HB7.out⟩
        · have hk0 : k = 0 := by omega
          have HBwr := hide hBwr
          obtain ⟨va, vc, hva⟩ := sliceFacts HFr.out
          subst hva
          have HT : Hid (OnceT wr (.slice va L.length vc) 0 (allP p l)) := by
            show OnceT wr _ 0 (allP p l)
            rw [HX.out, hk0]; exact ⟨rfl, fun h => absurd rfl h, fun _ => HFr.out⟩
          clear hBwr HX
          go_wp2
          exact bodyPost_ret (v := .tuple #[.slice va L.length vc, .int .i64 0]) (by simp [results, Tryz.results12, go_sem]) rfl ⟨_, 0, rfl, HT.out, HBwr.out⟩
    · have HT : Hid (∀ w', OnceT w' (.slice none 0 0) fx (allP p l)) := fun w' => by unfold allP; rw [HSE.out, HFE.out]; simp only [ne_eq, not_true_eq_false, if_false, h1, not_false_eq_true, if_true]; exact ⟨rfl, fun _ => rfl, fun h => absurd h h1⟩
      have hne : (fx != 0) = true := by simpa using h1
      have HB4 : Hid (Below w.heap.size w (w3.alloc (.cells #[.int .i64 fx, .int .i64 fe] 27))) := below_trans HB3.out ((Later.refl _).alloc _).below HB3.out.size
      clear HSE HFE h1 HV HF HU3
      go_wp2
      go_quiet (fail)
      go_wp2
      exact bodyPost_ret (v := .tuple #[.slice none 0 0, .int .i64 fx]) (by simp [results, Tryz.results12, go_sem]) rfl ⟨_, fx, rfl, HT.out _, below_drewN HB4.out _⟩
  · have HT : Hid (∀ w', OnceT w' (.slice none 0 0) ex (allP p l)) := fun w' => by unfold allP; rw [HSE.out]; simp only [ne_eq, h0, not_false_eq_true, if_true]; exact ⟨rfl, fun _ => rfl, fun h => absurd h h0⟩
    have hne : (ex != 0) = true := by simpa using h0
    have HB4 : Hid (Below w.heap.size w (w1.alloc (.cells #[.int .i64 ex, .int .i64 (ea : Nat)] 27))) := below_trans HB1.out ((Later.refl _).alloc _).below HB1.out.size
    clear HSE h0 HV HF HU
    go_wp2
    go_quiet (fail)
    go_wp2
    exact bodyPost_ret (v := .tuple #[.slice none 0 0, .int .i64 ex]) (by simp [results, Tryz.results12, go_sem]) rfl ⟨_, ex, rfl, HT.out _, below_drewN HB4.out _⟩

end Go.Proofs.YtbohggoeebhdmaaGreatDoor

/- What follows, in a form that the kernel reckons: sorting by putting in. Nothing of the program. -/
namespace Go.Proofs.YtbohggoeebhdmaaGreatDoor

def insB {α : Type} (c : α → α → Int) (x : α) : List α → List α
  | [] => [x]
  | y :: l => if c x y ≤ 0 then x :: y :: l else y :: insB c x l
def isortB {α : Type} (c : α → α → Int) : List α → List α
  | [] => []
  | x :: l => insB c x (isortB c l)

section
variable {α : Type} {c : α → α → Int}
theorem insB_perm (x : α) : ∀ l : List α, (insB c x l).Perm (x :: l)
  | [] => List.Perm.refl _
  | y :: l => by
    unfold insB
    split
    · exact List.Perm.refl _
    · exact ((insB_perm x l).cons y).trans (List.Perm.swap x y l)
theorem isortB_perm : ∀ l : List α, (isortB c l).Perm l
  | [] => List.Perm.refl _
  | x :: l => (insB_perm x _).trans ((isortB_perm l).cons x)
theorem insB_sorted (h : Three c) (x : α) : ∀ l : List α, (l.Pairwise fun a b => c a b ≤ 0) → (insB c x l).Pairwise fun a b => c a b ≤ 0
  | [], _ => by simp [insB]
  | y :: l, hl => by
    have hl' := List.pairwise_cons.1 hl
    unfold insB
    split
    · rename_i hxy
      refine List.pairwise_cons.2 ⟨fun z hz => ?_, hl⟩
      rcases List.mem_cons.1 hz with rfl | hz
      · exact hxy
      · exact h.le_trans hxy (hl'.1 z hz)
    · rename_i hxy
      refine List.pairwise_cons.2 ⟨fun z hz => ?_, insB_sorted h x l hl'.2⟩
      rcases List.mem_cons.1 ((insB_perm x l).mem_iff.1 hz) with rfl | hz
      · have := h.swap z y; omega
      · exact hl'.1 z hz
theorem isortB_sorted (h : Three c) : ∀ l : List α, (isortB c l).Pairwise fun a b => c a b ≤ 0
  | [] => List.Pairwise.nil
  | x :: l => insB_sorted h x _ (isortB_sorted h l)
theorem sortBy_ins (h : Three c) (l : List α) : sortBy c l = isortB c l := (sortBy_of h (isortB_perm l) (isortB_sorted h l)).symm
end

def eS (a b : ByteArray) : Int := if Op.bytesLess a.data.toList b.data.toList then -1 else if a.data.toList == b.data.toList then 0 else 1
def eL : List ByteArray → List ByteArray → Int
  | [], [] => 0
  | [], _ :: _ => -1
  | _ :: _, [] => 1
  | a :: x, b :: y => if eS a b ≠ 0 then eS a b else eL x y
def eF (f g : FactB) : Int := if eS f.1 g.1 ≠ 0 then eS f.1 g.1 else if cmpI f.2.length g.2.length ≠ 0 then cmpI f.2.length g.2.length else eL f.2 g.2
def eB (a b : BindD) : Int := if eS a.1 b.1 ≠ 0 then eS a.1 b.1 else eS a.2 b.2

theorem eS_eq : cmpS = eS := by funext a b; unfold cmpS eS; rw [Lib.toList_data, Lib.toList_data]
theorem eL_eq : cmpL = eL := by
  funext x y
  induction x generalizing y with
  | nil => cases y <;> rfl
  | cons a x ih => cases y with
    | nil => rfl
    | cons b y => simp only [cmpL, eL, eS_eq, ih]
theorem eF_eq : cmpF = eF := by funext f g; unfold cmpF eF; rw [eS_eq, eL_eq]
theorem eB_eq : cmpB = eB := by funext a b; unfold cmpB eB; rw [eS_eq]

def setI (l : List FactB) : List FactB := isortB eF (dropTwice l)
theorem setI_eq (l : List FactB) : setF l = setI l := by unfold setF setI; rw [sortBy_ins three_cmpF, eF_eq]

def allI (fs : List FactB) (body : List AtomD) : Option (List (List BindD)) := match metGo (fun _ => fs) 0 body [[]] with
  | none => none
  | some ms => some (isortB (cmpX eB) ((ms.filter fun l => !barredB (fun _ => fs) 0 body l).map (isortB eB)))
theorem allI_eq (fs : List FactB) (body : List AtomD) : allB (fun _ => fs) body = allI fs body := by
  have e1 : (sortB : List BindD → List BindD) = isortB eB := by funext l; show sortBy cmpB l = _; rw [sortBy_ins three_cmpB, eB_eq]
  unfold allB allI
  cases metGo (fun _ => fs) 0 body [[]] with
  | none => rfl
  | some ms =>
    dsimp only
    rw [sortBy_ins three_cmpBs, e1, show cmpBs = cmpX eB from by rw [← eB_eq]]

def headsI (r : RuleD) (fs : List FactB) : Option (List FactB) := match allI fs r.body with
  | none => none
  | some R => some (setI (R.filterMap fun l => fillB r.head l))
theorem headsI_eq (r : RuleD) (fs : List FactB) : headsP r fs = headsI r fs := by
  unfold headsP headsI
  rw [allI_eq]
  cases allI fs r.body with
  | none => rfl
  | some R => dsimp only; rw [setI_eq]

def onceI (n : Int) (fs : List FactB) : List RuleD → List Nat → List FactB → Int × List FactB
  | [], _, acc => (0, setI acc)
  | _ :: _, [], acc => (0, setI acc)
  | r :: p, s :: ss, acc => if (s : Int) = n then
      match headsI r fs with
      | none => (4, [])
      | some x => if 200 < (setI (acc ++ x)).length then (5, []) else onceI n fs p ss (acc ++ x)
    else onceI n fs p ss acc
theorem onceI_eq (n : Int) (fs : List FactB) : ∀ (p : List RuleD) (ss : List Nat) (acc : List FactB), onceGo n fs p ss acc = onceI n fs p ss acc
  | [], _, acc => by simp only [onceGo, onceI, setI_eq]
  | _ :: _, [], acc => by simp only [onceGo, onceI, setI_eq]
  | r :: p, s :: ss, acc => by
    simp only [onceGo, onceI]
    rw [headsI_eq]
    split
    · cases headsI r fs with
      | none => rfl
      | some x =>
        dsimp only
        rw [setI_eq, onceI_eq n fs p ss]
    · exact onceI_eq n fs p ss acc

def overI (p : List RuleD) (ss : List Nat) (n : Int) : Nat → List FactB → Int × List FactB
  | 0, l => (0, l)
  | k + 1, l => match onceI n l p ss l with
    | (e, x) => if e ≠ 0 then (e, []) else if x.length = l.length then (0, x) else overI p ss n k x
theorem overI_eq (p : List RuleD) (ss : List Nat) (n : Int) : ∀ (k : Nat) (l : List FactB), overGo p ss n k l = overI p ss n k l
  | 0, l => rfl
  | k + 1, l => by
    unfold overGo overI onceP
    rw [onceI_eq]
    obtain ⟨e, x, h⟩ : ∃ e x, onceI n l p ss l = (e, x) := ⟨_, _, rfl⟩
    rw [h]
    dsimp only
    rw [overI_eq p ss n k x]

def runI (p : List RuleD) (ss : List Nat) : Nat → Nat → List FactB → Int × List FactB
  | 0, _, l => (0, l)
  | c + 1, n, l => match overI p ss n 201 l with
    | (e, x) => if e ≠ 0 then (e, []) else runI p ss c (n + 1) x
theorem runI_eq (p : List RuleD) (ss : List Nat) : ∀ (c n : Nat) (l : List FactB), runGo p ss c n l = runI p ss c n l
  | 0, n, l => rfl
  | c + 1, n, l => by
    unfold runGo runI
    rw [overI_eq]
    obtain ⟨e, x, h⟩ : ∃ e x, overI p ss n 201 l = (e, x) := ⟨_, _, rfl⟩
    rw [h]
    dsimp only
    rw [runI_eq p ss c (n + 1) x]

end Go.Proofs.YtbohggoeebhdmaaGreatDoor

/- The walks of syntax.read at rules, and of what calls it: a fault that is thrown is caught at the edge. -/
namespace Go.Proofs.YtbohggoeebhdmaaGreatDoor
open Go.RowKit Go.Sort

theorem assertThrown (v : Value) (w : World) : (Instr.typeAssert (.iface 167 v) 20 167 false).run Tryz.prog w = .ok v w := by
  kernel_rfl
theorem fieldThrown (x y : Int) (w : World) : (Instr.field 167 (.agg #[.int .i64 x, .int .i64 y]) 0).run Tryz.prog w = .ok (.agg #[.int .i64 x, .int .i64 y]) w := by
  kernel_rfl

set_option maxRecDepth 100000 in
set_option maxHeartbeats 1000000 in
theorem catchRule (b : Nat) (x y : Int) (u0 u1 : Value) (w : World) (c0 : w.cell? ⟨b, 0, none⟩ = some u0) (c1 : w.cell? ⟨b, 1, none⟩ = some u1) (f0 : w.frozen? ⟨b, 0, none⟩ = false) (f1 : w.frozen? ⟨b, 1, none⟩ = false) :
    CallsD Tryz.prog 123 #[.pointer (some ⟨b, 0, none⟩)] (.panicking [{ v := .iface 167 (.agg #[.int .i64 x, .int .i64 y]), recovered := false }]) w fun e u' w' =>
      e = .returned (.tuple #[]) ∧ u' = .panicking [{ v := .iface 167 (.agg #[.int .i64 x, .int .i64 y]), recovered := true }] ∧ w' = (w.setCell ⟨b, 0, none⟩ (.int .i64 x)).setCell ⟨b, 1, none⟩ (.int .i64 y) := by
  have hta : ∀ (v : Value) (w : World), (Instr.typeAssert (.iface 167 v) 20 167 false).run Tryz.prog w = .ok v w := assertThrown
  have hfl := fieldThrown
  refine callsD_of_wpS Tryz.func123 rfl fun c₀ cs hu => ?_
  apply wpS_seq
  apply wpS_region
  simp [wpOpsS, go_sem, recoverD, hu, Tryz.ntmps123, Exit.thenS]
  refine wpS_of_wp ?_
  go_wp2
  simp [bodyPostS, results, Tryz.results123]

set_option maxRecDepth 100000 in
set_option maxHeartbeats 1000000 in
theorem idleRule (b : Nat) (w : World) :
    CallsD Tryz.prog 123 #[.pointer (some ⟨b, 0, none⟩)] .returning w fun e u' w' => e = .returned (.tuple #[]) ∧ u' = .returning ∧ w' = w := by
  refine callsD_of_wpS Tryz.func123 rfl fun c₀ cs hu => ?_
  apply wpS_seq
  apply wpS_region
  simp [wpOpsS, go_sem, recoverD, hu, Tryz.ntmps123, Exit.thenS]
  refine wpS_of_wp ?_
  go_wp2
  cases c₀
  simp_all [bodyPostS, results, Tryz.results123]

/-- What a call answers beside a fault; where; that. -/
def toldRule (s : Bs) : List RuleD × Int × Nat :=
  if 3000 < s.length then ([], 4, 0) else match rulesGo 16 [] s with
    | .ok out _ => (out, 0, 0)
    | .bad n r => ([], n, s.length - r.length)

set_option maxRecDepth 100000 in
set_option maxHeartbeats 2000000 in
theorem readRule (s : ByteArray) (w : World) (m : Int) (hm : w.cell? ⟨3, 0, none⟩ = some (.int .i64 m)) :
    Calls Tryz.prog 85 #[.string s, .func (.func 86) #[] #[]] w fun e w' => ∃ v, e = .returned (.tuple #[v, .agg #[.int .i64 (toldRule (raw s)).2.1, .int .i64 (toldRule (raw s)).2.2]]) ∧ ruleK.sl (From w.heap.size) w' v (toldRule (raw s)).1 ∧ Below w.heap.size w w' := by
  have hmf : ∀ (fn : Fn) (first cap : Array Value) (w : World), (Instr.makeFunc fn first cap).run Tryz.prog w = .ok (.func fn first cap) w := fun _ _ _ _ => rfl
  by_cases hs : 3000 < s.size
  · have HX : Hid (toldRule (raw s) = ([], 4, 0)) := by show _ = _; unfold toldRule; rw [if_pos (by rw [length_raw]; exact hs)]
    have hs' : (3000 : Int) < s.size := by omega
    go_enter_defers Tryz.func85, Tryz.ntmps85
    go_wp2
    simp only [bodyPostD]
    refine ⟨.tuple #[.slice none 0 0, .agg #[.int .i64 4, .int .i64 0]], by simp [results, Tryz.results85, go_sem], ?_⟩
    exact ⟨_, by rw [HX.out]; rfl, by rw [HX.out]; exact ruleK.sl_nil _ _ _ _, ((Later.refl w).alloc _).below⟩
  · have h0 : 3 < w.heap.size := World.block_lt_of_cell? w _ hm
    have hRd : Rd ((w.alloc (.cells #[.int .i64 0, .int .i64 0] 27)).alloc (.cells #[.string s, .int .i64 0] 171)) (w.heap.size + 1) s (raw s) := by
      have hr : ((w.alloc (.cells #[.int .i64 0, .int .i64 0] 27)).alloc (.cells #[.string s, .int .i64 0] 171)).heap[w.heap.size + 1]? = some (.cells #[.string s, .int .i64 0] 171 (0, 0)) := by
        have := heap_alloc_new (w.alloc (.cells #[.int .i64 0, .int .i64 0] 27)) (.cells #[.string s, .int .i64 0] 171)
        simpa using this
      refine ⟨by omega, List.suffix_refl _, by simp, by omega, by rw [cell_of_row _ _ _ _ _ _ hr]; rfl, ?_, frozen_row hr, m, ?_⟩
      · rw [cell_of_row _ _ _ _ _ _ hr, pos, length_raw, Nat.sub_self]; rfl
      · rw [(((Later.refl w).alloc (.cells #[.int .i64 0, .int .i64 0] 27)).alloc (.cells #[.string s, .int .i64 0] 171)).cell (p := ⟨3, 0, none⟩) h0]; exact hm
    have HC := hide (rulesC _ s _ _ hRd)
    have hs' : ¬ (3000 : Int) < s.size := by omega
    go_enter_defers Tryz.func85, Tryz.ntmps85
    go_wp2_with fail
    refine HC.out.mono ?_
    intro e w1 hE
    have hBB : Below w.heap.size w ((w.alloc (.cells #[.int .i64 0, .int .i64 0] 27)).alloc (.cells #[.string s, .int .i64 0] 171)) := (((Later.refl w).alloc _).alloc _).below
    have hfr : ((w.alloc (.cells #[.int .i64 0, .int .i64 0] 27)).alloc (.cells #[.string s, .int .i64 0] 171)).heap[w.heap.size]? = some (.cells #[.int .i64 0, .int .i64 0] 27 (0, 0)) := by
      rw [Below.heap_alloc _ _ _ (by simp)]; exact heap_alloc_new w _
    have hsz : ((w.alloc (.cells #[.int .i64 0, .int .i64 0] 27)).alloc (.cells #[.string s, .int .i64 0] 171)).heap.size = w.heap.size + 2 := by simp
    rw [hsz] at hE
    generalize (w.alloc (.cells #[.int .i64 0, .int .i64 0] 27)).alloc (.cells #[.string s, .int .i64 0] 171) = wb at *
    obtain ⟨hT, ⟨a, r, v, hx, rfl, hV, hR⟩ | ⟨n, r, hx, rfl, hR⟩⟩ := hE.split
    all_goals
      have hrow := hT.row hfr (b := w.heap.size) (by omega)
      have z0 : w1.cell? ⟨w.heap.size, 0, none⟩ = some (.int .i64 0) := by rw [cell_of_row _ _ _ _ _ _ hrow]; rfl
      have z1 : w1.cell? ⟨w.heap.size, 1, none⟩ = some (.int .i64 0) := by rw [cell_of_row _ _ _ _ _ _ hrow]; rfl
      have f0 := frozen_row (j := 0) hrow
      have f1 := frozen_row (j := 1) hrow
      have hB1 : Below w.heap.size w w1 := ⟨hT.os.trans hBB.os, hT.tape.trans hBB.tape, hT.output.trans hBB.output, by have := hT.size; omega, fun k hk => (hT.block k (by omega) (by omega)).trans (hBB.block k hk)⟩
    · have HX : Hid (toldRule (raw s) = (a, 0, 0)) := by show _ = _; unfold toldRule; rw [if_neg (by rw [length_raw]; exact hs), hx]
      have HV := hide hV
      have HB := hide hB1
      obtain ⟨av, cv, rfl⟩ := Kind.slice hV
      clear hE hT hx hR hBB hfr hRd HC hB1 hV hrow
      go_wp2
      refine leaves_cons (f := 123) (args := #[.pointer (some ⟨w.heap.size, 0, none⟩)]) (by simp) (by simp [go_sem]) ?_
      refine (idleRule _ _).mono ?_
      rintro e u' w'' ⟨rfl, rfl, rfl⟩
      refine ⟨.tuple #[.slice av a.length cv, .agg #[.int .i64 0, .int .i64 0]], by simp [results, Tryz.results85, go_sem, z0, z1], _, by rw [HX.out]; rfl, ?_, ?_⟩
      · rw [HX.out]
        exact Kind.sl_mono (Kind.sl_turned HV.out (((Tn.refl w.heap.size w1).moved _ _).moved _ _) (by omega)) (fun k _ hB => by have : w.heap.size + 2 ≤ k := hB; show w.heap.size ≤ k; omega)
      · exact (HB.out.setCell (Nat.le_refl _) _).setCell (Nat.le_refl _) _
    · have HX : Hid (toldRule (raw s) = ([], n, pos s r)) := by show _ = _; unfold toldRule; rw [if_neg (by rw [length_raw]; exact hs), hx, length_raw]; rfl
      refine leaves_cons (f := 123) (args := #[.pointer (some ⟨w.heap.size, 0, none⟩)]) (by simp) (by simp [go_sem]) ?_
      refine (catchRule _ _ _ _ _ _ z0 z1 f0 f1).mono ?_
      rintro e u' w'' ⟨rfl, rfl, rfl⟩
      refine ⟨.tuple #[.slice none 0 0, .agg #[.int .i64 n, .int .i64 (pos s r)]], by simp [results, Tryz.results85, go_sem, z0, z1], _, by rw [HX.out], ?_, ?_⟩
      · rw [HX.out]; exact ruleK.sl_nil _ _ _ _
      · exact (hB1.setCell (Nat.le_refl _) _).setCell (Nat.le_refl _) _

set_option maxHeartbeats 1000000 in
theorem parseC (s : ByteArray) (w : World) (m : Int) (hm : w.cell? ⟨3, 0, none⟩ = some (.int .i64 m)) :
    Calls Tryz.prog 51 #[.string s] w fun e w' => ∃ v, e = .returned (.tuple #[v, .agg #[.int .i64 (toldRule (raw s)).2.1, .int .i64 (toldRule (raw s)).2.2]]) ∧ ruleK.sl (From w.heap.size) w' v (toldRule (raw s)).1 ∧ Below w.heap.size w w' := by
  have hb0 := World.block_lt_of_cell? w _ hm
  have hA := ((Later.refl w).alloc (.cells #[.int .i64 0, .int .i64 0] 27))
  have HC := hide (readRule s (w.alloc (.cells #[.int .i64 0, .int .i64 0] 27)) m (by rw [hA.cell (p := ⟨3, 0, none⟩) hb0]; exact hm))
  go_enter Tryz.func51, Tryz.ntmps51
  go_wp2_with fail
  refine HC.out.mono ?_
  rintro e w1 ⟨v, rfl, hV, hB⟩
  have hrow : w1.heap[w.heap.size]? = some (.cells #[.int .i64 0, .int .i64 0] 27 (0, 0)) := by
    rw [hB.block _ (by simp)]; exact heap_alloc_new w _
  have z0 : w1.cell? ⟨w.heap.size, 0, none⟩ = some (.int .i64 0) := by rw [cell_of_row _ _ _ _ _ _ hrow]; rfl
  have z1 : w1.cell? ⟨w.heap.size, 1, none⟩ = some (.int .i64 0) := by rw [cell_of_row _ _ _ _ _ _ hrow]; rfl
  have f0 := frozen_row (j := 0) hrow
  have f1 := frozen_row (j := 1) hrow
  have HB : Hid (Below w.heap.size w w1) := ⟨hB.os.trans hA.below.os, hB.tape.trans hA.below.tape, hB.output.trans hA.below.output, by have := hB.size; simp at this; omega, fun k hk => (hB.block k (by simp; omega)).trans (hA.below.block k hk)⟩
  have HV := hide hV
  obtain ⟨av, cv, rfl⟩ := Kind.slice hV
  clear hV hB hA HC hrow hm
  generalize hy : toldRule (raw s) = y at HV ⊢
  have HY := hide hy
  clear hy
  obtain ⟨out, n, k⟩ := y
  dsimp only at HV ⊢
  go_wp2
  refine bodyPost_ret (v := .tuple #[.slice av out.length cv, .agg #[.int .i64 n, .int .i64 k]]) (by simp [results, Tryz.results51, go_sem, z0, z1]) rfl ?_
  refine ⟨.slice av out.length cv, by rw [HY.out], ?_, (HB.out.setCell (Nat.le_refl _) _).setCell (Nat.le_refl _) _⟩
  rw [HY.out]
  exact Kind.sl_mono (Kind.sl_turned HV.out (((Tn.refl w.heap.size w1).moved _ _).moved _ _) (by simp)) (fun k _ hB => by have : (w.alloc _).heap.size ≤ k := hB; simp at this; show w.heap.size ≤ k; omega)

end Go.Proofs.YtbohggoeebhdmaaGreatDoor

/- The walk of chapter 5's statements' closed beginning, alive. -/
namespace Go.Proofs.YtbohggoeebhdmaaGreatDoor
open Go.RowKit Go.Sort

def kb (l : Bs) : ByteArray := ⟨l.toArray⟩
/-- The rules of the closed beginning. -/
def ruls5 : List RuleD :=
  [⟨⟨false, [116], [(true, [88]), (true, [89])]⟩, [⟨false, [101], [(true, [88]), (true, [89])]⟩]⟩,
   ⟨⟨false, [116], [(true, [88]), (true, [90])]⟩, [⟨false, [116], [(true, [88]), (true, [89])]⟩, ⟨false, [101], [(true, [89]), (true, [90])]⟩]⟩,
   ⟨⟨false, [110], [(true, [88])]⟩, [⟨false, [118], [(true, [88])]⟩, ⟨true, [116], [(false, [97]), (true, [88])]⟩]⟩]
def told5 : List FactB := [(kb [101], [kb [97], kb [98]]), (kb [101], [kb [98], kb [99]]), (kb [118], [kb [97]]), (kb [118], [kb [99]])]
def all5 : List FactB := [(kb [101], [kb [97], kb [98]]), (kb [101], [kb [98], kb [99]]), (kb [110], [kb [97]]), (kb [116], [kb [97], kb [98]]), (kb [116], [kb [97], kb [99]]), (kb [116], [kb [98], kb [99]]), (kb [118], [kb [97]]), (kb [118], [kb [99]])]
def txt5 : Bs := [116, 40, 88, 44, 89, 41, 32, 58, 45, 32, 101, 40, 88, 44, 89, 41, 46, 32, 116, 40, 88, 44, 90, 41, 32, 58, 45, 32, 116, 40, 88, 44, 89, 41, 44, 32, 101, 40, 89, 44, 90, 41, 46, 32, 110, 40, 88, 41, 32, 58, 45, 32, 118, 40, 88, 41, 44, 32, 33, 116, 40, 97, 44, 88, 41, 46]

theorem told_txt5 : toldRule txt5 = (ruls5, 0, 0) := by kernel_rfl
theorem strata5 : strataP ruls5 = ([0, 0, 1], 0, 0) := by kernel_rfl
theorem run5 : runI ruls5 [0, 0, 1] 2 0 told5 = (0, all5) := by decide +kernel
theorem up_told5 : Up told5 := by show List.Pairwise _ _; rw [eF_eq]; decide +kernel
theorem up_all5 : Up all5 := by show List.Pairwise _ _; rw [eF_eq]; decide +kernel
theorem right_told5 : ∀ f ∈ told5, wrongF f = 0 := by decide +kernel
theorem fit_told5 : ∀ f ∈ told5, fitF ruls5 f = true := by decide +kernel
theorem good_told5 : GoodS ruls5 told5 := ⟨up_told5, fun f hf => wrongF_right.1 (right_told5 f hf), by decide, fit_told5⟩
theorem count5 : countP [0, 0, 1] = 2 := by decide
theorem allP5 : allP ruls5 told5 = (0, all5) := by
  have e1 : (strataP ruls5).2.1 = 0 := by rw [strata5]
  have e2 : (strataP ruls5).1 = [0, 0, 1] := by rw [strata5]
  have e3 : (factsP ruls5 told5).1 = 0 := by rw [good_facts good_told5]
  unfold allP
  rw [if_neg (fun h => h e1), if_neg (fun h => h e3), e2, count5, runI_eq]
  exact run5

theorem strs1 {w : World} {c : Nat} {a : ByteArray} {t : TypeId} {fr : Nat × Nat} (h : w.heap[c]? = some (.cells #[.string a] t fr)) : Strs w (.slice (some ⟨c, 0, none⟩) 1 1) [a] := by
  refine ⟨by simp, _, 1, rfl, fun _ => ⟨c, 0, rfl, (Array.getElem?_eq_some_iff.1 h).1, fun i hi => ?_⟩⟩
  rw [cell_of_row _ _ _ _ _ _ h]
  simp at hi
  subst hi
  rfl
theorem strs2' {w : World} {c : Nat} {a b : ByteArray} {t : TypeId} {fr : Nat × Nat} (h : w.heap[c]? = some (.cells #[.string a, .string b] t fr)) : Strs w (.slice (some ⟨c, 0, none⟩) 2 2) [a, b] := by
  refine ⟨by simp, _, 2, rfl, fun _ => ⟨c, 0, rfl, (Array.getElem?_eq_some_iff.1 h).1, fun i hi => ?_⟩⟩
  rw [cell_of_row _ _ _ _ _ _ h]
  simp at hi
  have : i = 0 ∨ i = 1 := by omega
  rcases this with rfl | rfl <;> rfl
theorem facts4 {w : World} {c : Nat} {n0 n1 n2 n3 : ByteArray} {s0 s1 s2 s3 : Value} {l0 l1 l2 l3 : List ByteArray} {t : TypeId} {fr : Nat × Nat} (h : w.heap[c]? = some (.cells #[.string n0, s0, .string n1, s1, .string n2, s2, .string n3, s3] t fr)) (h0 : Strs w s0 l0) (h1 : Strs w s1 l1) (h2 : Strs w s2 l2) (h3 : Strs w s3 l3) :
    Facts w (.slice (some ⟨c, 0, none⟩) 4 4) [(n0, l0), (n1, l1), (n2, l2), (n3, l3)] := by
  refine ⟨by simp, _, 4, rfl, fun _ => ⟨c, 0, rfl, (Array.getElem?_eq_some_iff.1 h).1, fun i hi => ?_⟩⟩
  rw [cell_of_row _ _ _ _ _ _ h, cell_of_row _ _ _ _ _ _ h]
  simp at hi
  have : i = 0 ∨ i = 1 ∨ i = 2 ∨ i = 3 := by omega
  rcases this with rfl | rfl | rfl | rfl
  · exact ⟨rfl, s0, rfl, h0⟩
  · exact ⟨rfl, s1, rfl, h1⟩
  · exact ⟨rfl, s2, rfl, h2⟩
  · exact ⟨rfl, s3, rfl, h3⟩

set_option maxRecDepth 100000 in
set_option maxHeartbeats 4000000 in
theorem alive5 (w : World) (m : Int) (hm : w.cell? ⟨3, 0, none⟩ = some (.int .i64 m)) : Calls Tryz.prog 22 #[] w fun e w' => e = .returned (.bool true) ∧ Below w.heap.size w w' := by
  have HP := hide (parseC (bs txt5) w m hm)
  rw [raw_bs, told_txt5] at HP
  clear hm
  go_enter Tryz.func22, Tryz.ntmps22
  go_wp2_with fail
  refine HP.out.mono ?_
  rintro e w1 ⟨v1, rfl, hV1, hB1⟩
  dsimp only at hV1 ⊢
  have HV1 := hide (Kind.sl_any hV1)
  have HB1 := hide hB1
  obtain ⟨va, vc, rfl⟩ := Kind.slice hV1
  clear HP hV1 hB1
  obtain ⟨w2, hw2⟩ : ∃ w2, w2 = (((((w1.alloc (.cells #[.int .i64 0, .int .i64 0] 27)).alloc (.cells #[.string { data := #[97] }, .string { data := #[98] }] 9)).alloc (.cells #[.string { data := #[98] }, .string { data := #[99] }] 9)).alloc (.cells #[.string { data := #[97] }] 9)).alloc (.cells #[.string { data := #[99] }] 9)).alloc (.cells #[.string { data := #[101] }, .slice (some ⟨w1.heap.size + 1, 0, none⟩) 2 2, .string { data := #[101] }, .slice (some ⟨w1.heap.size + 1 + 1, 0, none⟩) 2 2, .string { data := #[118] }, .slice (some ⟨w1.heap.size + 1 + 1 + 1, 0, none⟩) 1 1, .string { data := #[118] }, .slice (some ⟨w1.heap.size + 1 + 1 + 1 + 1, 0, none⟩) 1 1] 54) := ⟨_, rfl⟩
  have hL2 : Later w1 w2 := by rw [hw2]; exact (by repeat (first | exact Later.refl _ | assumption | refine Later.drewN ?_ _ | refine Later.drew ?_ | refine Later.alloc ?_ _ | refine Later.grow ?_ _))
  have r1 : w2.heap[w1.heap.size + 1]? = some (.cells #[.string { data := #[97] }, .string { data := #[98] }] 9 (0, 0)) := by
    rw [hw2]
    simp only [heap_at, World.size_alloc]
    repeat (first | rw [if_pos trivial] | rw [if_pos (by omega)] | rw [if_neg (by omega)])
  have r2 : w2.heap[w1.heap.size + 1 + 1]? = some (.cells #[.string { data := #[98] }, .string { data := #[99] }] 9 (0, 0)) := by
    rw [hw2]
    simp only [heap_at, World.size_alloc]
    repeat (first | rw [if_pos trivial] | rw [if_pos (by omega)] | rw [if_neg (by omega)])
  have r3 : w2.heap[w1.heap.size + 1 + 1 + 1]? = some (.cells #[.string { data := #[97] }] 9 (0, 0)) := by
    rw [hw2]
    simp only [heap_at, World.size_alloc]
    repeat (first | rw [if_pos trivial] | rw [if_pos (by omega)] | rw [if_neg (by omega)])
  have r4 : w2.heap[w1.heap.size + 1 + 1 + 1 + 1]? = some (.cells #[.string { data := #[99] }] 9 (0, 0)) := by
    rw [hw2]
    simp only [heap_at, World.size_alloc]
    repeat (first | rw [if_pos trivial] | rw [if_pos (by omega)] | rw [if_neg (by omega)])
  have r5 : w2.heap[w1.heap.size + 1 + 1 + 1 + 1 + 1]? = some (.cells #[.string { data := #[101] }, .slice (some ⟨w1.heap.size + 1, 0, none⟩) 2 2, .string { data := #[101] }, .slice (some ⟨w1.heap.size + 1 + 1, 0, none⟩) 2 2, .string { data := #[118] }, .slice (some ⟨w1.heap.size + 1 + 1 + 1, 0, none⟩) 1 1, .string { data := #[118] }, .slice (some ⟨w1.heap.size + 1 + 1 + 1 + 1, 0, none⟩) 1 1] 54 (0, 0)) := by
    rw [hw2]
    simp only [heap_at, World.size_alloc]
    repeat (first | rw [if_pos trivial] | rw [if_pos (by omega)] | rw [if_neg (by omega)])
  have hF : Facts w2 (.slice (some ⟨w1.heap.size + 1 + 1 + 1 + 1 + 1, 0, none⟩) 4 4) told5 := facts4 r5 (strs2' r1) (strs2' r2) (strs1 r3) (strs1 r4)
  have HO := hide (ofC _ told5 w2 hF)
  have HB2 := hide (below_trans HB1.out hL2.below HB1.out.size)
  have HV2 := hide (Kind.sl_later HV1.out hL2)
  have HW2 := hide hw2
  clear hL2 r1 r2 r3 r4 r5 hF hw2 HB1 HV1
  go_wp2_with fail
  rw [← HW2.out]
  refine HO.out.mono ?_
  rintro e w3 ⟨v3, s, rfl, hS, hO3, hL3⟩
  have es : s = told5 := by rw [setF_of hS.1 hS.2.1, setF_up_self up_told5]
  subst es
  have hF3 : Facts w3 v3 told5 := hO3.facts (by decide)
  have HB3 := hide (below_trans HB2.out hL3.below HB2.out.size)
  have HA := hide (naiveAllC ruls5 told5 (.slice va ruls5.length vc) v3 w3 (Kind.sl_later HV2.out hL3) hF3)
  rw [allP5] at HA
  obtain ⟨a3, c3, rfl⟩ := sliceFacts hF3
  clear hS hO3 hL3 hF3 HO HW2 HB2 HV2
  go_wp2_with fail
  refine HA.out.mono ?_
  rintro e w4 ⟨v4, er, rfl, ⟨her, _, hT4⟩, hB4⟩
  dsimp only at her hT4
  subst her
  have hF4 := hT4 rfl
  have HF4 := hide hF4
  have HB4 := hide (below_trans HB3.out hB4 HB3.out.size)
  obtain ⟨a4, c4, rfl⟩ := sliceFacts hF4
  have h8 : all5.length = 8 := rfl
  rw [h8] at HF4 ⊢
  obtain ⟨w5, hw5⟩ : ∃ w5, w5 = w4.alloc (.cells #[.string { data := #[97] }] 9) := ⟨_, rfl⟩
  have hL5 : Later w4 w5 := by rw [hw5]; exact (Later.refl _).alloc _
  have r6 : w5.heap[w4.heap.size]? = some (.cells #[.string { data := #[97] }] 9 (0, 0)) := by rw [hw5]; exact heap_alloc_new w4 _
  have hFV : FactV w5 (.agg #[.string { data := #[110] }, .slice (some ⟨w4.heap.size, 0, none⟩) 1 1]) (kb [110], [kb [97]]) := ⟨_, rfl, strs1 r6⟩
  have HI := hide (inC (.slice a4 8 c4) _ all5 (kb [110], [kb [97]]) w5 (HF4.out.later hL5) hFV up_all5)
  rw [in_eq, show inB all5 (kb [110], [kb [97]]) = true by decide +kernel] at HI
  have HL5 := hide hL5
  have HW5 := hide hw5
  clear hT4 hB4 hF4 h8 hw5 hL5 r6 hFV HA HB3
  go_wp2_with fail
  rw [← HW5.out]
  refine HI.out.mono ?_
  rintro e w6 ⟨rfl, hL6⟩
  have HB6 := hide (below_trans HB4.out (HL5.out.trans hL6).below HB4.out.size)
  obtain ⟨w7, hw7⟩ : ∃ w7, w7 = w6.alloc (.cells #[.int .i64 0, .int .i64 1] 3) := ⟨_, rfl⟩
  have hL7 : Later w6 w7 := by rw [hw7]; exact (Later.refl _).alloc _
  have r7 : w7.heap[w6.heap.size]? = some (.cells #[.int .i64 0, .int .i64 1] 3 (0, 0)) := by rw [hw7]; exact heap_alloc_new w6 _
  have hI7 : intK.sl Anyw w7 (.slice (some ⟨w6.heap.size, 0, none⟩) 2 2) [0, 1] := by
    refine ⟨⟨by simp, by simp [lenOk]⟩, _, 2, rfl, fun _ => ⟨w6.heap.size, 0, rfl, trivial, (Array.getElem?_eq_some_iff.1 r7).1, fun i x hx => ⟨_, rfl, fun j u hu => ?_⟩⟩⟩
    rw [cell_of_row _ _ _ _ _ _ r7]
    match i, hx with
    | 0, hx => simp at hx; subst hx; match j, hu with
      | 0, hu => simp at hu; subst hu; rfl
    | 1, hx => simp at hx; subst hx; match j, hu with
      | 0, hu => simp at hu; subst hu; rfl
  have HC := hide (countC [0, 1] _ w7 hI7 (by decide))
  rw [show countP [0, 1] = 2 from rfl] at HC
  have HB7 := hide (below_trans HB6.out hL7.below HB6.out.size)
  have HW7 := hide hw7
  clear hL6 hw7 hL7 r7 hI7 HI HL5 HW5 HB4
  go_wp2_with fail
  rw [← HW7.out]
  refine HC.out.mono ?_
  rintro e w8 ⟨rfl, hL8⟩
  have HB8 := hide (below_trans HB7.out hL8.below HB7.out.size)
  clear hL8 HC HW7
  go_wp2
  go_ret
  exact ⟨rfl, HB8.out⟩

end Go.Proofs.YtbohggoeebhdmaaGreatDoor

/- The walk of NaiveModel. -/
namespace Go.Proofs.YtbohggoeebhdmaaGreatDoor
open Go.RowKit Go.Sort Go.Maps

/-- What All's answer is good for. -/
theorem allP_ok {p : List RuleD} {l M : List FactB} (h : allP p l = (0, M)) : RightP p ∧ GoodS p l ∧ ∃ τ, Sol p τ ∧ (strataP p).1 = p.map (fun r => τ r.head.name) ∧ runGo p (p.map fun r => τ r.head.name) (countP (p.map fun r => τ r.head.name)) 0 l = (0, M) := by
  unfold allP at h
  split at h
  · rename_i h1
    simp at h
    exact absurd h.1 h1
  · rename_i h1
    split at h
    · rename_i h2
      simp at h
      exact absurd h.1 h2
    · rename_i h2
      have e1 : (strataP p).2.1 = 0 := by simpa using h1
      obtain ⟨hw, m, hm, _, _, hs⟩ := strataP_ok (p := p) (l := (strataP p).1) (k := (strataP p).2.2) (by rw [← e1])
      have hm' : (strataP p).1 = p.map (fun r => numOf m r.head.name) := hm
      rw [hm'] at h
      exact ⟨rightP_iff.1 hw, facts_good (by simpa using h2), numOf m, hs, hm', h⟩

theorem all_model {p : List RuleD} {l M : List FactB} (h : allP p l = (0, M)) : RightP p ∧ GoodS p l ∧ GoodS p M ∧ (∀ f ∈ l, f ∈ M) ∧ ∀ r ∈ p, ∀ x, headsP r M = some x → ∀ f ∈ x, f ∈ M := by
  obtain ⟨hp, hl, τ, hτ, _, hr⟩ := allP_ok h
  obtain ⟨h1, h2⟩ := run_model hp hτ hl hr
  exact ⟨hp, hl, (run_way hp hτ hl hr).1, h1, h2⟩

theorem less_none {la lb : List FactB} (h : ∀ f ∈ la, f ∈ lb) : (la.filter fun f => !inFrom lb f 0) = [] := by
  rw [List.filter_eq_nil_iff]
  intro f hf
  rw [in_eq, inB_iff.2 (h f hf)]
  simp

set_option maxRecDepth 100000 in
set_option maxHeartbeats 4000000 in
theorem naiveModelW (pv fv : Value) (p : List RuleD) (l : List FactB) (w : World) (m : Int) (hm : w.cell? ⟨3, 0, none⟩ = some (.int .i64 m)) (hv : ruleK.sl Anyw w pv p) (hf : Facts w fv l) :
    Calls Tryz.prog 4 #[pv, fv] w fun e w' => e = .returned (.bool true) ∧ Below w.heap.size w w' := by
  have HA := hide (alive5 w m hm)
  obtain ⟨pa, pc, rfl⟩ := Kind.slice hv
  obtain ⟨fa, fc, rfl⟩ := sliceFacts hf
  have HV := hide hv
  have HF := hide hf
  clear hv hf hm
  go_enter Tryz.func4, Tryz.ntmps4
  go_wp2_with fail
  refine HA.out.mono ?_
  rintro e w1 ⟨rfl, hB1⟩
  have HB1 := hide hB1
  have HAll := hide (naiveAllC p l (.slice pa p.length pc) (.slice fa l.length fc) w1 (Kind.sl_below HV.out hB1) (HF.out.below hB1))
  obtain ⟨er, M, hAP⟩ : ∃ er M, allP p l = (er, M) := ⟨_, _, rfl⟩
  rw [hAP] at HAll
  have HAP := hide hAP
  clear hB1 HA hAP
  go_wp2_with fail
  refine HAll.out.mono ?_
  rintro e w2 ⟨v2, er', rfl, ⟨her, hT1, hT2⟩, hB2⟩
  dsimp only at her hT1 hT2
  have her' := her.symm
  clear her
  subst her'
  have HB2 := hide (below_trans HB1.out hB2 HB1.out.size)
  clear hB2 HAll HB1
  by_cases h0 : er = 0
  · subst h0
    obtain ⟨hp, hgl, hgM, hsub, hcl⟩ := all_model HAP.out
    have hF2 := hT2 rfl
    have HF2 := hide hF2
    have HLs := hide (lessC (.slice fa l.length fc) v2 l M w2 (HF.out.below HB2.out) hF2 hgM.up)
    rw [less_none hsub] at HLs
    have HSt : Hid (∀ w', Later w2 w' → Calls Tryz.prog 24 #[v2] w' fun e w'' => e = .returned (.agg #[.int .i64 0, .int .i64 0]) ∧ Later w' w'') := fun w' hL => by
      have := setC v2 M w' (hF2.later hL)
      rw [fault_right hgM.up hgM.right hgM.few] at this
      exact this
    obtain ⟨a2, c2, rfl⟩ := sliceFacts hF2
    have HRP := hide hp
    have h16 := hp.few
    have HGM := hide hgM
    have HCl := hide hcl
    clear hT1 hT2 hF2 hp hgl hgM hsub hcl HAP
    go_wp2_with fail
    refine HLs.out.mono ?_
    rintro e w3 ⟨v3, rfl, hO3, hL3⟩
    obtain ⟨a3, c3, rfl⟩ := sliceFacts (hO3.facts (by simp))
    have HL3 := hide hL3
    have HSt3 := hide (HSt.out w3 hL3)
    clear hO3 hL3 HLs HSt
    simp only [List.length_nil]
    go_wp2_with fail
    refine HSt3.out.mono ?_
    rintro e w4 ⟨rfl, hL4⟩
    have HB4 : Hid (Below w.heap.size w w4) := below_trans HB2.out (HL3.out.trans hL4).below HB2.out.size
    have HF4 : Hid (Facts w4 (.slice a2 M.length c2) M) := HF2.out.later (HL3.out.trans hL4)
    clear hL4 HSt3 HL3 HF2 HB2
    have hfe := errOf 0 0
    go_wp2
    clear hfe
    go_loopg [37] p.length (fun g i wr => ∃ j : Nat, j + g = p.length ∧ i = .int .i64 j ∧ Hid (Below w.heap.size w wr) ∧ Hid (Below w4.heap.size w4 wr))
    case atStart => exact ⟨0, by omega, rfl, HB4, Below.refl _ _⟩
    case round =>
      clear HB4
      obtain ⟨j, hj, rfl, HBr, HBr4⟩ := hrel
      by_cases hlt : j < p.length
      · obtain ⟨r, hr⟩ : ∃ x, p[j]? = some x := ⟨_, List.getElem?_eq_getElem hlt⟩
        have hrm : r ∈ p := List.mem_of_getElem? hr
        obtain ⟨b1, o1, _, rfl, hb1, ⟨tv, bv, rfl, htv, hbv⟩, hc⟩ := Kind.sl_at HV.out hr
        have d0 : wr.cell? ⟨b1, o1 + j * 4, none⟩ = some (.bool r.head.no) := by rw [HBr.out.cell (p := ⟨b1, o1 + j * 4, none⟩) hb1]; exact hc 0 _ rfl
        have d1 : wr.cell? ⟨b1, o1 + j * 4 + 1, none⟩ = some (.string (bs r.head.name)) := by rw [HBr.out.cell (p := ⟨b1, o1 + j * 4 + 1, none⟩) hb1]; exact hc 1 _ rfl
        have d2 : wr.cell? ⟨b1, o1 + j * 4 + 2, none⟩ = some tv := by rw [HBr.out.cell (p := ⟨b1, o1 + j * 4 + 2, none⟩) hb1]; exact hc 2 _ rfl
        have d3 : wr.cell? ⟨b1, o1 + j * 4 + 3, none⟩ = some bv := by rw [HBr.out.cell (p := ⟨b1, o1 + j * 4 + 3, none⟩) hb1]; exact hc 3 _ rfl
        obtain ⟨ta, tc, rfl⟩ := Kind.slice htv
        obtain ⟨ba, bc, rfl⟩ := Kind.slice hbv
        obtain ⟨wb, hwb⟩ : ∃ wb, wb = wr.alloc (.cells #[.bool r.head.no, .string (bs r.head.name), .slice ta r.head.terms.length tc, .slice ba r.body.length bc] 43) := ⟨_, rfl⟩
        have hLb : Later wr wb := by rw [hwb]; exact (Later.refl _).alloc _
        have hBb : Below w.heap.size w wb := below_trans HBr.out hLb.below HBr.out.size
        have hBb4 : Below w4.heap.size w4 wb := below_trans HBr4.out hLb.below HBr4.out.size
        have HH := hide (headsC r (.slice ta r.head.terms.length tc) (.slice ba r.body.length bc) (.slice a2 M.length c2) M wb (Kind.sl_below htv hBb) (Kind.sl_below hbv hBb) (HF4.out.below hBb4) (short_right HRP.out HGM.out r hrm))
        have h0 := errW_right HRP.out HGM.out r hrm
        have hclr := HCl.out r hrm
        have HBb := hide hBb
        have HBb4 := hide hBb4
        have HWb := hide hwb
        clear hc hr htv hbv hLb hBb hBb4 hwb hrm
        generalize bs r.head.name = nm at *
        generalize hno : r.head.no = no at *
        clear hno
        go_wp2_with fail
        rw [← HWb.out]
        refine HH.out.mono ?_
        rintro e w5 ⟨v5, er, rfl, hT5, hB5⟩
        unfold HeadsT at hT5
        rw [if_neg (by simp [h0])] at hT5
        have HB5 := hide (below_trans HBb.out hB5 HBb.out.size)
        have HB54 := hide (below_trans HBb4.out hB5 HBb4.out.size)
        clear hB5 HH HWb HBb HBb4 h0
        cases hh : headsP r M with
        | none =>
          rw [hh] at hT5
          obtain ⟨rfl, rfl⟩ := hT5
          clear hh hclr
          go_wp2
          go_ret
          exact ⟨rfl, HB5.out⟩
        | some x =>
          rw [hh] at hT5
          obtain ⟨rfl, hF5⟩ := hT5
          have HLs := hide (lessC v5 (.slice a2 M.length c2) x M w5 hF5 (HF4.out.below HB54.out) HGM.out.up)
          rw [less_none (hclr x hh)] at HLs
          obtain ⟨a5, c5, rfl⟩ := sliceFacts hF5
          clear hh hclr hF5
          go_wp2_with fail
          refine HLs.out.mono ?_
          rintro e w6 ⟨v6, rfl, hO6, hL6⟩
          obtain ⟨a6, c6, rfl⟩ := sliceFacts (hO6.facts (by simp))
          have HB6 := hide (below_trans HB5.out hL6.below HB5.out.size)
          have HB64 := hide (below_trans HB54.out hL6.below HB54.out.size)
          clear hO6 hL6 HLs
          simp only [List.length_nil]
          go_wp2
          go_roundg (p.length - (j + 1))
          case measure => omega
          case rel => exact ⟨j + 1, by omega, by go_num, HB6, HB64⟩
      · go_wp2
        go_ret
        exact ⟨rfl, HBr.out⟩
  · have e2 := hT1 h0
    subst e2
    have hne : (er != 0) = true := by simpa using h0
    clear hT1 hT2 HAP
    go_wp2
    go_ret
    exact ⟨rfl, HB2.out⟩

end Go.Proofs.YtbohggoeebhdmaaGreatDoor

/-
  DERIVED: THE SHELF's CONTRACTS AT THIS DUMP, IN PLAIN WORDS (tools/lay-plain.mjs out of 'TryzGrowLay.lean', which tools/lay-shelf.mjs wrote): THE SAME DECLARATIONS UNDER THE SAME NAMES: 'import', 'namespace', 'open', 'def', 'theorem' AND NOTHING ELSE: no command of the shelf's: FOR A HAND-IN. Each laying: the table of numbers ('.._ren') and one theorem, a field a fact of the dump's own or the kernel's comparison; each contract: ONE APPLICATION.
-/
namespace Go.Proofs
open Go.Shelf
def Tryz.growFacts_ren : Go.Shelf.Ren := ⟨fun | 4 => 95 | n => n, fun | 22 => 24 | 25 => 54 | 3 => 3 | 4 => 4 | 9 => 9 | 20 => 20 | 0 => 0 | n => n, fun | n => n⟩
theorem Tryz.growFacts : Go.Proofs.Lays8.n4 Tryz.prog Tryz.growFacts_ren := {
  mixed := by kernel_rfl
  f4 := ⟨Tryz.f95.name, by decide, Tryz.func95.trans (congrArg some (by kernel_rfl))⟩
  t0 := Tryz.underlying0
  a0 := Tryz.isAgg0
  z0 := Tryz.sizeOf0
  v0 := Tryz.zeroValue0
  t3 := Tryz.underlying3
  a3 := Tryz.isAgg3
  z3 := Tryz.sizeOf3
  v3 := Tryz.zeroValue3
  t4 := Tryz.underlying4
  a4 := Tryz.isAgg4
  z4 := Tryz.sizeOf4
  v4 := Tryz.zeroValue4
  t9 := Tryz.underlying9
  a9 := Tryz.isAgg9
  z9 := Tryz.sizeOf9
  v9 := Tryz.zeroValue9
  t20 := Tryz.underlying20
  a20 := Tryz.isAgg20
  z20 := Tryz.sizeOf20
  v20 := Tryz.zeroValue20
  t22 := Tryz.underlying24
  a22 := Tryz.isAgg24
  z22 := Tryz.sizeOf24
  v22 := Tryz.zeroValue24 }
end Go.Proofs

/- The walks of slices.Grow, slices.Concat at two lists of facts, fact.Join. -/
namespace Go.Proofs.YtbohggoeebhdmaaGreatDoor
open Go.RowKit Go.Sort Go.Shelf

theorem growC (w0 w : World) (hL : Later w0 w) (n : Nat) (hn : n ≤ 3518437208883) : Calls Tryz.prog 95 #[.slice none 0 0, .int .i64 n] w fun e w' =>
    ∃ v', e = .returned v' ∧ RowF w' w0.heap.size v' [] ∧ Later w w' ∧ ∀ k, v'.ownBlock = some k → w.heap.size ≤ k := by
  by_cases h0 : n = 0
  · subst h0
    exact (Any8.slices_Grow_room Tryz.growFacts none 0 0 0 w (Nat.le_refl _) (by omega) (by omega) (Nat.le_refl _)).mono fun e w' ⟨he, hw⟩ =>
      ⟨_, he, by rw [hw]; exact ⟨[], World.ownsRow_nil w _ _ _, fun i hi => by simp at hi⟩, by rw [hw]; exact Later.refl _, fun k hk => by simp [Value.ownBlock] at hk⟩
  · obtain ⟨i, i1, i2, i3, i4⟩ := infoFact
    refine (Any8.slices_Grow_grow Tryz.growFacts i _ i1 i2 (by omega) none 0 0 n [] w (Nat.le_refl _) (by omega) (by rw [i4]; omega) (by omega) (by simp) (fun _ => rfl) (fun a h => by cases h)).mono fun e w' ⟨he, hw⟩ => ⟨_, he, ?_, ?_, fun k hk => ?_⟩
    · rw [hw]
      have hge := grownCap_ge w (0 + n) 0 (Tryz.growFacts_ren.t 25)
      have hcm := grownCap_le_maxLen w (0 + n) 0 (Tryz.growFacts_ren.t 25) (by simp only [maxLen]; omega)
      refine ⟨[], World.ownsRow_made (base := w0.heap.size) (e := 54) (size := 2) w.drew _ _ hL.size hcm ?_, fun i hi => by simp at hi⟩
      simp only [Array.size_append, List.size_toArray, size_zeroCells]
      show 0 + (0 + n - 0) * 2 + (grownCap w (0 + n) 0 (Tryz.growFacts_ren.t 25) - (0 + n)) * 2 = _
      omega
    · rw [hw]; exact (Later.refl w).drew.alloc _
    · simp [Value.ownBlock] at hk; omega

set_option maxHeartbeats 1000000 in
theorem concat (w0 w : World) (hL : Later w0 w) (c cp : Nat) (va vb : Value) (la lb : List FactD) (ha : Facts w0 va la) (hb : Facts w0 vb lb) (hn : la.length + lb.length ≤ 3518437208883) (hc0 : w.cell? ⟨c, 0, none⟩ = some va) (hc1 : w.cell? ⟨c, 1, none⟩ = some vb) (hcb : c < w.heap.size) :
    Calls Tryz.prog 58 #[.slice (some ⟨c, 0, none⟩) 2 cp] w fun e w' => ∃ v', e = .returned v' ∧ RowF w' w0.heap.size v' (la ++ lb) ∧ Later w0 w' := by
  have HA := hide ha
  have HB := hide hb
  obtain ⟨a1, c1, rfl⟩ := sliceFacts ha
  obtain ⟨a2, c2, rfl⟩ := sliceFacts hb
  clear ha hb
  have s1 : ¬ ((la.length : Int) < 0) := by omega
  have s2 : ¬ ((la.length : Int) + (lb.length : Int) < 0) := by omega
  go_enter Tryz.func58, Tryz.ntmps58
  go_wp2
  refine wp_loop_rounds 3 ?_
  rw [rounds_succ]
  go_wp2
  rw [rounds_succ]
  go_wp2
  rw [rounds_succ]
  go_wp2_with fail
  rw [show ((la.length : Int) + (lb.length : Int)) = ((la.length + lb.length : Nat) : Int) by omega]
  refine (growC w0 w hL (la.length + lb.length) hn).mono ?_
  rintro e w1 ⟨v1, rfl, hR1, hL1, hk1⟩
  obtain ⟨v2, w2, run2, hR2, hL2, hg2, hk2⟩ := hR1.append (hL.trans hL1) HA.out (by simp; omega)
  obtain ⟨v3, w3, run3, hR3, hL3, hg3, hk3⟩ := hR2.append hL2 HB.out (by simp; omega)
  rw [List.nil_append] at hR3
  have y0 : w1.cell? ⟨c, 0, none⟩ = some (.slice a1 la.length c1) := by rw [hL1.cell (p := ⟨c, 0, none⟩) hcb]; exact hc0
  have y1 : w1.cell? ⟨c, 1, none⟩ = some (.slice a2 lb.length c2) := by rw [hL1.cell (p := ⟨c, 1, none⟩) hcb]; exact hc1
  have y2 : w2.cell? ⟨c, 1, none⟩ = some (.slice a2 lb.length c2) := by
    rw [World.cell?_of_block (w := w1) (hg2.block c (Nat.lt_of_lt_of_le hcb hL1.size) (fun e => by have := hk1 c e.symm; omega))]; exact y1
  have R2 := hide run2
  have R3 := hide run3
  have HR := hide hR3
  clear run2 run3 hR1 hR2 hR3 hg2 hg3
  go_wp2
  refine wp_loop_rounds 3 ?_
  rw [rounds_succ]
  go_wp2_with (at_builtin; refine wpList_append_run rfl (.tmp 31) (.tmp 32) 24 rfl _ _ _ _ rfl rfl R2.out ?_)
  rw [rounds_succ]
  go_wp2_with (at_builtin; refine wpList_append_run rfl (.tmp 31) (.tmp 32) 24 rfl _ _ _ _ rfl rfl R3.out ?_)
  rw [rounds_succ]
  go_wp2
  go_ret
  exact ⟨v3, rfl, HR.out, hL3⟩

set_option maxHeartbeats 400000 in
/-- fact.Join: the set of both lists' facts, in memory of its own. -/
theorem joinC (va vb : Value) (la lb : List FactD) (w : World) (ha : Facts w va la) (hb : Facts w vb lb) (hn : la.length + lb.length ≤ 3518437208883) :
    Calls Tryz.prog 26 #[va, vb] w fun e w' => ∃ v' s, e = .returned v' ∧ SetOf s (la ++ lb) ∧ OwnF w' w.heap.size v' s ∧ Later w w' := by
  have HA := hide ha
  have HB := hide hb
  obtain ⟨a1, c1, rfl⟩ := sliceFacts ha
  obtain ⟨a2, c2, rfl⟩ := sliceFacts hb
  clear ha hb
  go_enter Tryz.func26, Tryz.ntmps26
  go_wp2_with fail
  refine (concat w _ (by repeat (first | exact Later.refl _ | assumption | refine Later.drewN ?_ _ | refine Later.drew ?_ | refine Later.alloc ?_ _ | refine Later.grow ?_ _)) w.heap.size 2 _ _ la lb HA.out HB.out hn (by simp) (by simp) (by simp)).mono ?_
  rintro e w1 ⟨v1, rfl, hR, hL⟩
  have hr0 := rise w1 w.heap.size v1 (la ++ lb) hR (by simpa using hn)
  obtain ⟨a3, c3, rfl⟩ := ownsSlice hR.choose_spec.1
  rw [List.length_append] at hr0
  have hr := hide hr0
  clear hR hr0
  go_wp2_with fail
  refine hr.out.mono ?_
  rintro e w2 ⟨v2, s, rfl, hs, hO, hW⟩
  have HS := hide hs
  have HO := hide hO
  clear hs hO
  go_wp2
  go_ret
  exact ⟨v2, s, rfl, HS.out, HO.out.base hL.size, hW.later hL (Nat.le_refl _)⟩

end Go.Proofs.YtbohggoeebhdmaaGreatDoor

/- The document's answer: the walk of ref.Same, where the two lists hold the same. -/
namespace Go.Proofs.YtbohggoeebhdmaaGreatDoor
open Go.RowKit Go.Sort

set_option maxHeartbeats 1000000 in
theorem rSame (v1 v2 : Value) (l : List FactD) (w : World) (h1 : Facts w v1 l) (h2 : Facts w v2 l) :
    Calls Tryz.prog 14 #[v1, v2] w fun e w' => e = .returned (.bool true) ∧ Later w w' := by
  have mx := mixed
  have H1 := hide h1
  have H2 := hide h2
  obtain ⟨a, cap, rfl, hn, hz⟩ := h1.addr
  obtain ⟨a2, cap2, rfl, _, hz2⟩ := h2.addr
  clear h1 h2
  go_enter Tryz.func14, Tryz.ntmps14
  go_wp2
  go_loopw [13] (fun i wr => ∃ k : Nat, k ≤ l.length ∧ i = .int .i64 k ∧ Later w wr) (fun i _ => l.length - (intOf i).toNat)
  case atStart => exact ⟨0, by omega, rfl, Later.refl _⟩
  case round =>
    obtain ⟨k, hk, rfl, hL⟩ := hrel
    by_cases hlt : k < l.length
    · rcases hz with rfl | ⟨b, off, rfl⟩
      · simp at hlt
      rcases hz2 with rfl | ⟨b2, off2, rfl⟩
      · simp at hlt
      have hltz : (k : Int) < (l.length : Int) := by omega
      obtain ⟨ax, lx, cx, g1, g2, fx⟩ := (H1.out.later hL).grown hlt
      obtain ⟨ay, ly, cy, g3, g4, fy⟩ := (H2.out.later hL).grown hlt
      have hE : ∀ q os, Calls Tryz.prog 43 #[.agg #[.string (l.getD k noFact).1, .slice ax lx cx], .agg #[.string (l.getD k noFact).1, .slice ay ly cy]] (grow (wr.drewN q) os) fun e w'' => e = .returned (.bool true) ∧ Later (grow (wr.drewN q) os) w'' :=
        fun q os => (rEqual _ _ _ _ _ (fx.later ⟨q, os, rfl⟩) (fy.later ⟨q, os, rfl⟩)).mono fun e w' ⟨he, hw⟩ => ⟨by rw [he, sameF_iff.2 rfl], hw⟩
      have HE := hide hE
      clear hE fx fy
      generalize (l.getD k noFact).1 = nk at *
      go_wp2
      go_quiet_grown ((go_at_call 43; exact Calls.grown_of (HE.out _ _)))
      go_wp2
      go_roundw
      case rel => exact ⟨k + 1, by omega, by go_num, hL.trans ⟨_, _, rfl⟩⟩
      case measure => simp [intOf]; omega
    · go_wp2
      go_ret
      exact ⟨rfl, hL⟩

end Go.Proofs.YtbohggoeebhdmaaGreatDoor

/- The walk of NaiveNeeded. -/
namespace Go.Proofs.YtbohggoeebhdmaaGreatDoor
open Go.RowKit Go.Sort Go.Maps

theorem heads_up {r : RuleD} {fs x : List FactB} (h : headsP r fs = some x) : Up x := by
  unfold headsP at h
  cases hA : allB (fun _ => fs) r.body with
  | none => rw [hA] at h; cases h
  | some R => rw [hA] at h; cases h; exact setF_up _

/-- What is made by the rules so far, together with what was told. -/
structure MadeS (p : List RuleD) (l M : List FactB) (j : Nat) (S : List FactB) : Prop where
  up : Up S
  sub : ∀ f ∈ S, f ∈ M
  mem : ∀ f, f ∈ S ↔ f ∈ l ∨ ∃ r ∈ p.take j, ∃ x, headsP r M = some x ∧ f ∈ x
  all : ∀ r ∈ p.take j, ∃ x, headsP r M = some x

theorem MadeS.next {p : List RuleD} {l M S s x : List FactB} {j : Nat} {r : RuleD} (h : MadeS p l M j S) (hr : p[j]? = some r) (hx : headsP r M = some x) (hxM : ∀ f ∈ x, f ∈ M) (hs : SetOf s (S ++ x)) : MadeS p l M (j + 1) s := by
  have ht : p.take (j + 1) = p.take j ++ [r] := by rw [List.take_add_one, hr]; rfl
  refine ⟨hs.1, fun f hf => ?_, fun f => ?_, fun q hq => ?_⟩
  · rcases List.mem_append.1 ((hs.2.1 f).1 hf) with hf | hf
    · exact h.sub f hf
    · exact hxM f hf
  · rw [hs.2.1, List.mem_append, h.mem, ht]
    constructor
    · rintro ((hf | ⟨q, hq, y, hy, hf⟩) | hf)
      · exact Or.inl hf
      · exact Or.inr ⟨q, List.mem_append_left _ hq, y, hy, hf⟩
      · exact Or.inr ⟨r, by simp, x, hx, hf⟩
    · rintro (hf | ⟨q, hq, y, hy, hf⟩)
      · exact Or.inl (Or.inl hf)
      · rcases List.mem_append.1 hq with hq | hq
        · exact Or.inl (Or.inr ⟨q, hq, y, hy, hf⟩)
        · have e : q = r := by simpa using hq
          subst e
          rw [hx] at hy
          cases hy
          exact Or.inr hf
  · rw [ht] at hq
    rcases List.mem_append.1 hq with hq | hq
    · exact h.all q hq
    · have e : q = r := by simpa using hq
      subst e
      exact ⟨x, hx⟩

theorem MadeS.whole {p : List RuleD} {l M S : List FactB} {j : Nat} (h : MadeS p l M j S) (hj : p.length ≤ j) (hA : allP p l = (0, M)) : S = M := by
  obtain ⟨hp, hl, τ, hτ, _, hr⟩ := allP_ok hA
  have ht : p.take j = p := List.take_of_length_le hj
  have hall := h.all
  have hmem := h.mem
  rw [ht] at hall hmem
  have hn := run_needed hp hτ hl hr hall
  exact up_ext h.up (run_way hp hτ hl hr).1.up fun f => by rw [hmem, hn]

set_option maxRecDepth 100000 in
set_option maxHeartbeats 4000000 in
theorem naiveNeededW (pv fv : Value) (p : List RuleD) (l : List FactB) (w : World) (m : Int) (hm : w.cell? ⟨3, 0, none⟩ = some (.int .i64 m)) (hv : ruleK.sl Anyw w pv p) (hf : Facts w fv l) :
    Calls Tryz.prog 5 #[pv, fv] w fun e w' => e = .returned (.bool true) ∧ Below w.heap.size w w' := by
  have HA := hide (alive5 w m hm)
  obtain ⟨pa, pc, rfl⟩ := Kind.slice hv
  obtain ⟨fa, fc, rfl⟩ := sliceFacts hf
  have HV := hide hv
  have HF := hide hf
  clear hv hf hm
  go_enter Tryz.func5, Tryz.ntmps5
  go_wp2_with fail
  refine HA.out.mono ?_
  rintro e w1 ⟨rfl, hB1⟩
  have HB1 := hide hB1
  have HAll := hide (naiveAllC p l (.slice pa p.length pc) (.slice fa l.length fc) w1 (Kind.sl_below HV.out hB1) (HF.out.below hB1))
  obtain ⟨er, M, hAP⟩ : ∃ er M, allP p l = (er, M) := ⟨_, _, rfl⟩
  rw [hAP] at HAll
  have HAP := hide hAP
  clear hB1 HA hAP
  go_wp2_with fail
  refine HAll.out.mono ?_
  rintro e w2 ⟨v2, er', rfl, ⟨her, hT1, hT2⟩, hB2⟩
  dsimp only at her hT1 hT2
  have her' := her.symm
  clear her
  subst her'
  have HB2 := hide (below_trans HB1.out hB2 HB1.out.size)
  clear hB2 HAll HB1
  by_cases h0 : er = 0
  · subst h0
    obtain ⟨hp, hgl, hgM, hsub, hcl⟩ := all_model HAP.out
    have hF2 := hT2 rfl
    have HF2 := hide hF2
    have HO := hide (ofC (.slice fa l.length fc) l w2 (HF.out.below HB2.out))
    obtain ⟨a2, c2, rfl⟩ := sliceFacts hF2
    have HRP := hide hp
    have h16 := hp.few
    have hlf := hgl.few
    have HGM := hide hgM
    have HGL := hide hgl
    have HCl := hide hcl
    have HSub := hide hsub
    clear hT1 hT2 hF2 hp hgl hgM hsub hcl
    go_wp2_with fail
    refine HO.out.mono ?_
    rintro e w3 ⟨v3, s, rfl, hS, hO3, hL3⟩
    have es : s = l := by rw [setF_of hS.1 hS.2.1, setF_up_self HGL.out.up]
    subst es
    have HF3 : Hid (Facts w3 v3 s) := hO3.facts (by omega)
    have HB3 := hide (below_trans HB2.out hL3.below HB2.out.size)
    have HF23 := hide (HF2.out.later hL3)
    have HMd : Hid (MadeS p s M 0 s) := ⟨HGL.out.up, HSub.out, fun f => by simp, fun r hr => by simp at hr⟩
    obtain ⟨a3, c3, rfl⟩ := sliceFacts HF3.out
    clear hS hO3 hL3 HO HF2 HB2 HSub
    go_wp2
    go_loopg [7, 26] p.length (fun g v7 i wr => ∃ j : Nat, j + g = p.length ∧ i = .int .i64 j ∧ ∃ S, Hid (Facts wr v7 S) ∧ Hid (MadeS p s M j S) ∧ Hid (Below w.heap.size w wr) ∧ Hid (Below w3.heap.size w3 wr))
    case atStart => exact ⟨0, by omega, rfl, s, HF3, HMd, HB3, Below.refl _ _⟩
    case round =>
      clear HB3 HF3 HMd
      obtain ⟨j, hj, rfl, S, HFr, HMd, HBr, HBr3⟩ := hrel
      obtain ⟨va, vc, hva⟩ := sliceFacts HFr.out
      subst hva
      by_cases hlt : j < p.length
      · obtain ⟨r, hr⟩ : ∃ x, p[j]? = some x := ⟨_, List.getElem?_eq_getElem hlt⟩
        have hrm : r ∈ p := List.mem_of_getElem? hr
        obtain ⟨b1, o1, _, rfl, hb1, ⟨tv, bv, rfl, htv, hbv⟩, hc⟩ := Kind.sl_at HV.out hr
        have d0 : wr.cell? ⟨b1, o1 + j * 4, none⟩ = some (.bool r.head.no) := by rw [HBr.out.cell (p := ⟨b1, o1 + j * 4, none⟩) hb1]; exact hc 0 _ rfl
        have d1 : wr.cell? ⟨b1, o1 + j * 4 + 1, none⟩ = some (.string (bs r.head.name)) := by rw [HBr.out.cell (p := ⟨b1, o1 + j * 4 + 1, none⟩) hb1]; exact hc 1 _ rfl
        have d2 : wr.cell? ⟨b1, o1 + j * 4 + 2, none⟩ = some tv := by rw [HBr.out.cell (p := ⟨b1, o1 + j * 4 + 2, none⟩) hb1]; exact hc 2 _ rfl
        have d3 : wr.cell? ⟨b1, o1 + j * 4 + 3, none⟩ = some bv := by rw [HBr.out.cell (p := ⟨b1, o1 + j * 4 + 3, none⟩) hb1]; exact hc 3 _ rfl
        obtain ⟨ta, tc, rfl⟩ := Kind.slice htv
        obtain ⟨ba, bc, rfl⟩ := Kind.slice hbv
        obtain ⟨wb, hwb⟩ : ∃ wb, wb = wr.alloc (.cells #[.bool r.head.no, .string (bs r.head.name), .slice ta r.head.terms.length tc, .slice ba r.body.length bc] 43) := ⟨_, rfl⟩
        have hLb : Later wr wb := by rw [hwb]; exact (Later.refl _).alloc _
        have hBb : Below w.heap.size w wb := below_trans HBr.out hLb.below HBr.out.size
        have hBb3 : Below w3.heap.size w3 wb := below_trans HBr3.out hLb.below HBr3.out.size
        have HH := hide (headsC r (.slice ta r.head.terms.length tc) (.slice ba r.body.length bc) (.slice a2 M.length c2) M wb (Kind.sl_below htv hBb) (Kind.sl_below hbv hBb) (HF23.out.below hBb3) (short_right HRP.out HGM.out r hrm))
        have h0 := errW_right HRP.out HGM.out r hrm
        have hclr := HCl.out r hrm
        have HBb := hide hBb
        have HBb3 := hide hBb3
        have HWb := hide hwb
        have HR := hide hr
        have HFb := hide (HFr.out.later hLb)
        clear hc hr htv hbv hLb hBb hBb3 hwb hrm
        generalize bs r.head.name = nm at *
        generalize hno : r.head.no = no at *
        clear hno
        go_wp2_with fail
        rw [← HWb.out]
        refine HH.out.mono ?_
        rintro e w5 ⟨v5, er, rfl, hT5, hB5⟩
        unfold HeadsT at hT5
        rw [if_neg (by simp [h0])] at hT5
        have HB5 := hide (below_trans HBb.out hB5 HBb.out.size)
        have HB53 := hide (below_trans HBb3.out hB5 HBb3.out.size)
        have HF5S := hide (HFb.out.below hB5)
        clear hB5 HH HWb HBb HBb3 h0 HFb HFr
        cases hh : headsP r M with
        | none =>
          rw [hh] at hT5
          obtain ⟨rfl, rfl⟩ := hT5
          clear hh hclr
          go_wp2
          go_ret
          exact ⟨rfl, HB5.out⟩
        | some x =>
          rw [hh] at hT5
          obtain ⟨rfl, hF5⟩ := hT5
          have hx := hclr x hh
          have hlx : x.length ≤ 200 := Nat.le_trans (up_le (heads_up hh) hx) HGM.out.few
          have hlS : S.length ≤ 200 := Nat.le_trans (up_le HMd.out.up HMd.out.sub) HGM.out.few
          have HJ := hide (joinC (.slice va S.length vc) v5 S x w5 HF5S.out hF5 (by omega))
          have HN := hide (fun s' hs' => MadeS.next (s := s') HMd.out HR.out hh hx hs')
          obtain ⟨a5, c5, rfl⟩ := sliceFacts hF5
          clear hh hclr hF5 hx
          go_wp2_with fail
          refine HJ.out.mono ?_
          rintro e w6 ⟨v6, s6, rfl, hS6, hO6, hL6⟩
          have HMd6 := hide (HN.out s6 hS6)
          have hl6 := hS6.2.2
          rw [List.length_append] at hl6
          have HF6 : Hid (Facts w6 v6 s6) := hO6.facts (by omega)
          have HB6 := hide (below_trans HB5.out hL6.below HB5.out.size)
          have HB63 := hide (below_trans HB53.out hL6.below HB53.out.size)
          obtain ⟨a6, c6, rfl⟩ := sliceFacts HF6.out
          clear hO6 hL6 hS6 hl6 HJ HN
          go_wp2
          go_roundg (p.length - (j + 1))
          case measure => omega
          case rel => exact ⟨j + 1, by omega, by go_num, s6, HF6, HMd6, HB6, HB63⟩
      · have e2 := HMd.out.whole (by omega) HAP.out
        have hFM : Facts wr (.slice va S.length vc) M := by
          have h := HFr.out
          generalize Value.slice va S.length vc = v at h ⊢
          rw [e2] at h
          exact h
        have HSm := hide (rSame (.slice va S.length vc) (.slice a2 M.length c2) M wr hFM (HF23.out.below HBr3.out))
        clear e2 hFM
        go_wp2_with fail
        refine HSm.out.mono ?_
        rintro e w7 ⟨rfl, hL7⟩
        have HB7 := hide (below_trans HBr.out hL7.below HBr.out.size)
        clear hL7 HSm
        go_wp2
        go_ret
        exact ⟨rfl, HB7.out⟩
  · have hne : (er != 0) = true := by simpa using h0
    by_cases h1 : er = 0
    · exact absurd h1 h0
    · have e2 := hT1 h0
      subst e2
      clear hT1 hT2 HAP
      go_wp2
      go_ret
      exact ⟨rfl, HB2.out⟩

end Go.Proofs.YtbohggoeebhdmaaGreatDoor

/- Programs among a call's arguments, opened: how they lie in memory, and that no list of theirs is longer than the form's reach, no text longer than Go's. -/
namespace Go.Proofs.YtbohggoeebhdmaaGreatDoor
open Go.RowKit Go.Sort Go.ChangeShapes Go.WideShapes Go.ChangeAt Go.Deep

variable {H : Type} {enc : TypeId × Value → H} {W : World}

theorem ownP : ownKnob Tryz.prog.godebug = none := by kernel_rfl
theorem laidOutP : laidOutB Tryz.prog = true := by kernel_rfl
theorem cellsStrP : Tryz.prog.cellsOf 9 = 1 := by kernel_rfl
theorem addr_plainP {a : Addr} {v : Value} (h : W.cell? (a.add 0) = some v) : ∃ b off, a = ⟨b, off, none⟩ := by
  obtain ⟨b, off, spot⟩ := a
  have hspot : spot = none := by simpa [Addr.add] using World.cell?_spot h
  subst hspot
  exact ⟨b, off, rfl⟩

/-- Each list within reach. -/
def Sized (t : TypeId) (d : DataW H) : Prop := (d.weights Tryz.prog t).all (· ≤ reachBytes) = true
/-- How a type's values are opened. -/
def Opens {α : Type} (enc : TypeId × Value → H) (W : World) (ty : TypeId) (K : Kind α) (ok : α → Prop) : Prop :=
  ∀ n cs x, DataW.trod enc Tryz.prog W 0 (fun _ => true) true n ty cs = some x → Sized ty x.1 → ∃ a, K.is Anyw W cs a ∧ ok a

theorem sized_all {e : TypeId} {l : List (DataW H)} (h : (DataW.weightsAll Tryz.prog e l).all (· ≤ reachBytes) = true) : ∀ d ∈ l, Sized e d := by
  induction l with
  | nil => intro d hd; cases hd
  | cons x r ih =>
    simp only [DataW.weightsAll, List.all_append, Bool.and_eq_true] at h
    intro d hd
    rcases List.mem_cons.1 hd with rfl | hd
    · exact h.1
    · exact ih h.2 d hd

set_option maxRecDepth 100000 in
theorem openSlB {α : Type} {K : Kind α} {T ty : TypeId} {ok : α → Prop} (hT : Tryz.prog.underlying T = some (.slice ty)) (hc : Tryz.prog.cellsOf ty = K.size) (hby : 16 ≤ Tryz.prog.bytesOf ty) (hsz : 0 < K.size) (E : Opens enc W ty K ok)
    {n : Nat} {v : Value} {x : DataW H × List MemPlace} (hf : DataW.trod enc Tryz.prog W 0 (fun _ => true) true n T [v] = some x) (hw : Sized T x.1) : ∃ l, K.sl Anyw W v l ∧ (∀ a ∈ l, ok a) ∧ l.length * Tryz.prog.bytesOf ty ≤ reachBytes := by
  rcases open_slice hT hf with ⟨hcs, _⟩ | ⟨a, len, cap, m, k, D, Pl, hcs, _, hl, hm, hmm, hx, hel⟩
  · simp only [List.cons.injEq, and_true] at hcs
    exact ⟨[], by rw [hcs]; exact K.sl_nil _ _ _ _, fun a ha => (by cases ha), by simp⟩
  · simp only [List.cons.injEq, and_true] at hcs
    simp only [if_true] at hmm
    subst hmm
    rw [hc] at hel
    have hd : x.1 = .slice ((List.range len).map D) ((List.range (m - len)).map fun j => D (len + j)) := by rw [hx]
    have hw2 : (decide ((len + (m - len)) * Tryz.prog.bytesOf ty ≤ reachBytes) && ((DataW.weightsAll Tryz.prog ty ((List.range len).map D)).all (· ≤ reachBytes) && (DataW.weightsAll Tryz.prog ty ((List.range (m - len)).map fun j => D (len + j))).all (· ≤ reachBytes))) = true := by
      have := hw
      unfold Sized at this
      rw [hd, DataW.weights, hT] at this
      simpa using this
    simp only [Bool.and_eq_true] at hw2
    have hlen : len ≤ 8796093022208 := by
      have h1 : (len + (m - len)) * Tryz.prog.bytesOf ty ≤ reachBytes := of_decide_eq_true hw2.1
      have h2 : len * 16 ≤ (len + (m - len)) * Tryz.prog.bytesOf ty := Nat.mul_le_mul (by omega) hby
      unfold reachBytes at h1
      omega
    have each : ∀ i : Fin len, ∃ z : α, ∃ cs', W.cells? 0 (a.add (i.1 * K.size)) K.size = some cs' ∧ K.is Anyw W cs' z ∧ ok z := fun i => by
      obtain ⟨cs', k1, k2⟩ := hel i.1 (by omega)
      obtain ⟨z, hz, hk⟩ := E _ _ _ k2 (sized_all hw2.2.1 _ (List.mem_map.2 ⟨i.1, List.mem_range.2 i.2, rfl⟩))
      exact ⟨z, cs', k1, hz, hk⟩
    refine ⟨List.ofFn fun i => Classical.choose (each i), ⟨⟨by simpa using hlen, ?_⟩, some a, m, by rw [hcs]; simp, fun hne => ?_⟩, fun z hz => ?_, ?_⟩
    · rw [hcs]; show len ≤ m; omega
    rotate_left
    rotate_left
    · have h1 : (len + (m - len)) * Tryz.prog.bytesOf ty ≤ reachBytes := of_decide_eq_true hw2.1
      rw [List.length_ofFn]
      exact Nat.le_trans (Nat.mul_le_mul_right _ (by omega)) h1
    rotate_left
    · rw [List.mem_ofFn] at hz
      obtain ⟨i, rfl⟩ := hz
      obtain ⟨_, _, _, hok⟩ := Classical.choose_spec (each i)
      exact hok
    have h0 : 0 < len := by
      refine Nat.pos_of_ne_zero fun e => hne ?_
      subst e; rfl
    have first : ∀ i : Fin len, ∀ cs', W.cells? 0 (a.add (i.1 * K.size)) K.size = some cs' → ∀ j u, cs'[j]? = some u → W.cell? ((a.add (i.1 * K.size)).add j) = some u := fun i cs' k1 j u hu => by
      obtain ⟨h1, _, hcell⟩ := World.cells?_some k1
      have hj : j < cs'.length := (List.getElem?_eq_some_iff.1 hu).1
      have := hcell j (by omega)
      rw [this]; exact hu
    have hplain : ∃ b off, a = ⟨b, off, none⟩ := by
      obtain ⟨cs', k0, k1, _⟩ := Classical.choose_spec (each ⟨0, h0⟩)
      have hl := K.len k1
      have hu : cs'[0]? = some (cs'[0]'(by omega)) := List.getElem?_eq_getElem (by omega)
      have := first ⟨0, h0⟩ cs' k0 0 _ hu
      exact addr_plainP (W := W) (v := cs'[0]'(by omega)) (by simpa [Addr.add] using this)
    obtain ⟨b, off, rfl⟩ := hplain
    have hlt : b < W.heap.size := by
      obtain ⟨cs', k0, k1, _⟩ := Classical.choose_spec (each ⟨0, h0⟩)
      have hl := K.len k1
      have hu : cs'[0]? = some (cs'[0]'(by omega)) := List.getElem?_eq_getElem (by omega)
      have := first ⟨0, h0⟩ cs' k0 0 _ hu
      rw [Addr.add_lit, Addr.add_lit] at this
      exact World.block_lt_of_cell? W _ this
    refine ⟨b, off, rfl, trivial, hlt, fun i z hi => ?_⟩
    have hi' : i < len := by simpa using (List.getElem?_eq_some_iff.1 hi).1
    rw [List.getElem?_ofFn, dif_pos hi'] at hi
    injection hi with hi
    subst hi
    obtain ⟨cs', k0, k1, _⟩ := Classical.choose_spec (each ⟨i, hi'⟩)
    refine ⟨cs', k1, fun j u hu => ?_⟩
    have := first ⟨i, hi'⟩ cs' k0 j u hu
    rw [Addr.add_lit, Addr.add_lit] at this
    exact this

theorem openSl {α : Type} {K : Kind α} {T ty : TypeId} {ok : α → Prop} (hT : Tryz.prog.underlying T = some (.slice ty)) (hc : Tryz.prog.cellsOf ty = K.size) (hby : 16 ≤ Tryz.prog.bytesOf ty) (hsz : 0 < K.size) (E : Opens enc W ty K ok)
    {n : Nat} {v : Value} {x : DataW H × List MemPlace} (hf : DataW.trod enc Tryz.prog W 0 (fun _ => true) true n T [v] = some x) (hw : Sized T x.1) : ∃ l, K.sl Anyw W v l ∧ ∀ a ∈ l, ok a := by
  obtain ⟨l, h1, h2, _⟩ := openSlB hT hc hby hsz E hf hw
  exact ⟨l, h1, h2⟩

/-- No text is longer than Go's. -/
def okT (t : TermD) : Prop := t.2.length ≤ maxLen
def okA (a : AtomD) : Prop := a.name.length ≤ maxLen ∧ ∀ t ∈ a.terms, okT t
def okR (r : RuleD) : Prop := okA r.head ∧ ∀ a ∈ r.body, okA a

theorem cellsTerm : Tryz.prog.cellsOf 101 = 2 := by kernel_rfl
theorem cellsTerms : Tryz.prog.cellsOf 38 = 1 := by kernel_rfl
theorem cellsAtom : Tryz.prog.cellsOf 40 = 3 := by kernel_rfl
theorem cellsAtoms : Tryz.prog.cellsOf 41 = 1 := by kernel_rfl
theorem cellsBool : Tryz.prog.cellsOf 4 = 1 := by kernel_rfl
theorem bytesTerm : Tryz.prog.bytesOf 101 = 24 := by kernel_rfl
theorem bytesAtom : Tryz.prog.bytesOf 40 = 48 := by kernel_rfl

theorem cellsRule : Tryz.prog.cellsOf 43 = 4 := by kernel_rfl
theorem bytesRule : Tryz.prog.bytesOf 43 = 72 := by kernel_rfl

set_option maxRecDepth 100000 in
theorem opensTerm : Opens enc W 101 termK okT := by
  intro n cs x h _
  obtain ⟨y0, y1, m, hx, hl, h0, h1⟩ := trod_struct2 Tryz.underlying101 h
  rw [cellsTerm] at hl
  match cs, hl with
  | [c0, c1], _ =>
    have e0 : Tryz.prog.cellsOf 4 = 1 := cellsBool
    have e1 : Tryz.prog.cellsOf 9 = 1 := cellsStrP
    simp only [e0, e1, List.drop_zero, List.drop_succ_cons, List.take_succ_cons, List.take_zero] at h0 h1
    obtain ⟨b, hb, _⟩ := DataW.trod_bool Tryz.underlying4 h0
    obtain ⟨s, hs, _, hsz⟩ := DataW.trod_string Tryz.underlying9 h1
    simp only [List.cons.injEq, and_true] at hb hs
    exact ⟨(b, raw s), by show [c0, c1] = _; rw [hb, hs, bs_raw], by show (raw s).length ≤ _; rw [length_raw]; exact hsz⟩

set_option maxRecDepth 100000 in
theorem opensAtom : Opens enc W 40 atomK okA := by
  intro n cs x h hw
  obtain ⟨y0, y1, y2, m, hx, hl, h0, h1, h2⟩ := trod_struct3 Tryz.underlying40 h
  rw [cellsAtom] at hl
  match cs, hl with
  | [c0, c1, c2], _ =>
    have e0 : Tryz.prog.cellsOf 4 = 1 := cellsBool
    have e1 : Tryz.prog.cellsOf 9 = 1 := cellsStrP
    have e2 : Tryz.prog.cellsOf 38 = 1 := cellsTerms
    simp only [e0, e1, e2, List.drop_zero, List.drop_succ_cons, List.take_succ_cons, List.take_zero] at h0 h1 h2
    obtain ⟨b, hb, _⟩ := DataW.trod_bool Tryz.underlying4 h0
    obtain ⟨s, hs, _, hsz⟩ := DataW.trod_string Tryz.underlying9 h1
    simp only [List.cons.injEq, and_true] at hb hs
    have hw2 : Sized 38 y2.1 := by
      unfold Sized at hw ⊢
      rw [hx, DataW.weights, Tryz.underlying40] at hw
      simp only [List.map_cons, List.map_nil, DataW.weightsEach, List.all_append, Bool.and_eq_true] at hw
      exact hw.2.2.1
    obtain ⟨l, hl, hlk⟩ := openSl Tryz.underlying38 cellsTerm (by rw [bytesTerm]; decide) (by decide) opensTerm h2 hw2
    exact ⟨⟨b, raw s, l⟩, ⟨c2, by show [c0, c1, c2] = _; rw [hb, hs, bs_raw], hl⟩, by show (raw s).length ≤ _; rw [length_raw]; exact hsz, hlk⟩

set_option maxRecDepth 100000 in
theorem opensRule : Opens enc W 43 ruleK okR := by
  intro n cs x h hw
  obtain ⟨y0, y1, m, hx, hl, h0, h1⟩ := trod_struct2 Tryz.underlying43 h
  rw [cellsRule] at hl
  match cs, hl with
  | [c0, c1, c2, c3], _ =>
    have e0 : Tryz.prog.cellsOf 40 = 3 := cellsAtom
    have e1 : Tryz.prog.cellsOf 41 = 1 := cellsAtoms
    simp only [e0, e1, List.drop_zero, List.drop_succ_cons, List.take_succ_cons, List.take_zero] at h0 h1
    have hws : Sized 40 y0.1 ∧ Sized 41 y1.1 := by
      unfold Sized at hw ⊢
      rw [hx, DataW.weights, Tryz.underlying43] at hw
      simp only [List.map_cons, List.map_nil, DataW.weightsEach, List.all_append, Bool.and_eq_true] at hw
      exact ⟨hw.1, hw.2.1⟩
    obtain ⟨a, ⟨v, ev, hv⟩, hak⟩ := opensAtom _ _ _ h0 hws.1
    obtain ⟨l, hl, hlk⟩ := openSl Tryz.underlying41 cellsAtom (by rw [bytesAtom]; decide) (by decide) opensAtom h1 hws.2
    simp only [List.cons.injEq, and_true] at ev
    exact ⟨⟨a, l⟩, ⟨v, c3, by show [c0, c1, c2, c3] = _; rw [ev.1, ev.2.1, ev.2.2], hv, hl⟩, hak, hlk⟩

set_option maxRecDepth 100000 in
theorem openRules {b0 : Nat} {v : Value} {d : DataW H} {p : List MemPlace} (hv : Value.okWide Tryz.prog W .any b0 23 v) (h : DataW.Trod enc Tryz.prog W 0 (fun _ => true) true 23 v d p) (hw : Sized 23 d) : ∃ l, ruleK.sl Anyw W v l ∧ ∀ r ∈ l, okR r := by
  obtain ⟨a0, len0, cap0, rfl⟩ := okWide_slice Tryz.underlying23 hv
  obtain ⟨fuel, hf⟩ := h
  exact openSl Tryz.underlying23 cellsRule (by rw [bytesRule]; decide) (by decide) opensRule (x := (d, p)) (by simpa [Value.cells] using hf) hw

/-- What the form's reach says of an argument. -/
theorem sized_at {ts : List TypeId} {ds : List (DataW H)} (h : (DataW.weightsEach Tryz.prog ts ds).all (· ≤ reachBytes) = true) {j : Nat} {t : TypeId} {d : DataW H} (ht : ts[j]? = some t) (hd : ds[j]? = some d) : Sized t d :=
  List.all_eq_true.2 fun k hk => List.all_eq_true.1 h _ (DataW.weights_mem_each ht hd k hk)

end Go.Proofs.YtbohggoeebhdmaaGreatDoor

/- Facts, atoms and texts among a call's arguments, opened, each list within the form's reach. -/
namespace Go.Proofs.YtbohggoeebhdmaaGreatDoor
open Go.RowKit Go.Sort Go.ChangeShapes Go.WideShapes Go.ChangeAt Go.Deep

variable {H : Type} {enc : TypeId × Value → H} {W : World}

/-- A fact lies in two cells. -/
def factK : Kind FactD where
  size := 2
  is := fun B w c f => ∃ s, c = [.string f.1, s] ∧ bsK.sl B w s f.2
  len := fun ⟨s, h, _⟩ => by subst h; rfl
  one := fun ⟨s, h, hs⟩ u hu => by
    subst h
    obtain ⟨a, cap, rfl⟩ := Kind.slice hs
    simp at hu; rcases hu with rfl | rfl <;> rfl
  kept := fun ⟨v, h, hs⟩ h1 h2 => ⟨v, h, Kind.sl_kept hs h1 h2⟩
  mono := fun ⟨v, h, hs⟩ h1 => ⟨v, h, Kind.sl_mono hs h1⟩

theorem sl_strs {B : Nat → Prop} {w : World} {v : Value} {l : List ByteArray} (h : bsK.sl B w v l) : Strs w v l := by
  obtain ⟨⟨h0, _⟩, a, cap, rfl, h1⟩ := h
  refine ⟨h0, a, cap, rfl, fun hne => ?_⟩
  obtain ⟨b, off, rfl, _, hb, hc⟩ := h1 hne
  refine ⟨b, off, rfl, hb, fun i hi => ?_⟩
  obtain ⟨c, rfl, c2⟩ := hc i _ (List.getElem?_eq_getElem hi)
  have := c2 0 _ rfl
  rw [List.getD_eq_getElem?_getD, List.getElem?_eq_getElem hi]
  simpa [bsK] using this

theorem sl_facts {B : Nat → Prop} {w : World} {v : Value} {l : List FactD} (h : factK.sl B w v l) (hl : l.length ≤ 3518437208883) : Facts w v l := by
  obtain ⟨_, a, cap, rfl, h1⟩ := h
  refine ⟨hl, a, cap, rfl, fun hne => ?_⟩
  obtain ⟨b, off, rfl, _, hb, hc⟩ := h1 hne
  refine ⟨b, off, rfl, hb, fun i hi => ?_⟩
  obtain ⟨c, ⟨s, rfl, hs⟩, c2⟩ := hc i _ (List.getElem?_eq_getElem hi)
  rw [List.getD_eq_getElem?_getD, List.getElem?_eq_getElem hi]
  exact ⟨by simpa [factK] using c2 0 _ rfl, s, by simpa [factK] using c2 1 _ rfl, sl_strs hs⟩

def okS (s : ByteArray) : Prop := s.size ≤ maxLen
def okFt (f : FactD) : Prop := okS f.1 ∧ ∀ s ∈ f.2, okS s

theorem cellsFactP : Tryz.prog.cellsOf 54 = 2 := by kernel_rfl
theorem cellsStrsP : Tryz.prog.cellsOf 52 = 1 := by kernel_rfl
theorem bytesFactP : Tryz.prog.bytesOf 54 = 40 := by kernel_rfl
theorem bytesStrP : Tryz.prog.bytesOf 9 = 16 := by kernel_rfl

set_option maxRecDepth 100000 in
theorem opensStr : Opens enc W 9 bsK okS := by
  intro n cs x h _
  obtain ⟨s, hs, _, hsz⟩ := DataW.trod_string Tryz.underlying9 h
  exact ⟨s, hs, hsz⟩

set_option maxRecDepth 100000 in
theorem opensFact : Opens enc W 54 factK okFt := by
  intro n cs x h hw
  obtain ⟨y0, y1, m, hx, hl, h0, h1⟩ := trod_struct2 Tryz.underlying54 h
  rw [cellsFactP] at hl
  match cs, hl with
  | [c0, c1], _ =>
    have e0 : Tryz.prog.cellsOf 9 = 1 := cellsStrP
    have e1 : Tryz.prog.cellsOf 52 = 1 := cellsStrsP
    simp only [e0, e1, List.drop_zero, List.drop_succ_cons, List.take_succ_cons, List.take_zero] at h0 h1
    obtain ⟨s, hs, _, hsz⟩ := DataW.trod_string Tryz.underlying9 h0
    simp only [List.cons.injEq, and_true] at hs
    have hw2 : Sized 52 y1.1 := by
      unfold Sized at hw ⊢
      rw [hx, DataW.weights, Tryz.underlying54] at hw
      simp only [List.map_cons, List.map_nil, DataW.weightsEach, List.all_append, Bool.and_eq_true] at hw
      exact hw.2.1
    obtain ⟨l, hl, hlk⟩ := openSl Tryz.underlying52 cellsStrP (by rw [bytesStrP]; decide) (by decide) opensStr h1 hw2
    exact ⟨(s, l), ⟨c1, by show [c0, c1] = _; rw [hs], hl⟩, hsz, hlk⟩

set_option maxRecDepth 100000 in
theorem openFactsS {b0 : Nat} {v : Value} {d : DataW H} {p : List MemPlace} (hv : Value.okWide Tryz.prog W .any b0 24 v) (h : DataW.Trod enc Tryz.prog W 0 (fun _ => true) true 24 v d p) (hw : Sized 24 d) : ∃ l, Facts W v l ∧ ∀ f ∈ l, okFt f := by
  obtain ⟨a0, len0, cap0, rfl⟩ := okWide_slice Tryz.underlying24 hv
  obtain ⟨fuel, hf⟩ := h
  obtain ⟨l, h1, h2, h3⟩ := openSlB Tryz.underlying24 cellsFactP (by rw [bytesFactP]; decide) (by decide) opensFact (x := (d, p)) (by simpa [Value.cells] using hf) hw
  rw [bytesFactP] at h3
  exact ⟨l, sl_facts h1 (by unfold reachBytes at h3; omega), h2⟩

set_option maxRecDepth 100000 in
theorem openAtoms {b0 : Nat} {v : Value} {d : DataW H} {p : List MemPlace} (hv : Value.okWide Tryz.prog W .any b0 41 v) (h : DataW.Trod enc Tryz.prog W 0 (fun _ => true) true 41 v d p) (hw : Sized 41 d) : ∃ l, atomK.sl Anyw W v l ∧ (∀ a ∈ l, okA a) ∧ l.length * 48 ≤ reachBytes := by
  obtain ⟨a0, len0, cap0, rfl⟩ := okWide_slice Tryz.underlying41 hv
  obtain ⟨fuel, hf⟩ := h
  obtain ⟨l, h1, h2, h3⟩ := openSlB Tryz.underlying41 cellsAtom (by rw [bytesAtom]; decide) (by decide) opensAtom (x := (d, p)) (by simpa [Value.cells] using hf) hw
  rw [bytesAtom] at h3
  exact ⟨l, h1, h2, h3⟩

set_option maxRecDepth 100000 in
theorem openStrsS {b0 : Nat} {v : Value} {d : DataW H} {p : List MemPlace} (hv : Value.okWide Tryz.prog W .any b0 52 v) (h : DataW.Trod enc Tryz.prog W 0 (fun _ => true) true 52 v d p) (hw : Sized 52 d) : ∃ l, Strs W v l ∧ ∀ s ∈ l, okS s := by
  obtain ⟨a0, len0, cap0, rfl⟩ := okWide_slice Tryz.underlying52 hv
  obtain ⟨fuel, hf⟩ := h
  obtain ⟨l, h1, h2, _⟩ := openSlB Tryz.underlying52 cellsStrP (by rw [bytesStrP]; decide) (by decide) opensStr (x := (d, p)) (by simpa [Value.cells] using hf) hw
  exact ⟨l, sl_strs h1, h2⟩

end Go.Proofs.YtbohggoeebhdmaaGreatDoor

/-
  DERIVED: THE SHELF's CONTRACTS AT THIS DUMP, IN PLAIN WORDS (tools/lay-plain.mjs out of 'TryzShpLay.lean', which tools/lay-shelf.mjs wrote): THE SAME DECLARATIONS UNDER THE SAME NAMES: 'import', 'namespace', 'open', 'def', 'theorem' AND NOTHING ELSE: no command of the shelf's: FOR A HAND-IN. Each laying: the table of numbers ('.._ren') and one theorem, a field a fact of the dump's own or the kernel's comparison; each contract: ONE APPLICATION.
-/
namespace Go.Proofs
open Go.Shelf
def Tryz.laysM145_ren : Go.Shelf.Ren := ⟨fun | 145 => 206 | 220 => 223 | 219 => 229 | 217 => 230 | 225 => 231 | 224 => 232 | 267 => 233 | 266 => 234 | 314 => 235 | n => n, fun | 9 => 9 | 4 => 4 | 59 => 242 | 3 => 3 | 5 => 5 | 46 => 174 | 146 => 261 | 51 => 202 | n => n, fun | 1 => 3 | n => n⟩
theorem Tryz.laysM145 : Go.Proofs.LaysM.n145 Tryz.prog Tryz.laysM145_ren := {
  mixed := by kernel_rfl
  f145 := Tryz.func206.trans (congrArg some (by kernel_rfl))
  f217 := Tryz.func230.trans (congrArg some (by kernel_rfl))
  f219 := Tryz.func229.trans (congrArg some (by kernel_rfl))
  f220 := Tryz.func223.trans (congrArg some (by kernel_rfl))
  f224 := Tryz.func232.trans (congrArg some (by kernel_rfl))
  f225 := Tryz.func231.trans (congrArg some (by kernel_rfl))
  f266 := Tryz.func234.trans (congrArg some (by kernel_rfl))
  f267 := Tryz.func233.trans (congrArg some (by kernel_rfl))
  f314 := Tryz.func235.trans (congrArg some (by kernel_rfl))
  t3 := Tryz.underlying3
  a3 := Tryz.isAgg3
  z3 := Tryz.sizeOf3
  v3 := Tryz.zeroValue3
  t4 := Tryz.underlying4
  a4 := Tryz.isAgg4
  z4 := Tryz.sizeOf4
  v4 := Tryz.zeroValue4
  t5 := Tryz.underlying5
  a5 := Tryz.isAgg5
  z5 := Tryz.sizeOf5
  v5 := Tryz.zeroValue5
  t9 := Tryz.underlying9
  a9 := Tryz.isAgg9
  z9 := Tryz.sizeOf9
  v9 := Tryz.zeroValue9
  t46 := Tryz.underlying174
  a46 := Tryz.isAgg174
  z46 := Tryz.sizeOf174
  v46 := Tryz.zeroValue174
  t51 := Tryz.underlying202
  a51 := Tryz.isAgg202
  z51 := Tryz.sizeOf202
  v51 := Tryz.zeroValue202
  t59 := Tryz.underlying242
  a59 := Tryz.isAgg242
  z59 := Tryz.sizeOf242
  v59 := Tryz.zeroValue242
  t146 := Tryz.underlying261
  a146 := Tryz.isAgg261
  z146 := Tryz.sizeOf261
  v146 := Tryz.zeroValue261
  g1 := by kernel_rfl
  i3 := by kernel_rfl
  i4 := by kernel_rfl
  i5 := by kernel_rfl
  i9 := by kernel_rfl
  i46 := by kernel_rfl
  i51 := by kernel_rfl
  i59 := by kernel_rfl
  i146 := by kernel_rfl
  m1 := by kernel_rfl
  s1_3 := fun w h => Go.Proofs.cell_of_shapedOpen_int (zero := #[.int .i64 0]) (t := 3) h (of_decide_eq_true (by kernel_rfl)) (by kernel_rfl) rfl (by kernel_rfl) (by kernel_rfl) Tryz.underlying3 }
end Go.Proofs
