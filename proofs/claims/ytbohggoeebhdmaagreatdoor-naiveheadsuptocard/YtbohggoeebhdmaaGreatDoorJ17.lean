import Derived.Test.YtbohggoeebhdmaaGreatDoorJ15
import Derived.Test.YtbohggoeebhdmaaGreatDoorJ16
import Derived.Test.YtbohggoeebhdmaaGreatDoorJ1
/- The walk of naive.Once. -/
namespace Go.Proofs.YtbohggoeebhdmaaGreatDoor
open Go.RowKit Go.Sort Go.Maps

/-- What Once, and all behind it, tells. -/
def OnceT (w : World) (v : Value) (er : Int) (a : Int × List FactB) : Prop := er = a.1 ∧ (a.1 ≠ 0 → v = .slice none 0 0) ∧ (a.1 = 0 → Facts w v a.2)

theorem onceGo_none (n : Int) (fs : List FactB) (p : List RuleD) (acc : List FactB) : onceGo n fs p [] acc = (0, setF acc) := by cases p <;> rfl

theorem setF_short {L : List FactB} (h : ∀ f ∈ L, ShortF f) : ∀ f ∈ setF L, ShortF f := fun f hf => h f (mem_setF.1 hf)

theorem wpList_len_known {P : Program} {K E : TypeId} {L : List FactB} {b n : Nat} (w : World) {ops : Array Oper} {rest : List Oper} {o : Oper} {a : Act} {Q : Exit → Act → World → Prop} (hg : o.guard = none) (m : Operand) (t : TypeId)
    (hop : o.op = Op.call { callee := Callee.builtin Builtin.len, args := #[m], argTypes := #[t] }) (ht : P.underlying t = some (.map K E)) (hm : a.eval m = .map (some b)) (h : KnownM P K w b n L)
    (hK : wpList P ops Q rest (a.put o.dst (.int .i64 ((setF L).length : Nat))) w) : wpList P ops Q (o :: rest) a w := by
  refine wpList_plain hg fun K' hK' => ?_
  unfold Oper.wp
  simp [execOp, hop, resolve, invoke, builtin, hm, h.len ht o.type, Result.andThen]
  exact hK' _ _ hK

set_option maxRecDepth 100000 in
set_option maxHeartbeats 4000000 in
theorem onceC (p : List RuleD) (ss : List Nat) (n : Int) (fs : List FactB) (pv sv fv : Value) (w : World) (hp : ruleK.sl Anyw w pv p) (hss : intK.sl Anyw w sv ss) (hf : Facts w fv fs) (h16 : p.length ≤ 16) (hfew : fs.length ≤ 200)
    (hok : ∀ r ∈ p, errW r.body fs [] = 0) (hsh : ∀ r ∈ p, ∀ R, allB (fun _ => fs) r.body = some R → ∀ l ∈ R, ∀ f, fillB r.head l = some f → ShortF f) (hfs : ∀ f ∈ fs, ShortF f) :
    Calls Tryz.prog 18 #[pv, sv, .int .i64 n, fv] w fun e w' => ∃ v' er, e = .returned (.tuple #[v', .int .i64 er]) ∧ OnceT w' v' er (onceP p ss n fs) ∧ Below w.heap.size w w' := by
  obtain ⟨pa, pc, rfl⟩ := Kind.slice hp
  obtain ⟨sa, sc, rfl⟩ := Kind.slice hss
  obtain ⟨fa, fc, rfl⟩ := sliceFacts hf
  have hsl := hss.1.1
  have HP := hide hp
  have HSS := hide hss
  have HF := hide hf
  have HOk := hide hok
  have HSh := hide hsh
  have hL1 : Later w (w.alloc (.map #[] 0)) := (Later.refl w).alloc _
  have HAd := hide (knownAdd w.heap.size 0 [] (.slice fa fs.length fc) fs (w.alloc (.map #[] 0)) (KnownM.made _ _ _) (hf.later hL1) hfs (by omega))
  have HL1 := hide hL1.below
  have hmm := @run_makeMap Tryz.prog
  clear hp hss hf hok hsh hfs hL1
  go_enter Tryz.func18, Tryz.ntmps18
  go_wp2_with fail
  refine HAd.out.mono ?_
  rintro e w2 ⟨⟨u2, rfl⟩, hK2, hT2⟩
  have HK2 : Hid (KnN w2 w.heap.size (0 + fs.length) fs) := by show KnN _ _ _ _; simpa using hK2
  have HB2 : Hid (Below w.heap.size w w2) := HL1.out.trans (hT2.below (Nat.le_refl _) (by simp))
  clear hK2 hT2 HAd HL1 hmm
  go_wp2
  go_loopg [21] p.length (fun g i wr => ∃ j : Nat, j + g = p.length ∧ i = .int .i64 j ∧ ∃ acc m, m ≤ 200 + 20000 * j ∧ Hid (KnN wr w.heap.size m acc) ∧ Hid (Below w.heap.size w wr) ∧ Hid (onceP p ss n fs = onceGo n fs (p.drop j) (ss.drop j) acc))
  case atStart => exact ⟨0, by omega, rfl, fs, _, by omega, HK2, HB2, (rfl : _ = _)⟩
  case round =>
    clear HK2 HB2
    obtain ⟨j, hj, rfl, acc, m, hm, HK, HBr, HE⟩ := hrel
    by_cases hlt : j < p.length
    · obtain ⟨r, hr⟩ : ∃ x, p[j]? = some x := ⟨_, List.getElem?_eq_getElem hlt⟩
      have hrm : r ∈ p := List.mem_of_getElem? hr
      obtain ⟨b1, o1, _, rfl, hb1, ⟨tv, bv, rfl, htv, hbv⟩, hc⟩ := Kind.sl_at HP.out hr
      have d0 : wr.cell? ⟨b1, o1 + j * 4, none⟩ = some (.bool r.head.no) := by rw [HBr.out.cell (p := ⟨b1, o1 + j * 4, none⟩) hb1]; exact hc 0 _ rfl
      have d1 : wr.cell? ⟨b1, o1 + j * 4 + 1, none⟩ = some (.string (bs r.head.name)) := by rw [HBr.out.cell (p := ⟨b1, o1 + j * 4 + 1, none⟩) hb1]; exact hc 1 _ rfl
      have d2 : wr.cell? ⟨b1, o1 + j * 4 + 2, none⟩ = some tv := by rw [HBr.out.cell (p := ⟨b1, o1 + j * 4 + 2, none⟩) hb1]; exact hc 2 _ rfl
      have d3 : wr.cell? ⟨b1, o1 + j * 4 + 3, none⟩ = some bv := by rw [HBr.out.cell (p := ⟨b1, o1 + j * 4 + 3, none⟩) hb1]; exact hc 3 _ rfl
      have hpd : p.drop j = r :: p.drop (j + 1) := by
        obtain ⟨h1, e1⟩ := List.getElem?_eq_some_iff.1 hr
        rw [List.drop_eq_getElem_cons h1, e1]
      obtain ⟨ta, tc, rfl⟩ := Kind.slice htv
      obtain ⟨ba, bc, rfl⟩ := Kind.slice hbv
      have hwr := HBr.out.size
      by_cases hsj : j < ss.length
      · obtain ⟨s, hs⟩ : ∃ x, ss[j]? = some x := ⟨_, List.getElem?_eq_getElem hsj⟩
        obtain ⟨b2, o2, _, rfl, hb2, rfl, hc2⟩ := Kind.sl_at HSS.out hs
        have e0 : wr.cell? ⟨b2, o2 + j, none⟩ = some (.int .i64 s) := by rw [HBr.out.cell (p := ⟨b2, o2 + j, none⟩) hb2]; simpa [intK] using hc2 0 _ rfl
        have hsd : ss.drop j = s :: ss.drop (j + 1) := by
          obtain ⟨h1, e1⟩ := List.getElem?_eq_some_iff.1 hs
          rw [List.drop_eq_getElem_cons h1, e1]
        have hstep : onceP p ss n fs = if (s : Int) = n then (match headsP r fs with
            | none => (4, [])
            | some x => if 200 < (setF (acc ++ x)).length then (5, []) else onceGo n fs (p.drop (j + 1)) (ss.drop (j + 1)) (acc ++ x)) else onceGo n fs (p.drop (j + 1)) (ss.drop (j + 1)) acc := by
          rw [HE.out, hpd, hsd]; rfl
        have hsji : (j : Int) < (ss.length : Int) := by omega
        have hb2r : b2 < wr.heap.size := by omega
        by_cases hsn : (s : Int) = n
        · rw [if_pos hsn] at hstep
          obtain ⟨wb, hwb⟩ : ∃ wb, wb = wr.alloc (.cells #[.bool r.head.no, .string (bs r.head.name), .slice ta r.head.terms.length tc, .slice ba r.body.length bc] 43) := ⟨_, rfl⟩
          have hLb : Later wr wb := by rw [hwb]; exact (Later.refl _).alloc _
          have hBb : Below w.heap.size w wb := below_trans HBr.out hLb.below hwr
          have HH := hide (headsC r (.slice ta r.head.terms.length tc) (.slice ba r.body.length bc) (.slice fa fs.length fc) fs wb (Kind.sl_below htv hBb) (Kind.sl_below hbv hBb) (HF.out.below hBb) (HSh.out r hrm))
          have h0 := HOk.out r hrm
          have hshr := HSh.out r hrm
          have HKb := hide (HK.out.later hLb)
          have HBb := hide hBb
          have HWb := hide hwb
          clear hc hc2 hr hs htv hbv hpd hsd HE hLb hBb hwb hrm
          have hneq : ((s : Int) != n) = false := by simp [hsn]
          generalize bs r.head.name = nm at *
          generalize hno : r.head.no = no at *
          clear hno
          subst hsn
          go_wp2_with fail
          rw [← HWb.out]
          refine HH.out.mono ?_
          rintro e w3 ⟨v3, er, rfl, hT3, hB3⟩
          unfold HeadsT at hT3
          rw [if_neg (by simp [h0])] at hT3
          have HB3 : Hid (Below w.heap.size w w3) := below_trans HBb.out hB3 HBb.out.size
          have HK3 := hide (HKb.out.below hB3)
          clear hB3 HH HWb HKb HBb
          cases hh : headsP r fs with
          | none =>
            rw [hh] at hT3 hstep
            obtain ⟨rfl, rfl⟩ := hT3
            have HT : Hid (∀ w', OnceT w' (.slice none 0 0) 4 (onceP p ss s fs)) := fun w' => by rw [hstep]; exact ⟨rfl, fun _ => rfl, fun h => by simp at h⟩
            clear hstep hh
            go_wp2
            exact bodyPost_ret (v := .tuple #[.slice none 0 0, .int .i64 4]) (by simp [results, Tryz.results18, go_sem]) rfl ⟨_, 4, rfl, HT.out _, HB3.out⟩
          | some x =>
            rw [hh] at hT3 hstep
            obtain ⟨rfl, hF3⟩ := hT3
            have hxs : (∀ f ∈ x, ShortF f) ∧ x.length ≤ 20000 := by
              unfold headsP at hh
              cases hR : allB (fun _ => fs) r.body with
              | none => rw [hR] at hh; cases hh
              | some R =>
                rw [hR] at hh
                cases hh
                refine ⟨setF_short fun f hf => ?_, Nat.le_trans (setF_len _) (Nat.le_trans (List.length_filterMap_le _ _) (allB_small hR))⟩
                obtain ⟨l, hl, hlf⟩ := List.mem_filterMap.1 hf
                exact hshr R hR l hl f hlf
            have hxl := hxs.2
            have HAd := hide (knownAdd w.heap.size m acc v3 x w3 HK3.out hF3 hxs.1 (by omega))
            obtain ⟨xa, xc, rfl⟩ := sliceFacts hF3
            dsimp only at hstep
            have HST := hide hstep
            clear hF3 hxs hh hstep hshr HK3
            go_wp2_with fail
            refine HAd.out.mono ?_
            rintro e w4 ⟨⟨u4, rfl⟩, hK4, hT4⟩
            have HB4 : Hid (Below w.heap.size w w4) := HB3.out.trans (hT4.below (Nat.le_refl _) HB3.out.size)
            have HK4 := hide hK4
            clear hK4 hT4 HAd
            by_cases hbig : 200 < (setF (acc ++ x)).length
            · have HT : Hid (∀ w', OnceT w' (.slice none 0 0) 5 (onceP p ss s fs)) := fun w' => by rw [HST.out, if_pos hbig]; exact ⟨rfl, fun _ => rfl, fun h => by simp at h⟩
              have hbi : (200 : Int) < ((setF (acc ++ x)).length : Nat) := by omega
              clear HST hbig
              go_wp2_with (at_len; refine wpList_len_known _ rfl _ 81 rfl Tryz.underlying81 rfl HK4.out ?_)
              exact bodyPost_ret (v := .tuple #[.slice none 0 0, .int .i64 5]) (by simp [results, Tryz.results18, go_sem]) rfl ⟨_, 5, rfl, HT.out _, HB4.out⟩
            · have HE4 : Hid (onceP p ss s fs = onceGo s fs (p.drop (j + 1)) (ss.drop (j + 1)) (acc ++ x)) := by show _ = _; rw [HST.out, if_neg hbig]
              have hbi : ¬ (200 : Int) < ((setF (acc ++ x)).length : Nat) := by omega
              clear HST hbig
              go_wp2_with (at_len; refine wpList_len_known _ rfl _ 81 rfl Tryz.underlying81 rfl HK4.out ?_)
              go_roundg (p.length - (j + 1))
              case measure => omega
              case rel => exact ⟨j + 1, by omega, by go_num, acc ++ x, m + x.length, by omega, HK4, HB4, HE4⟩
        · rw [if_neg hsn] at hstep
          have HE4 : Hid (onceP p ss n fs = onceGo n fs (p.drop (j + 1)) (ss.drop (j + 1)) acc) := hstep
          have HB4 : Hid (Below w.heap.size w (wr.alloc (.cells #[.bool r.head.no, .string (bs r.head.name), .slice ta r.head.terms.length tc, .slice ba r.body.length bc] 43))) := below_trans HBr.out ((Later.refl _).alloc _).below hwr
          have HK4 : Hid (KnN (wr.alloc (.cells #[.bool r.head.no, .string (bs r.head.name), .slice ta r.head.terms.length tc, .slice ba r.body.length bc] 43)) w.heap.size m acc) := HK.out.later ((Later.refl _).alloc _)
          have hneq : ((s : Int) != n) = true := by simpa using hsn
          clear hstep hc hc2 hr hs htv hbv hpd hsd HE hsn hrm
          generalize bs r.head.name = nm at *
          generalize r.head.no = no at *
          go_wp2
          go_roundg (p.length - (j + 1))
          case measure => omega
          case rel => exact ⟨j + 1, by omega, by go_num, acc, m, by omega, HK4, HB4, HE4⟩
      · have hsd : ss.drop j = [] := List.drop_eq_nil_of_le (by omega)
        have hsd2 : ss.drop (j + 1) = [] := List.drop_eq_nil_of_le (by omega)
        have HE4 : Hid (onceP p ss n fs = onceGo n fs (p.drop (j + 1)) (ss.drop (j + 1)) acc) := by show _ = _; rw [HE.out, hsd, hsd2, onceGo_none, onceGo_none]
        have HB4 : Hid (Below w.heap.size w (wr.alloc (.cells #[.bool r.head.no, .string (bs r.head.name), .slice ta r.head.terms.length tc, .slice ba r.body.length bc] 43))) := below_trans HBr.out ((Later.refl _).alloc _).below hwr
        have HK4 : Hid (KnN (wr.alloc (.cells #[.bool r.head.no, .string (bs r.head.name), .slice ta r.head.terms.length tc, .slice ba r.body.length bc] 43)) w.heap.size m acc) := HK.out.later ((Later.refl _).alloc _)
        have hsji : (ss.length : Int) ≤ (j : Int) := by omega
        clear hc hr htv hbv hpd hsd hsd2 HE hrm hsj
        generalize bs r.head.name = nm at *
        generalize r.head.no = no at *
        go_wp2
        go_roundg (p.length - (j + 1))
        case measure => omega
        case rel => exact ⟨j + 1, by omega, by go_num, acc, m, by omega, HK4, HB4, HE4⟩
    · have hd : p.drop j = [] := List.drop_eq_nil_of_le (by omega)
      have HX : Hid (onceP p ss n fs = (0, setF acc)) := by show _ = _; rw [HE.out, hd]; rfl
      have HSt := hide (knownSet _ _ _ wr HK.out (by omega))
      clear hd HE
      go_wp2_with fail
      refine HSt.out.mono ?_
      rintro e w6 ⟨v6, rfl, hF6, hB6⟩
      have HT6 : Hid (OnceT w6 v6 0 (onceP p ss n fs)) := by show OnceT _ _ _ _; rw [HX.out]; exact ⟨rfl, fun h => absurd rfl h, fun _ => hF6⟩
      have HB6 : Hid (Below w.heap.size w w6) := below_trans HBr.out hB6 HBr.out.size
      obtain ⟨a6, c6, rfl⟩ := sliceFacts hF6
      clear hF6 hB6
      go_wp2
      exact bodyPost_ret (v := .tuple #[.slice a6 (setF acc).length c6, .int .i64 0]) (by simp [results, Tryz.results18, go_sem]) rfl ⟨_, 0, rfl, HT6.out, HB6.out⟩

end Go.Proofs.YtbohggoeebhdmaaGreatDoor

/- The walk of naive.overAndOver, and what right facts are to Set. -/
namespace Go.Proofs.YtbohggoeebhdmaaGreatDoor
open Go.RowKit Go.Sort Go.Maps

theorem named_short {s : ByteArray} (h : isNamed (raw s) = true) : s.size ≤ 12 := by
  unfold isNamed at h
  simp only [Bool.and_eq_true, decide_eq_true_eq] at h
  rw [length_raw] at h
  exact h.1.1
theorem right_short {f : FactB} (h : RightF f) : ShortF f :=
  ⟨by have := named_short h.1; omega, h.2.1, fun s hs => by have := named_short (h.2.2 s hs); omega⟩

theorem wrongF_right {f : FactB} : wrongF f = 0 ↔ RightF f := by
  unfold wrongF RightF
  rw [namedB_eq]
  constructor
  · intro h
    split at h
    · simp at h
    · rename_i h1
      split at h
      · simp at h
      · rename_i h2
        split at h
        · simp at h
        · rename_i h3
          refine ⟨by simpa using h1, by omega, fun s hs => ?_⟩
          cases e : isNamed (raw s) with
          | true => rfl
          | false =>
            exfalso
            refine h3 ?_
            unfold noName
            rw [List.drop_zero, List.any_eq_true]
            exact ⟨s, hs, by rw [namedB_eq, e]; rfl⟩
  · rintro ⟨h1, h2, h3⟩
    rw [if_neg (by simp [h1]), if_neg (by omega), if_neg]
    intro h
    unfold noName at h
    rw [List.drop_zero, List.any_eq_true] at h
    obtain ⟨s, hs, hn⟩ := h
    rw [namedB_eq, h3 s hs] at hn
    cases hn

theorem faultFrom_right {l : List FactB} (hw : ∀ f ∈ l, wrongF f = 0) (hu : Up l) : ∀ (n k : Nat), k + n = l.length → faultFrom l n k = (0, 0)
  | 0, _, _ => rfl
  | n + 1, k, h => by
    have hk : k < l.length := by omega
    unfold faultFrom
    have e1 : wrongF (l.getD k noFact) = 0 := hw _ (by rw [List.getD_eq_getElem?_getD, List.getElem?_eq_getElem hk]; exact List.getElem_mem hk)
    rw [if_neg (by rw [e1]; simp), if_neg, faultFrom_right hw hu n (k + 1) (by omega)]
    rintro ⟨h0, h1⟩
    have := List.pairwise_iff_getElem.1 hu (k - 1) k (by omega) hk (by omega)
    rw [List.getD_eq_getElem?_getD, List.getD_eq_getElem?_getD, List.getElem?_eq_getElem (by omega), List.getElem?_eq_getElem hk] at h1
    simp only [Option.getD_some] at h1
    omega

theorem fault_right {l : List FactB} (hu : Up l) (hr : ∀ f ∈ l, RightF f) (hl : l.length ≤ 200) : setFault l = (0, 0) := by
  unfold setFault
  rw [if_neg (by omega)]
  exact faultFrom_right (fun f hf => wrongF_right.2 (hr f hf)) hu _ 0 (by omega)

theorem good_of_fault {p : List RuleD} {l : List FactB} (h : (setFault l).1 = 0) (hf : ∀ f ∈ l, fitF p f = true) : GoodS p l := by
  obtain ⟨h1, h2, h3⟩ := set_right h
  exact ⟨h2, fun f hf => wrongF_right.1 (h3 f hf), h1, hf⟩

theorem errW_right {p : List RuleD} (hp : RightP p) {L : List FactB} (hL : GoodS p L) : ∀ r ∈ p, errW r.body L [] = 0 := fun r hr => by
  unfold errW
  rw [if_neg (by simp [(hp.rules r hr).body]), if_neg (by rw [fault_right hL.up hL.right hL.few]; simp)]
  rfl

theorem short_right {p : List RuleD} (hp : RightP p) {L : List FactB} (hL : GoodS p L) : ∀ r ∈ p, ∀ R, allB (fun _ => L) r.body = some R → ∀ l ∈ R, ∀ f, fillB r.head l = some f → ShortF f := fun r hr _ hR l hl _ hf =>
  right_short (head_right (hp.rules r hr) hL.right ((all_mem (covers_right (hp.rules r hr)) hR l).1 hl) hf).1

set_option maxRecDepth 100000 in
set_option maxHeartbeats 2000000 in
theorem overC (p : List RuleD) (hp : RightP p) (σ : RuleD → Nat) (n : Int) (fs : List FactB) (pv sv fv : Value) (w : World) (hpv : ruleK.sl Anyw w pv p) (hsv : intK.sl Anyw w sv (p.map σ)) (hf : Facts w fv fs) (hg : GoodS p fs) :
    Calls Tryz.prog 41 #[pv, sv, .int .i64 n, fv] w fun e w' => ∃ v' er, e = .returned (.tuple #[v', .int .i64 er]) ∧ OnceT w' v' er (overGo p (p.map σ) n 201 fs) ∧ ((overGo p (p.map σ) n 201 fs).1 = 0 → GoodS p (overGo p (p.map σ) n 201 fs).2) ∧ Below w.heap.size w w' := by
  generalize hss : p.map σ = ss at *
  have HSS := hide hss
  clear hss
  obtain ⟨pa, pc, rfl⟩ := Kind.slice hpv
  obtain ⟨sa, sc, rfl⟩ := Kind.slice hsv
  have HP := hide hpv
  have HSV := hide hsv
  have HF := hide hf
  have HG := hide hg
  have HRP := hide hp
  have hfew := hg.few
  clear hpv hsv hf hg hp
  go_enter Tryz.func41, Tryz.ntmps41
  go_wp2
  go_loopg [3] 201 (fun g v wr => ∃ k L, k = g ∧ 200 < L.length + k ∧ Hid (Facts wr v L) ∧ Hid (GoodS p L) ∧ Hid (Below w.heap.size w wr) ∧ Hid (overGo p ss n 201 fs = overGo p ss n k L))
  case atStart => exact ⟨201, fs, rfl, by omega, HF, HG, Below.refl _ _, (rfl : _ = _)⟩
  case round =>
    clear HF HG
    obtain ⟨k, L, hkg, hk, HF, HG, HBr, HE⟩ := hrel
    have hL := HG.out.few
    obtain ⟨k', rfl⟩ : ∃ k', k = k' + 1 := ⟨k - 1, by omega⟩
    have HC := hide (onceC p ss n L _ _ _ wr (Kind.sl_below HP.out HBr.out) (Kind.sl_below HSV.out HBr.out) HF.out HRP.out.few hL (errW_right HRP.out HG.out) (short_right HRP.out HG.out) (fun f hf => right_short (HG.out.right f hf)))
    obtain ⟨la, lc, rfl⟩ := sliceFacts HF.out
    obtain ⟨er, S, hS⟩ : ∃ er S, onceP p ss n L = (er, S) := ⟨_, _, rfl⟩
    have hst : overGo p ss n 201 fs = if er ≠ 0 then (er, []) else if S.length = L.length then (0, S) else overGo p ss n k' S := by
      rw [HE.out, overGo, hS]
    rw [hS] at HC
    have HSt := hide hst
    have HGS : Hid (er = 0 → GoodS p S ∧ L.length ≤ S.length) := fun e => by
      subst e
      obtain ⟨g1, g2⟩ := once_good HRP.out σ HG.out (by rw [HSS.out]; exact hS)
      exact ⟨g1, up_le HG.out.up g2⟩
    clear hst hS HE
    go_wp2_with fail
    refine HC.out.mono ?_
    rintro e w2 ⟨v2, er', rfl, ⟨her, hT1, hT2⟩, hB2⟩
    dsimp only at her hT1 hT2 ⊢
    have her' := her.symm
    clear her
    subst her'
    have HB2 : Hid (Below w.heap.size w w2) := below_trans HBr.out hB2 HBr.out.size
    clear HC hB2
    by_cases h0 : er = 0
    · subst h0
      have hF2 := hT2 rfl
      have HF2 := hide hF2
      obtain ⟨hgS, hlS⟩ := HGS.out rfl
      have HGS2 := hide hgS
      obtain ⟨xa, xc, rfl⟩ := sliceFacts hF2
      have hSt := HSt.out
      rw [if_neg (by simp)] at hSt
      by_cases hlen : S.length = L.length
      · rw [if_pos hlen] at hSt
        have HR := hide hSt
        have hli : ((S.length : Nat) : Int) = (L.length : Nat) := by omega
        clear hSt hlen hT1 hT2 hF2 hgS HSt HGS
        go_wp2
        exact bodyPost_ret (v := .tuple #[.slice xa S.length xc, .int .i64 0]) (by simp [results, Tryz.results41, go_sem]) rfl ⟨_, 0, rfl, by rw [HR.out]; exact ⟨rfl, fun h => absurd rfl h, fun _ => HF2.out⟩, by rw [HR.out]; exact fun _ => HGS2.out, HB2.out⟩
      · rw [if_neg hlen] at hSt
        have HR := hide hSt
        have hli : ¬ ((S.length : Nat) : Int) = (L.length : Nat) := by omega
        have hk' : 200 < S.length + k' := by omega
        clear hSt hlen hT1 hT2 hF2 hgS HSt HGS
        go_wp2
        go_roundg k'
        case measure => omega
        case rel => exact ⟨k', S, rfl, hk', HF2, HGS2, HB2, HR⟩
    · have e2 := hT1 h0
      subst e2
      have HR : Hid (overGo p ss n 201 fs = (er, [])) := by show _ = _; rw [HSt.out, if_pos h0]
      have HT : Hid (∀ w', OnceT w' (.slice none 0 0) er (overGo p ss n 201 fs) ∧ ((overGo p ss n 201 fs).1 = 0 → GoodS p (overGo p ss n 201 fs).2)) := fun w' => by rw [HR.out]; exact ⟨⟨rfl, fun _ => rfl, fun h => absurd h h0⟩, fun h => absurd h h0⟩
      have hne : (er != 0) = true := by simpa using h0
      clear hT1 hT2 HSt HGS HR
      go_wp2
      exact bodyPost_ret (v := .tuple #[.slice none 0 0, .int .i64 er]) (by simp [results, Tryz.results41, go_sem]) rfl ⟨_, er, rfl, (HT.out _).1, (HT.out w2).2, HB2.out⟩

end Go.Proofs.YtbohggoeebhdmaaGreatDoor

/- The walks of naive's widths, and of naive.Facts. -/
namespace Go.Proofs.YtbohggoeebhdmaaGreatDoor
open Go.RowKit Go.Sort Go.Maps

abbrev Wids := Bs → Option Int
def Wids.put (m : Wids) (s : Bs) (n : Int) : Wids := fun t => if t = s then some n else m t
def widOne (m : Wids) (a : AtomD) : Wids := match m a.name with
  | none => m.put a.name a.terms.length
  | some n => if n ≠ a.terms.length then m.put a.name (-1) else m.put a.name a.terms.length
/-- The numbers are those of these atoms. -/
def WidOf (A : List AtomD) (m : Wids) : Prop := ∀ s, (m s = none ↔ ∀ a ∈ A, a.name ≠ s) ∧ ∀ n, m s = some n → ∀ k : Nat, n = (k : Int) ↔ ∀ a ∈ A, a.name = s → a.terms.length = k

theorem WidOf.nil : WidOf [] (fun _ => none) := fun s => ⟨by simp, fun n h => by cases h⟩
theorem WidOf.step {A : List AtomD} {m : Wids} (h : WidOf A m) (a : AtomD) : WidOf (A ++ [a]) (widOne m a) := by
  have key : ∀ x : Int, widOne m a = m.put a.name x → (∀ k : Nat, x = (k : Int) ↔ ∀ b ∈ A ++ [a], b.name = a.name → b.terms.length = k) → WidOf (A ++ [a]) (widOne m a) := fun x hx hk s => by
    rw [hx]
    unfold Wids.put
    by_cases e : s = a.name
    · subst e
      simp only [if_true]
      refine ⟨⟨fun h => by simp at h, fun h => absurd rfl (h a (by simp))⟩, fun n hn => ?_⟩
      cases hn
      exact hk
    · simp only [if_neg e]
      obtain ⟨h1, h2⟩ := h s
      refine ⟨by rw [h1]; exact ⟨fun h b hb => (List.mem_append.1 hb).elim (h b) (fun hb => by simp only [List.mem_singleton] at hb; subst hb; exact fun e' => e e'.symm), fun h b hb => h b (by simp [hb])⟩, fun n hn k => ?_⟩
      rw [h2 n hn k]
      exact ⟨fun h b hb hbs => (List.mem_append.1 hb).elim (fun hb => h b hb hbs) (fun hb => by simp only [List.mem_singleton] at hb; subst hb; exact absurd hbs.symm e), fun h b hb => h b (by simp [hb])⟩
  obtain ⟨h1, h2⟩ := h a.name
  unfold widOne at key ⊢
  cases e : m a.name with
  | none =>
    rw [e] at key
    refine key _ rfl fun k => ?_
    have hn := h1.1 e
    constructor
    · intro hk b hb hbn
      rcases List.mem_append.1 hb with hb | hb
      · exact absurd hbn (hn b hb)
      · simp only [List.mem_singleton] at hb; subst hb; omega
    · intro hk; have := hk a (by simp) rfl; omega
  | some n =>
    rw [e] at key
    dsimp only at key ⊢
    have hA := h2 n e
    by_cases hne : n ≠ a.terms.length
    · rw [if_pos hne] at key ⊢
      refine key _ rfl fun k => ⟨fun hk => by omega, fun hk => ?_⟩
      exfalso
      have h3 := hk a (by simp) rfl
      have h4 := (hA k).2 fun b hb => hk b (by simp [hb])
      omega
    · rw [if_neg hne] at key ⊢
      have hne : n = a.terms.length := by omega
      refine key _ rfl fun k => ?_
      constructor
      · intro hk b hb hbn
        rcases List.mem_append.1 hb with hb | hb
        · exact (hA k).1 (by omega) b hb hbn
        · simp only [List.mem_singleton] at hb; subst hb; omega
      · intro hk; have := hk a (by simp) rfl; omega

/-- Block b holds such numbers. -/
def WidM (w : World) (b n : Nat) (m : Wids) : Prop := ∃ D : DataW Unit, w.ownsMap Tryz.prog 9 (plainElem Tryz.prog 3) b n D ∧ ∀ s, Maps.has D (.string s) = (m s).isSome ∧ D.atKey (.string s) (.lit (.int .i64 0)) = .lit (.int .i64 ((m s).getD 0))

theorem WidM.made (w : World) : WidM (w.alloc (.map #[] 0)) w.heap.size 0 (fun _ => none) := ⟨.map [], World.ownsMap_made _ _ _ _, fun _ => ⟨rfl, rfl⟩⟩

theorem WidM.lt {w : World} {b n : Nat} {m : Wids} (h : WidM w b n m) : b < w.heap.size := by obtain ⟨D, h, _⟩ := h; exact h.lt
theorem WidM.block {w w' : World} {b n : Nat} {m : Wids} (h : WidM w b n m) (e : w'.heap[b]? = w.heap[b]?) : WidM w' b n m := by obtain ⟨D, h, hf⟩ := h; exact ⟨D, owns_block h e, hf⟩
theorem WidM.later {w w' : World} {b n : Nat} {m : Wids} (h : WidM w b n m) (k : Later w w') : WidM w' b n m := h.block (k.block h.lt)

set_option maxRecDepth 100000 in
theorem WidM.look {w : World} {b n : Nat} {m : Wids} (h : WidM w b n m) {s : Bs} (hs : s.length ≤ maxLen) :
    (Instr.lookup 70 (.map (some b)) (.string (bs s)) true).run Tryz.prog w = .ok (.tuple #[.int .i64 ((m s).getD 0), .bool (m s).isSome]) w := by
  obtain ⟨D, hown, hf⟩ := h
  obtain ⟨v, ps, hrun, hv⟩ := hown.look_ok (string_keyed Tryz.underlying9) (t := 70) Tryz.underlying70 (zeroInt _) (plainElem_int Tryz.underlying3 (by decide)) (key_mk Tryz.underlying9 hs)
  rw [(hf s).2] at hv
  obtain ⟨c, rfl, hc, _⟩ := plainElem_int_inv Tryz.underlying3 hv
  simp only [Prod.mk.injEq] at hc
  have hc := hc.1
  injection hc with hc
  injection hc with _ hc
  subst hc
  refine hrun.trans ?_
  rw [(hf s).1]

theorem WidM.store {w : World} {b n : Nat} {m : Wids} (h : WidM w b n m) (hn : n < maxLen) {s : Bs} (hs : s.length ≤ maxLen) {x : Int} (hx : (Lit.int .i64 x).wf = true) :
    ∃ w', (Instr.mapUpdate 70 (.map (some b)) (.string (bs s)) (.int .i64 x)).run Tryz.prog w = .ok () w' ∧ WidM w' b (n + 1) (m.put s x) ∧ w.grownBy w' (some b) := by
  obtain ⟨D, hown, hf⟩ := h
  obtain ⟨w', hrun, r1, r2⟩ := hown.update (string_keyed Tryz.underlying9) (t := 70) Tryz.underlying70 hn (key_mk Tryz.underlying9 hs) (plainElem_int Tryz.underlying3 hx)
  refine ⟨w', hrun, ⟨_, r1, fun t => ?_⟩, r2⟩
  by_cases e : t = s
  · subst e
    exact ⟨by rw [has_put_same hown.isMap (keyS _)]; simp [Wids.put], by rw [atKey_put_same hown.isMap (keyS _)]; simp [Wids.put]⟩
  · exact ⟨by rw [has_put_other (str_ne e), (hf t).1]; simp [Wids.put, e], by rw [atKey_put_other (str_ne e), (hf t).2]; simp [Wids.put, e]⟩

set_option maxRecDepth 100000 in
set_option maxHeartbeats 1000000 in
theorem widAddC (b n : Nat) (m : Wids) (a : AtomD) (v : Value) (w : World) (h : WidM w b n m) (hv : termK.sl Anyw w v a.terms) (hs : a.name.length ≤ maxLen) (hn : n < maxLen) :
    Calls Tryz.prog 70 #[.map (some b), .agg #[.bool a.no, .string (bs a.name), v]] w fun e w' => (∃ u, e = .returned u) ∧ WidM w' b (n + 1) (widOne m a) ∧ Tn b w w' := by
  obtain ⟨sa, cap, rfl⟩ := Kind.slice hv
  have hl0 := hv.1.1
  clear hv
  have h1 := h.later ((Later.refl w).alloc (.cells #[.bool a.no, .string (bs a.name), .slice sa a.terms.length cap] 40))
  have hr := h1.look hs
  have hblt := h.lt
  cases hm : m a.name with
  | none =>
    obtain ⟨w1, hst, hm1, hg⟩ := h1.store hn hs (x := (a.terms.length : Nat)) (wf_len (by omega))
    rw [hm] at hr
    have F : Hid (widOne m a = m.put a.name a.terms.length) := by show _ = _; unfold widOne; rw [hm]
    have HM : Hid (WidM w1 b (n + 1) (m.put a.name a.terms.length)) := hm1
    have HT : Hid (Tn b w w1) := (Tn.of_below (p := b) ((Later.refl w).alloc _).below).trans (tn_of_grown hg)
    have hst' := hide hst
    clear h h1 hm1 hg hst hm
    simp only [Option.getD_none, Option.isSome_none] at hr
    generalize bs a.name = nm at *
    generalize a.no = no at *
    go_enter Tryz.func70, Tryz.ntmps70
    go_wp2_with (first
      | (at_mapUpdate; refine wpList_run_update _ rfl _ _ _ _ rfl _ _ _ _ rfl rfl rfl (unhide hst') ?_)
      | go_in)
    go_end0
    exact ⟨⟨_, rfl⟩, by rw [F.out]; exact HM.out, HT.out⟩
  | some k =>
    rw [hm] at hr
    simp only [Option.getD_some, Option.isSome_some] at hr
    by_cases hne : k ≠ a.terms.length
    · obtain ⟨w1, hst, hm1, hg⟩ := h1.store hn hs (x := -1) (by decide)
      have F : Hid (widOne m a = m.put a.name (-1)) := by show _ = _; unfold widOne; rw [hm]; exact if_pos hne
      have HM : Hid (WidM w1 b (n + 1) (m.put a.name (-1))) := hm1
      have HT : Hid (Tn b w w1) := (Tn.of_below (p := b) ((Later.refl w).alloc _).below).trans (tn_of_grown hg)
      have hst' := hide hst
      have hq : (k != (a.terms.length : Int)) = true := by simpa using hne
      clear h h1 hm1 hg hst hm hne
      generalize bs a.name = nm at *
      generalize a.no = no at *
      go_enter Tryz.func70, Tryz.ntmps70
      go_wp2_with (first
        | (at_mapUpdate; refine wpList_run_update _ rfl _ _ _ _ rfl _ _ _ _ rfl rfl rfl (unhide hst') ?_)
        | go_in)
      exact bodyPost_ret (results_none rfl _ _ _) rfl ⟨⟨_, rfl⟩, by rw [F.out]; exact HM.out, HT.out⟩
    · have hk : k = (a.terms.length : Int) := by omega
      subst hk
      obtain ⟨w1, hst, hm1, hg⟩ := h1.store hn hs (x := (a.terms.length : Nat)) (wf_len (by omega))
      have F : Hid (widOne m a = m.put a.name a.terms.length) := by show _ = _; unfold widOne; rw [hm]; exact if_neg (by simp)
      have HM : Hid (WidM w1 b (n + 1) (m.put a.name a.terms.length)) := hm1
      have HT : Hid (Tn b w w1) := (Tn.of_below (p := b) ((Later.refl w).alloc _).below).trans (tn_of_grown hg)
      have hst' := hide hst
      clear h h1 hm1 hg hst hm hne
      generalize bs a.name = nm at *
      generalize a.no = no at *
      go_enter Tryz.func70, Tryz.ntmps70
      go_wp2_with (first
        | (at_mapUpdate; refine wpList_run_update _ rfl _ _ _ _ rfl _ _ _ _ rfl rfl rfl (unhide hst') ?_)
        | go_in)
      go_end0
      exact ⟨⟨_, rfl⟩, by rw [F.out]; exact HM.out, HT.out⟩

def widFits (m : Wids) (f : FactB) : Bool := match m (raw f.1) with | none => true | some k => decide (k = f.2.length)

set_option maxRecDepth 100000 in
set_option maxHeartbeats 1000000 in
theorem widFitC (b n : Nat) (m : Wids) (f : FactB) (v : Value) (w : World) (h : WidM w b n m) (hv : FactV w v f) (hs : f.1.size ≤ maxLen) :
    Calls Tryz.prog 37 #[.map (some b), v] w fun e w' => e = .returned (.bool (widFits m f)) ∧ Later w w' := by
  unfold widFits
  obtain ⟨u, rfl, hu⟩ := hv
  obtain ⟨sa, cap, rfl⟩ := sliceStr hu
  obtain ⟨nm, args⟩ := f
  dsimp only at *
  have h1 := h.later ((Later.refl w).alloc (.cells #[.string nm, .slice sa args.length cap] 54))
  have hr := h1.look (s := raw nm) (by rw [length_raw]; exact hs)
  rw [bs_raw] at hr
  clear h h1 hu hs
  cases hm : m (raw nm) with
  | none =>
    rw [hm] at hr
    simp only [Option.getD_none, Option.isSome_none] at hr
    go_enter Tryz.func37, Tryz.ntmps37
    go_wp2
    go_ret
    exact ⟨rfl, (by repeat (first | exact Later.refl _ | assumption | refine Later.drewN ?_ _ | refine Later.drew ?_ | refine Later.alloc ?_ _ | refine Later.grow ?_ _))⟩
  | some k =>
    rw [hm] at hr
    simp only [Option.getD_some, Option.isSome_some] at hr
    go_enter Tryz.func37, Tryz.ntmps37
    go_wp2
    go_ret
    refine ⟨ret_bool ?_, (by repeat (first | exact Later.refl _ | assumption | refine Later.drewN ?_ _ | refine Later.drew ?_ | refine Later.alloc ?_ _ | refine Later.grow ?_ _))⟩
    rw [Bool.eq_iff_iff]
    simp

end Go.Proofs.YtbohggoeebhdmaaGreatDoor

/- The walks of naive's widthsOf, Facts and Count. -/
namespace Go.Proofs.YtbohggoeebhdmaaGreatDoor
open Go.RowKit Go.Sort Go.Maps

theorem atomsP_append (p q : List RuleD) : atomsP (p ++ q) = atomsP p ++ atomsP q := by simp [atomsP]

theorem WidM.mono {w : World} {b n n' : Nat} {m : Wids} (h : WidM w b n m) (hn : n ≤ n') : WidM w b n' m := by obtain ⟨D, h, hf⟩ := h; exact ⟨D, h.mono hn, hf⟩

set_option maxRecDepth 100000 in
set_option maxHeartbeats 4000000 in
theorem widthsOfC (p : List RuleD) (v : Value) (w : World) (hv : ruleK.sl Anyw w v p) (h16 : p.length ≤ 16) (h5 : ∀ r ∈ p, r.body.length ≤ 5) (hs : ∀ a ∈ atomsP p, a.name.length ≤ 12) :
    Calls Tryz.prog 36 #[v] w fun e w' => ∃ n m, e = .returned (.map (some w.heap.size)) ∧ WidM w' w.heap.size n m ∧ WidOf (atomsP p) m ∧ Below w.heap.size w w' := by
  obtain ⟨pa, pc, rfl⟩ := Kind.slice hv
  have HV := hide hv
  have HS := hide hs
  have H5 := hide h5
  have HM0 : Hid (WidM (w.alloc (.map #[] 0)) w.heap.size 0 (fun _ => none)) := WidM.made w
  have HB0 : Hid (Below w.heap.size w (w.alloc (.map #[] 0))) := ((Later.refl w).alloc _).below
  have hmm := @run_makeMap Tryz.prog
  clear hv hs h5
  go_enter Tryz.func36, Tryz.ntmps36
  go_wp2
  go_loopg [11] p.length (fun g i wr => ∃ j : Nat, j + g = p.length ∧ i = .int .i64 j ∧ w.heap.size < wr.heap.size ∧ ∃ m, Hid (WidM wr w.heap.size (6 * j) m) ∧ Hid (WidOf (atomsP (p.take j)) m) ∧ Hid (Below w.heap.size w wr))
  case atStart => exact ⟨0, by omega, rfl, by simp, _, HM0, WidOf.nil, HB0⟩
  case round =>
    clear HM0 HB0 hmm
    obtain ⟨j, hj, rfl, hwr, m, HM, HO, HBr⟩ := hrel
    obtain ⟨wo, hwo⟩ : ∃ wo, wo = wr := ⟨_, rfl⟩
    subst hwo
    by_cases hlt : j < p.length
    · obtain ⟨r, hr⟩ : ∃ x, p[j]? = some x := ⟨_, List.getElem?_eq_getElem hlt⟩
      have hrm : r ∈ p := List.mem_of_getElem? hr
      obtain ⟨b1, o1, _, rfl, hb1, ⟨tv, bv, rfl, htv, hbv⟩, hc⟩ := Kind.sl_at HV.out hr
      have d0 : wo.cell? ⟨b1, o1 + j * 4, none⟩ = some (.bool r.head.no) := by rw [HBr.out.cell (p := ⟨b1, o1 + j * 4, none⟩) hb1]; exact hc 0 _ rfl
      have d1 : wo.cell? ⟨b1, o1 + j * 4 + 1, none⟩ = some (.string (bs r.head.name)) := by rw [HBr.out.cell (p := ⟨b1, o1 + j * 4 + 1, none⟩) hb1]; exact hc 1 _ rfl
      have d2 : wo.cell? ⟨b1, o1 + j * 4 + 2, none⟩ = some tv := by rw [HBr.out.cell (p := ⟨b1, o1 + j * 4 + 2, none⟩) hb1]; exact hc 2 _ rfl
      have d3 : wo.cell? ⟨b1, o1 + j * 4 + 3, none⟩ = some bv := by rw [HBr.out.cell (p := ⟨b1, o1 + j * 4 + 3, none⟩) hb1]; exact hc 3 _ rfl
      obtain ⟨ta, tc, rfl⟩ := Kind.slice htv
      obtain ⟨ba, bc, rfl⟩ := Kind.slice hbv
      have hsz := HBr.out.size
      have htk : atomsP (p.take (j + 1)) = atomsP (p.take j) ++ (r.head :: r.body) := by
        rw [List.take_add_one, hr, atomsP_append]; simp [atomsP]
      have hram : ∀ a ∈ r.head :: r.body, a.name.length ≤ 12 := fun a ha => HS.out a (List.mem_flatMap.2 ⟨r, hrm, ha⟩)
      have hb5 := H5.out r hrm
      have hbox := RuleBox.made w.heap.size wo (.bool r.head.no) (.string (bs r.head.name)) (.slice ta r.head.terms.length tc) (.slice ba r.body.length bc)
      obtain ⟨wb, hwb⟩ : ∃ wb, wb = wo.alloc (.cells #[.bool r.head.no, .string (bs r.head.name), .slice ta r.head.terms.length tc, .slice ba r.body.length bc] 43) := ⟨_, rfl⟩
      rw [← hwb] at hbox
      have hLb : Later wo wb := by rw [hwb]; exact (Later.refl _).alloc _
      have hBb : Below w.heap.size w wb := below_trans HBr.out hLb.below hsz
      have HC := hide (widAddC w.heap.size (6 * j) m r.head (.slice ta r.head.terms.length tc) wb (HM.out.later hLb) (Kind.sl_below htv hBb) (by have := hram r.head (by simp); unfold maxLen; omega) (by unfold maxLen; omega))
      have HBx := hide hbox
      have HBb := hide hBb
      have HBV := hide hbv
      have HTK := hide htk
      have HRA := hide hram
      have HWb := hide hwb
      clear hc hr htv hbv htk hram hbox hLb hBb hwb hrm
      generalize bs r.head.name = nm at *
      generalize hno : r.head.no = no at *
      go_wp2_with fail
      rw [← HWb.out]
      refine HC.out.mono ?_
      rintro e w2 ⟨⟨u2, rfl⟩, hM2, hT2⟩
      have HX2 := hide (HBx.out.turned hT2 hwr)
      have HM2 := hide hM2
      have HO2 : Hid (WidOf (atomsP (p.take j) ++ (r.head :: r.body.take 0)) (widOne m r.head)) := by show WidOf _ _; have := HO.out.step r.head; simpa using this
      have HT2 : Hid (Tn w.heap.size wb w2) := hT2
      have x3 : w2.cell? ⟨wo.heap.size, 3, none⟩ = some (.slice ba r.body.length bc) := HX2.out.z3
      clear hM2 hT2 HC hno
      go_wp2
      go_loopg [22] r.body.length (fun g i wz => ∃ k : Nat, k + g = r.body.length ∧ i = .int .i64 k ∧ ∃ m', Hid (WidM wz w.heap.size (6 * j + 1 + k) m') ∧ Hid (WidOf (atomsP (p.take j) ++ (r.head :: r.body.take k)) m') ∧ Hid (Tn w.heap.size wb wz))
      case atStart => exact ⟨0, by omega, rfl, _, HM2, HO2, HT2⟩
      case round =>
        clear HM2 HO2 HT2 x3
        obtain ⟨k, hk, rfl, m', HM', HO', HT'⟩ := hrel
        have hbs : w.heap.size ≤ wb.heap.size := by have := HBb.out.size; omega
        have hBz : Below w.heap.size wb wr := HT'.out.below (Nat.le_refl _) hbs
        have hwz := HT'.out.size
        have hww : wo.heap.size < wb.heap.size := HBx.out.lt
        by_cases hltk : k < r.body.length
        · obtain ⟨t, ht⟩ : ∃ x, r.body[k]? = some x := ⟨_, List.getElem?_eq_getElem hltk⟩
          obtain ⟨b2, o2, _, rfl, hb2, ⟨sv, rfl, hsv⟩, hc⟩ := Kind.sl_at HBV.out ht
          have hBw : Below w.heap.size w wr := HBb.out.trans hBz
          have e0 : wr.cell? ⟨b2, o2 + k * 3, none⟩ = some (.bool t.no) := by rw [hBw.cell (p := ⟨b2, o2 + k * 3, none⟩) hb2]; exact hc 0 _ rfl
          have e1 : wr.cell? ⟨b2, o2 + k * 3 + 1, none⟩ = some (.string (bs t.name)) := by rw [hBw.cell (p := ⟨b2, o2 + k * 3 + 1, none⟩) hb2]; exact hc 1 _ rfl
          have e2 : wr.cell? ⟨b2, o2 + k * 3 + 2, none⟩ = some sv := by rw [hBw.cell (p := ⟨b2, o2 + k * 3 + 2, none⟩) hb2]; exact hc 2 _ rfl
          have hbr : b2 < wr.heap.size := by omega
          obtain ⟨sva, svc, rfl⟩ := Kind.slice hsv
          have hL5 : Later wr (wr.alloc (.cells #[.bool t.no, .string (bs t.name), .slice sva t.terms.length svc] 40)) := (Later.refl _).alloc _
          have htk : r.head :: r.body.take (k + 1) = (r.head :: r.body.take k) ++ [t] := by rw [List.take_add_one, ht]; rfl
          have HC5 := hide (widAddC w.heap.size (6 * j + 1 + k) m' t (.slice sva t.terms.length svc) (wr.alloc (.cells #[.bool t.no, .string (bs t.name), .slice sva t.terms.length svc] 40)) (HM'.out.later hL5) (Kind.sl_below hsv (below_trans hBw hL5.below hBw.size)) (by have := HRA.out t (List.mem_cons_of_mem _ (List.mem_of_getElem? ht)); unfold maxLen; omega) (by unfold maxLen; omega))
          have HO5 : Hid (WidOf (atomsP (p.take j) ++ (r.head :: r.body.take (k + 1))) (widOne m' t)) := by show WidOf _ _; rw [htk, ← List.append_assoc]; exact HO'.out.step t
          have HL5 := hide hL5
          clear hc ht hsv hBw hL5 htk hBz
          generalize bs t.name = nm5 at *
          generalize t.no = no5 at *
          go_wp2_with fail
          refine HC5.out.mono ?_
          rintro e w6 ⟨⟨u6, rfl⟩, hM6, hT6⟩
          have HM6 : Hid (WidM w6 w.heap.size (6 * j + 1 + (k + 1)) (widOne m' t)) := hM6
          have HT6 : Hid (Tn w.heap.size wb w6) := (HT'.out.trans (Tn.of_below HL5.out.below)).trans hT6
          clear hM6 hT6 HC5
          go_wp2
          go_roundg (r.body.length - (k + 1))
          case measure => omega
          case rel => exact ⟨k + 1, by omega, by go_num, _, HM6, HO5, HT6⟩
        · have hk' : r.body.take k = r.body := List.take_of_length_le (by omega)
          rw [hk', ← HTK.out] at HO'
          have HB4 : Hid (Below w.heap.size w wr) := HBb.out.trans hBz
          have HM4 : Hid (WidM wr w.heap.size (6 * (j + 1)) m') := HM'.out.mono (by omega)
          have hws : w.heap.size < wr.heap.size := by omega
          clear hk' hBz
          go_wp2
          go_roundg (p.length - (j + 1))
          case measure => omega
          case rel => exact ⟨j + 1, by omega, by go_num, hws, m', HM4, HO', HB4⟩
    · have hj' : p.take j = p := List.take_of_length_le (by omega)
      rw [hj'] at HO
      clear hj'
      go_wp2
      go_ret
      exact ⟨_, m, rfl, HM.out, HO.out, HBr.out⟩

/-- The first fact from k on that does not go with the program. -/
def fitFrom (p : List RuleD) (l : List FactB) : Nat → Nat → Int × Int
  | 0, _ => (0, 0)
  | n + 1, k => if fitF p (l.getD k noFact) = true then fitFrom p l n (k + 1) else (8, k)
def factsP (p : List RuleD) (l : List FactB) : Int × Int := if (setFault l).1 ≠ 0 then setFault l else fitFrom p l l.length 0

theorem fitFrom_zero {p : List RuleD} {l : List FactB} : ∀ (n k : Nat), (fitFrom p l n k).1 = 0 → ∀ i, k ≤ i → i < k + n → fitF p (l.getD i noFact) = true
  | 0, k, _, i, h1, h2 => by omega
  | n + 1, k, h, i, h1, h2 => by
    unfold fitFrom at h
    split at h
    · rename_i hf
      by_cases e : i = k
      · subst e; exact hf
      · exact fitFrom_zero n (k + 1) h i (by omega) (by omega)
    · simp at h
theorem fitFrom_all {p : List RuleD} {l : List FactB} (h : ∀ f ∈ l, fitF p f = true) : ∀ (n k : Nat), k + n = l.length → fitFrom p l n k = (0, 0)
  | 0, _, _ => rfl
  | n + 1, k, hk => by
    unfold fitFrom
    rw [if_pos (h _ (by rw [List.getD_eq_getElem?_getD, List.getElem?_eq_getElem (by omega)]; exact List.getElem_mem _))]
    exact fitFrom_all h n (k + 1) (by omega)
theorem facts_good {p : List RuleD} {l : List FactB} (h : (factsP p l).1 = 0) : GoodS p l := by
  unfold factsP at h
  split at h
  · rename_i h1; exact absurd h h1
  · rename_i h1
    refine good_of_fault (by simpa using h1) fun f hf => ?_
    obtain ⟨i, hi, rfl⟩ := List.getElem_of_mem hf
    have := fitFrom_zero l.length 0 h i (Nat.zero_le _) (by omega)
    rwa [List.getD_eq_getElem?_getD, List.getElem?_eq_getElem hi] at this
theorem good_facts {p : List RuleD} {l : List FactB} (h : GoodS p l) : factsP p l = (0, 0) := by
  unfold factsP
  rw [fault_right h.up h.right h.few, if_neg (by simp)]
  exact fitFrom_all h.fit _ 0 (by omega)

theorem fit_wid {p : List RuleD} {m : Wids} (h : WidOf (atomsP p) m) (f : FactB) : widFits m f = fitF p f := by
  unfold widFits
  obtain ⟨h1, h2⟩ := h (raw f.1)
  rw [Bool.eq_iff_iff, fitF_iff]
  cases e : m (raw f.1) with
  | none =>
    simp only [true_iff]
    intro a ha hb
    exact absurd (by rw [← hb, raw_bs]) (h1.1 e a ha)
  | some k =>
    simp only [decide_eq_true_eq]
    rw [h2 k e f.2.length]
    exact ⟨fun h a ha hb => h a ha (by rw [← hb, raw_bs]), fun h a ha hb => h a ha (by rw [hb, bs_raw])⟩

theorem right_names {p : List RuleD} (hp : RightP p) : (∀ r ∈ p, r.body.length ≤ 5) ∧ ∀ a ∈ atomsP p, a.name.length ≤ 12 := by
  have hn : ∀ a : AtomD, wrongAtom a = 0 → a.name.length ≤ 12 := fun a ha => by
    have h1 := (atom_zero ha).1
    unfold isNamed at h1
    simp only [Bool.and_eq_true, decide_eq_true_eq] at h1
    exact h1.1.1
  have hb : ∀ l : List AtomD, wrongAtoms l = 0 → ∀ a ∈ l, wrongAtom a = 0 := fun l => by
    induction l with
    | nil => intro _ a ha; cases ha
    | cons x l ih =>
      intro h a ha
      unfold wrongAtoms at h
      split at h
      · rename_i hx
        rcases List.mem_cons.1 ha with rfl | ha
        · exact hx
        · exact ih h a ha
      · rename_i hx; exact absurd h hx
  have key : ∀ r ∈ p, r.body.length ≤ 5 ∧ ∀ a ∈ r.body, wrongAtom a = 0 := fun r hr => by
    have := (hp.rules r hr).body
    unfold wrongBody at this
    split at this
    · cases this
    · rename_i h5
      split at this
      · rename_i h0; exact ⟨by omega, hb _ h0⟩
      · rename_i h0; exact absurd this h0
  refine ⟨fun r hr => (key r hr).1, fun a ha => ?_⟩
  obtain ⟨r, hr, ha⟩ := List.mem_flatMap.1 ha
  rcases List.mem_cons.1 ha with rfl | ha
  · exact hn _ (hp.rules r hr).head
  · exact hn _ ((key r hr).2 a ha)

end Go.Proofs.YtbohggoeebhdmaaGreatDoor
