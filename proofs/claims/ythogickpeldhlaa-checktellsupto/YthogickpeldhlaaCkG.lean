/- The walks of check's behind, lifted and each. -/
import Derived.Test.YthogickpeldhlaaCkF
namespace Go.Proofs.Ythogickpeldhlaa
open Go.RowKit Go.Sort Go.Maps

set_option maxRecDepth 100000 in
set_option maxHeartbeats 1000000 in
theorem behindC (b n c : Nat) (m : Nums) (a : AtomD) (v : Value) (w : World) (h : NumsM w b n m) (hv : termK.sl Anyw w v a.terms) (hs : a.name.length ≤ maxLen) (hc : numOf m a.name ≤ c) (hcc : c ≤ 1000000) :
    Calls Try.prog 123 #[.map (some b), .agg #[.bool a.no, .string (bs a.name), v]] w fun e w' => e = .returned (.int .i64 (behind m a : Nat)) ∧ Later w w' := by
  obtain ⟨sa, cap, rfl⟩ := Kind.slice hv
  clear hv
  have h1 := h.later ((Later.refl w).alloc (.cells #[.bool a.no, .string (bs a.name), .slice sa a.terms.length cap] 54))
  have hr := NumM.lookOk (T := 120) h1 Try.underlying9 Try.underlying3 Try.underlying120 (zeroInt _) hs
  clear h h1
  cases hm : m a.name with
  | none =>
    have e0 : numOf m a.name = 0 := by unfold numOf; rw [hm]; rfl
    have F : Hid (behind m a = 0) := by show _ = _; unfold behind; rw [hm]
    rw [hm, e0] at hr
    clear hm e0 hc
    generalize bs a.name = nm at *
    generalize a.no = no at *
    go_enter Try.func123, Try.ntmps123
    go_wp2
    go_ret
    exact ⟨by rw [F.out]; rfl, (Later.refl _).alloc _⟩
  | some k =>
    have e0 : numOf m a.name = k := by unfold numOf; rw [hm]; rfl
    have F : Hid (behind m a = if a.no then k + 1 else k) := by show _ = _; unfold behind; rw [hm]
    rw [hm, e0] at hr
    rw [e0] at hc
    clear hm e0
    generalize bs a.name = nm at *
    generalize a.no = no at *
    cases no
    · go_enter Try.func123, Try.ntmps123
      go_wp2
      go_ret
      exact ⟨by rw [F.out]; rfl, (Later.refl _).alloc _⟩
    · have F2 : Hid (((behind m a : Nat) : Int) = (k : Int) + 1) := by show _ = _; rw [F.out]; simp
      go_enter Try.func123, Try.ntmps123
      go_wp2
      go_ret
      exact ⟨by rw [F2.out]; rfl, (Later.refl _).alloc _⟩

theorem behind_le {m : Nums} {c : Nat} (h : ∀ s, numOf m s ≤ c) (a : AtomD) : behind m a ≤ c + 1 := by
  have := h a.name
  unfold numOf at this
  unfold behind
  cases hm : m a.name with
  | none => simp
  | some k => rw [hm] at this; simp at this; simp only; split <;> omega
theorem liftAtom_le {h : Bs} {x : Nums × Bool} {c : Nat} (hc : ∀ s, numOf x.1 s ≤ c) (a : AtomD) : ∀ s, numOf (liftAtom h x a).1 s ≤ c + 1 := by
  intro s
  unfold liftAtom
  split
  · show numOf (x.1.put _ _) s ≤ _
    rw [numOf_put]
    split
    · exact behind_le hc a
    · have := hc s; omega
  · have := hc s; omega

theorem foldAtom_step {l : List AtomD} {q : Nat} {a : AtomD} (h : l[q]? = some a) (s : Bs) (y : Nums × Bool) : (l.drop q).foldl (liftAtom s) y = (l.drop (q + 1)).foldl (liftAtom s) (liftAtom s y a) := by
  obtain ⟨h1, e1⟩ := List.getElem?_eq_some_iff.1 h
  rw [List.drop_eq_getElem_cons h1, e1]; rfl
theorem liftAll_step {p : List RuleD} {j : Nat} {r : RuleD} (h : p[j]? = some r) (x : Nums × Bool) : liftAll x (p.drop j) = liftAll (liftRule x r) (p.drop (j + 1)) := by
  obtain ⟨h1, e1⟩ := List.getElem?_eq_some_iff.1 h
  rw [List.drop_eq_getElem_cons h1, e1]; rfl

/-- Names that may be keys, and not too many atoms. -/
def fineR (r : RuleD) : Prop := r.head.name.length ≤ maxLen ∧ r.body.length ≤ 5 ∧ ∀ a ∈ r.body, a.name.length ≤ maxLen

set_option maxRecDepth 100000 in
set_option maxHeartbeats 4000000 in
theorem liftedC (b n c : Nat) (m : Nums) (p : List RuleD) (v : Value) (w : World) (h : NumsM w b n m) (hv : ruleK.sl (fun k => k ≠ b) w v p) (hf : ∀ r ∈ p, fineR r) (hp : p.length ≤ 16) (hc : ∀ s, numOf m s ≤ c) (hn : n ≤ 100000) (hcc : c ≤ 100000) :
    Calls Try.prog 96 #[.map (some b), v] w fun e w' => e = .returned (.bool (liftAll (m, false) p).2) ∧ NumsM w' b (n + 80) (liftAll (m, false) p).1 ∧ Tn b w w' ∧ ∀ s, numOf (liftAll (m, false) p).1 s ≤ c + 80 := by
  have hbw := h.lt
  obtain ⟨sa, cap, rfl⟩ := Kind.slice hv
  have HV := hide hv
  have HF := hide hf
  have H0 := hide h
  have HC0 := hide hc
  clear hv hf h hc
  go_enter Try.func96, Try.ntmps96
  go_wp2
  go_loopg [5, 13] p.length (fun k s5 i wr => ∃ j : Nat, j + k = p.length ∧ i = .int .i64 j ∧ ∃ x : Nums × Bool, s5 = .bool x.2 ∧ Hid (liftAll (m, false) p = liftAll x (p.drop j)) ∧ Hid (NumsM wr b (n + 5 * j) x.1) ∧ Hid (Tn b w wr) ∧ Hid (∀ s, numOf x.1 s ≤ c + 5 * j))
  case atStart => exact ⟨0, by omega, rfl, (m, false), rfl, (rfl : _ = _), H0, Tn.refl _ _, HC0⟩
  case round =>
    obtain ⟨j, hj, rfl, x, rfl, HE, HM, HT, HC⟩ := hrel
    have hwr := HT.out.size
    by_cases hlt : j < p.length
    · obtain ⟨r, hr⟩ : ∃ x, p[j]? = some x := ⟨_, List.getElem?_eq_getElem hlt⟩
      obtain ⟨b1, o1, _, rfl, hb1, hbne, ⟨sv, su, rfl, hsv, hsu⟩, hcl⟩ := Kind.sl_atB HV.out hr
      have d0 : wr.cell? ⟨b1, o1 + j * 4, none⟩ = some (.bool r.head.no) := by rw [HT.out.cell hb1 hbne]; exact hcl 0 _ rfl
      have d1 : wr.cell? ⟨b1, o1 + j * 4 + 1, none⟩ = some (.string (bs r.head.name)) := by rw [HT.out.cell hb1 hbne]; exact hcl 1 _ rfl
      have d2 : wr.cell? ⟨b1, o1 + j * 4 + 2, none⟩ = some sv := by rw [HT.out.cell hb1 hbne]; exact hcl 2 _ rfl
      have d3 : wr.cell? ⟨b1, o1 + j * 4 + 3, none⟩ = some su := by rw [HT.out.cell hb1 hbne]; exact hcl 3 _ rfl
      obtain ⟨f1, f2, f3⟩ := HF.out r (List.mem_of_getElem? hr)
      have HS := hide (liftAll_step hr x)
      obtain ⟨a2, c2, rfl⟩ := Kind.slice hsv
      obtain ⟨a3, c3, rfl⟩ := Kind.slice hsu
      have HSU := hide hsu
      have HF3 := hide f3
      have hbl : r.body.length ≤ 5 := f2
      have hjp : j < 16 := by omega
      have hbr : b1 < wr.heap.size := by omega
      clear hcl hr hsv hsu f3 f2
      have hbwr : b < wr.heap.size := by omega
      have HM1 := hide (HM.out.later ((Later.refl wr).alloc (.cells #[.bool r.head.no, .string (bs r.head.name), .slice a2 r.head.terms.length c2, .slice a3 r.body.length c3] 56)))
      have HT1 := hide (HT.out.alloc (.cells #[.bool r.head.no, .string (bs r.head.name), .slice a2 r.head.terms.length c2, .slice a3 r.body.length c3] 56))
      have HZ1 : Hid ((wr.alloc (.cells #[.bool r.head.no, .string (bs r.head.name), .slice a2 r.head.terms.length c2, .slice a3 r.body.length c3] 56)).cell? ⟨wr.heap.size, 1, none⟩ = some (.string (bs r.head.name))) := by show _ = _; simp
      have hR1 : wr.heap.size < (wr.alloc (.cells #[.bool r.head.no, .string (bs r.head.name), .slice a2 r.head.terms.length c2, .slice a3 r.body.length c3] 56)).heap.size := by simp
      generalize hnm : bs r.head.name = nm at *
      have HNM := hide hnm
      clear hnm
      generalize r.head.no = no at *
      generalize hR : wr.heap.size = R at *
      clear HM HT
      go_wp2
      go_loopg [5, 20] r.body.length (fun k s5 i wr2 => ∃ q : Nat, q + k = r.body.length ∧ i = .int .i64 q ∧ ∃ y : Nums × Bool, s5 = .bool y.2 ∧ Hid (liftRule x r = (r.body.drop q).foldl (liftAtom r.head.name) y) ∧ Hid (NumsM wr2 b (n + 5 * j + q) y.1) ∧ Hid (Tn b w wr2) ∧ R < wr2.heap.size ∧ wr2.cell? ⟨R, 1, none⟩ = some (.string nm) ∧ Hid (∀ s, numOf y.1 s ≤ c + 5 * j + q))
      case atStart =>
        refine ⟨0, by omega, rfl, x, rfl, (rfl : _ = _), ?_, ?_, ?_, ?_, HC⟩
        · first | exact HM1 | (subst hR; exact HM1)
        · first | exact HT1 | (subst hR; exact HT1)
        · first | exact hR1 | (subst hR; exact hR1)
        · first | exact HZ1.out | (subst hR; exact HZ1.out)
      case round =>
        obtain ⟨q, hq, rfl, y, rfl, HE2, HMy, HTy, hRs, z1, HCy⟩ := hrel
        clear HM1 HT1 HZ1 hR1 d0 d1 d2 d3
        have hwr2 := HTy.out.size
        by_cases hlq : q < r.body.length
        · obtain ⟨a, ha⟩ : ∃ x, r.body[q]? = some x := ⟨_, List.getElem?_eq_getElem hlq⟩
          obtain ⟨b2, o2, _, rfl, hb2, hbne2, ⟨tv, rfl, htv⟩, hcl⟩ := Kind.sl_atB HSU.out ha
          have d0 : wr.cell? ⟨b2, o2 + q * 3, none⟩ = some (.bool a.no) := by rw [HTy.out.cell hb2 hbne2]; exact hcl 0 _ rfl
          have d1 : wr.cell? ⟨b2, o2 + q * 3 + 1, none⟩ = some (.string (bs a.name)) := by rw [HTy.out.cell hb2 hbne2]; exact hcl 1 _ rfl
          have d2 : wr.cell? ⟨b2, o2 + q * 3 + 2, none⟩ = some tv := by rw [HTy.out.cell hb2 hbne2]; exact hcl 2 _ rfl
          have hbr2 : b2 < wr.heap.size := by omega
          have hst := foldAtom_step ha r.head.name y
          have hle := liftAtom_le (h := r.head.name) HCy.out a
          have HLE := hide hle
          clear hle
          have HBh : Hid (Calls Try.prog 123 #[.map (some b), .agg #[.bool a.no, .string (bs a.name), tv]] (wr.alloc (.cells #[.bool a.no, .string (bs a.name), tv] 54)) fun e w2 => e = .returned (.int .i64 (behind y.1 a : Nat)) ∧
              (Instr.lookup 120 (.map (some b)) (.string nm) false).run Try.prog w2 = .ok (.int .i64 (numOf y.1 r.head.name : Nat)) w2 ∧ Hid (NumsM w2 b (n + 5 * j + q) y.1) ∧ Hid (Tn b w w2) ∧ R < w2.heap.size ∧ w2.cell? ⟨R, 1, none⟩ = some (.string nm)) := by
            have hbz : b ≠ R := by omega
            refine (behindC b (n + 5 * j + q) (c + 5 * j + q) y.1 a tv _ (HMy.out.later ((Later.refl _).alloc _)) (Kind.sl_below (Kind.sl_any (Kind.sl_tnb htv HTy.out)) ((Later.refl _).alloc _).below) (HF3.out a (List.mem_of_getElem? ha)) (HCy.out a.name) (by omega)).mono fun e w2 ⟨he, hL⟩ => ?_
            have hLL := ((Later.refl wr).alloc (.cells #[.bool a.no, .string (bs a.name), tv] 54)).trans hL
            have hM2 := HMy.out.later hLL
            refine ⟨he, ?_, hM2, HTy.out.trans (Tn.of_below hLL.below), Nat.lt_of_lt_of_le hRs hLL.size, by rw [hLL.cell (p := ⟨R, 1, none⟩) hRs]; exact z1⟩
            rw [← HNM.out]
            exact NumM.look (T := 120) hM2 Try.underlying9 Try.underlying3 Try.underlying120 (zeroInt _) f1
          obtain ⟨a4, c4, rfl⟩ := Kind.slice htv
          by_cases hlf : numOf y.1 r.head.name < behind y.1 a
          · have E3 : Hid (liftAtom r.head.name y a = (y.1.put r.head.name (behind y.1 a), true)) := by show _ = _; unfold liftAtom; rw [if_pos hlf]
            have HST : Hid (∀ w2, Hid (NumsM w2 b (n + 5 * j + q) y.1) → Hid (Tn b w w2) → R < w2.heap.size → w2.cell? ⟨R, 1, none⟩ = some (.string nm) → ∃ w3, (Instr.mapUpdate 120 (.map (some b)) (.string nm) (.int .i64 (behind y.1 a : Nat))).run Try.prog w2 = .ok () w3 ∧ Hid (NumsM w3 b (n + 5 * j + (q + 1)) (y.1.put r.head.name (behind y.1 a))) ∧ Hid (Tn b w w3) ∧ R < w3.heap.size ∧ w3.cell? ⟨R, 1, none⟩ = some (.string nm)) := fun w2 hM2 hT2 hs2 hz2 => by
              have hbh := behind_le HCy.out a
              obtain ⟨w3, hrun, hM3, hg⟩ := NumM.store (T := 120) hM2.out Try.underlying9 Try.underlying3 Try.underlying120 (by simp [maxLen]; omega) f1 (x := behind y.1 a) (wf_len (by omega))
              rw [HNM.out] at hrun
              exact ⟨w3, hrun, hM3, hT2.out.trans (Tn.of_grown hg), Nat.lt_of_lt_of_le hs2 hg.size, by rw [(Tn.of_grown hg).cell (x := ⟨R, 1, none⟩) hs2 (by show R ≠ b; omega)]; exact hz2⟩
            have E4 : Hid (liftRule x r = (r.body.drop (q + 1)).foldl (liftAtom r.head.name) (y.1.put r.head.name (behind y.1 a), true)) := by show _ = _; rw [HE2.out, hst, E3.out]
            have HLE2 : Hid (∀ s, numOf (y.1.put r.head.name (behind y.1 a)) s ≤ c + 5 * j + (q + 1)) := by intro s; have := HLE.out s; rw [E3.out] at this; exact this
            have hlz : ((numOf y.1 r.head.name : Nat) : Int) < ((behind y.1 a : Nat) : Int) := by omega
            clear hcl ha htv hst HE2 HMy HTy HCy HLE E3 hlf
            generalize y.1.put r.head.name (behind y.1 a) = m3 at *
            generalize behind y.1 a = be at *
            generalize numOf y.1 r.head.name = nu at *
            generalize bs a.name = na at *
            generalize a.no = an at *
            go_wp2_with (first
              | (go_at_call 123; refine HBh.out.mono ?_; rintro e w2 ⟨rfl, hlk, hM2, hT2, hs2, hz2⟩; obtain ⟨w3, hup, hM3, hT3, hs3, hz3⟩ := HST.out w2 hM2 hT2 hs2 hz2; replace hlk := hide hlk; replace hup := hide hup; replace hz3 := hide hz3)
              | (at_lookup; refine wpList_run_lookup _ rfl _ _ _ _ rfl _ _ _ rfl rfl (unhide hlk) ?_)
              | (at_mapUpdate; refine wpList_run_update _ rfl _ _ _ _ rfl _ _ _ _ rfl rfl rfl (unhide hup) ?_)
              | go_in)
            go_roundg (r.body.length - (q + 1))
            case measure => omega
            case rel => exact ⟨q + 1, by omega, by go_num, (m3, true), rfl, E4, hM3, hT3, hs3, unhide hz3, HLE2⟩
          · have E3 : Hid (liftAtom r.head.name y a = y) := by show _ = _; unfold liftAtom; rw [if_neg hlf]
            have E4 : Hid (liftRule x r = (r.body.drop (q + 1)).foldl (liftAtom r.head.name) y) := by show _ = _; rw [HE2.out, hst, E3.out]
            have HLE2 : Hid (∀ s, numOf y.1 s ≤ c + 5 * j + (q + 1)) := by intro s; have := HCy.out s; omega
            have hlz : ¬ ((numOf y.1 r.head.name : Nat) : Int) < ((behind y.1 a : Nat) : Int) := by omega
            clear hcl ha htv hst HE2 HMy HTy HCy HLE E3 hlf
            generalize behind y.1 a = be at *
            generalize numOf y.1 r.head.name = nu at *
            generalize bs a.name = na at *
            generalize a.no = an at *
            go_wp2_with (first
              | (go_at_call 123; refine HBh.out.mono ?_; rintro e w2 ⟨rfl, hlk, hM2, hT2, hs2, hz2⟩; replace hlk := hide hlk)
              | (at_lookup; refine wpList_run_lookup _ rfl _ _ _ _ rfl _ _ _ rfl rfl (unhide hlk) ?_)
              | go_in)
            go_roundg (r.body.length - (q + 1))
            case measure => omega
            case rel => exact ⟨q + 1, by omega, by go_num, y, rfl, E4, hM2.out.mono (by omega), hT2, hs2, hz2, HLE2⟩
        · have E3 : Hid (liftRule x r = y) := by show _ = _; rw [HE2.out, List.drop_eq_nil_of_le (by omega)]; rfl
          have E4 : Hid (liftAll (m, false) p = liftAll y (p.drop (j + 1))) := by show _ = _; rw [HE.out, HS.out, E3.out]
          go_wp2
          go_roundg (p.length - (j + 1))
          case measure => omega
          case rel => exact ⟨j + 1, by omega, by go_num, y, rfl, E4, HMy.out.mono (by omega), HTy, fun s => by have := HCy.out s; omega⟩
    · have E2 : Hid (liftAll (m, false) p = x) := by show _ = _; rw [HE.out, List.drop_eq_nil_of_le (by omega)]; rfl
      go_wp2
      go_ret
      exact ⟨by rw [E2.out]; rfl, by rw [E2.out]; exact HM.out.mono (by omega), HT.out, by rw [E2.out]; intro s; have := HC.out s; omega⟩

end Go.Proofs.Ythogickpeldhlaa
