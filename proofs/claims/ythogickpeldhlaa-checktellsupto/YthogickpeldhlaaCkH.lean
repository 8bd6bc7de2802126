/- The walks of check's each and Strata. -/
import Derived.Test.YthogickpeldhlaaCkG
import Derived.RegionTactic
import Derived.ChangeAlike
namespace Go.Proofs.Ythogickpeldhlaa
open Go.RowKit Go.Sort Go.Maps

/-- A number lies in one cell. -/
def intK : Kind Nat where
  size := 1
  is := fun _ _ c n => c = [.int .i64 (n : Int)]
  len := fun h => by subst h; rfl
  one := fun h u hu => by subst h; simp at hu; subst hu; rfl
  kept := fun h _ _ => h
  mono := fun h _ => h

theorem infoInt : ∃ i, Try.prog.info? 3 = some i ∧ i.zero = some (.int .i64 0) ∧ i.size = 1 ∧ i.bytes = 8 := ⟨Try.t3, by kernel_rfl, by kernel_rfl, by kernel_rfl, by kernel_rfl⟩

theorem appendIntC {lo : Nat} {w : World} {v : Value} {l : List Nat} (h : intK.own 3 lo w v l) {x : Nat} (hl : l.length + 1 ≤ 1099511627776) (hlo : lo ≤ w.heap.size) :
    ∃ v' w', (Builtin.append_ #[63, 63] 63 #[v, .slice (some ⟨w.heap.size, 0, none⟩) 1 1]).run Try.prog (w.alloc (.cells #[.int .i64 (x : Int)] 3)) = .ok v' w' ∧ intK.own 3 lo w' v' (l ++ [x]) ∧ (w.alloc (.cells #[.int .i64 (x : Int)] 3)).grownBy w' v.ownBlock := by
  obtain ⟨i, i1, i2, i3, i4⟩ := infoInt
  exact Kind.own_append h Try.underlying63 i1 i2 i3 i4 rfl (by decide) (by decide) (c := [.int .i64 (x : Int)]) rfl hl hlo

theorem each_step {p : List RuleD} {j : Nat} {r : RuleD} (h : p[j]? = some r) (m : Nums) : each m (p.take (j + 1)) = each m (p.take j) ++ [numOf m r.head.name] := by
  rw [List.take_add_one, h]; simp [each]

set_option maxRecDepth 100000 in
set_option maxHeartbeats 2000000 in
theorem eachC (b n : Nat) (m : Nums) (p : List RuleD) (v : Value) (w : World) (h : NumsM w b n m) (hv : ruleK.sl Anyw w v p) (hf : ∀ r ∈ p, fineR r) (hp : p.length ≤ 16) :
    Calls Try.prog 97 #[.map (some b), v] w fun e w' => ∃ u, e = .returned u ∧ intK.own 3 w.heap.size w' u (each m p) ∧ Below w.heap.size w w' := by
  obtain ⟨sa, cap, rfl⟩ := Kind.slice hv
  have HV := hide hv
  have HF := hide hf
  have H0 := hide h
  have hbw := h.lt
  clear hv hf h
  go_enter Try.func97, Try.ntmps97
  go_wp2
  go_loopg [5, 10] p.length (fun k o i wr => ∃ j : Nat, j + k = p.length ∧ i = .int .i64 j ∧ Hid (intK.own 3 w.heap.size wr o (each m (p.take j))) ∧ Hid (Below w.heap.size w wr))
  case atStart => exact ⟨0, by omega, rfl, intK.own_nil _ _ _, Below.refl _ _⟩
  case round =>
    obtain ⟨j, hj, rfl, HO, HB⟩ := hrel
    obtain ⟨ao, co, rfl⟩ := Kind.own_slice HO.out
    have hwr := HB.out.size
    by_cases hlt : j < p.length
    · obtain ⟨r, hr⟩ : ∃ x, p[j]? = some x := ⟨_, List.getElem?_eq_getElem hlt⟩
      obtain ⟨b1, o1, _, rfl, hb1, ⟨sv, su, rfl, hsv, hsu⟩, hcl⟩ := Kind.sl_at HV.out hr
      have d0 : wr.cell? ⟨b1, o1 + j * 4, none⟩ = some (.bool r.head.no) := by rw [HB.out.cell hb1]; exact hcl 0 _ rfl
      have d1 : wr.cell? ⟨b1, o1 + j * 4 + 1, none⟩ = some (.string (bs r.head.name)) := by rw [HB.out.cell hb1]; exact hcl 1 _ rfl
      have d2 : wr.cell? ⟨b1, o1 + j * 4 + 2, none⟩ = some sv := by rw [HB.out.cell hb1]; exact hcl 2 _ rfl
      have d3 : wr.cell? ⟨b1, o1 + j * 4 + 3, none⟩ = some su := by rw [HB.out.cell hb1]; exact hcl 3 _ rfl
      have hbr : b1 < wr.heap.size := by omega
      have E := hide (each_step hr m)
      have hlen : (each m (p.take j)).length = j := by simp [each]; omega
      have f1 := (HF.out r (List.mem_of_getElem? hr)).1
      have hlk := hide (NumM.look (T := 120) ((H0.out.below HB.out).later ((Later.refl wr).alloc (.cells #[.bool r.head.no, .string (bs r.head.name), sv, su] 56))) Try.underlying9 Try.underlying3 Try.underlying120 (zeroInt _) f1)
      have hOA := Kind.own_turned HO.out ((Tn.refl b wr).alloc (.cells #[.bool r.head.no, .string (bs r.head.name), sv, su] 56)) hbw
      obtain ⟨v', w4, hrun, o4, g4⟩ := appendIntC hOA (x := numOf m r.head.name) (by rw [hlen]; omega) (by simp; omega)
      have HO4 : Hid (intK.own 3 w.heap.size w4 v' (each m (p.take (j + 1)))) := by show intK.own _ _ _ _ _; rw [E.out]; exact o4
      have HB4 : Hid (Below w.heap.size w w4) := by
        refine below_trans ((HB.out.alloc hwr _).alloc (by simp; omega) _) ⟨g4.os, g4.tape, g4.output, g4.size, fun k hk => g4.block k (by simp; omega) (fun e => ?_)⟩ (Nat.le_refl _)
        have := (Kind.own_lt hOA e.symm).1
        omega
      rw [hlen] at hrun
      simp only [World.size_alloc] at hrun
      replace hrun := hide hrun
      rw [hlen]
      obtain ⟨a2, c2, rfl⟩ := Kind.slice hsv
      obtain ⟨a3, c3, rfl⟩ := Kind.slice hsu
      clear hcl hr hsv hsu hOA o4 g4 HO HB E f1
      clear hlen
      generalize numOf m r.head.name = nu at *
      generalize bs r.head.name = nm at *
      generalize r.head.no = no at *
      go_wp2_with (first
        | (at_lookup; refine wpList_run_lookup _ rfl _ _ _ _ rfl _ _ _ rfl rfl (unhide hlk) ?_)
        | (at_builtin; refine wpList_append_run rfl (.tmp 14) (.tmp 20) 63 rfl _ _ _ _ rfl rfl (unhide hrun) ?_)
        | go_in)
      go_roundg (p.length - (j + 1))
      case measure => omega
      case rel => exact ⟨j + 1, by omega, by go_num, HO4, HB4⟩
    · have e : j = p.length := by omega
      subst e
      have HO2 : Hid (intK.own 3 w.heap.size wr (.slice ao (each m (p.take p.length)).length co) (each m p)) := by have := HO.out; rw [List.take_length] at this ⊢; exact this
      go_wp2
      go_ret
      exact ⟨_, rfl, HO2.out, HB.out⟩

theorem wrongGo_fine (l : List RuleD) : ∀ (m : Nums) (i : Nat), (wrongGo m i l).1 = 0 → ∀ r ∈ l, fineR r := by
  induction l with
  | nil => intro m i _ r hr; cases hr
  | cons q l ih =>
    intro m i h r hr
    unfold wrongGo at h
    split at h
    · rename_i h0
      rcases List.mem_cons.1 hr with rfl | hr
      · unfold wrongRule at h0
        split at h0
        · rename_i h1
          split at h0
          · cases h0
          · split at h0
            · rename_i h2
              obtain ⟨k1, k2⟩ := wrongBody_zero h2
              exact ⟨short_max (wrongAtom_zero h1).1, k1, fun a ha => short_max (wrongAtom_zero (k2 a ha)).1⟩
            · rename_i h2; exact absurd h0 h2
        · rename_i h1; exact absurd h0 h1
      · exact ih _ _ h r hr
    · rename_i h0; exact absurd h h0
theorem wrongP_fine {p : List RuleD} (h : (wrongP p).1 = 0) : p.length ≤ 16 ∧ ∀ r ∈ p, fineR r := by
  unfold wrongP at h
  split at h
  · cases h
  · exact ⟨by omega, wrongGo_fine p _ _ h⟩

theorem startGo_step {p : List RuleD} {j : Nat} {r : RuleD} (h : p[j]? = some r) (m : Nums) : startGo m (p.take (j + 1)) = (startGo m (p.take j)).put r.head.name 0 := by
  rw [List.take_add_one, h]; simp [startGo, List.foldl_append]

theorem Kind.sl_setCell {α : Type} {K : Kind α} {lo R i : Nat} {w : World} {v : Value} {l : List α} (h : K.sl (From lo) w v l) (hR : R < lo) (x : Value) : K.sl (From lo) (w.setCell ⟨R, i, none⟩ x) v l :=
  Kind.sl_kept h (by rw [size_setCell]; exact Nat.le_refl _) fun k _ hB => heap_setCell_other _ _ _ (by have : lo ≤ k := hB; show k ≠ R; omega)

set_option maxRecDepth 100000 in
set_option maxHeartbeats 4000000 in
theorem strataC (p : List RuleD) (v : Value) (w : World) (hv : ruleK.sl Anyw w v p) :
    Calls Try.prog 51 #[v] w fun e w' => ∃ u, e = .returned (.tuple #[u, .agg #[.int .i64 (strataP p).2.1, .int .i64 ((strataP p).2.2 : Nat)]]) ∧ intK.sl (From w.heap.size) w' u (strataP p).1 ∧ Below w.heap.size w w' := by
  obtain ⟨sa, cap, rfl⟩ := Kind.slice hv
  have HV := hide hv
  have hl0 := hv.1.1
  have HW : Hid (Calls Try.prog 45 #[.slice sa p.length cap] (w.alloc (.cells #[.int .i64 0, .int .i64 0] 30)) fun e w2 => e = .returned (.agg #[.int .i64 (wrongP p).1, .int .i64 ((wrongP p).2 : Nat)]) ∧ Hid (Below w.heap.size w w2) ∧ w2.heap[w.heap.size]? = some (.cells #[.int .i64 0, .int .i64 0] 30 (0, 0)) ∧ w.heap.size < w2.heap.size) :=
    (wrongC p _ _ (Kind.sl_below hv ((Later.refl w).alloc _).below)).mono fun e w2 ⟨he, hb⟩ => ⟨he, below_trans ((Later.refl w).alloc _).below hb (by simp), by rw [hb.block w.heap.size (by simp), heap_alloc_new], by have := hb.size; simp at this; omega⟩
  clear hv
  have hmm := @run_makeMap Try.prog
  generalize hwp : wrongP p = wp at *
  obtain ⟨ex, ea⟩ := wp
  dsimp only at *
  by_cases h0 : ex = 0
  · subst h0
    obtain ⟨hp16, hfine⟩ := wrongP_fine (p := p) (by rw [hwp])
    have HFi := hide hfine
    have F : Hid (strataP p = match strataGo p (p.length + 1) (start p) with | some m => (each m p, 0, 0) | none => ([], 10, 0)) := by
      show _ = _
      unfold strataP
      rw [hwp, if_pos rfl]
      cases strataGo p (p.length + 1) (start p) <;> rfl
    clear hwp hfine
    go_enter Try.func51, Try.ntmps51
    go_wp2_with (go_at_call 45; refine HW.out.mono ?_; rintro e w2 ⟨rfl, hB2, hR2, hs2⟩; replace hR2 := hide hR2)
    have hwz := hB2.out.size
    go_loopg [17] p.length (fun k i wr => ∃ j : Nat, j + k = p.length ∧ i = .int .i64 j ∧ Hid (NumsM wr (w2.heap.size + 1) j (startGo (fun _ => none) (p.take j))) ∧ Hid (Below w.heap.size w wr) ∧ Hid (wr.heap[w.heap.size]? = some (.cells #[.int .i64 0, .int .i64 0] 30 (0, 0))) ∧ w2.heap.size + 2 ≤ wr.heap.size)
    case atStart =>
      refine ⟨0, by omega, rfl, ?_, ?_, ?_, by simp⟩
      · have := NumM.made Try.prog 9 3 (w2.alloc (.cells #[.int .i64 0, .int .i64 (ea : Int)] 30))
        rw [World.size_alloc] at this
        exact this
      · exact (hB2.out.alloc hwz _).alloc (by simp; omega) _
      · show _ = _
        rw [Below.heap_alloc _ _ _ (by simp; omega), Below.heap_alloc _ _ _ hs2]
        exact unhide hR2
    case round =>
      obtain ⟨j, hj, rfl, HM, HB, HR, hsz⟩ := hrel
      clear hB2 hR2
      by_cases hlt : j < p.length
      · obtain ⟨r, hr⟩ : ∃ x, p[j]? = some x := ⟨_, List.getElem?_eq_getElem hlt⟩
        obtain ⟨b1, o1, _, rfl, hb1, ⟨sv, su, rfl, hsv, hsu⟩, hcl⟩ := Kind.sl_at HV.out hr
        have d0 : wr.cell? ⟨b1, o1 + j * 4, none⟩ = some (.bool r.head.no) := by rw [HB.out.cell hb1]; exact hcl 0 _ rfl
        have d1 : wr.cell? ⟨b1, o1 + j * 4 + 1, none⟩ = some (.string (bs r.head.name)) := by rw [HB.out.cell hb1]; exact hcl 1 _ rfl
        have d2 : wr.cell? ⟨b1, o1 + j * 4 + 2, none⟩ = some sv := by rw [HB.out.cell hb1]; exact hcl 2 _ rfl
        have d3 : wr.cell? ⟨b1, o1 + j * 4 + 3, none⟩ = some su := by rw [HB.out.cell hb1]; exact hcl 3 _ rfl
        have hbr : b1 < wr.heap.size := by omega
        have E := hide (startGo_step hr (fun _ => none))
        have f1 := (HFi.out r (List.mem_of_getElem? hr)).1
        obtain ⟨w4, hup, hM4, hg⟩ := NumM.store (T := 120) (HM.out.later ((Later.refl wr).alloc (.cells #[.bool r.head.no, .string (bs r.head.name), sv, su] 56))) Try.underlying9 Try.underlying3 Try.underlying120 (by simp [maxLen]; omega) f1 (x := 0) (wf_len (by omega))
        have hgs := hg.size
        simp only [World.size_alloc] at hgs
        have HM4 : Hid (NumsM w4 (w2.heap.size + 1) (j + 1) (startGo (fun _ => none) (p.take (j + 1)))) := by show NumsM _ _ _ _; rw [E.out]; exact hM4
        have HB4 : Hid (Below w.heap.size w w4) := below_trans (HB.out.alloc HB.out.size _) ((Tn.of_grown hg).below (n := w.heap.size) (by omega) (by simp; omega)) (Nat.le_refl _)
        have HR4 : Hid (w4.heap[w.heap.size]? = some (.cells #[.int .i64 0, .int .i64 0] 30 (0, 0))) := by
          show _ = _
          rw [(Tn.of_grown hg).block w.heap.size (by simp; omega) (by omega), Below.heap_alloc _ _ _ (by omega)]
          exact HR.out
        have hs4 : w2.heap.size + 2 ≤ w4.heap.size := by omega
        have hup2 : Hid ((Instr.mapUpdate 120 (.map (some (w2.heap.size + 1))) (.string (bs r.head.name)) (.int .i64 0)).run Try.prog (wr.alloc (.cells #[.bool r.head.no, .string (bs r.head.name), sv, su] 56)) = .ok () w4) := hup
        obtain ⟨a2, c2, rfl⟩ := Kind.slice hsv
        obtain ⟨a3, c3, rfl⟩ := Kind.slice hsu
        clear hcl hr hsv hsu hM4 hg hup HM HB HR E f1 hgs
        generalize bs r.head.name = nm at *
        generalize r.head.no = no at *
        go_wp2_with (first
          | (at_mapUpdate; refine wpList_run_update _ rfl _ _ _ _ rfl _ _ _ _ rfl rfl rfl (unhide hup2) ?_)
          | go_in)
        go_roundg (p.length - (j + 1))
        case measure => omega
        case rel => exact ⟨j + 1, by omega, by go_num, HM4, HB4, HR4, hs4⟩
      · have e : j = p.length := by omega
        subst e
        have HM2 : Hid (NumsM wr (w2.heap.size + 1) (16 + 80 * 0) (start p)) := by have := HM.out; rw [List.take_length] at this; exact this.mono (by omega)
        have HN2 : Hid (∀ s, numOf (start p) s ≤ 80 * 0) := fun s => by rw [start_zero]; exact Nat.zero_le _
        clear HM
        go_wp2
        go_loopg [29] (p.length + 1) (fun k i wr2 => ∃ t : Nat, t + k = p.length + 1 ∧ i = .int .i64 t ∧ ∃ m, Hid (strataGo p (p.length + 1) (start p) = strataGo p k m) ∧ Hid (NumsM wr2 (w2.heap.size + 1) (16 + 80 * t) m) ∧ Hid (∀ s, numOf m s ≤ 80 * t) ∧ Hid (Below w.heap.size w wr2) ∧ Hid (wr2.heap[w.heap.size]? = some (.cells #[.int .i64 0, .int .i64 0] 30 (0, 0))) ∧ w2.heap.size + 2 ≤ wr2.heap.size)
        case atStart => exact ⟨0, by omega, rfl, start p, (rfl : _ = _), HM2, HN2, HB, HR, hsz⟩
        case round =>
          obtain ⟨t, ht, rfl, m, HE, HMt, HNt, HBt, HRt, hst⟩ := hrel
          clear HM2 HN2 HB HR hsz
          by_cases hlt : t < p.length + 1
          · obtain ⟨k, rfl⟩ : ∃ k', gk = k' + 1 := ⟨p.length - t, by omega⟩
            have HL : Hid (Calls Try.prog 96 #[.map (some (w2.heap.size + 1)), .slice sa p.length cap] wr fun e w5 => e = .returned (.bool (liftAll (m, false) p).2) ∧ Hid (NumsM w5 (w2.heap.size + 1) (16 + 80 * (t + 1)) (liftAll (m, false) p).1) ∧ Hid (∀ s, numOf (liftAll (m, false) p).1 s ≤ 80 * (t + 1)) ∧ Hid (Below w.heap.size w w5) ∧ Hid (w5.heap[w.heap.size]? = some (.cells #[.int .i64 0, .int .i64 0] 30 (0, 0))) ∧ w2.heap.size + 2 ≤ w5.heap.size) :=
              (liftedC _ _ (80 * t) m p _ wr HMt.out (Kind.sl_neBelow HV.out HBt.out (by omega)) HFi.out hp16 HNt.out (by omega) (by omega)).mono fun e w5 ⟨he, h1, h2, h3⟩ =>
                ⟨he, h1.mono (by omega), fun s => by have := h3 s; omega, below_trans HBt.out (h2.below (n := w.heap.size) (by omega) (by omega)) (Nat.le_refl _), by show _ = _; rw [h2.block w.heap.size (by omega) (by omega)]; exact HRt.out, by have := h2.size; omega⟩
            have hgo : strataGo p (k + 1) m = if (liftAll (m, false) p).2 then strataGo p k (liftAll (m, false) p).1 else some (liftAll (m, false) p).1 := rfl
            clear HMt HNt HBt HRt
            generalize liftAll (m, false) p = la at *
            obtain ⟨m2, lb⟩ := la
            dsimp only at *
            cases lb
            · have F2 : Hid (strataP p = (each m2 p, 0, 0)) := by show _ = _; rw [F.out, HE.out, hgo]; rfl
              have HEa : Hid (∀ w5, Hid (NumsM w5 (w2.heap.size + 1) (16 + 80 * (t + 1)) m2) → Hid (Below w.heap.size w w5) → Hid (w5.heap[w.heap.size]? = some (.cells #[.int .i64 0, .int .i64 0] 30 (0, 0))) → w2.heap.size + 2 ≤ w5.heap.size → Calls Try.prog 97 #[.map (some (w2.heap.size + 1)), .slice sa p.length cap] w5 fun e w6 => ∃ u, e = .returned u ∧ Hid (intK.sl (From (w.heap.size + 1)) w6 u (each m2 p)) ∧ Hid (Below w.heap.size w w6) ∧ w6.heap[w.heap.size]? = some (.cells #[.int .i64 0, .int .i64 0] 30 (0, 0))) := fun w5 h1 h2 h3 h4 =>
                (eachC _ _ m2 p _ w5 h1.out (Kind.sl_below HV.out h2.out) HFi.out hp16).mono fun e w6 ⟨u, he, ho, hb⟩ =>
                  ⟨u, he, Kind.sl_mono (Kind.own_sl ho (by simp [each]; omega)) fun k _ hk => by have : w5.heap.size ≤ k := hk; show w.heap.size + 1 ≤ k; omega, below_trans h2.out hb h2.out.size, by rw [hb.block w.heap.size (by omega)]; exact h3.out⟩
              clear hgo HE F
              go_wp2_with (first
                | (go_at_call 96; refine HL.out.mono ?_; rintro e w5 ⟨rfl, hM5, hN5, hB5, hR5, hs5⟩)
                | (go_at_call 97; refine (HEa.out w5 hM5 hB5 hR5 hs5).mono ?_; rintro e w6 ⟨u, rfl, hU6, hB6, hR6⟩; have q0 : w6.cell? ⟨w.heap.size, 0, none⟩ = some (.int .i64 0) := (by rw [cell_of_row _ _ _ _ _ _ hR6]; rfl); have q1 : w6.cell? ⟨w.heap.size, 1, none⟩ = some (.int .i64 0) := (by rw [cell_of_row _ _ _ _ _ _ hR6]; rfl); have p0 : w6.frozen? ⟨w.heap.size, 0, none⟩ = false := frozen_rowC 0 hR6; have p1 : w6.frozen? ⟨w.heap.size, 1, none⟩ = false := frozen_rowC 1 hR6; replace hR6 := hide hR6))
              obtain ⟨r0, r1⟩ := fault_two (unhide hR6) (.int .i64 0) (.int .i64 0)
              refine bodyPost_ret (v := .tuple #[u, .agg #[.int .i64 0, .int .i64 0]]) (by simp [results, Try.results51, go_sem, r0, r1]) rfl ⟨u, by rw [F2.out]; rfl, ?_, ?_⟩
              · rw [F2.out]
                exact Kind.sl_mono (Kind.sl_setCell (Kind.sl_setCell hU6.out (Nat.lt_succ_self _) _) (Nat.lt_succ_self _) _) fun k _ hk => by have : w.heap.size + 1 ≤ k := hk; show w.heap.size ≤ k; omega
              · exact (hB6.out.setCell (Nat.le_refl _) _).setCell (Nat.le_refl _) _
            · have E2 : Hid (strataGo p (p.length + 1) (start p) = strataGo p k m2) := by show _ = _; rw [HE.out, hgo]; rfl
              clear hgo HE
              go_wp2_with (go_at_call 96; refine HL.out.mono ?_; rintro e w5 ⟨rfl, hM5, hN5, hB5, hR5, hs5⟩)
              go_roundg k
              case measure => omega
              case rel => exact ⟨t + 1, by omega, by go_num, m2, E2, hM5, hN5, hB5, hR5, hs5⟩
          · obtain rfl : gk = 0 := by omega
            have F2 : Hid (strataP p = ([], 10, 0)) := by show _ = _; rw [F.out, HE.out]; rfl
            have hR6 := HRt.out
            have q0 : wr.cell? ⟨w.heap.size, 0, none⟩ = some (.int .i64 0) := (by rw [cell_of_row _ _ _ _ _ _ hR6]; rfl); have q1 : wr.cell? ⟨w.heap.size, 1, none⟩ = some (.int .i64 0) := (by rw [cell_of_row _ _ _ _ _ _ hR6]; rfl); have p0 : wr.frozen? ⟨w.heap.size, 0, none⟩ = false := frozen_rowC 0 hR6; have p1 : wr.frozen? ⟨w.heap.size, 1, none⟩ = false := frozen_rowC 1 hR6
            clear hR6
            go_wp2
            obtain ⟨r0, r1⟩ := fault_two HRt.out (.int .i64 10) (.int .i64 0)
            refine bodyPost_ret (v := .tuple #[.slice none 0 0, .agg #[.int .i64 10, .int .i64 0]]) (by simp [results, Try.results51, go_sem, r0, r1]) rfl ⟨.slice none 0 0, by rw [F2.out]; rfl, by rw [F2.out]; exact intK.sl_nil _ _ _ _, ?_⟩
            exact (HBt.out.setCell (Nat.le_refl _) _).setCell (Nat.le_refl _) _
  · have F : Hid (strataP p = ([], ex, ea)) := by show _ = _; unfold strataP; rw [hwp, if_neg h0]
    have hq : (ex != 0) = true := by simpa using h0
    clear h0 hwp HV
    go_enter Try.func51, Try.ntmps51
    go_wp2_with (go_at_call 45; refine HW.out.mono ?_; rintro e w2 ⟨rfl, hB2, hR2, hs2⟩; have q0 : w2.cell? ⟨w.heap.size, 0, none⟩ = some (.int .i64 0) := (by rw [cell_of_row _ _ _ _ _ _ hR2]; rfl); have q1 : w2.cell? ⟨w.heap.size, 1, none⟩ = some (.int .i64 0) := (by rw [cell_of_row _ _ _ _ _ _ hR2]; rfl); have p0 : w2.frozen? ⟨w.heap.size, 0, none⟩ = false := frozen_rowC 0 hR2; have p1 : w2.frozen? ⟨w.heap.size, 1, none⟩ = false := frozen_rowC 1 hR2; replace hR2 := hide hR2)
    go_region
    go_wp2
    obtain ⟨r0, r1⟩ := fault_two (unhide hR2) (.int .i64 ex) (.int .i64 (ea : Int))
    have hL := ((Later.refl ((w2.setCell ⟨w.heap.size, 0, none⟩ (.int .i64 ex)).setCell ⟨w.heap.size, 1, none⟩ (.int .i64 (ea : Int)))).alloc (.cells #[.int .i64 ex, .int .i64 (ea : Int)] 30)).drew
    rw [← hL.cell (p := ⟨w.heap.size, 0, none⟩) (by simp only [size_setCell]; exact hs2)] at r0
    rw [← hL.cell (p := ⟨w.heap.size, 1, none⟩) (by simp only [size_setCell]; exact hs2)] at r1
    refine bodyPost_ret (v := .tuple #[.slice none 0 0, .agg #[.int .i64 ex, .int .i64 (ea : Int)]]) (by simp [results, Try.results51, go_sem, r0, r1]) rfl ⟨.slice none 0 0, by rw [F.out], by rw [F.out]; exact intK.sl_nil _ _ _ _, ?_⟩
    exact below_trans ((hB2.out.setCell (Nat.le_refl _) _).setCell (Nat.le_refl _) _) hL.below (by simp only [size_setCell]; exact Nat.le_of_lt hs2)

end Go.Proofs.Ythogickpeldhlaa
