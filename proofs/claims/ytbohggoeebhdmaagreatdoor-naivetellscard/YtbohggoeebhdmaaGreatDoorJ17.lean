/- Texts of this claim, one behind the other. -/
import Derived.Test.YtbohggoeebhdmaaGreatDoorJ16
import Derived.RegionTactic
import Derived.ChangeAlike
import Derived.Test.YtbohggoeebhdmaaGreatDoorJ13
import Derived.Test.YtbohggoeebhdmaaGreatDoorJ3
import Derived.BigQuiet
import Derived.Laws.Cover3
/- The walks of check's each and Strata. -/
namespace Go.Proofs.YtbohggoeebhdmaaGreatDoor
open Go.RowKit Go.Sort Go.Maps

/-- A number lies in one cell. -/
def intK : Kind Nat where
  size := 1
  is := fun _ _ c n => c = [.int .i64 (n : Int)]
  len := fun h => by subst h; rfl
  one := fun h u hu => by subst h; simp at hu; subst hu; rfl
  kept := fun h _ _ => h
  mono := fun h _ => h

theorem infoInt : ∃ i, Tryz.prog.info? 3 = some i ∧ i.zero = some (.int .i64 0) ∧ i.size = 1 ∧ i.bytes = 8 := ⟨Tryz.t3, by kernel_rfl, by kernel_rfl, by kernel_rfl, by kernel_rfl⟩

theorem appendIntC {lo : Nat} {w : World} {v : Value} {l : List Nat} (h : intK.own 3 lo w v l) {x : Nat} (hl : l.length + 1 ≤ 1099511627776) (hlo : lo ≤ w.heap.size) :
    ∃ v' w', (Builtin.append_ #[33, 33] 33 #[v, .slice (some ⟨w.heap.size, 0, none⟩) 1 1]).run Tryz.prog (w.alloc (.cells #[.int .i64 (x : Int)] 3)) = .ok v' w' ∧ intK.own 3 lo w' v' (l ++ [x]) ∧ (w.alloc (.cells #[.int .i64 (x : Int)] 3)).grownBy w' v.ownBlock := by
  obtain ⟨i, i1, i2, i3, i4⟩ := infoInt
  exact Kind.own_append h Tryz.underlying33 i1 i2 i3 i4 rfl (by decide) (by decide) (c := [.int .i64 (x : Int)]) rfl hl hlo

theorem each_step {p : List RuleD} {j : Nat} {r : RuleD} (h : p[j]? = some r) (m : Nums) : each m (p.take (j + 1)) = each m (p.take j) ++ [numOf m r.head.name] := by
  rw [List.take_add_one, h]; simp [each]

set_option maxRecDepth 100000 in
set_option maxHeartbeats 2000000 in
theorem eachC (b n : Nat) (m : Nums) (p : List RuleD) (v : Value) (w : World) (h : NumsM w b n m) (hv : ruleK.sl Anyw w v p) (hf : ∀ r ∈ p, fineR r) (hp : p.length ≤ 16) :
    Calls Tryz.prog 74 #[.map (some b), v] w fun e w' => ∃ u, e = .returned u ∧ intK.own 3 w.heap.size w' u (each m p) ∧ Below w.heap.size w w' := by
  obtain ⟨sa, cap, rfl⟩ := Kind.slice hv
  have HV := hide hv
  have HF := hide hf
  have H0 := hide h
  have hbw := h.lt
  clear hv hf h
  go_enter Tryz.func74, Tryz.ntmps74
  go_wp2
  go_loopg [5, 10] p.length (fun k o i wr => ∃ j : Nat, j + k = p.length ∧ i = .int .i64 j ∧ Hid (intK.own 3 w.heap.size wr o (each m (p.take j))) ∧ Hid (Below w.heap.size w wr))
  case atStart => exact ⟨0, by omega, rfl, intK.own_nil _ _ _, Below.refl _ _⟩
  case round =>
    obtain ⟨j, hj, rfl, HO, HB⟩ := hrel
    obtain ⟨ao, co, rfl⟩ := Kind.own_slice HO.out
    have hwr := HB.out.size
    by_cases hlt : j < p.length
    · obtain ⟨r, hr⟩ : ∃ x, p[j]? = some x := ⟨_, List.getElem?_eq_getElem hlt⟩
      obtain ⟨b1, o1, _, rfl, hb1, ⟨sv, su, rfl, hsv, hsu⟩, hcl⟩ := Kind.sl_at HV.out hr
      have d0 : wr.cell? ⟨b1, o1 + j * 4, none⟩ = some (.bool r.head.no) := by rw [HB.out.cell hb1]; exact hcl 0 _ rfl
      have d1 : wr.cell? ⟨b1, o1 + j * 4 + 1, none⟩ = some (.string (bs r.head.name)) := by rw [HB.out.cell hb1]; exact hcl 1 _ rfl
      have d2 : wr.cell? ⟨b1, o1 + j * 4 + 2, none⟩ = some sv := by rw [HB.out.cell hb1]; exact hcl 2 _ rfl
      have d3 : wr.cell? ⟨b1, o1 + j * 4 + 3, none⟩ = some su := by rw [HB.out.cell hb1]; exact hcl 3 _ rfl
      have hbr : b1 < wr.heap.size := by omega
      have E := hide (each_step hr m)
      have hlen : (each m (p.take j)).length = j := by simp [each]; omega
      have f1 := (HF.out r (List.mem_of_getElem? hr)).1
      have hlk := hide (NumM.look (T := 108) ((H0.out.below HB.out).later ((Later.refl wr).alloc (.cells #[.bool r.head.no, .string (bs r.head.name), sv, su] 43))) Tryz.underlying9 Tryz.underlying3 Tryz.underlying108 (zeroInt _) f1)
      have hOA := Kind.own_turned HO.out ((Tn.refl b wr).alloc (.cells #[.bool r.head.no, .string (bs r.head.name), sv, su] 43)) hbw
      obtain ⟨v', w4, hrun, o4, g4⟩ := appendIntC hOA (x := numOf m r.head.name) (by rw [hlen]; omega) (by simp; omega)
      have HO4 : Hid (intK.own 3 w.heap.size w4 v' (each m (p.take (j + 1)))) := by show intK.own _ _ _ _ _; rw [E.out]; exact o4
      have HB4 : Hid (Below w.heap.size w w4) := by
        refine below_trans ((HB.out.alloc hwr _).alloc (by simp; omega) _) ⟨g4.os, g4.tape, g4.output, g4.size, fun k hk => g4.block k (by simp; omega) (fun e => ?_)⟩ (Nat.le_refl _)
        have := (Kind.own_lt hOA e.symm).1
        omega
      rw [hlen] at hrun
      simp only [World.size_alloc] at hrun
      replace hrun := hide hrun
      rw [hlen]
      obtain ⟨a2, c2, rfl⟩ := Kind.slice hsv
      obtain ⟨a3, c3, rfl⟩ := Kind.slice hsu
      clear hcl hr hsv hsu hOA o4 g4 HO HB E f1
      clear hlen
      generalize numOf m r.head.name = nu at *
      generalize bs r.head.name = nm at *
      generalize r.head.no = no at *
      go_wp2_with (first
        | (at_lookup; refine wpList_run_lookup _ rfl _ _ _ _ rfl _ _ _ rfl rfl (unhide hlk) ?_)
        | (at_builtin; refine wpList_append_run rfl (.tmp 14) (.tmp 20) 33 rfl _ _ _ _ rfl rfl (unhide hrun) ?_)
        | go_in)
      go_roundg (p.length - (j + 1))
      case measure => omega
      case rel => exact ⟨j + 1, by omega, by go_num, HO4, HB4⟩
    · have e : j = p.length := by omega
      subst e
      have HO2 : Hid (intK.own 3 w.heap.size wr (.slice ao (each m (p.take p.length)).length co) (each m p)) := by have := HO.out; rw [List.take_length] at this ⊢; exact this
      go_wp2
      go_ret
      exact ⟨_, rfl, HO2.out, HB.out⟩

theorem wrongGo_fine (l : List RuleD) : ∀ (m : Nums) (i : Nat), (wrongGo m i l).1 = 0 → ∀ r ∈ l, fineR r := by
  induction l with
  | nil => intro m i _ r hr; cases hr
  | cons q l ih =>
    intro m i h r hr
    unfold wrongGo at h
    split at h
    · rename_i h0
      rcases List.mem_cons.1 hr with rfl | hr
      · unfold wrongRule at h0
        split at h0
        · rename_i h1
          split at h0
          · cases h0
          · split at h0
            · rename_i h2
              obtain ⟨k1, k2⟩ := wrongBody_zero h2
              exact ⟨short_max (wrongAtom_zero h1).1, k1, fun a ha => short_max (wrongAtom_zero (k2 a ha)).1⟩
            · rename_i h2; exact absurd h0 h2
        · rename_i h1; exact absurd h0 h1
      · exact ih _ _ h r hr
    · rename_i h0; exact absurd h h0
theorem wrongP_fine {p : List RuleD} (h : (wrongP p).1 = 0) : p.length ≤ 16 ∧ ∀ r ∈ p, fineR r := by
  unfold wrongP at h
  split at h
  · cases h
  · exact ⟨by omega, wrongGo_fine p _ _ h⟩

theorem startGo_step {p : List RuleD} {j : Nat} {r : RuleD} (h : p[j]? = some r) (m : Nums) : startGo m (p.take (j + 1)) = (startGo m (p.take j)).put r.head.name 0 := by
  rw [List.take_add_one, h]; simp [startGo, List.foldl_append]

theorem Kind.sl_setCell {α : Type} {K : Kind α} {lo R i : Nat} {w : World} {v : Value} {l : List α} (h : K.sl (From lo) w v l) (hR : R < lo) (x : Value) : K.sl (From lo) (w.setCell ⟨R, i, none⟩ x) v l :=
  Kind.sl_kept h (by rw [size_setCell]; exact Nat.le_refl _) fun k _ hB => heap_setCell_other _ _ _ (by have : lo ≤ k := hB; show k ≠ R; omega)

set_option maxRecDepth 100000 in
set_option maxHeartbeats 4000000 in
theorem strataC (p : List RuleD) (v : Value) (w : World) (hv : ruleK.sl Anyw w v p) :
    Calls Tryz.prog 39 #[v] w fun e w' => ∃ u, e = .returned (.tuple #[u, .agg #[.int .i64 (strataP p).2.1, .int .i64 ((strataP p).2.2 : Nat)]]) ∧ intK.sl (From w.heap.size) w' u (strataP p).1 ∧ Below w.heap.size w w' := by
  obtain ⟨sa, cap, rfl⟩ := Kind.slice hv
  have HV := hide hv
  have hl0 := hv.1.1
  have HW : Hid (Calls Tryz.prog 27 #[.slice sa p.length cap] (w.alloc (.cells #[.int .i64 0, .int .i64 0] 27)) fun e w2 => e = .returned (.agg #[.int .i64 (wrongP p).1, .int .i64 ((wrongP p).2 : Nat)]) ∧ Hid (Below w.heap.size w w2) ∧ w2.heap[w.heap.size]? = some (.cells #[.int .i64 0, .int .i64 0] 27 (0, 0)) ∧ w.heap.size < w2.heap.size) :=
    (wrongC p _ _ (Kind.sl_below hv ((Later.refl w).alloc _).below)).mono fun e w2 ⟨he, hb⟩ => ⟨he, below_trans ((Later.refl w).alloc _).below hb (by simp), by rw [hb.block w.heap.size (by simp), heap_alloc_new], by have := hb.size; simp at this; omega⟩
  clear hv
  have hmm := @run_makeMap Tryz.prog
  generalize hwp : wrongP p = wp at *
  obtain ⟨ex, ea⟩ := wp
  dsimp only at *
  by_cases h0 : ex = 0
  · subst h0
    obtain ⟨hp16, hfine⟩ := wrongP_fine (p := p) (by rw [hwp])
    have HFi := hide hfine
    have F : Hid (strataP p = match strataGo p (p.length + 1) (start p) with | some m => (each m p, 0, 0) | none => ([], 10, 0)) := by
      show _ = _
      unfold strataP
      rw [hwp, if_pos rfl]
      cases strataGo p (p.length + 1) (start p) <;> rfl
    clear hwp hfine
    go_enter Tryz.func39, Tryz.ntmps39
    go_wp2_with (go_at_call 27; refine HW.out.mono ?_; rintro e w2 ⟨rfl, hB2, hR2, hs2⟩; replace hR2 := hide hR2)
    have hwz := hB2.out.size
    go_loopg [17] p.length (fun k i wr => ∃ j : Nat, j + k = p.length ∧ i = .int .i64 j ∧ Hid (NumsM wr (w2.heap.size + 1) j (startGo (fun _ => none) (p.take j))) ∧ Hid (Below w.heap.size w wr) ∧ Hid (wr.heap[w.heap.size]? = some (.cells #[.int .i64 0, .int .i64 0] 27 (0, 0))) ∧ w2.heap.size + 2 ≤ wr.heap.size)
    case atStart =>
      refine ⟨0, by omega, rfl, ?_, ?_, ?_, by simp⟩
      · have := NumM.made Tryz.prog 9 3 (w2.alloc (.cells #[.int .i64 0, .int .i64 (ea : Int)] 27))
        rw [World.size_alloc] at this
        exact this
      · exact (hB2.out.alloc hwz _).alloc (by simp; omega) _
      · show _ = _
        rw [Below.heap_alloc _ _ _ (by simp; omega), Below.heap_alloc _ _ _ hs2]
        exact unhide hR2
    case round =>
      obtain ⟨j, hj, rfl, HM, HB, HR, hsz⟩ := hrel
      clear hB2 hR2
      by_cases hlt : j < p.length
      · obtain ⟨r, hr⟩ : ∃ x, p[j]? = some x := ⟨_, List.getElem?_eq_getElem hlt⟩
        obtain ⟨b1, o1, _, rfl, hb1, ⟨sv, su, rfl, hsv, hsu⟩, hcl⟩ := Kind.sl_at HV.out hr
        have d0 : wr.cell? ⟨b1, o1 + j * 4, none⟩ = some (.bool r.head.no) := by rw [HB.out.cell hb1]; exact hcl 0 _ rfl
        have d1 : wr.cell? ⟨b1, o1 + j * 4 + 1, none⟩ = some (.string (bs r.head.name)) := by rw [HB.out.cell hb1]; exact hcl 1 _ rfl
        have d2 : wr.cell? ⟨b1, o1 + j * 4 + 2, none⟩ = some sv := by rw [HB.out.cell hb1]; exact hcl 2 _ rfl
        have d3 : wr.cell? ⟨b1, o1 + j * 4 + 3, none⟩ = some su := by rw [HB.out.cell hb1]; exact hcl 3 _ rfl
        have hbr : b1 < wr.heap.size := by omega
        have E := hide (startGo_step hr (fun _ => none))
        have f1 := (HFi.out r (List.mem_of_getElem? hr)).1
        obtain ⟨w4, hup, hM4, hg⟩ := NumM.store (T := 108) (HM.out.later ((Later.refl wr).alloc (.cells #[.bool r.head.no, .string (bs r.head.name), sv, su] 43))) Tryz.underlying9 Tryz.underlying3 Tryz.underlying108 (by simp [maxLen]; omega) f1 (x := 0) (wf_len (by omega))
        have hgs := hg.size
        simp only [World.size_alloc] at hgs
        have HM4 : Hid (NumsM w4 (w2.heap.size + 1) (j + 1) (startGo (fun _ => none) (p.take (j + 1)))) := by show NumsM _ _ _ _; rw [E.out]; exact hM4
        have HB4 : Hid (Below w.heap.size w w4) := below_trans (HB.out.alloc HB.out.size _) ((Tn.of_grown hg).below (n := w.heap.size) (by omega) (by simp; omega)) (Nat.le_refl _)
        have HR4 : Hid (w4.heap[w.heap.size]? = some (.cells #[.int .i64 0, .int .i64 0] 27 (0, 0))) := by
          show _ = _
          rw [(Tn.of_grown hg).block w.heap.size (by simp; omega) (by omega), Below.heap_alloc _ _ _ (by omega)]
          exact HR.out
        have hs4 : w2.heap.size + 2 ≤ w4.heap.size := by omega
        have hup2 : Hid ((Instr.mapUpdate 108 (.map (some (w2.heap.size + 1))) (.string (bs r.head.name)) (.int .i64 0)).run Tryz.prog (wr.alloc (.cells #[.bool r.head.no, .string (bs r.head.name), sv, su] 43)) = .ok () w4) := hup
        obtain ⟨a2, c2, rfl⟩ := Kind.slice hsv
        obtain ⟨a3, c3, rfl⟩ := Kind.slice hsu
        clear hcl hr hsv hsu hM4 hg hup HM HB HR E f1 hgs
        generalize bs r.head.name = nm at *
        generalize r.head.no = no at *
        go_wp2_with (first
          | (at_mapUpdate; refine wpList_run_update _ rfl _ _ _ _ rfl _ _ _ _ rfl rfl rfl (unhide hup2) ?_)
          | go_in)
        go_roundg (p.length - (j + 1))
        case measure => omega
        case rel => exact ⟨j + 1, by omega, by go_num, HM4, HB4, HR4, hs4⟩
      · have e : j = p.length := by omega
        subst e
        have HM2 : Hid (NumsM wr (w2.heap.size + 1) (16 + 80 * 0) (start p)) := by have := HM.out; rw [List.take_length] at this; exact this.mono (by omega)
        have HN2 : Hid (∀ s, numOf (start p) s ≤ 80 * 0) := fun s => by rw [start_zero]; exact Nat.zero_le _
        clear HM
        go_wp2
        go_loopg [29] (p.length + 1) (fun k i wr2 => ∃ t : Nat, t + k = p.length + 1 ∧ i = .int .i64 t ∧ ∃ m, Hid (strataGo p (p.length + 1) (start p) = strataGo p k m) ∧ Hid (NumsM wr2 (w2.heap.size + 1) (16 + 80 * t) m) ∧ Hid (∀ s, numOf m s ≤ 80 * t) ∧ Hid (Below w.heap.size w wr2) ∧ Hid (wr2.heap[w.heap.size]? = some (.cells #[.int .i64 0, .int .i64 0] 27 (0, 0))) ∧ w2.heap.size + 2 ≤ wr2.heap.size)
        case atStart => exact ⟨0, by omega, rfl, start p, (rfl : _ = _), HM2, HN2, HB, HR, hsz⟩
        case round =>
          obtain ⟨t, ht, rfl, m, HE, HMt, HNt, HBt, HRt, hst⟩ := hrel
          clear HM2 HN2 HB HR hsz
          by_cases hlt : t < p.length + 1
          · obtain ⟨k, rfl⟩ : ∃ k', gk = k' + 1 := ⟨p.length - t, by omega⟩
            have HL : Hid (Calls Tryz.prog 73 #[.map (some (w2.heap.size + 1)), .slice sa p.length cap] wr fun e w5 => e = .returned (.bool (liftAll (m, false) p).2) ∧ Hid (NumsM w5 (w2.heap.size + 1) (16 + 80 * (t + 1)) (liftAll (m, false) p).1) ∧ Hid (∀ s, numOf (liftAll (m, false) p).1 s ≤ 80 * (t + 1)) ∧ Hid (Below w.heap.size w w5) ∧ Hid (w5.heap[w.heap.size]? = some (.cells #[.int .i64 0, .int .i64 0] 27 (0, 0))) ∧ w2.heap.size + 2 ≤ w5.heap.size) :=
              (liftedC _ _ (80 * t) m p _ wr HMt.out (Kind.sl_neBelow HV.out HBt.out (by omega)) HFi.out hp16 HNt.out (by omega) (by omega)).mono fun e w5 ⟨he, h1, h2, h3⟩ =>
                ⟨he, h1.mono (by omega), fun s => by have := h3 s; omega, below_trans HBt.out (h2.below (n := w.heap.size) (by omega) (by omega)) (Nat.le_refl _), by show _ = _; rw [h2.block w.heap.size (by omega) (by omega)]; exact HRt.out, by have := h2.size; omega⟩
            have hgo : strataGo p (k + 1) m = if (liftAll (m, false) p).2 then strataGo p k (liftAll (m, false) p).1 else some (liftAll (m, false) p).1 := rfl
            clear HMt HNt HBt HRt
            generalize liftAll (m, false) p = la at *
            obtain ⟨m2, lb⟩ := la
            dsimp only at *
            cases lb
            · have F2 : Hid (strataP p = (each m2 p, 0, 0)) := by show _ = _; rw [F.out, HE.out, hgo]; rfl
              have HEa : Hid (∀ w5, Hid (NumsM w5 (w2.heap.size + 1) (16 + 80 * (t + 1)) m2) → Hid (Below w.heap.size w w5) → Hid (w5.heap[w.heap.size]? = some (.cells #[.int .i64 0, .int .i64 0] 27 (0, 0))) → w2.heap.size + 2 ≤ w5.heap.size → Calls Tryz.prog 74 #[.map (some (w2.heap.size + 1)), .slice sa p.length cap] w5 fun e w6 => ∃ u, e = .returned u ∧ Hid (intK.sl (From (w.heap.size + 1)) w6 u (each m2 p)) ∧ Hid (Below w.heap.size w w6) ∧ w6.heap[w.heap.size]? = some (.cells #[.int .i64 0, .int .i64 0] 27 (0, 0))) := fun w5 h1 h2 h3 h4 =>
                (eachC _ _ m2 p _ w5 h1.out (Kind.sl_below HV.out h2.out) HFi.out hp16).mono fun e w6 ⟨u, he, ho, hb⟩ =>
                  ⟨u, he, Kind.sl_mono (Kind.own_sl ho (by simp [each]; omega)) fun k _ hk => by have : w5.heap.size ≤ k := hk; show w.heap.size + 1 ≤ k; omega, below_trans h2.out hb h2.out.size, by rw [hb.block w.heap.size (by omega)]; exact h3.out⟩
              clear hgo HE F
              go_wp2_with (first
                | (go_at_call 73; refine HL.out.mono ?_; rintro e w5 ⟨rfl, hM5, hN5, hB5, hR5, hs5⟩)
                | (go_at_call 74; refine (HEa.out w5 hM5 hB5 hR5 hs5).mono ?_; rintro e w6 ⟨u, rfl, hU6, hB6, hR6⟩; have q0 : w6.cell? ⟨w.heap.size, 0, none⟩ = some (.int .i64 0) := (by rw [cell_of_row _ _ _ _ _ _ hR6]; rfl); have q1 : w6.cell? ⟨w.heap.size, 1, none⟩ = some (.int .i64 0) := (by rw [cell_of_row _ _ _ _ _ _ hR6]; rfl); have p0 : w6.frozen? ⟨w.heap.size, 0, none⟩ = false := frozen_rowC 0 hR6; have p1 : w6.frozen? ⟨w.heap.size, 1, none⟩ = false := frozen_rowC 1 hR6; replace hR6 := hide hR6))
              obtain ⟨r0, r1⟩ := fault_two (unhide hR6) (.int .i64 0) (.int .i64 0)
              refine bodyPost_ret (v := .tuple #[u, .agg #[.int .i64 0, .int .i64 0]]) (by simp [results, Tryz.results39, go_sem, r0, r1]) rfl ⟨u, by rw [F2.out]; rfl, ?_, ?_⟩
              · rw [F2.out]
                exact Kind.sl_mono (Kind.sl_setCell (Kind.sl_setCell hU6.out (Nat.lt_succ_self _) _) (Nat.lt_succ_self _) _) fun k _ hk => by have : w.heap.size + 1 ≤ k := hk; show w.heap.size ≤ k; omega
              · exact (hB6.out.setCell (Nat.le_refl _) _).setCell (Nat.le_refl _) _
            · have E2 : Hid (strataGo p (p.length + 1) (start p) = strataGo p k m2) := by show _ = _; rw [HE.out, hgo]; rfl
              clear hgo HE
              go_wp2_with (go_at_call 73; refine HL.out.mono ?_; rintro e w5 ⟨rfl, hM5, hN5, hB5, hR5, hs5⟩)
              go_roundg k
              case measure => omega
              case rel => exact ⟨t + 1, by omega, by go_num, m2, E2, hM5, hN5, hB5, hR5, hs5⟩
          · obtain rfl : gk = 0 := by omega
            have F2 : Hid (strataP p = ([], 10, 0)) := by show _ = _; rw [F.out, HE.out]; rfl
            have hR6 := HRt.out
            have q0 : wr.cell? ⟨w.heap.size, 0, none⟩ = some (.int .i64 0) := (by rw [cell_of_row _ _ _ _ _ _ hR6]; rfl); have q1 : wr.cell? ⟨w.heap.size, 1, none⟩ = some (.int .i64 0) := (by rw [cell_of_row _ _ _ _ _ _ hR6]; rfl); have p0 : wr.frozen? ⟨w.heap.size, 0, none⟩ = false := frozen_rowC 0 hR6; have p1 : wr.frozen? ⟨w.heap.size, 1, none⟩ = false := frozen_rowC 1 hR6
            clear hR6
            go_wp2
            obtain ⟨r0, r1⟩ := fault_two HRt.out (.int .i64 10) (.int .i64 0)
            refine bodyPost_ret (v := .tuple #[.slice none 0 0, .agg #[.int .i64 10, .int .i64 0]]) (by simp [results, Tryz.results39, go_sem, r0, r1]) rfl ⟨.slice none 0 0, by rw [F2.out]; rfl, by rw [F2.out]; exact intK.sl_nil _ _ _ _, ?_⟩
            exact (HBt.out.setCell (Nat.le_refl _) _).setCell (Nat.le_refl _) _
  · have F : Hid (strataP p = ([], ex, ea)) := by show _ = _; unfold strataP; rw [hwp, if_neg h0]
    have hq : (ex != 0) = true := by simpa using h0
    clear h0 hwp HV
    go_enter Tryz.func39, Tryz.ntmps39
    go_wp2_with (go_at_call 27; refine HW.out.mono ?_; rintro e w2 ⟨rfl, hB2, hR2, hs2⟩; have q0 : w2.cell? ⟨w.heap.size, 0, none⟩ = some (.int .i64 0) := (by rw [cell_of_row _ _ _ _ _ _ hR2]; rfl); have q1 : w2.cell? ⟨w.heap.size, 1, none⟩ = some (.int .i64 0) := (by rw [cell_of_row _ _ _ _ _ _ hR2]; rfl); have p0 : w2.frozen? ⟨w.heap.size, 0, none⟩ = false := frozen_rowC 0 hR2; have p1 : w2.frozen? ⟨w.heap.size, 1, none⟩ = false := frozen_rowC 1 hR2; replace hR2 := hide hR2)
    go_region
    go_wp2
    obtain ⟨r0, r1⟩ := fault_two (unhide hR2) (.int .i64 ex) (.int .i64 (ea : Int))
    have hL := ((Later.refl ((w2.setCell ⟨w.heap.size, 0, none⟩ (.int .i64 ex)).setCell ⟨w.heap.size, 1, none⟩ (.int .i64 (ea : Int)))).alloc (.cells #[.int .i64 ex, .int .i64 (ea : Int)] 27)).drew
    rw [← hL.cell (p := ⟨w.heap.size, 0, none⟩) (by simp only [size_setCell]; exact hs2)] at r0
    rw [← hL.cell (p := ⟨w.heap.size, 1, none⟩) (by simp only [size_setCell]; exact hs2)] at r1
    refine bodyPost_ret (v := .tuple #[.slice none 0 0, .agg #[.int .i64 ex, .int .i64 (ea : Int)]]) (by simp [results, Tryz.results39, go_sem, r0, r1]) rfl ⟨.slice none 0 0, by rw [F.out], by rw [F.out]; exact intK.sl_nil _ _ _ _, ?_⟩
    exact below_trans ((hB2.out.setCell (Nat.le_refl _) _).setCell (Nat.le_refl _) _) hL.below (by simp only [size_setCell]; exact Nat.le_of_lt hs2)

end Go.Proofs.YtbohggoeebhdmaaGreatDoor

/- The walk of naive.Once. -/
namespace Go.Proofs.YtbohggoeebhdmaaGreatDoor
open Go.RowKit Go.Sort Go.Maps

/-- What Once, and all behind it, tells. -/
def OnceT (w : World) (v : Value) (er : Int) (a : Int × List FactB) : Prop := er = a.1 ∧ (a.1 ≠ 0 → v = .slice none 0 0) ∧ (a.1 = 0 → Facts w v a.2)

theorem onceGo_none (n : Int) (fs : List FactB) (p : List RuleD) (acc : List FactB) : onceGo n fs p [] acc = (0, setF acc) := by cases p <;> rfl

theorem setF_short {L : List FactB} (h : ∀ f ∈ L, ShortF f) : ∀ f ∈ setF L, ShortF f := fun f hf => h f (mem_setF.1 hf)

theorem wpList_len_known {P : Program} {K E : TypeId} {L : List FactB} {b n : Nat} (w : World) {ops : Array Oper} {rest : List Oper} {o : Oper} {a : Act} {Q : Exit → Act → World → Prop} (hg : o.guard = none) (m : Operand) (t : TypeId)
    (hop : o.op = Op.call { callee := Callee.builtin Builtin.len, args := #[m], argTypes := #[t] }) (ht : P.underlying t = some (.map K E)) (hm : a.eval m = .map (some b)) (h : KnownM P K w b n L)
    (hK : wpList P ops Q rest (a.put o.dst (.int .i64 ((setF L).length : Nat))) w) : wpList P ops Q (o :: rest) a w := by
  refine wpList_plain hg fun K' hK' => ?_
  unfold Oper.wp
  simp [execOp, hop, resolve, invoke, builtin, hm, h.len ht o.type, Result.andThen]
  exact hK' _ _ hK

set_option maxRecDepth 100000 in
set_option maxHeartbeats 4000000 in
theorem onceC (p : List RuleD) (ss : List Nat) (n : Int) (fs : List FactB) (pv sv fv : Value) (w : World) (hp : ruleK.sl Anyw w pv p) (hss : intK.sl Anyw w sv ss) (hf : Facts w fv fs) (h16 : p.length ≤ 16) (hfew : fs.length ≤ 200)
    (hok : ∀ r ∈ p, errW r.body fs [] = 0) (hsh : ∀ r ∈ p, ∀ R, allB (fun _ => fs) r.body = some R → ∀ l ∈ R, ∀ f, fillB r.head l = some f → ShortF f) (hfs : ∀ f ∈ fs, ShortF f) :
    Calls Tryz.prog 18 #[pv, sv, .int .i64 n, fv] w fun e w' => ∃ v' er, e = .returned (.tuple #[v', .int .i64 er]) ∧ OnceT w' v' er (onceP p ss n fs) ∧ Below w.heap.size w w' := by
  obtain ⟨pa, pc, rfl⟩ := Kind.slice hp
  obtain ⟨sa, sc, rfl⟩ := Kind.slice hss
  obtain ⟨fa, fc, rfl⟩ := sliceFacts hf
  have hsl := hss.1.1
  have HP := hide hp
  have HSS := hide hss
  have HF := hide hf
  have HOk := hide hok
  have HSh := hide hsh
  have hL1 : Later w (w.alloc (.map #[] 0)) := (Later.refl w).alloc _
  have HAd := hide (knownAdd w.heap.size 0 [] (.slice fa fs.length fc) fs (w.alloc (.map #[] 0)) (KnownM.made _ _ _) (hf.later hL1) hfs (by omega))
  have HL1 := hide hL1.below
  have hmm := @run_makeMap Tryz.prog
  clear hp hss hf hok hsh hfs hL1
  go_enter Tryz.func18, Tryz.ntmps18
  go_wp2_with fail
  refine HAd.out.mono ?_
  rintro e w2 ⟨⟨u2, rfl⟩, hK2, hT2⟩
  have HK2 : Hid (KnN w2 w.heap.size (0 + fs.length) fs) := by show KnN _ _ _ _; simpa using hK2
  have HB2 : Hid (Below w.heap.size w w2) := HL1.out.trans (hT2.below (Nat.le_refl _) (by simp))
  clear hK2 hT2 HAd HL1 hmm
  go_wp2
  go_loopg [21] p.length (fun g i wr => ∃ j : Nat, j + g = p.length ∧ i = .int .i64 j ∧ ∃ acc m, m ≤ 200 + 20000 * j ∧ Hid (KnN wr w.heap.size m acc) ∧ Hid (Below w.heap.size w wr) ∧ Hid (onceP p ss n fs = onceGo n fs (p.drop j) (ss.drop j) acc))
  case atStart => exact ⟨0, by omega, rfl, fs, _, by omega, HK2, HB2, (rfl : _ = _)⟩
  case round =>
    clear HK2 HB2
    obtain ⟨j, hj, rfl, acc, m, hm, HK, HBr, HE⟩ := hrel
    by_cases hlt : j < p.length
    · obtain ⟨r, hr⟩ : ∃ x, p[j]? = some x := ⟨_, List.getElem?_eq_getElem hlt⟩
      have hrm : r ∈ p := List.mem_of_getElem? hr
      obtain ⟨b1, o1, _, rfl, hb1, ⟨tv, bv, rfl, htv, hbv⟩, hc⟩ := Kind.sl_at HP.out hr
      have d0 : wr.cell? ⟨b1, o1 + j * 4, none⟩ = some (.bool r.head.no) := by rw [HBr.out.cell (p := ⟨b1, o1 + j * 4, none⟩) hb1]; exact hc 0 _ rfl
      have d1 : wr.cell? ⟨b1, o1 + j * 4 + 1, none⟩ = some (.string (bs r.head.name)) := by rw [HBr.out.cell (p := ⟨b1, o1 + j * 4 + 1, none⟩) hb1]; exact hc 1 _ rfl
      have d2 : wr.cell? ⟨b1, o1 + j * 4 + 2, none⟩ = some tv := by rw [HBr.out.cell (p := ⟨b1, o1 + j * 4 + 2, none⟩) hb1]; exact hc 2 _ rfl
      have d3 : wr.cell? ⟨b1, o1 + j * 4 + 3, none⟩ = some bv := by rw [HBr.out.cell (p := ⟨b1, o1 + j * 4 + 3, none⟩) hb1]; exact hc 3 _ rfl
      have hpd : p.drop j = r :: p.drop (j + 1) := by
        obtain ⟨h1, e1⟩ := List.getElem?_eq_some_iff.1 hr
        rw [List.drop_eq_getElem_cons h1, e1]
      obtain ⟨ta, tc, rfl⟩ := Kind.slice htv
      obtain ⟨ba, bc, rfl⟩ := Kind.slice hbv
      have hwr := HBr.out.size
      by_cases hsj : j < ss.length
      · obtain ⟨s, hs⟩ : ∃ x, ss[j]? = some x := ⟨_, List.getElem?_eq_getElem hsj⟩
        obtain ⟨b2, o2, _, rfl, hb2, rfl, hc2⟩ := Kind.sl_at HSS.out hs
        have e0 : wr.cell? ⟨b2, o2 + j, none⟩ = some (.int .i64 s) := by rw [HBr.out.cell (p := ⟨b2, o2 + j, none⟩) hb2]; simpa [intK] using hc2 0 _ rfl
        have hsd : ss.drop j = s :: ss.drop (j + 1) := by
          obtain ⟨h1, e1⟩ := List.getElem?_eq_some_iff.1 hs
          rw [List.drop_eq_getElem_cons h1, e1]
        have hstep : onceP p ss n fs = if (s : Int) = n then (match headsP r fs with
            | none => (4, [])
            | some x => if 200 < (setF (acc ++ x)).length then (5, []) else onceGo n fs (p.drop (j + 1)) (ss.drop (j + 1)) (acc ++ x)) else onceGo n fs (p.drop (j + 1)) (ss.drop (j + 1)) acc := by
          rw [HE.out, hpd, hsd]; rfl
        have hsji : (j : Int) < (ss.length : Int) := by omega
        have hb2r : b2 < wr.heap.size := by omega
        by_cases hsn : (s : Int) = n
        · rw [if_pos hsn] at hstep
          obtain ⟨wb, hwb⟩ : ∃ wb, wb = wr.alloc (.cells #[.bool r.head.no, .string (bs r.head.name), .slice ta r.head.terms.length tc, .slice ba r.body.length bc] 43) := ⟨_, rfl⟩
          have hLb : Later wr wb := by rw [hwb]; exact (Later.refl _).alloc _
          have hBb : Below w.heap.size w wb := below_trans HBr.out hLb.below hwr
          have HH := hide (headsC r (.slice ta r.head.terms.length tc) (.slice ba r.body.length bc) (.slice fa fs.length fc) fs wb (Kind.sl_below htv hBb) (Kind.sl_below hbv hBb) (HF.out.below hBb) (HSh.out r hrm))
          have h0 := HOk.out r hrm
          have hshr := HSh.out r hrm
          have HKb := hide (HK.out.later hLb)
          have HBb := hide hBb
          have HWb := hide hwb
          clear hc hc2 hr hs htv hbv hpd hsd HE hLb hBb hwb hrm
          have hneq : ((s : Int) != n) = false := by simp [hsn]
          generalize bs r.head.name = nm at *
          generalize hno : r.head.no = no at *
          clear hno
          subst hsn
          go_wp2_with fail
          rw [← HWb.out]
          refine HH.out.mono ?_
          rintro e w3 ⟨v3, er, rfl, hT3, hB3⟩
          unfold HeadsT at hT3
          rw [if_neg (by simp [h0])] at hT3
          have HB3 : Hid (Below w.heap.size w w3) := below_trans HBb.out hB3 HBb.out.size
          have HK3 := hide (HKb.out.below hB3)
          clear hB3 HH HWb HKb HBb
          cases hh : headsP r fs with
          | none =>
            rw [hh] at hT3 hstep
            obtain ⟨rfl, rfl⟩ := hT3
            have HT : Hid (∀ w', OnceT w' (.slice none 0 0) 4 (onceP p ss s fs)) := fun w' => by rw [hstep]; exact ⟨rfl, fun _ => rfl, fun h => by simp at h⟩
            clear hstep hh
            go_wp2
            exact bodyPost_ret (v := .tuple #[.slice none 0 0, .int .i64 4]) (by simp [results, Tryz.results18, go_sem]) rfl ⟨_, 4, rfl, HT.out _, HB3.out⟩
          | some x =>
            rw [hh] at hT3 hstep
            obtain ⟨rfl, hF3⟩ := hT3
            have hxs : (∀ f ∈ x, ShortF f) ∧ x.length ≤ 20000 := by
              unfold headsP at hh
              cases hR : allB (fun _ => fs) r.body with
              | none => rw [hR] at hh; cases hh
              | some R =>
                rw [hR] at hh
                cases hh
                refine ⟨setF_short fun f hf => ?_, Nat.le_trans (setF_len _) (Nat.le_trans (List.length_filterMap_le _ _) (allB_small hR))⟩
                obtain ⟨l, hl, hlf⟩ := List.mem_filterMap.1 hf
                exact hshr R hR l hl f hlf
            have hxl := hxs.2
            have HAd := hide (knownAdd w.heap.size m acc v3 x w3 HK3.out hF3 hxs.1 (by omega))
            obtain ⟨xa, xc, rfl⟩ := sliceFacts hF3
            dsimp only at hstep
            have HST := hide hstep
            clear hF3 hxs hh hstep hshr HK3
            go_wp2_with fail
            refine HAd.out.mono ?_
            rintro e w4 ⟨⟨u4, rfl⟩, hK4, hT4⟩
            have HB4 : Hid (Below w.heap.size w w4) := HB3.out.trans (hT4.below (Nat.le_refl _) HB3.out.size)
            have HK4 := hide hK4
            clear hK4 hT4 HAd
            by_cases hbig : 200 < (setF (acc ++ x)).length
            · have HT : Hid (∀ w', OnceT w' (.slice none 0 0) 5 (onceP p ss s fs)) := fun w' => by rw [HST.out, if_pos hbig]; exact ⟨rfl, fun _ => rfl, fun h => by simp at h⟩
              have hbi : (200 : Int) < ((setF (acc ++ x)).length : Nat) := by omega
              clear HST hbig
              go_wp2_with (at_len; refine wpList_len_known _ rfl _ 81 rfl Tryz.underlying81 rfl HK4.out ?_)
              exact bodyPost_ret (v := .tuple #[.slice none 0 0, .int .i64 5]) (by simp [results, Tryz.results18, go_sem]) rfl ⟨_, 5, rfl, HT.out _, HB4.out⟩
            · have HE4 : Hid (onceP p ss s fs = onceGo s fs (p.drop (j + 1)) (ss.drop (j + 1)) (acc ++ x)) := by show _ = _; rw [HST.out, if_neg hbig]
              have hbi : ¬ (200 : Int) < ((setF (acc ++ x)).length : Nat) := by omega
              clear HST hbig
              go_wp2_with (at_len; refine wpList_len_known _ rfl _ 81 rfl Tryz.underlying81 rfl HK4.out ?_)
              go_roundg (p.length - (j + 1))
              case measure => omega
              case rel => exact ⟨j + 1, by omega, by go_num, acc ++ x, m + x.length, by omega, HK4, HB4, HE4⟩
        · rw [if_neg hsn] at hstep
          have HE4 : Hid (onceP p ss n fs = onceGo n fs (p.drop (j + 1)) (ss.drop (j + 1)) acc) := hstep
          have HB4 : Hid (Below w.heap.size w (wr.alloc (.cells #[.bool r.head.no, .string (bs r.head.name), .slice ta r.head.terms.length tc, .slice ba r.body.length bc] 43))) := below_trans HBr.out ((Later.refl _).alloc _).below hwr
          have HK4 : Hid (KnN (wr.alloc (.cells #[.bool r.head.no, .string (bs r.head.name), .slice ta r.head.terms.length tc, .slice ba r.body.length bc] 43)) w.heap.size m acc) := HK.out.later ((Later.refl _).alloc _)
          have hneq : ((s : Int) != n) = true := by simpa using hsn
          clear hstep hc hc2 hr hs htv hbv hpd hsd HE hsn hrm
          generalize bs r.head.name = nm at *
          generalize r.head.no = no at *
          go_wp2
          go_roundg (p.length - (j + 1))
          case measure => omega
          case rel => exact ⟨j + 1, by omega, by go_num, acc, m, by omega, HK4, HB4, HE4⟩
      · have hsd : ss.drop j = [] := List.drop_eq_nil_of_le (by omega)
        have hsd2 : ss.drop (j + 1) = [] := List.drop_eq_nil_of_le (by omega)
        have HE4 : Hid (onceP p ss n fs = onceGo n fs (p.drop (j + 1)) (ss.drop (j + 1)) acc) := by show _ = _; rw [HE.out, hsd, hsd2, onceGo_none, onceGo_none]
        have HB4 : Hid (Below w.heap.size w (wr.alloc (.cells #[.bool r.head.no, .string (bs r.head.name), .slice ta r.head.terms.length tc, .slice ba r.body.length bc] 43))) := below_trans HBr.out ((Later.refl _).alloc _).below hwr
        have HK4 : Hid (KnN (wr.alloc (.cells #[.bool r.head.no, .string (bs r.head.name), .slice ta r.head.terms.length tc, .slice ba r.body.length bc] 43)) w.heap.size m acc) := HK.out.later ((Later.refl _).alloc _)
        have hsji : (ss.length : Int) ≤ (j : Int) := by omega
        clear hc hr htv hbv hpd hsd hsd2 HE hrm hsj
        generalize bs r.head.name = nm at *
        generalize r.head.no = no at *
        go_wp2
        go_roundg (p.length - (j + 1))
        case measure => omega
        case rel => exact ⟨j + 1, by omega, by go_num, acc, m, by omega, HK4, HB4, HE4⟩
    · have hd : p.drop j = [] := List.drop_eq_nil_of_le (by omega)
      have HX : Hid (onceP p ss n fs = (0, setF acc)) := by show _ = _; rw [HE.out, hd]; rfl
      have HSt := hide (knownSet _ _ _ wr HK.out (by omega))
      clear hd HE
      go_wp2_with fail
      refine HSt.out.mono ?_
      rintro e w6 ⟨v6, rfl, hF6, hB6⟩
      have HT6 : Hid (OnceT w6 v6 0 (onceP p ss n fs)) := by show OnceT _ _ _ _; rw [HX.out]; exact ⟨rfl, fun h => absurd rfl h, fun _ => hF6⟩
      have HB6 : Hid (Below w.heap.size w w6) := below_trans HBr.out hB6 HBr.out.size
      obtain ⟨a6, c6, rfl⟩ := sliceFacts hF6
      clear hF6 hB6
      go_wp2
      exact bodyPost_ret (v := .tuple #[.slice a6 (setF acc).length c6, .int .i64 0]) (by simp [results, Tryz.results18, go_sem]) rfl ⟨_, 0, rfl, HT6.out, HB6.out⟩

end Go.Proofs.YtbohggoeebhdmaaGreatDoor

/- The walk of naive.overAndOver, and what right facts are to Set. -/
namespace Go.Proofs.YtbohggoeebhdmaaGreatDoor
open Go.RowKit Go.Sort Go.Maps

theorem named_short {s : ByteArray} (h : isNamed (raw s) = true) : s.size ≤ 12 := by
  unfold isNamed at h
  simp only [Bool.and_eq_true, decide_eq_true_eq] at h
  rw [length_raw] at h
  exact h.1.1
theorem right_short {f : FactB} (h : RightF f) : ShortF f :=
  ⟨by have := named_short h.1; omega, h.2.1, fun s hs => by have := named_short (h.2.2 s hs); omega⟩

theorem wrongF_right {f : FactB} : wrongF f = 0 ↔ RightF f := by
  unfold wrongF RightF
  rw [namedB_eq]
  constructor
  · intro h
    split at h
    · simp at h
    · rename_i h1
      split at h
      · simp at h
      · rename_i h2
        split at h
        · simp at h
        · rename_i h3
          refine ⟨by simpa using h1, by omega, fun s hs => ?_⟩
          cases e : isNamed (raw s) with
          | true => rfl
          | false =>
            exfalso
            refine h3 ?_
            unfold noName
            rw [List.drop_zero, List.any_eq_true]
            exact ⟨s, hs, by rw [namedB_eq, e]; rfl⟩
  · rintro ⟨h1, h2, h3⟩
    rw [if_neg (by simp [h1]), if_neg (by omega), if_neg]
    intro h
    unfold noName at h
    rw [List.drop_zero, List.any_eq_true] at h
    obtain ⟨s, hs, hn⟩ := h
    rw [namedB_eq, h3 s hs] at hn
    cases hn

theorem faultFrom_right {l : List FactB} (hw : ∀ f ∈ l, wrongF f = 0) (hu : Up l) : ∀ (n k : Nat), k + n = l.length → faultFrom l n k = (0, 0)
  | 0, _, _ => rfl
  | n + 1, k, h => by
    have hk : k < l.length := by omega
    unfold faultFrom
    have e1 : wrongF (l.getD k noFact) = 0 := hw _ (by rw [List.getD_eq_getElem?_getD, List.getElem?_eq_getElem hk]; exact List.getElem_mem hk)
    rw [if_neg (by rw [e1]; simp), if_neg, faultFrom_right hw hu n (k + 1) (by omega)]
    rintro ⟨h0, h1⟩
    have := List.pairwise_iff_getElem.1 hu (k - 1) k (by omega) hk (by omega)
    rw [List.getD_eq_getElem?_getD, List.getD_eq_getElem?_getD, List.getElem?_eq_getElem (by omega), List.getElem?_eq_getElem hk] at h1
    simp only [Option.getD_some] at h1
    omega

theorem fault_right {l : List FactB} (hu : Up l) (hr : ∀ f ∈ l, RightF f) (hl : l.length ≤ 200) : setFault l = (0, 0) := by
  unfold setFault
  rw [if_neg (by omega)]
  exact faultFrom_right (fun f hf => wrongF_right.2 (hr f hf)) hu _ 0 (by omega)

theorem good_of_fault {p : List RuleD} {l : List FactB} (h : (setFault l).1 = 0) (hf : ∀ f ∈ l, fitF p f = true) : GoodS p l := by
  obtain ⟨h1, h2, h3⟩ := set_right h
  exact ⟨h2, fun f hf => wrongF_right.1 (h3 f hf), h1, hf⟩

theorem errW_right {p : List RuleD} (hp : RightP p) {L : List FactB} (hL : GoodS p L) : ∀ r ∈ p, errW r.body L [] = 0 := fun r hr => by
  unfold errW
  rw [if_neg (by simp [(hp.rules r hr).body]), if_neg (by rw [fault_right hL.up hL.right hL.few]; simp)]
  rfl

theorem short_right {p : List RuleD} (hp : RightP p) {L : List FactB} (hL : GoodS p L) : ∀ r ∈ p, ∀ R, allB (fun _ => L) r.body = some R → ∀ l ∈ R, ∀ f, fillB r.head l = some f → ShortF f := fun r hr _ hR l hl _ hf =>
  right_short (head_right (hp.rules r hr) hL.right ((all_mem (covers_right (hp.rules r hr)) hR l).1 hl) hf).1

set_option maxRecDepth 100000 in
set_option maxHeartbeats 2000000 in
theorem overC (p : List RuleD) (hp : RightP p) (σ : RuleD → Nat) (n : Int) (fs : List FactB) (pv sv fv : Value) (w : World) (hpv : ruleK.sl Anyw w pv p) (hsv : intK.sl Anyw w sv (p.map σ)) (hf : Facts w fv fs) (hg : GoodS p fs) :
    Calls Tryz.prog 41 #[pv, sv, .int .i64 n, fv] w fun e w' => ∃ v' er, e = .returned (.tuple #[v', .int .i64 er]) ∧ OnceT w' v' er (overGo p (p.map σ) n 201 fs) ∧ ((overGo p (p.map σ) n 201 fs).1 = 0 → GoodS p (overGo p (p.map σ) n 201 fs).2) ∧ Below w.heap.size w w' := by
  generalize hss : p.map σ = ss at *
  have HSS := hide hss
  clear hss
  obtain ⟨pa, pc, rfl⟩ := Kind.slice hpv
  obtain ⟨sa, sc, rfl⟩ := Kind.slice hsv
  have HP := hide hpv
  have HSV := hide hsv
  have HF := hide hf
  have HG := hide hg
  have HRP := hide hp
  have hfew := hg.few
  clear hpv hsv hf hg hp
  go_enter Tryz.func41, Tryz.ntmps41
  go_wp2
  go_loopg [3] 201 (fun g v wr => ∃ k L, k = g ∧ 200 < L.length + k ∧ Hid (Facts wr v L) ∧ Hid (GoodS p L) ∧ Hid (Below w.heap.size w wr) ∧ Hid (overGo p ss n 201 fs = overGo p ss n k L))
  case atStart => exact ⟨201, fs, rfl, by omega, HF, HG, Below.refl _ _, (rfl : _ = _)⟩
  case round =>
    clear HF HG
    obtain ⟨k, L, hkg, hk, HF, HG, HBr, HE⟩ := hrel
    have hL := HG.out.few
    obtain ⟨k', rfl⟩ : ∃ k', k = k' + 1 := ⟨k - 1, by omega⟩
    have HC := hide (onceC p ss n L _ _ _ wr (Kind.sl_below HP.out HBr.out) (Kind.sl_below HSV.out HBr.out) HF.out HRP.out.few hL (errW_right HRP.out HG.out) (short_right HRP.out HG.out) (fun f hf => right_short (HG.out.right f hf)))
    obtain ⟨la, lc, rfl⟩ := sliceFacts HF.out
    obtain ⟨er, S, hS⟩ : ∃ er S, onceP p ss n L = (er, S) := ⟨_, _, rfl⟩
    have hst : overGo p ss n 201 fs = if er ≠ 0 then (er, []) else if S.length = L.length then (0, S) else overGo p ss n k' S := by
      rw [HE.out, overGo, hS]
    rw [hS] at HC
    have HSt := hide hst
    have HGS : Hid (er = 0 → GoodS p S ∧ L.length ≤ S.length) := fun e => by
      subst e
      obtain ⟨g1, g2⟩ := once_good HRP.out σ HG.out (by rw [HSS.out]; exact hS)
      exact ⟨g1, up_le HG.out.up g2⟩
    clear hst hS HE
    go_wp2_with fail
    refine HC.out.mono ?_
    rintro e w2 ⟨v2, er', rfl, ⟨her, hT1, hT2⟩, hB2⟩
    dsimp only at her hT1 hT2 ⊢
    have her' := her.symm
    clear her
    subst her'
    have HB2 : Hid (Below w.heap.size w w2) := below_trans HBr.out hB2 HBr.out.size
    clear HC hB2
    by_cases h0 : er = 0
    · subst h0
      have hF2 := hT2 rfl
      have HF2 := hide hF2
      obtain ⟨hgS, hlS⟩ := HGS.out rfl
      have HGS2 := hide hgS
      obtain ⟨xa, xc, rfl⟩ := sliceFacts hF2
      have hSt := HSt.out
      rw [if_neg (by simp)] at hSt
      by_cases hlen : S.length = L.length
      · rw [if_pos hlen] at hSt
        have HR := hide hSt
        have hli : ((S.length : Nat) : Int) = (L.length : Nat) := by omega
        clear hSt hlen hT1 hT2 hF2 hgS HSt HGS
        go_wp2
        exact bodyPost_ret (v := .tuple #[.slice xa S.length xc, .int .i64 0]) (by simp [results, Tryz.results41, go_sem]) rfl ⟨_, 0, rfl, by rw [HR.out]; exact ⟨rfl, fun h => absurd rfl h, fun _ => HF2.out⟩, by rw [HR.out]; exact fun _ => HGS2.out, HB2.out⟩
      · rw [if_neg hlen] at hSt
        have HR := hide hSt
        have hli : ¬ ((S.length : Nat) : Int) = (L.length : Nat) := by omega
        have hk' : 200 < S.length + k' := by omega
        clear hSt hlen hT1 hT2 hF2 hgS HSt HGS
        go_wp2
        go_roundg k'
        case measure => omega
        case rel => exact ⟨k', S, rfl, hk', HF2, HGS2, HB2, HR⟩
    · have e2 := hT1 h0
      subst e2
      have HR : Hid (overGo p ss n 201 fs = (er, [])) := by show _ = _; rw [HSt.out, if_pos h0]
      have HT : Hid (∀ w', OnceT w' (.slice none 0 0) er (overGo p ss n 201 fs) ∧ ((overGo p ss n 201 fs).1 = 0 → GoodS p (overGo p ss n 201 fs).2)) := fun w' => by rw [HR.out]; exact ⟨⟨rfl, fun _ => rfl, fun h => absurd h h0⟩, fun h => absurd h h0⟩
      have hne : (er != 0) = true := by simpa using h0
      clear hT1 hT2 HSt HGS HR
      go_wp2
      exact bodyPost_ret (v := .tuple #[.slice none 0 0, .int .i64 er]) (by simp [results, Tryz.results41, go_sem]) rfl ⟨_, er, rfl, (HT.out _).1, (HT.out w2).2, HB2.out⟩

end Go.Proofs.YtbohggoeebhdmaaGreatDoor

/- The walk of the reference's Envs. -/
namespace Go.Proofs.YtbohggoeebhdmaaGreatDoor
open Go.RowKit Go.Sort Go.Maps

/-- What Envs tells. -/
def EnvsM (w : World) (v : Value) (er : Int) (pick : Nat → List FactB) (body : List AtomD) : Option (List (List BindD)) → Prop
  | none => v = .slice none 0 0 ∧ er = 4
  | some ms => er = 0 ∧ (envK 20).sl Anyw w v (ms.filter fun l => !barredB pick 0 body l)

theorem term_short {t : TermD} (h : wrongTerm t = false) : t.2.length ≤ 12 := by
  unfold wrongTerm at h
  split at h
  · simp only [Bool.not_eq_false'] at h
    unfold isVar at h
    simp only [Bool.and_eq_true, decide_eq_true_eq] at h
    exact h.1.1
  · simp only [Bool.not_eq_false'] at h
    unfold isNamed at h
    simp only [Bool.and_eq_true, decide_eq_true_eq] at h
    exact h.1.1

theorem fact_short {fs : List FactD} (h : (setFault fs).1 = 0) : fs.length ≤ 200 ∧ ∀ f ∈ fs, ∀ s ∈ f.2, s.size ≤ maxLen := by
  obtain ⟨h1, _, h3⟩ := set_right h
  refine ⟨h1, fun f hf s hs => ?_⟩
  have h4 := h3 f hf
  have h5 : isNamed (raw s) = true := (wrongF_right.1 h4).2.2 s hs
  unfold isNamed at h5
  simp only [Bool.and_eq_true, decide_eq_true_eq] at h5
  have := h5.1.1
  rw [length_raw] at this
  unfold maxLen; omega

set_option maxRecDepth 100000 in
set_option maxHeartbeats 1000000 in
theorem rEnvs (body : List AtomD) (facts other : List FactD) (at_ : Int) (bv fv ov : Value) (w : World) (hb : atomK.sl Anyw w bv body) (hf : Facts w fv facts) (ho : Facts w ov other) (hw : wrongBody body = 0) (hfs : (setFault facts).1 = 0) (hos : (setFault other).1 = 0) :
    Calls Tryz.prog 49 #[bv, fv, .int .i64 at_, ov] w fun e w' => ∃ v er, e = .returned (.tuple #[v, .int .i64 er]) ∧ EnvsM w' v er (pickB facts at_ other) body (metGo (pickB facts at_ other) 0 body [[]]) ∧ Below w.heap.size w w' := by
  obtain ⟨ba, bc, rfl⟩ := Kind.slice hb
  obtain ⟨fa, fc, rfl⟩ := sliceFacts hf
  obtain ⟨oa, oc, rfl⟩ := sliceFacts ho
  obtain ⟨h5, hat⟩ := body_right hw
  obtain ⟨hfl, hfS⟩ := fact_short hfs
  obtain ⟨hol, hoS⟩ := fact_short hos
  have hpl : ∀ n, (pickB facts at_ other n).length ≤ 200 := fun n => by unfold pickB; split <;> assumption
  have hpS : ∀ n, ∀ f ∈ pickB facts at_ other n, ∀ s ∈ f.2, s.size ≤ maxLen := fun n f => by unfold pickB; split; exact hoS f; exact hfS f
  obtain ⟨wb, hwb⟩ : ∃ wb, wb = ((w.alloc (.cells #[.slice fa facts.length fc] 24)).alloc (.cells #[.int .i64 at_] 3)).alloc (.cells #[.slice oa other.length oc] 24) := ⟨_, rfl⟩
  have hLb : Later w wb := by rw [hwb]; exact (((Later.refl w).alloc _).alloc _).alloc _
  have hsb : wb.heap.size = w.heap.size + 3 := by rw [hwb]; simp
  have hr0 : wb.heap[w.heap.size]? = some (.cells #[.slice fa facts.length fc] 24 (0, 0)) := by
    rw [hwb]; simp only [heap_at, World.size_alloc]
    repeat (first | rw [if_pos trivial] | rw [if_pos (by omega)] | rw [if_neg (by omega)])
  have hr1 : wb.heap[w.heap.size + 1]? = some (.cells #[.int .i64 at_] 3 (0, 0)) := by
    rw [hwb]; simp only [heap_at, World.size_alloc]
    repeat (first | rw [if_pos trivial] | rw [if_pos (by omega)] | rw [if_neg (by omega)])
  have hr2 : wb.heap[w.heap.size + 2]? = some (.cells #[.slice oa other.length oc] 24 (0, 0)) := by
    rw [hwb]; simp only [heap_at, World.size_alloc]
    repeat (first | rw [if_pos trivial] | rw [if_pos (by omega)] | rw [if_neg (by omega)])
  have HPk : Hid (∀ (i : Nat), ∃ a c, ∀ (w' : World), Below wb.heap.size wb w' → Calls Tryz.prog 81 #[.int .i64 (i : Int), .pointer (some ⟨w.heap.size + 1, 0, none⟩), .pointer (some ⟨w.heap.size + 2, 0, none⟩), .pointer (some ⟨w.heap.size, 0, none⟩)] w' (fun e w'' => e = .returned (.slice a (pickB facts at_ other i).length c) ∧ w'' = w') ∧ Facts w' (.slice a (pickB facts at_ other i).length c) (pickB facts at_ other i)) := fun i => by
    have key : ∀ w', Below wb.heap.size wb w' → Calls Tryz.prog 81 #[.int .i64 (i : Int), .pointer (some ⟨w.heap.size + 1, 0, none⟩), .pointer (some ⟨w.heap.size + 2, 0, none⟩), .pointer (some ⟨w.heap.size, 0, none⟩)] w' (fun e w'' => e = .returned (if (i : Int) = at_ then .slice oa other.length oc else .slice fa facts.length fc) ∧ w'' = w') := fun w' hB => by
      have k0 : w'.cell? ⟨w.heap.size, 0, none⟩ = some (.slice fa facts.length fc) := by rw [hB.cell (p := ⟨w.heap.size, 0, none⟩) (by show w.heap.size < _; omega), cell_of_row _ _ _ _ _ _ hr0]; rfl
      have k1 : w'.cell? ⟨w.heap.size + 1, 0, none⟩ = some (.int .i64 at_) := by rw [hB.cell (p := ⟨w.heap.size + 1, 0, none⟩) (by show w.heap.size + 1 < _; omega), cell_of_row _ _ _ _ _ _ hr1]; rfl
      have k2 : w'.cell? ⟨w.heap.size + 2, 0, none⟩ = some (.slice oa other.length oc) := by rw [hB.cell (p := ⟨w.heap.size + 2, 0, none⟩) (by show w.heap.size + 2 < _; omega), cell_of_row _ _ _ _ _ _ hr2]; rfl
      exact rPick w.heap.size (i : Int) at_ fa oa facts.length fc other.length oc w' k0 k1 k2
    unfold pickB
    by_cases h : (i : Int) = at_
    · simp only [h, if_true] at key ⊢
      exact ⟨oa, oc, fun w' hB => ⟨key w' hB, (ho.later hLb).below hB⟩⟩
    · simp only [h, if_false] at key ⊢
      exact ⟨fa, fc, fun w' hB => ⟨key w' hB, (hf.later hLb).below hB⟩⟩
  have HBd := hide (Kind.sl_later hb hLb)
  have HAt := hide hat
  have HPl := hide hpl
  have HPS := hide hpS
  have HLb := hide hLb
  have hmm := @run_makeMap Tryz.prog
  have hmf : ∀ (fn : Fn) (first cap : Array Value) (w : World), (Instr.makeFunc fn first cap).run Tryz.prog w = .ok (.func fn first cap) w := fun _ _ _ _ => rfl
  have HCov := hide (covers_of hw)
  obtain ⟨w1, hw1⟩ : ∃ w1, w1 = (wb.alloc (.map #[] 0)).alloc (.cells #[.map (some (w.heap.size + 3))] 118) := ⟨_, rfl⟩
  have hE0 : (envK (4 * 0)).sl (From wb.heap.size) w1 (.slice (some ⟨w.heap.size + 4, 0, none⟩) 1 1) [[]] := by
    have he := EnvM.made wb
    rw [hsb] at he
    have h1 : (envK (4 * 0)).is (From wb.heap.size) (wb.alloc (.map #[] 0)) [.map (some (w.heap.size + 3))] [] := ⟨_, rfl, by show wb.heap.size ≤ _; omega, he⟩
    have := Kind.own_one (ty := 118) (lo := wb.heap.size) h1 (by simp)
    have h2 := Kind.own_sl this (by simp)
    rw [World.size_alloc] at h2
    rw [hw1, show w.heap.size + 4 = wb.heap.size + 1 by omega]
    exact h2
  have hB1 : Below wb.heap.size wb w1 := by rw [hw1]; exact (((Later.refl wb).alloc _).alloc _).below
  have HE0 := hide hE0
  have HB1 := hide hB1
  rw [hwb] at hw1
  have HW1 := hide hw1
  generalize hM : metGo (pickB facts at_ other) 0 body [[]] = M at *
  have HM : Hid (M = metGo (pickB facts at_ other) 0 (body.drop 0) [[]]) := hM.symm
  have HM0 : Hid (M = metGo (pickB facts at_ other) 0 body [[]]) := hM.symm
  generalize pickB facts at_ other = pick at *
  clear hb hf ho hw hfs hos hat hfl hfS hol hoS hpl hpS hwb hLb hr0 hr1 hr2 hE0 hB1 hw1 hM
  go_enter Tryz.func49, Tryz.ntmps49
  go_wp2
  rw [← HW1.out]
  go_loopg [10, 33] body.length (fun g v10 i wr => ∃ j : Nat, j + g = body.length ∧ i = .int .i64 j ∧ ∃ ms : List (List BindD), Hid ((envK (4 * j)).sl (From wb.heap.size) wr v10 ms) ∧ ms.length ≤ 20000 ∧ Hid (M = metGo pick j (body.drop j) ms) ∧ Hid (Below wb.heap.size wb wr))
  case atStart => exact ⟨0, by omega, rfl, [[]], HE0, by simp, HM, HB1⟩
  case round =>
    clear HE0 HM HB1 HW1
    obtain ⟨j, hj, rfl, ms, HEs, hml, HM, HBr⟩ := hrel
    obtain ⟨ea, ec, hev⟩ := Kind.slice HEs.out
    subst hev
    by_cases hlt : j < body.length
    · obtain ⟨a, ha⟩ : ∃ a, body[j]? = some a := ⟨_, List.getElem?_eq_getElem hlt⟩
      have ham := List.mem_of_getElem? ha
      obtain ⟨hz1, hz2, hz3⟩ := atom_zero (HAt.out a ham)
      obtain ⟨b1, o1, _, rfl, hb1, ⟨tv, rfl, htv⟩, hc⟩ := Kind.sl_at HBd.out ha
      have d0 : wr.cell? ⟨b1, o1 + j * 3, none⟩ = some (.bool a.no) := by rw [HBr.out.cell (p := ⟨b1, o1 + j * 3, none⟩) hb1]; exact hc 0 _ rfl
      have d1 : wr.cell? ⟨b1, o1 + j * 3 + 1, none⟩ = some (.string (bs a.name)) := by rw [HBr.out.cell (p := ⟨b1, o1 + j * 3 + 1, none⟩) hb1]; exact hc 1 _ rfl
      have d2 : wr.cell? ⟨b1, o1 + j * 3 + 2, none⟩ = some tv := by rw [HBr.out.cell (p := ⟨b1, o1 + j * 3 + 2, none⟩) hb1]; exact hc 2 _ rfl
      obtain ⟨ta, tc, rfl⟩ := Kind.slice htv
      have hbr : b1 < wr.heap.size := Nat.lt_of_lt_of_le hb1 HBr.out.size
      obtain ⟨wa, hwa⟩ : ∃ wa, wa = wr.alloc (.cells #[.bool a.no, .string (bs a.name), .slice ta a.terms.length tc] 40) := ⟨_, rfl⟩
      have hLa : Later wr wa := by rw [hwa]; exact (Later.refl _).alloc _
      have hra : wa.heap[wr.heap.size]? = some (.cells #[.bool a.no, .string (bs a.name), .slice ta a.terms.length tc] 40 (0, 0)) := by rw [hwa]; exact heap_alloc_new wr _
      have hsa : wa.heap.size = wr.heap.size + 1 := by rw [hwa]; simp
      have hBa : Below wb.heap.size wb wa := below_trans HBr.out hLa.below HBr.out.size
      have hstep := metAt_step (pick := pick) (ms := ms) ha
      rw [← HM.out] at hstep
      have HTa := hide (Kind.sl_below htv hBa)
      have HEa := hide (Kind.sl_kept HEs.out hLa.size fun k hk _ => hLa.block hk)
      have HRa := hide hra
      have HBa := hide hBa
      have HWa := hide hwa
      have HTs : Hid (∀ t ∈ a.terms, t.2.length ≤ maxLen) := fun t ht => by have := term_short (hz3 t ht); unfold maxLen; omega
      clear hc ha ham hz1 hz3 htv hwa hLa hra hBa
      cases hno : a.no
      · rw [hno] at hstep d0
        rw [hno] at HRa HWa
        simp only [Bool.false_eq_true, if_false] at hstep
        have HStep := hide hstep
        obtain ⟨pa, pc, hPk⟩ := HPk.out j
        have HPj := hide hPk
        have hpl := HPl.out j
        have hps := HPS.out j
        have HPSj := hide hps
        clear hstep hPk hps
        generalize hnm : bs a.name = nm at *
        have HNm := hide hnm
        clear hnm
        go_wp2
        rw [← HWa.out]
        clear HWa d0 d1 d2 HEs HBr hbr hb1
        generalize hA : wr.heap.size = A at *
        clear hA
        go_loopg [14, 42] ms.length (fun g o i wr2 => ∃ p : Nat, p + g = ms.length ∧ i = .int .i64 p ∧ Hid ((envK (4 * j + 4)).own 118 wa.heap.size wr2 o (meetAllB a (pick j) (ms.take p))) ∧ Hid (Below wa.heap.size wa wr2))
        case atStart => exact ⟨0, by omega, rfl, Kind.own_nil _ _ _ _, Below.refl _ _⟩
        case round =>
          obtain ⟨p, hp, rfl, HO, HB2⟩ := hrel
          obtain ⟨oa', on', oc', hov⟩ : ∃ a n c, u14 = .slice a n c := by obtain ⟨a, c, e⟩ := Kind.own_slice HO.out; exact ⟨a, _, c, e⟩
          subst hov
          by_cases hlp : p < ms.length
          · obtain ⟨l, hl⟩ : ∃ l, ms[p]? = some l := ⟨_, List.getElem?_eq_getElem hlp⟩
            obtain ⟨b3, o3, _, e3, hb3, ⟨bl, rfl, _, hel⟩, hc3⟩ := Kind.sl_at HEa.out hl
            subst e3
            have d3 : wr.cell? ⟨b3, o3 + p, none⟩ = some (.map (some bl)) := by rw [HB2.out.cell (p := ⟨b3, o3 + p, none⟩) hb3]; simpa [envK] using hc3 0 _ rfl
            have hBb2 := below_trans HBa.out HB2.out HBa.out.size
            obtain ⟨hPc, _⟩ := HPj.out wr hBb2
            have HPc := hide hPc
            have HEl := hide hel
            have HTk := hide (meetAll_take (a := a) (fs := pick j) hl)
            have hml2 : (meetAllB a (pick j) (ms.take p)).length ≤ 200 * p := by
              have := meetAll_len (a := a) hpl (ms.take p)
              rw [List.length_take] at this; omega
            clear hc3 hl hel hPc hBb2
            go_wp2_with fail
            refine HPc.out.mono ?_
            rintro e w3 ⟨rfl, rfl⟩
            clear HPc
            go_wp2
            go_loopg [14, 50] (pick j).length (fun g o i wr3 => ∃ q : Nat, q + g = (pick j).length ∧ i = .int .i64 q ∧ Hid ((envK (4 * j + 4)).own 118 wa.heap.size wr3 o (meetAllB a (pick j) (ms.take p) ++ ((pick j).take q).filterMap fun f => meetB a f l)) ∧ Hid (Below wa.heap.size wa wr3))
            case atStart => exact ⟨0, by omega, rfl, (by show (envK _).own _ _ _ _ _; simpa using HO.out), HB2⟩
            case round =>
              clear HO HB2 d3
              obtain ⟨q, hq, rfl, HO, HB3⟩ := hrel
              obtain ⟨oa2, on2, oc2, hov⟩ : ∃ a n c, u14 = .slice a n c := by obtain ⟨a, c, e⟩ := Kind.own_slice HO.out; exact ⟨a, _, c, e⟩
              subst hov
              by_cases hlq : q < (pick j).length
              · have hBb3 := below_trans HBa.out HB3.out HBa.out.size
                obtain ⟨_, hPF⟩ := HPj.out wr hBb3
                obtain ⟨a', cap', e', _, hz⟩ := hPF.addr
                injection e' with e1 e2 e3
                subst e1
                subst e3
                rcases hz with hz | ⟨b4, o4, rfl⟩
                · rw [hz] at hlq; simp at hlq
                obtain ⟨hb4, ax, lx, cx, g1, g2, fx⟩ := hPF.at hlq
                obtain ⟨f, hfq⟩ : ∃ f, (pick j)[q]? = some f := ⟨_, List.getElem?_eq_getElem hlq⟩
                have hgd : (pick j).getD q noFact = f := by rw [List.getD_eq_getElem?_getD, hfq]; rfl
                rw [hgd] at g1 fx
                have HFl := hide (HPSj.out f (List.mem_of_getElem? hfq))
                have HFk := hide (filterMap_take (g := fun f => meetB a f l) hfq)
                have hfl2 : (((pick j).take q).filterMap fun f => meetB a f l).length ≤ q := by
                  have := List.length_filterMap_le (fun f => meetB a f l) ((pick j).take q)
                  rw [List.length_take] at this; omega
                have hrow : wr.heap[A]? = some (.cells #[.bool false, .string nm, .slice ta a.terms.length tc] 40 (0, 0)) := by
                  rw [HB3.out.block _ (by omega)]; exact HRa.out
                obtain ⟨wf, hwf⟩ : ∃ wf, wf = wr.alloc (.cells #[.string f.1, .slice ax lx cx] 54) := ⟨_, rfl⟩
                have hLf : Later wr wf := by rw [hwf]; exact (Later.refl _).alloc _
                have hsf : wf.heap.size = wr.heap.size + 1 := by rw [hwf]; simp
                have hwal : A < wr.heap.size := by have := HB3.out.size; omega
                have hBf := below_trans HB3.out hLf.below HB3.out.size
                have hrt := rTry a f l bl (4 * j) (.slice ta a.terms.length tc) (.agg #[.string f.1, .slice ax lx cx]) wf (Kind.sl_below HTa.out hBf) (fx.later hLf) (HEl.out.block (hBf.block bl HEl.out.lt)) hz2 (by omega) HTs.out HFl.out
                rw [hno, HNm.out] at hrt
                have HRT := hide hrt
                have k0 : wr.cell? ⟨A, 0, none⟩ = some (.bool false) := by rw [cell_of_row _ _ _ _ _ _ hrow]; rfl
                have k1 : wr.cell? ⟨A, 0 + 1, none⟩ = some (.string nm) := by rw [cell_of_row _ _ _ _ _ _ hrow]; rfl
                have k2 : wr.cell? ⟨A, 0 + 2, none⟩ = some (.slice ta a.terms.length tc) := by rw [cell_of_row _ _ _ _ _ _ hrow]; rfl
                have HWf := hide hwf
                have HBf := hide hBf
                have HOf := hide (Kind.own_kept HO.out (by omega : wr.heap.size ≤ wf.heap.size) fun k hk _ => hLf.block hk)
                clear hPF hgd hfq hrow hwf hLf hrt fx hBf hBb3 HO
                go_wp2_with fail
                rw [← HWf.out]
                refine HRT.out.mono ?_
                rintro e w6 ⟨hT6, hB6⟩
                have HB6 := hide (below_trans HBf.out hB6 HBf.out.size)
                have HO6 := hide (Kind.own_kept HOf.out hB6.size fun k hk _ => hB6.block k hk)
                have hs6 := hB6.size
                clear HRT hB6 HOf HBf HWf k0 k1 k2
                cases hm : meetB a f l with
                | none =>
                  rw [hm] at hT6
                  have he : e = .returned (.map none) := hT6
                  subst he
                  have HO7 : Hid ((envK (4 * j + 4)).own 118 wa.heap.size w6 (.slice oa2 on2 oc2) (meetAllB a (pick j) (ms.take p) ++ ((pick j).take (q + 1)).filterMap fun f => meetB a f l)) := by
                    show (envK _).own _ _ _ _ _
                    rw [HFk.out, hm]; simpa using HO6.out
                  have hnq : ∀ w : World, (binOp .neq 118 (.map none) (.map none)).run Tryz.prog w = .ok (.bool false) w := fun w => run_neq_map_nil w 118 9 9 none Tryz.underlying118
                  clear hm hT6 HO6 HFk
                  go_wp2
                  go_roundg ((pick j).length - (q + 1))
                  case measure => omega
                  case rel => exact ⟨q + 1, by omega, by go_num, HO7, HB6⟩
                | some l' =>
                  rw [hm] at hT6
                  obtain ⟨b6, he, hb6, hE6⟩ := hT6
                  subst he
                  obtain ⟨v', w7, hrun, hO7, hg7, hd7, _⟩ := appendEnv HO6.out hE6 (by have := HB3.out.size; omega) (by rw [List.length_append]; omega) HB6.out.size
                  have hlo : ∀ k, (Value.slice oa2 on2 oc2).ownBlock = some k → wa.heap.size ≤ k := fun k e => (Kind.own_lt HO6.out e).1
                  have hB7 : Below wa.heap.size wa w7 := (below_trans HB6.out ((Later.refl w6).alloc _).below HB6.out.size).grown hg7 (by have := HB6.out.size; simp; omega) (fun k e => hlo k e)
                  have HO7 : Hid ((envK (4 * j + 4)).own 118 wa.heap.size w7 v' (meetAllB a (pick j) (ms.take p) ++ ((pick j).take (q + 1)).filterMap fun f => meetB a f l)) := by
                    show (envK _).own _ _ _ _ _
                    rw [HFk.out, hm, ← List.append_assoc]; exact hO7
                  obtain ⟨a7, n7, c7, rfl⟩ : ∃ a n c, v' = .slice a n c := by obtain ⟨a, c, e⟩ := Kind.own_slice hO7; exact ⟨a, _, c, e⟩
                  have HRn := hide hrun
                  have hnq : ∀ w : World, (binOp .neq 118 (.map (some b6)) (.map none)).run Tryz.prog w = .ok (.bool true) w := fun w => run_neq_map_nil w 118 9 9 (some b6) Tryz.underlying118
                  have HB7 := hide hB7
                  clear hm hE6 hrun hO7 hg7 hd7 hlo hB7 HO6 HFk HB6
                  go_wp2_with (at_builtin; refine wpList_append_run rfl (.tmp 60) (.tmp 62) 84 rfl _ _ _ _ rfl rfl HRn.out ?_)
                  go_roundg ((pick j).length - (q + 1))
                  case measure => omega
                  case rel => exact ⟨q + 1, by omega, by go_num, HO7, HB7⟩
              · have hq' : (pick j).take q = pick j := List.take_of_length_le (by omega)
                have HO7 : Hid ((envK (4 * j + 4)).own 118 wa.heap.size wr (.slice oa2 on2 oc2) (meetAllB a (pick j) (ms.take (p + 1)))) := by
                  have h := HO.out
                  show (envK _).own _ _ _ _ _
                  rw [hq'] at h
                  rw [HTk.out]; exact h
                clear hq' HO
                go_wp2
                go_roundg (ms.length - (p + 1))
                case measure => omega
                case rel => exact ⟨p + 1, by omega, by go_num, HO7, HB3⟩
          · have hp' : ms.take p = ms := List.take_of_length_le (by omega)
            have hO := HO.out
            rw [hp'] at hO
            have hon : on' = (meetAllB a (pick j) ms).length := by
              obtain ⟨a, c, e⟩ := Kind.own_slice hO
              injection e
            have hBb := below_trans HBa.out HB2.out HBa.out.size
            have hl20 : (meetAllB a (pick j) ms).length ≤ 4000000 := by
              have := meetAll_len (a := a) hpl ms
              omega
            by_cases hbig : 20000 < (meetAllB a (pick j) ms).length
            · have hst := HStep.out
              rw [if_pos hbig] at hst
              have HN : Hid (M = none) := hst
              have hbz : (20000 : Int) < (on' : Int) := by omega
              have HBb := hide (below_trans HLb.out.below hBb HLb.out.size)
              clear hst hO hBb HO hp' HStep hon
              go_wp2
              exact bodyPost_ret (v := .tuple #[.slice none 0 0, .int .i64 4]) (by simp [results, Tryz.results49, go_sem]) rfl ⟨_, 4, rfl, by rw [HN.out]; exact ⟨rfl, rfl⟩, HBb.out⟩
            · have hst := HStep.out
              rw [if_neg hbig] at hst
              have HM' := hide hst
              have hbz : ¬ (20000 : Int) < (on' : Int) := by omega
              have hsl := Kind.own_sl hO (by omega)
              have HE' : Hid ((envK (4 * (j + 1))).sl (From wb.heap.size) wr (.slice oa' on' oc') (meetAllB a (pick j) ms)) := by
                have h := Kind.sl_mono hsl (B' := From wb.heap.size) fun k _ (hk : wa.heap.size ≤ k) => (by have := HBa.out.size; show wb.heap.size ≤ k; omega)
                rw [show 4 * (j + 1) = 4 * j + 4 by omega]
                exact h
              have HB' := hide hBb
              clear hst hO hsl hBb HO hp' HStep hon
              go_wp2
              go_roundg (body.length - (j + 1))
              case measure => omega
              case rel => exact ⟨j + 1, by omega, by go_num, _, HE', by omega, HM', HB'⟩
      · rw [hno] at hstep d0
        rw [hno] at HRa HWa
        simp only [if_true] at hstep
        have HM' := hide hstep
        have HE' : Hid ((envK (4 * (j + 1))).sl (From wb.heap.size) wa (.slice ea ms.length ec) ms) := envK_more HEa.out (by omega)
        rw [HWa.out] at HE'
        have HB' := HBa
        rw [HWa.out] at HB'
        clear hstep HEa HRa HTa HTs
        generalize bs a.name = nm at *
        go_wp2
        go_roundg (body.length - (j + 1))
        case measure => omega
        case rel => exact ⟨j + 1, by omega, by go_num, ms, HE', hml, HM', HB'⟩
    · have hm := HM.out
      rw [List.drop_eq_nil_of_le (by omega)] at hm
      have HMs : Hid (M = some ms) := hm
      have hj5 : 4 * j ≤ 20 := by omega
      have HE5 := hide (envK_more HEs.out hj5)
      have HFill : Hid (∀ l ∈ ms, ∀ a ∈ body, ∃ f, fillB a l = some f) := fun l hl a ha => by
        have hk := ((met_mem pick body 0 [[]] ms [] (fun x hx => by simp at hx; subst hx; rfl) (by rw [← HM0.out]; exact hm) l).1 hl).2.1
        exact fillB_some fun t ht htv => by rw [hk]; exact mem_map_bs.2 (HCov.out a ha t ht htv)
      clear hm HM HEs hj5
      obtain ⟨w5, hw5⟩ : ∃ w5, w5 = wr := ⟨_, rfl⟩
      rw [← hw5] at HE5 HBr ⊢
      clear hw5
      go_wp2
      go_loopg [20, 73] ms.length (fun g o i wr => ∃ p : Nat, p + g = ms.length ∧ i = .int .i64 p ∧ Hid ((envK 20).own 118 wb.heap.size wr o ((ms.take p).filter fun l => !barredB pick 0 body l)) ∧ Hid (∀ k, o.ownBlock = some k → w5.heap.size ≤ k) ∧ Hid (Below w5.heap.size w5 wr))
      case atStart => exact ⟨0, by omega, rfl, Kind.own_nil _ _ _ _, (fun k e => by cases e), Below.refl _ _⟩
      case round =>
        obtain ⟨p, hp, rfl, HO, HOk, HB5⟩ := hrel
        obtain ⟨oa', on', oc', hov⟩ : ∃ a n c, u20 = .slice a n c := by obtain ⟨a, c, e⟩ := Kind.own_slice HO.out; exact ⟨a, _, c, e⟩
        subst hov
        by_cases hlp : p < ms.length
        · obtain ⟨l, hl⟩ : ∃ l, ms[p]? = some l := ⟨_, List.getElem?_eq_getElem hlp⟩
          obtain ⟨b3, o3, _, e3, hb3, ⟨bl, rfl, hblo, hel⟩, hc3⟩ := Kind.sl_at HE5.out hl
          subst e3
          have d3 : wr.cell? ⟨b3, o3 + p, none⟩ = some (.map (some bl)) := by rw [HB5.out.cell (p := ⟨b3, o3 + p, none⟩) hb3]; simpa [envK] using hc3 0 _ rfl
          have HEl := hide (hel.block (HB5.out.block bl hel.lt))
          have HFl := hide (HFill.out l (List.mem_of_getElem? hl))
          have htk : ms.take (p + 1) = ms.take p ++ [l] := by rw [List.take_add_one, hl]; rfl
          have HTk := hide htk
          have hlen2 : ((ms.take p).filter fun l => !barredB pick 0 body l).length ≤ p := by
            have := List.length_filter_le (fun l => !barredB pick 0 body l) (ms.take p)
            rw [List.length_take] at this; omega
          clear hc3 hl hel htk
          obtain ⟨wx, hwx⟩ : ∃ wx, wx = wr := ⟨_, rfl⟩
          rw [← hwx] at HO HB5 d3 HEl ⊢
          clear hwx
          go_wp2
          go_loopg [23, 79] body.length (fun g q i wr2 => ∃ t : Nat, t + g = body.length ∧ i = .int .i64 t ∧ q = .bool (!barredB pick 0 (body.take t) l) ∧ Hid (Below wx.heap.size wx wr2))
          case atStart => exact ⟨0, by omega, rfl, rfl, Below.refl _ _⟩
          case round =>
            clear d3
            obtain ⟨t, ht, rfl, rfl, HBx⟩ := hrel
            have hB5r := below_trans HB5.out HBx.out HB5.out.size
            have hBbr := below_trans HBr.out hB5r HBr.out.size
            by_cases hltb : t < body.length
            · obtain ⟨a, ha⟩ : ∃ a, body[t]? = some a := ⟨_, List.getElem?_eq_getElem hltb⟩
              have ham := List.mem_of_getElem? ha
              obtain ⟨hz1, hz2, hz3⟩ := atom_zero (HAt.out a ham)
              obtain ⟨f, hfa⟩ := HFl.out a ham
              have hbt := barred_take (pick := pick) (l := l) body 0 t ha
              rw [hfa, Nat.zero_add] at hbt
              dsimp only at hbt
              obtain ⟨b1, o1, _, rfl, hb1, ⟨tv, rfl, htv⟩, hc⟩ := Kind.sl_at HBd.out ha
              have d0 : wr.cell? ⟨b1, o1 + t * 3, none⟩ = some (.bool a.no) := by rw [hBbr.cell (p := ⟨b1, o1 + t * 3, none⟩) hb1]; exact hc 0 _ rfl
              have d1 : wr.cell? ⟨b1, o1 + t * 3 + 1, none⟩ = some (.string (bs a.name)) := by rw [hBbr.cell (p := ⟨b1, o1 + t * 3 + 1, none⟩) hb1]; exact hc 1 _ rfl
              have d2 : wr.cell? ⟨b1, o1 + t * 3 + 2, none⟩ = some tv := by rw [hBbr.cell (p := ⟨b1, o1 + t * 3 + 2, none⟩) hb1]; exact hc 2 _ rfl
              obtain ⟨ta, tc, rfl⟩ := Kind.slice htv
              have hbr : b1 < wr.heap.size := Nat.lt_of_lt_of_le hb1 hBbr.size
              obtain ⟨wa, hwa⟩ : ∃ wa, wa = wr.alloc (.cells #[.bool a.no, .string (bs a.name), .slice ta a.terms.length tc] 40) := ⟨_, rfl⟩
              have hLa : Later wr wa := by rw [hwa]; exact (Later.refl _).alloc _
              have hBxa := below_trans HBx.out hLa.below HBx.out.size
              have HBxa := hide hBxa
              have HWa := hide hwa
              have HTm : Hid (∀ t ∈ a.terms, t.2.length ≤ maxLen) := fun t ht => by have := term_short (hz3 t ht); unfold maxLen; omega
              have HBn := hide hbt
              have hRF := rFill4 a (.slice ta a.terms.length tc) l bl 20 wa (Kind.sl_below htv (below_trans hBbr hLa.below hBbr.size)) (HEl.out.block (hBxa.block bl HEl.out.lt)) HTm.out
              unfold filled at hRF
              rw [hfa] at hRF
              have HRF := hide hRF
              clear hc ha ham hz1 hz2 hz3 htv hwa hLa hBxa hbt hRF hfa
              generalize bs a.name = nm at *
              cases hno : a.no
              · have HQ : Hid ((!barredB pick 0 (body.take (t + 1)) l) = !barredB pick 0 (body.take t) l) := by show _ = _; rw [HBn.out, hno]; simp
                rw [hno] at d0 HWa
                rw [HWa.out] at HBxa
                clear HBn HRF
                go_wp2
                go_roundg (body.length - (t + 1))
                case measure => omega
                case rel => exact ⟨t + 1, by omega, by go_num, by rw [HQ.out], HBxa⟩
              · cases hq : barredB pick 0 (body.take t) l
                · have HQ : Hid ((!barredB pick 0 (body.take (t + 1)) l) = !inB (pick t) f) := by show _ = _; rw [HBn.out, hq, hno]; simp
                  rw [hno] at d0 HWa
                  have HRF' := HRF
                  rw [hno] at HRF'
                  obtain ⟨pa, pc, hPk⟩ := HPk.out t
                  have HPj := hide hPk
                  have HBbr := hide hBbr
                  have HB5r := hide hB5r
                  clear HBn HRF hPk hBbr hB5r hq
                  go_wp2_with fail
                  rw [← HWa.out]
                  refine HRF'.out.mono ?_
                  rintro e w6 ⟨v6, rfl, hfv, hL6⟩
                  simp only [Option.isSome_some, Option.getD_some] at hfv ⊢
                  have hfv' := hfv
                  obtain ⟨s6, rfl, hs6⟩ := hfv
                  obtain ⟨sA, sC, rfl⟩ := sliceStr hs6
                  obtain ⟨wz, hwz⟩ : ∃ wz, wz = w6.alloc (.cells #[.string f.1, .slice sA f.2.length sC] 54) := ⟨_, rfl⟩
                  have hLz : Later w6 wz := by rw [hwz]; exact (Later.refl _).alloc _
                  have hrz : wz.heap[w6.heap.size]? = some (.cells #[.string f.1, .slice sA f.2.length sC] 54 (0, 0)) := by rw [hwz]; exact heap_alloc_new w6 _
                  have hltz : w6.heap.size < wz.heap.size := (Array.getElem?_eq_some_iff.1 hrz).1
                  have hBz : Below wx.heap.size wx wz := below_trans HBxa.out (hL6.trans hLz).below HBxa.out.size
                  have hBbz : Below wb.heap.size wb wz := below_trans HBr.out (below_trans HB5.out hBz HB5.out.size) HBr.out.size
                  have HCz : Hid (∀ w', Later wz w' → w'.cell? ⟨w6.heap.size, 0, none⟩ = some (.string f.1) ∧ w'.cell? ⟨w6.heap.size, 0 + 1, none⟩ = some (.slice sA f.2.length sC)) := fun w' hL =>
                    ⟨by rw [hL.cell (p := ⟨w6.heap.size, 0, none⟩) hltz, cell_of_row _ _ _ _ _ _ hrz]; rfl, by rw [hL.cell (p := ⟨w6.heap.size, 0 + 1, none⟩) hltz, cell_of_row _ _ _ _ _ _ hrz]; rfl⟩
                  have HPz : Hid (∀ w', Later wz w' → Calls Tryz.prog 81 #[.int .i64 (t : Int), .pointer (some ⟨w.heap.size + 1, 0, none⟩), .pointer (some ⟨w.heap.size + 2, 0, none⟩), .pointer (some ⟨w.heap.size, 0, none⟩)] w' (fun e w'' => e = .returned (.slice pa (pick t).length pc) ∧ w'' = w')) := fun w' hL => (HPj.out w' (below_trans hBbz hL.below hBbz.size)).1
                  have HIz : Hid (∀ w', Later wz w' → Calls Tryz.prog 84 #[.slice pa (pick t).length pc, .agg #[.string f.1, .slice sA f.2.length sC]] w' fun e w'' => e = .returned (.bool (inB (pick t) f)) ∧ Later w' w'') := fun w' hL => by
                    have := rIn (.slice pa (pick t).length pc) (.agg #[.string f.1, .slice sA f.2.length sC]) (pick t) f w' (HPj.out w' (below_trans hBbz hL.below hBbz.size)).2 ((hfv'.later hLz).later hL)
                    rw [in_eq] at this
                    exact this
                  have HBz := hide hBz
                  have HWz := hide hwz
                  clear hs6 hL6 hfv' hwz hLz hrz hBz hBbz HRF' HWa HBxa
                  generalize hib : inB (pick t) f = ib at *
                  clear hib
                  go_wp2
                  rw [← HWz.out]
                  clear HWz d0 d1 d2
                  refine wp_region_held_drew (S := fun w' => Later wz w') (by kernel_rfl) (Later.refl wz).drew (fun hHeld => ?_)
                  refine take_at (i := 0) (d := some 95) (v := ?_) rfl rfl (by kernel_rfl) (by kernel_rfl) (by kernel_rfl) (fun _ _ _ h => h) (Or.inl ⟨by rfl, ?_⟩) hHeld ?_
                  rotate_left
                  · intro w hSw; (try dsimp only at hSw);  go_simp; try with_reducible rfl
                  simp only [Act.put, List.setIfInBounds_toArray, List.set_cons_zero, List.set_cons_succ]
                  refine take_at (i := 1) (d := some 96) (v := ?_) rfl rfl (by kernel_rfl) (by kernel_rfl) (by kernel_rfl) (fun _ _ _ h => h) (Or.inl ⟨by rfl, ?_⟩) hHeld ?_
                  rotate_left
                  · intro w hSw; (try dsimp only at hSw);  go_simp; try with_reducible rfl
                  simp only [Act.put, List.setIfInBounds_toArray, List.set_cons_zero, List.set_cons_succ]
                  refine take_at (i := 3) (d := some 98) (v := ?_) rfl rfl (by kernel_rfl) (by kernel_rfl) (by kernel_rfl) (fun _ _ _ h => h) (Or.inl ⟨by rfl, ?_⟩) hHeld ?_
                  rotate_left
                  · intro w hSw; (try dsimp only at hSw); obtain ⟨q0, q1⟩ := HCz.out w hSw; go_simp; try with_reducible rfl
                  simp only [Act.put, List.setIfInBounds_toArray, List.set_cons_zero, List.set_cons_succ]
                  refine wpAnyH_ready (rs := [2]) (by kernel_rfl) (by simp) ?_
                  refine AllReadyH.cons rfl (fun K hK => ?_) AllReadyH.nil
                  go_simp
                  refine (HPz.out _ hHeld).mono ?_
                  rintro e y1 ⟨rfl, rfl⟩
                  dsimp only
                  refine hK.out _ _ hHeld (fun hHeld => ?_)
                  clear hK K
                  refine wpAnyH_ready (rs := [4]) (by kernel_rfl) (by simp) ?_
                  refine AllReadyH.cons rfl (fun K hK => ?_) AllReadyH.nil
                  go_simp
                  refine (HIz.out _ hHeld).mono ?_
                  rintro e y2 ⟨rfl, hL2⟩
                  dsimp only
                  refine hK.out _ _ (hHeld.trans hL2) (fun hHeld => ?_)
                  clear hK K
                  refine take_at (i := 5) (d := some 100) (v := ?_) rfl rfl (by kernel_rfl) (by kernel_rfl) (by kernel_rfl) (fun _ _ _ h => h) (Or.inl ⟨by rfl, ?_⟩) hHeld ?_
                  rotate_left
                  · intro w hSw; (try dsimp only at hSw);  go_simp; try with_reducible rfl
                  simp only [Act.put, List.setIfInBounds_toArray, List.set_cons_zero, List.set_cons_succ]
                  refine take_at (i := 6) (d := some 23) (v := ?_) rfl rfl (by kernel_rfl) (by kernel_rfl) (by kernel_rfl) (fun _ _ _ h => h) (Or.inl ⟨by rfl, ?_⟩) hHeld ?_
                  rotate_left
                  · intro w hSw; (try dsimp only at hSw);  go_simp; try with_reducible rfl
                  simp only [Act.put, List.setIfInBounds_toArray, List.set_cons_zero, List.set_cons_succ]
                  refine wpAnyH_done (by kernel_rfl) ?_ _
                  have HBy := hide (below_trans HBz.out hHeld.below HBz.out.size)
                  clear hHeld hL2 HBz HCz HPz HIz
                  go_wp2
                  go_roundg (body.length - (t + 1))
                  case measure => omega
                  case rel => exact ⟨t + 1, by omega, by go_num, by rw [HQ.out], HBy⟩
                · have HQ : Hid ((!barredB pick 0 (body.take (t + 1)) l) = false) := by show _ = _; rw [HBn.out, hq]; simp
                  rw [hno] at d0 HWa
                  rw [HWa.out] at HBxa
                  clear HBn HRF
                  go_wp2
                  go_roundg (body.length - (t + 1))
                  case measure => omega
                  case rel => exact ⟨t + 1, by omega, by go_num, by rw [HQ.out]; rfl, HBxa⟩
            · have htb : body.take t = body := List.take_of_length_le (by omega)
              rw [htb]
              have HOr := hide (Kind.own_kept HO.out HBx.out.size fun k hk _ => HBx.out.block k hk)
              have HElr := hide (HEl.out.block (HBx.out.block bl HEl.out.lt))
              have HB5r := hide hB5r
              have hsx := HBx.out.size
              have hs5 := HB5.out.size
              clear hB5r hBbr htb
              cases hq : barredB pick 0 body l
              · obtain ⟨v', w7, hrun, hO7, hg7, hd7, hv7⟩ := appendEnv HOr.out HElr.out hblo (by omega) (by have := HBr.out.size; omega)
                have HO7 : Hid ((envK 20).own 118 wb.heap.size w7 v' ((ms.take (p + 1)).filter fun l => !barredB pick 0 body l)) := by
                  show (envK _).own _ _ _ _ _
                  rw [HTk.out, List.filter_append]
                  simp only [List.filter_cons, hq, Bool.not_false, if_true, List.filter_nil]
                  exact hO7
                have HOk7 : Hid (∀ k, v'.ownBlock = some k → w5.heap.size ≤ k) := fun k e => by
                  rcases hv7 k e with h | h
                  · exact HOk.out k h
                  · omega
                have hB7 : Below w5.heap.size w5 w7 := (below_trans HB5r.out ((Later.refl wr).alloc _).below HB5r.out.size).grown hg7 (by simp; omega) (fun k e => HOk.out k e)
                obtain ⟨a7, n7, c7, rfl⟩ : ∃ a n c, v' = .slice a n c := by obtain ⟨a, c, e⟩ := Kind.own_slice hO7; exact ⟨a, _, c, e⟩
                have HRn := hide hrun
                have HB7 := hide hB7
                clear hq hrun hO7 hg7 hd7 hv7 hB7 HOr HElr HB5r HO HBx
                go_wp2_with (at_builtin; refine wpList_append_run rfl (.tmp 103) (.tmp 105) 84 rfl _ _ _ _ rfl rfl HRn.out ?_)
                go_roundg (ms.length - (p + 1))
                case measure => omega
                case rel => exact ⟨p + 1, by omega, by go_num, HO7, HOk7, HB7⟩
              · have HO7 : Hid ((envK 20).own 118 wb.heap.size wr (.slice oa' on' oc') ((ms.take (p + 1)).filter fun l => !barredB pick 0 body l)) := by
                  show (envK _).own _ _ _ _ _
                  rw [HTk.out, List.filter_append]
                  simp only [List.filter_cons, hq, Bool.not_true, Bool.false_eq_true, if_false, List.filter_nil, List.append_nil]
                  exact HOr.out
                clear hq HOr HElr HO HBx
                go_wp2
                go_roundg (ms.length - (p + 1))
                case measure => omega
                case rel => exact ⟨p + 1, by omega, by go_num, HO7, HOk, HB5r⟩
        · have hp' : ms.take p = ms := List.take_of_length_le (by omega)
          have hO := HO.out
          rw [hp'] at hO
          have hlen2 : (ms.filter fun l => !barredB pick 0 body l).length ≤ 20000 := Nat.le_trans (List.length_filter_le _ _) hml
          have HS := hide (Kind.sl_any (Kind.own_sl hO (by omega)))
          have HBw := hide (below_trans HLb.out.below (below_trans HBr.out HB5.out HBr.out.size) HLb.out.size)
          clear hO hp' HO HOk
          go_wp2
          exact bodyPost_ret (v := .tuple #[.slice oa' on' oc', .int .i64 0]) (by simp [results, Tryz.results49, go_sem]) rfl ⟨_, 0, rfl, by rw [HMs.out]; exact ⟨rfl, HS.out⟩, HBw.out⟩

end Go.Proofs.YtbohggoeebhdmaaGreatDoor
