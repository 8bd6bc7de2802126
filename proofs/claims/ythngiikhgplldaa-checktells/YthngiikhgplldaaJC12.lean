/- Texts of this claim, one behind the other. -/
import Derived.Test.YthngiikhgplldaaJC11
import Derived.RegionTactic
import Derived.ChangeAlike
import Derived.Test.YthngiikhgplldaaJC10
import Derived.Test.YthngiikhgplldaaRows
import Derived.WalkKit
import Derived.Laws.StructEq
/- The walks of check's each and Strata. -/
namespace Go.Proofs.Ythngiikhgplldaa
open Go.RowKit Go.Sort Go.Maps

/-- A number lies in one cell. -/
def intK : Kind Nat where
  size := 1
  is := fun _ _ c n => c = [.int .i64 (n : Int)]
  len := fun h => by subst h; rfl
  one := fun h u hu => by subst h; simp at hu; subst hu; rfl
  kept := fun h _ _ => h
  mono := fun h _ => h

theorem infoInt : ∃ i, Try.prog.info? 3 = some i ∧ i.zero = some (.int .i64 0) ∧ i.size = 1 ∧ i.bytes = 8 := ⟨Try.t3, by kernel_rfl, by kernel_rfl, by kernel_rfl, by kernel_rfl⟩

theorem appendIntC {lo : Nat} {w : World} {v : Value} {l : List Nat} (h : intK.own 3 lo w v l) {x : Nat} (hl : l.length + 1 ≤ 1099511627776) (hlo : lo ≤ w.heap.size) :
    ∃ v' w', (Builtin.append_ #[37, 37] 37 #[v, .slice (some ⟨w.heap.size, 0, none⟩) 1 1]).run Try.prog (w.alloc (.cells #[.int .i64 (x : Int)] 3)) = .ok v' w' ∧ intK.own 3 lo w' v' (l ++ [x]) ∧ (w.alloc (.cells #[.int .i64 (x : Int)] 3)).grownBy w' v.ownBlock := by
  obtain ⟨i, i1, i2, i3, i4⟩ := infoInt
  exact Kind.own_append h Try.underlying37 i1 i2 i3 i4 rfl (by decide) (by decide) (c := [.int .i64 (x : Int)]) rfl hl hlo

theorem each_step {p : List RuleD} {j : Nat} {r : RuleD} (h : p[j]? = some r) (m : Nums) : each m (p.take (j + 1)) = each m (p.take j) ++ [numOf m r.head.name] := by
  rw [List.take_add_one, h]; simp [each]

set_option maxRecDepth 100000 in
set_option maxHeartbeats 2000000 in
theorem eachC (b n : Nat) (m : Nums) (p : List RuleD) (v : Value) (w : World) (h : NumsM w b n m) (hv : ruleK.sl Anyw w v p) (hf : ∀ r ∈ p, fineR r) (hp : p.length ≤ 16) :
    Calls Try.prog 22 #[.map (some b), v] w fun e w' => ∃ u, e = .returned u ∧ intK.own 3 w.heap.size w' u (each m p) ∧ Below w.heap.size w w' := by
  obtain ⟨sa, cap, rfl⟩ := Kind.slice hv
  have HV := hide hv
  have HF := hide hf
  have H0 := hide h
  have hbw := h.lt
  clear hv hf h
  go_enter Try.func22, Try.ntmps22
  go_wp2
  go_loopg [5, 10] p.length (fun k o i wr => ∃ j : Nat, j + k = p.length ∧ i = .int .i64 j ∧ Hid (intK.own 3 w.heap.size wr o (each m (p.take j))) ∧ Hid (Below w.heap.size w wr))
  case atStart => exact ⟨0, by omega, rfl, intK.own_nil _ _ _, Below.refl _ _⟩
  case round =>
    obtain ⟨j, hj, rfl, HO, HB⟩ := hrel
    obtain ⟨ao, co, rfl⟩ := Kind.own_slice HO.out
    have hwr := HB.out.size
    by_cases hlt : j < p.length
    · obtain ⟨r, hr⟩ : ∃ x, p[j]? = some x := ⟨_, List.getElem?_eq_getElem hlt⟩
      obtain ⟨b1, o1, _, rfl, hb1, ⟨sv, su, rfl, hsv, hsu⟩, hcl⟩ := Kind.sl_at HV.out hr
      have d0 : wr.cell? ⟨b1, o1 + j * 4, none⟩ = some (.bool r.head.no) := by rw [HB.out.cell hb1]; exact hcl 0 _ rfl
      have d1 : wr.cell? ⟨b1, o1 + j * 4 + 1, none⟩ = some (.string (bs r.head.name)) := by rw [HB.out.cell hb1]; exact hcl 1 _ rfl
      have d2 : wr.cell? ⟨b1, o1 + j * 4 + 2, none⟩ = some sv := by rw [HB.out.cell hb1]; exact hcl 2 _ rfl
      have d3 : wr.cell? ⟨b1, o1 + j * 4 + 3, none⟩ = some su := by rw [HB.out.cell hb1]; exact hcl 3 _ rfl
      have hbr : b1 < wr.heap.size := by omega
      have E := hide (each_step hr m)
      have hlen : (each m (p.take j)).length = j := by simp [each]; omega
      have f1 := (HF.out r (List.mem_of_getElem? hr)).1
      have hlk := hide (NumM.look (T := 57) ((H0.out.below HB.out).later ((Later.refl wr).alloc (.cells #[.bool r.head.no, .string (bs r.head.name), sv, su] 33))) Try.underlying9 Try.underlying3 Try.underlying57 (zeroInt _) f1)
      have hOA := Kind.own_turned HO.out ((Tn.refl b wr).alloc (.cells #[.bool r.head.no, .string (bs r.head.name), sv, su] 33)) hbw
      obtain ⟨v', w4, hrun, o4, g4⟩ := appendIntC hOA (x := numOf m r.head.name) (by rw [hlen]; omega) (by simp; omega)
      have HO4 : Hid (intK.own 3 w.heap.size w4 v' (each m (p.take (j + 1)))) := by show intK.own _ _ _ _ _; rw [E.out]; exact o4
      have HB4 : Hid (Below w.heap.size w w4) := by
        refine below_trans ((HB.out.alloc hwr _).alloc (by simp; omega) _) ⟨g4.os, g4.tape, g4.output, g4.size, fun k hk => g4.block k (by simp; omega) (fun e => ?_)⟩ (Nat.le_refl _)
        have := (Kind.own_lt hOA e.symm).1
        omega
      rw [hlen] at hrun
      simp only [World.size_alloc] at hrun
      replace hrun := hide hrun
      rw [hlen]
      obtain ⟨a2, c2, rfl⟩ := Kind.slice hsv
      obtain ⟨a3, c3, rfl⟩ := Kind.slice hsu
      clear hcl hr hsv hsu hOA o4 g4 HO HB E f1
      clear hlen
      generalize numOf m r.head.name = nu at *
      generalize bs r.head.name = nm at *
      generalize r.head.no = no at *
      go_wp2_with (first
        | (at_lookup; refine wpList_run_lookup _ rfl _ _ _ _ rfl _ _ _ rfl rfl (unhide hlk) ?_)
        | (at_builtin; refine wpList_append_run rfl (.tmp 14) (.tmp 20) 37 rfl _ _ _ _ rfl rfl (unhide hrun) ?_)
        | go_in)
      go_roundg (p.length - (j + 1))
      case measure => omega
      case rel => exact ⟨j + 1, by omega, by go_num, HO4, HB4⟩
    · have e : j = p.length := by omega
      subst e
      have HO2 : Hid (intK.own 3 w.heap.size wr (.slice ao (each m (p.take p.length)).length co) (each m p)) := by have := HO.out; rw [List.take_length] at this ⊢; exact this
      go_wp2
      go_ret
      exact ⟨_, rfl, HO2.out, HB.out⟩

theorem wrongGo_fine (l : List RuleD) : ∀ (m : Nums) (i : Nat), (wrongGo m i l).1 = 0 → ∀ r ∈ l, fineR r := by
  induction l with
  | nil => intro m i _ r hr; cases hr
  | cons q l ih =>
    intro m i h r hr
    unfold wrongGo at h
    split at h
    · rename_i h0
      rcases List.mem_cons.1 hr with rfl | hr
      · unfold wrongRule at h0
        split at h0
        · rename_i h1
          split at h0
          · cases h0
          · split at h0
            · rename_i h2
              obtain ⟨k1, k2⟩ := wrongBody_zero h2
              exact ⟨short_max (wrongAtom_zero h1).1, k1, fun a ha => short_max (wrongAtom_zero (k2 a ha)).1⟩
            · rename_i h2; exact absurd h0 h2
        · rename_i h1; exact absurd h0 h1
      · exact ih _ _ h r hr
    · rename_i h0; exact absurd h h0
theorem wrongP_fine {p : List RuleD} (h : (wrongP p).1 = 0) : p.length ≤ 16 ∧ ∀ r ∈ p, fineR r := by
  unfold wrongP at h
  split at h
  · cases h
  · exact ⟨by omega, wrongGo_fine p _ _ h⟩

theorem startGo_step {p : List RuleD} {j : Nat} {r : RuleD} (h : p[j]? = some r) (m : Nums) : startGo m (p.take (j + 1)) = (startGo m (p.take j)).put r.head.name 0 := by
  rw [List.take_add_one, h]; simp [startGo, List.foldl_append]

theorem Kind.sl_setCell {α : Type} {K : Kind α} {lo R i : Nat} {w : World} {v : Value} {l : List α} (h : K.sl (From lo) w v l) (hR : R < lo) (x : Value) : K.sl (From lo) (w.setCell ⟨R, i, none⟩ x) v l :=
  Kind.sl_kept h (by rw [size_setCell]; exact Nat.le_refl _) fun k _ hB => heap_setCell_other _ _ _ (by have : lo ≤ k := hB; show k ≠ R; omega)

set_option maxRecDepth 100000 in
set_option maxHeartbeats 4000000 in
theorem strataC (p : List RuleD) (v : Value) (w : World) (hv : ruleK.sl Anyw w v p) :
    Calls Try.prog 10 #[v] w fun e w' => ∃ u, e = .returned (.tuple #[u, .agg #[.int .i64 (strataP p).2.1, .int .i64 ((strataP p).2.2 : Nat)]]) ∧ intK.sl (From w.heap.size) w' u (strataP p).1 ∧ Below w.heap.size w w' := by
  obtain ⟨sa, cap, rfl⟩ := Kind.slice hv
  have HV := hide hv
  have hl0 := hv.1.1
  have HW : Hid (Calls Try.prog 4 #[.slice sa p.length cap] (w.alloc (.cells #[.int .i64 0, .int .i64 0] 26)) fun e w2 => e = .returned (.agg #[.int .i64 (wrongP p).1, .int .i64 ((wrongP p).2 : Nat)]) ∧ Hid (Below w.heap.size w w2) ∧ w2.heap[w.heap.size]? = some (.cells #[.int .i64 0, .int .i64 0] 26 (0, 0)) ∧ w.heap.size < w2.heap.size) :=
    (wrongC p _ _ (Kind.sl_below hv ((Later.refl w).alloc _).below)).mono fun e w2 ⟨he, hb⟩ => ⟨he, below_trans ((Later.refl w).alloc _).below hb (by simp), by rw [hb.block w.heap.size (by simp), heap_alloc_new], by have := hb.size; simp at this; omega⟩
  clear hv
  have hmm := @run_makeMap Try.prog
  generalize hwp : wrongP p = wp at *
  obtain ⟨ex, ea⟩ := wp
  dsimp only at *
  by_cases h0 : ex = 0
  · subst h0
    obtain ⟨hp16, hfine⟩ := wrongP_fine (p := p) (by rw [hwp])
    have HFi := hide hfine
    have F : Hid (strataP p = match strataGo p (p.length + 1) (start p) with | some m => (each m p, 0, 0) | none => ([], 10, 0)) := by
      show _ = _
      unfold strataP
      rw [hwp, if_pos rfl]
      cases strataGo p (p.length + 1) (start p) <;> rfl
    clear hwp hfine
    go_enter Try.func10, Try.ntmps10
    go_wp2_with (go_at_call 4; refine HW.out.mono ?_; rintro e w2 ⟨rfl, hB2, hR2, hs2⟩; replace hR2 := hide hR2)
    have hwz := hB2.out.size
    go_loopg [17] p.length (fun k i wr => ∃ j : Nat, j + k = p.length ∧ i = .int .i64 j ∧ Hid (NumsM wr (w2.heap.size + 1) j (startGo (fun _ => none) (p.take j))) ∧ Hid (Below w.heap.size w wr) ∧ Hid (wr.heap[w.heap.size]? = some (.cells #[.int .i64 0, .int .i64 0] 26 (0, 0))) ∧ w2.heap.size + 2 ≤ wr.heap.size)
    case atStart =>
      refine ⟨0, by omega, rfl, ?_, ?_, ?_, by simp⟩
      · have := NumM.made Try.prog 9 3 (w2.alloc (.cells #[.int .i64 0, .int .i64 (ea : Int)] 26))
        rw [World.size_alloc] at this
        exact this
      · exact (hB2.out.alloc hwz _).alloc (by simp; omega) _
      · show _ = _
        rw [Below.heap_alloc _ _ _ (by simp; omega), Below.heap_alloc _ _ _ hs2]
        exact unhide hR2
    case round =>
      obtain ⟨j, hj, rfl, HM, HB, HR, hsz⟩ := hrel
      clear hB2 hR2
      by_cases hlt : j < p.length
      · obtain ⟨r, hr⟩ : ∃ x, p[j]? = some x := ⟨_, List.getElem?_eq_getElem hlt⟩
        obtain ⟨b1, o1, _, rfl, hb1, ⟨sv, su, rfl, hsv, hsu⟩, hcl⟩ := Kind.sl_at HV.out hr
        have d0 : wr.cell? ⟨b1, o1 + j * 4, none⟩ = some (.bool r.head.no) := by rw [HB.out.cell hb1]; exact hcl 0 _ rfl
        have d1 : wr.cell? ⟨b1, o1 + j * 4 + 1, none⟩ = some (.string (bs r.head.name)) := by rw [HB.out.cell hb1]; exact hcl 1 _ rfl
        have d2 : wr.cell? ⟨b1, o1 + j * 4 + 2, none⟩ = some sv := by rw [HB.out.cell hb1]; exact hcl 2 _ rfl
        have d3 : wr.cell? ⟨b1, o1 + j * 4 + 3, none⟩ = some su := by rw [HB.out.cell hb1]; exact hcl 3 _ rfl
        have hbr : b1 < wr.heap.size := by omega
        have E := hide (startGo_step hr (fun _ => none))
        have f1 := (HFi.out r (List.mem_of_getElem? hr)).1
        obtain ⟨w4, hup, hM4, hg⟩ := NumM.store (T := 57) (HM.out.later ((Later.refl wr).alloc (.cells #[.bool r.head.no, .string (bs r.head.name), sv, su] 33))) Try.underlying9 Try.underlying3 Try.underlying57 (by simp [maxLen]; omega) f1 (x := 0) (wf_len (by omega))
        have hgs := hg.size
        simp only [World.size_alloc] at hgs
        have HM4 : Hid (NumsM w4 (w2.heap.size + 1) (j + 1) (startGo (fun _ => none) (p.take (j + 1)))) := by show NumsM _ _ _ _; rw [E.out]; exact hM4
        have HB4 : Hid (Below w.heap.size w w4) := below_trans (HB.out.alloc HB.out.size _) ((Tn.of_grown hg).below (n := w.heap.size) (by omega) (by simp; omega)) (Nat.le_refl _)
        have HR4 : Hid (w4.heap[w.heap.size]? = some (.cells #[.int .i64 0, .int .i64 0] 26 (0, 0))) := by
          show _ = _
          rw [(Tn.of_grown hg).block w.heap.size (by simp; omega) (by omega), Below.heap_alloc _ _ _ (by omega)]
          exact HR.out
        have hs4 : w2.heap.size + 2 ≤ w4.heap.size := by omega
        have hup2 : Hid ((Instr.mapUpdate 57 (.map (some (w2.heap.size + 1))) (.string (bs r.head.name)) (.int .i64 0)).run Try.prog (wr.alloc (.cells #[.bool r.head.no, .string (bs r.head.name), sv, su] 33)) = .ok () w4) := hup
        obtain ⟨a2, c2, rfl⟩ := Kind.slice hsv
        obtain ⟨a3, c3, rfl⟩ := Kind.slice hsu
        clear hcl hr hsv hsu hM4 hg hup HM HB HR E f1 hgs
        generalize bs r.head.name = nm at *
        generalize r.head.no = no at *
        go_wp2_with (first
          | (at_mapUpdate; refine wpList_run_update _ rfl _ _ _ _ rfl _ _ _ _ rfl rfl rfl (unhide hup2) ?_)
          | go_in)
        go_roundg (p.length - (j + 1))
        case measure => omega
        case rel => exact ⟨j + 1, by omega, by go_num, HM4, HB4, HR4, hs4⟩
      · have e : j = p.length := by omega
        subst e
        have HM2 : Hid (NumsM wr (w2.heap.size + 1) (16 + 80 * 0) (start p)) := by have := HM.out; rw [List.take_length] at this; exact this.mono (by omega)
        have HN2 : Hid (∀ s, numOf (start p) s ≤ 80 * 0) := fun s => by rw [start_zero]; exact Nat.zero_le _
        clear HM
        go_wp2
        go_loopg [29] (p.length + 1) (fun k i wr2 => ∃ t : Nat, t + k = p.length + 1 ∧ i = .int .i64 t ∧ ∃ m, Hid (strataGo p (p.length + 1) (start p) = strataGo p k m) ∧ Hid (NumsM wr2 (w2.heap.size + 1) (16 + 80 * t) m) ∧ Hid (∀ s, numOf m s ≤ 80 * t) ∧ Hid (Below w.heap.size w wr2) ∧ Hid (wr2.heap[w.heap.size]? = some (.cells #[.int .i64 0, .int .i64 0] 26 (0, 0))) ∧ w2.heap.size + 2 ≤ wr2.heap.size)
        case atStart => exact ⟨0, by omega, rfl, start p, (rfl : _ = _), HM2, HN2, HB, HR, hsz⟩
        case round =>
          obtain ⟨t, ht, rfl, m, HE, HMt, HNt, HBt, HRt, hst⟩ := hrel
          clear HM2 HN2 HB HR hsz
          by_cases hlt : t < p.length + 1
          · obtain ⟨k, rfl⟩ : ∃ k', gk = k' + 1 := ⟨p.length - t, by omega⟩
            have HL : Hid (Calls Try.prog 21 #[.map (some (w2.heap.size + 1)), .slice sa p.length cap] wr fun e w5 => e = .returned (.bool (liftAll (m, false) p).2) ∧ Hid (NumsM w5 (w2.heap.size + 1) (16 + 80 * (t + 1)) (liftAll (m, false) p).1) ∧ Hid (∀ s, numOf (liftAll (m, false) p).1 s ≤ 80 * (t + 1)) ∧ Hid (Below w.heap.size w w5) ∧ Hid (w5.heap[w.heap.size]? = some (.cells #[.int .i64 0, .int .i64 0] 26 (0, 0))) ∧ w2.heap.size + 2 ≤ w5.heap.size) :=
              (liftedC _ _ (80 * t) m p _ wr HMt.out (Kind.sl_neBelow HV.out HBt.out (by omega)) HFi.out hp16 HNt.out (by omega) (by omega)).mono fun e w5 ⟨he, h1, h2, h3⟩ =>
                ⟨he, h1.mono (by omega), fun s => by have := h3 s; omega, below_trans HBt.out (h2.below (n := w.heap.size) (by omega) (by omega)) (Nat.le_refl _), by show _ = _; rw [h2.block w.heap.size (by omega) (by omega)]; exact HRt.out, by have := h2.size; omega⟩
            have hgo : strataGo p (k + 1) m = if (liftAll (m, false) p).2 then strataGo p k (liftAll (m, false) p).1 else some (liftAll (m, false) p).1 := rfl
            clear HMt HNt HBt HRt
            generalize liftAll (m, false) p = la at *
            obtain ⟨m2, lb⟩ := la
            dsimp only at *
            cases lb
            · have F2 : Hid (strataP p = (each m2 p, 0, 0)) := by show _ = _; rw [F.out, HE.out, hgo]; rfl
              have HEa : Hid (∀ w5, Hid (NumsM w5 (w2.heap.size + 1) (16 + 80 * (t + 1)) m2) → Hid (Below w.heap.size w w5) → Hid (w5.heap[w.heap.size]? = some (.cells #[.int .i64 0, .int .i64 0] 26 (0, 0))) → w2.heap.size + 2 ≤ w5.heap.size → Calls Try.prog 22 #[.map (some (w2.heap.size + 1)), .slice sa p.length cap] w5 fun e w6 => ∃ u, e = .returned u ∧ Hid (intK.sl (From (w.heap.size + 1)) w6 u (each m2 p)) ∧ Hid (Below w.heap.size w w6) ∧ w6.heap[w.heap.size]? = some (.cells #[.int .i64 0, .int .i64 0] 26 (0, 0))) := fun w5 h1 h2 h3 h4 =>
                (eachC _ _ m2 p _ w5 h1.out (Kind.sl_below HV.out h2.out) HFi.out hp16).mono fun e w6 ⟨u, he, ho, hb⟩ =>
                  ⟨u, he, Kind.sl_mono (Kind.own_sl ho (by simp [each]; omega)) fun k _ hk => by have : w5.heap.size ≤ k := hk; show w.heap.size + 1 ≤ k; omega, below_trans h2.out hb h2.out.size, by rw [hb.block w.heap.size (by omega)]; exact h3.out⟩
              clear hgo HE F
              go_wp2_with (first
                | (go_at_call 21; refine HL.out.mono ?_; rintro e w5 ⟨rfl, hM5, hN5, hB5, hR5, hs5⟩)
                | (go_at_call 22; refine (HEa.out w5 hM5 hB5 hR5 hs5).mono ?_; rintro e w6 ⟨u, rfl, hU6, hB6, hR6⟩; have q0 : w6.cell? ⟨w.heap.size, 0, none⟩ = some (.int .i64 0) := (by rw [cell_of_row _ _ _ _ _ _ hR6]; rfl); have q1 : w6.cell? ⟨w.heap.size, 1, none⟩ = some (.int .i64 0) := (by rw [cell_of_row _ _ _ _ _ _ hR6]; rfl); have p0 : w6.frozen? ⟨w.heap.size, 0, none⟩ = false := frozen_rowC 0 hR6; have p1 : w6.frozen? ⟨w.heap.size, 1, none⟩ = false := frozen_rowC 1 hR6; replace hR6 := hide hR6))
              obtain ⟨r0, r1⟩ := fault_two (unhide hR6) (.int .i64 0) (.int .i64 0)
              refine bodyPost_ret (v := .tuple #[u, .agg #[.int .i64 0, .int .i64 0]]) (by simp [results, Try.results10, go_sem, r0, r1]) rfl ⟨u, by rw [F2.out]; rfl, ?_, ?_⟩
              · rw [F2.out]
                exact Kind.sl_mono (Kind.sl_setCell (Kind.sl_setCell hU6.out (Nat.lt_succ_self _) _) (Nat.lt_succ_self _) _) fun k _ hk => by have : w.heap.size + 1 ≤ k := hk; show w.heap.size ≤ k; omega
              · exact (hB6.out.setCell (Nat.le_refl _) _).setCell (Nat.le_refl _) _
            · have E2 : Hid (strataGo p (p.length + 1) (start p) = strataGo p k m2) := by show _ = _; rw [HE.out, hgo]; rfl
              clear hgo HE
              go_wp2_with (go_at_call 21; refine HL.out.mono ?_; rintro e w5 ⟨rfl, hM5, hN5, hB5, hR5, hs5⟩)
              go_roundg k
              case measure => omega
              case rel => exact ⟨t + 1, by omega, by go_num, m2, E2, hM5, hN5, hB5, hR5, hs5⟩
          · obtain rfl : gk = 0 := by omega
            have F2 : Hid (strataP p = ([], 10, 0)) := by show _ = _; rw [F.out, HE.out]; rfl
            have hR6 := HRt.out
            have q0 : wr.cell? ⟨w.heap.size, 0, none⟩ = some (.int .i64 0) := (by rw [cell_of_row _ _ _ _ _ _ hR6]; rfl); have q1 : wr.cell? ⟨w.heap.size, 1, none⟩ = some (.int .i64 0) := (by rw [cell_of_row _ _ _ _ _ _ hR6]; rfl); have p0 : wr.frozen? ⟨w.heap.size, 0, none⟩ = false := frozen_rowC 0 hR6; have p1 : wr.frozen? ⟨w.heap.size, 1, none⟩ = false := frozen_rowC 1 hR6
            clear hR6
            go_wp2
            obtain ⟨r0, r1⟩ := fault_two HRt.out (.int .i64 10) (.int .i64 0)
            refine bodyPost_ret (v := .tuple #[.slice none 0 0, .agg #[.int .i64 10, .int .i64 0]]) (by simp [results, Try.results10, go_sem, r0, r1]) rfl ⟨.slice none 0 0, by rw [F2.out]; rfl, by rw [F2.out]; exact intK.sl_nil _ _ _ _, ?_⟩
            exact (HBt.out.setCell (Nat.le_refl _) _).setCell (Nat.le_refl _) _
  · have F : Hid (strataP p = ([], ex, ea)) := by show _ = _; unfold strataP; rw [hwp, if_neg h0]
    have hq : (ex != 0) = true := by simpa using h0
    clear h0 hwp HV
    go_enter Try.func10, Try.ntmps10
    go_wp2_with (go_at_call 4; refine HW.out.mono ?_; rintro e w2 ⟨rfl, hB2, hR2, hs2⟩; have q0 : w2.cell? ⟨w.heap.size, 0, none⟩ = some (.int .i64 0) := (by rw [cell_of_row _ _ _ _ _ _ hR2]; rfl); have q1 : w2.cell? ⟨w.heap.size, 1, none⟩ = some (.int .i64 0) := (by rw [cell_of_row _ _ _ _ _ _ hR2]; rfl); have p0 : w2.frozen? ⟨w.heap.size, 0, none⟩ = false := frozen_rowC 0 hR2; have p1 : w2.frozen? ⟨w.heap.size, 1, none⟩ = false := frozen_rowC 1 hR2; replace hR2 := hide hR2)
    go_region
    go_wp2
    obtain ⟨r0, r1⟩ := fault_two (unhide hR2) (.int .i64 ex) (.int .i64 (ea : Int))
    have hL := ((Later.refl ((w2.setCell ⟨w.heap.size, 0, none⟩ (.int .i64 ex)).setCell ⟨w.heap.size, 1, none⟩ (.int .i64 (ea : Int)))).alloc (.cells #[.int .i64 ex, .int .i64 (ea : Int)] 26)).drew
    rw [← hL.cell (p := ⟨w.heap.size, 0, none⟩) (by simp only [size_setCell]; exact hs2)] at r0
    rw [← hL.cell (p := ⟨w.heap.size, 1, none⟩) (by simp only [size_setCell]; exact hs2)] at r1
    refine bodyPost_ret (v := .tuple #[.slice none 0 0, .agg #[.int .i64 ex, .int .i64 (ea : Int)]]) (by simp [results, Try.results10, go_sem, r0, r1]) rfl ⟨.slice none 0 0, by rw [F.out], by rw [F.out]; exact intK.sl_nil _ _ _ _, ?_⟩
    exact below_trans ((hB2.out.setCell (Nat.le_refl _) _).setCell (Nat.le_refl _) _) hL.below (by simp only [size_setCell]; exact Nat.le_of_lt hs2)

end Go.Proofs.Ythngiikhgplldaa

/- Of the reference's Strata: its edges, plain, and its closure. -/
namespace Go.Proofs.Ythngiikhgplldaa
open Go.RowKit Go.Sort Go.Maps

def heads (p : List RuleD) : List Bs := p.map fun r => r.head.name
theorem mem_heads (p : List RuleD) (s : Bs) : s ∈ heads p ↔ isHead p s := by unfold heads isHead; rw [List.mem_map]
def hdOf (hs : List Bs) (s : Bs) : Bool := hs.contains s
theorem hdOf_iff (p : List RuleD) (s : Bs) : hdOf (heads p) s = true ↔ isHead p s := by unfold hdOf; rw [List.contains_iff_mem]; exact mem_heads p s

def edgeAtom (hd : Bs → Bool) (h : Bs) (s : Rel × Rel) (a : AtomD) : Rel × Rel := if hd a.name then (s.1.put h a.name, if a.no then s.2.put h a.name else s.2) else s
def edgeRule (hd : Bs → Bool) (s : Rel × Rel) (r : RuleD) : Rel × Rel := r.body.foldl (edgeAtom hd r.head.name) s
def edgeAll (hd : Bs → Bool) (s : Rel × Rel) (p : List RuleD) : Rel × Rel := p.foldl (edgeRule hd) s

theorem put_iff (f : Rel) (a b x y : Bs) : f.put a b x y = true ↔ f x y = true ∨ (x = a ∧ y = b) := by unfold Rel.put; simp

theorem edgeAtoms_iff (hd : Bs → Bool) (h x y : Bs) : ∀ (l : List AtomD) (s : Rel × Rel),
    ((l.foldl (edgeAtom hd h) s).1 x y = true ↔ s.1 x y = true ∨ (x = h ∧ ∃ a ∈ l, a.name = y ∧ hd y = true)) ∧ ((l.foldl (edgeAtom hd h) s).2 x y = true ↔ s.2 x y = true ∨ (x = h ∧ ∃ a ∈ l, a.name = y ∧ hd y = true ∧ a.no = true))
  | [], s => by simp
  | a :: l, s => by
    obtain ⟨i1, i2⟩ := edgeAtoms_iff hd h x y l (edgeAtom hd h s a)
    rw [List.foldl_cons, i1, i2]
    have e1 : (edgeAtom hd h s a).1 x y = true ↔ s.1 x y = true ∨ (x = h ∧ a.name = y ∧ hd y = true) := by
      unfold edgeAtom
      split
      · rename_i hh
        rw [put_iff]
        constructor
        · rintro (k | ⟨k1, k2⟩)
          · exact Or.inl k
          · exact Or.inr ⟨k1, k2.symm, by rw [k2]; exact hh⟩
        · rintro (k | ⟨k1, k2, _⟩)
          · exact Or.inl k
          · exact Or.inr ⟨k1, k2.symm⟩
      · rename_i hh
        constructor
        · exact Or.inl
        · rintro (k | ⟨_, k2, k3⟩)
          · exact k
          · rw [← k2] at k3; exact absurd k3 hh
    have e2 : (edgeAtom hd h s a).2 x y = true ↔ s.2 x y = true ∨ (x = h ∧ a.name = y ∧ hd y = true ∧ a.no = true) := by
      unfold edgeAtom
      split
      · rename_i hh
        show (if a.no then s.2.put h a.name else s.2) x y = true ↔ _
        split
        · rename_i hn
          rw [put_iff]
          constructor
          · rintro (k | ⟨k1, k2⟩)
            · exact Or.inl k
            · exact Or.inr ⟨k1, k2.symm, by rw [k2]; exact hh, hn⟩
          · rintro (k | ⟨k1, k2, _⟩)
            · exact Or.inl k
            · exact Or.inr ⟨k1, k2.symm⟩
        · rename_i hn
          constructor
          · exact Or.inl
          · rintro (k | ⟨_, _, _, k4⟩)
            · exact k
            · exact absurd k4 hn
      · rename_i hh
        constructor
        · exact Or.inl
        · rintro (k | ⟨_, k2, k3, _⟩)
          · exact k
          · rw [← k2] at k3; exact absurd k3 hh
    rw [e1, e2]
    simp only [List.mem_cons, exists_eq_or_imp]
    constructor
    · constructor
      · rintro ((k | ⟨k1, k2, k3⟩) | ⟨k1, k2⟩)
        · exact Or.inl k
        · exact Or.inr ⟨k1, Or.inl ⟨k2, k3⟩⟩
        · exact Or.inr ⟨k1, Or.inr k2⟩
      · rintro (k | ⟨k1, ⟨k2, k3⟩ | k2⟩)
        · exact Or.inl (Or.inl k)
        · exact Or.inl (Or.inr ⟨k1, k2, k3⟩)
        · exact Or.inr ⟨k1, k2⟩
    · constructor
      · rintro ((k | ⟨k1, k2, k3, k4⟩) | ⟨k1, k2⟩)
        · exact Or.inl k
        · exact Or.inr ⟨k1, Or.inl ⟨k2, k3, k4⟩⟩
        · exact Or.inr ⟨k1, Or.inr k2⟩
      · rintro (k | ⟨k1, ⟨k2, k3, k4⟩ | k2⟩)
        · exact Or.inl (Or.inl k)
        · exact Or.inl (Or.inr ⟨k1, k2, k3, k4⟩)
        · exact Or.inr ⟨k1, k2⟩

theorem edgeAll_iff (hd : Bs → Bool) (x y : Bs) : ∀ (l : List RuleD) (s : Rel × Rel),
    ((edgeAll hd s l).1 x y = true ↔ s.1 x y = true ∨ ∃ r ∈ l, x = r.head.name ∧ ∃ a ∈ r.body, a.name = y ∧ hd y = true) ∧ ((edgeAll hd s l).2 x y = true ↔ s.2 x y = true ∨ ∃ r ∈ l, x = r.head.name ∧ ∃ a ∈ r.body, a.name = y ∧ hd y = true ∧ a.no = true)
  | [], s => by simp [edgeAll]
  | r :: l, s => by
    obtain ⟨i1, i2⟩ := edgeAll_iff hd x y l (edgeRule hd s r)
    obtain ⟨j1, j2⟩ := edgeAtoms_iff hd r.head.name x y r.body s
    have e : edgeAll hd s (r :: l) = edgeAll hd (edgeRule hd s r) l := rfl
    rw [e, i1, i2]
    unfold edgeRule
    rw [j1, j2]
    simp only [List.mem_cons, exists_eq_or_imp, or_assoc]
    exact ⟨trivial, trivial⟩

theorem edges (p : List RuleD) (x y : Bs) : ((edgeAll (hdOf (heads p)) (fun _ _ => false, fun _ _ => false) p).1 x y = true ↔ ∃ e, Edge p x y e) ∧ ((edgeAll (hdOf (heads p)) (fun _ _ => false, fun _ _ => false) p).2 x y = true ↔ Edge p x y 1) := by
  obtain ⟨i1, i2⟩ := edgeAll_iff (hdOf (heads p)) x y p (fun _ _ => false, fun _ _ => false)
  rw [i1, i2, hdOf_iff]
  constructor
  · constructor
    · rintro (k | ⟨r, hr, k1, a, ha, k2, k3⟩)
      · cases k
      · exact ⟨step a, r, hr, a, ha, k1.symm, k2, k3, rfl⟩
    · rintro ⟨e, r, hr, a, ha, k1, k2, k3, _⟩
      exact Or.inr ⟨r, hr, k1.symm, a, ha, k2, k3⟩
  · constructor
    · rintro (k | ⟨r, hr, k1, a, ha, k2, k3, k4⟩)
      · cases k
      · exact ⟨r, hr, a, ha, k1.symm, k2, k3, by unfold step; rw [k4]; rfl⟩
    · rintro ⟨r, hr, a, ha, k1, k2, k3, k4⟩
      refine Or.inr ⟨r, hr, k1.symm, a, ha, k2, k3, ?_⟩
      unfold step at k4
      cases hn : a.no with
      | true => rfl
      | false => rw [hn] at k4; cases k4

/-- WHAT IT ANSWERS. -/
def fwP (p : List RuleD) : Rel × Rel := fwK (heads p) (heads p) (edgeAll (hdOf (heads p)) (fun _ _ => false, fun _ _ => false) p)
theorem strata_no {p : List RuleD} (hw : (wrongP p).1 = 0) {a : Bs} (ha : a ∈ heads p) (h : (fwP p).2 a a = true) : strataP p = ([], 10, 0) := by
  refine no_strata hw fun hs => ?_
  have := (fw_sol (hs := heads p) (fun x => mem_heads p x) (fun x y => (edges p x y).1) (fun x y => (edges p x y).2)).1 hs a ha
  unfold fwP at h
  rw [this] at h; cases h
theorem strata_yes {p : List RuleD} (hw : (wrongP p).1 = 0) (h : ∀ a ∈ heads p, (fwP p).2 a a = false) : strataP p = (p.map fun r => levs (hdOf (heads p)) p (p.length + 1) (fun _ => 0) r.head.name, 0, 0) := by
  obtain ⟨σ, hσ⟩ := (fw_sol (hs := heads p) (fun x => mem_heads p x) (fun x y => (edges p x y).1) (fun x y => (edges p x y).2)).2 h
  exact levs_strata (fun s => hdOf_iff p s) hw hσ _ fun _ => rfl

theorem hdOf_step {l : List Bs} {j : Nat} {x : Bs} (h : l[j]? = some x) (s : Bs) : hdOf (l.drop j) s = (decide (x = s) || hdOf (l.drop (j + 1)) s) := by
  obtain ⟨h1, e1⟩ := List.getElem?_eq_some_iff.1 h
  rw [List.drop_eq_getElem_cons h1, e1]
  unfold hdOf
  rw [List.contains_cons]
  by_cases e : x = s
  · subst e; simp
  · rw [decide_eq_false e, beq_eq_false_iff_ne.2 (Ne.symm e)]

set_option maxRecDepth 100000 in
set_option maxHeartbeats 1000000 in
theorem headC (hs : List Bs) (v : Value) (g : Nat) (s : Bs) (w : World) (h : w.cell? ⟨g, 0, none⟩ = some v) (hv : strK.sl Anyw w v hs) :
    Calls Try.prog 23 #[.string (bs s), .pointer (some ⟨g, 0, none⟩)] w fun x w' => x = .returned (.bool (hdOf hs s)) ∧ w' = w := by
  obtain ⟨sa, cap, rfl⟩ := Kind.slice hv
  have hl0 := hv.1.1
  have HV := hide hv
  clear hv
  have HBX : Hid (∀ u : Bs, ((bs u).toList == (bs s).toList) = decide (u = s)) := fun u => bs_eqR u s
  generalize hbs : bs s = z at *
  clear hbs
  go_enter Try.func23, Try.ntmps23
  go_wp2
  go_loopg [8] hs.length (fun k i wr => ∃ j : Nat, j + k = hs.length ∧ i = .int .i64 j ∧ Hid (hdOf hs s = hdOf (hs.drop j) s) ∧ wr = w)
  case atStart => exact ⟨0, by omega, rfl, (rfl : _ = _), rfl⟩
  case round =>
    obtain ⟨j, hj, rfl, HF, rfl⟩ := hrel
    by_cases hlt : j < hs.length
    · obtain ⟨x, hx⟩ : ∃ x, hs[j]? = some x := ⟨_, List.getElem?_eq_getElem hlt⟩
      obtain ⟨b1, o1, _, rfl, hb1, rfl, hc⟩ := Kind.sl_at HV.out hx
      have d0 : wr.cell? ⟨b1, o1 + j, none⟩ = some (.string (bs x)) := by simpa [strK] using hc 0 _ rfl
      have hE := hdOf_step hx s
      have hEq := HBX.out x
      generalize decide (x = s) = du at *
      have HE := hide hE
      clear hc hx hE
      generalize bs x = bx at *
      cases du
      · have HF2 : Hid (hdOf hs s = hdOf (hs.drop (j + 1)) s) := by show _ = _; rw [HF.out, HE.out]; rfl
        go_wp2
        go_roundg (hs.length - (j + 1))
        case measure => omega
        case rel => exact ⟨j + 1, by omega, by go_num, HF2, rfl⟩
      · have HF2 : Hid (hdOf hs s = true) := by show _ = _; rw [HF.out, HE.out]; rfl
        go_wp2
        go_ret
        exact ⟨by rw [HF2.out]; rfl, rfl⟩
    · have HF2 : Hid (hdOf hs s = false) := by show _ = _; rw [HF.out, List.drop_eq_nil_of_le (by omega)]; rfl
      go_wp2
      go_ret
      exact ⟨by rw [HF2.out]; rfl, rfl⟩

end Go.Proofs.Ythngiikhgplldaa

/- The walk of the reference's Strata. -/
namespace Go.Proofs.Ythngiikhgplldaa
open Go.RowKit Go.Sort Go.Maps

/-- What stands after the heads are gathered. -/
structure Hd (w w5 : World) (g : Nat) (v : Value) (hs : List Bs) : Prop where
  below : Below w.heap.size w w5
  row : w5.heap[w.heap.size]? = some (.cells #[.int .i64 0, .int .i64 0] 26 (0, 0))
  box : w5.cell? ⟨g, 0, none⟩ = some v
  lt : g < w5.heap.size
  lo : w.heap.size < w5.heap.size
  hs : strK.sl Anyw w5 v hs

theorem Hd.below' {w w5 w6 : World} {g : Nat} {v : Value} {hs : List Bs} (h : Hd w w5 g v hs) (k : Below w5.heap.size w5 w6) : Hd w w6 g v hs :=
  ⟨below_trans h.below k (Nat.le_of_lt h.lo), by rw [k.block _ h.lo]; exact h.row, by rw [k.cell (p := ⟨g, 0, none⟩) h.lt]; exact h.box, Nat.lt_of_lt_of_le h.lt k.size, Nat.lt_of_lt_of_le h.lo k.size, Kind.sl_below h.hs k⟩

/-- The two maps, after what was there. -/
structure St (w5 : World) (n : Nat) (s : Rel × Rel) (wr : World) : Prop where
  below : Below w5.heap.size w5 wr
  m1 : RelM wr w5.heap.size n s.1
  m2 : RelM wr (w5.heap.size + 1) n s.2

theorem St.later {w5 wr wr' : World} {n : Nat} {s : Rel × Rel} (h : St w5 n s wr) (k : Later wr wr') : St w5 n s wr' := ⟨below_trans h.below k.below h.below.size, h.m1.later k, h.m2.later k⟩
theorem St.mono {w5 wr : World} {n m : Nat} {s : Rel × Rel} (h : St w5 n s wr) (hn : n ≤ m) : St w5 m s wr := ⟨h.below, h.m1.mono hn, h.m2.mono hn⟩

/-- What lies past the maps stays. -/
def Past (w5 a b : World) : Prop := a.heap.size ≤ b.heap.size ∧ ∀ k, w5.heap.size + 2 ≤ k → k < a.heap.size → b.heap[k]? = a.heap[k]?
theorem Past.cell {w5 a b : World} (h : Past w5 a b) {x : Addr} (hx : w5.heap.size + 2 ≤ x.block) (hl : x.block < a.heap.size) : b.cell? x = a.cell? x := World.cell?_of_block (w := a) (h.2 _ hx hl)

theorem St.put1 {w5 wr : World} {n : Nat} {s : Rel × Rel} (h : St w5 n s wr) (hn : n < maxLen) {x y : Bs} (hx : x.length ≤ maxLen) (hy : y.length ≤ maxLen) :
    ∃ w', (Instr.mapUpdate 59 (.map (some w5.heap.size)) (.agg #[.string (bs x), .string (bs y)]) (.bool true)).run Try.prog wr = .ok () w' ∧ St w5 (n + 1) (s.1.put x y, s.2) w' ∧ Past w5 wr w' := by
  obtain ⟨w', hrun, h1, hg⟩ := h.m1.store hn hx hy
  have hb : ButP (fun k => k = w5.heap.size) wr w' := ButP.of_grown hg rfl
  have hl := h.m2.lt
  exact ⟨w', hrun, ⟨hb.below h.below (fun k e => by omega) h.below.size, h1, (h.m2.block (hb.block _ hl (by omega))).mono (by omega)⟩, hb.size, fun k h1 h2 => hb.block k h2 (by omega)⟩
theorem St.put2 {w5 wr : World} {n : Nat} {s : Rel × Rel} (h : St w5 n s wr) (hn : n < maxLen) {x y : Bs} (hx : x.length ≤ maxLen) (hy : y.length ≤ maxLen) :
    ∃ w', (Instr.mapUpdate 59 (.map (some (w5.heap.size + 1))) (.agg #[.string (bs x), .string (bs y)]) (.bool true)).run Try.prog wr = .ok () w' ∧ St w5 (n + 1) (s.1, s.2.put x y) w' ∧ Past w5 wr w' := by
  obtain ⟨w', hrun, h1, hg⟩ := h.m2.store hn hx hy
  have hb : ButP (fun k => k = w5.heap.size + 1) wr w' := ButP.of_grown hg rfl
  have hl := h.m1.lt
  exact ⟨w', hrun, ⟨hb.below h.below (fun k e => by omega) h.below.size, (h.m1.block (hb.block _ hl (by omega))).mono (by omega), h1⟩, hb.size, fun k h1 h2 => hb.block k h2 (by omega)⟩
theorem St.look1 {w5 wr : World} {n : Nat} {s : Rel × Rel} (h : St w5 n s wr) {x y : Bs} (hx : x.length ≤ maxLen) (hy : y.length ≤ maxLen) : (Instr.lookup 59 (.map (some w5.heap.size)) (.agg #[.string (bs x), .string (bs y)]) false).run Try.prog wr = .ok (.bool (s.1 x y)) wr := h.m1.look hx hy
theorem St.look2 {w5 wr : World} {n : Nat} {s : Rel × Rel} (h : St w5 n s wr) {x y : Bs} (hx : x.length ≤ maxLen) (hy : y.length ≤ maxLen) : (Instr.lookup 59 (.map (some (w5.heap.size + 1))) (.agg #[.string (bs x), .string (bs y)]) false).run Try.prog wr = .ok (.bool (s.2 x y)) wr := h.m2.look hx hy

theorem heads_step {p : List RuleD} {j : Nat} {r : RuleD} (h : p[j]? = some r) : heads (p.take (j + 1)) = heads (p.take j) ++ [r.head.name] := by
  rw [List.take_add_one, h]; simp [heads]

theorem edgeAll_step {p : List RuleD} {j : Nat} {r : RuleD} (h : p[j]? = some r) (hd : Bs → Bool) (s : Rel × Rel) : edgeAll hd s (p.drop j) = edgeAll hd (edgeRule hd s r) (p.drop (j + 1)) := by
  obtain ⟨h1, e1⟩ := List.getElem?_eq_some_iff.1 h
  rw [List.drop_eq_getElem_cons h1, e1]; rfl
theorem foldl_drop {α β : Type} {l : List α} {j : Nat} {x : α} (h : l[j]? = some x) (f : β → α → β) (b : β) : (l.drop j).foldl f b = (l.drop (j + 1)).foldl f (f b x) := by
  obtain ⟨h1, e1⟩ := List.getElem?_eq_some_iff.1 h
  rw [List.drop_eq_getElem_cons h1, e1]; rfl

set_option maxRecDepth 100000 in
set_option maxHeartbeats 16000000 in
theorem rStrata (p : List RuleD) (v : Value) (w : World) (hv : ruleK.sl Anyw w v p) (hk : ∀ r ∈ p, longR r) :
    Calls Try.prog 11 #[v] w fun e w' => ∃ u, e = .returned (.tuple #[u, .agg #[.int .i64 (strataP p).2.1, .int .i64 ((strataP p).2.2 : Nat)]]) ∧ intK.sl (From w.heap.size) w' u (strataP p).1 ∧ Below w.heap.size w w' := by
  obtain ⟨sa, cap, rfl⟩ := Kind.slice hv
  have HV := hide hv
  have hl0 := hv.1.1
  have HW : Hid (Calls Try.prog 5 #[.slice sa p.length cap] (w.alloc (.cells #[.int .i64 0, .int .i64 0] 26)) fun e w2 => e = .returned (.agg #[.int .i64 (wrongP p).1, .int .i64 ((wrongP p).2 : Nat)]) ∧ Hid (Below w.heap.size w w2) ∧ w2.heap[w.heap.size]? = some (.cells #[.int .i64 0, .int .i64 0] 26 (0, 0)) ∧ w.heap.size < w2.heap.size) :=
    (rWrongProgram p _ _ (Kind.sl_below hv ((Later.refl w).alloc _).below) hk).mono fun e w2 ⟨he, hb⟩ => ⟨he, below_trans ((Later.refl w).alloc _).below hb (by simp), by rw [hb.block w.heap.size (by simp), heap_alloc_new], by have := hb.size; simp at this; omega⟩
  clear hv hk
  have hmm := @run_makeMap Try.prog
  generalize hwp : wrongP p = wp at *
  obtain ⟨ex, ea⟩ := wp
  dsimp only at *
  by_cases h0 : ex = 0
  · subst h0
    obtain ⟨hp16, hfine⟩ := wrongP_fine (p := p) (by rw [hwp])
    have HFi := hide hfine
    have HNo : Hid (∀ a ∈ heads p, (fwP p).2 a a = true → strataP p = ([], 10, 0)) := fun a ha h => strata_no (by rw [hwp]) ha h
    have HYes : Hid ((∀ a ∈ heads p, (fwP p).2 a a = false) → strataP p = (p.map fun r => levs (hdOf (heads p)) p (p.length + 1) (fun _ => 0) r.head.name, 0, 0)) := fun h => strata_yes (by rw [hwp]) h
    have HHs : Hid (∀ s ∈ heads p, s.length ≤ maxLen) := fun s hs => by
      obtain ⟨r, hr, rfl⟩ := (mem_heads p s).1 hs
      exact (hfine r hr).1
    have hhl : (heads p).length = p.length := by simp [heads]
    clear hwp hfine
    go_enter Try.func11, Try.ntmps11
    go_wp2_with (go_at_call 5; refine HW.out.mono ?_; rintro e w2 ⟨rfl, hB2, hR2, hs2⟩; replace hR2 := hide hR2)
    have hwz := hB2.out.size
    clear HW
    go_loopg [42] p.length (fun k i wr => ∃ j : Nat, j + k = p.length ∧ i = .int .i64 j ∧ ∃ o, Hid (strK.own 9 (w2.heap.size + 2) wr o (heads (p.take j))) ∧ Hid (wr.heap[w2.heap.size + 1]? = some (.cells #[o] 34 (0, 0))) ∧ Hid (Below w.heap.size w wr) ∧ Hid (wr.heap[w.heap.size]? = some (.cells #[.int .i64 0, .int .i64 0] 26 (0, 0))) ∧ w2.heap.size + 2 ≤ wr.heap.size)
    case atStart =>
      refine ⟨0, by omega, rfl, .slice none 0 0, strK.own_nil _ _ _, ?_, ?_, ?_, by simp⟩
      · show _ = _
        have := heap_alloc_new (w2.alloc (.cells #[.int .i64 0, .int .i64 (ea : Int)] 26)) (.cells #[.slice none 0 0] 34)
        rw [World.size_alloc] at this
        exact this
      · exact (hB2.out.alloc hwz _).alloc (by simp; omega) _
      · show _ = _
        rw [Below.heap_alloc _ _ _ (by simp; omega), Below.heap_alloc _ _ _ hs2]
        exact unhide hR2
    case round =>
      obtain ⟨j, hj, rfl, o, HO, HX, HB, HR, hsz⟩ := hrel
      clear hB2 hR2
      obtain ⟨ao, co, rfl⟩ := Kind.own_slice HO.out
      have hX := HX.out
      have x0 : wr.cell? ⟨w2.heap.size + 1, 0, none⟩ = some (.slice ao (heads (p.take j)).length co) := by rw [cell_of_row _ _ _ _ _ _ hX]; rfl
      have hxl : w2.heap.size + 1 < wr.heap.size := by omega
      clear hX
      by_cases hlt : j < p.length
      · obtain ⟨r, hr⟩ : ∃ x, p[j]? = some x := ⟨_, List.getElem?_eq_getElem hlt⟩
        obtain ⟨b1, o1, _, rfl, hb1, ⟨sv, su, rfl, hsv, hsu⟩, hcl⟩ := Kind.sl_at HV.out hr
        have d0 : wr.cell? ⟨b1, o1 + j * 4, none⟩ = some (.bool r.head.no) := by rw [HB.out.cell hb1]; exact hcl 0 _ rfl
        have d1 : wr.cell? ⟨b1, o1 + j * 4 + 1, none⟩ = some (.string (bs r.head.name)) := by rw [HB.out.cell hb1]; exact hcl 1 _ rfl
        have d2 : wr.cell? ⟨b1, o1 + j * 4 + 2, none⟩ = some sv := by rw [HB.out.cell hb1]; exact hcl 2 _ rfl
        have d3 : wr.cell? ⟨b1, o1 + j * 4 + 3, none⟩ = some su := by rw [HB.out.cell hb1]; exact hcl 3 _ rfl
        have hbr : b1 < wr.heap.size := by have := HB.out.size; omega
        have hlen : (heads (p.take j)).length = j := by simp [heads]; omega
        have E := hide (heads_step hr)
        have hOA := Kind.own_turned HO.out ((Tn.refl 0 wr).alloc (.cells #[.bool r.head.no, .string (bs r.head.name), sv, su] 33)) (by omega)
        obtain ⟨v', w4, hrun, o4, g4⟩ := appendStrC hOA (x := r.head.name) (by rw [hlen]; omega) (by simp; omega)
        obtain ⟨av, cv, hv'⟩ := Kind.own_slice o4
        generalize (heads (p.take j) ++ [r.head.name]).length = nv at hv'
        subst hv'
        have hT4 : Tn (w2.heap.size + 1) w4 (w4.setCell ⟨w2.heap.size + 1, 0, none⟩ (.slice av nv cv)) := (Tn.refl (w2.heap.size + 1) w4).setCell (x := ⟨w2.heap.size + 1, 0, none⟩) (Or.inl rfl) (.slice av nv cv)
        have hs4 := g4.size
        simp only [World.size_alloc] at hs4
        have hk4 : ∀ k, k < w2.heap.size + 2 → w4.heap[k]? = wr.heap[k]? := fun k hk => by
          rw [g4.block k (by simp; omega) (fun e => by have := (Kind.own_lt hOA e.symm).1; omega), Below.heap_alloc _ _ _ (by simp; omega), Below.heap_alloc _ _ _ (by omega)]
        have HO4 : Hid (strK.own 9 (w2.heap.size + 2) (w4.setCell ⟨w2.heap.size + 1, 0, none⟩ (.slice av nv cv)) (.slice av nv cv) (heads (p.take (j + 1)))) := by show strK.own _ _ _ _ _; rw [E.out]; exact Kind.own_turned o4 hT4 (by omega)
        have hX4 : w4.heap[w2.heap.size + 1]? = some (.cells #[.slice ao (heads (p.take j)).length co] 34 (0, 0)) := by rw [hk4 _ (by omega)]; exact HX.out
        have HX4 : Hid ((w4.setCell ⟨w2.heap.size + 1, 0, none⟩ (.slice av nv cv)).heap[w2.heap.size + 1]? = some (.cells #[(.slice av nv cv)] 34 (0, 0))) := setCell_row hX4 (.slice av nv cv)
        have HB4 : Hid (Below w.heap.size w (w4.setCell ⟨w2.heap.size + 1, 0, none⟩ (.slice av nv cv))) := by
          refine Below.setCell (below_trans ((HB.out.alloc HB.out.size _).alloc (by have := HB.out.size; simp; omega) _) ⟨g4.os, g4.tape, g4.output, g4.size, fun k hk => g4.block k (by simp; omega) (fun e => ?_)⟩ (Nat.le_refl _)) (by show w.heap.size ≤ w2.heap.size + 1; omega) _
          have := (Kind.own_lt hOA e.symm).1
          omega
        have HR4 : Hid ((w4.setCell ⟨w2.heap.size + 1, 0, none⟩ (.slice av nv cv)).heap[w.heap.size]? = some (.cells #[.int .i64 0, .int .i64 0] 26 (0, 0))) := by
          show _ = _
          rw [hT4.block _ (by omega) (by omega), hk4 _ (by omega)]
          exact HR.out
        have hz4 : w2.heap.size + 2 ≤ (w4.setCell ⟨w2.heap.size + 1, 0, none⟩ (.slice av nv cv)).heap.size := by rw [size_setCell]; omega
        have y0 : w4.cell? ⟨w2.heap.size + 1, 0, none⟩ = some (.slice ao (heads (p.take j)).length co) := by rw [cell_of_row _ _ _ _ _ _ hX4]; rfl
        have y1 : w4.frozen? ⟨w2.heap.size + 1, 0, none⟩ = false := frozen_rowC 0 hX4
        simp only [World.size_alloc] at hrun
        rw [hlen] at hrun x0 y0
        replace hrun := hide hrun
        clear hlen
        obtain ⟨a2, c2, rfl⟩ := Kind.slice hsv
        obtain ⟨a3, c3, rfl⟩ := Kind.slice hsu
        clear hcl hr hsv hsu hOA o4 g4 HO HB HX HR E hT4 hk4 hX4
        generalize bs r.head.name = nm at *
        generalize r.head.no = no at *
        go_wp2_with (first
          | (at_builtin; refine wpList_append_run rfl (.tmp 46) (.tmp 50) 34 rfl _ _ _ _ rfl rfl (unhide hrun) ?_)
          | go_in)
        go_roundg (p.length - (j + 1))
        case measure => omega
        case rel => exact ⟨j + 1, by omega, by go_num, (.slice av nv cv), HO4, HX4, HB4, HR4, hz4⟩
      · have e : j = p.length := by omega
        subst e
        have hO := HO.out
        rw [List.take_length] at hO x0
        have HH : Hid (Hd w wr (w2.heap.size + 1) (.slice ao (heads p).length co) (heads p)) := ⟨HB.out, HR.out, x0, hxl, by omega, Kind.sl_any (Kind.own_sl (by first | exact hO | (rw [List.take_length] at hO; exact hO)) (by omega))⟩
        clear HO HX HB HR hO
        generalize hGg : w2.heap.size + 1 = G at *
        have hGl := HH.out.lt
        clear hsz
        have HHL : Hid ((heads p).length = p.length) := hhl
        rw [hhl] at HH x0
        clear hhl
        generalize hw5 : wr = w5 at *
        clear hw5
        have HFW : Hid (fwP p = fwK (heads p) (heads p) (edgeAll (hdOf (heads p)) (fun _ _ => false, fun _ _ => false) p)) := (rfl : _ = _)
        generalize heads p = hs at *
        generalize fwP p = FW at *
        generalize he0 : edgeAll (hdOf hs) (fun _ _ => false, fun _ _ => false) p = EA at *
        have HE0 := hide he0
        clear he0
        go_wp2
        go_loopg [58] p.length (fun k i wr => ∃ j : Nat, j + k = p.length ∧ i = .int .i64 j ∧ ∃ s, Hid (EA = edgeAll (hdOf hs) s (p.drop j)) ∧ Hid (St w5 (10 * j) s wr) ∧ w5.heap.size + 2 ≤ wr.heap.size)
        case atStart =>
          refine ⟨0, by omega, rfl, (fun _ _ => false, fun _ _ => false), HE0.out.symm, ⟨?_, ?_, ?_⟩, by simp⟩
          · exact (((Later.refl w5).alloc _).alloc _).below
          · exact (RelM.made w5).later ((Later.refl _).alloc _)
          · have := RelM.made (w5.alloc (.map #[] 0))
            rw [World.size_alloc] at this
            exact this
        case round =>
          obtain ⟨j, hj, rfl, s, HE, HS, hsz⟩ := hrel
          by_cases hlt : j < p.length
          · obtain ⟨r, hr⟩ : ∃ x, p[j]? = some x := ⟨_, List.getElem?_eq_getElem hlt⟩
            obtain ⟨b1, o1, _, rfl, hb1, ⟨sv, su, rfl, hsv, hsu⟩, hcl⟩ := Kind.sl_at HV.out hr
            have hBw : Below w.heap.size w wr := below_trans HH.out.below HS.out.below HH.out.below.size
            have d0 : wr.cell? ⟨b1, o1 + j * 4, none⟩ = some (.bool r.head.no) := by rw [hBw.cell hb1]; exact hcl 0 _ rfl
            have d1 : wr.cell? ⟨b1, o1 + j * 4 + 1, none⟩ = some (.string (bs r.head.name)) := by rw [hBw.cell hb1]; exact hcl 1 _ rfl
            have d2 : wr.cell? ⟨b1, o1 + j * 4 + 2, none⟩ = some sv := by rw [hBw.cell hb1]; exact hcl 2 _ rfl
            have d3 : wr.cell? ⟨b1, o1 + j * 4 + 3, none⟩ = some su := by rw [hBw.cell hb1]; exact hcl 3 _ rfl
            have hbr : b1 < wr.heap.size := by have := hBw.size; omega
            obtain ⟨f1, f2, f3⟩ := HFi.out r (List.mem_of_getElem? hr)
            have HSt := hide (edgeAll_step hr (hdOf hs) s)
            obtain ⟨a2, c2, rfl⟩ := Kind.slice hsv
            obtain ⟨a3, c3, rfl⟩ := Kind.slice hsu
            have HSU := hide hsu
            have HF3 := hide f3
            have hbl : r.body.length ≤ 5 := f2
            have hjp : j < 16 := by omega
            clear hcl hr hsv hsu f3 f2 hBw
            have HS1 := hide (HS.out.later ((Later.refl wr).alloc (.cells #[.bool r.head.no, .string (bs r.head.name), .slice a2 r.head.terms.length c2, .slice a3 r.body.length c3] 33)))
            have HZ1 : Hid ((wr.alloc (.cells #[.bool r.head.no, .string (bs r.head.name), .slice a2 r.head.terms.length c2, .slice a3 r.body.length c3] 33)).cell? ⟨wr.heap.size, 1, none⟩ = some (.string (bs r.head.name))) := by show _ = _; simp
            have hR1 : wr.heap.size < (wr.alloc (.cells #[.bool r.head.no, .string (bs r.head.name), .slice a2 r.head.terms.length c2, .slice a3 r.body.length c3] 33)).heap.size := by simp
            generalize hnm : bs r.head.name = nm at *
            have HNM := hide hnm
            clear hnm
            generalize r.head.no = no at *
            generalize hR : wr.heap.size = R at *
            clear HS
            go_wp2
            go_loopg [65] r.body.length (fun k i wr2 => ∃ q : Nat, q + k = r.body.length ∧ i = .int .i64 q ∧ ∃ y : Rel × Rel, Hid (edgeRule (hdOf hs) s r = (r.body.drop q).foldl (edgeAtom (hdOf hs) r.head.name) y) ∧ Hid (St w5 (10 * j + 2 * q) y wr2) ∧ R < wr2.heap.size ∧ wr2.cell? ⟨R, 1, none⟩ = some (.string nm))
            case atStart =>
              refine ⟨0, by omega, rfl, s, (rfl : _ = _), ?_, ?_, ?_⟩
              · first | exact HS1 | (subst hR; exact HS1)
              · first | exact hR1 | (subst hR; exact hR1)
              · first | exact HZ1.out | (subst hR; exact HZ1.out)
            case round =>
              obtain ⟨q, hq, rfl, y, HE2, HSy, hRs, z1⟩ := hrel
              clear HS1 HZ1 hR1 d0 d1 d2 d3
              by_cases hlq : q < r.body.length
              · obtain ⟨a, ha⟩ : ∃ x, r.body[q]? = some x := ⟨_, List.getElem?_eq_getElem hlq⟩
                obtain ⟨b2, o2, _, rfl, hb2, ⟨tv, rfl, htv⟩, hcl⟩ := Kind.sl_at HSU.out ha
                have hBw : Below w.heap.size w wr := below_trans HH.out.below HSy.out.below HH.out.below.size
                have d0 : wr.cell? ⟨b2, o2 + q * 3, none⟩ = some (.bool a.no) := by rw [hBw.cell hb2]; exact hcl 0 _ rfl
                have d1 : wr.cell? ⟨b2, o2 + q * 3 + 1, none⟩ = some (.string (bs a.name)) := by rw [hBw.cell hb2]; exact hcl 1 _ rfl
                have d2 : wr.cell? ⟨b2, o2 + q * 3 + 2, none⟩ = some tv := by rw [hBw.cell hb2]; exact hcl 2 _ rfl
                have hbr2 : b2 < wr.heap.size := by have := hBw.size; omega
                have hst := foldl_drop ha (edgeAtom (hdOf hs) r.head.name) y
                have hal := HF3.out a (List.mem_of_getElem? ha)
                obtain ⟨a4, c4, rfl⟩ := Kind.slice htv
                have HSA := hide (HSy.out.later ((Later.refl wr).alloc (.cells #[.bool a.no, .string (bs a.name), .slice a4 a.terms.length c4] 30)))
                have hHA := HH.out.below' HSA.out.below
                have HHd := hide (headC hs _ G a.name _ hHA.box hHA.hs)
                clear hHA hcl ha htv hBw
                cases hh : hdOf hs a.name
                · have E4 : Hid (edgeRule (hdOf hs) s r = (r.body.drop (q + 1)).foldl (edgeAtom (hdOf hs) r.head.name) y) := by
                    show _ = _
                    rw [HE2.out, hst]; unfold edgeAtom; rw [hh]; rfl
                  rw [hh] at HHd
                  clear hst HE2 hh
                  generalize bs a.name = na at *
                  generalize a.no = an at *
                  go_wp2_with fail
                  refine HHd.out.mono ?_
                  rintro e w' ⟨rfl, rfl⟩
                  go_wp2
                  go_roundg (r.body.length - (q + 1))
                  case measure => omega
                  case rel => exact ⟨q + 1, by omega, by go_num, y, E4, HSA.out.mono (by omega), by simp; omega, by rw [((Later.refl wr).alloc _).cell (p := ⟨R, 1, none⟩) hRs]; exact z1⟩
                · obtain ⟨w3, hup, hS3, hP3⟩ := HSA.out.put1 (by simp [maxLen]; omega) f1 hal
                  have hs5 := HSy.out.m2.lt
                  have hR2 : w5.heap.size + 2 ≤ R := by omega
                  have kz1 : w3.cell? ⟨R, 1, none⟩ = some (.string nm) := by
                    rw [hP3.cell (x := ⟨R, 1, none⟩) (by show _ ≤ R; omega) (by simp; omega), ((Later.refl wr).alloc _).cell (p := ⟨R, 1, none⟩) hRs]; exact z1
                  have kz2 : w3.cell? ⟨wr.heap.size, 0, none⟩ = some (.bool a.no) := by
                    rw [hP3.cell (x := ⟨wr.heap.size, 0, none⟩) (by show _ ≤ wr.heap.size; omega) (by simp)]; simp
                  have kz3 : w3.cell? ⟨wr.heap.size, 1, none⟩ = some (.string (bs a.name)) := by
                    rw [hP3.cell (x := ⟨wr.heap.size, 1, none⟩) (by show _ ≤ wr.heap.size; omega) (by simp)]; simp
                  have kz4 : R < w3.heap.size := by have := hP3.1; simp at this; omega
                  rw [HNM.out] at hup
                  rw [hh] at HHd
                  cases han : a.no
                  · have E4 : Hid (edgeRule (hdOf hs) s r = (r.body.drop (q + 1)).foldl (edgeAtom (hdOf hs) r.head.name) (y.1.put r.head.name a.name, y.2)) := by
                      show _ = _
                      rw [HE2.out, hst]; unfold edgeAtom; rw [hh, han]; rfl
                    have HU := hide hup
                    have HS3 := hide hS3
                    rw [han] at HHd kz2 HU d0
                    clear hst HE2 hh han hP3 hS3 hup HSA HSy
                    generalize bs a.name = na at *
                    go_wp2_with fail
                    refine HHd.out.mono ?_
                    rintro e w' ⟨rfl, rfl⟩
                    go_wp2_with (first
                      | (at_mapUpdate; refine wpList_run_update _ rfl _ _ _ _ rfl _ _ _ _ rfl rfl rfl HU.out ?_)
                      | go_in)
                    go_roundg (r.body.length - (q + 1))
                    case measure => omega
                    case rel => exact ⟨q + 1, by omega, by go_num, _, E4, HS3.out.mono (by omega), kz4, kz1⟩
                  · have E4 : Hid (edgeRule (hdOf hs) s r = (r.body.drop (q + 1)).foldl (edgeAtom (hdOf hs) r.head.name) (y.1.put r.head.name a.name, y.2.put r.head.name a.name)) := by
                      show _ = _
                      rw [HE2.out, hst]; unfold edgeAtom; rw [hh, han]; rfl
                    obtain ⟨w4, hup4, hS4, hP4⟩ := hS3.put2 (by simp [maxLen]; omega) f1 hal
                    have v1 : w4.cell? ⟨R, 1, none⟩ = some (.string nm) := by
                      rw [hP4.cell (x := ⟨R, 1, none⟩) (by show _ ≤ R; omega) kz4]; exact kz1
                    have v4 : R < w4.heap.size := by have := hP4.1; omega
                    rw [HNM.out] at hup4
                    have HU := hide hup
                    have HU4 := hide hup4
                    have HS4 := hide hS4
                    rw [han] at HHd kz2 HU d0
                    clear hst HE2 hh han hP3 hS3 hup hup4 hS4 hP4 HSA HSy
                    generalize bs a.name = na at *
                    go_wp2_with fail
                    refine HHd.out.mono ?_
                    rintro e w' ⟨rfl, rfl⟩
                    go_wp2_with (first
                      | (at_mapUpdate; refine wpList_run_update _ rfl _ _ _ _ rfl _ _ _ _ rfl rfl rfl HU.out ?_)
                      | (at_mapUpdate; refine wpList_run_update _ rfl _ _ _ _ rfl _ _ _ _ rfl rfl rfl HU4.out ?_)
                      | go_in)
                    go_roundg (r.body.length - (q + 1))
                    case measure => omega
                    case rel => exact ⟨q + 1, by omega, by go_num, _, E4, HS4.out.mono (by omega), v4, v1⟩
              · have E4 : Hid (EA = edgeAll (hdOf hs) y (p.drop (j + 1))) := by
                  show _ = _
                  have e3 : edgeRule (hdOf hs) s r = y := by rw [HE2.out, List.drop_eq_nil_of_le (by omega)]; rfl
                  rw [HE.out, HSt.out, e3]
                have hl6 : w5.heap.size + 2 ≤ wr.heap.size := by have := HSy.out.m2.lt; omega
                go_wp2
                go_roundg (p.length - (j + 1))
                case measure => omega
                case rel => exact ⟨j + 1, by omega, by go_num, y, E4, HSy.out.mono (by omega), hl6⟩
          · have E2 : Hid (EA = s) := by show _ = _; rw [HE.out, List.drop_eq_nil_of_le (by omega)]; rfl
            have HS2 : Hid (St w5 160 EA wr) := by show St _ _ _ _; rw [E2.out]; exact HS.out.mono (by omega)
            clear HE HS E2 HE0
            have gx := (HH.out.below' HS2.out.below).box
            have hgl := (HH.out.below' HS2.out.below).lt
            go_wp2
            go_loopg [93] p.length (fun k i wr => ∃ j : Nat, j + k = p.length ∧ i = .int .i64 j ∧ ∃ s, Hid (FW = fwK hs (hs.drop j) s) ∧ Hid (St w5 (160 + 512 * j) s wr))
            case atStart => exact ⟨0, by omega, rfl, EA, HFW, HS2⟩
            case round =>
              obtain ⟨j, hj, rfl, s, HE, HS⟩ := hrel
              clear HS2 gx hgl
              have hHw := HH.out.below' HS.out.below
              have gx := hHw.box
              have hgl := hHw.lt
              by_cases hlt : j < p.length
              · obtain ⟨kk, hkk⟩ : ∃ x, hs[j]? = some x := ⟨_, List.getElem?_eq_getElem (by have := HHL.out; omega)⟩
                obtain ⟨b1, o1, _, rfl, hb1, rfl, hc⟩ := Kind.sl_at hHw.hs hkk
                have d0 : wr.cell? ⟨b1, o1 + j, none⟩ = some (.string (bs kk)) := by simpa [strK] using hc 0 _ rfl
                have hkl := HHs.out kk (List.mem_of_getElem? hkk)
                have HST := hide (foldl_drop hkk (fun s k => fwA hs k s) s)
                clear hHw hc hkk
                have hjp : j < 16 := by omega
                generalize hbk : bs kk = bk at *
                have HBK := hide hbk
                clear hbk
                go_wp2
                go_loopg [99] p.length (fun k i wr => ∃ q : Nat, q + k = p.length ∧ i = .int .i64 q ∧ ∃ y, Hid (fwA hs kk s = (hs.drop q).foldl (fun s a => fwB hs kk a s) y) ∧ Hid (St w5 (160 + 512 * j + 32 * q) y wr))
                case atStart => exact ⟨0, by omega, rfl, s, (rfl : _ = _), HS⟩
                case round =>
                  obtain ⟨q, hq, rfl, y, HE2, HSy⟩ := hrel
                  clear HS gx hgl d0 hb1
                  have hHw := HH.out.below' HSy.out.below
                  have gx := hHw.box
                  have hgl := hHw.lt
                  by_cases hlq : q < p.length
                  · obtain ⟨aa, haa⟩ : ∃ x, hs[q]? = some x := ⟨_, List.getElem?_eq_getElem (by have := HHL.out; omega)⟩
                    obtain ⟨b2, o2, _, hbe, hb1, rfl, hc⟩ := Kind.sl_at hHw.hs haa
                    simp only [Option.some.injEq, Addr.mk.injEq, and_true] at hbe
                    obtain ⟨rfl, rfl⟩ := hbe
                    have d0 : wr.cell? ⟨b1, o1 + q, none⟩ = some (.string (bs aa)) := by simpa [strK] using hc 0 _ rfl
                    have hal := HHs.out aa (List.mem_of_getElem? haa)
                    have HST2 := hide (foldl_drop haa (fun s a => fwB hs kk a s) y)
                    clear hHw hc haa
                    generalize hba : bs aa = ba at *
                    have HBA := hide hba
                    clear hba
                    go_wp2
                    go_loopg [105] p.length (fun k i wr => ∃ t : Nat, t + k = p.length ∧ i = .int .i64 t ∧ ∃ z, Hid (fwB hs kk aa y = (hs.drop t).foldl (fun s b => fwStep kk aa b s) z) ∧ Hid (St w5 (160 + 512 * j + 32 * q + 2 * t) z wr))
                    case atStart => exact ⟨0, by omega, rfl, y, (rfl : _ = _), HSy⟩
                    case round =>
                      obtain ⟨t, ht, rfl, z, HE3, HSz⟩ := hrel
                      clear HSy gx hgl d0 hb1
                      have hHw := HH.out.below' HSz.out.below
                      by_cases hlt3 : t < p.length
                      · obtain ⟨bb, hbb⟩ : ∃ x, hs[t]? = some x := ⟨_, List.getElem?_eq_getElem (by have := HHL.out; omega)⟩
                        obtain ⟨b2, o2, _, hbe, hb1, rfl, hc⟩ := Kind.sl_at hHw.hs hbb
                        simp only [Option.some.injEq, Addr.mk.injEq, and_true] at hbe
                        obtain ⟨rfl, rfl⟩ := hbe
                        have d0 : wr.cell? ⟨b1, o1 + t, none⟩ = some (.string (bs bb)) := by simpa [strK] using hc 0 _ rfl
                        have hbl := HHs.out bb (List.mem_of_getElem? hbb)
                        have hst := foldl_drop hbb (fun s b => fwStep kk aa b s) z
                        clear hHw hc hbb
                        generalize hbz : bs bb = bz at *
                        have hW := ((Later.refl wr).alloc (.cells #[.string ba, .string bk] 60)).alloc (.cells #[.string bk, .string bz] 60)
                        have HSW := hide (HSz.out.later hW)
                        have l1 := HSW.out.look1 hal hkl
                        have l2 := HSW.out.look1 hkl hbl
                        rw [HBA.out, HBK.out] at l1
                        rw [hbz, HBK.out] at l2
                        have hm2 := HSz.out.m2.lt
                        clear hW HSz
                        cases h1 : z.1 aa kk
                        · have E4 : Hid (fwB hs kk aa y = (hs.drop (t + 1)).foldl (fun s b => fwStep kk aa b s) z) := by
                            show _ = _
                            rw [HE3.out, hst]; unfold fwStep; rw [h1]; rfl
                          rw [h1] at l1
                          clear hst HE3 h1 l2 hbz
                          go_wp2
                          go_roundg (p.length - (t + 1))
                          case measure => omega
                          case rel => exact ⟨t + 1, by omega, by go_num, z, E4, HSW.out.mono (by omega)⟩
                        · cases h2 : z.1 kk bb
                          · have E4 : Hid (fwB hs kk aa y = (hs.drop (t + 1)).foldl (fun s b => fwStep kk aa b s) z) := by
                              show _ = _
                              rw [HE3.out, hst]; unfold fwStep; rw [h1, h2]; rfl
                            rw [h1] at l1
                            rw [h2] at l2
                            clear hst HE3 h1 h2 hbz
                            go_wp2
                            go_roundg (p.length - (t + 1))
                            case measure => omega
                            case rel => exact ⟨t + 1, by omega, by go_num, z, E4, HSW.out.mono (by omega)⟩
                          · obtain ⟨w3, hup, hS3, hP3⟩ := HSW.out.put1 (by simp [maxLen]; omega) hal hbl
                            have l3 := hS3.look2 hal hkl
                            have l4 := hS3.look2 hkl hbl
                            dsimp only at l3 l4
                            have kz0 : w3.cell? ⟨wr.heap.size, 0, none⟩ = some (.string ba) := by
                              rw [hP3.cell (x := ⟨wr.heap.size, 0, none⟩) (by show _ ≤ wr.heap.size; omega) (by simp; omega)]; simp
                            have kz1 : w3.cell? ⟨wr.heap.size, 1, none⟩ = some (.string bk) := by
                              rw [hP3.cell (x := ⟨wr.heap.size, 1, none⟩) (by show _ ≤ wr.heap.size; omega) (by simp; omega)]; simp
                            have kz2 : w3.cell? ⟨wr.heap.size + 1, 0, none⟩ = some (.string bk) := by
                              rw [hP3.cell (x := ⟨wr.heap.size + 1, 0, none⟩) (by show _ ≤ wr.heap.size + 1; omega) (by simp)]; simp
                            have kz3 : w3.cell? ⟨wr.heap.size + 1, 1, none⟩ = some (.string bz) := by
                              rw [hP3.cell (x := ⟨wr.heap.size + 1, 1, none⟩) (by show _ ≤ wr.heap.size + 1; omega) (by simp)]; simp
                            rw [h1] at l1
                            rw [h2] at l2
                            rw [HBA.out, HBK.out] at l3
                            rw [hbz, HBK.out] at l4
                            rw [hbz, HBA.out] at hup
                            have HU := hide hup
                            cases h3 : (z.2 aa kk || z.2 kk bb)
                            · have E4 : Hid (fwB hs kk aa y = (hs.drop (t + 1)).foldl (fun s b => fwStep kk aa b s) (z.1.put aa bb, z.2)) := by
                                show _ = _
                                rw [HE3.out, hst]; unfold fwStep; rw [h1, h2, h3]; rfl
                              have HS3 := hide hS3
                              rw [Bool.or_eq_false_iff] at h3
                              rw [h3.1] at l3
                              rw [h3.2] at l4
                              clear hst HE3 h1 h2 h3 hbz hup hS3 hP3
                              go_wp2_with (first
                                | (at_mapUpdate; refine wpList_run_update _ rfl _ _ _ _ rfl _ _ _ _ rfl rfl rfl HU.out ?_)
                                | go_in)
                              go_roundg (p.length - (t + 1))
                              case measure => omega
                              case rel => exact ⟨t + 1, by omega, by go_num, _, E4, HS3.out.mono (by omega)⟩
                            · have E4 : Hid (fwB hs kk aa y = (hs.drop (t + 1)).foldl (fun s b => fwStep kk aa b s) (z.1.put aa bb, z.2.put aa bb)) := by
                                show _ = _
                                rw [HE3.out, hst]; unfold fwStep; rw [h1, h2, h3]; rfl
                              obtain ⟨w4, hup4, hS4, hP4⟩ := hS3.put2 (by simp [maxLen]; omega) hal hbl
                              rw [hbz, HBA.out] at hup4
                              have HU4 := hide hup4
                              have HS4 := hide hS4
                              clear hst HE3 h1 h2 hbz hup hS3 hP3 hup4 hS4 hP4
                              cases h4 : z.2 aa kk
                              · rw [h4, Bool.false_or] at h3
                                rw [h4] at l3
                                rw [h3] at l4
                                clear h3 h4
                                go_wp2_with (first
                                  | (at_mapUpdate; refine wpList_run_update _ rfl _ _ _ _ rfl _ _ _ _ rfl rfl rfl HU.out ?_)
                                  | (at_mapUpdate; refine wpList_run_update _ rfl _ _ _ _ rfl _ _ _ _ rfl rfl rfl HU4.out ?_)
                                  | go_in)
                                go_roundg (p.length - (t + 1))
                                case measure => omega
                                case rel => exact ⟨t + 1, by omega, by go_num, _, E4, HS4.out.mono (by omega)⟩
                              · rw [h4] at l3
                                clear h3 h4 l4
                                go_wp2_with (first
                                  | (at_mapUpdate; refine wpList_run_update _ rfl _ _ _ _ rfl _ _ _ _ rfl rfl rfl HU.out ?_)
                                  | (at_mapUpdate; refine wpList_run_update _ rfl _ _ _ _ rfl _ _ _ _ rfl rfl rfl HU4.out ?_)
                                  | go_in)
                                go_roundg (p.length - (t + 1))
                                case measure => omega
                                case rel => exact ⟨t + 1, by omega, by go_num, _, E4, HS4.out.mono (by omega)⟩
                      · have E4 : Hid (fwA hs kk s = (hs.drop (q + 1)).foldl (fun s a => fwB hs kk a s) z) := by
                          show _ = _
                          have e3 : fwB hs kk aa y = z := by rw [HE3.out, List.drop_eq_nil_of_le (by have := HHL.out; omega)]; rfl
                          rw [HE2.out, HST2.out]; show (hs.drop (q + 1)).foldl _ (fwB hs kk aa y) = _; rw [e3]
                        clear hHw
                        go_wp2
                        go_roundg (p.length - (q + 1))
                        case measure => omega
                        case rel => exact ⟨q + 1, by omega, by go_num, z, E4, HSz.out.mono (by omega)⟩
                  · have E4 : Hid (FW = fwK hs (hs.drop (j + 1)) y) := by
                      show _ = _
                      have e3 : fwA hs kk s = y := by rw [HE2.out, List.drop_eq_nil_of_le (by have := HHL.out; omega)]; rfl
                      have e4 : fwK hs (hs.drop j) s = (hs.drop (j + 1)).foldl (fun s k => fwA hs k s) (fwA hs kk s) := HST.out
                      rw [HE.out, e4, e3]; rfl
                    clear hHw
                    go_wp2
                    go_roundg (p.length - (j + 1))
                    case measure => omega
                    case rel => exact ⟨j + 1, by omega, by go_num, y, E4, HSy.out.mono (by omega)⟩
              · have E2 : Hid (FW = s) := by show _ = _; rw [HE.out, List.drop_eq_nil_of_le (by have := HHL.out; omega)]; rfl
                have HS7 : Hid (St w5 9000 FW wr) := by show St _ _ _ _; rw [E2.out]; exact HS.out.mono (by omega)
                clear HE HS E2 HFW hHw
                have HH7 := hide (HH.out.below' HS7.out.below)
                generalize hw7 : wr = w7 at *
                clear hw7
                go_wp2
                go_loopg [144] p.length (fun k i wr => ∃ j : Nat, j + k = p.length ∧ i = .int .i64 j ∧ Hid (∀ a ∈ hs.take j, FW.2 a a = false) ∧ wr = w7)
                case atStart => exact ⟨0, by omega, rfl, (fun a ha => by simp at ha), rfl⟩
                case round =>
                  obtain ⟨j, hj, rfl, HN, hwe⟩ := hrel
                  subst hwe
                  by_cases hlt : j < p.length
                  · obtain ⟨aa, haa⟩ : ∃ x, hs[j]? = some x := ⟨_, List.getElem?_eq_getElem (by have := HHL.out; omega)⟩
                    obtain ⟨b1, o1, _, rfl, hb1, rfl, hc⟩ := Kind.sl_at HH7.out.hs haa
                    have d0 : wr.cell? ⟨b1, o1 + j, none⟩ = some (.string (bs aa)) := by simpa [strK] using hc 0 _ rfl
                    have hal := HHs.out aa (List.mem_of_getElem? haa)
                    have l1 := HS7.out.look2 hal hal
                    clear hc
                    cases h1 : FW.2 aa aa
                    · have HN2 : Hid (∀ a ∈ hs.take (j + 1), FW.2 a a = false) := by
                        intro a ha
                        rw [List.take_add_one, haa] at ha
                        rcases List.mem_append.1 ha with h | h
                        · exact HN.out a h
                        · simp at h; rw [h]; exact h1
                      rw [h1] at l1
                      clear haa h1 HN
                      generalize bs aa = ba at *
                      go_wp2
                      go_roundg (p.length - (j + 1))
                      case measure => omega
                      case rel => exact ⟨j + 1, by omega, by go_num, HN2, rfl⟩
                    · have F2 : Hid (strataP p = ([], 10, 0)) := HNo.out aa (List.mem_of_getElem? haa) h1
                      rw [h1] at l1
                      have hR6 := HH7.out.row
                      have q0 : wr.cell? ⟨w.heap.size, 0, none⟩ = some (.int .i64 0) := (by rw [cell_of_row _ _ _ _ _ _ hR6]; rfl); have q1 : wr.cell? ⟨w.heap.size, 1, none⟩ = some (.int .i64 0) := (by rw [cell_of_row _ _ _ _ _ _ hR6]; rfl); have p0 : wr.frozen? ⟨w.heap.size, 0, none⟩ = false := frozen_rowC 0 hR6; have p1 : wr.frozen? ⟨w.heap.size, 1, none⟩ = false := frozen_rowC 1 hR6
                      clear hR6 haa h1 HN
                      generalize bs aa = ba at *
                      go_wp2
                      obtain ⟨r0, r1⟩ := fault_two HH7.out.row (.int .i64 10) (.int .i64 0)
                      refine bodyPost_ret (v := .tuple #[.slice none 0 0, .agg #[.int .i64 10, .int .i64 0]]) (by simp [results, Try.results11, go_sem, r0, r1]) rfl ⟨.slice none 0 0, by rw [F2.out]; rfl, by rw [F2.out]; exact intK.sl_nil _ _ _ _, ?_⟩
                      exact (HH7.out.below.setCell (Nat.le_refl _) _).setCell (Nat.le_refl _) _
                  · have F2 := hide (HYes.out fun a ha => HN.out a (by rw [List.take_of_length_le (by have := HHL.out; omega)]; exact ha))
                    clear HN HNo HYes HS7
                    generalize hw7 : wr = w7 at *
                    clear hw7
                    generalize hL : levs (hdOf hs) p (p.length + 1) (fun _ => 0) = L at *
                    have HL := hide hL
                    clear hL
                    have gx := HH7.out.box
                    have hgl := HH7.out.lt
                    go_wp2
                    go_loopg [159] (p.length + 1) (fun k i wr => ∃ t : Nat, t + k = p.length + 1 ∧ i = .int .i64 t ∧ ∃ m, Hid (L = levs (hdOf hs) p k (numOf m)) ∧ Hid (NumsM wr w7.heap.size (80 * t) m) ∧ Hid (∀ s, numOf m s ≤ 80 * t) ∧ Hid (Below w7.heap.size w7 wr))
                    case atStart => exact ⟨0, by omega, rfl, fun _ => none, HL.out.symm, NumM.made Try.prog 9 3 w7, (fun s => Nat.le_refl _), ((Later.refl w7).alloc _).below⟩
                    case round =>
                      obtain ⟨t, ht, rfl, m, HE, HM, HC, HB⟩ := hrel
                      clear gx hgl
                      by_cases hlt : t < p.length + 1
                      · obtain ⟨k, rfl⟩ : ∃ k', gk = k' + 1 := ⟨p.length - t, by omega⟩
                        have HE1 : Hid (L = levs (hdOf hs) p k (levAll (hdOf hs) p (numOf m))) := HE
                        have htz : (t : Int) < (p.length : Int) + 1 := by omega
                        clear HE
                        go_wp2
                        go_loopg [163] p.length (fun k i wr => ∃ j : Nat, j + k = p.length ∧ i = .int .i64 j ∧ ∃ m2, Hid (levAll (hdOf hs) p (numOf m) = (p.drop j).foldl (levRule (hdOf hs)) (numOf m2)) ∧ Hid (NumsM wr w7.heap.size (80 * t + 5 * j) m2) ∧ Hid (∀ s, numOf m2 s ≤ 80 * t + 5 * j) ∧ Hid (Below w7.heap.size w7 wr))
                        case atStart => exact ⟨0, by omega, rfl, m, (rfl : _ = _), HM, HC, HB⟩
                        case round =>
                          obtain ⟨j, hj, rfl, m2, HE2, HM2, HC2, HB2⟩ := hrel
                          clear HM HC HB
                          by_cases hltj : j < p.length
                          · obtain ⟨r, hr⟩ : ∃ x, p[j]? = some x := ⟨_, List.getElem?_eq_getElem hltj⟩
                            obtain ⟨b1, o1, _, rfl, hb1, ⟨sv, su, rfl, hsv, hsu⟩, hcl⟩ := Kind.sl_at HV.out hr
                            have hBw : Below w.heap.size w wr := below_trans HH7.out.below HB2.out HH7.out.below.size
                            have d0 : wr.cell? ⟨b1, o1 + j * 4, none⟩ = some (.bool r.head.no) := by rw [hBw.cell hb1]; exact hcl 0 _ rfl
                            have d1 : wr.cell? ⟨b1, o1 + j * 4 + 1, none⟩ = some (.string (bs r.head.name)) := by rw [hBw.cell hb1]; exact hcl 1 _ rfl
                            have d2 : wr.cell? ⟨b1, o1 + j * 4 + 2, none⟩ = some sv := by rw [hBw.cell hb1]; exact hcl 2 _ rfl
                            have d3 : wr.cell? ⟨b1, o1 + j * 4 + 3, none⟩ = some su := by rw [hBw.cell hb1]; exact hcl 3 _ rfl
                            have hbr : b1 < wr.heap.size := by have := hBw.size; omega
                            obtain ⟨f1, f2, f3⟩ := HFi.out r (List.mem_of_getElem? hr)
                            have HSt := hide (foldl_drop hr (levRule (hdOf hs)) (numOf m2))
                            obtain ⟨a2, c2, rfl⟩ := Kind.slice hsv
                            obtain ⟨a3, c3, rfl⟩ := Kind.slice hsu
                            have HSU := hide hsu
                            have HF3 := hide f3
                            have hbl : r.body.length ≤ 5 := f2
                            have hjp : j < 16 := by omega
                            clear hcl hr hsv hsu f3 f2 hBw
                            have HM3 := hide (HM2.out.later ((Later.refl wr).alloc (.cells #[.bool r.head.no, .string (bs r.head.name), .slice a2 r.head.terms.length c2, .slice a3 r.body.length c3] 33)))
                            have HB3 := hide (HB2.out.alloc HB2.out.size (.cells #[.bool r.head.no, .string (bs r.head.name), .slice a2 r.head.terms.length c2, .slice a3 r.body.length c3] 33))
                            have HZ1 : Hid ((wr.alloc (.cells #[.bool r.head.no, .string (bs r.head.name), .slice a2 r.head.terms.length c2, .slice a3 r.body.length c3] 33)).cell? ⟨wr.heap.size, 1, none⟩ = some (.string (bs r.head.name))) := by show _ = _; simp
                            have hR1 : wr.heap.size < (wr.alloc (.cells #[.bool r.head.no, .string (bs r.head.name), .slice a2 r.head.terms.length c2, .slice a3 r.body.length c3] 33)).heap.size := by simp
                            have hRM : w7.heap.size < wr.heap.size := HM2.out.lt
                            generalize hnm : bs r.head.name = nm at *
                            have HNM := hide hnm
                            clear hnm
                            generalize r.head.no = no at *
                            generalize hR : wr.heap.size = R at *
                            clear HM2 HB2
                            go_wp2
                            go_loopg [170] r.body.length (fun k i wr2 => ∃ q : Nat, q + k = r.body.length ∧ i = .int .i64 q ∧ ∃ m3, Hid (levRule (hdOf hs) (numOf m2) r = (r.body.drop q).foldl (levAtom (hdOf hs) r.head.name) (numOf m3)) ∧ Hid (NumsM wr2 w7.heap.size (80 * t + 5 * j + q) m3) ∧ Hid (∀ s, numOf m3 s ≤ 80 * t + 5 * j + q) ∧ Hid (Below w7.heap.size w7 wr2) ∧ R < wr2.heap.size ∧ wr2.cell? ⟨R, 1, none⟩ = some (.string nm))
                            case atStart =>
                              refine ⟨0, by omega, rfl, m2, (rfl : _ = _), ?_, HC2, ?_, ?_, ?_⟩
                              · first | exact HM3 | (subst hR; exact HM3)
                              · first | exact HB3 | (subst hR; exact HB3)
                              · first | exact hR1 | (subst hR; exact hR1)
                              · first | exact HZ1.out | (subst hR; exact HZ1.out)
                            case round =>
                              obtain ⟨q, hq, rfl, m3, HE3, HM4, HC4, HB4, hRs, z1⟩ := hrel
                              clear HM3 HB3 HZ1 hR1 d0 d1 d2 d3
                              by_cases hlq : q < r.body.length
                              · obtain ⟨a, ha⟩ : ∃ x, r.body[q]? = some x := ⟨_, List.getElem?_eq_getElem hlq⟩
                                obtain ⟨b2, o2, _, rfl, hb2, ⟨tv, rfl, htv⟩, hcl⟩ := Kind.sl_at HSU.out ha
                                have hBw : Below w.heap.size w wr := below_trans HH7.out.below HB4.out HH7.out.below.size
                                have d0 : wr.cell? ⟨b2, o2 + q * 3, none⟩ = some (.bool a.no) := by rw [hBw.cell hb2]; exact hcl 0 _ rfl
                                have d1 : wr.cell? ⟨b2, o2 + q * 3 + 1, none⟩ = some (.string (bs a.name)) := by rw [hBw.cell hb2]; exact hcl 1 _ rfl
                                have d2 : wr.cell? ⟨b2, o2 + q * 3 + 2, none⟩ = some tv := by rw [hBw.cell hb2]; exact hcl 2 _ rfl
                                have hbr2 : b2 < wr.heap.size := by have := hBw.size; omega
                                have hst := foldl_drop ha (levAtom (hdOf hs) r.head.name) (numOf m3)
                                have hal := HF3.out a (List.mem_of_getElem? ha)
                                obtain ⟨a4, c4, rfl⟩ := Kind.slice htv
                                have hLA := (Later.refl wr).alloc (.cells #[.bool a.no, .string (bs a.name), .slice a4 a.terms.length c4] 30)
                                have HMA := hide (HM4.out.later hLA)
                                have HBA := hide (below_trans HB4.out hLA.below HB4.out.size)
                                have hHA := HH7.out.below' HBA.out
                                have HHd := hide (headC hs _ G a.name _ hHA.box hHA.hs)
                                have l1 := NumM.look (T := 41) HMA.out Try.underlying9 Try.underlying3 Try.underlying41 (zeroInt _) hal
                                have l2 := NumM.look (T := 41) HMA.out Try.underlying9 Try.underlying3 Try.underlying41 (zeroInt _) f1
                                rw [HNM.out] at l2
                                clear hHA hcl ha htv hBw
                                have c1 := HC4.out a.name
                                have c2' := HC4.out r.head.name
                                obtain ⟨nn, hnn⟩ : ∃ nn, nn = (if a.no && hdOf hs a.name then numOf m3 a.name + 1 else numOf m3 a.name) := ⟨_, rfl⟩
                                have hnle : nn ≤ 80 * t + 5 * j + q + 1 := by rw [hnn]; split <;> omega
                                obtain ⟨w4, hup, hM5, hg5⟩ := NumM.store (T := 41) HMA.out Try.underlying9 Try.underlying3 Try.underlying41 (by simp [maxLen]; omega) f1 (x := max (numOf m3 r.head.name) nn) (wf_len (by omega))
                                rw [HNM.out] at hup
                                have E4 : Hid (levRule (hdOf hs) (numOf m2) r = (r.body.drop (q + 1)).foldl (levAtom (hdOf hs) r.head.name) (numOf (m3.put r.head.name (max (numOf m3 r.head.name) nn)))) := by
                                  show _ = _
                                  rw [HE3.out, hst]
                                  congr 1
                                  funext s
                                  rw [numOf_put]; unfold levAtom; rw [← hnn]
                                have HM5 := hide hM5
                                have HC5 : Hid (∀ s, numOf (m3.put r.head.name (max (numOf m3 r.head.name) nn)) s ≤ 80 * t + 5 * j + (q + 1)) := by
                                  intro s
                                  have := HC4.out s
                                  rw [numOf_put]; split <;> omega
                                have hT5 := Tn.of_grown hg5
                                have HB5 : Hid (Below w7.heap.size w7 w4) := below_trans HBA.out (hT5.below (n := w7.heap.size) (Nat.le_refl _) HBA.out.size) (Nat.le_refl _)
                                have kz4 : R < w4.heap.size := by have := hT5.size; simp at this; omega
                                have kz1 : w4.cell? ⟨R, 1, none⟩ = some (.string nm) := by
                                  rw [hT5.cell (x := ⟨R, 1, none⟩) (by simp; omega) (by show R ≠ _; omega), hLA.cell (p := ⟨R, 1, none⟩) hRs]; exact z1
                                generalize hn5 : m3.put r.head.name (max (numOf m3 r.head.name) nn) = m5 at *
                                clear hn5 hM5 hg5 hT5 hLA hst HE3 HM4 HC4 HB4
                                cases han : a.no
                                · have hv : nn = numOf m3 a.name := by rw [hnn, han]; rfl
                                  subst hv
                                  rw [han] at l1 l2 hup d0
                                  clear hnn han HHd
                                  generalize bs a.name = na at *
                                  generalize numOf m3 a.name = ln at *
                                  generalize numOf m3 r.head.name = lh at *
                                  by_cases hlm : lh < ln
                                  · have hmx : (((max lh ln : Nat)) : Int) = (ln : Int) := by omega
                                    have hmz : max (lh : Int) (ln : Int) = (ln : Int) := by omega
                                    rw [hmx] at hup
                                    have HU := hide hup
                                    clear hup hmx
                                    go_wp2_with (first
                                      | (at_mapUpdate; refine wpList_run_update _ rfl _ _ _ _ rfl _ _ _ _ rfl rfl rfl HU.out ?_)
                                      | go_in)
                                    go_roundg (r.body.length - (q + 1))
                                    case measure => omega
                                    case rel => exact ⟨q + 1, by omega, by go_num, m5, E4, HM5, HC5, HB5, kz4, kz1⟩
                                  · have hmx : (((max lh ln : Nat)) : Int) = (lh : Int) := by omega
                                    have hmz : max (lh : Int) (ln : Int) = (lh : Int) := by omega
                                    rw [hmx] at hup
                                    have HU := hide hup
                                    clear hup hmx
                                    go_wp2_with (first
                                      | (at_mapUpdate; refine wpList_run_update _ rfl _ _ _ _ rfl _ _ _ _ rfl rfl rfl HU.out ?_)
                                      | go_in)
                                    go_roundg (r.body.length - (q + 1))
                                    case measure => omega
                                    case rel => exact ⟨q + 1, by omega, by go_num, m5, E4, HM5, HC5, HB5, kz4, kz1⟩
                                · cases hh : hdOf hs a.name
                                  · have hv : nn = numOf m3 a.name := by rw [hnn, han, hh]; rfl
                                    subst hv
                                    rw [hh] at HHd
                                    rw [han] at l1 l2 hup d0 HHd
                                    clear hnn han hh
                                    generalize bs a.name = na at *
                                    generalize numOf m3 a.name = ln at *
                                    generalize numOf m3 r.head.name = lh at *
                                    by_cases hlm : lh < ln
                                    · have hmx : (((max lh ln : Nat)) : Int) = (ln : Int) := by omega
                                      have hmz : max (lh : Int) (ln : Int) = (ln : Int) := by omega
                                      rw [hmx] at hup
                                      have HU := hide hup
                                      clear hup hmx
                                      go_wp2_with fail
                                      refine HHd.out.mono ?_
                                      rintro e w' ⟨rfl, rfl⟩
                                      go_wp2_with (first
                                        | (at_mapUpdate; refine wpList_run_update _ rfl _ _ _ _ rfl _ _ _ _ rfl rfl rfl HU.out ?_)
                                        | go_in)
                                      go_roundg (r.body.length - (q + 1))
                                      case measure => omega
                                      case rel => exact ⟨q + 1, by omega, by go_num, m5, E4, HM5, HC5, HB5, kz4, kz1⟩
                                    · have hmx : (((max lh ln : Nat)) : Int) = (lh : Int) := by omega
                                      have hmz : max (lh : Int) (ln : Int) = (lh : Int) := by omega
                                      rw [hmx] at hup
                                      have HU := hide hup
                                      clear hup hmx
                                      go_wp2_with fail
                                      refine HHd.out.mono ?_
                                      rintro e w' ⟨rfl, rfl⟩
                                      go_wp2_with (first
                                        | (at_mapUpdate; refine wpList_run_update _ rfl _ _ _ _ rfl _ _ _ _ rfl rfl rfl HU.out ?_)
                                        | go_in)
                                      go_roundg (r.body.length - (q + 1))
                                      case measure => omega
                                      case rel => exact ⟨q + 1, by omega, by go_num, m5, E4, HM5, HC5, HB5, kz4, kz1⟩
                                  · have hv : nn = numOf m3 a.name + 1 := by rw [hnn, han, hh]; rfl
                                    subst hv
                                    rw [hh] at HHd
                                    rw [han] at l1 l2 hup d0 HHd
                                    clear hnn han hh
                                    generalize bs a.name = na at *
                                    generalize numOf m3 a.name = ln at *
                                    generalize numOf m3 r.head.name = lh at *
                                    by_cases hlm : lh < ln + 1
                                    · have hmx : (((max lh (ln + 1) : Nat)) : Int) = (ln : Int) + 1 := by omega
                                      have hmz : max (lh : Int) ((ln : Int) + 1) = (ln : Int) + 1 := by omega
                                      have hlz : (lh : Int) < (ln : Int) + 1 := by omega
                                      rw [hmx] at hup
                                      have HU := hide hup
                                      clear hup hmx
                                      go_wp2_with fail
                                      refine HHd.out.mono ?_
                                      rintro e w' ⟨rfl, rfl⟩
                                      go_wp2_with (first
                                        | (at_mapUpdate; refine wpList_run_update _ rfl _ _ _ _ rfl _ _ _ _ rfl rfl rfl HU.out ?_)
                                        | go_in)
                                      go_roundg (r.body.length - (q + 1))
                                      case measure => omega
                                      case rel => exact ⟨q + 1, by omega, by go_num, m5, E4, HM5, HC5, HB5, kz4, kz1⟩
                                    · have hmx : (((max lh (ln + 1) : Nat)) : Int) = (lh : Int) := by omega
                                      have hmz : max (lh : Int) ((ln : Int) + 1) = (lh : Int) := by omega
                                      have hlz : ¬ (lh : Int) < (ln : Int) + 1 := by omega
                                      rw [hmx] at hup
                                      have HU := hide hup
                                      clear hup hmx
                                      go_wp2_with fail
                                      refine HHd.out.mono ?_
                                      rintro e w' ⟨rfl, rfl⟩
                                      go_wp2_with (first
                                        | (at_mapUpdate; refine wpList_run_update _ rfl _ _ _ _ rfl _ _ _ _ rfl rfl rfl HU.out ?_)
                                        | go_in)
                                      go_roundg (r.body.length - (q + 1))
                                      case measure => omega
                                      case rel => exact ⟨q + 1, by omega, by go_num, m5, E4, HM5, HC5, HB5, kz4, kz1⟩
                              · have E4 : Hid (levAll (hdOf hs) p (numOf m) = (p.drop (j + 1)).foldl (levRule (hdOf hs)) (numOf m3)) := by
                                  show _ = _
                                  have e3 : levRule (hdOf hs) (numOf m2) r = numOf m3 := by rw [HE3.out, List.drop_eq_nil_of_le (by omega)]; rfl
                                  rw [HE2.out, HSt.out, e3]
                                go_wp2
                                go_roundg (p.length - (j + 1))
                                case measure => omega
                                case rel => exact ⟨j + 1, by omega, by go_num, m3, E4, HM4.out.mono (by omega), fun s => by have := HC4.out s; omega, HB4⟩
                          · have E4 : Hid (L = levs (hdOf hs) p k (numOf m2)) := by
                              show _ = _
                              have e3 : levAll (hdOf hs) p (numOf m) = numOf m2 := by rw [HE2.out, List.drop_eq_nil_of_le (by omega)]; rfl
                              rw [HE1.out, e3]
                            go_wp2
                            go_roundg k
                            case measure => omega
                            case rel => exact ⟨t + 1, by omega, by go_num, m2, E4, HM2.out.mono (by omega), fun s => by have := HC2.out s; omega, HB2⟩
                      · obtain rfl : gk = 0 := by omega
                        have htz : ¬ (t : Int) < (p.length : Int) + 1 := by omega
                        have HE0 : Hid (L = numOf m) := HE
                        have HH8 := hide (HH7.out.below' HB.out)
                        clear HE HC HB HH7
                        subst HE0
                        have HM8 := hide HM.out
                        generalize hw8 : wr = w8 at *
                        clear hw8 HM
                        go_wp2
                        go_loopg [31, 204] p.length (fun k o i wr => ∃ j : Nat, j + k = p.length ∧ i = .int .i64 j ∧ Hid (intK.own 3 w8.heap.size wr o (each m (p.take j))) ∧ Hid (Below w8.heap.size w8 wr))
                        case atStart => exact ⟨0, by omega, rfl, intK.own_nil _ _ _, Below.refl _ _⟩
                        case round =>
                          obtain ⟨j, hj, rfl, HO, HB⟩ := hrel
                          obtain ⟨ao2, co2, rfl⟩ := Kind.own_slice HO.out
                          have hwr := HB.out.size
                          have hm8 := HM8.out.lt
                          by_cases hlt : j < p.length
                          · obtain ⟨r, hr⟩ : ∃ x, p[j]? = some x := ⟨_, List.getElem?_eq_getElem hlt⟩
                            obtain ⟨b1, o1, _, rfl, hb1, ⟨sv, su, rfl, hsv, hsu⟩, hcl⟩ := Kind.sl_at HV.out hr
                            have hBw : Below w.heap.size w wr := below_trans HH8.out.below HB.out HH8.out.below.size
                            have d0 : wr.cell? ⟨b1, o1 + j * 4, none⟩ = some (.bool r.head.no) := by rw [hBw.cell hb1]; exact hcl 0 _ rfl
                            have d1 : wr.cell? ⟨b1, o1 + j * 4 + 1, none⟩ = some (.string (bs r.head.name)) := by rw [hBw.cell hb1]; exact hcl 1 _ rfl
                            have d2 : wr.cell? ⟨b1, o1 + j * 4 + 2, none⟩ = some sv := by rw [hBw.cell hb1]; exact hcl 2 _ rfl
                            have d3 : wr.cell? ⟨b1, o1 + j * 4 + 3, none⟩ = some su := by rw [hBw.cell hb1]; exact hcl 3 _ rfl
                            have hbr : b1 < wr.heap.size := by have := hBw.size; omega
                            have E := hide (each_step hr m)
                            have hlen : (each m (p.take j)).length = j := by simp [each]; omega
                            have f1 := (HFi.out r (List.mem_of_getElem? hr)).1
                            have hlk := hide (NumM.look (T := 41) ((HM8.out.below HB.out).later ((Later.refl wr).alloc (.cells #[.bool r.head.no, .string (bs r.head.name), sv, su] 33))) Try.underlying9 Try.underlying3 Try.underlying41 (zeroInt _) f1)
                            have hOA := Kind.own_turned HO.out ((Tn.refl w7.heap.size wr).alloc (.cells #[.bool r.head.no, .string (bs r.head.name), sv, su] 33)) hm8
                            obtain ⟨v', w4, hrun, o4, g4⟩ := appendIntC hOA (x := numOf m r.head.name) (by rw [hlen]; omega) (by simp; omega)
                            have HO4 : Hid (intK.own 3 w8.heap.size w4 v' (each m (p.take (j + 1)))) := by show intK.own _ _ _ _ _; rw [E.out]; exact o4
                            have HB4 : Hid (Below w8.heap.size w8 w4) := by
                              refine below_trans ((HB.out.alloc hwr _).alloc (by simp; omega) _) ⟨g4.os, g4.tape, g4.output, g4.size, fun k hk => g4.block k (by simp; omega) (fun e => ?_)⟩ (Nat.le_refl _)
                              have := (Kind.own_lt hOA e.symm).1
                              omega
                            rw [hlen] at hrun
                            simp only [World.size_alloc] at hrun
                            replace hrun := hide hrun
                            rw [hlen]
                            obtain ⟨a2, c2, rfl⟩ := Kind.slice hsv
                            obtain ⟨a3, c3, rfl⟩ := Kind.slice hsu
                            clear hcl hr hsv hsu hOA o4 g4 HO HB E f1 hBw
                            clear hlen
                            generalize numOf m r.head.name = nu at *
                            generalize bs r.head.name = nm at *
                            generalize r.head.no = no at *
                            go_wp2_with (first
                              | (at_lookup; refine wpList_run_lookup _ rfl _ _ _ _ rfl _ _ _ rfl rfl (unhide hlk) ?_)
                              | (at_builtin; refine wpList_append_run rfl (.tmp 208) (.tmp 214) 37 rfl _ _ _ _ rfl rfl (unhide hrun) ?_)
                              | go_in)
                            go_roundg (p.length - (j + 1))
                            case measure => omega
                            case rel => exact ⟨j + 1, by omega, by go_num, HO4, HB4⟩
                          · have e : j = p.length := by omega
                            subst e
                            have hO := HO.out
                            rw [List.take_length] at hO ⊢
                            have HU8 := hide (Kind.own_sl hO (by simp [each]; omega))
                            have HH9 := hide (HH8.out.below' HB.out)
                            have hR6 := HH9.out.row
                            have hw8 := HH8.out.lo
                            have q0 : wr.cell? ⟨w.heap.size, 0, none⟩ = some (.int .i64 0) := (by rw [cell_of_row _ _ _ _ _ _ hR6]; rfl); have q1 : wr.cell? ⟨w.heap.size, 1, none⟩ = some (.int .i64 0) := (by rw [cell_of_row _ _ _ _ _ _ hR6]; rfl); have p0 : wr.frozen? ⟨w.heap.size, 0, none⟩ = false := frozen_rowC 0 hR6; have p1 : wr.frozen? ⟨w.heap.size, 1, none⟩ = false := frozen_rowC 1 hR6
                            have F3 : Hid (strataP p = (each m p, 0, 0)) := F2.out
                            clear hR6 hO HO HB F2
                            generalize (each m p).length = ne at *
                            go_wp2
                            obtain ⟨r0, r1⟩ := fault_two HH9.out.row (.int .i64 0) (.int .i64 0)
                            refine bodyPost_ret (v := .tuple #[.slice ao2 ne co2, .agg #[.int .i64 0, .int .i64 0]]) (by simp [results, Try.results11, go_sem, r0, r1]) rfl ⟨.slice ao2 ne co2, by rw [F3.out]; rfl, ?_, ?_⟩
                            · rw [F3.out]
                              exact Kind.sl_mono (Kind.sl_setCell (Kind.sl_setCell HU8.out hw8 _) hw8 _) fun k _ hk => by have : w8.heap.size ≤ k := hk; show w.heap.size ≤ k; omega
                            · exact (HH9.out.below.setCell (Nat.le_refl _) _).setCell (Nat.le_refl _) _
  · have F : Hid (strataP p = ([], ex, ea)) := by show _ = _; unfold strataP; rw [hwp, if_neg h0]
    have hq : (ex != 0) = true := by simpa using h0
    clear h0 hwp HV
    go_enter Try.func11, Try.ntmps11
    go_wp2_with (go_at_call 5; refine HW.out.mono ?_; rintro e w2 ⟨rfl, hB2, hR2, hs2⟩; have q0 : w2.cell? ⟨w.heap.size, 0, none⟩ = some (.int .i64 0) := (by rw [cell_of_row _ _ _ _ _ _ hR2]; rfl); have q1 : w2.cell? ⟨w.heap.size, 1, none⟩ = some (.int .i64 0) := (by rw [cell_of_row _ _ _ _ _ _ hR2]; rfl); have p0 : w2.frozen? ⟨w.heap.size, 0, none⟩ = false := frozen_rowC 0 hR2; have p1 : w2.frozen? ⟨w.heap.size, 1, none⟩ = false := frozen_rowC 1 hR2; replace hR2 := hide hR2)
    go_region
    go_wp2
    obtain ⟨r0, r1⟩ := fault_two (unhide hR2) (.int .i64 ex) (.int .i64 (ea : Int))
    have hL := ((Later.refl ((w2.setCell ⟨w.heap.size, 0, none⟩ (.int .i64 ex)).setCell ⟨w.heap.size, 1, none⟩ (.int .i64 (ea : Int)))).alloc (.cells #[.int .i64 ex, .int .i64 (ea : Int)] 26)).drew
    rw [← hL.cell (p := ⟨w.heap.size, 0, none⟩) (by simp only [size_setCell]; exact hs2)] at r0
    rw [← hL.cell (p := ⟨w.heap.size, 1, none⟩) (by simp only [size_setCell]; exact hs2)] at r1
    refine bodyPost_ret (v := .tuple #[.slice none 0 0, .agg #[.int .i64 ex, .int .i64 (ea : Int)]]) (by simp [results, Try.results11, go_sem, r0, r1]) rfl ⟨.slice none 0 0, by rw [F.out], by rw [F.out]; exact intK.sl_nil _ _ _ _, ?_⟩
    exact below_trans ((hB2.out.setCell (Nat.le_refl _) _).setCell (Nat.le_refl _) _) hL.below (by simp only [size_setCell]; exact Nat.le_of_lt hs2)

end Go.Proofs.Ythngiikhgplldaa

/- Two faults that are one are not apart. -/
namespace Go.Proofs.Ythngiikhgplldaa

theorem neqFault (x y : Int) (w : World) : (binOp .neq 26 (.agg #[.int .i64 x, .int .i64 y]) (.agg #[.int .i64 x, .int .i64 y])).run Try.prog w = .ok (.bool false) w := by
  go_simp

end Go.Proofs.Ythngiikhgplldaa
