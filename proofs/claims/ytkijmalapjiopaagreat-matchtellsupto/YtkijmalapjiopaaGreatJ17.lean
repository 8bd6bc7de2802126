/- Texts of this claim, one behind the other. -/
import Derived.Test.YtkijmalapjiopaaGreatJ15
import Derived.Test.YtkijmalapjiopaaGreatJ13
import Derived.Test.YtkijmalapjiopaaGreatJ12
import Derived.Test.YtkijmalapjiopaaGreatJ14
import Derived.Test.YtkijmalapjiopaaGreatJ16
import Derived.Test.YtkijmalapjiopaaGreatJ9
import Derived.BigQuiet
import Derived.Test.YtkijmalapjiopaaGreatJ6
/- The document's answer: the walk of ref.Set. -/
namespace Go.Proofs.YtkijmalapjiopaaGreat
open Go.RowKit Go.Sort

set_option maxHeartbeats 2000000 in
theorem rSetC (v : Value) (l : List FactD) (w : World) (hf : Facts w v l) (hok : ∀ k, okF (l.getD k noFact)) :
    Calls Tryz.prog 22 #[v] w fun e w' => e = .returned (.agg #[.int .i64 (setFault l).1, .int .i64 (setFault l).2]) ∧ Later w w' := by
  have mx := mixed
  have HF := hide hf
  have HOK := hide hok
  obtain ⟨a, cap, rfl, hn, hz⟩ := hf.addr
  clear hf hok
  by_cases hbig : 200 < l.length
  · have e : setFault l = (5, 0) := by unfold setFault; rw [if_pos hbig]
    rw [e]
    go_enter Tryz.func22, Tryz.ntmps22
    go_wp2
    exact bodyPost_ret (v := .agg #[.int .i64 5, .int .i64 0]) (by simp [results, Tryz.results22, go_sem]) rfl ⟨rfl, (by repeat (first | exact Later.refl _ | assumption | refine Later.drewN ?_ _ | refine Later.drew ?_ | refine Later.alloc ?_ _ | refine Later.grow ?_ _))⟩
  · have e : setFault l = faultFrom l l.length 0 := by unfold setFault; rw [if_neg hbig]
    rw [e]
    clear e
    go_enter Tryz.func22, Tryz.ntmps22
    go_wp2
    go_loopw [12] (fun i wr => ∃ k : Nat, k ≤ l.length ∧ i = .int .i64 k ∧ Later (w.alloc (.cells #[.int .i64 0, .int .i64 0] 61)) wr ∧ Hid (faultFrom l l.length 0 = faultFrom l (l.length - k) k)) (fun i _ => l.length - (intOf i).toNat)
    case atStart => exact ⟨0, by omega, rfl, Later.refl _, (rfl : _ = _)⟩
    case round =>
      obtain ⟨k, hk, rfl, hL, HE⟩ := hrel
      have hL0 : Later w wr := ((Later.refl _).alloc _).trans hL
      have hsz : w.heap.size < wr.heap.size := by have := hL.size; simp at this; omega
      by_cases hlt : k < l.length
      · rcases hz with rfl | ⟨b, off, rfl⟩
        · simp at hlt
        have hltz : (k : Int) < (l.length : Int) := by omega
        obtain ⟨hb, ax, lx, cx, g1, g2, fx⟩ := (HF.out.later hL0).at hlt
        have hst := faultFrom_step l hlt
        have HWr : Hid (∀ w', Later wr w' → Calls Tryz.prog 47 #[.agg #[.string (l.getD k noFact).1, .slice ax lx cx]] w' fun e w'' => e = .returned (.int .i64 (wrongF (l.getD k noFact))) ∧ Later w' w'') :=
          fun w' hw => rWrong _ _ w' (fx.later hw) (HOK.out k)
        have FX := hide fx
        clear fx
        by_cases hwz : wrongF (l.getD k noFact) = 0
        · rw [if_neg (by omega)] at hst
          rw [hwz] at HWr
          by_cases hk0 : k = 0
          · have F : Hid (faultFrom l l.length 0 = faultFrom l (l.length - (k + 1)) (k + 1)) := by show _ = _; rw [HE.out, hst, if_neg (by omega)]
            have hd : decide (0 < k) = false := by rw [decide_eq_false_iff_not]; omega
            clear hk0
            generalize (l.getD k noFact).1 = nk at *
            clear hst
            go_wp2_with fail
            refine (HWr.out _ ((Later.refl _).alloc _)).mono ?_
            rintro e w1 ⟨rfl, hL1⟩
            go_wp2
            go_quiet (fail)
            go_wp2
            go_roundw
            case rel => exact ⟨k + 1, by omega, by go_num, (hL.trans (((Later.refl _).alloc _).trans hL1)).drewN _, F⟩
            case measure => simp [intOf]; omega
          · obtain ⟨j, rfl⟩ : ∃ j, k = j + 1 := ⟨k - 1, by omega⟩
            rw [Nat.add_sub_cancel] at hst
            have hjl : j < l.length := by omega
            have hjz : (j : Int) < (l.length : Int) := by omega
            have hd : (0 : Int) < (j : Int) + 1 := by omega
            have hwj : IntKind.i64.wrap (j : Int) = (j : Int) := wrap_nat j (by omega)
            generalize hfk : l.getD (j + 1) noFact = f at *
            have HFK := hide hfk
            clear hfk
            obtain ⟨nk, lk⟩ := f
            dsimp only at *
            go_wp2_with fail
            refine (HWr.out _ ((Later.refl _).alloc _)).mono ?_
            rintro e w1 ⟨rfl, hL1⟩
            have hLR : Later (w.alloc (.cells #[.int .i64 0, .int .i64 0] 61)) w1 := hL.trans (((Later.refl _).alloc _).trans hL1)
            have hL01 : Later w w1 := ((Later.refl _).alloc _).trans hLR
            have hR : w1.heap[w.heap.size]? = some (.cells #[.int .i64 0, .int .i64 0] 61 (0, 0)) := by rw [hLR.block (by simp), heap_alloc_new]
            have q0 : w1.cell? ⟨w.heap.size, 0, none⟩ = some (.int .i64 0) := by rw [cell_of_row _ _ _ _ _ _ hR]; rfl
            have q1 : w1.cell? ⟨w.heap.size, 1, none⟩ = some (.int .i64 0) := by rw [cell_of_row _ _ _ _ _ _ hR]; rfl
            have p0 : w1.frozen? ⟨w.heap.size, 0, none⟩ = false := frozen_of_row 0 hR
            have p1 : w1.frozen? ⟨w.heap.size, 1, none⟩ = false := frozen_of_row 1 hR
            have HRR := hide hR
            clear hR
            have hLw : Later wr w1 := ((Later.refl _).alloc _).trans hL1
            obtain ⟨ay, ly, cy, y1, y2, fy⟩ := (HF.out.later hL01).grown hjl
            have b0 := cell_later hL1 (p := ⟨wr.heap.size, 0, none⟩) (v := .string nk) (by simp) (by simp)
            have b1 := cell_later hL1 (p := ⟨wr.heap.size, 1, none⟩) (v := .slice ax lx cx) (by simp) (by simp)
            have hC : ∀ q os, Calls Tryz.prog 29 #[.agg #[.string (l.getD j noFact).1, .slice ay ly cy], .agg #[.string nk, .slice ax lx cx]] (grow (w1.drewN q) os) fun e w'' => e = .returned (.bool (lessF (l.getD j noFact) (nk, lk))) ∧ Later (grow (w1.drewN q) os) w'' :=
              fun q os => rLess _ _ _ _ _ (fy.later ⟨q, os, rfl⟩) ((FX.out.later hLw).later ⟨q, os, rfl⟩)
            unfold lessF at hC
            have HC := hide hC
            clear hC fy
            generalize cmpF (l.getD j noFact) (nk, lk) = cm at *
            generalize (l.getD j noFact).1 = nj at *
            by_cases hcm : 0 ≤ cm
            · rw [decide_eq_false (by omega)] at HC
              have F : Hid (faultFrom l l.length 0 = (2, ((j + 1 : Nat) : Int))) := by show _ = _; rw [HE.out, hst, if_pos ⟨by omega, hcm⟩]
              clear hst
              go_wp2
              go_quiet_grown ((go_at_call 29; exact Calls.grown_of (HC.out _ _)))
              dsimp only
              have hLW : Later w1 (grow (w1.drewN nq) osq) := ⟨_, _, rfl⟩
              generalize grow (w1.drewN nq) osq = w2 at hLW ⊢
              have hR : w2.heap[w.heap.size]? = some (.cells #[.int .i64 0, .int .i64 0] 61 (0, 0)) := by rw [hLW.block (by have := hLw.size; omega)]; exact HRR.out
              have q0 : w2.cell? ⟨w.heap.size, 0, none⟩ = some (.int .i64 0) := by rw [cell_of_row _ _ _ _ _ _ hR]; rfl
              have q1 : w2.cell? ⟨w.heap.size, 1, none⟩ = some (.int .i64 0) := by rw [cell_of_row _ _ _ _ _ _ hR]; rfl
              have p0 : w2.frozen? ⟨w.heap.size, 0, none⟩ = false := frozen_of_row 0 hR
              have p1 : w2.frozen? ⟨w.heap.size, 1, none⟩ = false := frozen_of_row 1 hR
              have HR2 := hide hR
              clear hR
              go_wp2
              obtain ⟨r0, r1⟩ := fault_cells HR2.out (.int .i64 2) (.int .i64 ((j : Int) + 1))
              refine bodyPost_ret (v := .agg #[.int .i64 2, .int .i64 ((j : Int) + 1)]) (by simp [results, Tryz.results22, go_sem, r0, r1]) rfl ⟨ret_fault (by rw [F.out]; simp), ?_⟩
              exact ((hL01.trans hLW).setCell (Nat.le_refl _) _).setCell (Nat.le_refl _) _
            · rw [decide_eq_true (by omega)] at HC
              have F : Hid (faultFrom l l.length 0 = faultFrom l (l.length - (j + 1 + 1)) (j + 1 + 1)) := by show _ = _; rw [HE.out, hst, if_neg (fun h => hcm h.2)]
              clear hst
              go_wp2
              go_quiet_grown ((go_at_call 29; exact Calls.grown_of (HC.out _ _)))
              go_wp2
              go_roundw
              case rel => exact ⟨j + 1 + 1, by omega, by go_num, hLR.trans ⟨_, _, rfl⟩, F⟩
              case measure => simp [intOf]; omega
        · have F : Hid (faultFrom l l.length 0 = (wrongF (l.getD k noFact), (k : Int))) := by show _ = _; rw [HE.out, hst, if_pos hwz]
          have hwz' : (wrongF (l.getD k noFact) == 0) = false := by simpa using hwz
          generalize wrongF (l.getD k noFact) = we at *
          generalize (l.getD k noFact).1 = nk at *
          clear hst
          go_wp2_with fail
          refine (HWr.out _ ((Later.refl _).alloc _)).mono ?_
          rintro e w1 ⟨rfl, hL1⟩
          have hLR : Later (w.alloc (.cells #[.int .i64 0, .int .i64 0] 61)) w1 := hL.trans (((Later.refl _).alloc _).trans hL1)
          have hL01 : Later w w1 := ((Later.refl _).alloc _).trans hLR
          have hR : w1.heap[w.heap.size]? = some (.cells #[.int .i64 0, .int .i64 0] 61 (0, 0)) := by rw [hLR.block (by simp), heap_alloc_new]
          have q0 : w1.cell? ⟨w.heap.size, 0, none⟩ = some (.int .i64 0) := by rw [cell_of_row _ _ _ _ _ _ hR]; rfl
          have q1 : w1.cell? ⟨w.heap.size, 1, none⟩ = some (.int .i64 0) := by rw [cell_of_row _ _ _ _ _ _ hR]; rfl
          have p0 : w1.frozen? ⟨w.heap.size, 0, none⟩ = false := frozen_of_row 0 hR
          have p1 : w1.frozen? ⟨w.heap.size, 1, none⟩ = false := frozen_of_row 1 hR
          have HRR := hide hR
          clear hR
          go_wp2
          obtain ⟨r0, r1⟩ := fault_cells HRR.out (.int .i64 we) (.int .i64 k)
          refine bodyPost_ret (v := .agg #[.int .i64 we, .int .i64 k]) (by simp [results, Tryz.results22, go_sem, r0, r1]) rfl ⟨ret_fault (by rw [F.out]), ?_⟩
          exact (hL01.setCell (Nat.le_refl _) _).setCell (Nat.le_refl _) _
      · have F : Hid (faultFrom l l.length 0 = (0, 0)) := by show _ = _; rw [HE.out, show l.length - k = 0 by omega]; rfl
        have q0 : wr.cell? ⟨w.heap.size, 0, none⟩ = some (.int .i64 0) := by rw [hL.cell (by simp)]; simp
        have q1 : wr.cell? ⟨w.heap.size, 1, none⟩ = some (.int .i64 0) := by rw [hL.cell (by simp)]; simp
        have p0 : wr.frozen? ⟨w.heap.size, 0, none⟩ = false := by rw [hL.frozen (by simp)]; simp
        have p1 : wr.frozen? ⟨w.heap.size, 1, none⟩ = false := by rw [hL.frozen (by simp)]; simp
        go_wp2
        have hR : wr.heap[w.heap.size]? = some (.cells #[.int .i64 0, .int .i64 0] 61 (0, 0)) := by rw [hL.block (by simp), heap_alloc_new]
        obtain ⟨r0, r1⟩ := fault_cells hR (.int .i64 0) (.int .i64 0)
        refine bodyPost_ret (v := .agg #[.int .i64 0, .int .i64 0]) (by simp [results, Tryz.results22, go_sem, r0, r1]) rfl ⟨ret_fault (by rw [F.out]), ?_⟩
        exact (hL0.setCell (Nat.le_refl _) _).setCell (Nat.le_refl _) _

end Go.Proofs.YtkijmalapjiopaaGreat

/- The walk of the reference's With: its answer is the program's. -/
namespace Go.Proofs.YtkijmalapjiopaaGreat
open Go.RowKit Go.Sort Go.Maps

theorem withT_err {w : World} {body : List AtomD} {fs os : List FactD} {at_ : Int} {e : Int} (h : errW body fs os = e) (h0 : e ≠ 0) : WithT w (.slice none 0 0) e body fs at_ os := by
  unfold WithT
  rw [if_pos (by rw [h]; exact h0)]
  exact ⟨rfl, h.symm⟩

theorem withT_none {w : World} {body : List AtomD} {fs os : List FactD} {at_ : Int} (h : errW body fs os = 0) (hm : metGo (pickB fs at_ os) 0 body [[]] = none) : WithT w (.slice none 0 0) 4 body fs at_ os := by
  unfold WithT
  rw [if_neg (by rw [h]; simp)]
  have : allB (pickB fs at_ os) body = none := by unfold allB; rw [hm]
  rw [this]
  exact ⟨rfl, rfl⟩

theorem withT_some {w : World} {v : Value} {body : List AtomD} {fs os : List FactD} {at_ : Int} {R : List (List BindD)} (h : errW body fs os = 0) (hm : allB (pickB fs at_ os) body = some R) (hv : listK.sl Anyw w v R) : WithT w v 0 body fs at_ os := by
  unfold WithT
  rw [if_neg (by rw [h]; simp), hm]
  exact ⟨rfl, hv⟩

theorem pick_nodup {fs os : List FactD} {at_ : Int} (h1 : (setFault fs).1 = 0) (h2 : (setFault os).1 = 0) (i : Nat) : (pickB fs at_ os i).Nodup := by
  unfold pickB
  split
  · exact rises_nodup (set_right h2).2.1
  · exact rises_nodup (set_right h1).2.1

theorem below4 {n : Nat} {a b : World} (h : Below n a b) (q : Nat) : Below n a (b.drewN q) := ⟨h.os, h.tape, h.output, h.size, h.block⟩

theorem metGo_small (pick : Nat → List FactB) : ∀ (ats : List AtomD) (n : Nat) (ls ms : List (List BindD)), ls.length ≤ 20000 → metGo pick n ats ls = some ms → ms.length ≤ 20000
  | [], _, ls, ms, h, e => by cases e; exact h
  | a :: ats, n, ls, ms, h, e => by
    unfold metGo at e
    split at e
    · exact metGo_small pick ats _ ls ms h e
    · split at e
      · cases e
      · exact metGo_small pick ats _ _ ms (by omega) e

theorem posVars_len : ∀ (ats : List AtomD) (K : List Bs), (∀ a ∈ ats, a.terms.length ≤ 4) → (posVars K ats).length ≤ K.length + 4 * ats.length
  | [], K, _ => by simp [posVars]
  | a :: ats, K, h => by
    rw [posVars_cons]
    have h1 := posVars_len ats (if a.no then K else varsGo K a.terms) fun b hb => h b (by simp [hb])
    have h2 := varsGo_len a.terms K
    have h3 := h a (by simp)
    cases hno : a.no with
    | true => rw [hno] at h1; simp only [if_true, List.length_cons] at h1 ⊢; omega
    | false => rw [hno] at h1; simp only [Bool.false_eq_true, if_false, List.length_cons] at h1 ⊢; omega

theorem small_met {fs os : List FactD} {at_ : Int} {body : List AtomD} {ms : List (List BindD)} (hb : wrongBody body = 0) (hm : metGo (pickB fs at_ os) 0 body [[]] = some ms) : ∀ l ∈ ms, l.length ≤ 20 := fun l hl => by
  have h := ((met_mem (pickB fs at_ os) body 0 [[]] ms [] (fun x hx => by simp at hx; subst hx; rfl) hm l).1 hl).2.1
  obtain ⟨h5, ha⟩ := body_right hb
  have h1 := posVars_len body [] fun a hx => (wrongAtom_zero (ha a hx)).2.1
  have h2 := congrArg List.length h
  have e : (keysB l).length = l.length := by unfold keysB; rw [List.length_map]
  rw [e, List.length_map] at h2
  simp only [List.length_nil] at h1
  omega

theorem sortB_len (l : List BindD) : (sortB l).length = l.length := (sortBy_perm _).length_eq

theorem keys_met {fs os : List FactD} {at_ : Int} {body : List AtomD} {ms : List (List BindD)} (hm : metGo (pickB fs at_ os) 0 body [[]] = some ms) : ∀ l ∈ ms, (keysB l).Nodup := fun l hl => by
  rw [((met_mem (pickB fs at_ os) body 0 [[]] ms [] (fun x hx => by simp at hx; subst hx; rfl) hm l).1 hl).2.1]
  exact posKeys_nodup body

set_option maxRecDepth 100000 in
set_option maxHeartbeats 2000000 in
theorem rWith (body : List AtomD) (v fv ov : Value) (fs os : List FactD) (at_ : Int) (w : World) (hv : atomK.sl Anyw w v body) (hf : Facts w fv fs) (ho : Facts w ov os) (hk : ∀ a ∈ body, longA a) (hokf : ∀ k, okF (fs.getD k noFact)) (hoko : ∀ k, okF (os.getD k noFact)) :
    Calls Tryz.prog 5 #[v, fv, .int .i64 at_, ov] w fun e w' => ∃ v' er, e = .returned (.tuple #[v', .int .i64 er]) ∧ WithT w' v' er body fs at_ os ∧ Below w.heap.size w w' := by
  have HB := hide (rWrongBody body v w hv hk)
  have HF : Hid (∀ w1, Below w.heap.size w w1 → Calls Tryz.prog 22 #[fv] w1 fun e w' => e = .returned (.agg #[.int .i64 (setFault fs).1, .int .i64 (setFault fs).2]) ∧ Hid (Below w.heap.size w w')) := fun w1 h1 =>
    (rSetC fv fs w1 (hf.below h1) hokf).mono fun e w' ⟨he, hL⟩ => ⟨he, below_trans h1 hL.below h1.size⟩
  have HO : Hid (∀ w1, Below w.heap.size w w1 → Calls Tryz.prog 22 #[ov] w1 fun e w' => e = .returned (.agg #[.int .i64 (setFault os).1, .int .i64 (setFault os).2]) ∧ Hid (Below w.heap.size w w')) := fun w1 h1 =>
    (rSetC ov os w1 (ho.below h1) hoko).mono fun e w' ⟨he, hL⟩ => ⟨he, below_trans h1 hL.below h1.size⟩
  have HEn : Hid (wrongBody body = 0 → (setFault fs).1 = 0 → (setFault os).1 = 0 → ∀ w1, Below w.heap.size w w1 → Calls Tryz.prog 23 #[v, fv, .int .i64 at_, ov] w1 fun e w' => ∃ v er, e = .returned (.tuple #[v, .int .i64 er]) ∧ EnvsM w' v er (pickB fs at_ os) body (metGo (pickB fs at_ os) 0 body [[]]) ∧ Hid (Below w.heap.size w w')) := fun e0 e1 e2 w1 h1 =>
    (rEnvs body fs os at_ v fv ov w1 (Kind.sl_below hv h1) (hf.below h1) (ho.below h1) e0 e1 e2).mono fun e w' ⟨v, er, he, hE, hB⟩ => ⟨v, er, he, hE, below_trans h1 hB h1.size⟩
  have hEW : errW body fs os = if wrongBody body ≠ 0 then wrongBody body else if (setFault fs).1 ≠ 0 then (setFault fs).1 else (setFault os).1 := rfl
  have HEW := hide hEW
  obtain ⟨a, cap, rfl⟩ := Kind.slice hv
  obtain ⟨fa, fc, rfl⟩ := sliceFacts hf
  obtain ⟨oa, oc, rfl⟩ := sliceFacts ho
  clear hv hf ho hk hokf hoko hEW
  obtain ⟨f1, hf1⟩ : ∃ f, f = (setFault fs).1 := ⟨_, rfl⟩
  obtain ⟨o1, ho1⟩ : ∃ f, f = (setFault os).1 := ⟨_, rfl⟩
  obtain ⟨eb, heb⟩ : ∃ f, f = wrongBody body := ⟨_, rfl⟩
  obtain ⟨f2, hf2⟩ : ∃ f, f = (setFault fs).2 := ⟨_, rfl⟩
  obtain ⟨o2, ho2⟩ : ∃ f, f = (setFault os).2 := ⟨_, rfl⟩
  have HF1 := hide hf1
  have HO1 := hide ho1
  have HEB := hide heb
  rw [← hf1, ← heb, ← ho1] at HEW HEn
  rw [← hf1, ← hf2] at HF
  rw [← ho1, ← ho2] at HO
  rw [← heb] at HB
  clear hf1 ho1 heb hf2 ho2
  by_cases h0 : eb = 0
  · subst h0
    by_cases h1 : f1 = 0
    · subst h1
      have HE0 : Hid (errW body fs os = o1) := by show _ = _; rw [HEW.out]; simp
      clear HEW
      go_enter Tryz.func5, Tryz.ntmps5
      go_wp2_with fail
      refine HB.out.mono ?_
      rintro e w1 ⟨rfl, hB1⟩
      have H1 := hide (HF.out w1 hB1)
      clear HB HF hB1
      go_wp2_with fail
      refine H1.out.mono ?_
      rintro e w2 ⟨rfl, hB2⟩
      have H2 := hide (HO.out (w2.alloc (.cells #[.int .i64 0, .int .i64 f2] 61)) (hB2.out.alloc hB2.out.size _))
      clear HO H1 hB2
      go_wp2_with fail
      refine H2.out.mono ?_
      rintro e w3 ⟨rfl, hB3⟩
      by_cases h2 : o1 = 0
      · subst h2
        have H3 := hide (HEn.out (by trivial) (by trivial) (by trivial) (w3.alloc (.cells #[.int .i64 0, .int .i64 o2] 61)) (hB3.out.alloc hB3.out.size _))
        clear H2 hB3 HEn
        go_wp2_with fail
        refine H3.out.mono ?_
        rintro e w4 ⟨ev, er, rfl, hE, hB4⟩
        clear H3
        cases hm : metGo (pickB fs at_ os) 0 body [[]] with
        | none =>
          rw [hm] at hE
          obtain ⟨rfl, rfl⟩ := hE
          have HW := hide (fun w => withT_none (w := w) HE0.out hm)
          clear hm
          go_wp2
          exact bodyPost_ret (v := .tuple #[.slice none 0 0, .int .i64 4]) (by simp [results, Tryz.results5, go_sem]) rfl ⟨_, 4, rfl, HW.out _, hB4.out⟩
        | some ms =>
          rw [hm] at hE
          obtain ⟨rfl, hsl⟩ := hE
          have hms := metGo_small (pickB fs at_ os) body 0 [[]] ms (by simp) hm
          have hfl := Nat.le_trans (List.length_filter_le (fun l => !barredB (pickB fs at_ os) 0 body l) ms) hms
          have HKN : Hid (∀ l ∈ ms.filter (fun l => !barredB (pickB fs at_ os) 0 body l), (keysB l).Nodup) := fun l hl => keys_met hm l (List.mem_filter.1 hl).1
          have HFin : Hid (∀ R, (R.Pairwise fun a b => cmpBs a b < 0) → (∀ x, x ∈ R ↔ ∃ l ∈ ms.filter (fun l => !barredB (pickB fs at_ os) 0 body l), x = sortB l) → allB (pickB fs at_ os) body = some R) := fun R h1 h2 => with_of (covers_of HEB.out.symm) (pick_nodup HF1.out.symm HO1.out.symm) hm h1 h2
          have HSm : Hid (∀ ps : List (Value × List BindD), ps.map (·.2) = (ms.filter fun l => !barredB (pickB fs at_ os) 0 body l).map sortB → ∀ p ∈ ps, p.2.length ≤ 8796093022208) := fun ps he p hp => by
            have h1 : p.2 ∈ ps.map (·.2) := List.mem_map.2 ⟨p, hp, rfl⟩
            rw [he] at h1
            obtain ⟨l, hl, e⟩ := List.mem_map.1 h1
            rw [← e, sortB_len]
            exact Nat.le_trans (small_met HEB.out.symm hm l (List.mem_filter.1 hl).1) (by omega)
          have HSl := hide hsl
          obtain ⟨ea, ec, rfl⟩ := Kind.slice hsl
          clear hm hms hsl
          generalize (ms.filter fun l => !barredB (pickB fs at_ os) 0 body l) = L at *
          have hlt4 : w4.heap.size ≤ w4.heap.size := Nat.le_refl _
          go_wp2
          go_loopg [15, 50] L.length (fun g o i wr => ∃ j : Nat, j + g = L.length ∧ i = .int .i64 j ∧ ∃ ps, Hid (ps.map (·.2) = (L.take j).map sortB) ∧ Hid (Lists 24 34 w4.heap.size wr o ps) ∧ Hid (Below w4.heap.size w4 wr))
          case atStart => exact ⟨0, by omega, rfl, [], (by simp : _ = _), Lists.nil _ _ _ _, Below.refl _ _⟩
          case round =>
            obtain ⟨j, hj, rfl, ps, HP, HO, HW⟩ := hrel
            obtain ⟨oa', on, oc', rfl⟩ : ∃ a n c, u15 = .slice a n c := by obtain ⟨a, c, e⟩ := Lists.slice HO.out; exact ⟨a, _, c, e⟩
            by_cases hlt : j < L.length
            · obtain ⟨l, hl⟩ : ∃ x, L[j]? = some x := ⟨_, List.getElem?_eq_getElem hlt⟩
              obtain ⟨b1, o1', _, e1, hb1, ⟨bl, rfl, _, hel⟩, hc⟩ := Kind.sl_at HSl.out hl
              subst e1
              have d0 : wr.cell? ⟨b1, o1' + j, none⟩ = some (.map (some bl)) := by rw [HW.out.cell (p := ⟨b1, o1' + j, none⟩) hb1]; simpa [envK] using hc 0 _ rfl
              have HBi := hide (rBinds l bl 20 wr (hel.below HW.out) (HKN.out l (List.mem_of_getElem? hl)) (by omega))
              have HP1 : Hid (∀ u : Value, (ps ++ [(u, sortB l)]).map (·.2) = (L.take (j + 1)).map sortB) := fun u => by
                rw [List.map_append, HP.out, List.take_add_one, hl, List.map_append]; rfl
              have hpl : ps.length = j := by
                have := congrArg List.length HP.out
                rw [List.length_map, List.length_map, List.length_take] at this
                omega
              clear hc hl hel HP
              go_wp2_with fail
              refine HBi.out.mono ?_
              rintro e w5 ⟨v5, rfl, hv5, hB5⟩
              have hs5 := hB5.size
              have hsr := HW.out.size
              have hO5 := HO.out.kept (w' := w5) fun k hk _ => hB5.block k hk
              have hap := HO.out.apartOf hv5 (by omega)
              obtain ⟨v', w6, hrun, hO6, hg6, hd6⟩ := hO5.more (own_base hv5 (lo' := w4.heap.size) (by omega)) hap.1 hap.2 (by omega) (by omega)
              have HB6 : Hid (Below w4.heap.size w4 w6) := (below_trans HW.out (hB5.alloc hs5 _) hsr).grown hg6 (by simp; omega) (fun k e => hO5.lo_le k e)
              obtain ⟨a5, n5, c5, rfl⟩ : ∃ a n c, v5 = .slice a n c := by obtain ⟨a, c, e⟩ := Kind.own_slice hv5; exact ⟨a, _, c, e⟩
              obtain ⟨a6, n6, c6, rfl⟩ : ∃ a n c, v' = .slice a n c := by obtain ⟨a, c, e⟩ := Lists.slice hO6; exact ⟨a, _, c, e⟩
              have HR6 := hide hrun
              have HO6 := hide hO6
              clear hrun hO6 hg6 hd6 hO5 hap hv5 hB5 hs5 hsr HBi hpl d0
              go_wp2_with (at_builtin; refine wpList_append_run rfl (.tmp 54) (.tmp 57) 25 rfl _ _ _ _ rfl rfl HR6.out ?_)
              go_roundg (L.length - (j + 1))
              case measure => omega
              case rel => exact ⟨j + 1, by omega, by go_num, _, HP1.out _, HO6, HB6⟩
            · have e : L.take j = L := List.take_of_length_le (by omega)
              have hpe := HP.out
              rw [e] at hpe
              have hpl : ps.length = L.length := by
                have := congrArg List.length hpe
                rw [List.length_map, List.length_map] at this
                omega
              have hps : ∀ p ∈ ps, p.2.length ≤ 8796093022208 := HSm.out ps hpe
              have hls := Lists.sl HO.out (by omega) hps
              rw [hpe] at hls
              have HMg := hide (rMerge L.length (L.map sortB) (.slice oa' on oc') wr (by simp) (by simp; omega) (Kind.sl_any hls))
              clear e hpe hpl hps hls HP HO
              go_wp2_with fail
              refine HMg.out.mono ?_
              rintro e w7 ⟨v7, R, rfl, hR, hRp, hRm, hRl, hB7⟩
              have HAll := hide (HFin.out R hRp fun x => by rw [hRm, List.mem_map]; exact ⟨fun ⟨l, hl, e⟩ => ⟨l, hl, e.symm⟩, fun ⟨l, hl, e⟩ => ⟨l, hl, e.symm⟩⟩)
              have HR := hide hR
              obtain ⟨a7, n7, c7, rfl⟩ : ∃ a n c, v7 = .slice a n c := by obtain ⟨a, c, e⟩ := Kind.slice hR; exact ⟨a, _, c, e⟩
              have HB7 := hide (below_trans hB4.out (below_trans HW.out hB7 HW.out.size) hB4.out.size)
              clear hR hRp hRm hRl hB7 HMg
              go_wp2
              exact bodyPost_ret (v := .tuple #[.slice a7 n7 c7, .int .i64 0]) (by simp [results, Tryz.results5, go_sem]) rfl ⟨_, 0, rfl, withT_some HE0.out HAll.out HR.out, HB7.out⟩
      · have hq : (o1 != 0) = true := by simpa using h2
        have HW := hide (fun w => withT_err (w := w) (at_ := at_) HE0.out h2)
        clear H2 h2 HEn
        go_wp2
        go_quiet (fail)
        go_wp2
        exact bodyPost_ret (v := .tuple #[.slice none 0 0, .int .i64 o1]) (by simp [results, Tryz.results5, go_sem]) rfl ⟨_, o1, rfl, HW.out _, below4 (hB3.out.alloc hB3.out.size _) _⟩
    · have hq : (f1 != 0) = true := by simpa using h1
      have HW := hide (fun w => withT_err (w := w) (body := body) (fs := fs) (os := os) (at_ := at_) (e := f1) (by rw [HEW.out]; simp [h1]) h1)
      clear h1 HEn HEW HO
      go_enter Tryz.func5, Tryz.ntmps5
      go_wp2_with fail
      refine HB.out.mono ?_
      rintro e w1 ⟨rfl, hB1⟩
      have H1 := hide (HF.out w1 hB1)
      clear HB HF hB1
      go_wp2_with fail
      refine H1.out.mono ?_
      rintro e w2 ⟨rfl, hB2⟩
      clear H1
      go_wp2
      go_quiet (fail)
      go_wp2
      exact bodyPost_ret (v := .tuple #[.slice none 0 0, .int .i64 f1]) (by simp [results, Tryz.results5, go_sem]) rfl ⟨_, f1, rfl, HW.out _, below4 (hB2.out.alloc hB2.out.size _) _⟩
  · have hq : (eb != 0) = true := by simpa using h0
    have HW := hide (fun w => withT_err (w := w) (body := body) (fs := fs) (os := os) (at_ := at_) (e := eb) (by rw [HEW.out]; simp [h0]) h0)
    clear h0 HEn HEW HO HF
    go_enter Tryz.func5, Tryz.ntmps5
    go_wp2_with fail
    refine HB.out.mono ?_
    rintro e w1 ⟨rfl, hB1⟩
    have HB1 := hide hB1
    clear HB hB1
    go_wp2
    exact bodyPost_ret (v := .tuple #[.slice none 0 0, .int .i64 eb]) (by simp [results, Tryz.results5, go_sem]) rfl ⟨_, eb, rfl, HW.out _, HB1.out⟩

end Go.Proofs.YtkijmalapjiopaaGreat

/- What MatchTells asks of maps, and of With's answers. -/
namespace Go.Proofs.YtkijmalapjiopaaGreat
open Go.RowKit Go.Sort Go.Maps Go.MapKept Go.WideShapes
open Go.WideElems (Fit rd rg rd_key rg_of)

/-- What With tells: an error, and lists. -/
def withE (body : List AtomD) (fs : List FactD) (at_ : Int) (os : List FactD) : Int := if errW body fs os ≠ 0 then errW body fs os else match allB (pickB fs at_ os) body with
  | none => 4
  | some _ => 0
def withL (body : List AtomD) (fs : List FactD) (at_ : Int) (os : List FactD) : List (List BindD) := if errW body fs os ≠ 0 then [] else (allB (pickB fs at_ os) body).getD []

theorem withT_lists {w : World} {v : Value} {er : Int} {body : List AtomD} {fs os : List FactD} {at_ : Int} (h : WithT w v er body fs at_ os) : er = withE body fs at_ os ∧ listK.sl Anyw w v (withL body fs at_ os) := by
  unfold WithT at h
  unfold withE withL
  split at h
  · rename_i h0
    rw [if_pos h0, if_pos h0, h.1]
    exact ⟨h.2, Kind.sl_nil _ _ _ _ _⟩
  · rename_i h0
    rw [if_neg h0, if_neg h0]
    cases e : allB (pickB fs at_ os) body with
    | none =>
      rw [e] at h
      rw [h.1]
      exact ⟨h.2, Kind.sl_nil _ _ _ _ _⟩
    | some R =>
      rw [e] at h
      exact h

theorem len_sub {α : Type} [DecidableEq α] : ∀ {s t : List α}, s.Nodup → (∀ x ∈ s, x ∈ t) → s.length ≤ t.length
  | [], _, _, _ => Nat.zero_le _
  | a :: s, t, hn, h => by
    have hn' := List.nodup_cons.1 hn
    obtain ⟨t1, t2, rfl⟩ := List.append_of_mem (h a (by simp))
    have := len_sub (t := t1 ++ t2) hn'.2 fun f hf => by
      have h1 := h f (by simp [hf])
      simp only [List.mem_append, List.mem_cons] at h1 ⊢
      rcases h1 with h1 | rfl | h1
      · exact Or.inl h1
      · exact absurd hf hn'.1
      · exact Or.inr h1
    simp only [List.length_cons, List.length_append] at this ⊢; omega

/-- A map of texts has as many entries as it tells variables. -/
theorem EnvM.size {w : World} {b n : Nat} {l : List BindD} {D : DataW Unit} (hown : w.ownsMap Tryz.prog 9 (plainElem Tryz.prog 9) b n D) (hD : ∀ s : Bs, Maps.has D (.string s) = (getB l (bs s)).isSome) (hn : (keysB l).Nodup) : Maps.size D = l.length := by
  have htd := hown.tidy (string_keyed Tryz.underlying9)
  obtain ⟨es, clock, hb, F, _, rfl⟩ := hown
  obtain ⟨E, hE⟩ : ∃ E : List (Lit × DataW Unit), E = (es.toList.map (rg Tryz.prog 9 (plainElem Tryz.prog 9))).foldr DataW.insert [] := ⟨_, rfl⟩
  have hstr : ∀ p ∈ E, ∃ s : Bs, p.1 = .string s := fun p hp => by
    rw [hE] at hp
    have hp' := (sorted_perm _).mem_iff.1 hp
    obtain ⟨x, hx, rfl⟩ := List.mem_map.1 hp'
    obtain ⟨y, hy⟩ := F.reads x hx
    rw [rg_of hy]
    obtain ⟨x', _, hx', _⟩ := Maps.keyOf_str Tryz.underlying9 (rd_key hy)
    exact ⟨x', hx'⟩
  rw [← hE] at hD htd ⊢
  obtain ⟨es', he', hpw⟩ := htd
  injection he' with he'
  subst he'
  have hf : ∀ p ∈ E, ∀ s, p.1 = .string s → bs s ∈ keysB l := fun p hp s hs => by
    have h1 := hD s
    have h2 : Maps.has (.map E : DataW Unit) (.string s) = true := by
      show E.any _ = true
      exact List.any_eq_true.2 ⟨p, hp, by rw [hs]; exact WideAt.sameKey_self (keyS s)⟩
    rw [h2] at h1
    refine Classical.byContradiction fun hno => ?_
    rw [getB_none.2 hno] at h1
    cases h1
  have hg : ∀ k ∈ keysB l, ∃ p ∈ E, p.1 = .string (raw k) := fun k hk => by
    have h1 := hD (raw k)
    rw [bs_raw] at h1
    obtain ⟨s, hs⟩ := getB_isSome hk
    rw [hs] at h1
    obtain ⟨p, hp, hq⟩ := List.any_eq_true.1 (show E.any (fun p => p.1.sameKey (.string (raw k))) = true from h1)
    exact ⟨p, hp, WideAt.sameKey_eq hq⟩
  obtain ⟨g, hgd⟩ : ∃ g : Lit → ByteArray, g = fun k => match k with | .string s => bs s | _ => ByteArray.empty := ⟨_, rfl⟩
  have hgs : ∀ s, g (.string s) = bs s := fun s => by rw [hgd]
  have e1 : (E.map fun p => g p.1).length = E.length := List.length_map _
  have e2 : (keysB l).length = l.length := by unfold keysB; rw [List.length_map]
  show E.length = l.length
  refine Nat.le_antisymm ?_ ?_
  · rw [← e1, ← e2]
    refine len_sub ?_ fun k hk => ?_
    · rw [List.Nodup, List.pairwise_map]
      refine List.Pairwise.imp_of_mem ?_ hpw
      intro p q hp hq hne heq
      obtain ⟨s, hs⟩ := hstr p hp
      obtain ⟨t, ht⟩ := hstr q hq
      rw [hs, ht, hgs, hgs] at heq
      rw [hs, ht, bs_inj heq] at hne
      exact hne rfl
    · obtain ⟨p, hp, rfl⟩ := List.mem_map.1 hk
      obtain ⟨s, hs⟩ := hstr p hp
      rw [hs, hgs]
      exact hf p hp s hs
  · rw [← e1, ← e2]
    refine len_sub hn fun k hk => ?_
    obtain ⟨p, hp, hs⟩ := hg k hk
    exact List.mem_map.2 ⟨p, hp, by rw [hs, hgs, bs_raw]⟩

theorem EnvM.len {w : World} {b n : Nat} {l : List BindD} (h : EnvM w b n l) (hn : (keysB l).Nodup) (ty : TypeId) : (Builtin.len_ #[32] ty #[.map (some b)]).run Tryz.prog w = .ok (.int .i64 l.length) w := by
  obtain ⟨D, hown, hf⟩ := h
  rw [hown.len Tryz.underlying32 ty, EnvM.size hown (fun s => (hf s).1) hn]

set_option maxRecDepth 100000 in
theorem EnvM.get {w : World} {b n : Nat} {l : List BindD} (h : EnvM w b n l) {k : ByteArray} (hs : k.size ≤ maxLen) : (Instr.lookup 32 (.map (some b)) (.string k) false).run Tryz.prog w = .ok (.string ((getB l k).getD ByteArray.empty)) w := by
  have hl := h.look (s := raw k) (by rw [length_raw]; exact hs)
  rw [bs_raw] at hl
  obtain ⟨D, hown, hf⟩ := h
  obtain ⟨h1, h2⟩ := hf (raw k)
  rw [bs_raw] at h1 h2
  obtain ⟨v, ps, hrun, hv⟩ := hown.lookup (string_keyed Tryz.underlying9) Tryz.underlying32 (zeroStrE w) (plainElem_string Tryz.underlying9 (by simp)) (key_mk Tryz.underlying9 (s := raw k) (by rw [length_raw]; exact hs))
  rw [bs_raw] at hrun
  obtain ⟨t, rfl, hz, _⟩ := plainElem_string_inv Tryz.underlying9 hv
  simp only [Prod.mk.injEq] at hz
  rw [hrun]
  cases hg : getB l k with
  | none =>
    rw [hg] at h1
    have h3 := Maps.atKey_of_not_has (D := D) (k := .string (raw k)) h1 (.lit (.string (ByteArray.empty).data.toList))
    rw [h3] at hz
    have hz := hz.1
    injection hz with hz
    injection hz with hz
    have : t = ByteArray.empty := by apply raw_inj; exact hz.symm
    rw [this]; rfl
  | some x =>
    rw [h2 x hg] at hz
    have hz := hz.1
    injection hz with hz
    injection hz with hz
    have : t = x := by apply raw_inj; exact hz.symm
    rw [this]; rfl

/-- What is met has each variable once, if what was there has. -/
theorem meet_keys {a : AtomD} {f : FactB} {l m : List BindD} (hn : (keysB l).Nodup) (h : meetB a f l = some m) : (keysB m).Nodup := by
  have hk : keysB l = ((keysB l).map raw).map bs := by
    rw [List.map_map]
    conv => lhs; rw [← List.map_id (keysB l)]
    exact List.map_congr_left fun x _ => (bs_raw x).symm
  rw [(meetB_ok hk h).2.1]
  refine nodup_map_bs (varsGo_nodup _ ?_)
  rw [List.Nodup, List.pairwise_map]
  exact hn.imp fun {a b} hne e => hne (by rw [← bs_raw a, ← bs_raw b, e])

end Go.Proofs.YtkijmalapjiopaaGreat

/- The law's own walk of MatchTells. -/
namespace Go.Proofs.YtkijmalapjiopaaGreat
open Go.RowKit Go.Sort Go.Maps

theorem meet_short {a : AtomD} {f : FactB} {l m : List BindD} (hl : ∀ x ∈ l, x.1.size ≤ maxLen) (ht : ∀ t ∈ a.terms, t.2.length ≤ maxLen) (h : meetB a f l = some m) : ∀ x ∈ m, x.1.size ≤ maxLen := fun x hx => by
  have hk : keysB l = ((keysB l).map raw).map bs := by
    rw [List.map_map]
    conv => lhs; rw [← List.map_id (keysB l)]
    exact List.map_congr_left fun x _ => (bs_raw x).symm
  have h1 : x.1 ∈ keysB m := List.mem_map.2 ⟨x, hx, rfl⟩
  rw [(meetB_ok hk h).2.1] at h1
  obtain ⟨v, hv, e⟩ := List.mem_map.1 h1
  rcases (mem_varsGo _).1 hv with h2 | ⟨t, ht', _, e2⟩
  · obtain ⟨y, hy, e3⟩ := List.mem_map.1 h2
    obtain ⟨z, hz, e4⟩ := List.mem_map.1 hy
    have := hl z hz
    rw [← e, ← e3, bs_raw, ← e4]; exact this
  · rw [← e, ← e2]
    have := ht t ht'
    rw [show (bs t.2).size = t.2.length by rw [← length_raw, raw_bs]]
    exact this

theorem sameF_self (f : FactD) : sameF f f = true := by
  unfold sameF
  have := three_cmpF.swap f f
  exact decide_eq_true (by omega)

theorem meetB_len {a : AtomD} {f : FactB} {l m : List BindD} (h : meetB a f l = some m) : m.length ≤ l.length + a.terms.length := by
  have hk : keysB l = ((keysB l).map raw).map bs := by
    rw [List.map_map]
    conv => lhs; rw [← List.map_id (keysB l)]
    exact List.map_congr_left fun x _ => (bs_raw x).symm
  have h1 := congrArg List.length (meetB_ok hk h).2.1
  have h2 := varsGo_len a.terms ((keysB l).map raw)
  have e : ∀ q : List BindD, (keysB q).length = q.length := fun q => by unfold keysB; rw [List.length_map]
  rw [e, List.length_map] at h1
  rw [List.length_map, e] at h2
  omega

set_option maxRecDepth 100000 in
set_option maxHeartbeats 8000000 in
theorem matchTellsW (bv fv ov lv : Value) (body : List AtomD) (fs os : List FactD) (l : List BindD) (at_ : Int) (w : World) (hb : atomK.sl Anyw w bv body) (hf : Facts w fv fs) (ho : Facts w ov os) (hl : bindK.sl Anyw w lv l)
    (hk : ∀ a ∈ body, longA a) (hka : ∀ a ∈ body, a.terms.length ≤ 2000000 ∧ ∀ t ∈ a.terms, t.2.length ≤ maxLen) (hokf : ∀ k, okF (fs.getD k noFact)) (hoko : ∀ k, okF (os.getD k noFact)) (hfs : ∀ f ∈ fs, ∀ s ∈ f.2, s.size ≤ maxLen) (hln : l.length ≤ 2000000) (hlk : ∀ x ∈ l, x.1.size ≤ maxLen ∧ x.2.size ≤ maxLen) :
    Calls Tryz.prog 3 #[bv, fv, .int .i64 at_, ov, lv] w fun e w' => e = .returned (.bool true) ∧ Below w.heap.size w w' := by
  have HW1 := hide (withC body bv fv ov fs os at_ w hb hf ho)
  have HW2 : Hid (∀ w1, Below w.heap.size w w1 → Calls Tryz.prog 5 #[bv, fv, .int .i64 at_, ov] w1 fun e w' => ∃ v' er, e = .returned (.tuple #[v', .int .i64 er]) ∧ WithT w' v' er body fs at_ os ∧ Hid (Below w1.heap.size w1 w')) := fun w1 h1 =>
    rWith body bv fv ov fs os at_ w1 (Kind.sl_below hb h1) (hf.below h1) (ho.below h1) hk hokf hoko
  have HW3 : Hid (∀ w1, Below w.heap.size w w1 → Calls Tryz.prog 7 #[bv, fv] w1 fun e w' => ∃ v' er, e = .returned (.tuple #[v', .int .i64 er]) ∧ WithT w' v' er body fs (-1) [] ∧ Hid (Below w1.heap.size w1 w')) := fun w1 h1 =>
    allC body bv fv fs w1 (Kind.sl_below hb h1) (hf.below h1)
  have HW4 : Hid (∀ w1, Below w.heap.size w w1 → Calls Tryz.prog 5 #[bv, fv, .int .i64 (-1), .slice none 0 0] w1 fun e w' => ∃ v' er, e = .returned (.tuple #[v', .int .i64 er]) ∧ WithT w' v' er body fs (-1) [] ∧ Hid (Below w1.heap.size w1 w')) := fun w1 h1 =>
    rWith body bv fv (.slice none 0 0) fs [] (-1) w1 (Kind.sl_below hb h1) (hf.below h1) (facts_nil w1) hk hokf (fun k => by simp [okF, noFact])
  have HBd := hide hb
  have HFa := hide hf
  have HLi := hide hl
  have HKA := hide hka
  have HFS := hide hfs
  have HLK := hide hlk
  obtain ⟨ba, bc, rfl⟩ := Kind.slice hb
  obtain ⟨fa, fc, rfl⟩ := sliceFacts hf
  obtain ⟨oa, oc, rfl⟩ := sliceFacts ho
  obtain ⟨la, lc, rfl⟩ := Kind.slice hl
  have hbl := hb.1.1
  have hfl := hf.1
  clear hb hf ho hl hk hka hokf hoko hfs hlk
  have hmm := @run_makeMap Tryz.prog
  go_enter Tryz.func3, Tryz.ntmps3
  go_wp2_with fail
  refine HW1.out.mono ?_
  rintro e w1 ⟨v1, er1, rfl, hT1, hB1⟩
  obtain ⟨he1, hs1⟩ := withT_lists hT1
  obtain ⟨E1, hE1⟩ : ∃ E, E = withE body fs at_ os := ⟨_, rfl⟩
  obtain ⟨L1, hL1⟩ : ∃ E, E = withL body fs at_ os := ⟨_, rfl⟩
  rw [← hE1] at he1
  rw [← hL1] at hs1
  subst he1
  have HE1 := hide hE1
  have HL1 := hide hL1
  have H2 := hide (HW2.out w1 hB1)
  have HS1 := hide hs1
  have HB1 := hide hB1
  obtain ⟨a1, n1, c1, rfl⟩ : ∃ a n c, v1 = .slice a n c := by obtain ⟨a, c, e⟩ := Kind.slice hs1; exact ⟨a, _, c, e⟩
  clear hT1 hs1 hB1 hE1 hL1 HW1 HW2
  go_wp2_with fail
  refine H2.out.mono ?_
  rintro e w2 ⟨v2, er2, rfl, hT2, hB2⟩
  obtain ⟨he2, hs2⟩ := withT_lists hT2
  rw [← HE1.out] at he2
  rw [← HL1.out] at hs2
  subst he2
  have HSm := hide (sameBinds _ _ L1 w2 (Kind.sl_below HS1.out hB2.out) hs2)
  have HB2 := hide (below_trans HB1.out hB2.out HB1.out.size)
  have hq : (er2 != er2) = false := by simp
  obtain ⟨a2, n2, c2, rfl⟩ : ∃ a n c, v2 = .slice a n c := by obtain ⟨a, c, e⟩ := Kind.slice hs2; exact ⟨a, _, c, e⟩
  clear hT2 hs2 hB2 HE1 HL1 HS1 HB1 H2
  go_wp2_with fail
  refine HSm.out.mono ?_
  rintro e w3 ⟨rfl, hL3⟩
  have HB3 := hide (below_trans HB2.out hL3.below HB2.out.size)
  have H3 := hide (HW3.out w3 HB3.out)
  clear HSm hL3 HB2 HW3 hq
  go_wp2_with fail
  refine H3.out.mono ?_
  rintro e w4 ⟨v4, er4, rfl, hT4, hB4⟩
  obtain ⟨he4, hs4⟩ := withT_lists hT4
  obtain ⟨E4, hE4⟩ : ∃ E, E = withE body fs (-1) [] := ⟨_, rfl⟩
  obtain ⟨L4, hL4⟩ : ∃ E, E = withL body fs (-1) [] := ⟨_, rfl⟩
  rw [← hE4] at he4
  rw [← hL4] at hs4
  subst he4
  have HE4 := hide hE4
  have HL4 := hide hL4
  have HB4 := hide (below_trans HB3.out hB4.out HB3.out.size)
  have H5 := hide (HW4.out w4 HB4.out)
  have HS4 := hide hs4
  obtain ⟨a4, n4, c4, rfl⟩ : ∃ a n c, v4 = .slice a n c := by obtain ⟨a, c, e⟩ := Kind.slice hs4; exact ⟨a, _, c, e⟩
  clear hT4 hs4 hB4 hE4 hL4 H3 HB3 HW4
  go_wp2_with fail
  refine H5.out.mono ?_
  rintro e w5 ⟨v5, er5, rfl, hT5, hB5⟩
  obtain ⟨he5, hs5⟩ := withT_lists hT5
  rw [← HE4.out] at he5
  rw [← HL4.out] at hs5
  subst he5
  have HSm := hide (sameBinds _ _ L4 w5 (Kind.sl_below HS4.out hB5.out) hs5)
  have HB5 := hide (below_trans HB4.out hB5.out HB4.out.size)
  have hq : (er5 != er5) = false := by simp
  obtain ⟨a5, n5, c5, rfl⟩ : ∃ a n c, v5 = .slice a n c := by obtain ⟨a, c, e⟩ := Kind.slice hs5; exact ⟨a, _, c, e⟩
  clear hT5 hs5 hB5 HE4 HL4 HS4 HB4 H5
  go_wp2_with fail
  refine HSm.out.mono ?_
  rintro e w6 ⟨rfl, hL6⟩
  have HB6 := hide (below_trans HB5.out hL6.below HB5.out.size)
  clear HSm hL6 HB5 hq
  have hE6 := EnvM.made w6
  have hB7 : Below w.heap.size w (w6.alloc (.map #[] 0)) := HB6.out.alloc HB6.out.size _
  obtain ⟨w7, hw7⟩ : ∃ w7, w7 = w6.alloc (.map #[] 0) := ⟨_, rfl⟩
  rw [← hw7] at hE6 hB7
  have HE6 := hide hE6
  have HB7 := hide hB7
  have hbe := HB6.out.size
  have HW7 := hide hw7
  clear hE6 hB7 hw7 HB6
  go_wp2
  rw [← HW7.out]
  generalize w6.heap.size = be at *
  clear HW7
  go_loopg [84] l.length (fun g i wr => ∃ j : Nat, j + g = l.length ∧ i = .int .i64 j ∧ Hid ((keysB (l.take j)).Nodup) ∧ Hid (EnvM wr be j (l.take j)) ∧ Hid (Below w.heap.size w wr))
  case atStart => exact ⟨0, by omega, rfl, (by simp [keysB] : List.Nodup _), (by rw [List.take_zero]; exact HE6.out : EnvM _ _ _ _), HB7⟩
  case round =>
    clear HE6 HB7
    obtain ⟨j, hj, rfl, HN, HE, HB⟩ := hrel
    by_cases hlt : j < l.length
    · obtain ⟨x, hx⟩ : ∃ x, l[j]? = some x := ⟨_, List.getElem?_eq_getElem hlt⟩
      obtain ⟨b1, o1, cs, e1, hb1, hxe, hc⟩ := Kind.sl_at HLi.out hx
      subst e1
      have hxe' : cs = [.string x.1, .string x.2] := hxe
      subst hxe'
      have hbr : b1 < wr.heap.size := Nat.lt_of_lt_of_le hb1 HB.out.size
      have d0 : wr.cell? ⟨b1, o1 + j * 2, none⟩ = some (.string x.1) := by rw [HB.out.cell (p := ⟨b1, o1 + j * 2, none⟩) hb1]; simpa [bindK] using hc 0 _ rfl
      have d1 : wr.cell? ⟨b1, o1 + j * 2 + 1, none⟩ = some (.string x.2) := by rw [HB.out.cell (p := ⟨b1, o1 + j * 2 + 1, none⟩) hb1]; simpa [bindK] using hc 1 _ rfl
      obtain ⟨hxk, hxv⟩ := HLK.out x (List.mem_of_getElem? hx)
      have hEt := HE.out.later ((Later.refl wr).alloc (.cells #[.string x.1, .string x.2] 34))
      have hBt : Below w.heap.size w (wr.alloc (.cells #[.string x.1, .string x.2] 34)) := HB.out.alloc HB.out.size _
      have hlk := hEt.look (s := raw x.1) (by rw [length_raw]; exact hxk)
      rw [bs_raw] at hlk
      have htk : l.take (j + 1) = l.take j ++ [x] := by rw [List.take_add_one, hx]; rfl
      obtain ⟨xk, xv⟩ := x
      dsimp only at *
      cases hg : getB (l.take j) xk with
      | some y =>
        rw [hg] at hlk
        dsimp only [Option.getD_some, Option.isSome_some] at hlk
        have HLk := hide hlk
        have HBt := hide hBt
        clear hc hx hEt hBt hlk htk hg HE HN HB
        go_wp2_with (at_lookup; refine wpList_run_lookup _ rfl _ _ _ _ rfl _ _ _ rfl rfl HLk.out ?_)
        go_ret
        exact ⟨rfl, HBt.out⟩
      | none =>
        obtain ⟨w9, hup, hE9, hg9⟩ := hEt.store (s := raw xk) (by unfold maxLen; omega) (by rw [length_raw]; exact hxk) (by rw [bs_raw]; exact hg) hxv
        rw [bs_raw] at hup hE9
        rw [← htk] at hE9
        rw [hg] at hlk
        dsimp only [Option.getD_none, Option.isSome_none] at hlk
        have HN9 : Hid ((keysB (l.take (j + 1))).Nodup) := by
          show List.Nodup _
          have h1 := getB_none.1 hg
          rw [htk]
          unfold keysB at h1 ⊢
          rw [List.map_append, List.nodup_append]
          exact ⟨HN.out, by simp, fun a ha b hb e => by simp at hb; subst hb; subst e; exact h1 ha⟩
        have HB9 : Hid (Below w.heap.size w w9) := hBt.grown hg9 hBt.size (fun k hk => by cases hk; exact hbe)
        have HE9 := hide hE9
        have HLk := hide hlk
        have HUp := hide hup
        clear hc hx hEt hBt hlk hup hE9 hg9 htk hg HE HN HB
        go_wp2_with (first
          | (at_lookup; refine wpList_run_lookup _ rfl _ _ _ _ rfl _ _ _ rfl rfl HLk.out ?_)
          | (at_mapUpdate; refine wpList_run_update _ rfl _ _ _ _ rfl _ _ _ _ rfl rfl rfl HUp.out ?_))
        go_roundg (l.length - (j + 1))
        case measure => omega
        case rel => exact ⟨j + 1, by omega, by go_num, HN9, HE9, HB9⟩
    · have e : l.take j = l := List.take_of_length_le (by omega)
      have hje : j = l.length := by omega
      rw [e, hje] at HE
      rw [e] at HN
      clear e hje
      go_wp2
      clear hlt hj
      go_loopg [104] body.length (fun g i wr => ∃ j : Nat, j + g = body.length ∧ i = .int .i64 j ∧ Hid (EnvM wr be l.length l) ∧ Hid (Below w.heap.size w wr))
      case atStart => exact ⟨0, by omega, rfl, HE, HB⟩
      case round =>
        clear HE HB
        obtain ⟨j, hj, rfl, HE, HB⟩ := hrel
        by_cases hlt : j < body.length
        · obtain ⟨a, ha⟩ : ∃ x, body[j]? = some x := ⟨_, List.getElem?_eq_getElem hlt⟩
          obtain ⟨b1, o1, _, e1, hb1, ⟨tv, hce, htv⟩, hc⟩ := Kind.sl_at HBd.out ha
          subst e1
          subst hce
          have hbr : b1 < wr.heap.size := Nat.lt_of_lt_of_le hb1 HB.out.size
          have d0 : wr.cell? ⟨b1, o1 + j * 3, none⟩ = some (.bool a.no) := by rw [HB.out.cell (p := ⟨b1, o1 + j * 3, none⟩) hb1]; simpa [atomK] using hc 0 _ rfl
          have d1 : wr.cell? ⟨b1, o1 + j * 3 + 1, none⟩ = some (.string (bs a.name)) := by rw [HB.out.cell (p := ⟨b1, o1 + j * 3 + 1, none⟩) hb1]; simpa [atomK] using hc 1 _ rfl
          have d2 : wr.cell? ⟨b1, o1 + j * 3 + 2, none⟩ = some tv := by rw [HB.out.cell (p := ⟨b1, o1 + j * 3 + 2, none⟩) hb1]; simpa [atomK] using hc 2 _ rfl
          obtain ⟨hat, hats⟩ := HKA.out a (List.mem_of_getElem? ha)
          obtain ⟨ta, tc, rfl⟩ := Kind.slice htv
          have HTv := hide htv
          obtain ⟨wa, hwa⟩ : ∃ wa, wa = wr.alloc (.cells #[.bool a.no, .string (bs a.name), .slice ta a.terms.length tc] 38) := ⟨_, rfl⟩
          have hLa : Later wr wa := by rw [hwa]; exact (Later.refl wr).alloc _
          have hRa : wa.heap[wr.heap.size]? = some (.cells #[.bool a.no, .string (bs a.name), .slice ta a.terms.length tc] 38 (0, 0)) := by rw [hwa]; exact heap_alloc_new wr _
          have hla : wr.heap.size < wa.heap.size := (Array.getElem?_eq_some_iff.1 hRa).1
          have hBa := below_trans HB.out hLa.below HB.out.size
          have HFi := hide (fillC a (.slice ta a.terms.length tc) (.slice la l.length lc) l wa (Kind.sl_below HTv.out hBa) (Kind.sl_below HLi.out hBa))
          have HRF : Hid (∀ w1, Later wa w1 → Calls Tryz.prog 9 #[.agg #[.bool a.no, .string (bs a.name), .slice ta a.terms.length tc], .map (some be)] w1 fun e w' => ∃ v, e = .returned (.tuple #[v, .bool (fillB a l).isSome]) ∧ FactV w' v (filled a l) ∧ Hid (Later w1 w')) := fun w1 h1 =>
            rFill4 a _ l be l.length w1 (Kind.sl_later (Kind.sl_below HTv.out hBa) h1) (HE.out.later (hLa.trans h1)) hats
          have HMe : Hid (∀ w1 f fv, Below w.heap.size w w1 → FactV w1 fv f → Calls Tryz.prog 11 #[.agg #[.bool a.no, .string (bs a.name), .slice ta a.terms.length tc], fv, .slice la l.length lc] w1 fun e w' => ∃ v, e = .returned (.tuple #[v, .bool (meetB a f l).isSome]) ∧ MetV w1 w' v (meetB a f l) ∧ Hid (Later w1 w')) := fun w1 f fv h1 hf =>
            meetC a _ fv _ f l w1 (Kind.sl_below HTv.out h1) hf (Kind.sl_below HLi.out h1) (by omega)
          have HTr : Hid (∀ w1 f fv, Below w.heap.size w w1 → EnvM w1 be l.length l → f ∈ fs → FactV w1 fv f → Calls Tryz.prog 12 #[.agg #[.bool a.no, .string (bs a.name), .slice ta a.terms.length tc], fv, .map (some be)] w1 fun e w' => TryT w' w1.heap.size (l.length + a.terms.length) e (meetB a f l) ∧ Hid (Below w1.heap.size w1 w')) := fun w1 f fv h1 h2 h3 h4 =>
            rTry a f l be l.length a.terms.length _ fv w1 (Kind.sl_below HTv.out h1) h4 h2 (Nat.le_refl _) (by omega) hats (HFS.out f h3)
          have HMK : Hid (∀ f m, meetB a f l = some m → (keysB m).Nodup ∧ (∀ x ∈ m, x.1.size ≤ maxLen) ∧ m.length ≤ l.length + a.terms.length) := fun f m hm => ⟨meet_keys HN.out hm, meet_short (fun x hx => (HLK.out x hx).1) hats hm, meetB_len hm⟩
          have HLa := hide hLa
          have HRa := hide hRa
          have HBa := hide hBa
          have HWa := hide hwa
          have HEa := hide (HE.out.later hLa)
          obtain ⟨FI, hFI⟩ : ∃ F, F = filled a l := ⟨_, rfl⟩
          obtain ⟨ok, hok⟩ : ∃ F, F = (fillB a l).isSome := ⟨_, rfl⟩
          rw [← hFI, ← hok] at HFi HRF
          generalize hMB : (fun f => meetB a f l) = MB at *
          have hMB' : ∀ f, meetB a f l = MB f := fun f => by rw [← hMB]
          simp only [hMB'] at HMe HTr HMK
          clear hc ha htv hwa hLa hRa hBa hFI hok hMB hMB' HTv hats HE HB
          generalize bs a.name = nm at *
          generalize a.no = no at *
          generalize a.terms.length = tn at *
          have hq : (ok != ok) = false := by simp
          have hq2 : (!(ok == ok)) = false := by simp
          go_wp2_with fail
          rw [← HWa.out]
          refine HFi.out.mono ?_
          rintro e w1 ⟨v1, rfl, ⟨s1, rfl, hs1⟩, hL1⟩
          obtain ⟨x1, y1, rfl⟩ := sliceStr hs1
          obtain ⟨wb, hwb⟩ : ∃ wb, wb = w1.alloc (.cells #[.string FI.1, .slice x1 FI.2.length y1] 41) := ⟨_, rfl⟩
          have hLb : Later w1 wb := by rw [hwb]; exact (Later.refl w1).alloc _
          have hRb : wb.heap[w1.heap.size]? = some (.cells #[.string FI.1, .slice x1 FI.2.length y1] 41 (0, 0)) := by rw [hwb]; exact heap_alloc_new w1 _
          have hlb : w1.heap.size < wb.heap.size := (Array.getElem?_eq_some_iff.1 hRb).1
          have H2 := hide (HRF.out wb (hL1.trans hLb))
          have hrr := ((hL1.trans hLb).block hla).trans HRa.out
          have r0 : wb.cell? ⟨wr.heap.size, 0, none⟩ = some (.bool no) := by rw [cell_of_row _ _ _ _ _ _ hrr]; rfl
          have r1 : wb.cell? ⟨wr.heap.size, 0 + 1, none⟩ = some (.string nm) := by rw [cell_of_row _ _ _ _ _ _ hrr]; rfl
          have r2 : wb.cell? ⟨wr.heap.size, 0 + 2, none⟩ = some (.slice ta tn tc) := by rw [cell_of_row _ _ _ _ _ _ hrr]; rfl
          have HLb := hide (hL1.trans hLb)
          have HS1 := hide (hs1.later hLb)
          have HRb := hide hRb
          have HWb := hide hwb
          rw [hwb] at r0 r1 r2
          clear hs1 hL1 hLb hwb hrr hRb HFi HRF d0 d1 d2
          go_wp2_with fail
          rw [← HWb.out]
          refine H2.out.mono ?_
          rintro e w2 ⟨v2, rfl, ⟨s2, rfl, hs2⟩, hL2⟩
          obtain ⟨x2, y2, rfl⟩ := sliceStr hs2
          obtain ⟨wc, hwc⟩ : ∃ wc, wc = w2.alloc (.cells #[.string FI.1, .slice x2 FI.2.length y2] 41) := ⟨_, rfl⟩
          have hLc : Later w2 wc := by rw [hwc]; exact (Later.refl w2).alloc _
          have hRc : wc.heap[w2.heap.size]? = some (.cells #[.string FI.1, .slice x2 FI.2.length y2] 41 (0, 0)) := by rw [hwc]; exact heap_alloc_new w2 _
          have hrb := ((hL2.out.trans hLc).block hlb).trans HRb.out
          have p0 : wc.cell? ⟨w1.heap.size, 0, none⟩ = some (.string FI.1) := by rw [cell_of_row _ _ _ _ _ _ hrb]; rfl
          have p1 : wc.cell? ⟨w1.heap.size, 0 + 1, none⟩ = some (.slice x1 FI.2.length y1) := by rw [cell_of_row _ _ _ _ _ _ hrb]; rfl
          have q0 : wc.cell? ⟨w2.heap.size, 0, none⟩ = some (.string FI.1) := by rw [cell_of_row _ _ _ _ _ _ hRc]; rfl
          have q1 : wc.cell? ⟨w2.heap.size, 0 + 1, none⟩ = some (.slice x2 FI.2.length y2) := by rw [cell_of_row _ _ _ _ _ _ hRc]; rfl
          have HLc := hide (HLb.out.trans (hL2.out.trans hLc))
          have hEq := rEqual (.agg #[.string FI.1, .slice x1 FI.2.length y1]) (.agg #[.string FI.1, .slice x2 FI.2.length y2]) FI FI wc ⟨_, rfl, HS1.out.later (hL2.out.trans hLc)⟩ ⟨_, rfl, hs2.later hLc⟩
          rw [sameF_self] at hEq
          have HEq := hide hEq
          have HWc := hide hwc
          rw [hwc] at p0 p1 q0 q1
          clear hs2 hL2 hLc hRc hrb hEq hwc H2 HS1 HRb HWb HLb hlb r0 r1 r2
          go_wp2_with fail
          rw [← HWc.out]
          refine HEq.out.mono ?_
          rintro e w3 ⟨rfl, hL3⟩
          have hL3' := HLc.out.trans hL3
          have HE3 := hide (HEa.out.later hL3')
          have HB3 := hide (below_trans HBa.out hL3'.below HBa.out.size)
          have HR3 : Hid (w3.heap[wr.heap.size]? = some (.cells #[.bool no, .string nm, .slice ta tn tc] 38 (0, 0))) := (hL3'.block hla).trans HRa.out
          have hA0 : wr.heap.size < w3.heap.size := Nat.lt_of_lt_of_le hla hL3'.size
          clear hL3 hL3' HEq HWc HLc HEa HBa HRa HLa HWa p0 p1 q0 q1 hla
          go_wp2
          generalize hA : wr.heap.size = A at *
          clear hA
          go_loopg [131] fs.length (fun g i wr => ∃ j : Nat, j + g = fs.length ∧ i = .int .i64 j ∧ Hid (EnvM wr be l.length l) ∧ Hid (Below w.heap.size w wr) ∧ Hid (wr.heap[A]? = some (.cells #[.bool no, .string nm, .slice ta tn tc] 38 (0, 0))))
          case atStart => exact ⟨0, by omega, rfl, HE3, HB3, HR3⟩
          case round =>
            clear HE3 HB3 HR3 hA0
            obtain ⟨k, hk, rfl, HE, HB, HR⟩ := hrel
            by_cases hltk : k < fs.length
            · obtain ⟨f, hf⟩ : ∃ x, fs[k]? = some x := ⟨_, List.getElem?_eq_getElem hltk⟩
              obtain ⟨b2, o2, sf, e2, hb2, f0, f1, f2⟩ := facts_at HFa.out hf
              subst e2
              have hbr2 : b2 < wr.heap.size := Nat.lt_of_lt_of_le hb2 HB.out.size
              have d0 : wr.cell? ⟨b2, o2 + k * 2, none⟩ = some (.string f.1) := by rw [HB.out.cell (p := ⟨b2, o2 + k * 2, none⟩) hb2]; exact f0
              have d1 : wr.cell? ⟨b2, o2 + k * 2 + 1, none⟩ = some sf := by rw [HB.out.cell (p := ⟨b2, o2 + k * 2 + 1, none⟩) hb2]; exact f1
              obtain ⟨fa', fc', rfl⟩ := sliceStr f2
              obtain ⟨wf, hwf⟩ : ∃ wf, wf = wr.alloc (.cells #[.string f.1, .slice fa' f.2.length fc'] 41) := ⟨_, rfl⟩
              have hLf : Later wr wf := by rw [hwf]; exact (Later.refl wr).alloc _
              have hRf : wf.heap[wr.heap.size]? = some (.cells #[.string f.1, .slice fa' f.2.length fc'] 41 (0, 0)) := by rw [hwf]; exact heap_alloc_new wr _
              have hlf : wr.heap.size < wf.heap.size := (Array.getElem?_eq_some_iff.1 hRf).1
              have hlA : A < wr.heap.size := (Array.getElem?_eq_some_iff.1 HR.out).1
              have hBf := below_trans HB.out hLf.below HB.out.size
              have hRA := (hLf.block hlA).trans HR.out
              have HFV : Hid (∀ w1, Below w.heap.size w w1 → FactV w1 (.agg #[.string f.1, .slice fa' f.2.length fc']) f) := fun w1 h1 => ⟨_, rfl, f2.below h1⟩
              have H4 := hide (HMe.out wf f _ hBf (HFV.out wf hBf))
              have H5 : Hid (∀ w1, Later wf w1 → Calls Tryz.prog 12 #[.agg #[.bool no, .string nm, .slice ta tn tc], .agg #[.string f.1, .slice fa' f.2.length fc'], .map (some be)] w1 fun e w' => TryT w' w1.heap.size (l.length + tn) e (MB f) ∧ Hid (Below w1.heap.size w1 w')) := fun w1 h1 =>
                HTr.out w1 f _ (below_trans hBf h1.below hBf.size) (HE.out.later (hLf.trans h1)) (List.mem_of_getElem? hf) (HFV.out w1 (below_trans hBf h1.below hBf.size))
              have HMf := hide (HMK.out f)
              have a0 : wf.cell? ⟨A, 0, none⟩ = some (.bool no) := by rw [cell_of_row _ _ _ _ _ _ hRA]; rfl
              have a1 : wf.cell? ⟨A, 0 + 1, none⟩ = some (.string nm) := by rw [cell_of_row _ _ _ _ _ _ hRA]; rfl
              have a2 : wf.cell? ⟨A, 0 + 2, none⟩ = some (.slice ta tn tc) := by rw [cell_of_row _ _ _ _ _ _ hRA]; rfl
              rw [hwf] at a0 a1 a2
              have HRA := hide hRA
              have HRf := hide hRf
              have HLf := hide hLf
              have HBf := hide hBf
              have HWf := hide hwf
              have HEf := hide (HE.out.later hLf)
              have hlAf : A < wf.heap.size := by omega
              generalize MB f = mf at *
              obtain ⟨fn, fargs⟩ := f
              dsimp only at *
              clear hf f0 f1 f2 hwf hLf hRf hBf hRA HFV HE HB HR hlA
              go_wp2_with fail
              rw [← HWf.out]
              refine H4.out.mono ?_
              rintro e w4 ⟨v4, rfl, hM4, hL4⟩
              have H6 := hide (H5.out w4 hL4.out)
              have hr4 := (hL4.out.block hlAf).trans HRA.out
              have hf4 := (hL4.out.block hlf).trans HRf.out
              have a0 : w4.cell? ⟨A, 0, none⟩ = some (.bool no) := by rw [cell_of_row _ _ _ _ _ _ hr4]; rfl
              have a1 : w4.cell? ⟨A, 0 + 1, none⟩ = some (.string nm) := by rw [cell_of_row _ _ _ _ _ _ hr4]; rfl
              have a2 : w4.cell? ⟨A, 0 + 2, none⟩ = some (.slice ta tn tc) := by rw [cell_of_row _ _ _ _ _ _ hr4]; rfl
              have g0 : w4.cell? ⟨wr.heap.size, 0, none⟩ = some (.string fn) := by rw [cell_of_row _ _ _ _ _ _ hf4]; rfl
              have g1 : w4.cell? ⟨wr.heap.size, 0 + 1, none⟩ = some (.slice fa' fargs.length fc') := by rw [cell_of_row _ _ _ _ _ _ hf4]; rfl
              have HB4 := hide (below_trans HBf.out hL4.out.below HBf.out.size)
              have HE4 := hide (HEf.out.later hL4.out)
              have HR4 := hide hr4
              have hlA4 : A < w4.heap.size := Nat.lt_of_lt_of_le hlAf hL4.out.size
              cases mf with
              | none =>
                obtain rfl : v4 = .slice none 0 0 := hM4
                simp only [Option.isSome_none]
                clear hL4 H5 hr4 hf4 HRA HRf HLf HBf HWf HEf d0 d1 H4 HMf
                go_wp2_with fail
                refine H6.out.mono ?_
                rintro e w5 ⟨hT5, hB5⟩
                obtain rfl : e = .returned (.map none) := hT5
                have HB5 := hide (below_trans HB4.out hB5.out HB4.out.size)
                have HE5 := hide (HE4.out.below hB5.out)
                have HR5 := hide ((hB5.out.block A hlA4).trans HR4.out)
                clear hB5 H6 HB4 HE4 HR4 a0 a1 a2 g0 g1
                have hnq : ∀ w : World, (binOp .neq 32 (.map none) (.map none)).run Tryz.prog w = .ok (.bool false) w := fun w => run_neq_map_nil w 32 9 9 none Tryz.underlying32
                go_wp2
                clear hnq
                go_loopg [162] 0 (fun g i wr => g = 0 ∧ i = .int .i64 0 ∧ wr = w5)
                case atStart => exact ⟨rfl, rfl, rfl⟩
                case round =>
                  obtain ⟨rfl, rfl, rfl⟩ := hrel
                  go_wp2
                  go_roundg (fs.length - (k + 1))
                  case measure => omega
                  case rel => exact ⟨k + 1, by omega, by go_num, HE5, HB5, HR5⟩
              | some m =>
                have hM4' : bindK.own 34 wf.heap.size w4 v4 m := hM4
                obtain ⟨hmk, hms, hml⟩ := HMf.out m rfl
                have hMs : bindK.sl Anyw w4 v4 m := Kind.sl_any (Kind.own_sl hM4' (by omega))
                obtain ⟨ma, mc, rfl⟩ := Kind.slice hMs
                have HMs := hide hMs
                have HMS := hide hms
                have HMKn := hide hmk
                simp only [Option.isSome_some]
                clear hL4 H5 hr4 hf4 HRA HRf HLf HBf HWf HEf d0 d1 H4 HMf hM4 hM4' hMs hms hmk
                go_wp2_with fail
                refine H6.out.mono ?_
                rintro e w5 ⟨⟨by5, he5, hby, hE5⟩, hB5⟩
                subst he5
                have HB5 := hide (below_trans HB4.out hB5.out HB4.out.size)
                have HE5 := hide (HE4.out.below hB5.out)
                have HR5 := hide ((hB5.out.block A hlA4).trans HR4.out)
                have HY5 := hide hE5
                have HM5 := hide (Kind.sl_below HMs.out hB5.out)
                have hlen := hE5.len HMKn.out
                have hlenI := hlen 3
                have hqm : ((m.length : Int) != (m.length : Int)) = false := by simp
                clear hB5 H6 HB4 HE4 HR4 a0 a1 a2 g0 g1 hE5 hlen HMs
                have hnq : ∀ w : World, (binOp .neq 32 (.map (some by5)) (.map none)).run Tryz.prog w = .ok (.bool true) w := fun w => run_neq_map_nil w 32 9 9 (some by5) Tryz.underlying32
                go_wp2
                clear hnq
                go_loopg [162] m.length (fun g i wr => ∃ q : Nat, q + g = m.length ∧ i = .int .i64 q ∧ Hid (Later w5 wr))
                case atStart => exact ⟨0, by omega, rfl, Later.refl _⟩
                case round =>
                  obtain ⟨q, hq', rfl, HL⟩ := hrel
                  by_cases hltq : q < m.length
                  · obtain ⟨x, hx⟩ : ∃ x, m[q]? = some x := ⟨_, List.getElem?_eq_getElem hltq⟩
                    obtain ⟨b3, o3, cs, e3, hb3, hxe, hc⟩ := Kind.sl_at HM5.out hx
                    subst e3
                    have hxe' : cs = [.string x.1, .string x.2] := hxe
                    subst hxe'
                    have hbr3 : b3 < wr.heap.size := Nat.lt_of_lt_of_le hb3 HL.out.size
                    have d0 : wr.cell? ⟨b3, o3 + q * 2, none⟩ = some (.string x.1) := by rw [HL.out.cell (p := ⟨b3, o3 + q * 2, none⟩) hb3]; simpa [bindK] using hc 0 _ rfl
                    have d1 : wr.cell? ⟨b3, o3 + q * 2 + 1, none⟩ = some (.string x.2) := by rw [HL.out.cell (p := ⟨b3, o3 + q * 2 + 1, none⟩) hb3]; simpa [bindK] using hc 1 _ rfl
                    obtain ⟨wx, hwx⟩ : ∃ wx, wx = wr.alloc (.cells #[.string x.1, .string x.2] 34) := ⟨_, rfl⟩
                    have hLx : Later wr wx := by rw [hwx]; exact (Later.refl wr).alloc _
                    have hRx : wx.heap[wr.heap.size]? = some (.cells #[.string x.1, .string x.2] 34 (0, 0)) := by rw [hwx]; exact heap_alloc_new wr _
                    have hlx : wr.heap.size < wx.heap.size := (Array.getElem?_eq_some_iff.1 hRx).1
                    have hgx : getB m x.1 = some x.2 := getB_of_mem HMKn.out (List.mem_of_getElem? hx)
                    have hgc := getC (.slice (some ⟨b3, o3, none⟩) m.length mc) m x.1 wx (Kind.sl_later HM5.out (HL.out.trans hLx))
                    rw [hgx] at hgc
                    have hxs := HMS.out x (List.mem_of_getElem? hx)
                    have HGe : Hid (∀ w1, Later wx w1 → (Instr.lookup 32 (.map (some by5)) (.string x.1) false).run Tryz.prog w1 = .ok (.string x.2) w1) := fun w1 h1 => by
                      have := (HY5.out.later ((HL.out.trans hLx).trans h1)).get hxs
                      rw [hgx] at this
                      exact this
                    have HGc := hide hgc
                    have HWx := hide hwx
                    have HRx := hide hRx
                    have HLx := hide (HL.out.trans hLx)
                    obtain ⟨xk, xv⟩ := x
                    dsimp only at *
                    clear hc hx hwx hLx hRx hgx hgc hxs HL
                    go_wp2_with fail
                    rw [← HWx.out]
                    refine HGc.out.mono ?_
                    rintro e w8 ⟨he8, hL8⟩
                    subst he8
                    unfold toldV
                    simp only [Option.getD_some, Option.isSome_some]
                    have hr8 := (hL8.block hlx).trans HRx.out
                    have z0 : w8.cell? ⟨wr.heap.size, 0, none⟩ = some (.string xk) := by rw [cell_of_row _ _ _ _ _ _ hr8]; rfl
                    have z1 : w8.cell? ⟨wr.heap.size, 1, none⟩ = some (.string xv) := by rw [cell_of_row _ _ _ _ _ _ hr8]; rfl
                    have HG8 := hide (HGe.out w8 hL8)
                    have HL8 := hide (HLx.out.trans hL8)
                    clear hL8 hr8 HGc HGe HWx HRx HLx d0 d1
                    go_wp2_with (at_lookup; refine wpList_run_lookup _ rfl _ _ _ _ rfl _ _ _ rfl rfl HG8.out ?_)
                    go_roundg (m.length - (q + 1))
                    case measure => omega
                    case rel => exact ⟨q + 1, by omega, by go_num, HL8⟩
                  · have HB9 := hide (below_trans HB5.out HL.out.below HB5.out.size)
                    have HE9 := hide (HE5.out.later HL.out)
                    have HR9 := hide ((HL.out.block (Array.getElem?_eq_some_iff.1 HR5.out).1).trans HR5.out)
                    go_wp2
                    go_roundg (fs.length - (k + 1))
                    case measure => omega
                    case rel => exact ⟨k + 1, by omega, by go_num, HE9, HB9, HR9⟩
            · go_wp2
              go_roundg (body.length - (j + 1))
              case measure => omega
              case rel => exact ⟨j + 1, by omega, by go_num, HE, HB⟩
        · go_wp2
          go_ret
          exact ⟨rfl, HB.out⟩

end Go.Proofs.YtkijmalapjiopaaGreat
