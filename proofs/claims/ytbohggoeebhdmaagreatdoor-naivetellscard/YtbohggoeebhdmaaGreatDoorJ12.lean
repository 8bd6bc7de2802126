/- Texts of this claim, one behind the other. -/
import Derived.Test.YtbohggoeebhdmaaGreatDoorJ10
import Derived.Test.YtbohggoeebhdmaaGreatDoorJ11
import Derived.Test.YtbohggoeebhdmaaGreatDoorJ5
/- The walk of fact.Set. -/
namespace Go.Proofs.YtbohggoeebhdmaaGreatDoor
open Go.RowKit Go.Sort

/-- The first fault from fact k on: what, and at which. -/
def faultFrom (l : List FactD) : Nat → Nat → Int × Int
  | 0, _ => (0, 0)
  | n + 1, k => if wrongF (l.getD k noFact) ≠ 0 then (wrongF (l.getD k noFact), k) else if 0 < k ∧ 0 ≤ cmpF (l.getD (k - 1) noFact) (l.getD k noFact) then (2, k) else faultFrom l n (k + 1)

def setFault (l : List FactD) : Int × Int := if 200 < l.length then (5, 0) else faultFrom l l.length 0

theorem faultFrom_step (l : List FactD) {k : Nat} (h : k < l.length) : faultFrom l (l.length - k) k =
    if wrongF (l.getD k noFact) ≠ 0 then (wrongF (l.getD k noFact), (k : Int)) else if 0 < k ∧ 0 ≤ cmpF (l.getD (k - 1) noFact) (l.getD k noFact) then (2, (k : Int)) else faultFrom l (l.length - (k + 1)) (k + 1) := by
  obtain ⟨n, hn⟩ : ∃ n, l.length - k = n + 1 := ⟨l.length - k - 1, by omega⟩
  rw [hn, show l.length - (k + 1) = n by omega]
  rfl

theorem wrap_nat (j : Nat) (h : j ≤ 3518437208883) : IntKind.i64.wrap (j : Int) = (j : Int) := by
  simp [IntKind.wrap, IntKind.bits, IntKind.signed]; omega

theorem fault_cells {w : World} {R : Nat} {u0 u1 : Value} {t : TypeId} {fr : Nat × Nat} (h : w.heap[R]? = some (.cells #[u0, u1] t fr)) (x y : Value) :
    ((w.setCell ⟨R, 0, none⟩ x).setCell ⟨R, 1, none⟩ y).cell? ⟨R, 0, none⟩ = some x ∧ ((w.setCell ⟨R, 0, none⟩ x).setCell ⟨R, 1, none⟩ y).cell? ⟨R, 1, none⟩ = some y := by
  have h2 := heap_setCell_at (j := 1) (heap_setCell_at (j := 0) h x) y
  exact ⟨by rw [cell_of_row _ _ _ _ _ _ h2]; rfl, by rw [cell_of_row _ _ _ _ _ _ h2]; rfl⟩

theorem ret_fault {a b c d : Int} (h : (a, b) = (c, d)) : Ending.returned (.agg #[.int .i64 a, .int .i64 b]) = .returned (.agg #[.int .i64 c, .int .i64 d]) := by
  cases h; rfl

set_option maxHeartbeats 2000000 in
theorem setC (v : Value) (l : List FactD) (w : World) (hf : Facts w v l) :
    Calls Tryz.prog 24 #[v] w fun e w' => e = .returned (.agg #[.int .i64 (setFault l).1, .int .i64 (setFault l).2]) ∧ Later w w' := by
  have mx := mixed
  have HF := hide hf
  obtain ⟨a, cap, rfl, hn, hz⟩ := hf.addr
  clear hf
  by_cases hbig : 200 < l.length
  · have e : setFault l = (5, 0) := by unfold setFault; rw [if_pos hbig]
    rw [e]
    go_enter Tryz.func24, Tryz.ntmps24
    go_wp2
    exact bodyPost_ret (v := .agg #[.int .i64 5, .int .i64 0]) (by simp [results, Tryz.results24, go_sem]) rfl ⟨rfl, (by repeat (first | exact Later.refl _ | assumption | refine Later.drewN ?_ _ | refine Later.drew ?_ | refine Later.alloc ?_ _ | refine Later.grow ?_ _))⟩
  · have e : setFault l = faultFrom l l.length 0 := by unfold setFault; rw [if_neg hbig]
    rw [e]
    clear e
    go_enter Tryz.func24, Tryz.ntmps24
    go_wp2
    go_loopw [12] (fun i wr => ∃ k : Nat, k ≤ l.length ∧ i = .int .i64 k ∧ Later (w.alloc (.cells #[.int .i64 0, .int .i64 0] 27)) wr ∧ Hid (faultFrom l l.length 0 = faultFrom l (l.length - k) k)) (fun i _ => l.length - (intOf i).toNat)
    case atStart => exact ⟨0, by omega, rfl, Later.refl _, (rfl : _ = _)⟩
    case round =>
      obtain ⟨k, hk, rfl, hL, HE⟩ := hrel
      have hL0 : Later w wr := ((Later.refl _).alloc _).trans hL
      have hsz : w.heap.size < wr.heap.size := by have := hL.size; simp at this; omega
      by_cases hlt : k < l.length
      · rcases hz with rfl | ⟨b, off, rfl⟩
        · simp at hlt
        have hltz : (k : Int) < (l.length : Int) := by omega
        obtain ⟨hb, ax, lx, cx, g1, g2, fx⟩ := (HF.out.later hL0).at hlt
        have hst := faultFrom_step l hlt
        have HWr : Hid (∀ w', Later wr w' → Calls Tryz.prog 55 #[.agg #[.string (l.getD k noFact).1, .slice ax lx cx]] w' fun e w'' => e = .returned (.int .i64 (wrongF (l.getD k noFact))) ∧ Later w' w'') :=
          fun w' hw => wrong _ _ w' (fx.later hw)
        have FX := hide fx
        clear fx
        by_cases hwz : wrongF (l.getD k noFact) = 0
        · rw [if_neg (by omega)] at hst
          rw [hwz] at HWr
          by_cases hk0 : k = 0
          · have F : Hid (faultFrom l l.length 0 = faultFrom l (l.length - (k + 1)) (k + 1)) := by show _ = _; rw [HE.out, hst, if_neg (by omega)]
            have hd : decide (0 < k) = false := by rw [decide_eq_false_iff_not]; omega
            clear hk0
            generalize (l.getD k noFact).1 = nk at *
            clear hst
            go_wp2_with fail
            refine (HWr.out _ ((Later.refl _).alloc _)).mono ?_
            rintro e w1 ⟨rfl, hL1⟩
            go_wp2
            go_quiet (fail)
            go_wp2
            go_roundw
            case rel => exact ⟨k + 1, by omega, by go_num, (hL.trans (((Later.refl _).alloc _).trans hL1)).drewN _, F⟩
            case measure => simp [intOf]; omega
          · obtain ⟨j, rfl⟩ : ∃ j, k = j + 1 := ⟨k - 1, by omega⟩
            rw [Nat.add_sub_cancel] at hst
            have hjl : j < l.length := by omega
            have hjz : (j : Int) < (l.length : Int) := by omega
            have hd : (0 : Int) < (j : Int) + 1 := by omega
            have hwj : IntKind.i64.wrap (j : Int) = (j : Int) := wrap_nat j (by omega)
            generalize hfk : l.getD (j + 1) noFact = f at *
            have HFK := hide hfk
            clear hfk
            obtain ⟨nk, lk⟩ := f
            dsimp only at *
            go_wp2_with fail
            refine (HWr.out _ ((Later.refl _).alloc _)).mono ?_
            rintro e w1 ⟨rfl, hL1⟩
            have hLR : Later (w.alloc (.cells #[.int .i64 0, .int .i64 0] 27)) w1 := hL.trans (((Later.refl _).alloc _).trans hL1)
            have hL01 : Later w w1 := ((Later.refl _).alloc _).trans hLR
            have hR : w1.heap[w.heap.size]? = some (.cells #[.int .i64 0, .int .i64 0] 27 (0, 0)) := by rw [hLR.block (by simp), heap_alloc_new]
            have q0 : w1.cell? ⟨w.heap.size, 0, none⟩ = some (.int .i64 0) := by rw [cell_of_row _ _ _ _ _ _ hR]; rfl
            have q1 : w1.cell? ⟨w.heap.size, 1, none⟩ = some (.int .i64 0) := by rw [cell_of_row _ _ _ _ _ _ hR]; rfl
            have p0 : w1.frozen? ⟨w.heap.size, 0, none⟩ = false := frozen_of_row 0 hR
            have p1 : w1.frozen? ⟨w.heap.size, 1, none⟩ = false := frozen_of_row 1 hR
            have HRR := hide hR
            clear hR
            have hLw : Later wr w1 := ((Later.refl _).alloc _).trans hL1
            obtain ⟨ay, ly, cy, y1, y2, fy⟩ := (HF.out.later hL01).grown hjl
            have b0 := cell_later hL1 (p := ⟨wr.heap.size, 0, none⟩) (v := .string nk) (by simp) (by simp)
            have b1 := cell_later hL1 (p := ⟨wr.heap.size, 1, none⟩) (v := .slice ax lx cx) (by simp) (by simp)
            have hC : ∀ q os, Calls Tryz.prog 30 #[.agg #[.string (l.getD j noFact).1, .slice ay ly cy], .agg #[.string nk, .slice ax lx cx]] (grow (w1.drewN q) os) fun e w'' => e = .returned (.int .i64 (cmpF (l.getD j noFact) (nk, lk))) ∧ Later (grow (w1.drewN q) os) w'' :=
              fun q os => compareF _ _ _ _ _ (fy.later ⟨q, os, rfl⟩) ((FX.out.later hLw).later ⟨q, os, rfl⟩)
            have HC := hide hC
            clear hC fy
            generalize cmpF (l.getD j noFact) (nk, lk) = cm at *
            generalize (l.getD j noFact).1 = nj at *
            by_cases hcm : 0 ≤ cm
            · have F : Hid (faultFrom l l.length 0 = (2, ((j + 1 : Nat) : Int))) := by show _ = _; rw [HE.out, hst, if_pos ⟨by omega, hcm⟩]
              clear hst
              go_wp2
              go_quiet_grown ((go_at_call 30; exact Calls.grown_of (HC.out _ _)))
              dsimp only
              have hLW : Later w1 (grow (w1.drewN nq) osq) := ⟨_, _, rfl⟩
              generalize grow (w1.drewN nq) osq = w2 at hLW ⊢
              have hR : w2.heap[w.heap.size]? = some (.cells #[.int .i64 0, .int .i64 0] 27 (0, 0)) := by rw [hLW.block (by have := hLw.size; omega)]; exact HRR.out
              have q0 : w2.cell? ⟨w.heap.size, 0, none⟩ = some (.int .i64 0) := by rw [cell_of_row _ _ _ _ _ _ hR]; rfl
              have q1 : w2.cell? ⟨w.heap.size, 1, none⟩ = some (.int .i64 0) := by rw [cell_of_row _ _ _ _ _ _ hR]; rfl
              have p0 : w2.frozen? ⟨w.heap.size, 0, none⟩ = false := frozen_of_row 0 hR
              have p1 : w2.frozen? ⟨w.heap.size, 1, none⟩ = false := frozen_of_row 1 hR
              have HR2 := hide hR
              clear hR
              go_wp2
              obtain ⟨r0, r1⟩ := fault_cells HR2.out (.int .i64 2) (.int .i64 ((j : Int) + 1))
              refine bodyPost_ret (v := .agg #[.int .i64 2, .int .i64 ((j : Int) + 1)]) (by simp [results, Tryz.results24, go_sem, r0, r1]) rfl ⟨ret_fault (by rw [F.out]; simp), ?_⟩
              exact ((hL01.trans hLW).setCell (Nat.le_refl _) _).setCell (Nat.le_refl _) _
            · have F : Hid (faultFrom l l.length 0 = faultFrom l (l.length - (j + 1 + 1)) (j + 1 + 1)) := by show _ = _; rw [HE.out, hst, if_neg (fun h => hcm h.2)]
              clear hst
              go_wp2
              go_quiet_grown ((go_at_call 30; exact Calls.grown_of (HC.out _ _)))
              go_wp2
              go_roundw
              case rel => exact ⟨j + 1 + 1, by omega, by go_num, hLR.trans ⟨_, _, rfl⟩, F⟩
              case measure => simp [intOf]; omega
        · have F : Hid (faultFrom l l.length 0 = (wrongF (l.getD k noFact), (k : Int))) := by show _ = _; rw [HE.out, hst, if_pos hwz]
          have hwz' : (wrongF (l.getD k noFact) == 0) = false := by simpa using hwz
          generalize wrongF (l.getD k noFact) = we at *
          generalize (l.getD k noFact).1 = nk at *
          clear hst
          go_wp2_with fail
          refine (HWr.out _ ((Later.refl _).alloc _)).mono ?_
          rintro e w1 ⟨rfl, hL1⟩
          have hLR : Later (w.alloc (.cells #[.int .i64 0, .int .i64 0] 27)) w1 := hL.trans (((Later.refl _).alloc _).trans hL1)
          have hL01 : Later w w1 := ((Later.refl _).alloc _).trans hLR
          have hR : w1.heap[w.heap.size]? = some (.cells #[.int .i64 0, .int .i64 0] 27 (0, 0)) := by rw [hLR.block (by simp), heap_alloc_new]
          have q0 : w1.cell? ⟨w.heap.size, 0, none⟩ = some (.int .i64 0) := by rw [cell_of_row _ _ _ _ _ _ hR]; rfl
          have q1 : w1.cell? ⟨w.heap.size, 1, none⟩ = some (.int .i64 0) := by rw [cell_of_row _ _ _ _ _ _ hR]; rfl
          have p0 : w1.frozen? ⟨w.heap.size, 0, none⟩ = false := frozen_of_row 0 hR
          have p1 : w1.frozen? ⟨w.heap.size, 1, none⟩ = false := frozen_of_row 1 hR
          have HRR := hide hR
          clear hR
          go_wp2
          obtain ⟨r0, r1⟩ := fault_cells HRR.out (.int .i64 we) (.int .i64 k)
          refine bodyPost_ret (v := .agg #[.int .i64 we, .int .i64 k]) (by simp [results, Tryz.results24, go_sem, r0, r1]) rfl ⟨ret_fault (by rw [F.out]), ?_⟩
          exact (hL01.setCell (Nat.le_refl _) _).setCell (Nat.le_refl _) _
      · have F : Hid (faultFrom l l.length 0 = (0, 0)) := by show _ = _; rw [HE.out, show l.length - k = 0 by omega]; rfl
        have q0 : wr.cell? ⟨w.heap.size, 0, none⟩ = some (.int .i64 0) := by rw [hL.cell (by simp)]; simp
        have q1 : wr.cell? ⟨w.heap.size, 1, none⟩ = some (.int .i64 0) := by rw [hL.cell (by simp)]; simp
        have p0 : wr.frozen? ⟨w.heap.size, 0, none⟩ = false := by rw [hL.frozen (by simp)]; simp
        have p1 : wr.frozen? ⟨w.heap.size, 1, none⟩ = false := by rw [hL.frozen (by simp)]; simp
        go_wp2
        have hR : wr.heap[w.heap.size]? = some (.cells #[.int .i64 0, .int .i64 0] 27 (0, 0)) := by rw [hL.block (by simp), heap_alloc_new]
        obtain ⟨r0, r1⟩ := fault_cells hR (.int .i64 0) (.int .i64 0)
        refine bodyPost_ret (v := .agg #[.int .i64 0, .int .i64 0]) (by simp [results, Tryz.results24, go_sem, r0, r1]) rfl ⟨ret_fault (by rw [F.out]), ?_⟩
        exact (hL0.setCell (Nat.le_refl _) _).setCell (Nat.le_refl _) _

end Go.Proofs.YtbohggoeebhdmaaGreatDoor

/- The walks of match.risen, match.wrong, match.With and match.All. -/
namespace Go.Proofs.YtbohggoeebhdmaaGreatDoor
open Go.RowKit Go.Sort Go.Maps

theorem faultFrom_zero (l : List FactD) : ∀ (n k : Nat), (faultFrom l n k).1 = 0 → ∀ i, k ≤ i → i < k + n → wrongF (l.getD i noFact) = 0 ∧ (0 < i → cmpF (l.getD (i - 1) noFact) (l.getD i noFact) < 0)
  | 0, k, _, i, h1, h2 => by omega
  | n + 1, k, h, i, h1, h2 => by
    simp only [faultFrom] at h
    split at h
    · rename_i hw; exact absurd h hw
    · rename_i hw
      split at h
      · cases h
      · rename_i hc
        by_cases e : i = k
        · subst e
          refine ⟨Classical.byContradiction hw, fun h0 => ?_⟩
          exact Classical.byContradiction fun hn => hc ⟨h0, by omega⟩
        · exact faultFrom_zero l n (k + 1) h i (by omega) (by omega)

theorem rises_of {l : List FactD} (h : ∀ i, 0 < i → i < l.length → cmpF (l.getD (i - 1) noFact) (l.getD i noFact) < 0) : Rises l := by
  have key : ∀ (d i : Nat), i + d + 1 < l.length → cmpF (l.getD i noFact) (l.getD (i + d + 1) noFact) < 0 := by
    intro d
    induction d with
    | zero => intro i hi; have := h (i + 1) (by omega) (by omega); simpa using this
    | succ d ih =>
      intro i hi
      have h1 := ih i (by omega)
      have h2 := h (i + (d + 1) + 1) (by omega) hi
      have e : i + (d + 1) + 1 - 1 = i + d + 1 := by omega
      rw [e] at h2
      exact three_cmpF.trans _ _ _ h1 h2
  unfold Rises
  rw [List.pairwise_iff_getElem]
  intro i j hi hj hij
  have := key (j - i - 1) i (by omega)
  rw [show i + (j - i - 1) + 1 = j by omega] at this
  rw [List.getD_eq_getElem?_getD, List.getD_eq_getElem?_getD, List.getElem?_eq_getElem hi, List.getElem?_eq_getElem hj] at this
  exact this

/-- A set with which nothing is wrong. -/
theorem set_right {l : List FactD} (h : (setFault l).1 = 0) : l.length ≤ 200 ∧ Rises l ∧ ∀ f ∈ l, wrongF f = 0 := by
  unfold setFault at h
  split at h
  · simp at h
  · rename_i hl
    have hz := faultFrom_zero l l.length 0 h
    refine ⟨by omega, rises_of fun i h0 hi => (hz i (Nat.zero_le _) (by omega)).2 h0, fun f hf => ?_⟩
    obtain ⟨i, hi, e⟩ := List.getElem_of_mem hf
    have := (hz i (Nat.zero_le _) (by omega)).1
    rw [List.getD_eq_getElem?_getD, List.getElem?_eq_getElem hi] at this
    rw [← e]; exact this

theorem rises_nodup {l : List FactD} (h : Rises l) : l.Nodup := h.imp fun {a b} h1 e => by subst e; exact lt_irrefl h1

theorem row_block {lo : Nat} {ty : TypeId} {w w' : World} {v : Value} {n : Nat} {xs : List Value} (h : w.ownsRow lo ty 1 v n xs) (hk : ∀ k, v.ownBlock = some k → w'.heap[k]? = w.heap[k]?) : w'.ownsRow lo ty 1 v n xs := by
  refine ⟨h.1, ?_⟩
  rcases h.2 with e | ⟨g, cap, cur, rfl, hbg, hg, r⟩
  · exact Or.inl e
  · exact Or.inr ⟨g, cap, cur, rfl, hbg, by rw [hk g rfl]; exact hg, r⟩

set_option maxRecDepth 100000 in
set_option maxHeartbeats 2000000 in
theorem risenC (v : Value) (ps : List (Value × List BindD)) (lo : Nat) (w0 w : World) (h0 : Later w0 w) (hlo : w0.heap.size ≤ lo) (hv : Lists 58 147 lo w v ps) (hl : ps.length ≤ 20000) (hs : ∀ q ∈ ps, q.2.length ≤ 20) :
    Calls Tryz.prog 108 #[v] w fun e w' => e = .returned v ∧ listK.sl Anyw w' v (sortBy cmpBs (ps.map fun q => sortB q.2)) ∧ Later w0 w' := by
  obtain ⟨a, cap, rfl⟩ := hv.slice
  have hvl := fun k e => hv.lo_le k e
  obtain ⟨ho, hp, hpw⟩ := hv
  have HR := hide ho
  have HA : Hid (∀ q ∈ ps, apart q.1 (.slice a ps.length cap)) := fun q hq => (hp q hq).2
  have HOw : Hid (∀ q ∈ ps.drop 0, bindK.own 147 lo w q.1 q.2) := fun q hq => (hp q (by simpa using hq)).1
  have HPW := hide hpw
  have HS := hide hs
  have H0 := hide h0
  have HVL := hide hvl
  clear ho hp hpw hs h0 hvl
  go_enter Tryz.func108, Tryz.ntmps108
  go_wp2
  go_loopg [7] ps.length (fun gg i wr => ∃ j : Nat, j + gg = ps.length ∧ i = .int .i64 j ∧ Hid (wr.ownsRow lo 58 1 (.slice a ps.length cap) ps.length (ps.map (·.1))) ∧ Hid (∀ q ∈ ps.take j, bindK.sl (ofBlock q.1) wr q.1 (sortB q.2)) ∧ Hid (∀ q ∈ ps.drop j, bindK.own 147 lo wr q.1 q.2) ∧ Hid (Later w0 wr))
  case atStart => exact ⟨0, by omega, rfl, HR, (fun q hq => by simp at hq), HOw, H0⟩
  case round =>
    clear HR HOw H0
    obtain ⟨j, hj, rfl, HR, HT, HOw, HL⟩ := hrel
    by_cases hlt : j < ps.length
    · obtain ⟨q, hq⟩ : ∃ q, ps[j]? = some q := ⟨_, List.getElem?_eq_getElem hlt⟩
      have hdr : ps.drop j = q :: ps.drop (j + 1) := by
        obtain ⟨h1, e1⟩ := List.getElem?_eq_some_iff.1 hq
        rw [List.drop_eq_getElem_cons h1, e1]
      have hqo : bindK.own 147 lo wr q.1 q.2 := HOw.out q (by rw [hdr]; exact List.mem_cons_self)
      have hqm := List.mem_of_getElem? hq
      obtain ⟨b, hab, hcell, hbl⟩ : ∃ b, a = some ⟨b, 0, none⟩ ∧ wr.cell? ⟨b, j, none⟩ = some q.1 ∧ b < wr.heap.size := by
        rcases HR.out.2 with ⟨e, e'⟩ | ⟨g, cap', cur, e, hbg, hg, _⟩
        · omega
        · simp only [Value.slice.injEq] at e
          obtain ⟨rfl, _, rfl⟩ := e
          have := HR.out.cells (g := g) rfl j q.1 (by rw [List.getElem?_map, hq]; rfl)
          rw [Addr.add_lit, Nat.zero_add] at this
          exact ⟨g, rfl, this, (Array.getElem?_eq_some_iff.1 hg).1⟩
      subst hab
      have HSort := hide (sortBC lo q.1 q.2 wr hqo (by have := HS.out q hqm; omega))
      have hpair : (ps.take j ++ q :: ps.drop (j + 1)).Pairwise fun p q => apart p.1 q.1 := by rw [← hdr, List.take_append_drop]; exact HPW.out
      rw [List.pairwise_append] at hpair
      obtain ⟨_, hp2, hp3⟩ := hpair
      have hafter := (List.pairwise_cons.1 hp2).1
      have HBef : Hid (∀ p ∈ ps.take j, apart p.1 q.1) := fun p hp => hp3 p hp q List.mem_cons_self
      have HAft := hide hafter
      have HQA : Hid (apart q.1 (.slice (some ⟨b, 0, none⟩) ps.length cap)) := HA.out q hqm
      have HQO := hide hqo
      have HDr := hide hdr
      have HQ := hide hq
      obtain ⟨ua, un, uc, hqu⟩ : ∃ a n c, q.1 = .slice a n c := by obtain ⟨a, c, e⟩ := Kind.own_slice hqo; exact ⟨a, _, c, e⟩
      have HQU := hide hqu
      rw [hqu] at hcell HSort
      clear hq hdr hqo hqm hp2 hp3 hafter hqu
      go_wp2_with fail
      refine HSort.out.mono ?_
      rintro e w2 ⟨rfl, hsl, hO⟩
      have HSL : Hid (bindK.sl (ofBlock q.1) w2 q.1 (sortB q.2)) := by rw [HQU.out]; exact hsl
      have hO' : OnlyB q.1.ownBlock wr w2 := by rw [HQU.out]; exact hO
      have HO := hide hO'
      clear hsl hO hO' HSort
      go_wp2
      go_roundg (ps.length - (j + 1))
      case measure => omega
      case rel =>
        refine ⟨j + 1, by omega, by go_num, ?_, ?_, ?_, ?_⟩
        · exact row_block HR.out fun k e => HO.out.block k (HR.out.lt k e).2 (fun e' => HQA.out k e' e)
        · intro p hp
          rw [List.take_add_one, HQ.out] at hp
          rcases List.mem_append.1 hp with h | h
          · exact Kind.sl_kept (HT.out p h) HO.out.size fun k hk hB => HO.out.block k hk (fun e' => HBef.out p h k hB e')
          · simp at h; rw [h]; exact HSL.out
        · intro p hp
          have h1 := HOw.out p (by rw [HDr.out]; exact List.mem_cons_of_mem _ hp)
          exact own_block h1 fun k e => HO.out.block k (Kind.own_lt h1 e).2 (fun e' => HAft.out p hp k e' e)
        · exact HO.out.later HL.out fun k e => by have := (Kind.own_lt HQO.out e).1; omega
    · have e : j = ps.length := by omega
      have HT' : Hid (∀ q ∈ ps, bindK.sl (ofBlock q.1) wr q.1 (sortB q.2)) := by
        have := HT.out
        rw [e, List.take_length] at this
        exact this
      have hm1 : (ps.map fun q => (q.1, sortB q.2)).map (·.1) = ps.map (·.1) := by rw [List.map_map]; rfl
      have hm2 : (ps.map fun q => (q.1, sortB q.2)).map (·.2) = ps.map fun q => sortB q.2 := by rw [List.map_map]; rfl
      have HSort := sortLC lo 58 (.slice a ps.length cap) (ps.map fun q => (q.1, sortB q.2)) wr (by rw [hm1, List.length_map]; exact HR.out) (fun p hp => by
        obtain ⟨q, hq, rfl⟩ := List.mem_map.1 hp
        exact Kind.sl_mono (HT'.out q hq) fun k _ hB e => HA.out q hq k hB e) (by rw [List.length_map]; omega)
      rw [hm2] at HSort
      have HSo := hide HSort
      clear HSort hm1 hm2 e
      go_wp2_with fail
      refine HSo.out.mono ?_
      rintro e w2 ⟨rfl, hsl, hO⟩
      have HSL := hide (Kind.sl_any hsl)
      have HL2 := hide (hO.later HL.out fun k e => by have := HVL.out k e; omega)
      clear hsl hO HSo
      go_wp2
      go_ret
      exact ⟨rfl, HSL.out, HL2.out⟩

set_option maxRecDepth 100000 in
theorem errOf (a b : Int) (w : World) : (Instr.field 27 (.agg #[.int .i64 a, .int .i64 b]) 0).run Tryz.prog w = .ok (.int .i64 a) w := by
  first | kernel_rfl | (simp [Instr.field, run_underlying Tryz.underlying27]) | go_simp

/-- What is wrong with what With is handed. -/
def errW (body : List AtomD) (fs os : List FactD) : Int := if wrongBody body ≠ 0 then wrongBody body else if (setFault fs).1 ≠ 0 then (setFault fs).1 else (setFault os).1

set_option maxRecDepth 100000 in
set_option maxHeartbeats 1000000 in
theorem wrongWC (body : List AtomD) (v fv ov : Value) (fs os : List FactD) (w : World) (hv : atomK.sl Anyw w v body) (hf : Facts w fv fs) (ho : Facts w ov os) :
    Calls Tryz.prog 102 #[v, fv, ov] w fun e w' => e = .returned (.int .i64 (errW body fs os)) ∧ Below w.heap.size w w' := by
  have HB := hide (chkBodyC body v w hv)
  have HF : Hid (∀ w1, Below w.heap.size w w1 → Calls Tryz.prog 24 #[fv] w1 fun e w' => e = .returned (.agg #[.int .i64 (setFault fs).1, .int .i64 (setFault fs).2]) ∧ Hid (Below w.heap.size w w')) := fun w1 h1 =>
    (setC fv fs w1 (hf.below h1)).mono fun e w' ⟨he, hL⟩ => ⟨he, below_trans h1 hL.below h1.size⟩
  have HO : Hid (∀ w1, Below w.heap.size w w1 → Calls Tryz.prog 24 #[ov] w1 fun e w' => e = .returned (.agg #[.int .i64 (setFault os).1, .int .i64 (setFault os).2]) ∧ Hid (Below w.heap.size w w')) := fun w1 h1 =>
    (setC ov os w1 (ho.below h1)).mono fun e w' ⟨he, hL⟩ => ⟨he, below_trans h1 hL.below h1.size⟩
  obtain ⟨a, cap, rfl⟩ := Kind.slice hv
  obtain ⟨fa, fc, rfl⟩ := sliceFacts hf
  obtain ⟨oa, oc, rfl⟩ := sliceFacts ho
  clear hv hf ho
  have E : errW body fs os = if wrongBody body ≠ 0 then wrongBody body else if (setFault fs).1 ≠ 0 then (setFault fs).1 else (setFault os).1 := rfl
  generalize errW body fs os = R at *
  generalize wrongBody body = eb at *
  generalize setFault fs = ef at *
  generalize setFault os = eo at *
  obtain ⟨f1, f2⟩ := ef
  obtain ⟨o1, o2⟩ := eo
  dsimp only at *
  by_cases h0 : eb = 0
  · subst h0
    rw [if_neg (by simp)] at E
    by_cases h1 : f1 = 0
    · subst h1
      rw [if_neg (by simp)] at E
      have HE := hide E
      have hfe := errOf
      clear E
      go_enter Tryz.func102, Tryz.ntmps102
      go_wp2_with fail
      refine HB.out.mono ?_
      rintro e w1 ⟨rfl, hB1⟩
      have H1 := hide (HF.out w1 hB1)
      clear HB HF hB1
      go_wp2_with fail
      refine H1.out.mono ?_
      rintro e w2 ⟨rfl, hB2⟩
      have H2 := hide (HO.out (w2.alloc (.cells #[.int .i64 0, .int .i64 f2] 27)) (hB2.out.alloc hB2.out.size _))
      clear HO H1 hB2
      go_wp2_with fail
      refine H2.out.mono ?_
      rintro e w3 ⟨rfl, hB3⟩
      clear H2
      go_wp2
      go_ret
      exact ⟨by rw [HE.out]; rfl, hB3.out⟩
    · rw [if_pos h1] at E
      have HE := hide E
      have hq : (f1 != 0) = true := by simpa using h1
      clear E h1 HO
      go_enter Tryz.func102, Tryz.ntmps102
      go_wp2_with fail
      refine HB.out.mono ?_
      rintro e w1 ⟨rfl, hB1⟩
      have H1 := hide (HF.out w1 hB1)
      clear HB HF hB1
      go_wp2_with fail
      refine H1.out.mono ?_
      rintro e w2 ⟨rfl, hB2⟩
      clear H1
      go_wp2
      go_ret
      exact ⟨by rw [HE.out]; rfl, hB2.out.alloc hB2.out.size _⟩
  · rw [if_pos h0] at E
    have HE := hide E
    have hq : (eb != 0) = true := by simpa using h0
    clear E h0 HO HF
    go_enter Tryz.func102, Tryz.ntmps102
    go_wp2_with fail
    refine HB.out.mono ?_
    rintro e w1 ⟨rfl, hB1⟩
    have HB1 := hide hB1
    clear HB hB1
    go_wp2
    go_ret
    exact ⟨by rw [HE.out]; rfl, HB1.out⟩

/-- What With tells. -/
def WithT (w : World) (v : Value) (er : Int) (body : List AtomD) (fs : List FactD) (at_ : Int) (os : List FactD) : Prop :=
  if errW body fs os ≠ 0 then v = .slice none 0 0 ∧ er = errW body fs os else match allB (pickB fs at_ os) body with
    | none => v = .slice none 0 0 ∧ er = 4
    | some R => er = 0 ∧ listK.sl Anyw w v R

theorem errW_zero {body : List AtomD} {fs os : List FactD} (h : errW body fs os = 0) : wrongBody body = 0 ∧ (setFault fs).1 = 0 ∧ (setFault os).1 = 0 := by
  unfold errW at h
  split at h
  · rename_i h1; exact absurd h h1
  · rename_i h1
    split at h
    · rename_i h2; exact absurd h h2
    · rename_i h2
      exact ⟨Classical.byContradiction h1, Classical.byContradiction h2, h⟩

theorem wrongAtoms_all : ∀ {l : List AtomD}, wrongAtoms l = 0 → ∀ a ∈ l, wrongAtom a = 0
  | [], _, a, ha => by cases ha
  | b :: l, h, a, ha => by
    unfold wrongAtoms at h
    by_cases hb : wrongAtom b = 0
    · rcases List.mem_cons.1 ha with e | h1
      · rw [e]; exact hb
      · refine wrongAtoms_all ?_ a h1
        simpa [hb] using h
    · simp [hb] at h

theorem body_right {body : List AtomD} (h : wrongBody body = 0) : body.length ≤ 5 ∧ ∀ a ∈ body, wrongAtom a = 0 := by
  unfold wrongBody at h
  split at h
  · simp at h
  · split at h
    · rename_i h5 ha
      exact ⟨by omega, wrongAtoms_all ha⟩
    · rename_i hne; exact absurd h hne

theorem pick_right {fs os : List FactD} {at_ : Int} {P : List FactD → Prop} (h1 : P fs) (h2 : P os) (n : Nat) : P (pickB fs at_ os n) := by
  unfold pickB
  split
  · exact h2
  · exact h1

set_option maxRecDepth 100000 in
set_option maxHeartbeats 2000000 in
theorem withC (body : List AtomD) (v fv ov : Value) (fs os : List FactD) (at_ : Int) (w : World) (hv : atomK.sl Anyw w v body) (hf : Facts w fv fs) (ho : Facts w ov os) :
    Calls Tryz.prog 60 #[v, fv, .int .i64 at_, ov] w fun e w' => ∃ v' er, e = .returned (.tuple #[v', .int .i64 er]) ∧ WithT w' v' er body fs at_ os ∧ Below w.heap.size w w' := by
  obtain ⟨a, cap, hva⟩ := Kind.slice hv
  have HW : Hid (Calls Tryz.prog 102 #[v, fv, ov] (w.alloc (.cells #[v] 41)) fun e w' => e = .returned (.int .i64 (errW body fs os)) ∧ Below (w.alloc (.cells #[v] 41)).heap.size (w.alloc (.cells #[v] 41)) w') :=
    wrongWC body v fv ov fs os _ (Kind.sl_later hv ((Later.refl _).alloc _)) (hf.later ((Later.refl _).alloc _)) (ho.later ((Later.refl _).alloc _))
  have HV := hide hv
  have HF := hide hf
  have HO := hide ho
  obtain ⟨fa, fc, hfa⟩ := sliceFacts hf
  obtain ⟨oa, oc, hoa⟩ := sliceFacts ho
  subst hva hfa hoa
  clear hv hf ho
  by_cases h0 : errW body fs os = 0
  · rw [h0] at HW
    have H0 := hide h0
    obtain ⟨hw0, hf0, ho0⟩ := errW_zero h0
    obtain ⟨hb5, hba⟩ := body_right hw0
    obtain ⟨hfl, hfr, _⟩ := set_right hf0
    obtain ⟨hol, hor, _⟩ := set_right ho0
    have HPr : Hid (∀ n, Rises (pickB fs at_ os n)) := pick_right hfr hor
    have HPl : Hid (∀ n, (pickB fs at_ os n).length ≤ 200) := pick_right (P := fun l => l.length ≤ 200) hfl hol
    have HBa : Hid (∀ a ∈ body, a.terms.length ≤ 4) := fun a ha => (wrongAtom_zero (hba a ha)).2.1
    clear h0 hw0 hf0 ho0 hba hfl hol hfr hor
    go_enter Tryz.func60, Tryz.ntmps60
    go_wp2_with fail
    refine HW.out.mono ?_
    rintro e w1 ⟨rfl, hB1⟩
    have hBw : Below w.heap.size w w1 := below_trans ((Later.refl w).alloc _).below hB1 (by simp)
    have hs1 : w.heap.size < w1.heap.size := by have := hB1.size; simp at this; omega
    have z0 : w1.cell? ⟨w.heap.size, 0, none⟩ = some (.slice a body.length cap) := by rw [hB1.cell (by simp)]; simp
    have HSr := hide (sourceC _ _ fs os at_ w1 (HF.out.below hBw) (HO.out.below hBw))
    have HBw := hide hBw
    clear HW hB1 hBw
    go_wp2_with fail
    refine HSr.out.mono ?_
    rintro e w2 ⟨rfl, hL2, hs2, y0, y1, y2⟩
    have hB2 : Below w.heap.size w w2 := below_trans HBw.out hL2.below HBw.out.size
    obtain ⟨w3, hw3⟩ : ∃ w3, w3 = w2.alloc (.cells #[.func (.func 137) #[] #[.pointer (some ⟨w1.heap.size + 1, 0, none⟩), .pointer (some ⟨w1.heap.size + 2, 0, none⟩), .pointer (some ⟨w1.heap.size, 0, none⟩)]] 119) := ⟨_, rfl⟩
    have hL3 : Later w2 w3 := by rw [hw3]; exact (Later.refl _).alloc _
    have hB3 : Below w.heap.size w w3 := below_trans hB2 hL3.below hB2.size
    have hs3 : w3.heap.size = w2.heap.size + 1 := by rw [hw3]; simp
    have x0 : w3.cell? ⟨w.heap.size, 0, none⟩ = some (.slice a body.length cap) := by rw [(hL2.trans hL3).cell (by exact hs1)]; exact z0
    have x1 : w3.cell? ⟨w2.heap.size, 0, none⟩ = some (.func (.func 137) #[] #[.pointer (some ⟨w1.heap.size + 1, 0, none⟩), .pointer (some ⟨w1.heap.size + 2, 0, none⟩), .pointer (some ⟨w1.heap.size, 0, none⟩)]) := by rw [hw3]; simp
    have hPk : Picks 137 #[.pointer (some ⟨w1.heap.size + 1, 0, none⟩), .pointer (some ⟨w1.heap.size + 2, 0, none⟩), .pointer (some ⟨w1.heap.size, 0, none⟩)] (pickB fs at_ os) w3.heap.size w3 :=
      source1C w1.heap.size (w1.heap.size + 1) (w1.heap.size + 2) _ _ fs os at_ _ w3 (HF.out.below hB3) (HO.out.below hB3) (by rw [hL3.cell (by show w1.heap.size < w2.heap.size; omega)]; exact y0) (by rw [hL3.cell (by show w1.heap.size + 1 < w2.heap.size; omega)]; exact y1) (by rw [hL3.cell (by show w1.heap.size + 2 < w2.heap.size; omega)]; exact y2) (by omega) (by omega) (by omega) rfl
    have hDl := with1C w.heap.size w2.heap.size body _ 137 _ enters_source1 (pickB fs at_ os) w3.heap.size w3 (Kind.sl_below HV.out hB3) hPk hb5 HPr.out x0 x1 (by omega) (by omega) rfl
    have HMt := hide (metC body _ 137 _ enters_source1 (pickB fs at_ os) w3 (Kind.sl_below HV.out hB3) hPk hb5 HBa.out HPl.out)
    have HDl := hide hDl
    have HB3 := hide hB3
    have HW3 := hide hw3
    have u0 : w2.cell? ⟨w.heap.size, 0, none⟩ = some (.slice a body.length cap) := by rw [hL2.cell (by exact hs1)]; exact z0
    have hx0 : w.heap.size < w2.heap.size := by omega
    clear x0 x1
    have hAB : allB (pickB fs at_ os) body = match metGo (pickB fs at_ os) 0 body [[]] with | none => none | some ms => some (sortBy cmpBs ((ms.filter fun l => !barredB (pickB fs at_ os) 0 body l).map sortB)) := rfl
    generalize barredB (pickB fs at_ os) 0 body = bp at *
    clear HSr hL2 hB2 hL3 hB3 hPk hDl hw3 y0 y1 y2 z0 hs2 hs3 HPr HPl HBa HF HO HBw
    go_wp2_with fail
    rw [← HW3.out]
    refine HMt.out.mono ?_
    rintro e w4 ⟨v4, er, rfl, hMT, hL4⟩
    cases hmg : metGo (pickB fs at_ os) 0 body [[]] with
    | none =>
      rw [hmg] at hMT hAB
      obtain ⟨rfl, rfl⟩ := hMT
      dsimp only at hAB
      have HAB := hide hAB
      have HL4 := hide hL4
      clear hmg hAB HMt hL4
      go_wp2
      go_ret2
      refine ⟨.slice none 0 0, 4, rfl, ?_, below_trans HB3.out HL4.out.below HB3.out.size⟩
      unfold WithT
      rw [if_neg (fun h => h H0.out), HAB.out]
      exact ⟨rfl, rfl⟩
    | some ms =>
      rw [hmg] at hMT hAB
      obtain ⟨rfl, ps, hps, hpl, hpq, hLs⟩ := hMT
      dsimp only at hAB
      have hpl' : ps.length ≤ 20000 := by rw [← hps, List.length_map] at hpl; exact hpl
      have hpq' : ∀ q ∈ ps, q.2.length ≤ 20 := fun q hq => hpq _ (by rw [← hps]; exact List.mem_map.2 ⟨q, hq, rfl⟩)
      have HDe := hide (deleteC v4 ps 106 _ enters_with1 bp w3.heap.size w3.heap.size w3 w4 HDl.out hL4.below (Nat.le_refl _) hL4.size hLs hpl' hpq')
      obtain ⟨a4, n4, c4, rfl⟩ : ∃ a n c, v4 = .slice a n c := by obtain ⟨a, c, e⟩ := Lists.slice hLs; exact ⟨a, _, c, e⟩
      have HLo : Hid (∀ k, (Value.slice a4 n4 c4).ownBlock = some k → w3.heap.size ≤ k) := fun k e => hLs.lo_le k e
      have HAB := hide hAB
      have HL4 := hide hL4
      have HPS := hide hps
      have HPL := hide hpl'
      have HPQ := hide hpq'
      clear hmg hAB HMt hL4 hps hpl hpq hLs hpl' hpq'
      go_wp2_with fail
      refine HDe.out.mono ?_
      rintro e w5 ⟨v5, rfl, hLs5, hob, hO5⟩
      have hL5 : Later w3 w5 := hO5.later HL4.out fun k e => HLo.out k e
      have hkl : (keptL bp ps).length ≤ 20000 := Nat.le_trans (List.length_filter_le _ _) HPL.out
      have HRi := hide (risenC v5 (keptL bp ps) w3.heap.size w3 w5 hL5 (Nat.le_refl _) hLs5 hkl (fun q hq => HPQ.out q (List.mem_filter.1 hq).1))
      obtain ⟨a5, n5, c5, rfl⟩ : ∃ a n c, v5 = .slice a n c := by obtain ⟨a, c, e⟩ := Lists.slice hLs5; exact ⟨a, _, c, e⟩
      clear HDe hLs5 hob hO5 hL5 hkl
      go_wp2_with fail
      refine HRi.out.mono ?_
      rintro e w6 ⟨rfl, hsl, hL6⟩
      have HSL := hide hsl
      have HL6 := hide hL6
      clear HRi hsl hL6
      go_wp2
      go_ret2
      refine ⟨.slice a5 n5 c5, 0, rfl, ?_, below_trans HB3.out HL6.out.below HB3.out.size⟩
      unfold WithT
      rw [if_neg (fun h => h H0.out), HAB.out]
      have e : (ms.filter fun l => !bp l).map sortB = (keptL bp ps).map fun q => sortB q.2 := by
        rw [← HPS.out]
        unfold keptL
        rw [List.filter_map, List.map_map]
        rfl
      rw [e]
      exact ⟨rfl, HSL.out⟩
  · have hq : (errW body fs os != 0) = true := by simpa using h0
    have H0 := hide h0
    generalize her : errW body fs os = er at *
    have HER := hide her
    clear h0 HV HF HO her
    go_enter Tryz.func60, Tryz.ntmps60
    go_wp2_with fail
    refine HW.out.mono ?_
    rintro e w1 ⟨rfl, hB1⟩
    have HB := hide (below_trans ((Later.refl w).alloc (.cells #[.slice a body.length cap] 41)).below hB1 (by simp))
    clear HW hB1
    go_wp2
    go_ret2
    refine ⟨.slice none 0 0, er, rfl, ?_, HB.out⟩
    unfold WithT
    rw [HER.out, if_pos H0.out]
    exact ⟨rfl, rfl⟩

end Go.Proofs.YtbohggoeebhdmaaGreatDoor

/- All that follows: the document's answer of chapter 5, plain: what a rule makes, one round, a stratum, all; and what programs with which nothing is wrong are. Nothing of the program. -/
namespace Go.Proofs.YtbohggoeebhdmaaGreatDoor

/-- Rising, each once. -/
abbrev Up (s : List FactB) : Prop := s.Pairwise fun a b => cmpF a b < 0

def dropTwice : List FactB → List FactB
  | [] => []
  | f :: l => if inB l f then dropTwice l else f :: dropTwice l
theorem mem_dropTwice : ∀ {l : List FactB} {f : FactB}, f ∈ dropTwice l ↔ f ∈ l
  | [], f => by simp [dropTwice]
  | g :: l, f => by
    unfold dropTwice
    split
    · rename_i h
      rw [mem_dropTwice, List.mem_cons]
      exact ⟨Or.inr, fun h' => h'.elim (fun e => by rw [e]; exact inB_iff.1 h) id⟩
    · rw [List.mem_cons, List.mem_cons, mem_dropTwice]
theorem dropTwice_nodup : ∀ (l : List FactB), (dropTwice l).Nodup
  | [] => List.nodup_nil
  | g :: l => by
    unfold dropTwice
    split
    · exact dropTwice_nodup l
    · rename_i h
      exact List.nodup_cons.2 ⟨fun h' => h (inB_iff.2 (mem_dropTwice.1 h')), dropTwice_nodup l⟩
theorem dropTwice_len : ∀ (l : List FactB), (dropTwice l).length ≤ l.length
  | [] => Nat.le_refl _
  | g :: l => by
    have := dropTwice_len l
    unfold dropTwice
    split <;> simp <;> omega

/-- Facts as a set. -/
def setF (l : List FactB) : List FactB := sortBy cmpF (dropTwice l)
theorem mem_setF {l : List FactB} {f : FactB} : f ∈ setF l ↔ f ∈ l := by
  unfold setF; rw [(sortBy_perm _).mem_iff, mem_dropTwice]
theorem setF_up (l : List FactB) : Up (setF l) := strict_of three_cmpF (sortBy_sorted three_cmpF _) ((sortBy_perm _).nodup_iff.2 (dropTwice_nodup l))
theorem setF_len (l : List FactB) : (setF l).length ≤ l.length := by
  unfold setF; rw [(sortBy_perm _).length_eq]; exact dropTwice_len l
theorem up_ext {s t : List FactB} (hs : Up s) (ht : Up t) (h : ∀ f, f ∈ s ↔ f ∈ t) : s = t := rise_ext three_cmpF hs ht h
theorem setF_of {s l : List FactB} (hs : Up s) (h : ∀ f, f ∈ s ↔ f ∈ l) : s = setF l := up_ext hs (setF_up l) fun f => by rw [mem_setF, h]
theorem setF_up_self {s : List FactB} (hs : Up s) : setF s = s := (setF_of hs fun _ => Iff.rfl).symm
theorem setF_congr {l m : List FactB} (h : ∀ f, f ∈ l ↔ f ∈ m) : setF l = setF m := up_ext (setF_up l) (setF_up m) fun f => by rw [mem_setF, mem_setF, h]
theorem up_nodup {s : List FactB} (hs : Up s) : s.Nodup := strict_nodup three_cmpF hs
theorem sub_len : ∀ {s t : List FactB}, s.Nodup → (∀ f ∈ s, f ∈ t) → s.length ≤ t.length
  | [], _, _, _ => Nat.zero_le _
  | a :: s, t, hn, h => by
    have hn' := List.nodup_cons.1 hn
    obtain ⟨t1, t2, rfl⟩ := List.append_of_mem (h a (by simp))
    have := sub_len (t := t1 ++ t2) hn'.2 fun f hf => by
      have h1 := h f (by simp [hf])
      simp only [List.mem_append, List.mem_cons] at h1 ⊢
      rcases h1 with h1 | rfl | h1
      · exact Or.inl h1
      · exact absurd hf hn'.1
      · exact Or.inr h1
    simp only [List.length_cons, List.length_append] at this ⊢; omega
theorem up_le {s t : List FactB} (hs : Up s) (h : ∀ f ∈ s, f ∈ t) : s.length ≤ t.length := sub_len (up_nodup hs) h
theorem up_same {s t : List FactB} (hs : Up s) (ht : Up t) (h : ∀ f ∈ s, f ∈ t) (e : t.length ≤ s.length) : s = t := by
  refine up_ext hs ht fun f => ⟨h f, fun hf => Classical.byContradiction fun hn => ?_⟩
  have := sub_len (s := f :: s) (t := t) (List.nodup_cons.2 ⟨hn, up_nodup hs⟩) fun g hg => by
    rcases List.mem_cons.1 hg with rfl | hg
    · exact hf
    · exact h g hg
  simp only [List.length_cons] at this; omega

/-- What a rule makes of facts: none, if there are too many ways. -/
def headsP (r : RuleD) (fs : List FactB) : Option (List FactB) := match allB (fun _ => fs) r.body with
  | none => none
  | some R => some (setF (R.filterMap fun l => fillB r.head l))

def onceGo (n : Int) (fs : List FactB) : List RuleD → List Nat → List FactB → Int × List FactB
  | [], _, acc => (0, setF acc)
  | _ :: _, [], acc => (0, setF acc)
  | r :: p, s :: ss, acc => if (s : Int) = n then
      match headsP r fs with
      | none => (4, [])
      | some x => if 200 < (setF (acc ++ x)).length then (5, []) else onceGo n fs p ss (acc ++ x)
    else onceGo n fs p ss acc
/-- One round. -/
def onceP (p : List RuleD) (ss : List Nat) (n : Int) (fs : List FactB) : Int × List FactB := onceGo n fs p ss fs

/-- Over and over, until nothing comes. -/
def overGo (p : List RuleD) (ss : List Nat) (n : Int) : Nat → List FactB → Int × List FactB
  | 0, l => (0, l)
  | k + 1, l => if (onceP p ss n l).1 ≠ 0 then ((onceP p ss n l).1, []) else if (onceP p ss n l).2.length = l.length then (0, (onceP p ss n l).2) else overGo p ss n k (onceP p ss n l).2

def countP : List Nat → Nat
  | [] => 0
  | s :: ss => max (s + 1) (countP ss)
theorem lt_countP : ∀ {ss : List Nat} {s : Nat}, s ∈ ss → s < countP ss
  | t :: ss, s, h => by
    unfold countP
    rcases List.mem_cons.1 h with rfl | h
    · omega
    · have := lt_countP h; omega
theorem countP_congr {ss tt : List Nat} (h : ∀ s, s ∈ ss ↔ s ∈ tt) : countP ss = countP tt := by
  have key : ∀ {a b : List Nat}, (∀ s ∈ a, s ∈ b) → countP a ≤ countP b := by
    intro a
    induction a with
    | nil => intro b _; exact Nat.zero_le _
    | cons x a ih =>
      intro b hb
      have h1 := ih fun s hs => hb s (List.mem_cons_of_mem _ hs)
      have h2 := lt_countP (hb x (by simp))
      show max (x + 1) (countP a) ≤ countP b
      omega
  exact Nat.le_antisymm (key fun s hs => (h s).1 hs) (key fun s hs => (h s).2 hs)

/-- So many strata, from number n on. -/
def runGo (p : List RuleD) (ss : List Nat) : Nat → Nat → List FactB → Int × List FactB
  | 0, _, l => (0, l)
  | c + 1, n, l => if (overGo p ss n 201 l).1 ≠ 0 then ((overGo p ss n 201 l).1, []) else runGo p ss c (n + 1) (overGo p ss n 201 l).2

/-- A fact goes with all atoms of its name. -/
def fitF (p : List RuleD) (f : FactB) : Bool := p.all fun r => (r.head :: r.body).all fun a => !decide (bs a.name = f.1) || decide (a.terms.length = f.2.length)

/-! ### programs with which nothing is wrong -/

structure RightR (r : RuleD) : Prop where
  head : wrongAtom r.head = 0
  yes : r.head.no = false
  body : wrongBody r.body = 0
  vars : (vars r.head).all (givenBy r.body) = true

def atomsP (p : List RuleD) : List AtomD := p.flatMap fun r => r.head :: r.body

theorem fitAll_append (l q : List AtomD) : ∀ m : Nums, fitAll m (l ++ q) = if (fitAll m l).1 then fitAll (fitAll m l).2 q else fitAll m l := by
  induction l with
  | nil => intro m; simp [fitAll]
  | cons a l ih =>
    intro m
    by_cases h : (fitOne m a).1 = true
    · have h1 : ∀ q, fitAll m (a :: q) = fitAll (fitOne m a).2 q := fun q => by rw [fitAll, if_pos h]
      rw [List.cons_append, h1, h1, ih]
    · have h1 : ∀ q, fitAll m (a :: q) = (false, (fitOne m a).2) := fun q => by rw [fitAll, if_neg h]
      rw [List.cons_append, h1, h1]; rfl

theorem wrongRule_iff (m : Nums) (r : RuleD) : (wrongRule m r).1 = 0 ↔ RightR r ∧ (fitAll m (r.head :: r.body)).1 = true := by
  unfold wrongRule
  constructor
  · intro h
    split at h
    · rename_i h1
      split at h
      · cases h
      · rename_i h2
        split at h
        · rename_i h3
          split at h
          · rename_i h4
            split at h
            · rename_i h5
              refine ⟨⟨h1, by simpa using h2, h3, h4⟩, ?_⟩
              unfold fitAll
              rw [if_pos h5]
              dsimp only at h
              split at h
              · assumption
              · cases h
            · cases h
          · cases h
        · rename_i h3; exact absurd h h3
    · rename_i h1; exact absurd h h1
  · rintro ⟨⟨h1, h2, h3, h4⟩, h5⟩
    unfold fitAll at h5
    split at h5
    · rename_i h6
      rw [if_pos h1, if_neg (by simp [h2]), if_pos h3, if_pos h4, if_pos h6, if_pos h5]
    · cases h5

theorem wrongRule_next (m : Nums) (r : RuleD) (h : (wrongRule m r).1 = 0) : (wrongRule m r).2 = (fitAll m (r.head :: r.body)).2 := by
  obtain ⟨⟨h1, h2, h3, h4⟩, h5⟩ := (wrongRule_iff m r).1 h
  unfold fitAll at h5 ⊢
  split at h5
  · rename_i h6
    unfold wrongRule
    rw [if_pos h1, if_neg (by simp [h2]), if_pos h3, if_pos h4, if_pos h6, if_pos h6]
  · cases h5

theorem wrongGo_iff (p : List RuleD) : ∀ (m : Nums) (i : Nat), (wrongGo m i p).1 = 0 ↔ (∀ r ∈ p, RightR r) ∧ (fitAll m (atomsP p)).1 = true := by
  induction p with
  | nil => intro m i; simp [wrongGo, atomsP, fitAll]
  | cons r p ih =>
    intro m i
    have ea : atomsP (r :: p) = (r.head :: r.body) ++ atomsP p := rfl
    rw [ea, fitAll_append]
    unfold wrongGo
    by_cases h : (wrongRule m r).1 = 0
    · rw [if_pos h, ih, wrongRule_next m r h]
      obtain ⟨h1, h2⟩ := (wrongRule_iff m r).1 h
      rw [if_pos h2]
      simp [h1]
    · rw [if_neg h]
      refine ⟨fun h' => absurd h' h, fun ⟨h1, h2⟩ => ?_⟩
      exfalso
      split at h2
      · rename_i h3; exact h ((wrongRule_iff m r).2 ⟨h1 r (by simp), h3⟩)
      · rename_i h3; exact h3 h2

/-- All atoms of one name have as many terms. -/
def Even (l : List AtomD) : Prop := ∀ a ∈ l, ∀ b ∈ l, a.name = b.name → a.terms.length = b.terms.length

theorem fitAll_iff (l : List AtomD) : ∀ m : Nums, (fitAll m l).1 = true ↔ (∀ a ∈ l, ∀ n, m a.name = some n → n = a.terms.length) ∧ Even l := by
  induction l with
  | nil => intro m; simp [fitAll, Even]
  | cons a l ih =>
    intro m
    unfold fitAll
    cases e : m a.name with
    | none =>
      have h1 : fitOne m a = (true, m.put a.name a.terms.length) := by unfold fitOne; rw [e]
      rw [h1]
      simp only [if_true]
      rw [ih]
      constructor
      · rintro ⟨h2, h3⟩
        have h4 : ∀ b ∈ l, b.name = a.name → a.terms.length = b.terms.length := fun b hb hn => h2 b hb _ (by unfold Nums.put; rw [if_pos hn])
        refine ⟨fun b hb n hn => ?_, fun b hb c hc hbc => ?_⟩
        · rcases List.mem_cons.1 hb with rfl | hb
          · rw [e] at hn; cases hn
          · by_cases hne : b.name = a.name
            · rw [hne, e] at hn; cases hn
            · exact h2 b hb n (by unfold Nums.put; rw [if_neg hne]; exact hn)
        · rcases List.mem_cons.1 hb with rfl | hb'
          · rcases List.mem_cons.1 hc with rfl | hc
            · rfl
            · exact h4 c hc hbc.symm
          · rcases List.mem_cons.1 hc with rfl | hc
            · exact (h4 b hb' hbc).symm
            · exact h3 b hb' c hc hbc
      · rintro ⟨h2, h3⟩
        refine ⟨fun b hb n hn => ?_, fun b hb c hc => h3 b (by simp [hb]) c (by simp [hc])⟩
        unfold Nums.put at hn
        split at hn
        · rename_i hne; cases hn; exact h3 a (by simp) b (by simp [hb]) hne.symm
        · exact h2 b (by simp [hb]) n hn
    | some k =>
      have h1 : fitOne m a = (decide (k = a.terms.length), m) := by unfold fitOne; rw [e]
      rw [h1]
      by_cases hk : k = a.terms.length
      · simp only [hk, decide_true, if_true]
        rw [ih]
        have h4 : (∀ b ∈ l, ∀ n, m b.name = some n → n = b.terms.length) → ∀ b ∈ l, b.name = a.name → a.terms.length = b.terms.length := fun h b hb hn => h b hb _ (by rw [hn, e, hk])
        constructor
        · rintro ⟨h2, h3⟩
          refine ⟨fun b hb n hn => ?_, fun b hb c hc hbc => ?_⟩
          · rcases List.mem_cons.1 hb with rfl | hb
            · rw [e] at hn; cases hn; exact hk
            · exact h2 b hb n hn
          · rcases List.mem_cons.1 hb with rfl | hb'
            · rcases List.mem_cons.1 hc with rfl | hc
              · rfl
              · exact h4 h2 c hc hbc.symm
            · rcases List.mem_cons.1 hc with rfl | hc
              · exact (h4 h2 b hb' hbc).symm
              · exact h3 b hb' c hc hbc
        · rintro ⟨h2, h3⟩
          exact ⟨fun b hb => h2 b (by simp [hb]), fun b hb c hc => h3 b (by simp [hb]) c (by simp [hc])⟩
      · simp only [hk, decide_false]
        refine ⟨fun h => by simp at h, fun ⟨h2, _⟩ => ?_⟩
        exact absurd (h2 a (by simp) k e) hk

/-- A program with which nothing is wrong. -/
structure RightP (p : List RuleD) : Prop where
  few : p.length ≤ 16
  rules : ∀ r ∈ p, RightR r
  even : Even (atomsP p)

theorem rightP_iff {p : List RuleD} : (wrongP p).1 = 0 ↔ RightP p := by
  unfold wrongP
  constructor
  · intro h
    split at h
    · cases h
    · rename_i h1
      obtain ⟨h2, h3⟩ := (wrongGo_iff p _ _).1 h
      exact ⟨by omega, h2, ((fitAll_iff _ _).1 h3).2⟩
  · rintro ⟨h1, h2, h3⟩
    rw [if_neg (by omega)]
    exact (wrongGo_iff p _ _).2 ⟨h2, (fitAll_iff _ _).2 ⟨fun _ _ _ h => (by simp at h), h3⟩⟩

theorem RightP.turned {p : List RuleD} (h : RightP p) : RightP p.reverse :=
  ⟨by rw [List.length_reverse]; exact h.few, fun r hr => h.rules r (List.mem_reverse.1 hr), fun a ha b hb => h.even a (by simpa [atomsP] using ha) b (by simpa [atomsP] using hb)⟩

end Go.Proofs.YtbohggoeebhdmaaGreatDoor

/- What all that follows is good for, plain: no rule makes anything more; each fact was told, or is made of what is there; told more there is no less; rules in whatever order. Nothing of the program. -/
namespace Go.Proofs.YtbohggoeebhdmaaGreatDoor

theorem heads_mem {r : RuleD} {fs x : List FactB} (hc : Covers r.body) (h : headsP r fs = some x) (f : FactB) : f ∈ x ↔ ∃ env, FitsB (fun _ => fs) r.body env ∧ fillB r.head env = some f := by
  unfold headsP at h
  cases e : allB (fun _ => fs) r.body with
  | none => rw [e] at h; cases h
  | some R =>
    rw [e] at h
    cases h
    rw [mem_setF, List.mem_filterMap]
    exact ⟨fun ⟨l, hl, hf⟩ => ⟨l, (all_mem hc e l).1 hl, hf⟩, fun ⟨l, hl, hf⟩ => ⟨l, (all_mem hc e l).2 hl, hf⟩⟩

theorem fill_name {a : AtomD} {l : List BindD} {f : FactB} (h : fillB a l = some f) : f.1 = bs a.name ∧ fillArgs l a.terms = some f.2 := by
  unfold fillB at h
  cases e : fillArgs l a.terms with
  | none => rw [e] at h; cases h
  | some r => rw [e] at h; cases h; exact ⟨rfl, rfl⟩

theorem fits_sub {fs gs : List FactB} {body : List AtomD} {env : List BindD} (hpos : ∀ a ∈ body, a.no = false → ∀ f : FactB, f.1 = bs a.name → f ∈ fs → f ∈ gs)
    (hneg : ∀ a ∈ body, a.no = true → ∀ f : FactB, f.1 = bs a.name → f ∈ gs → f ∈ fs) (h : FitsB (fun _ => fs) body env) : FitsB (fun _ => gs) body env := by
  obtain ⟨h1, h2, h3, h4⟩ := h
  refine ⟨h1, h2, h3, SoB_const.2 fun a ha => ?_⟩
  obtain ⟨f, hf, hi⟩ := SoB_const.1 h4 a ha
  refine ⟨f, hf, ?_⟩
  have hn := (fill_name hf).1
  cases hno : a.no with
  | false =>
    rw [hno] at hi
    exact inB_iff.2 (hpos a ha hno f hn (inB_iff.1 hi))
  | true =>
    rw [hno] at hi
    cases e : inB gs f with
    | false => rfl
    | true => rw [inB_iff.2 (hneg a ha hno f hn (inB_iff.1 e))] at hi; cases hi

/-- A fact with which nothing is wrong. -/
def RightF (f : FactB) : Prop := isNamed (raw f.1) = true ∧ f.2.length ≤ 4 ∧ ∀ s ∈ f.2, isNamed (raw s) = true

theorem fillArgs_to {l : List BindD} : ∀ {ts : List TermD} {r : List ByteArray}, fillArgs l ts = some r → ∀ t ∈ ts, ∃ u ∈ r, worthB l t = some u
  | [], _, _ => fun _ h => by cases h
  | t :: ts, r, h => fun u hu => by
    simp only [fillArgs] at h
    cases e : worthB l t with
    | none => rw [e] at h; cases h
    | some s =>
      rw [e] at h
      dsimp only at h
      cases e2 : fillArgs l ts with
      | none => rw [e2] at h; cases h
      | some q =>
        rw [e2] at h
        cases h
        rcases List.mem_cons.1 hu with rfl | hu
        · exact ⟨s, by simp, e⟩
        · obtain ⟨v, hv, hw⟩ := fillArgs_to e2 u hu
          exact ⟨v, by simp [hv], hw⟩

theorem fillArgs_from {l : List BindD} : ∀ {ts : List TermD} {r : List ByteArray}, fillArgs l ts = some r → ∀ u ∈ r, ∃ t ∈ ts, worthB l t = some u
  | [], _, h => fun _ hu => by cases h; cases hu
  | t :: ts, r, h => fun u hu => by
    simp only [fillArgs] at h
    cases e : worthB l t with
    | none => rw [e] at h; cases h
    | some s =>
      rw [e] at h
      dsimp only at h
      cases e2 : fillArgs l ts with
      | none => rw [e2] at h; cases h
      | some q =>
        rw [e2] at h
        cases h
        rcases List.mem_cons.1 hu with rfl | hu
        · exact ⟨t, by simp, e⟩
        · obtain ⟨v, hv, hw⟩ := fillArgs_from e2 u hu
          exact ⟨v, by simp [hv], hw⟩

theorem env_right {fs : List FactB} {body : List AtomD} {env : List BindD} (hr : ∀ f ∈ fs, RightF f) (h : FitsB (fun _ => fs) body env) {v s : ByteArray} (hg : getB env v = some s) : isNamed (raw s) = true := by
  obtain ⟨_, _, h3, h4⟩ := h
  have hk0 : v ∈ keysB env := List.mem_map.2 ⟨_, getB_mem hg, rfl⟩
  obtain ⟨k, hk, rfl⟩ := List.mem_map.1 ((h3 v).1 hk0)
  rcases (mem_posVars body).1 hk with hk | ⟨a, ha, hno, t, ht, ht1, rfl⟩
  · cases hk
  obtain ⟨f, hf, hi⟩ := SoB_const.1 h4 a ha
  rw [hno] at hi
  obtain ⟨u, hu, hw⟩ := fillArgs_to (fill_name hf).2 t ht
  unfold worthB at hw
  rw [if_pos ht1, hg] at hw
  cases hw
  exact (hr f (inB_iff.1 hi)).2.2 _ hu

theorem atom_zero {a : AtomD} (h : wrongAtom a = 0) : isNamed a.name = true ∧ a.terms.length ≤ 4 ∧ ∀ t ∈ a.terms, wrongTerm t = false := by
  unfold wrongAtom at h
  split at h
  · cases h
  · rename_i h1
    split at h
    · cases h
    · rename_i h2
      split at h
      · cases h
      · rename_i h3
        refine ⟨by simpa using h1, by omega, fun t ht => ?_⟩
        cases e : wrongTerm t with
        | false => rfl
        | true => exact absurd (List.any_eq_true.2 ⟨t, ht, e⟩) h3

theorem head_right {r : RuleD} {fs : List FactB} {env : List BindD} {f : FactB} (hR : RightR r) (hr : ∀ f ∈ fs, RightF f) (h : FitsB (fun _ => fs) r.body env) (hf : fillB r.head env = some f) :
    RightF f ∧ f.1 = bs r.head.name ∧ f.2.length = r.head.terms.length := by
  obtain ⟨h1, h2⟩ := fill_name hf
  obtain ⟨h3, h4, h5⟩ := atom_zero hR.head
  have hl := fillArgs_len h2
  refine ⟨⟨by rw [h1, raw_bs]; exact h3, by omega, fun s hs => ?_⟩, h1, hl⟩
  obtain ⟨t, ht, hw⟩ := fillArgs_from h2 s hs
  unfold worthB at hw
  split at hw
  · exact env_right hr h hw
  · rename_i ht1
    cases hw
    have := h5 t ht
    unfold wrongTerm at this
    rw [if_neg ht1] at this
    rw [raw_bs]
    simpa using this

/-- Facts with which nothing is wrong, and that go with a program. -/
structure GoodS (p : List RuleD) (L : List FactB) : Prop where
  up : Up L
  right : ∀ f ∈ L, RightF f
  few : L.length ≤ 200
  fit : ∀ f ∈ L, fitF p f = true

theorem fitF_iff {p : List RuleD} {f : FactB} : fitF p f = true ↔ ∀ a ∈ atomsP p, bs a.name = f.1 → a.terms.length = f.2.length := by
  unfold fitF atomsP
  simp only [List.all_eq_true, Bool.or_eq_true, Bool.not_eq_true', decide_eq_false_iff_not, decide_eq_true_eq, List.mem_flatMap]
  constructor
  · rintro h a ⟨r, hr, ha⟩ e
    exact (h r hr a ha).resolve_left fun hn => hn e
  · intro h r hr a ha
    by_cases e : bs a.name = f.1
    · exact Or.inr (h a ⟨r, hr, ha⟩ e)
    · exact Or.inl e

theorem head_fit {p : List RuleD} (hp : RightP p) {r : RuleD} (hr : r ∈ p) {f : FactB} (h1 : f.1 = bs r.head.name) (h2 : f.2.length = r.head.terms.length) : fitF p f = true :=
  fitF_iff.2 fun a ha e => by
    rw [h2]
    exact hp.even a ha r.head (List.mem_flatMap.2 ⟨r, hr, by simp⟩) (bs_inj (e.trans h1))

theorem covers_right {r : RuleD} (h : RightR r) : Covers r.body := covers_of h.body

/-! ### one round -/

theorem onceGo_ok {n : Int} {fs : List FactB} (σ : RuleD → Nat) : ∀ {p : List RuleD} {acc S : List FactB}, onceGo n fs p (p.map σ) acc = (0, S) →
    (∀ r ∈ p, (σ r : Int) = n → ∃ x, headsP r fs = some x ∧ ∀ f ∈ x, f ∈ S) ∧ (∀ f ∈ acc, f ∈ S) ∧ (∀ f ∈ S, f ∈ acc ∨ ∃ r ∈ p, (σ r : Int) = n ∧ ∃ x, headsP r fs = some x ∧ f ∈ x) ∧ Up S ∧ ((setF acc).length ≤ 200 → S.length ≤ 200)
  | [], acc, S, h => by
    simp only [onceGo, Prod.mk.injEq, true_and] at h
    subst h
    exact ⟨fun _ h => (by cases h), fun f hf => mem_setF.2 hf, fun f hf => Or.inl (mem_setF.1 hf), setF_up _, id⟩
  | r :: p, acc, S, h => by
    simp only [onceGo, List.map_cons] at h
    split at h
    · rename_i hs
      split at h
      · simp at h
      · rename_i x hx
        split at h
        · simp at h
        · rename_i hlen
          obtain ⟨h1, h2, h3, h4, h5⟩ := onceGo_ok σ h
          refine ⟨fun q hq hqn => ?_, fun f hf => h2 f (by simp [hf]), fun f hf => ?_, h4, fun _ => h5 (by omega)⟩
          · rcases List.mem_cons.1 hq with rfl | hq
            · exact ⟨x, hx, fun f hf => h2 f (by simp [hf])⟩
            · exact h1 q hq hqn
          · rcases h3 f hf with hf | ⟨q, hq, hqn, y, hy, hf⟩
            · rcases List.mem_append.1 hf with hf | hf
              · exact Or.inl hf
              · exact Or.inr ⟨r, by simp, hs, x, hx, hf⟩
            · exact Or.inr ⟨q, by simp [hq], hqn, y, hy, hf⟩
    · rename_i hs
      obtain ⟨h1, h2, h3, h4, h5⟩ := onceGo_ok σ h
      refine ⟨fun q hq hqn => ?_, h2, fun f hf => ?_, h4, h5⟩
      · rcases List.mem_cons.1 hq with rfl | hq
        · exact absurd hqn hs
        · exact h1 q hq hqn
      · rcases h3 f hf with hf | ⟨q, hq, hqn, y, hy, hf⟩
        · exact Or.inl hf
        · exact Or.inr ⟨q, by simp [hq], hqn, y, hy, hf⟩

theorem onceGo_of {n : Int} {fs : List FactB} (σ : RuleD → Nat) {T : List FactB} (hT : T.length ≤ 200) : ∀ {p : List RuleD} {acc : List FactB}, (∀ r ∈ p, (σ r : Int) = n → ∃ x, headsP r fs = some x ∧ ∀ f ∈ x, f ∈ T) → (∀ f ∈ acc, f ∈ T) →
    (onceGo n fs p (p.map σ) acc).1 = 0
  | [], acc, _, _ => rfl
  | r :: p, acc, h, ha => by
    simp only [onceGo, List.map_cons]
    split
    · rename_i hs
      obtain ⟨x, hx, hxT⟩ := h r (by simp) hs
      rw [hx]
      have hsub : ∀ f ∈ acc ++ x, f ∈ T := fun f hf => (List.mem_append.1 hf).elim (ha f) (hxT f)
      have hlen := up_le (setF_up (acc ++ x)) fun f hf => hsub f (mem_setF.1 hf)
      dsimp only
      rw [if_neg (by omega)]
      exact onceGo_of σ hT (fun q hq => h q (by simp [hq])) hsub
    · exact onceGo_of σ hT (fun q hq => h q (by simp [hq])) ha

theorem onceGo_err {n : Int} {fs : List FactB} : ∀ {p : List RuleD} {ss : List Nat} {acc : List FactB}, (onceGo n fs p ss acc).1 = 0 ∨ onceGo n fs p ss acc = (4, []) ∨ onceGo n fs p ss acc = (5, [])
  | [], _, _ => Or.inl rfl
  | _ :: _, [], _ => Or.inl rfl
  | r :: p, s :: ss, acc => by
    simp only [onceGo]
    split
    · split
      · exact Or.inr (Or.inl rfl)
      · split
        · exact Or.inr (Or.inr rfl)
        · exact onceGo_err
    · exact onceGo_err

theorem once_good {p : List RuleD} (hp : RightP p) (σ : RuleD → Nat) {n : Int} {L S : List FactB} (hL : GoodS p L) (h : onceP p (p.map σ) n L = (0, S)) : GoodS p S ∧ ∀ f ∈ L, f ∈ S := by
  obtain ⟨h1, h2, h3, h4, h5⟩ := onceGo_ok σ h
  have key : ∀ f ∈ S, f ∈ L ∨ (RightF f ∧ fitF p f = true) := fun f hf => by
    rcases h3 f hf with hf | ⟨r, hr, _, x, hx, hf⟩
    · exact Or.inl hf
    · obtain ⟨env, he, hfill⟩ := (heads_mem (covers_right (hp.rules r hr)) hx f).1 hf
      obtain ⟨a, b, c⟩ := head_right (hp.rules r hr) hL.right he hfill
      exact Or.inr ⟨a, head_fit hp hr b c⟩
  refine ⟨⟨h4, fun f hf => (key f hf).elim (hL.right f) (·.1), h5 (by rw [setF_up_self hL.up]; exact hL.few), fun f hf => (key f hf).elim (hL.fit f) (·.2)⟩, h2⟩

/-! ### a stratum -/

inductive Walks (p : List RuleD) (ss : List Nat) (n : Int) : List FactB → List FactB → Prop
  | stop {L : List FactB} : onceP p ss n L = (0, L) → Walks p ss n L L
  | go {L L' M : List FactB} : onceP p ss n L = (0, L') → Walks p ss n L' M → Walks p ss n L M

theorem over_walks {p : List RuleD} (hp : RightP p) (σ : RuleD → Nat) {n : Int} : ∀ (k : Nat) {L M : List FactB}, GoodS p L → overGo p (p.map σ) n k L = (0, M) → 200 < L.length + k → Walks p (p.map σ) n L M
  | 0, L, M, hL, _, hk => by have := hL.few; omega
  | k + 1, L, M, hL, h, hk => by
    unfold overGo at h
    obtain ⟨e, x, hx⟩ : ∃ e x, onceP p (p.map σ) n L = (e, x) := ⟨_, _, rfl⟩
    rw [hx] at h
    dsimp only at h
    split at h
    · rename_i he
      simp at h
      exact absurd h.1 he
    · rename_i he
      have he : e = 0 := by simpa using he
      subst he
      obtain ⟨g1, g2⟩ := once_good hp σ hL hx
      split at h
      · rename_i hlen
        have e : L = x := up_same hL.up g1.up g2 (by omega)
        simp at h
        subst h
        subst e
        exact .stop hx
      · rename_i hlen
        have := up_le hL.up g2
        exact .go hx (over_walks hp σ k g1 h (by omega))

theorem walks_inv {p : List RuleD} (hp : RightP p) (σ : RuleD → Nat) {n : Int} {P : List FactB → Prop} (hP : ∀ L L', GoodS p L → P L → onceP p (p.map σ) n L = (0, L') → P L') {L M : List FactB} (h : Walks p (p.map σ) n L M) :
    GoodS p L → P L → GoodS p M ∧ P M ∧ onceP p (p.map σ) n M = (0, M) ∧ ∀ f ∈ L, f ∈ M := by
  induction h with
  | stop h => exact fun hL hPL => ⟨hL, hPL, h, fun _ h => h⟩
  | go h _ ih =>
    intro hL hPL
    obtain ⟨g1, g2⟩ := once_good hp σ hL h
    obtain ⟨a, b, c, d⟩ := ih g1 (hP _ _ hL hPL h)
    exact ⟨a, b, c, fun f hf => d f (g2 f hf)⟩

/-! ### all strata -/

theorem run_inv {p : List RuleD} (hp : RightP p) (σ : RuleD → Nat) {P : Nat → List FactB → Prop} (hP : ∀ (n : Nat) L M, GoodS p L → P n L → Walks p (p.map σ) n L M → P (n + 1) M) :
    ∀ (c n : Nat) {L M : List FactB}, GoodS p L → P n L → runGo p (p.map σ) c n L = (0, M) → GoodS p M ∧ P (n + c) M ∧ ∀ f ∈ L, f ∈ M
  | 0, n, L, M, hL, hPL, h => by
    simp [runGo] at h
    subst h
    exact ⟨hL, hPL, fun _ h => h⟩
  | c + 1, n, L, M, hL, hPL, h => by
    unfold runGo at h
    obtain ⟨e, x, hx⟩ : ∃ e x, overGo p (p.map σ) n 201 L = (e, x) := ⟨_, _, rfl⟩
    rw [hx] at h
    dsimp only at h
    split at h
    · rename_i he
      simp at h
      exact absurd h.1 he
    · rename_i he
      have he : e = 0 := by simpa using he
      subst he
      have hw := over_walks hp σ 201 hL hx (by omega)
      obtain ⟨g1, _, _, g2⟩ := walks_inv hp σ (P := fun _ => True) (fun _ _ _ _ _ => trivial) hw hL trivial
      obtain ⟨a, b, d⟩ := run_inv hp σ hP c (n + 1) g1 (hP n L x hL hPL hw) h
      exact ⟨a, by rw [show n + (c + 1) = n + 1 + c by omega]; exact b, fun f hf => d f (g2 f hf)⟩

/-- What holds on the way: n: the strata that are closed; m: those of which there may be something. -/
structure Way (p : List RuleD) (τ : Bs → Nat) (l : List FactB) (n m : Nat) (L : List FactB) : Prop where
  told : ∀ f ∈ l, f ∈ L
  of : ∀ f ∈ L, f ∉ l → ∃ r ∈ p, τ r.head.name < m ∧ f.1 = bs r.head.name
  closed : ∀ r ∈ p, τ r.head.name < n → ∀ env f, FitsB (fun _ => L) r.body env → fillB r.head env = some f → f ∈ L
  made : ∀ f ∈ L, f ∉ l → ∃ r ∈ p, τ r.head.name < m ∧ ∃ env, FitsB (fun _ => L) r.body env ∧ fillB r.head env = some f

theorem way_once {p : List RuleD} (hp : RightP p) {τ : Bs → Nat} (hτ : Sol p τ) {l : List FactB} {n : Nat} {L L' : List FactB} (hw : Way p τ l n (n + 1) L) (h : onceP p (p.map fun r => τ r.head.name) n L = (0, L')) : Way p τ l n (n + 1) L' := by
  obtain ⟨h1, h2, h3, h4, h5⟩ := onceGo_ok (fun r => τ r.head.name) h
  have hnew : ∀ f ∈ L', f ∈ L ∨ ∃ r ∈ p, τ r.head.name = n ∧ ∃ env, FitsB (fun _ => L) r.body env ∧ fillB r.head env = some f ∧ f.1 = bs r.head.name := fun f hf => by
    rcases h3 f hf with hf | ⟨r, hr, hn, x, hx, hf⟩
    · exact Or.inl hf
    · obtain ⟨env, he, hfill⟩ := (heads_mem (covers_right (hp.rules r hr)) hx f).1 hf
      exact Or.inr ⟨r, hr, Int.ofNat.inj hn, env, he, hfill, (fill_name hfill).1⟩
  have hold : ∀ r ∈ p, ∀ a ∈ r.body, τ r.head.name < n + step a → ∀ f : FactB, f.1 = bs a.name → f ∈ L' → f ∈ L := fun r hr a ha hlt f hfn hf => by
    rcases hnew f hf with hf | ⟨q, hq, hqn, _, _, _, hqf⟩
    · exact hf
    · exfalso
      have e : a.name = q.head.name := bs_inj (hfn.symm.trans hqf)
      have := hτ r hr a ha ⟨q, hq, e.symm⟩
      rw [e] at this
      omega
  have hfits : ∀ r ∈ p, τ r.head.name < n + 1 → ∀ env, FitsB (fun _ => L) r.body env → FitsB (fun _ => L') r.body env := fun r hr hrn env he =>
    fits_sub (fun a _ _ f _ hf => h2 f hf) (fun a ha hno f hfn hf => hold r hr a ha (by simp only [step, hno, if_true]; omega) f hfn hf) he
  refine ⟨fun f hf => h2 f (hw.told f hf), fun f hf hfl => ?_, fun r hr hrn env f he hfill => ?_, fun f hf hfl => ?_⟩
  · rcases hnew f hf with hf | ⟨q, hq, hqn, _, _, _, hqf⟩
    · exact hw.of f hf hfl
    · exact ⟨q, hq, by omega, hqf⟩
  · refine h2 f (hw.closed r hr hrn env f (fits_sub (fun a ha hno f hfn hf => hold r hr a ha (by omega) f hfn hf) (fun a _ _ f _ hf => h2 f hf) he) hfill)
  · rcases hnew f hf with hf | ⟨q, hq, hqn, env, he, hfill, _⟩
    · obtain ⟨r, hr, hrn, env, he, hfill⟩ := hw.made f hf hfl
      exact ⟨r, hr, hrn, env, hfits r hr hrn env he, hfill⟩
    · exact ⟨q, hq, by omega, env, hfits q hq (by omega) env he, hfill⟩

theorem way_walks {p : List RuleD} (hp : RightP p) {τ : Bs → Nat} (hτ : Sol p τ) {l : List FactB} {n : Nat} {L M : List FactB} (hL : GoodS p L) (hw : Way p τ l n n L) (h : Walks p (p.map fun r => τ r.head.name) n L M) : Way p τ l (n + 1) (n + 1) M := by
  have h0 : Way p τ l n (n + 1) L := ⟨hw.told, fun f hf hn => by obtain ⟨r, hr, h1, h2⟩ := hw.of f hf hn; exact ⟨r, hr, by omega, h2⟩, hw.closed, fun f hf hn => by obtain ⟨r, hr, h1, h2⟩ := hw.made f hf hn; exact ⟨r, hr, by omega, h2⟩⟩
  obtain ⟨g, hm, hfix, _⟩ := walks_inv hp (fun r => τ r.head.name) (P := Way p τ l n (n + 1)) (fun L L' _ hw ho => way_once hp hτ hw ho) h hL h0
  obtain ⟨h1, _⟩ := onceGo_ok (fun r => τ r.head.name) hfix
  refine ⟨hm.told, hm.of, fun r hr hrn env f he hfill => ?_, hm.made⟩
  by_cases e : τ r.head.name < n
  · exact hm.closed r hr e env f he hfill
  · have e2 : τ r.head.name = n := by omega
    obtain ⟨x, hx, hxm⟩ := h1 r hr (by rw [e2])
    exact hxm f ((heads_mem (covers_right (hp.rules r hr)) hx f).2 ⟨env, he, hfill⟩)

/-- ALL THAT FOLLOWS. -/
theorem run_way {p : List RuleD} (hp : RightP p) {τ : Bs → Nat} (hτ : Sol p τ) {l m : List FactB} (hl : GoodS p l) (h : runGo p (p.map fun r => τ r.head.name) (countP (p.map fun r => τ r.head.name)) 0 l = (0, m)) :
    GoodS p m ∧ Way p τ l (countP (p.map fun r => τ r.head.name)) (countP (p.map fun r => τ r.head.name)) m := by
  have h0 : Way p τ l 0 0 l := ⟨fun _ h => h, fun f hf hn => absurd hf hn, fun r _ h => by omega, fun f hf hn => absurd hf hn⟩
  obtain ⟨a, b, _⟩ := run_inv hp (fun r => τ r.head.name) (P := fun n => Way p τ l n n) (fun n L M hL hw hW => way_walks hp hτ hL hw hW) _ 0 hl h0 h
  exact ⟨a, by rw [Nat.zero_add] at b; exact b⟩

theorem run_model {p : List RuleD} (hp : RightP p) {τ : Bs → Nat} (hτ : Sol p τ) {l m : List FactB} (hl : GoodS p l) (h : runGo p (p.map fun r => τ r.head.name) (countP (p.map fun r => τ r.head.name)) 0 l = (0, m)) :
    (∀ f ∈ l, f ∈ m) ∧ ∀ r ∈ p, ∀ x, headsP r m = some x → ∀ f ∈ x, f ∈ m := by
  obtain ⟨_, hw⟩ := run_way hp hτ hl h
  refine ⟨hw.told, fun r hr x hx f hf => ?_⟩
  obtain ⟨env, he, hfill⟩ := (heads_mem (covers_right (hp.rules r hr)) hx f).1 hf
  exact hw.closed r hr (lt_countP (List.mem_map.2 ⟨r, hr, rfl⟩)) env f he hfill

theorem run_needed {p : List RuleD} (hp : RightP p) {τ : Bs → Nat} (hτ : Sol p τ) {l m : List FactB} (hl : GoodS p l) (h : runGo p (p.map fun r => τ r.head.name) (countP (p.map fun r => τ r.head.name)) 0 l = (0, m)) (hs : ∀ r ∈ p, ∃ x, headsP r m = some x) :
    ∀ f, f ∈ m ↔ f ∈ l ∨ ∃ r ∈ p, ∃ x, headsP r m = some x ∧ f ∈ x := by
  obtain ⟨_, hw⟩ := run_way hp hτ hl h
  obtain ⟨m1, m2⟩ := run_model hp hτ hl h
  intro f
  constructor
  · intro hf
    by_cases hfl : f ∈ l
    · exact Or.inl hfl
    · obtain ⟨r, hr, _, env, he, hfill⟩ := hw.made f hf hfl
      obtain ⟨x, hx⟩ := hs r hr
      exact Or.inr ⟨r, hr, x, hx, (heads_mem (covers_right (hp.rules r hr)) hx f).2 ⟨env, he, hfill⟩⟩
  · rintro (hf | ⟨r, hr, x, hx, hf⟩)
    · exact m1 f hf
    · exact m2 r hr x hx f hf

/-! ### told more -/

theorem run_least {p : List RuleD} (hp : RightP p) (hno : ∀ r ∈ p, ∀ a ∈ r.body, a.no = false) {l l' m m' : List FactB} (hl : GoodS p l) (hl' : GoodS p l') (hs : ∀ f ∈ l, f ∈ l')
    (h : runGo p (p.map fun _ => 0) (countP (p.map fun _ => 0)) 0 l = (0, m)) (h' : runGo p (p.map fun _ => 0) (countP (p.map fun _ => 0)) 0 l' = (0, m')) : ∀ f ∈ m, f ∈ m' := by
  have hτ : Sol p (fun _ => 0) := fun r hr a ha _ => by simp [step, hno r hr a ha]
  obtain ⟨_, hw⟩ := run_way (τ := fun _ => 0) hp hτ hl' h'
  have hP : ∀ L L', GoodS p L → (∀ f ∈ L, f ∈ m') → onceP p (p.map fun _ => 0) (0 : Nat) L = (0, L') → ∀ f ∈ L', f ∈ m' := fun L L' hL hsub ho f hf => by
    obtain ⟨_, _, h3, _⟩ := onceGo_ok (fun _ => 0) ho
    rcases h3 f hf with hf | ⟨r, hr, _, x, hx, hf⟩
    · exact hsub f hf
    · obtain ⟨env, he, hfill⟩ := (heads_mem (covers_right (hp.rules r hr)) hx f).1 hf
      exact hw.closed r hr (lt_countP (List.mem_map.2 ⟨r, hr, rfl⟩)) env f (fits_sub (fun a _ _ f _ hf => hsub f hf) (fun a ha hn => by rw [hno r hr a ha] at hn; cases hn) he) hfill
  cases p with
  | nil =>
    simp [runGo, countP] at h h'
    subst h; subst h'
    exact hs
  | cons r p =>
    have hc : countP ((r :: p).map fun _ => 0) = 1 := by
      have : ∀ q : List RuleD, countP (q.map fun _ => 0) ≤ 1 := fun q => by
        induction q with
        | nil => simp [countP]
        | cons a q ih => simp only [List.map_cons, countP]; omega
      have h1 := this (r :: p)
      have h2 := lt_countP (ss := (r :: p).map fun _ => 0) (s := 0) (by simp)
      omega
    rw [hc] at h
    unfold runGo at h
    obtain ⟨e, x, hx⟩ : ∃ e x, overGo (r :: p) ((r :: p).map fun _ => 0) (0 : Nat) 201 l = (e, x) := ⟨_, _, rfl⟩
    rw [hx] at h
    dsimp only at h
    split at h
    · rename_i he
      simp at h
      exact absurd h.1 he
    · rename_i he
      have he : e = 0 := by simpa using he
      subst he
      simp [runGo] at h
      subst h
      obtain ⟨_, b, _⟩ := walks_inv hp (fun _ => 0) hP (over_walks hp (fun _ => 0) 201 hl hx (by omega)) hl (fun f hf => hw.told f (hs f hf))
      exact b

/-- Told what follows, nothing more follows. -/
theorem run_again {p : List RuleD} (hp : RightP p) (hno : ∀ r ∈ p, ∀ a ∈ r.body, a.no = false) {l m : List FactB} (hl : GoodS p l)
    (h : runGo p (p.map fun _ => 0) (countP (p.map fun _ => 0)) 0 l = (0, m)) : ∃ e x, runGo p (p.map fun _ => 0) (countP (p.map fun _ => 0)) 0 m = (e, x) ∧ (e = 0 → x = m) ∧ (e = 0 ∨ e = 4) := by
  have hτ : Sol p (fun _ => 0) := fun r hr a ha _ => by simp [step, hno r hr a ha]
  cases p with
  | nil => exact ⟨0, m, rfl, fun _ => rfl, Or.inl rfl⟩
  | cons r p =>
    have hc : countP ((r :: p).map fun _ => 0) = 1 := by
      have : ∀ q : List RuleD, countP (q.map fun _ => 0) ≤ 1 := fun q => by
        induction q with
        | nil => simp [countP]
        | cons a q ih => simp only [List.map_cons, countP]; omega
      have h1 := this (r :: p)
      have h2 := lt_countP (ss := (r :: p).map fun _ => 0) (s := 0) (by simp)
      omega
    rw [hc] at h ⊢
    unfold runGo at h ⊢
    obtain ⟨e, x, hx⟩ : ∃ e x, overGo (r :: p) ((r :: p).map fun _ => 0) (0 : Nat) 201 l = (e, x) := ⟨_, _, rfl⟩
    rw [hx] at h
    dsimp only at h
    split at h
    · rename_i he
      simp at h
      exact absurd h.1 he
    · rename_i he
      have he : e = 0 := by simpa using he
      subst he
      simp [runGo] at h
      subst h
      obtain ⟨_, _, hfix, _⟩ := walks_inv hp (fun _ => 0) (P := fun _ => True) (fun _ _ _ _ _ => trivial) (over_walks hp (fun _ => 0) 201 hl hx (by omega)) hl trivial
      have ho : overGo (r :: p) ((r :: p).map fun _ => 0) (0 : Nat) 201 x = (0, x) := by
        unfold overGo
        rw [hfix]
        simp
      rw [ho]
      exact ⟨0, x, by simp [runGo], fun _ => rfl, Or.inl rfl⟩

/-! ### rules in whatever order -/

theorem once_same {p q : List RuleD} (hpq : ∀ r, r ∈ p ↔ r ∈ q) (σ : RuleD → Nat) {n : Int} {L : List FactB} (hL : L.length ≤ 200) (hu : Up L) (h4 : (onceP p (p.map σ) n L).1 ≠ 4) (h4' : (onceP q (q.map σ) n L).1 ≠ 4) :
    onceP p (p.map σ) n L = onceP q (q.map σ) n L := by
  have one : ∀ {p q : List RuleD}, (∀ r, r ∈ p ↔ r ∈ q) → (onceP p (p.map σ) n L).1 = 0 → (onceP q (q.map σ) n L).1 = 0 := fun {p q} hpq h => by
    obtain ⟨S, hS⟩ : ∃ S, onceP p (p.map σ) n L = (0, S) := ⟨_, Prod.ext h rfl⟩
    obtain ⟨h1, h2, _, _, h5⟩ := onceGo_ok σ hS
    exact onceGo_of σ (h5 (by rw [setF_up_self hu]; exact hL)) (fun r hr => h1 r ((hpq r).2 hr)) h2
  rcases onceGo_err (n := n) (fs := L) (p := p) (ss := p.map σ) (acc := L) with h | h | h
  · have h' := one hpq h
    obtain ⟨S, hS⟩ : ∃ S, onceP p (p.map σ) n L = (0, S) := ⟨_, Prod.ext h rfl⟩
    obtain ⟨T, hT⟩ : ∃ T, onceP q (q.map σ) n L = (0, T) := ⟨_, Prod.ext h' rfl⟩
    obtain ⟨s1, s2, s3, s4, _⟩ := onceGo_ok σ hS
    obtain ⟨t1, t2, t3, t4, _⟩ := onceGo_ok σ hT
    rw [hS, hT]
    refine Prod.ext rfl (up_ext s4 t4 fun f => ⟨fun hf => ?_, fun hf => ?_⟩)
    · rcases s3 f hf with hf | ⟨r, hr, hn, x, hx, hf⟩
      · exact t2 f hf
      · obtain ⟨y, hy, hyT⟩ := t1 r ((hpq r).1 hr) hn
        rw [hx] at hy; cases hy
        exact hyT f hf
    · rcases t3 f hf with hf | ⟨r, hr, hn, x, hx, hf⟩
      · exact s2 f hf
      · obtain ⟨y, hy, hyS⟩ := s1 r ((hpq r).2 hr) hn
        rw [hx] at hy; cases hy
        exact hyS f hf
  · exact absurd (by unfold onceP; rw [h]) h4
  · rcases onceGo_err (n := n) (fs := L) (p := q) (ss := q.map σ) (acc := L) with h' | h' | h'
    · have := one (fun r => (hpq r).symm) h'
      unfold onceP at this
      rw [h] at this
      simp at this
    · exact absurd (by unfold onceP; rw [h']) h4'
    · unfold onceP; rw [h, h']

theorem over_same {p q : List RuleD} (hp : RightP p) (hpq : ∀ r, r ∈ p ↔ r ∈ q) (σ : RuleD → Nat) {n : Int} : ∀ (k : Nat) {L : List FactB}, GoodS p L → (overGo p (p.map σ) n k L).1 ≠ 4 → (overGo q (q.map σ) n k L).1 ≠ 4 →
    overGo p (p.map σ) n k L = overGo q (q.map σ) n k L
  | 0, _, _, _, _ => rfl
  | k + 1, L, hL, h4, h4' => by
    have e : onceP p (p.map σ) n L = onceP q (q.map σ) n L := by
      refine once_same hpq σ hL.few hL.up (fun h => h4 ?_) (fun h => h4' ?_)
      · unfold overGo; rw [if_pos (by rw [h]; decide)]; exact h
      · unfold overGo; rw [if_pos (by rw [h]; decide)]; exact h
    unfold overGo at h4 h4' ⊢
    rw [← e] at h4' ⊢
    obtain ⟨er, x, hx⟩ : ∃ e x, onceP p (p.map σ) n L = (e, x) := ⟨_, _, rfl⟩
    rw [hx] at h4 h4' ⊢
    dsimp only at h4 h4' ⊢
    split
    · rfl
    · rename_i he
      have he' : er = 0 := by simpa using he
      subst he'
      rw [if_neg he] at h4 h4'
      split
      · rfl
      · rename_i hl
        rw [if_neg hl] at h4 h4'
        exact over_same hp hpq σ k (once_good hp σ hL hx).1 h4 h4'

theorem run_same {p q : List RuleD} (hp : RightP p) (hpq : ∀ r, r ∈ p ↔ r ∈ q) (σ : RuleD → Nat) : ∀ (c n : Nat) {L : List FactB}, GoodS p L → (runGo p (p.map σ) c n L).1 ≠ 4 → (runGo q (q.map σ) c n L).1 ≠ 4 →
    runGo p (p.map σ) c n L = runGo q (q.map σ) c n L
  | 0, _, _, _, _, _ => rfl
  | c + 1, n, L, hL, h4, h4' => by
    have e : overGo p (p.map σ) n 201 L = overGo q (q.map σ) n 201 L := by
      refine over_same hp hpq σ 201 hL (fun h => h4 ?_) (fun h => h4' ?_)
      · unfold runGo; rw [if_pos (by rw [h]; decide)]; exact h
      · unfold runGo; rw [if_pos (by rw [h]; decide)]; exact h
    unfold runGo at h4 h4' ⊢
    rw [← e] at h4' ⊢
    obtain ⟨er, x, hx⟩ : ∃ e x, overGo p (p.map σ) n 201 L = (e, x) := ⟨_, _, rfl⟩
    rw [hx] at h4 h4' ⊢
    dsimp only at h4 h4' ⊢
    split
    · rfl
    · rename_i he
      have he' : er = 0 := by simpa using he
      subst he'
      rw [if_neg he] at h4 h4'
      obtain ⟨g, _⟩ := walks_inv hp σ (P := fun _ => True) (fun _ _ _ _ _ => trivial) (over_walks hp σ 201 hL hx (by omega)) hL trivial
      exact run_same hp hpq σ c (n + 1) g h4 h4'

theorem sol_turned {p : List RuleD} {τ : Bs → Nat} (h : Sol p τ) : Sol p.reverse τ := fun r hr a ha ⟨q, hq, e⟩ => h r (List.mem_reverse.1 hr) a ha ⟨q, List.mem_reverse.1 hq, e⟩

/-- The strata of a program turned around are those of the program, turned around. -/
theorem strata_turned {p : List RuleD} (hp : RightP p) : (strataP p.reverse).2.1 = (strataP p).2.1 ∧ ((strataP p).2.1 = 0 → ∃ τ, Sol p τ ∧ (strataP p).1 = p.map (fun r => τ r.head.name) ∧ (strataP p.reverse).1 = p.reverse.map fun r => τ r.head.name) := by
  have hp' := hp.turned
  have w1 := rightP_iff.2 hp
  have w2 := rightP_iff.2 hp'
  have errs : ∀ {q : List RuleD}, (wrongP q).1 = 0 → (strataP q).2.1 = 0 ∨ (strataP q).2.1 = 10 := fun {q} h => by
    unfold strataP; rw [if_pos h]; split <;> simp
  have ok : ∀ {q : List RuleD}, (strataP q).2.1 = 0 → ∃ m, (strataP q).1 = each m q ∧ Least q m ∧ Sol q (numOf m) := fun {q} h => by
    obtain ⟨_, m, h1, _, h3, h4⟩ := strataP_ok (p := q) (l := (strataP q).1) (k := (strataP q).2.2) (by rw [← h])
    exact ⟨m, h1, h3, h4⟩
  have back : ∀ τ, Sol p.reverse τ → Sol p τ := fun τ h => by have := sol_turned h; rwa [List.reverse_reverse] at this
  by_cases h : (strataP p).2.1 = 0
  · obtain ⟨m, e1, l1, s1⟩ := ok h
    obtain ⟨l, hl⟩ := strataP_of w2 (sol_turned s1)
    have h' : (strataP p.reverse).2.1 = 0 := by rw [hl]
    obtain ⟨m', e2, l2, s2⟩ := ok h'
    refine ⟨by rw [h, h'], fun _ => ⟨numOf m, s1, e1, ?_⟩⟩
    rw [e2]
    unfold each
    refine List.map_congr_left fun r _ => Nat.le_antisymm (l2 _ (sol_turned s1) _) (l1 _ (back _ s2) _)
  · refine ⟨?_, fun h' => absurd h' h⟩
    rcases errs w1 with h1 | h1
    · exact absurd h1 h
    · rcases errs w2 with h2 | h2
      · obtain ⟨m', _, _, s2⟩ := ok h2
        obtain ⟨l, hl⟩ := strataP_of w1 (back _ s2)
        rw [hl] at h; exact absurd rfl h
      · rw [h1, h2]

end Go.Proofs.YtbohggoeebhdmaaGreatDoor
