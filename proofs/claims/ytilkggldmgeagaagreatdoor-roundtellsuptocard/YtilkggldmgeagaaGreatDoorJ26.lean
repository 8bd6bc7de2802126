/- Texts of this claim, one behind the other. -/
import Derived.Test.YtilkggldmgeagaaGreatDoorJ25
import Derived.Test.YtilkggldmgeagaaGreatDoorJ16
import Derived.Test.YtilkggldmgeagaaGreatDoorJ23
/- The walk of the reference's WrongProgram. -/
namespace Go.Proofs.YtilkggldmgeagaaGreatDoor
open Go.RowKit Go.Sort Go.Maps

theorem RowA.many {w0 w : World} {lo : Nat} {v : Value} {l m : List AtomD} {a : Option Addr} {cap : Nat} (h : RowA w0 lo w v l) (hlo : lo ≤ w.heap.size) (hb : Below w0.heap.size w0 w) (hm : atomK.sl Anyw w0 (.slice a m.length cap) m) (hl : (l.length + m.length) * 48 ≤ 140737488355328) :
    ∃ v' w', (Builtin.append_ #[55, 55] 55 #[v, .slice a m.length cap]).run Tryz.prog w = .ok v' w' ∧ RowA w0 lo w' v' (l ++ m) ∧ w.grownBy w' v.ownBlock := by
  obtain ⟨i, i1, i2, i3, i4⟩ := infoAtom4
  obtain ⟨xs, ho, hx⟩ := h
  cases a with
  | none =>
    have hm0 : m = [] := by
      refine Classical.byContradiction fun hne => ?_
      obtain ⟨_, a', _, e, h1⟩ := hm
      simp only [Value.slice.injEq] at e
      obtain ⟨b, off, e', _⟩ := h1 hne
      rw [e'] at e; cases e.1
    subst hm0
    refine ⟨v, w, ?_, by rw [List.append_nil]; exact ⟨xs, ho, hx⟩, ⟨rfl, rfl, rfl, Nat.le_refl _, fun _ _ _ => rfl⟩⟩
    rcases ho.2 with ⟨rfl, e0⟩ | ⟨g, c, cur, rfl, _, _, hnc, _⟩
    · simp [Builtin.append_, run_underlying Tryz.underlying55, sizeOf, typeInfo, i1, Builtin.lenOf, Builtin.firstCells]
    · simp [Builtin.append_, run_underlying Tryz.underlying55, sizeOf, typeInfo, i1, Builtin.lenOf, Builtin.firstCells, hnc, storeCells]
  | some a =>
    obtain ⟨cs, cl, clen, cone, ccell, cis⟩ := Kind.sl_cells hm (by decide)
    have hxl : xs.length = l.length * 3 := ho.1
    obtain ⟨v', w', hrun, r1, r2, _, _⟩ := append_own (P := Tryz.prog) w lo 55 55 54 i _ 3 48 Tryz.underlying55 i1 i2 i3 i4 rfl (by omega) v l.length xs ho a m.length cap cs.flatten (by rw [flat_len _ clen, cl]; rfl)
      (fun j u hu => by
        have hc := ccell j u hu
        rw [hb.cell (World.block_lt_of_cell? w0 _ hc)]; exact hc)
      (fun u hu => by rw [List.mem_flatten] at hu; obtain ⟨c, hc, hu⟩ := hu; exact cone c hc u hu) (by simp only [maxLen]; omega) hl hlo
    refine ⟨v', w', hrun, ⟨xs ++ cs.flatten, by rw [List.length_append]; exact r1, fun j y hj => ?_⟩, r2⟩
    by_cases hjl : j < l.length
    · rw [List.getElem?_append_left hjl] at hj
      obtain ⟨d, d1, d2⟩ := hx j y hj
      refine ⟨d, d1, fun q u hu => ?_⟩
      have := d2 q u hu
      rw [List.getElem?_append_left (List.getElem?_eq_some_iff.1 this).1]; exact this
    · rw [List.getElem?_append_right (by omega)] at hj
      have hjm := (List.getElem?_eq_some_iff.1 hj).1
      have hc : cs[j - l.length]? = some (cs[j - l.length]'(by omega)) := List.getElem?_eq_getElem (by omega)
      refine ⟨_, cis _ _ y hc hj, fun q u hu => ?_⟩
      have hq : q < 3 := by
        have := clen _ (List.getElem_mem (by omega : j - l.length < cs.length))
        have h2 := (List.getElem?_eq_some_iff.1 hu).1
        rw [this] at h2; exact h2
      have := flat_get cs clen _ _ q hc hq
      rw [List.getElem?_append_right (by omega), hxl, show j * 3 + q - l.length * 3 = (j - l.length) * 3 + q by omega]
      exact this.trans hu

def more (m : Nums) : Nums := fun s => (m s).map (· + 1)

theorem more_put (m : Nums) (s : Bs) (n : Nat) : (more m).put s (n + 1) = more (m.put s n) := by
  funext t
  unfold more Nums.put
  by_cases h : t = s
  · simp [h]
  · simp [h]

theorem put_self {m : Nums} {s : Bs} {n : Nat} (h : m s = some n) : m.put s n = m := by
  funext t
  unfold Nums.put
  by_cases e : t = s
  · rw [if_pos e, e, h]
  · rw [if_neg e]

theorem fitOne_none {m : Nums} {a : AtomD} (h : m a.name = none) : fitOne m a = (true, m.put a.name a.terms.length) := by unfold fitOne; rw [h]
theorem fitOne_some {m : Nums} {a : AtomD} {n : Nat} (h : m a.name = some n) : fitOne m a = (decide (n = a.terms.length), m) := by unfold fitOne; rw [h]

theorem wrongRule_fit {m : Nums} {r : RuleD} (h0 : wrongAtom r.head = 0) (hn : r.head.no = false) (hb : wrongBody r.body = 0) (hv : (vars r.head).all (givenBy r.body) = true) :
    wrongRule m r = (if (fitAll m (r.head :: r.body)).1 then 0 else 8, (fitAll m (r.head :: r.body)).2) := by
  have hfa : fitAll m (r.head :: r.body) = if (fitOne m r.head).1 then fitAll (fitOne m r.head).2 r.body else (false, (fitOne m r.head).2) := rfl
  generalize fitAll m (r.head :: r.body) = X at *
  unfold wrongRule
  rw [if_pos h0, hn, if_pos hb, hv]
  by_cases h1 : (fitOne m r.head).1 = true
  · rw [if_pos h1] at hfa
    subst hfa
    simp [h1]
  · rw [if_neg h1] at hfa
    subst hfa
    simp [h1]

end Go.Proofs.YtilkggldmgeagaaGreatDoor

/- The document's answer: the walk of ref.Set. -/
namespace Go.Proofs.YtilkggldmgeagaaGreatDoor
open Go.RowKit Go.Sort

set_option maxHeartbeats 2000000 in
theorem rSetC (v : Value) (l : List FactD) (w : World) (hf : Facts w v l) (hok : ∀ k, okF (l.getD k noFact)) :
    Calls Tryz.prog 21 #[v] w fun e w' => e = .returned (.agg #[.int .i64 (setFault l).1, .int .i64 (setFault l).2]) ∧ Later w w' := by
  have mx := mixed
  have HF := hide hf
  have HOK := hide hok
  obtain ⟨a, cap, rfl, hn, hz⟩ := hf.addr
  clear hf hok
  by_cases hbig : 200 < l.length
  · have e : setFault l = (5, 0) := by unfold setFault; rw [if_pos hbig]
    rw [e]
    go_enter Tryz.func21, Tryz.ntmps21
    go_wp2
    exact bodyPost_ret (v := .agg #[.int .i64 5, .int .i64 0]) (by simp [results, Tryz.results21, go_sem]) rfl ⟨rfl, (by repeat (first | exact Later.refl _ | assumption | refine Later.drewN ?_ _ | refine Later.drew ?_ | refine Later.alloc ?_ _ | refine Later.grow ?_ _))⟩
  · have e : setFault l = faultFrom l l.length 0 := by unfold setFault; rw [if_neg hbig]
    rw [e]
    clear e
    go_enter Tryz.func21, Tryz.ntmps21
    go_wp2
    go_loopw [12] (fun i wr => ∃ k : Nat, k ≤ l.length ∧ i = .int .i64 k ∧ Later (w.alloc (.cells #[.int .i64 0, .int .i64 0] 41)) wr ∧ Hid (faultFrom l l.length 0 = faultFrom l (l.length - k) k)) (fun i _ => l.length - (intOf i).toNat)
    case atStart => exact ⟨0, by omega, rfl, Later.refl _, (rfl : _ = _)⟩
    case round =>
      obtain ⟨k, hk, rfl, hL, HE⟩ := hrel
      have hL0 : Later w wr := ((Later.refl _).alloc _).trans hL
      have hsz : w.heap.size < wr.heap.size := by have := hL.size; simp at this; omega
      by_cases hlt : k < l.length
      · rcases hz with rfl | ⟨b, off, rfl⟩
        · simp at hlt
        have hltz : (k : Int) < (l.length : Int) := by omega
        obtain ⟨hb, ax, lx, cx, g1, g2, fx⟩ := (HF.out.later hL0).at hlt
        have hst := faultFrom_step l hlt
        have HWr : Hid (∀ w', Later wr w' → Calls Tryz.prog 40 #[.agg #[.string (l.getD k noFact).1, .slice ax lx cx]] w' fun e w'' => e = .returned (.int .i64 (wrongF (l.getD k noFact))) ∧ Later w' w'') :=
          fun w' hw => rWrong _ _ w' (fx.later hw) (HOK.out k)
        have FX := hide fx
        clear fx
        by_cases hwz : wrongF (l.getD k noFact) = 0
        · rw [if_neg (by omega)] at hst
          rw [hwz] at HWr
          by_cases hk0 : k = 0
          · have F : Hid (faultFrom l l.length 0 = faultFrom l (l.length - (k + 1)) (k + 1)) := by show _ = _; rw [HE.out, hst, if_neg (by omega)]
            have hd : decide (0 < k) = false := by rw [decide_eq_false_iff_not]; omega
            clear hk0
            generalize (l.getD k noFact).1 = nk at *
            clear hst
            go_wp2_with fail
            refine (HWr.out _ ((Later.refl _).alloc _)).mono ?_
            rintro e w1 ⟨rfl, hL1⟩
            go_wp2
            go_quiet (fail)
            go_wp2
            go_roundw
            case rel => exact ⟨k + 1, by omega, by go_num, (hL.trans (((Later.refl _).alloc _).trans hL1)).drewN _, F⟩
            case measure => simp [intOf]; omega
          · obtain ⟨j, rfl⟩ : ∃ j, k = j + 1 := ⟨k - 1, by omega⟩
            rw [Nat.add_sub_cancel] at hst
            have hjl : j < l.length := by omega
            have hjz : (j : Int) < (l.length : Int) := by omega
            have hd : (0 : Int) < (j : Int) + 1 := by omega
            have hwj : IntKind.i64.wrap (j : Int) = (j : Int) := wrap_nat j (by omega)
            generalize hfk : l.getD (j + 1) noFact = f at *
            have HFK := hide hfk
            clear hfk
            obtain ⟨nk, lk⟩ := f
            dsimp only at *
            go_wp2_with fail
            refine (HWr.out _ ((Later.refl _).alloc _)).mono ?_
            rintro e w1 ⟨rfl, hL1⟩
            have hLR : Later (w.alloc (.cells #[.int .i64 0, .int .i64 0] 41)) w1 := hL.trans (((Later.refl _).alloc _).trans hL1)
            have hL01 : Later w w1 := ((Later.refl _).alloc _).trans hLR
            have hR : w1.heap[w.heap.size]? = some (.cells #[.int .i64 0, .int .i64 0] 41 (0, 0)) := by rw [hLR.block (by simp), heap_alloc_new]
            have q0 : w1.cell? ⟨w.heap.size, 0, none⟩ = some (.int .i64 0) := by rw [cell_of_row _ _ _ _ _ _ hR]; rfl
            have q1 : w1.cell? ⟨w.heap.size, 1, none⟩ = some (.int .i64 0) := by rw [cell_of_row _ _ _ _ _ _ hR]; rfl
            have p0 : w1.frozen? ⟨w.heap.size, 0, none⟩ = false := frozen_of_row 0 hR
            have p1 : w1.frozen? ⟨w.heap.size, 1, none⟩ = false := frozen_of_row 1 hR
            have HRR := hide hR
            clear hR
            have hLw : Later wr w1 := ((Later.refl _).alloc _).trans hL1
            obtain ⟨ay, ly, cy, y1, y2, fy⟩ := (HF.out.later hL01).grown hjl
            have b0 := cell_later hL1 (p := ⟨wr.heap.size, 0, none⟩) (v := .string nk) (by simp) (by simp)
            have b1 := cell_later hL1 (p := ⟨wr.heap.size, 1, none⟩) (v := .slice ax lx cx) (by simp) (by simp)
            have hC : ∀ q os, Calls Tryz.prog 41 #[.agg #[.string (l.getD j noFact).1, .slice ay ly cy], .agg #[.string nk, .slice ax lx cx]] (grow (w1.drewN q) os) fun e w'' => e = .returned (.bool (lessF (l.getD j noFact) (nk, lk))) ∧ Later (grow (w1.drewN q) os) w'' :=
              fun q os => rLess _ _ _ _ _ (fy.later ⟨q, os, rfl⟩) ((FX.out.later hLw).later ⟨q, os, rfl⟩)
            unfold lessF at hC
            have HC := hide hC
            clear hC fy
            generalize cmpF (l.getD j noFact) (nk, lk) = cm at *
            generalize (l.getD j noFact).1 = nj at *
            by_cases hcm : 0 ≤ cm
            · rw [decide_eq_false (by omega)] at HC
              have F : Hid (faultFrom l l.length 0 = (2, ((j + 1 : Nat) : Int))) := by show _ = _; rw [HE.out, hst, if_pos ⟨by omega, hcm⟩]
              clear hst
              go_wp2
              go_quiet_grown ((go_at_call 41; exact Calls.grown_of (HC.out _ _)))
              dsimp only
              have hLW : Later w1 (grow (w1.drewN nq) osq) := ⟨_, _, rfl⟩
              generalize grow (w1.drewN nq) osq = w2 at hLW ⊢
              have hR : w2.heap[w.heap.size]? = some (.cells #[.int .i64 0, .int .i64 0] 41 (0, 0)) := by rw [hLW.block (by have := hLw.size; omega)]; exact HRR.out
              have q0 : w2.cell? ⟨w.heap.size, 0, none⟩ = some (.int .i64 0) := by rw [cell_of_row _ _ _ _ _ _ hR]; rfl
              have q1 : w2.cell? ⟨w.heap.size, 1, none⟩ = some (.int .i64 0) := by rw [cell_of_row _ _ _ _ _ _ hR]; rfl
              have p0 : w2.frozen? ⟨w.heap.size, 0, none⟩ = false := frozen_of_row 0 hR
              have p1 : w2.frozen? ⟨w.heap.size, 1, none⟩ = false := frozen_of_row 1 hR
              have HR2 := hide hR
              clear hR
              go_wp2
              obtain ⟨r0, r1⟩ := fault_cells HR2.out (.int .i64 2) (.int .i64 ((j : Int) + 1))
              refine bodyPost_ret (v := .agg #[.int .i64 2, .int .i64 ((j : Int) + 1)]) (by simp [results, Tryz.results21, go_sem, r0, r1]) rfl ⟨ret_fault (by rw [F.out]; simp), ?_⟩
              exact ((hL01.trans hLW).setCell (Nat.le_refl _) _).setCell (Nat.le_refl _) _
            · rw [decide_eq_true (by omega)] at HC
              have F : Hid (faultFrom l l.length 0 = faultFrom l (l.length - (j + 1 + 1)) (j + 1 + 1)) := by show _ = _; rw [HE.out, hst, if_neg (fun h => hcm h.2)]
              clear hst
              go_wp2
              go_quiet_grown ((go_at_call 41; exact Calls.grown_of (HC.out _ _)))
              go_wp2
              go_roundw
              case rel => exact ⟨j + 1 + 1, by omega, by go_num, hLR.trans ⟨_, _, rfl⟩, F⟩
              case measure => simp [intOf]; omega
        · have F : Hid (faultFrom l l.length 0 = (wrongF (l.getD k noFact), (k : Int))) := by show _ = _; rw [HE.out, hst, if_pos hwz]
          have hwz' : (wrongF (l.getD k noFact) == 0) = false := by simpa using hwz
          generalize wrongF (l.getD k noFact) = we at *
          generalize (l.getD k noFact).1 = nk at *
          clear hst
          go_wp2_with fail
          refine (HWr.out _ ((Later.refl _).alloc _)).mono ?_
          rintro e w1 ⟨rfl, hL1⟩
          have hLR : Later (w.alloc (.cells #[.int .i64 0, .int .i64 0] 41)) w1 := hL.trans (((Later.refl _).alloc _).trans hL1)
          have hL01 : Later w w1 := ((Later.refl _).alloc _).trans hLR
          have hR : w1.heap[w.heap.size]? = some (.cells #[.int .i64 0, .int .i64 0] 41 (0, 0)) := by rw [hLR.block (by simp), heap_alloc_new]
          have q0 : w1.cell? ⟨w.heap.size, 0, none⟩ = some (.int .i64 0) := by rw [cell_of_row _ _ _ _ _ _ hR]; rfl
          have q1 : w1.cell? ⟨w.heap.size, 1, none⟩ = some (.int .i64 0) := by rw [cell_of_row _ _ _ _ _ _ hR]; rfl
          have p0 : w1.frozen? ⟨w.heap.size, 0, none⟩ = false := frozen_of_row 0 hR
          have p1 : w1.frozen? ⟨w.heap.size, 1, none⟩ = false := frozen_of_row 1 hR
          have HRR := hide hR
          clear hR
          go_wp2
          obtain ⟨r0, r1⟩ := fault_cells HRR.out (.int .i64 we) (.int .i64 k)
          refine bodyPost_ret (v := .agg #[.int .i64 we, .int .i64 k]) (by simp [results, Tryz.results21, go_sem, r0, r1]) rfl ⟨ret_fault (by rw [F.out]), ?_⟩
          exact (hL01.setCell (Nat.le_refl _) _).setCell (Nat.le_refl _) _
      · have F : Hid (faultFrom l l.length 0 = (0, 0)) := by show _ = _; rw [HE.out, show l.length - k = 0 by omega]; rfl
        have q0 : wr.cell? ⟨w.heap.size, 0, none⟩ = some (.int .i64 0) := by rw [hL.cell (by simp)]; simp
        have q1 : wr.cell? ⟨w.heap.size, 1, none⟩ = some (.int .i64 0) := by rw [hL.cell (by simp)]; simp
        have p0 : wr.frozen? ⟨w.heap.size, 0, none⟩ = false := by rw [hL.frozen (by simp)]; simp
        have p1 : wr.frozen? ⟨w.heap.size, 1, none⟩ = false := by rw [hL.frozen (by simp)]; simp
        go_wp2
        have hR : wr.heap[w.heap.size]? = some (.cells #[.int .i64 0, .int .i64 0] 41 (0, 0)) := by rw [hL.block (by simp), heap_alloc_new]
        obtain ⟨r0, r1⟩ := fault_cells hR (.int .i64 0) (.int .i64 0)
        refine bodyPost_ret (v := .agg #[.int .i64 0, .int .i64 0]) (by simp [results, Tryz.results21, go_sem, r0, r1]) rfl ⟨ret_fault (by rw [F.out]), ?_⟩
        exact (hL0.setCell (Nat.le_refl _) _).setCell (Nat.le_refl _) _

end Go.Proofs.YtilkggldmgeagaaGreatDoor

/- The reference's Facts. -/
namespace Go.Proofs.YtilkggldmgeagaaGreatDoor
open Go.RowKit Go.Sort Go.Maps

def fitA (f : FactB) (a : AtomD) : Bool := !decide (bs a.name = f.1) || decide (a.terms.length = f.2.length)
theorem fitF_all (p : List RuleD) (f : FactB) : fitF p f = p.all fun r => (r.head :: r.body).all (fitA f) := rfl

theorem all_take {α : Type} {g : α → Bool} {l : List α} {j : Nat} {x : α} (h : l[j]? = some x) : (l.take (j + 1)).all g = ((l.take j).all g && g x) := by
  rw [List.take_add_one, h, List.all_append]; simp

theorem all_stop {α : Type} {g : α → Bool} {l : List α} {x : α} (hx : x ∈ l) (h : g x = false) : l.all g = false := by
  cases e : l.all g with
  | false => rfl
  | true => rw [List.all_eq_true] at e; rw [e x hx] at h; cases h

set_option maxRecDepth 100000 in
set_option maxHeartbeats 1000000 in
theorem rFacts (p : List RuleD) (l : List FactB) (pv fv : Value) (w : World) (hp : ruleK.sl Anyw w pv p) (hf : Facts w fv l) (hR : RightP p) (hok : ∀ k, okF (l.getD k noFact)) :
    Calls Tryz.prog 17 #[pv, fv] w fun e w' => e = .returned (.agg #[.int .i64 (factsP p l).1, .int .i64 (factsP p l).2]) ∧ Below w.heap.size w w' := by
  obtain ⟨pa, pc, rfl⟩ := Kind.slice hp
  obtain ⟨fa, fc, hfv, hl0, hz⟩ := hf.addr
  subst hfv
  have h16 := hR.few
  have hb5 : ∀ r ∈ p, r.body.length ≤ 5 := fun r hr => (body_right (hR.rules r hr).body).1
  obtain ⟨wb, hwb⟩ : ∃ wb, wb = w.alloc (.cells #[.int .i64 0, .int .i64 0] 41) := ⟨_, rfl⟩
  have hLb : Later w wb := by rw [hwb]; exact (Later.refl w).alloc _
  have hsb : wb.heap.size = w.heap.size + 1 := by rw [hwb]; simp
  have hrb : wb.heap[w.heap.size]? = some (.cells #[.int .i64 0, .int .i64 0] 41 (0, 0)) := by rw [hwb]; exact heap_alloc_new w _
  have HSt := hide (rSetC (.slice fa l.length fc) l wb (hf.later hLb) hok)
  have HP := hide (Kind.sl_later hp hLb)
  have HF := hide (hf.later hLb)
  have HLb := hide hLb
  have HRb := hide hrb
  have HWb := hide hwb
  have HB5 := hide hb5
  clear hp hf hR hok hLb hrb hwb hb5
  obtain ⟨sx, sa, hsx⟩ : ∃ x a, setFault l = (x, a) := ⟨_, _, rfl⟩
  rw [hsx] at HSt
  have HSX := hide hsx
  clear hsx
  go_enter Tryz.func17, Tryz.ntmps17
  go_wp2_with fail
  rw [← HWb.out]
  refine HSt.out.mono ?_
  rintro e w1 ⟨rfl, hL1⟩
  dsimp only
  obtain ⟨w2, hw2⟩ : ∃ w2, w2 = w1.alloc (.cells #[.int .i64 sx, .int .i64 sa] 41) := ⟨_, rfl⟩
  have hL2 : Later w1 w2 := by rw [hw2]; exact (Later.refl _).alloc _
  have hB2 : Below wb.heap.size wb w2 := (hL1.trans hL2).below
  have hr2 := (hB2.block w.heap.size (by omega)).trans HRb.out
  have hs2 : w2.heap[w1.heap.size]? = some (.cells #[.int .i64 sx, .int .i64 sa] 41 (0, 0)) := by rw [hw2]; exact heap_alloc_new w1 _
  have hs1 := hL1.size
  by_cases h0 : sx = 0
  · subst h0
    have HX : Hid (factsP p l = fitFrom p l (l.length - 0) 0) := by show _ = _; unfold factsP; rw [HSX.out]; simp
    have HB2 := hide hB2
    have HW2 := hide hw2
    generalize hfp : factsP p l = fp at *
    have HFPe := hide hfp
    clear hL1 hL2 hB2 hr2 hs2 hw2 HSt HWb HSX hs1 hfp
    go_wp2
    rw [← HW2.out]
    go_loopg [20] l.length (fun g i wr => ∃ k : Nat, k + g = l.length ∧ i = .int .i64 k ∧ Hid (fp = fitFrom p l (l.length - k) k) ∧ Hid (Below wb.heap.size wb wr))
    case atStart => exact ⟨0, by omega, rfl, HX, HB2⟩
    case round =>
      clear HX HB2 HW2
      obtain ⟨k, hk, rfl, HX, HBr⟩ := hrel
      have hrowR := (HBr.out.block w.heap.size (by omega)).trans HRb.out
      by_cases hlt : k < l.length
      · rcases hz with hz | ⟨b4, o4, rfl⟩
        · rw [hz] at hlt; simp at hlt
        obtain ⟨hb4, ax, lx, cx, g1, g2, fx⟩ := (HF.out.below HBr.out).at hlt
        obtain ⟨f, hfk⟩ : ∃ f, f = l.getD k noFact := ⟨_, rfl⟩
        rw [← hfk] at g1 fx
        have hstep : fp = if fitF p f = true then fitFrom p l (l.length - (k + 1)) (k + 1) else (8, (k : Int)) := by
          rw [HX.out, show l.length - k = (l.length - (k + 1)) + 1 by omega]
          show (if fitF p (l.getD k noFact) = true then _ else _) = _
          rw [← hfk]
        have hlx : lx = f.2.length := by
          obtain ⟨s, e, hs⟩ := fx
          obtain ⟨a, c, rfl⟩ := sliceStr hs
          simp only [Value.agg.injEq] at e
          have := congrArg (fun x => x.toList) e
          simp at this
          exact this.2.1
        have HStep := hide hstep
        obtain ⟨wf, hwf⟩ : ∃ wf, wf = wr.alloc (.cells #[.string f.1, .slice ax lx cx] 50) := ⟨_, rfl⟩
        have hLf : Later wr wf := by rw [hwf]; exact (Later.refl _).alloc _
        have hrf : wf.heap[wr.heap.size]? = some (.cells #[.string f.1, .slice ax lx cx] 50 (0, 0)) := by rw [hwf]; exact heap_alloc_new wr _
        have hsf : wf.heap.size = wr.heap.size + 1 := by rw [hwf]; simp
        have HBf := hide (below_trans HBr.out hLf.below HBr.out.size)
        have HRf := hide hrf
        have HWf := hide hwf
        have hlx0 : f.2.length ≤ 8796093022208 := by obtain ⟨s, e, hs⟩ := fx; exact hs.1
        clear fx hfk hstep hwf hLf hrf HX hrowR
        obtain ⟨fn, fargs⟩ := f
        dsimp only at *
        subst hlx
        go_wp2
        rw [← HWf.out]
        clear HWf g1 g2 HBr
        generalize hA : wr.heap.size = A at *
        clear hA
        go_loopg [27] p.length (fun g i wr2 => ∃ j : Nat, j + g = p.length ∧ i = .int .i64 j ∧ Hid ((p.take j).all (fun r => (r.head :: r.body).all (fitA (fn, fargs))) = true) ∧ Hid (Below wf.heap.size wf wr2))
        case atStart => exact ⟨0, by omega, rfl, (by show _ = _; simp), Below.refl _ _⟩
        case round =>
          obtain ⟨j, hj, rfl, HAl, HB2⟩ := hrel
          by_cases hltj : j < p.length
          · obtain ⟨r, hr⟩ : ∃ x, p[j]? = some x := ⟨_, List.getElem?_eq_getElem hltj⟩
            have hrm : r ∈ p := List.mem_of_getElem? hr
            have hBb2 := below_trans HBf.out HB2.out HBf.out.size
            obtain ⟨b1, o1, _, e1, hb1, ⟨tv, bv, rfl, htv, hbv⟩, hc⟩ := Kind.sl_at HP.out hr
            subst e1
            have d0 : wr.cell? ⟨b1, o1 + j * 4, none⟩ = some (.bool r.head.no) := by rw [hBb2.cell (p := ⟨b1, o1 + j * 4, none⟩) hb1]; exact hc 0 _ rfl
            have d1 : wr.cell? ⟨b1, o1 + j * 4 + 1, none⟩ = some (.string (bs r.head.name)) := by rw [hBb2.cell (p := ⟨b1, o1 + j * 4 + 1, none⟩) hb1]; exact hc 1 _ rfl
            have d2 : wr.cell? ⟨b1, o1 + j * 4 + 2, none⟩ = some tv := by rw [hBb2.cell (p := ⟨b1, o1 + j * 4 + 2, none⟩) hb1]; exact hc 2 _ rfl
            have d3 : wr.cell? ⟨b1, o1 + j * 4 + 3, none⟩ = some bv := by rw [hBb2.cell (p := ⟨b1, o1 + j * 4 + 3, none⟩) hb1]; exact hc 3 _ rfl
            obtain ⟨ta, tc, rfl⟩ := Kind.slice htv
            obtain ⟨ba, bc, rfl⟩ := Kind.slice hbv
            have hbr1 : b1 < wr.heap.size := Nat.lt_of_lt_of_le hb1 hBb2.size
            have hbl := HB5.out r hrm
            obtain ⟨wg, hwg⟩ : ∃ wg, wg = wr.alloc (.cells #[.bool r.head.no, .string (bs r.head.name), .slice ta r.head.terms.length tc, .slice ba r.body.length bc] 57) := ⟨_, rfl⟩
            have hLg : Later wr wg := by rw [hwg]; exact (Later.refl _).alloc _
            have hBbg := below_trans hBb2 hLg.below hBb2.size
            have hca : atomK.is Anyw wb [.bool r.head.no, .string (bs r.head.name), .slice ta r.head.terms.length tc] r.head := ⟨_, rfl, htv⟩
            have hRow := RowA.one (w0 := wb) (w := wg) (lo := wg.heap.size) hca (Nat.le_refl _)
            obtain ⟨v', w7, hrun, hR7, hg7⟩ := RowA.many hRow (by simp) (below_trans hBbg ((Later.refl wg).alloc _).below hBbg.size) hbv (by simp; omega)
            obtain ⟨a7, n7, c7, hv7, hn7⟩ : ∃ a n c, v' = .slice a n c ∧ n = r.body.length + 1 := by obtain ⟨a, c, e⟩ := RowA.slice hR7; exact ⟨a, _, c, e, by simp⟩
            subst hv7
            have hBg7 : Below wf.heap.size wf w7 := (below_trans (below_trans HB2.out hLg.below HB2.out.size) ((Later.refl wg).alloc _).below (Nat.le_trans HB2.out.size hLg.size)).grown hg7 (by have := HB2.out.size; have := hLg.size; simp; omega) (fun k e => by have := HB2.out.size; have := hLg.size; simp [Value.ownBlock] at e; omega)
            have hBb7 := below_trans HBf.out hBg7 HBf.out.size
            have HAs := hide (hR7.sl hBb7 (by simp; omega))
            have HAt := hide (all_take (g := fun r => (r.head :: r.body).all (fitA (fn, fargs))) hr)
            have HB7 := hide hBg7
            have HRn := hide hrun
            have HMm := hide (fun (h : (r.head :: r.body).all (fitA (fn, fargs)) = false) => (fitF_all p (fn, fargs)).trans (all_stop hrm h))
            rw [hwg] at HRn
            simp only [World.size_alloc] at HRn
            clear hc hr htv hbv hwg hLg hBbg hca hRow hR7 hg7 hrun hBg7 hBb7 hBb2 hrm
            generalize bs r.head.name = nm at *
            generalize r.head.no = no at *
            go_wp2_with (at_builtin; refine wpList_append_run rfl (.tmp 33) (.tmp 35) 55 rfl _ _ _ _ rfl rfl HRn.out ?_)
            go_loopg [38] n7 (fun g i wr3 => ∃ t : Nat, t + g = n7 ∧ i = .int .i64 t ∧ Hid (((r.head :: r.body).take t).all (fitA (fn, fargs)) = true) ∧ Hid (Below w7.heap.size w7 wr3))
            case atStart => exact ⟨0, by omega, rfl, (by show _ = _; simp), Below.refl _ _⟩
            case round =>
              clear d0 d1 d2 d3
              obtain ⟨t, ht, rfl, HTl, HB3⟩ := hrel
              have hBf3 := below_trans HB7.out HB3.out HB7.out.size
              have hBb3 := below_trans HBf.out hBf3 HBf.out.size
              by_cases hltt : t < n7
              · obtain ⟨a, ha⟩ : ∃ x, (r.head :: r.body)[t]? = some x := ⟨_, List.getElem?_eq_getElem (by simp; omega)⟩
                obtain ⟨b3, o3, _, e3, hb3, ⟨tv3, rfl, htv3⟩, hc3⟩ := Kind.sl_at HAs.out ha
                subst e3
                have d0 : wr.cell? ⟨b3, o3 + t * 3, none⟩ = some (.bool a.no) := by rw [HB3.out.cell (p := ⟨b3, o3 + t * 3, none⟩) hb3]; exact hc3 0 _ rfl
                have d1 : wr.cell? ⟨b3, o3 + t * 3 + 1, none⟩ = some (.string (bs a.name)) := by rw [HB3.out.cell (p := ⟨b3, o3 + t * 3 + 1, none⟩) hb3]; exact hc3 1 _ rfl
                have d2 : wr.cell? ⟨b3, o3 + t * 3 + 2, none⟩ = some tv3 := by rw [HB3.out.cell (p := ⟨b3, o3 + t * 3 + 2, none⟩) hb3]; exact hc3 2 _ rfl
                obtain ⟨ta3, tc3, rfl⟩ := Kind.slice htv3
                have htl3 := htv3.1.1
                have hbr3 : b3 < wr.heap.size := Nat.lt_of_lt_of_le hb3 HB3.out.size
                have hrowf : wr.heap[A]? = some (.cells #[.string fn, .slice ax fargs.length cx] 50 (0, 0)) := (hBf3.block A (by omega)).trans HRf.out
                have hrowR := (hBb3.block w.heap.size (by omega)).trans HRb.out
                have hAlt : A < wr.heap.size := (Array.getElem?_eq_some_iff.1 hrowf).1
                have hRlt : w.heap.size < wr.heap.size := (Array.getElem?_eq_some_iff.1 hrowR).1
                have f0 : wr.cell? ⟨A, 0, none⟩ = some (.string fn) := by rw [cell_of_row _ _ _ _ _ _ hrowf]; rfl
                have f1 : wr.cell? ⟨A, 1, none⟩ = some (.slice ax fargs.length cx) := by rw [cell_of_row _ _ _ _ _ _ hrowf]; rfl
                have HTk := hide (all_take (g := fitA (fn, fargs)) ha)
                have HAm := hide (List.mem_of_getElem? ha)
                have HB3' : Hid (Below w7.heap.size w7 (wr.alloc (.cells #[.bool a.no, .string (bs a.name), .slice ta3 a.terms.length tc3] 54))) := below_trans HB3.out ((Later.refl _).alloc _).below HB3.out.size
                have hrow4 : (wr.alloc (.cells #[.bool a.no, .string (bs a.name), .slice ta3 a.terms.length tc3] 54)).heap[w.heap.size]? = some (.cells #[.int .i64 0, .int .i64 0] 41 (0, 0)) := by
                  rw [heap_at, if_neg (by omega)]; exact hrowR
                have HRow4 := hide hrow4
                have HRowR := hide hrowR
                have HBv := hide (below_trans HLb.out.below hBb3 HLb.out.size)
                have HBw : Hid (Below w.heap.size w (wr.alloc (.cells #[.bool a.no, .string (bs a.name), .slice ta3 a.terms.length tc3] 54))) := below_trans HLb.out.below (below_trans hBb3 ((Later.refl _).alloc _).below hBb3.size) HLb.out.size
                clear hc3 ha htv3 hrowf hrowR hrow4 hBf3 hBb3
                obtain ⟨an, hnm, ats⟩ := a
                dsimp only at *
                have hfit : fitA (fn, fargs) ⟨an, hnm, ats⟩ = (!decide (bs hnm = fn) || decide (ats.length = fargs.length)) := rfl
                by_cases hnf : bs hnm = fn
                · have hq : ((bs hnm).toList == fn.toList) = true := by rw [eq_list]; simp [hnf]
                  by_cases hll : ats.length = fargs.length
                  · have HT' : Hid (((r.head :: r.body).take (t + 1)).all (fitA (fn, fargs)) = true) := by show _ = _; rw [HTk.out, HTl.out, hfit]; simp [hll]
                    have hneq : ((ats.length : Int) != (fargs.length : Int)) = false := by
                      have : (ats.length : Int) = (fargs.length : Int) := by omega
                      simp [this]
                    clear HTk HTl hfit hll HRow4 HBw hnf HAm
                    generalize bs hnm = tk at *
                    go_wp2
                    go_roundg (n7 - (t + 1))
                    case measure => omega
                    case rel => exact ⟨t + 1, by omega, by go_num, HT', HB3'⟩
                  · have hst := HStep.out
                    rw [HMm.out (all_stop HAm.out (by rw [hfit]; simp [hnf, hll]))] at hst
                    simp only [Bool.false_eq_true, if_false] at hst
                    have HFp : Hid (fp = (8, (k : Int))) := hst
                    have hneq : ((ats.length : Int) != (fargs.length : Int)) = true := by
                      have : ¬ (ats.length : Int) = (fargs.length : Int) := by omega
                      simpa using this
                    obtain ⟨q0, q1, p0, p1, q2⟩ := row2 HRow4.out
                    have hr5 : ((wr.setCell ⟨w.heap.size, 0, none⟩ (.int .i64 8)).alloc (.cells #[.bool an, .string (bs hnm), .slice ta3 ats.length tc3] 54)).heap[w.heap.size]? = some (.cells #[.int .i64 8, .int .i64 0] 41 (0, 0)) := by
                      rw [heap_at, if_neg (by simp; omega)]; exact set_at (j := 0) HRowR.out (.int .i64 8)
                    obtain ⟨q5, q6, p5, p6, q7⟩ := row2 hr5
                    obtain ⟨q8, q9, p8, p9, _⟩ := row2 HRowR.out
                    clear hst HTk HTl hfit hll hnf HAm HStep hr5
                    generalize bs hnm = tk at *
                    go_wp2
                    have hrow := set_at (j := 1) (set_at (j := 0) HRowR.out (.int .i64 8)) (.int .i64 (k : Int))
                    have hrow2 : (((wr.setCell ⟨w.heap.size, 0, none⟩ (.int .i64 8)).setCell ⟨w.heap.size, 1, none⟩ (.int .i64 (k : Int))).alloc (.cells #[.bool an, .string tk, .slice ta3 ats.length tc3] 54)).heap[w.heap.size]? = some (.cells #[.int .i64 8, .int .i64 (k : Int)] 41 (0, 0)) := by
                      rw [heap_at, if_neg (by simp; omega)]; exact hrow
                    have r0 := (row2 hrow2).1
                    have r1 := (row2 hrow2).2.1
                    refine bodyPost_ret (v := .agg #[.int .i64 8, .int .i64 (k : Int)]) (by simp [results, Tryz.results17, go_sem, r0, r1]) rfl ⟨by rw [HFPe.out, HFp.out], ?_⟩
                    exact ((HBv.out.setCell (by show w.heap.size ≤ w.heap.size; omega) _).setCell (by show w.heap.size ≤ w.heap.size; omega) _).alloc (by simp; omega) _
                · have hq : ((bs hnm).toList == fn.toList) = false := by rw [eq_list]; simp [hnf]
                  have HT' : Hid (((r.head :: r.body).take (t + 1)).all (fitA (fn, fargs)) = true) := by show _ = _; rw [HTk.out, HTl.out, hfit]; simp [hnf]
                  clear HTk HTl hfit hnf HRow4 HBw HAm
                  generalize bs hnm = tk at *
                  go_wp2
                  go_roundg (n7 - (t + 1))
                  case measure => omega
                  case rel => exact ⟨t + 1, by omega, by go_num, HT', HB3'⟩
              · have hta : (r.head :: r.body).take t = r.head :: r.body := List.take_of_length_le (by simp; omega)
                have HAl' : Hid ((p.take (j + 1)).all (fun r => (r.head :: r.body).all (fitA (fn, fargs))) = true) := by
                  show _ = _
                  have h := HTl.out
                  rw [hta] at h
                  rw [HAt.out, HAl.out, h]; rfl
                have HB' := hide hBf3
                clear hta HTl hBf3 hBb3 HAs
                go_wp2
                go_roundg (p.length - (j + 1))
                case measure => omega
                case rel => exact ⟨j + 1, by omega, by go_num, HAl', HB'⟩
          · have hpt : p.take j = p := List.take_of_length_le (by omega)
            have hall := HAl.out
            rw [hpt, ← fitF_all] at hall
            have hst := HStep.out
            rw [if_pos hall] at hst
            have HX' := hide hst
            have HB' := hide (below_trans HBf.out HB2.out HBf.out.size)
            clear hpt hall hst HStep HAl
            go_wp2
            go_roundg (l.length - (k + 1))
            case measure => omega
            case rel => exact ⟨k + 1, by omega, by go_num, HX', HB'⟩
      · have hkl : l.length - k = 0 := by omega
        have hx := HX.out
        rw [hkl] at hx
        have HFp : Hid (fp = (0, 0)) := hx
        have HRow := hide hrowR
        obtain ⟨q0, q1, p0, p1, q2⟩ := row2 hrowR
        have HBw := hide (below_trans HLb.out.below HBr.out HLb.out.size)
        clear hkl hx HX hrowR
        go_wp2
        obtain ⟨r0, r1⟩ := set_two HRow.out (.int .i64 0) (.int .i64 0)
        refine bodyPost_ret (v := .agg #[.int .i64 0, .int .i64 0]) (by simp [results, Tryz.results17, go_sem, r0, r1]) rfl ⟨by rw [HFPe.out, HFp.out], ?_⟩
        exact (HBw.out.setCell (by show w.heap.size ≤ w.heap.size; omega) _).setCell (by show w.heap.size ≤ w.heap.size; omega) _
  · have hne : (sx != 0) = true := by simpa using h0
    have HFp : Hid (factsP p l = (sx, sa)) := by show _ = _; unfold factsP; rw [HSX.out, if_pos h0]
    have HB2 := hide (below_trans HLb.out.below hB2 HLb.out.size)
    have HR2 := hide hr2
    have HW2 := hide hw2
    rw [hw2] at hr2 hs2
    obtain ⟨q0, q1, p0, p1, q2⟩ := row2 hr2
    obtain ⟨s0, s1, _, _, _⟩ := row2 hs2
    have hr1 := (hL1.block (show w.heap.size < wb.heap.size by omega)).trans HRb.out
    obtain ⟨q3, q4, p3, p4, q5⟩ := row2 hr1
    have HR1 := hide hr1
    have HB1 := hide (below_trans HLb.out.below hL1.below HLb.out.size)
    have hR1 : w.heap.size < w1.heap.size := (Array.getElem?_eq_some_iff.1 hr1).1
    have hr6 : ((w1.setCell ⟨w.heap.size, 0, none⟩ (.int .i64 sx)).alloc (.cells #[.int .i64 sx, .int .i64 sa] 41)).heap[w.heap.size]? = some (.cells #[.int .i64 sx, .int .i64 0] 41 (0, 0)) := by
      rw [heap_at, if_neg (by simp; omega)]; exact set_at (j := 0) hr1 (.int .i64 sx)
    obtain ⟨q6, q7, p6, p7, _⟩ := row2 hr6
    clear hr1 hr2 hs2 hr6 hL1 hL2 hB2 hw2 HSt HWb HSX HW2 h0 hs1 HR2 HB2
    go_wp2
    have hrow := set_at (j := 1) (set_at (j := 0) HR1.out (.int .i64 sx)) (.int .i64 sa)
    have hrow2 : (((w1.setCell ⟨w.heap.size, 0, none⟩ (.int .i64 sx)).setCell ⟨w.heap.size, 1, none⟩ (.int .i64 sa)).alloc (.cells #[.int .i64 sx, .int .i64 sa] 41)).heap[w.heap.size]? = some (.cells #[.int .i64 sx, .int .i64 sa] 41 (0, 0)) := by
      rw [heap_at, if_neg (by simp; omega)]; exact hrow
    have r0 := (row2 hrow2).1
    have r1 := (row2 hrow2).2.1
    refine bodyPost_ret (v := .agg #[.int .i64 sx, .int .i64 sa]) (by simp [results, Tryz.results17, go_sem, r0, r1]) rfl ⟨by rw [HFp.out], ?_⟩
    exact ((HB1.out.setCell (by show w.heap.size ≤ w.heap.size; omega) _).setCell (by show w.heap.size ≤ w.heap.size; omega) _).alloc (by simp; omega) _

end Go.Proofs.YtilkggldmgeagaaGreatDoor

/- The walk of the reference's WrongProgram (by mkcrg.py). -/
namespace Go.Proofs.YtilkggldmgeagaaGreatDoor
open Go.RowKit Go.Sort Go.Maps

structure PB (w wr : World) (j : Int) (c0 c1 c2 c3 : Value) (n : Nat) (m : Nums) (w' : World) : Prop where
  below : Below w.heap.size w w'
  row : w'.heap[w.heap.size]? = some (.cells #[.int .i64 0, .int .i64 0] 41 (0, 0))
  i : w'.cell? ⟨wr.heap.size, 0, none⟩ = some (.int .i64 j)
  cells : w'.cell? ⟨wr.heap.size + 1, 0, none⟩ = some c0 ∧ w'.cell? ⟨wr.heap.size + 1, 1, none⟩ = some c1 ∧ w'.cell? ⟨wr.heap.size + 1, 2, none⟩ = some c2 ∧ w'.cell? ⟨wr.heap.size + 1, 3, none⟩ = some c3 ∧ wr.heap.size + 1 < w'.heap.size
  lo : w.heap.size + 2 ≤ wr.heap.size
  map : NumsM w' (w.heap.size + 1) n m

theorem PB.turned {w wr w1 w2 : World} {j : Int} {c0 c1 c2 c3 : Value} {n n' : Nat} {m m' : Nums} (h : PB w wr j c0 c1 c2 c3 n m w1) (k : Tn (w.heap.size + 1) w1 w2) (hm : NumsM w2 (w.heap.size + 1) n' m') : PB w wr j c0 c1 c2 c3 n' m' w2 := by
  have hl := h.cells.2.2.2.2
  have hlo := h.lo
  have e : ∀ q, w2.cell? ⟨wr.heap.size + 1, q, none⟩ = w1.cell? ⟨wr.heap.size + 1, q, none⟩ := fun q => k.cell (x := ⟨wr.heap.size + 1, q, none⟩) hl (by show wr.heap.size + 1 ≠ _; omega)
  refine ⟨below_trans h.below (k.below (n := w.heap.size) (by omega) (by have := h.below.size; omega)) (Nat.le_refl _), by rw [k.block _ (by omega) (by omega)]; exact h.row, ?_, ⟨by rw [e]; exact h.cells.1, by rw [e]; exact h.cells.2.1, by rw [e]; exact h.cells.2.2.1, by rw [e]; exact h.cells.2.2.2.1, Nat.lt_of_lt_of_le hl k.size⟩, hlo, hm⟩
  rw [k.cell (x := ⟨wr.heap.size, 0, none⟩) (by show wr.heap.size < _; omega) (by show wr.heap.size ≠ _; omega)]; exact h.i
theorem PB.below' {w wr w1 w2 : World} {j : Int} {c0 c1 c2 c3 : Value} {n : Nat} {m : Nums} (h : PB w wr j c0 c1 c2 c3 n m w1) (k : Below w1.heap.size w1 w2) : PB w wr j c0 c1 c2 c3 n m w2 := h.turned (Tn.of_below k) (h.map.below k)

def longR (r : RuleD) : Prop := longA r.head ∧ ∀ a ∈ r.body, longA a

set_option maxRecDepth 100000 in
set_option maxHeartbeats 8000000 in
theorem rWrongProgram (p : List RuleD) (v : Value) (w : World) (hv : ruleK.sl Anyw w v p) (hk : ∀ r ∈ p, longR r) :
    Calls Tryz.prog 35 #[v] w fun e w' => e = .returned (.agg #[.int .i64 (wrongP p).1, .int .i64 ((wrongP p).2 : Nat)]) ∧ Below w.heap.size w w' := by
  obtain ⟨sa, cap, rfl⟩ := Kind.slice hv
  have hl0 := hv.1.1
  have HV := hide hv
  have HK := hide hk
  clear hv hk
  by_cases h16 : 16 < p.length
  · have F : Hid (wrongP p = (5, 0)) := by show _ = _; unfold wrongP; rw [if_pos h16]
    go_enter Tryz.func35, Tryz.ntmps35
    go_wp2
    exact bodyPost_ret (v := .agg #[.int .i64 5, .int .i64 0]) (by simp [results, Tryz.results35, go_sem]) rfl ⟨by rw [F.out]; rfl, ((by repeat (first | exact Later.refl _ | assumption | refine Later.drewN ?_ _ | refine Later.drew ?_ | refine Later.alloc ?_ _ | refine Later.grow ?_ _)) : Later w _).below⟩
  · have F : Hid (wrongP p = wrongGo (fun _ => none) 0 p) := by show _ = _; unfold wrongP; rw [if_neg h16]
    have hmm := @run_makeMap Tryz.prog
    go_enter Tryz.func35, Tryz.ntmps35
    go_wp2
    go_loopg [20] p.length (fun k i wr => ∃ j : Nat, j + k = p.length ∧ i = .int .i64 j ∧ ∃ m, Hid (wrongP p = wrongGo m j (p.drop j)) ∧ Hid (NumsM wr (w.heap.size + 1) (6 * j) (more m)) ∧ Hid (Below w.heap.size w wr) ∧ Hid (wr.heap[w.heap.size]? = some (.cells #[.int .i64 0, .int .i64 0] 41 (0, 0))) ∧ w.heap.size + 2 ≤ wr.heap.size)
    case atStart =>
      refine ⟨0, by omega, rfl, fun _ => none, F.out, ?_, ?_, ?_, by simp⟩
      · have := NumM.made Tryz.prog 9 3 (w.alloc (.cells #[.int .i64 0, .int .i64 0] 41))
        rw [World.size_alloc] at this
        exact this
      · exact (((Later.refl w).alloc _).alloc _).below
      · show _ = _
        rw [Below.heap_alloc _ _ _ (by simp), heap_alloc_new]
    case round =>
      obtain ⟨j, hj, rfl, m, HE, HM, HB, HR, hsz⟩ := hrel
      by_cases hlt : j < p.length
      · obtain ⟨r, hr⟩ : ∃ x, p[j]? = some x := ⟨_, List.getElem?_eq_getElem hlt⟩
        obtain ⟨b1, o1, _, rfl, hb1, ⟨sv, su, rfl, hsv, hsu⟩, hc⟩ := Kind.sl_at HV.out hr
        have d0 : wr.cell? ⟨b1, o1 + j * 4, none⟩ = some (.bool r.head.no) := by rw [HB.out.cell hb1]; exact hc 0 _ rfl
        have d1 : wr.cell? ⟨b1, o1 + j * 4 + 1, none⟩ = some (.string (bs r.head.name)) := by rw [HB.out.cell hb1]; exact hc 1 _ rfl
        have d2 : wr.cell? ⟨b1, o1 + j * 4 + 2, none⟩ = some sv := by rw [HB.out.cell hb1]; exact hc 2 _ rfl
        have d3 : wr.cell? ⟨b1, o1 + j * 4 + 3, none⟩ = some su := by rw [HB.out.cell hb1]; exact hc 3 _ rfl
        have hbr : b1 < wr.heap.size := by omega
        have hst := wrongGo_step hr m j
        have hlr := HK.out r (List.mem_of_getElem? hr)
        obtain ⟨wA, hwA⟩ : ∃ wA, wA = (wr.alloc (.cells #[.int .i64 j] 3)).alloc (.cells #[.bool r.head.no, .string (bs r.head.name), sv, su] 57) := ⟨_, rfl⟩
        have hLA : Later wr wA := by rw [hwA]; exact (by repeat (first | exact Later.refl _ | assumption | refine Later.drewN ?_ _ | refine Later.drew ?_ | refine Later.alloc ?_ _ | refine Later.grow ?_ _))
        have hPA : PB w wr j (.bool r.head.no) (.string (bs r.head.name)) sv su (6 * j) (more m) wA := by
          refine ⟨below_trans HB.out hLA.below HB.out.size, by rw [hLA.block (by omega)]; exact HR.out, by rw [hwA]; simp, by rw [hwA]; simp, hsz, HM.out.later hLA⟩
        have PA := hide hPA
        have HWA := hide hwA
        have HSV : Hid (∀ w', Below w.heap.size w w' → termK.sl Anyw w' sv r.head.terms) := fun w' h => Kind.sl_below hsv h
        have HSU : Hid (∀ w', Below w.heap.size w w' → atomK.sl Anyw w' su r.body) := fun w' h => Kind.sl_below hsu h
        have HAt := hide (rWrongAtom r.head sv wA (HSV.out wA hPA.below) hlr.1)
        rw [hwA] at HAt
        obtain ⟨a2, c2, rfl⟩ := Kind.slice hsv
        obtain ⟨a3, c3, rfl⟩ := Kind.slice hsu
        have HLr := hide hlr
        clear hc hr hsv hsu hwA hLA hPA HM HB HR hlr
        by_cases h1 : wrongAtom r.head = 0
        · rw [h1] at HAt
          have HBd : Hid (∀ w', Below w.heap.size w w' → Calls Tryz.prog 57 #[.slice a3 r.body.length c3] w' fun e w'' => e = .returned (.int .i64 (wrongBody r.body)) ∧ Below w'.heap.size w' w'') := fun w' h => rWrongBody r.body _ w' (HSU.out w' h) HLr.out.2
          cases hno : r.head.no
          · rw [hno] at HAt PA d0 HWA
            by_cases h2 : wrongBody r.body = 0
            · rw [h2] at HBd
              obtain ⟨hl5, hfb⟩ := wrongBody_zero h2
              obtain ⟨fn, ft, fs⟩ := wrongAtom_zero h1
              have hkh : keyA r.head := ⟨by omega, fun t ht => short_max (fs t ht)⟩
              have HBo : Hid (∀ w', Below w.heap.size w w' → Calls Tryz.prog 58 #[.agg #[.bool false, .string (bs r.head.name), .slice a2 r.head.terms.length c2], .slice a3 r.body.length c3] w' fun e w'' => e = .returned (.bool ((vars r.head).all (givenBy r.body))) ∧ Below w'.heap.size w' w'') := fun w' h => by
                have := rBound r.head _ r.body _ w' (HSV.out w' h) hkh (HSU.out w' h) (fun b hb => ⟨by have := (wrongAtom_zero (hfb b hb)).2.1; omega, fun t ht => short_max ((wrongAtom_zero (hfb b hb)).2.2 t ht)⟩)
                rwa [hno] at this
              cases hal : (vars r.head).all (givenBy r.body)
              · have HE2 : Hid (wrongP p = (9, j)) := by
                  show _ = _
                  have : wrongRule m r = (9, m) := by unfold wrongRule; rw [if_pos h1, hno, if_pos h2, hal]; rfl
                  rw [HE.out, hst, this, if_neg (by show ¬ (9 : Int) = 0; decide)]
                rw [hal] at HBo
                clear hst HE h1 h2 hno hal hkh hfb fs HSV HSU HLr HK
                generalize bs r.head.name = nm at *
                go_wp2_with fail
                refine HAt.out.mono ?_
                rintro e w2 ⟨rfl, hL2⟩
                rw [← HWA.out] at hL2
                have P2 := hide (PA.out.below' hL2.below)
                obtain ⟨y0, y1, y2, y3, yl⟩ := P2.out.cells
                have H2 := hide (HBd.out w2 P2.out.below)
                clear hL2 HAt HBd
                go_wp2_with fail
                refine H2.out.mono ?_
                rintro e w3 ⟨rfl, hB3⟩
                have P3 := hide (P2.out.below' hB3)
                obtain ⟨x0, x1, x2, x3, xl⟩ := P3.out.cells
                have H3 := hide (HBo.out w3 P3.out.below)
                clear hB3 H2 HBo
                go_wp2_with fail
                refine H3.out.mono ?_
                rintro e w4 ⟨rfl, hB4⟩
                have P4 := hide (P3.out.below' hB4)
                clear hB4 H3
                have HBad := hide (badC 9 j _ w4 P4.out.i)
                go_wp2_with fail
                refine HBad.out.mono ?_
                rintro e wz ⟨rfl, hLz⟩
                have Pz := hide (P4.out.below' hLz.below)
                have hRz := Pz.out.row
                have q0 : wz.cell? ⟨w.heap.size, 0, none⟩ = some (.int .i64 0) := by rw [cell_of_row _ _ _ _ _ _ hRz]; rfl
                have q1 : wz.cell? ⟨w.heap.size, 1, none⟩ = some (.int .i64 0) := by rw [cell_of_row _ _ _ _ _ _ hRz]; rfl
                have p0 : wz.frozen? ⟨w.heap.size, 0, none⟩ = false := frozen_rowC 0 hRz
                have p1 : wz.frozen? ⟨w.heap.size, 1, none⟩ = false := frozen_rowC 1 hRz
                clear hLz HBad hRz
                go_wp2
                obtain ⟨r0, r1⟩ := fault_two Pz.out.row (.int .i64 9) (.int .i64 j)
                refine bodyPost_ret (v := .agg #[.int .i64 9, .int .i64 j]) (by simp [results, Tryz.results35, go_sem, r0, r1]) rfl ⟨ret_fault2 (by rw [HE2.out]) (by rw [HE2.out]), ?_⟩
                exact (Pz.out.below.setCell (Nat.le_refl _) _).setCell (Nat.le_refl _) _
              · have hWR := wrongRule_fit (m := m) h1 hno h2 hal
                rw [hal] at HBo
                have HFb : Hid (∀ a ∈ r.head :: r.body, wrongAtom a = 0) := fun a ha => by
                  rcases List.mem_cons.1 ha with e | ha
                  · rw [e]; exact h1
                  · exact hfb a ha
                have HHd : Hid (atomK.is Anyw w [.bool false, .string (bs r.head.name), .slice a2 r.head.terms.length c2] r.head) := ⟨_, by rw [hno], HSV.out w (Below.refl _ _)⟩
                have HSUw : Hid (atomK.sl Anyw w (.slice a3 r.body.length c3) r.body) := HSU.out w (Below.refl _ _)
                have HWR : Hid (wrongP p = if (fitAll m (r.head :: r.body)).1 then wrongGo (fitAll m (r.head :: r.body)).2 (j + 1) (p.drop (j + 1)) else (8, j)) := by
                  show _ = _
                  rw [HE.out, hst, hWR]
                  cases (fitAll m (r.head :: r.body)).1 <;> simp
                clear hst HE h1 h2 hno hal hkh hfb fs HLr HK hWR HSV
                generalize hall : r.head :: r.body = all at *
                have HAll : Hid (all = [r.head] ++ r.body) := hall.symm
                have hal5 : all.length = r.body.length + 1 := by rw [← hall]; rfl
                clear hall
                generalize bs r.head.name = nm at *
                go_wp2_with fail
                refine HAt.out.mono ?_
                rintro e w2 ⟨rfl, hL2⟩
                rw [← HWA.out] at hL2
                have P2 := hide (PA.out.below' hL2.below)
                obtain ⟨y0, y1, y2, y3, yl⟩ := P2.out.cells
                have H2 := hide (HBd.out w2 P2.out.below)
                clear hL2 HAt HBd
                go_wp2_with fail
                refine H2.out.mono ?_
                rintro e w3 ⟨rfl, hB3⟩
                have P3 := hide (P2.out.below' hB3)
                obtain ⟨x0, x1, x2, x3, xl⟩ := P3.out.cells
                have H3 := hide (HBo.out w3 P3.out.below)
                clear hB3 H2 HBo
                go_wp2_with fail
                refine H3.out.mono ?_
                rintro e w4 ⟨rfl, hB4⟩
                have P4 := hide (P3.out.below' hB4)
                obtain ⟨v0, v1, v2, v3, vl⟩ := P4.out.cells
                have hRO := RowA.one (w0 := w) (lo := w4.heap.size) HHd.out (Nat.le_refl w4.heap.size)
                have hBA : Below w.heap.size w (w4.alloc (.cells #[.bool false, .string nm, .slice a2 r.head.terms.length c2] 54)) := P4.out.below.alloc P4.out.below.size _
                obtain ⟨v5, w5, hrun, hRA, hg5⟩ := hRO.many (by simp) hBA HSUw.out (by simp; omega)
                have hB5 : Below w4.heap.size w4 w5 := below_trans ((Later.refl w4).alloc (.cells #[.bool false, .string nm, .slice a2 r.head.terms.length c2] 54)).below ⟨hg5.os, hg5.tape, hg5.output, hg5.size, fun k hk => hg5.block k (by simp; omega) (fun e => by have := (RowA.lo hRO k e.symm).1; omega)⟩ (Nat.le_refl _)
                rw [← HAll.out] at hRA
                have P5 := hide (P4.out.below' hB5)
                have h4 : w.heap.size + 1 < w4.heap.size := P4.out.map.lt
                obtain ⟨z5, c5, rfl⟩ := RowA.slice hRA
                have HSl := hide (hRA.slB P5.out.below (by omega) (b := w.heap.size + 1) (by omega) h4)
                have HR5 := hide hrun
                clear hrun hRA hg5 hB5 hRO hBA hB4 H3 HSU HSUw HHd h4
                go_wp2_with (at_builtin; refine wpList_append_run rfl (.tmp 57) (.tmp 59) 55 rfl _ _ _ _ rfl rfl HR5.out ?_)
                go_loopg [62] all.length (fun g i wr2 => ∃ k : Nat, k + g = all.length ∧ i = .int .i64 k ∧ ∃ mk, Hid (fitAll m all = fitAll mk (all.drop k)) ∧ Hid (NumsM wr2 (w.heap.size + 1) (6 * j + k) (more mk)) ∧ Hid (Tn (w.heap.size + 1) w5 wr2))
                case atStart => exact ⟨0, by omega, rfl, m, (rfl : _ = _), P5.out.map, Tn.refl _ _⟩
                case round =>
                  obtain ⟨k, hk, rfl, mk, HFi, HMk, HTn⟩ := hrel
                  by_cases hltk : k < all.length
                  · obtain ⟨t, ht⟩ : ∃ x, all[k]? = some x := ⟨_, List.getElem?_eq_getElem hltk⟩
                    obtain ⟨b6, o6, _, rfl, hb6, ⟨tv, rfl, htv⟩, hct⟩ := Kind.sl_at (Kind.sl_tnb HSl.out HTn.out) ht
                    have e0 : wr.cell? ⟨b6, o6 + k * 3, none⟩ = some (.bool t.no) := hct 0 _ rfl
                    have e1 : wr.cell? ⟨b6, o6 + k * 3 + 1, none⟩ = some (.string (bs t.name)) := hct 1 _ rfl
                    have e2 : wr.cell? ⟨b6, o6 + k * 3 + 2, none⟩ = some tv := hct 2 _ rfl
                    have htl := htv.1.1
                    obtain ⟨ta, tc, rfl⟩ := Kind.slice htv
                    have hts : t.name.length ≤ maxLen := short_max (wrongAtom_zero (HFb.out t (List.mem_of_getElem? ht))).1
                    have hmp := HMk.out.later ((Later.refl wr).alloc (.cells #[.bool t.no, .string (bs t.name), .slice ta t.terms.length tc] 54))
                    have hlk := NumM.lookOk (T := 72) hmp Tryz.underlying9 Tryz.underlying3 Tryz.underlying72 (zeroInt _) hts
                    obtain ⟨w7, hst7, hm7, hg7⟩ := NumM.store (T := 72) hmp Tryz.underlying9 Tryz.underlying3 Tryz.underlying72 (by simp [maxLen]; omega) hts (x := t.terms.length + 1) (wf_len (by omega))
                    rw [show (((t.terms.length + 1 : Nat)) : Int) = (t.terms.length : Int) + 1 by omega] at hst7
                    have HT7 : Hid (Tn (w.heap.size + 1) w5 w7) := (HTn.out.trans (Tn.of_below ((Later.refl wr).alloc _).below)).trans (Tn.of_grown hg7)
                    rw [more_put] at hm7
                    have hf1 := fitAll_step ht mk
                    have hbq : b6 < wr.heap.size := hb6
                    have hmb : w.heap.size + 1 < wr.heap.size := HMk.out.lt
                    have HBQ := hide HTn.out
                    cases hmt : mk t.name with
                    | none =>
                      have e3 : numOf (more mk) t.name = 0 := by unfold numOf more; rw [hmt]; rfl
                      have e4 : ((more mk) t.name).isSome = false := by unfold more; rw [hmt]; rfl
                      rw [e3, e4] at hlk
                      have HF1 : Hid (fitAll m all = fitAll (mk.put t.name t.terms.length) (all.drop (k + 1))) := by
                        show _ = _
                        rw [HFi.out, hf1]
                        rw [fitOne_none hmt]; rfl
                      have HM7 := hide hm7
                      have HST := hide hst7
                      clear hct ht htv hmp hst7 hm7 hg7 hf1 hmt e3 e4 HFi HMk HTn
                      generalize bs t.name = nt at *
                      generalize t.no = tn at *
                      go_wp2_with (first
                        | (at_mapUpdate; refine wpList_run_update _ rfl _ _ _ _ rfl _ _ _ _ rfl rfl (by simp [Act.eval]) HST.out ?_)
                        | go_in)
                      go_roundg (all.length - (k + 1))
                      case measure => omega
                      case rel => exact ⟨k + 1, by omega, by go_num, _, HF1, HM7, HT7⟩
                    | some n =>
                      have e3 : numOf (more mk) t.name = n + 1 := by unfold numOf more; rw [hmt]; rfl
                      have e4 : ((more mk) t.name).isSome = true := by unfold more; rw [hmt]; rfl
                      rw [e3, e4, show (((n + 1 : Nat)) : Int) = (n : Int) + 1 by omega] at hlk
                      by_cases hnt : n = t.terms.length
                      · have HF1 : Hid (fitAll m all = fitAll mk (all.drop (k + 1))) := by
                          show _ = _
                          rw [HFi.out, hf1]
                          rw [fitOne_some hmt, decide_eq_true hnt]; rfl
                        rw [← hnt, put_self hmt] at hm7
                        have HM7 := hide hm7
                        have HST := hide hst7
                        clear hct ht htv hmp hst7 hm7 hg7 hf1 hmt e3 e4 HFi HMk HTn
                        subst hnt
                        generalize bs t.name = nt at *
                        generalize t.no = tn at *
                        go_wp2_with (first
                          | (at_mapUpdate; refine wpList_run_update _ rfl _ _ _ _ rfl _ _ _ _ rfl rfl (by simp [Act.eval]) HST.out ?_)
                          | go_in)
                        go_roundg (all.length - (k + 1))
                        case measure => omega
                        case rel => exact ⟨k + 1, by omega, by go_num, _, HF1, HM7, HT7⟩
                      · have hqn : (((n : Int) + 1) != ((t.terms.length : Int) + 1)) = true := by
                          rw [bne_iff_ne]; omega
                        have HE2 : Hid (wrongP p = (8, j)) := by
                          show _ = _
                          have : fitAll m all = (false, mk) := by
                            rw [HFi.out, hf1]
                            rw [fitOne_some hmt, decide_eq_false hnt]; rfl
                          rw [HWR.out, this]; rfl
                        have PQ := hide ((P5.out.turned HTn.out HMk.out).below' ((Later.refl wr).alloc (.cells #[.bool t.no, .string (bs t.name), .slice ta t.terms.length tc] 54)).below)
                        clear hct ht htv hmp hst7 hm7 hg7 hf1 hmt e3 e4 HFi HMk HTn HT7
                        generalize bs t.name = nt at *
                        generalize t.no = tn at *
                        have HBad := hide (badC 8 j _ (wr.alloc (.cells #[.bool tn, .string nt, .slice ta t.terms.length tc] 54)) PQ.out.i)
                        go_wp2_with fail
                        refine HBad.out.mono ?_
                        rintro e wz ⟨rfl, hLz⟩
                        have Pz := hide (PQ.out.below' hLz.below)
                        have hRz := Pz.out.row
                        have q0 : wz.cell? ⟨w.heap.size, 0, none⟩ = some (.int .i64 0) := by rw [cell_of_row _ _ _ _ _ _ hRz]; rfl
                        have q1 : wz.cell? ⟨w.heap.size, 1, none⟩ = some (.int .i64 0) := by rw [cell_of_row _ _ _ _ _ _ hRz]; rfl
                        have p0 : wz.frozen? ⟨w.heap.size, 0, none⟩ = false := frozen_rowC 0 hRz
                        have p1 : wz.frozen? ⟨w.heap.size, 1, none⟩ = false := frozen_rowC 1 hRz
                        clear hLz HBad hRz
                        go_wp2
                        obtain ⟨r0, r1⟩ := fault_two Pz.out.row (.int .i64 8) (.int .i64 j)
                        refine bodyPost_ret (v := .agg #[.int .i64 8, .int .i64 j]) (by simp [results, Tryz.results35, go_sem, r0, r1]) rfl ⟨ret_fault2 (by rw [HE2.out]) (by rw [HE2.out]), ?_⟩
                        exact (Pz.out.below.setCell (Nat.le_refl _) _).setCell (Nat.le_refl _) _
                  · have e : k = all.length := by omega
                    have HE2 : Hid (wrongP p = wrongGo mk (j + 1) (p.drop (j + 1))) := by
                      show _ = _
                      have : fitAll m all = (true, mk) := by
                        rw [HFi.out, List.drop_eq_nil_of_le (by omega)]; rfl
                      rw [HWR.out, this]; rfl
                    have PQ := hide (P5.out.turned HTn.out HMk.out)
                    have hl6 : w.heap.size + 2 ≤ wr.heap.size := by have := PQ.out.cells.2.2.2.2; have := PQ.out.lo; omega
                    go_wp2
                    go_roundg (p.length - (j + 1))
                    case measure => omega
                    case rel => exact ⟨j + 1, by omega, by go_num, mk, HE2, PQ.out.map.mono (by omega), PQ.out.below, PQ.out.row, hl6⟩
            · have HE2 : Hid (wrongP p = (wrongBody r.body, j)) := by
                show _ = _
                have : wrongRule m r = (wrongBody r.body, m) := by unfold wrongRule; rw [if_pos h1, hno, if_neg h2]; rfl
                rw [HE.out, hst, this, if_neg h2]
              have hq : (wrongBody r.body != 0) = true := by simpa using h2
              clear hst HE h1 h2 hno HSV HSU HLr HK
              generalize wrongBody r.body = eb at *
              generalize bs r.head.name = nm at *
              go_wp2_with fail
              refine HAt.out.mono ?_
              rintro e w2 ⟨rfl, hL2⟩
              rw [← HWA.out] at hL2
              have P2 := hide (PA.out.below' hL2.below)
              obtain ⟨y0, y1, y2, y3, yl⟩ := P2.out.cells
              have H2 := hide (HBd.out w2 P2.out.below)
              clear hL2 HAt HBd
              go_wp2_with fail
              refine H2.out.mono ?_
              rintro e w3 ⟨rfl, hB3⟩
              have P3 := hide (P2.out.below' hB3)
              clear hB3 H2
              have HBad := hide (badC eb j _ w3 P3.out.i)
              go_wp2_with fail
              refine HBad.out.mono ?_
              rintro e wz ⟨rfl, hLz⟩
              have Pz := hide (P3.out.below' hLz.below)
              have hRz := Pz.out.row
              have q0 : wz.cell? ⟨w.heap.size, 0, none⟩ = some (.int .i64 0) := by rw [cell_of_row _ _ _ _ _ _ hRz]; rfl
              have q1 : wz.cell? ⟨w.heap.size, 1, none⟩ = some (.int .i64 0) := by rw [cell_of_row _ _ _ _ _ _ hRz]; rfl
              have p0 : wz.frozen? ⟨w.heap.size, 0, none⟩ = false := frozen_rowC 0 hRz
              have p1 : wz.frozen? ⟨w.heap.size, 1, none⟩ = false := frozen_rowC 1 hRz
              clear hLz HBad hRz
              go_wp2
              obtain ⟨r0, r1⟩ := fault_two Pz.out.row (.int .i64 eb) (.int .i64 j)
              refine bodyPost_ret (v := .agg #[.int .i64 eb, .int .i64 j]) (by simp [results, Tryz.results35, go_sem, r0, r1]) rfl ⟨ret_fault2 (by rw [HE2.out]) (by rw [HE2.out]), ?_⟩
              exact (Pz.out.below.setCell (Nat.le_refl _) _).setCell (Nat.le_refl _) _
          · have HE2 : Hid (wrongP p = (2, j)) := by
              show _ = _
              have : wrongRule m r = (2, m) := by unfold wrongRule; rw [if_pos h1, hno]; rfl
              rw [HE.out, hst, this, if_neg (by show ¬ (2 : Int) = 0; decide)]
            rw [hno] at HAt PA d0 HWA
            clear hst HE h1 hno HSV HSU HLr HK HBd
            generalize bs r.head.name = nm at *
            go_wp2_with fail
            refine HAt.out.mono ?_
            rintro e w2 ⟨rfl, hL2⟩
            rw [← HWA.out] at hL2
            have P2 := hide (PA.out.below' hL2.below)
            obtain ⟨y0, y1, y2, y3, yl⟩ := P2.out.cells
            clear hL2 HAt
            have HBad := hide (badC 2 j _ w2 P2.out.i)
            go_wp2_with fail
            refine HBad.out.mono ?_
            rintro e wz ⟨rfl, hLz⟩
            have Pz := hide (P2.out.below' hLz.below)
            have hRz := Pz.out.row
            have q0 : wz.cell? ⟨w.heap.size, 0, none⟩ = some (.int .i64 0) := by rw [cell_of_row _ _ _ _ _ _ hRz]; rfl
            have q1 : wz.cell? ⟨w.heap.size, 1, none⟩ = some (.int .i64 0) := by rw [cell_of_row _ _ _ _ _ _ hRz]; rfl
            have p0 : wz.frozen? ⟨w.heap.size, 0, none⟩ = false := frozen_rowC 0 hRz
            have p1 : wz.frozen? ⟨w.heap.size, 1, none⟩ = false := frozen_rowC 1 hRz
            clear hLz HBad hRz
            go_wp2
            obtain ⟨r0, r1⟩ := fault_two Pz.out.row (.int .i64 2) (.int .i64 j)
            refine bodyPost_ret (v := .agg #[.int .i64 2, .int .i64 j]) (by simp [results, Tryz.results35, go_sem, r0, r1]) rfl ⟨ret_fault2 (by rw [HE2.out]) (by rw [HE2.out]), ?_⟩
            exact (Pz.out.below.setCell (Nat.le_refl _) _).setCell (Nat.le_refl _) _
        · have HE2 : Hid (wrongP p = (wrongAtom r.head, j)) := by
            show _ = _
            have : wrongRule m r = (wrongAtom r.head, m) := by unfold wrongRule; rw [if_neg h1]
            rw [HE.out, hst, this, if_neg h1]
          have hq : (wrongAtom r.head != 0) = true := by simpa using h1
          clear hst HE h1 HSV HSU HLr HK
          generalize wrongAtom r.head = ex at *
          generalize r.head.no = xn at *
          generalize bs r.head.name = nm at *
          go_wp2_with fail
          refine HAt.out.mono ?_
          rintro e w2 ⟨rfl, hL2⟩
          rw [← HWA.out] at hL2
          have P2 := hide (PA.out.below' hL2.below)
          clear hL2 HAt
          have HBad := hide (badC ex j _ w2 P2.out.i)
          go_wp2_with fail
          refine HBad.out.mono ?_
          rintro e wz ⟨rfl, hLz⟩
          have Pz := hide (P2.out.below' hLz.below)
          have hRz := Pz.out.row
          have q0 : wz.cell? ⟨w.heap.size, 0, none⟩ = some (.int .i64 0) := by rw [cell_of_row _ _ _ _ _ _ hRz]; rfl
          have q1 : wz.cell? ⟨w.heap.size, 1, none⟩ = some (.int .i64 0) := by rw [cell_of_row _ _ _ _ _ _ hRz]; rfl
          have p0 : wz.frozen? ⟨w.heap.size, 0, none⟩ = false := frozen_rowC 0 hRz
          have p1 : wz.frozen? ⟨w.heap.size, 1, none⟩ = false := frozen_rowC 1 hRz
          clear hLz HBad hRz
          go_wp2
          obtain ⟨r0, r1⟩ := fault_two Pz.out.row (.int .i64 ex) (.int .i64 j)
          refine bodyPost_ret (v := .agg #[.int .i64 ex, .int .i64 j]) (by simp [results, Tryz.results35, go_sem, r0, r1]) rfl ⟨ret_fault2 (by rw [HE2.out]) (by rw [HE2.out]), ?_⟩
          exact (Pz.out.below.setCell (Nat.le_refl _) _).setCell (Nat.le_refl _) _
      · have E2 : Hid (wrongP p = (0, 0)) := by show _ = _; rw [HE.out, List.drop_eq_nil_of_le (by omega)]; rfl
        have hR2 := HR.out
        have q0 : wr.cell? ⟨w.heap.size, 0, none⟩ = some (.int .i64 0) := by rw [cell_of_row _ _ _ _ _ _ hR2]; rfl
        have q1 : wr.cell? ⟨w.heap.size, 1, none⟩ = some (.int .i64 0) := by rw [cell_of_row _ _ _ _ _ _ hR2]; rfl
        have p0 : wr.frozen? ⟨w.heap.size, 0, none⟩ = false := frozen_rowC 0 hR2
        have p1 : wr.frozen? ⟨w.heap.size, 1, none⟩ = false := frozen_rowC 1 hR2
        clear hR2
        go_wp2
        obtain ⟨r0, r1⟩ := fault_two HR.out (.int .i64 0) (.int .i64 0)
        refine bodyPost_ret (v := .agg #[.int .i64 0, .int .i64 0]) (by simp [results, Tryz.results35, go_sem, r0, r1]) rfl ⟨ret_fault2 (by rw [E2.out]) (by rw [E2.out]; rfl), ?_⟩
        exact (HB.out.setCell (Nat.le_refl _) _).setCell (Nat.le_refl _) _

end Go.Proofs.YtilkggldmgeagaaGreatDoor
