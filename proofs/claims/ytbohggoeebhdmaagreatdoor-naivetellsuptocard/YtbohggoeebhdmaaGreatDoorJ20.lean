/- Texts of this claim, one behind the other. -/
import Derived.Test.YtbohggoeebhdmaaGreatDoorJ19
import Derived.Defers
import Derived.Recover
import Derived.Test.YtbohggoeebhdmaaGreatDoorJ17
import Derived.Test.YtbohggoeebhdmaaGreatDoorJ13
import Derived.Test.YtbohggoeebhdmaaGreatDoorJ5
import Derived.ProofKit
import Derived.SliceStrings
import Derived.Deep.Slices
import Derived.Deep.Strs
import Derived.Lib.SmallJoins
import Derived.SizedLaws
/- The walks of syntax.read at rules, and of what calls it: a fault that is thrown is caught at the edge. -/
namespace Go.Proofs.YtbohggoeebhdmaaGreatDoor
open Go.RowKit Go.Sort

theorem assertThrown (v : Value) (w : World) : (Instr.typeAssert (.iface 167 v) 20 167 false).run Tryz.prog w = .ok v w := by
  kernel_rfl
theorem fieldThrown (x y : Int) (w : World) : (Instr.field 167 (.agg #[.int .i64 x, .int .i64 y]) 0).run Tryz.prog w = .ok (.agg #[.int .i64 x, .int .i64 y]) w := by
  kernel_rfl

set_option maxRecDepth 100000 in
set_option maxHeartbeats 1000000 in
theorem catchRule (b : Nat) (x y : Int) (u0 u1 : Value) (w : World) (c0 : w.cell? ⟨b, 0, none⟩ = some u0) (c1 : w.cell? ⟨b, 1, none⟩ = some u1) (f0 : w.frozen? ⟨b, 0, none⟩ = false) (f1 : w.frozen? ⟨b, 1, none⟩ = false) :
    CallsD Tryz.prog 123 #[.pointer (some ⟨b, 0, none⟩)] (.panicking [{ v := .iface 167 (.agg #[.int .i64 x, .int .i64 y]), recovered := false }]) w fun e u' w' =>
      e = .returned (.tuple #[]) ∧ u' = .panicking [{ v := .iface 167 (.agg #[.int .i64 x, .int .i64 y]), recovered := true }] ∧ w' = (w.setCell ⟨b, 0, none⟩ (.int .i64 x)).setCell ⟨b, 1, none⟩ (.int .i64 y) := by
  have hta : ∀ (v : Value) (w : World), (Instr.typeAssert (.iface 167 v) 20 167 false).run Tryz.prog w = .ok v w := assertThrown
  have hfl := fieldThrown
  refine callsD_of_wpS Tryz.func123 rfl fun c₀ cs hu => ?_
  apply wpS_seq
  apply wpS_region
  simp [wpOpsS, go_sem, recoverD, hu, Tryz.ntmps123, Exit.thenS]
  refine wpS_of_wp ?_
  go_wp2
  simp [bodyPostS, results, Tryz.results123]

set_option maxRecDepth 100000 in
set_option maxHeartbeats 1000000 in
theorem idleRule (b : Nat) (w : World) :
    CallsD Tryz.prog 123 #[.pointer (some ⟨b, 0, none⟩)] .returning w fun e u' w' => e = .returned (.tuple #[]) ∧ u' = .returning ∧ w' = w := by
  refine callsD_of_wpS Tryz.func123 rfl fun c₀ cs hu => ?_
  apply wpS_seq
  apply wpS_region
  simp [wpOpsS, go_sem, recoverD, hu, Tryz.ntmps123, Exit.thenS]
  refine wpS_of_wp ?_
  go_wp2
  cases c₀
  simp_all [bodyPostS, results, Tryz.results123]

/-- What a call answers beside a fault; where; that. -/
def toldRule (s : Bs) : List RuleD × Int × Nat :=
  if 3000 < s.length then ([], 4, 0) else match rulesGo 16 [] s with
    | .ok out _ => (out, 0, 0)
    | .bad n r => ([], n, s.length - r.length)

set_option maxRecDepth 100000 in
set_option maxHeartbeats 2000000 in
theorem readRule (s : ByteArray) (w : World) (m : Int) (hm : w.cell? ⟨3, 0, none⟩ = some (.int .i64 m)) :
    Calls Tryz.prog 85 #[.string s, .func (.func 86) #[] #[]] w fun e w' => ∃ v, e = .returned (.tuple #[v, .agg #[.int .i64 (toldRule (raw s)).2.1, .int .i64 (toldRule (raw s)).2.2]]) ∧ ruleK.sl (From w.heap.size) w' v (toldRule (raw s)).1 ∧ Below w.heap.size w w' := by
  have hmf : ∀ (fn : Fn) (first cap : Array Value) (w : World), (Instr.makeFunc fn first cap).run Tryz.prog w = .ok (.func fn first cap) w := fun _ _ _ _ => rfl
  by_cases hs : 3000 < s.size
  · have HX : Hid (toldRule (raw s) = ([], 4, 0)) := by show _ = _; unfold toldRule; rw [if_pos (by rw [length_raw]; exact hs)]
    have hs' : (3000 : Int) < s.size := by omega
    go_enter_defers Tryz.func85, Tryz.ntmps85
    go_wp2
    simp only [bodyPostD]
    refine ⟨.tuple #[.slice none 0 0, .agg #[.int .i64 4, .int .i64 0]], by simp [results, Tryz.results85, go_sem], ?_⟩
    exact ⟨_, by rw [HX.out]; rfl, by rw [HX.out]; exact ruleK.sl_nil _ _ _ _, ((Later.refl w).alloc _).below⟩
  · have h0 : 3 < w.heap.size := World.block_lt_of_cell? w _ hm
    have hRd : Rd ((w.alloc (.cells #[.int .i64 0, .int .i64 0] 27)).alloc (.cells #[.string s, .int .i64 0] 171)) (w.heap.size + 1) s (raw s) := by
      have hr : ((w.alloc (.cells #[.int .i64 0, .int .i64 0] 27)).alloc (.cells #[.string s, .int .i64 0] 171)).heap[w.heap.size + 1]? = some (.cells #[.string s, .int .i64 0] 171 (0, 0)) := by
        have := heap_alloc_new (w.alloc (.cells #[.int .i64 0, .int .i64 0] 27)) (.cells #[.string s, .int .i64 0] 171)
        simpa using this
      refine ⟨by omega, List.suffix_refl _, by simp, by omega, by rw [cell_of_row _ _ _ _ _ _ hr]; rfl, ?_, frozen_row hr, m, ?_⟩
      · rw [cell_of_row _ _ _ _ _ _ hr, pos, length_raw, Nat.sub_self]; rfl
      · rw [(((Later.refl w).alloc (.cells #[.int .i64 0, .int .i64 0] 27)).alloc (.cells #[.string s, .int .i64 0] 171)).cell (p := ⟨3, 0, none⟩) h0]; exact hm
    have HC := hide (rulesC _ s _ _ hRd)
    have hs' : ¬ (3000 : Int) < s.size := by omega
    go_enter_defers Tryz.func85, Tryz.ntmps85
    go_wp2_with fail
    refine HC.out.mono ?_
    intro e w1 hE
    have hBB : Below w.heap.size w ((w.alloc (.cells #[.int .i64 0, .int .i64 0] 27)).alloc (.cells #[.string s, .int .i64 0] 171)) := (((Later.refl w).alloc _).alloc _).below
    have hfr : ((w.alloc (.cells #[.int .i64 0, .int .i64 0] 27)).alloc (.cells #[.string s, .int .i64 0] 171)).heap[w.heap.size]? = some (.cells #[.int .i64 0, .int .i64 0] 27 (0, 0)) := by
      rw [Below.heap_alloc _ _ _ (by simp)]; exact heap_alloc_new w _
    have hsz : ((w.alloc (.cells #[.int .i64 0, .int .i64 0] 27)).alloc (.cells #[.string s, .int .i64 0] 171)).heap.size = w.heap.size + 2 := by simp
    rw [hsz] at hE
    generalize (w.alloc (.cells #[.int .i64 0, .int .i64 0] 27)).alloc (.cells #[.string s, .int .i64 0] 171) = wb at *
    obtain ⟨hT, ⟨a, r, v, hx, rfl, hV, hR⟩ | ⟨n, r, hx, rfl, hR⟩⟩ := hE.split
    all_goals
      have hrow := hT.row hfr (b := w.heap.size) (by omega)
      have z0 : w1.cell? ⟨w.heap.size, 0, none⟩ = some (.int .i64 0) := by rw [cell_of_row _ _ _ _ _ _ hrow]; rfl
      have z1 : w1.cell? ⟨w.heap.size, 1, none⟩ = some (.int .i64 0) := by rw [cell_of_row _ _ _ _ _ _ hrow]; rfl
      have f0 := frozen_row (j := 0) hrow
      have f1 := frozen_row (j := 1) hrow
      have hB1 : Below w.heap.size w w1 := ⟨hT.os.trans hBB.os, hT.tape.trans hBB.tape, hT.output.trans hBB.output, by have := hT.size; omega, fun k hk => (hT.block k (by omega) (by omega)).trans (hBB.block k hk)⟩
    · have HX : Hid (toldRule (raw s) = (a, 0, 0)) := by show _ = _; unfold toldRule; rw [if_neg (by rw [length_raw]; exact hs), hx]
      have HV := hide hV
      have HB := hide hB1
      obtain ⟨av, cv, rfl⟩ := Kind.slice hV
      clear hE hT hx hR hBB hfr hRd HC hB1 hV hrow
      go_wp2
      refine leaves_cons (f := 123) (args := #[.pointer (some ⟨w.heap.size, 0, none⟩)]) (by simp) (by simp [go_sem]) ?_
      refine (idleRule _ _).mono ?_
      rintro e u' w'' ⟨rfl, rfl, rfl⟩
      refine ⟨.tuple #[.slice av a.length cv, .agg #[.int .i64 0, .int .i64 0]], by simp [results, Tryz.results85, go_sem, z0, z1], _, by rw [HX.out]; rfl, ?_, ?_⟩
      · rw [HX.out]
        exact Kind.sl_mono (Kind.sl_turned HV.out (((Tn.refl w.heap.size w1).moved _ _).moved _ _) (by omega)) (fun k _ hB => by have : w.heap.size + 2 ≤ k := hB; show w.heap.size ≤ k; omega)
      · exact (HB.out.setCell (Nat.le_refl _) _).setCell (Nat.le_refl _) _
    · have HX : Hid (toldRule (raw s) = ([], n, pos s r)) := by show _ = _; unfold toldRule; rw [if_neg (by rw [length_raw]; exact hs), hx, length_raw]; rfl
      refine leaves_cons (f := 123) (args := #[.pointer (some ⟨w.heap.size, 0, none⟩)]) (by simp) (by simp [go_sem]) ?_
      refine (catchRule _ _ _ _ _ _ z0 z1 f0 f1).mono ?_
      rintro e u' w'' ⟨rfl, rfl, rfl⟩
      refine ⟨.tuple #[.slice none 0 0, .agg #[.int .i64 n, .int .i64 (pos s r)]], by simp [results, Tryz.results85, go_sem, z0, z1], _, by rw [HX.out], ?_, ?_⟩
      · rw [HX.out]; exact ruleK.sl_nil _ _ _ _
      · exact (hB1.setCell (Nat.le_refl _) _).setCell (Nat.le_refl _) _

set_option maxHeartbeats 1000000 in
theorem parseC (s : ByteArray) (w : World) (m : Int) (hm : w.cell? ⟨3, 0, none⟩ = some (.int .i64 m)) :
    Calls Tryz.prog 51 #[.string s] w fun e w' => ∃ v, e = .returned (.tuple #[v, .agg #[.int .i64 (toldRule (raw s)).2.1, .int .i64 (toldRule (raw s)).2.2]]) ∧ ruleK.sl (From w.heap.size) w' v (toldRule (raw s)).1 ∧ Below w.heap.size w w' := by
  have hb0 := World.block_lt_of_cell? w _ hm
  have hA := ((Later.refl w).alloc (.cells #[.int .i64 0, .int .i64 0] 27))
  have HC := hide (readRule s (w.alloc (.cells #[.int .i64 0, .int .i64 0] 27)) m (by rw [hA.cell (p := ⟨3, 0, none⟩) hb0]; exact hm))
  go_enter Tryz.func51, Tryz.ntmps51
  go_wp2_with fail
  refine HC.out.mono ?_
  rintro e w1 ⟨v, rfl, hV, hB⟩
  have hrow : w1.heap[w.heap.size]? = some (.cells #[.int .i64 0, .int .i64 0] 27 (0, 0)) := by
    rw [hB.block _ (by simp)]; exact heap_alloc_new w _
  have z0 : w1.cell? ⟨w.heap.size, 0, none⟩ = some (.int .i64 0) := by rw [cell_of_row _ _ _ _ _ _ hrow]; rfl
  have z1 : w1.cell? ⟨w.heap.size, 1, none⟩ = some (.int .i64 0) := by rw [cell_of_row _ _ _ _ _ _ hrow]; rfl
  have f0 := frozen_row (j := 0) hrow
  have f1 := frozen_row (j := 1) hrow
  have HB : Hid (Below w.heap.size w w1) := ⟨hB.os.trans hA.below.os, hB.tape.trans hA.below.tape, hB.output.trans hA.below.output, by have := hB.size; simp at this; omega, fun k hk => (hB.block k (by simp; omega)).trans (hA.below.block k hk)⟩
  have HV := hide hV
  obtain ⟨av, cv, rfl⟩ := Kind.slice hV
  clear hV hB hA HC hrow hm
  generalize hy : toldRule (raw s) = y at HV ⊢
  have HY := hide hy
  clear hy
  obtain ⟨out, n, k⟩ := y
  dsimp only at HV ⊢
  go_wp2
  refine bodyPost_ret (v := .tuple #[.slice av out.length cv, .agg #[.int .i64 n, .int .i64 k]]) (by simp [results, Tryz.results51, go_sem, z0, z1]) rfl ?_
  refine ⟨.slice av out.length cv, by rw [HY.out], ?_, (HB.out.setCell (Nat.le_refl _) _).setCell (Nat.le_refl _) _⟩
  rw [HY.out]
  exact Kind.sl_mono (Kind.sl_turned HV.out (((Tn.refl w.heap.size w1).moved _ _).moved _ _) (by simp)) (fun k _ hB => by have : (w.alloc _).heap.size ≤ k := hB; simp at this; show w.heap.size ≤ k; omega)

end Go.Proofs.YtbohggoeebhdmaaGreatDoor

/- The walk of chapter 5's statements' closed beginning, alive. -/
namespace Go.Proofs.YtbohggoeebhdmaaGreatDoor
open Go.RowKit Go.Sort

def kb (l : Bs) : ByteArray := ⟨l.toArray⟩
/-- The rules of the closed beginning. -/
def ruls5 : List RuleD :=
  [⟨⟨false, [116], [(true, [88]), (true, [89])]⟩, [⟨false, [101], [(true, [88]), (true, [89])]⟩]⟩,
   ⟨⟨false, [116], [(true, [88]), (true, [90])]⟩, [⟨false, [116], [(true, [88]), (true, [89])]⟩, ⟨false, [101], [(true, [89]), (true, [90])]⟩]⟩,
   ⟨⟨false, [110], [(true, [88])]⟩, [⟨false, [118], [(true, [88])]⟩, ⟨true, [116], [(false, [97]), (true, [88])]⟩]⟩]
def told5 : List FactB := [(kb [101], [kb [97], kb [98]]), (kb [101], [kb [98], kb [99]]), (kb [118], [kb [97]]), (kb [118], [kb [99]])]
def all5 : List FactB := [(kb [101], [kb [97], kb [98]]), (kb [101], [kb [98], kb [99]]), (kb [110], [kb [97]]), (kb [116], [kb [97], kb [98]]), (kb [116], [kb [97], kb [99]]), (kb [116], [kb [98], kb [99]]), (kb [118], [kb [97]]), (kb [118], [kb [99]])]
def txt5 : Bs := [116, 40, 88, 44, 89, 41, 32, 58, 45, 32, 101, 40, 88, 44, 89, 41, 46, 32, 116, 40, 88, 44, 90, 41, 32, 58, 45, 32, 116, 40, 88, 44, 89, 41, 44, 32, 101, 40, 89, 44, 90, 41, 46, 32, 110, 40, 88, 41, 32, 58, 45, 32, 118, 40, 88, 41, 44, 32, 33, 116, 40, 97, 44, 88, 41, 46]

theorem told_txt5 : toldRule txt5 = (ruls5, 0, 0) := by kernel_rfl
theorem strata5 : strataP ruls5 = ([0, 0, 1], 0, 0) := by kernel_rfl
theorem run5 : runI ruls5 [0, 0, 1] 2 0 told5 = (0, all5) := by decide +kernel
theorem up_told5 : Up told5 := by show List.Pairwise _ _; rw [eF_eq]; decide +kernel
theorem up_all5 : Up all5 := by show List.Pairwise _ _; rw [eF_eq]; decide +kernel
theorem right_told5 : ∀ f ∈ told5, wrongF f = 0 := by decide +kernel
theorem fit_told5 : ∀ f ∈ told5, fitF ruls5 f = true := by decide +kernel
theorem good_told5 : GoodS ruls5 told5 := ⟨up_told5, fun f hf => wrongF_right.1 (right_told5 f hf), by decide, fit_told5⟩
theorem count5 : countP [0, 0, 1] = 2 := by decide
theorem allP5 : allP ruls5 told5 = (0, all5) := by
  have e1 : (strataP ruls5).2.1 = 0 := by rw [strata5]
  have e2 : (strataP ruls5).1 = [0, 0, 1] := by rw [strata5]
  have e3 : (factsP ruls5 told5).1 = 0 := by rw [good_facts good_told5]
  unfold allP
  rw [if_neg (fun h => h e1), if_neg (fun h => h e3), e2, count5, runI_eq]
  exact run5

theorem strs1 {w : World} {c : Nat} {a : ByteArray} {t : TypeId} {fr : Nat × Nat} (h : w.heap[c]? = some (.cells #[.string a] t fr)) : Strs w (.slice (some ⟨c, 0, none⟩) 1 1) [a] := by
  refine ⟨by simp, _, 1, rfl, fun _ => ⟨c, 0, rfl, (Array.getElem?_eq_some_iff.1 h).1, fun i hi => ?_⟩⟩
  rw [cell_of_row _ _ _ _ _ _ h]
  simp at hi
  subst hi
  rfl
theorem strs2' {w : World} {c : Nat} {a b : ByteArray} {t : TypeId} {fr : Nat × Nat} (h : w.heap[c]? = some (.cells #[.string a, .string b] t fr)) : Strs w (.slice (some ⟨c, 0, none⟩) 2 2) [a, b] := by
  refine ⟨by simp, _, 2, rfl, fun _ => ⟨c, 0, rfl, (Array.getElem?_eq_some_iff.1 h).1, fun i hi => ?_⟩⟩
  rw [cell_of_row _ _ _ _ _ _ h]
  simp at hi
  have : i = 0 ∨ i = 1 := by omega
  rcases this with rfl | rfl <;> rfl
theorem facts4 {w : World} {c : Nat} {n0 n1 n2 n3 : ByteArray} {s0 s1 s2 s3 : Value} {l0 l1 l2 l3 : List ByteArray} {t : TypeId} {fr : Nat × Nat} (h : w.heap[c]? = some (.cells #[.string n0, s0, .string n1, s1, .string n2, s2, .string n3, s3] t fr)) (h0 : Strs w s0 l0) (h1 : Strs w s1 l1) (h2 : Strs w s2 l2) (h3 : Strs w s3 l3) :
    Facts w (.slice (some ⟨c, 0, none⟩) 4 4) [(n0, l0), (n1, l1), (n2, l2), (n3, l3)] := by
  refine ⟨by simp, _, 4, rfl, fun _ => ⟨c, 0, rfl, (Array.getElem?_eq_some_iff.1 h).1, fun i hi => ?_⟩⟩
  rw [cell_of_row _ _ _ _ _ _ h, cell_of_row _ _ _ _ _ _ h]
  simp at hi
  have : i = 0 ∨ i = 1 ∨ i = 2 ∨ i = 3 := by omega
  rcases this with rfl | rfl | rfl | rfl
  · exact ⟨rfl, s0, rfl, h0⟩
  · exact ⟨rfl, s1, rfl, h1⟩
  · exact ⟨rfl, s2, rfl, h2⟩
  · exact ⟨rfl, s3, rfl, h3⟩

set_option maxRecDepth 100000 in
set_option maxHeartbeats 4000000 in
theorem alive5 (w : World) (m : Int) (hm : w.cell? ⟨3, 0, none⟩ = some (.int .i64 m)) : Calls Tryz.prog 22 #[] w fun e w' => e = .returned (.bool true) ∧ Below w.heap.size w w' := by
  have HP := hide (parseC (bs txt5) w m hm)
  rw [raw_bs, told_txt5] at HP
  clear hm
  go_enter Tryz.func22, Tryz.ntmps22
  go_wp2_with fail
  refine HP.out.mono ?_
  rintro e w1 ⟨v1, rfl, hV1, hB1⟩
  dsimp only at hV1 ⊢
  have HV1 := hide (Kind.sl_any hV1)
  have HB1 := hide hB1
  obtain ⟨va, vc, rfl⟩ := Kind.slice hV1
  clear HP hV1 hB1
  obtain ⟨w2, hw2⟩ : ∃ w2, w2 = (((((w1.alloc (.cells #[.int .i64 0, .int .i64 0] 27)).alloc (.cells #[.string { data := #[97] }, .string { data := #[98] }] 9)).alloc (.cells #[.string { data := #[98] }, .string { data := #[99] }] 9)).alloc (.cells #[.string { data := #[97] }] 9)).alloc (.cells #[.string { data := #[99] }] 9)).alloc (.cells #[.string { data := #[101] }, .slice (some ⟨w1.heap.size + 1, 0, none⟩) 2 2, .string { data := #[101] }, .slice (some ⟨w1.heap.size + 1 + 1, 0, none⟩) 2 2, .string { data := #[118] }, .slice (some ⟨w1.heap.size + 1 + 1 + 1, 0, none⟩) 1 1, .string { data := #[118] }, .slice (some ⟨w1.heap.size + 1 + 1 + 1 + 1, 0, none⟩) 1 1] 54) := ⟨_, rfl⟩
  have hL2 : Later w1 w2 := by rw [hw2]; exact (by repeat (first | exact Later.refl _ | assumption | refine Later.drewN ?_ _ | refine Later.drew ?_ | refine Later.alloc ?_ _ | refine Later.grow ?_ _))
  have r1 : w2.heap[w1.heap.size + 1]? = some (.cells #[.string { data := #[97] }, .string { data := #[98] }] 9 (0, 0)) := by
    rw [hw2]
    simp only [heap_at, World.size_alloc]
    repeat (first | rw [if_pos trivial] | rw [if_pos (by omega)] | rw [if_neg (by omega)])
  have r2 : w2.heap[w1.heap.size + 1 + 1]? = some (.cells #[.string { data := #[98] }, .string { data := #[99] }] 9 (0, 0)) := by
    rw [hw2]
    simp only [heap_at, World.size_alloc]
    repeat (first | rw [if_pos trivial] | rw [if_pos (by omega)] | rw [if_neg (by omega)])
  have r3 : w2.heap[w1.heap.size + 1 + 1 + 1]? = some (.cells #[.string { data := #[97] }] 9 (0, 0)) := by
    rw [hw2]
    simp only [heap_at, World.size_alloc]
    repeat (first | rw [if_pos trivial] | rw [if_pos (by omega)] | rw [if_neg (by omega)])
  have r4 : w2.heap[w1.heap.size + 1 + 1 + 1 + 1]? = some (.cells #[.string { data := #[99] }] 9 (0, 0)) := by
    rw [hw2]
    simp only [heap_at, World.size_alloc]
    repeat (first | rw [if_pos trivial] | rw [if_pos (by omega)] | rw [if_neg (by omega)])
  have r5 : w2.heap[w1.heap.size + 1 + 1 + 1 + 1 + 1]? = some (.cells #[.string { data := #[101] }, .slice (some ⟨w1.heap.size + 1, 0, none⟩) 2 2, .string { data := #[101] }, .slice (some ⟨w1.heap.size + 1 + 1, 0, none⟩) 2 2, .string { data := #[118] }, .slice (some ⟨w1.heap.size + 1 + 1 + 1, 0, none⟩) 1 1, .string { data := #[118] }, .slice (some ⟨w1.heap.size + 1 + 1 + 1 + 1, 0, none⟩) 1 1] 54 (0, 0)) := by
    rw [hw2]
    simp only [heap_at, World.size_alloc]
    repeat (first | rw [if_pos trivial] | rw [if_pos (by omega)] | rw [if_neg (by omega)])
  have hF : Facts w2 (.slice (some ⟨w1.heap.size + 1 + 1 + 1 + 1 + 1, 0, none⟩) 4 4) told5 := facts4 r5 (strs2' r1) (strs2' r2) (strs1 r3) (strs1 r4)
  have HO := hide (ofC _ told5 w2 hF)
  have HB2 := hide (below_trans HB1.out hL2.below HB1.out.size)
  have HV2 := hide (Kind.sl_later HV1.out hL2)
  have HW2 := hide hw2
  clear hL2 r1 r2 r3 r4 r5 hF hw2 HB1 HV1
  go_wp2_with fail
  rw [← HW2.out]
  refine HO.out.mono ?_
  rintro e w3 ⟨v3, s, rfl, hS, hO3, hL3⟩
  have es : s = told5 := by rw [setF_of hS.1 hS.2.1, setF_up_self up_told5]
  subst es
  have hF3 : Facts w3 v3 told5 := hO3.facts (by decide)
  have HB3 := hide (below_trans HB2.out hL3.below HB2.out.size)
  have HA := hide (naiveAllC ruls5 told5 (.slice va ruls5.length vc) v3 w3 (Kind.sl_later HV2.out hL3) hF3)
  rw [allP5] at HA
  obtain ⟨a3, c3, rfl⟩ := sliceFacts hF3
  clear hS hO3 hL3 hF3 HO HW2 HB2 HV2
  go_wp2_with fail
  refine HA.out.mono ?_
  rintro e w4 ⟨v4, er, rfl, ⟨her, _, hT4⟩, hB4⟩
  dsimp only at her hT4
  subst her
  have hF4 := hT4 rfl
  have HF4 := hide hF4
  have HB4 := hide (below_trans HB3.out hB4 HB3.out.size)
  obtain ⟨a4, c4, rfl⟩ := sliceFacts hF4
  have h8 : all5.length = 8 := rfl
  rw [h8] at HF4 ⊢
  obtain ⟨w5, hw5⟩ : ∃ w5, w5 = w4.alloc (.cells #[.string { data := #[97] }] 9) := ⟨_, rfl⟩
  have hL5 : Later w4 w5 := by rw [hw5]; exact (Later.refl _).alloc _
  have r6 : w5.heap[w4.heap.size]? = some (.cells #[.string { data := #[97] }] 9 (0, 0)) := by rw [hw5]; exact heap_alloc_new w4 _
  have hFV : FactV w5 (.agg #[.string { data := #[110] }, .slice (some ⟨w4.heap.size, 0, none⟩) 1 1]) (kb [110], [kb [97]]) := ⟨_, rfl, strs1 r6⟩
  have HI := hide (inC (.slice a4 8 c4) _ all5 (kb [110], [kb [97]]) w5 (HF4.out.later hL5) hFV up_all5)
  rw [in_eq, show inB all5 (kb [110], [kb [97]]) = true by decide +kernel] at HI
  have HL5 := hide hL5
  have HW5 := hide hw5
  clear hT4 hB4 hF4 h8 hw5 hL5 r6 hFV HA HB3
  go_wp2_with fail
  rw [← HW5.out]
  refine HI.out.mono ?_
  rintro e w6 ⟨rfl, hL6⟩
  have HB6 := hide (below_trans HB4.out (HL5.out.trans hL6).below HB4.out.size)
  obtain ⟨w7, hw7⟩ : ∃ w7, w7 = w6.alloc (.cells #[.int .i64 0, .int .i64 1] 3) := ⟨_, rfl⟩
  have hL7 : Later w6 w7 := by rw [hw7]; exact (Later.refl _).alloc _
  have r7 : w7.heap[w6.heap.size]? = some (.cells #[.int .i64 0, .int .i64 1] 3 (0, 0)) := by rw [hw7]; exact heap_alloc_new w6 _
  have hI7 : intK.sl Anyw w7 (.slice (some ⟨w6.heap.size, 0, none⟩) 2 2) [0, 1] := by
    refine ⟨⟨by simp, by simp [lenOk]⟩, _, 2, rfl, fun _ => ⟨w6.heap.size, 0, rfl, trivial, (Array.getElem?_eq_some_iff.1 r7).1, fun i x hx => ⟨_, rfl, fun j u hu => ?_⟩⟩⟩
    rw [cell_of_row _ _ _ _ _ _ r7]
    match i, hx with
    | 0, hx => simp at hx; subst hx; match j, hu with
      | 0, hu => simp at hu; subst hu; rfl
    | 1, hx => simp at hx; subst hx; match j, hu with
      | 0, hu => simp at hu; subst hu; rfl
  have HC := hide (countC [0, 1] _ w7 hI7 (by decide))
  rw [show countP [0, 1] = 2 from rfl] at HC
  have HB7 := hide (below_trans HB6.out hL7.below HB6.out.size)
  have HW7 := hide hw7
  clear hL6 hw7 hL7 r7 hI7 HI HL5 HW5 HB4
  go_wp2_with fail
  rw [← HW7.out]
  refine HC.out.mono ?_
  rintro e w8 ⟨rfl, hL8⟩
  have HB8 := hide (below_trans HB7.out hL8.below HB7.out.size)
  clear hL8 HC HW7
  go_wp2
  go_ret
  exact ⟨rfl, HB8.out⟩

end Go.Proofs.YtbohggoeebhdmaaGreatDoor

/- The walk of NaiveModel. -/
namespace Go.Proofs.YtbohggoeebhdmaaGreatDoor
open Go.RowKit Go.Sort Go.Maps

/-- What All's answer is good for. -/
theorem allP_ok {p : List RuleD} {l M : List FactB} (h : allP p l = (0, M)) : RightP p ∧ GoodS p l ∧ ∃ τ, Sol p τ ∧ (strataP p).1 = p.map (fun r => τ r.head.name) ∧ runGo p (p.map fun r => τ r.head.name) (countP (p.map fun r => τ r.head.name)) 0 l = (0, M) := by
  unfold allP at h
  split at h
  · rename_i h1
    simp at h
    exact absurd h.1 h1
  · rename_i h1
    split at h
    · rename_i h2
      simp at h
      exact absurd h.1 h2
    · rename_i h2
      have e1 : (strataP p).2.1 = 0 := by simpa using h1
      obtain ⟨hw, m, hm, _, _, hs⟩ := strataP_ok (p := p) (l := (strataP p).1) (k := (strataP p).2.2) (by rw [← e1])
      have hm' : (strataP p).1 = p.map (fun r => numOf m r.head.name) := hm
      rw [hm'] at h
      exact ⟨rightP_iff.1 hw, facts_good (by simpa using h2), numOf m, hs, hm', h⟩

theorem all_model {p : List RuleD} {l M : List FactB} (h : allP p l = (0, M)) : RightP p ∧ GoodS p l ∧ GoodS p M ∧ (∀ f ∈ l, f ∈ M) ∧ ∀ r ∈ p, ∀ x, headsP r M = some x → ∀ f ∈ x, f ∈ M := by
  obtain ⟨hp, hl, τ, hτ, _, hr⟩ := allP_ok h
  obtain ⟨h1, h2⟩ := run_model hp hτ hl hr
  exact ⟨hp, hl, (run_way hp hτ hl hr).1, h1, h2⟩

theorem less_none {la lb : List FactB} (h : ∀ f ∈ la, f ∈ lb) : (la.filter fun f => !inFrom lb f 0) = [] := by
  rw [List.filter_eq_nil_iff]
  intro f hf
  rw [in_eq, inB_iff.2 (h f hf)]
  simp

set_option maxRecDepth 100000 in
set_option maxHeartbeats 4000000 in
theorem naiveModelW (pv fv : Value) (p : List RuleD) (l : List FactB) (w : World) (m : Int) (hm : w.cell? ⟨3, 0, none⟩ = some (.int .i64 m)) (hv : ruleK.sl Anyw w pv p) (hf : Facts w fv l) :
    Calls Tryz.prog 4 #[pv, fv] w fun e w' => e = .returned (.bool true) ∧ Below w.heap.size w w' := by
  have HA := hide (alive5 w m hm)
  obtain ⟨pa, pc, rfl⟩ := Kind.slice hv
  obtain ⟨fa, fc, rfl⟩ := sliceFacts hf
  have HV := hide hv
  have HF := hide hf
  clear hv hf hm
  go_enter Tryz.func4, Tryz.ntmps4
  go_wp2_with fail
  refine HA.out.mono ?_
  rintro e w1 ⟨rfl, hB1⟩
  have HB1 := hide hB1
  have HAll := hide (naiveAllC p l (.slice pa p.length pc) (.slice fa l.length fc) w1 (Kind.sl_below HV.out hB1) (HF.out.below hB1))
  obtain ⟨er, M, hAP⟩ : ∃ er M, allP p l = (er, M) := ⟨_, _, rfl⟩
  rw [hAP] at HAll
  have HAP := hide hAP
  clear hB1 HA hAP
  go_wp2_with fail
  refine HAll.out.mono ?_
  rintro e w2 ⟨v2, er', rfl, ⟨her, hT1, hT2⟩, hB2⟩
  dsimp only at her hT1 hT2
  have her' := her.symm
  clear her
  subst her'
  have HB2 := hide (below_trans HB1.out hB2 HB1.out.size)
  clear hB2 HAll HB1
  by_cases h0 : er = 0
  · subst h0
    obtain ⟨hp, hgl, hgM, hsub, hcl⟩ := all_model HAP.out
    have hF2 := hT2 rfl
    have HF2 := hide hF2
    have HLs := hide (lessC (.slice fa l.length fc) v2 l M w2 (HF.out.below HB2.out) hF2 hgM.up)
    rw [less_none hsub] at HLs
    have HSt : Hid (∀ w', Later w2 w' → Calls Tryz.prog 24 #[v2] w' fun e w'' => e = .returned (.agg #[.int .i64 0, .int .i64 0]) ∧ Later w' w'') := fun w' hL => by
      have := setC v2 M w' (hF2.later hL)
      rw [fault_right hgM.up hgM.right hgM.few] at this
      exact this
    obtain ⟨a2, c2, rfl⟩ := sliceFacts hF2
    have HRP := hide hp
    have h16 := hp.few
    have HGM := hide hgM
    have HCl := hide hcl
    clear hT1 hT2 hF2 hp hgl hgM hsub hcl HAP
    go_wp2_with fail
    refine HLs.out.mono ?_
    rintro e w3 ⟨v3, rfl, hO3, hL3⟩
    obtain ⟨a3, c3, rfl⟩ := sliceFacts (hO3.facts (by simp))
    have HL3 := hide hL3
    have HSt3 := hide (HSt.out w3 hL3)
    clear hO3 hL3 HLs HSt
    simp only [List.length_nil]
    go_wp2_with fail
    refine HSt3.out.mono ?_
    rintro e w4 ⟨rfl, hL4⟩
    have HB4 : Hid (Below w.heap.size w w4) := below_trans HB2.out (HL3.out.trans hL4).below HB2.out.size
    have HF4 : Hid (Facts w4 (.slice a2 M.length c2) M) := HF2.out.later (HL3.out.trans hL4)
    clear hL4 HSt3 HL3 HF2 HB2
    have hfe := errOf 0 0
    go_wp2
    clear hfe
    go_loopg [37] p.length (fun g i wr => ∃ j : Nat, j + g = p.length ∧ i = .int .i64 j ∧ Hid (Below w.heap.size w wr) ∧ Hid (Below w4.heap.size w4 wr))
    case atStart => exact ⟨0, by omega, rfl, HB4, Below.refl _ _⟩
    case round =>
      clear HB4
      obtain ⟨j, hj, rfl, HBr, HBr4⟩ := hrel
      by_cases hlt : j < p.length
      · obtain ⟨r, hr⟩ : ∃ x, p[j]? = some x := ⟨_, List.getElem?_eq_getElem hlt⟩
        have hrm : r ∈ p := List.mem_of_getElem? hr
        obtain ⟨b1, o1, _, rfl, hb1, ⟨tv, bv, rfl, htv, hbv⟩, hc⟩ := Kind.sl_at HV.out hr
        have d0 : wr.cell? ⟨b1, o1 + j * 4, none⟩ = some (.bool r.head.no) := by rw [HBr.out.cell (p := ⟨b1, o1 + j * 4, none⟩) hb1]; exact hc 0 _ rfl
        have d1 : wr.cell? ⟨b1, o1 + j * 4 + 1, none⟩ = some (.string (bs r.head.name)) := by rw [HBr.out.cell (p := ⟨b1, o1 + j * 4 + 1, none⟩) hb1]; exact hc 1 _ rfl
        have d2 : wr.cell? ⟨b1, o1 + j * 4 + 2, none⟩ = some tv := by rw [HBr.out.cell (p := ⟨b1, o1 + j * 4 + 2, none⟩) hb1]; exact hc 2 _ rfl
        have d3 : wr.cell? ⟨b1, o1 + j * 4 + 3, none⟩ = some bv := by rw [HBr.out.cell (p := ⟨b1, o1 + j * 4 + 3, none⟩) hb1]; exact hc 3 _ rfl
        obtain ⟨ta, tc, rfl⟩ := Kind.slice htv
        obtain ⟨ba, bc, rfl⟩ := Kind.slice hbv
        obtain ⟨wb, hwb⟩ : ∃ wb, wb = wr.alloc (.cells #[.bool r.head.no, .string (bs r.head.name), .slice ta r.head.terms.length tc, .slice ba r.body.length bc] 43) := ⟨_, rfl⟩
        have hLb : Later wr wb := by rw [hwb]; exact (Later.refl _).alloc _
        have hBb : Below w.heap.size w wb := below_trans HBr.out hLb.below HBr.out.size
        have hBb4 : Below w4.heap.size w4 wb := below_trans HBr4.out hLb.below HBr4.out.size
        have HH := hide (headsC r (.slice ta r.head.terms.length tc) (.slice ba r.body.length bc) (.slice a2 M.length c2) M wb (Kind.sl_below htv hBb) (Kind.sl_below hbv hBb) (HF4.out.below hBb4) (short_right HRP.out HGM.out r hrm))
        have h0 := errW_right HRP.out HGM.out r hrm
        have hclr := HCl.out r hrm
        have HBb := hide hBb
        have HBb4 := hide hBb4
        have HWb := hide hwb
        clear hc hr htv hbv hLb hBb hBb4 hwb hrm
        generalize bs r.head.name = nm at *
        generalize hno : r.head.no = no at *
        clear hno
        go_wp2_with fail
        rw [← HWb.out]
        refine HH.out.mono ?_
        rintro e w5 ⟨v5, er, rfl, hT5, hB5⟩
        unfold HeadsT at hT5
        rw [if_neg (by simp [h0])] at hT5
        have HB5 := hide (below_trans HBb.out hB5 HBb.out.size)
        have HB54 := hide (below_trans HBb4.out hB5 HBb4.out.size)
        clear hB5 HH HWb HBb HBb4 h0
        cases hh : headsP r M with
        | none =>
          rw [hh] at hT5
          obtain ⟨rfl, rfl⟩ := hT5
          clear hh hclr
          go_wp2
          go_ret
          exact ⟨rfl, HB5.out⟩
        | some x =>
          rw [hh] at hT5
          obtain ⟨rfl, hF5⟩ := hT5
          have HLs := hide (lessC v5 (.slice a2 M.length c2) x M w5 hF5 (HF4.out.below HB54.out) HGM.out.up)
          rw [less_none (hclr x hh)] at HLs
          obtain ⟨a5, c5, rfl⟩ := sliceFacts hF5
          clear hh hclr hF5
          go_wp2_with fail
          refine HLs.out.mono ?_
          rintro e w6 ⟨v6, rfl, hO6, hL6⟩
          obtain ⟨a6, c6, rfl⟩ := sliceFacts (hO6.facts (by simp))
          have HB6 := hide (below_trans HB5.out hL6.below HB5.out.size)
          have HB64 := hide (below_trans HB54.out hL6.below HB54.out.size)
          clear hO6 hL6 HLs
          simp only [List.length_nil]
          go_wp2
          go_roundg (p.length - (j + 1))
          case measure => omega
          case rel => exact ⟨j + 1, by omega, by go_num, HB6, HB64⟩
      · go_wp2
        go_ret
        exact ⟨rfl, HBr.out⟩
  · have e2 := hT1 h0
    subst e2
    have hne : (er != 0) = true := by simpa using h0
    clear hT1 hT2 HAP
    go_wp2
    go_ret
    exact ⟨rfl, HB2.out⟩

end Go.Proofs.YtbohggoeebhdmaaGreatDoor

/- Programs among a call's arguments, opened: how they lie in memory, and that no list of theirs is longer than the form's reach, no text longer than Go's. -/
namespace Go.Proofs.YtbohggoeebhdmaaGreatDoor
open Go.RowKit Go.Sort Go.ChangeShapes Go.WideShapes Go.ChangeAt Go.Deep

variable {H : Type} {enc : TypeId × Value → H} {W : World}

theorem ownP : ownKnob Tryz.prog.godebug = none := by kernel_rfl
theorem laidOutP : laidOutB Tryz.prog = true := by kernel_rfl
theorem cellsStrP : Tryz.prog.cellsOf 9 = 1 := by kernel_rfl
theorem addr_plainP {a : Addr} {v : Value} (h : W.cell? (a.add 0) = some v) : ∃ b off, a = ⟨b, off, none⟩ := by
  obtain ⟨b, off, spot⟩ := a
  have hspot : spot = none := by simpa [Addr.add] using World.cell?_spot h
  subst hspot
  exact ⟨b, off, rfl⟩

/-- Each list within reach. -/
def Sized (t : TypeId) (d : DataW H) : Prop := (d.weights Tryz.prog t).all (· ≤ reachBytes) = true
/-- How a type's values are opened. -/
def Opens {α : Type} (enc : TypeId × Value → H) (W : World) (ty : TypeId) (K : Kind α) (ok : α → Prop) : Prop :=
  ∀ n cs x, DataW.trod enc Tryz.prog W 0 (fun _ => true) true n ty cs = some x → Sized ty x.1 → ∃ a, K.is Anyw W cs a ∧ ok a

theorem sized_all {e : TypeId} {l : List (DataW H)} (h : (DataW.weightsAll Tryz.prog e l).all (· ≤ reachBytes) = true) : ∀ d ∈ l, Sized e d := by
  induction l with
  | nil => intro d hd; cases hd
  | cons x r ih =>
    simp only [DataW.weightsAll, List.all_append, Bool.and_eq_true] at h
    intro d hd
    rcases List.mem_cons.1 hd with rfl | hd
    · exact h.1
    · exact ih h.2 d hd

set_option maxRecDepth 100000 in
theorem openSlB {α : Type} {K : Kind α} {T ty : TypeId} {ok : α → Prop} (hT : Tryz.prog.underlying T = some (.slice ty)) (hc : Tryz.prog.cellsOf ty = K.size) (hby : 16 ≤ Tryz.prog.bytesOf ty) (hsz : 0 < K.size) (E : Opens enc W ty K ok)
    {n : Nat} {v : Value} {x : DataW H × List MemPlace} (hf : DataW.trod enc Tryz.prog W 0 (fun _ => true) true n T [v] = some x) (hw : Sized T x.1) : ∃ l, K.sl Anyw W v l ∧ (∀ a ∈ l, ok a) ∧ l.length * Tryz.prog.bytesOf ty ≤ reachBytes := by
  rcases open_slice hT hf with ⟨hcs, _⟩ | ⟨a, len, cap, m, k, D, Pl, hcs, _, hl, hm, hmm, hx, hel⟩
  · simp only [List.cons.injEq, and_true] at hcs
    exact ⟨[], by rw [hcs]; exact K.sl_nil _ _ _ _, fun a ha => (by cases ha), by simp⟩
  · simp only [List.cons.injEq, and_true] at hcs
    simp only [if_true] at hmm
    subst hmm
    rw [hc] at hel
    have hd : x.1 = .slice ((List.range len).map D) ((List.range (m - len)).map fun j => D (len + j)) := by rw [hx]
    have hw2 : (decide ((len + (m - len)) * Tryz.prog.bytesOf ty ≤ reachBytes) && ((DataW.weightsAll Tryz.prog ty ((List.range len).map D)).all (· ≤ reachBytes) && (DataW.weightsAll Tryz.prog ty ((List.range (m - len)).map fun j => D (len + j))).all (· ≤ reachBytes))) = true := by
      have := hw
      unfold Sized at this
      rw [hd, DataW.weights, hT] at this
      simpa using this
    simp only [Bool.and_eq_true] at hw2
    have hlen : len ≤ 8796093022208 := by
      have h1 : (len + (m - len)) * Tryz.prog.bytesOf ty ≤ reachBytes := of_decide_eq_true hw2.1
      have h2 : len * 16 ≤ (len + (m - len)) * Tryz.prog.bytesOf ty := Nat.mul_le_mul (by omega) hby
      unfold reachBytes at h1
      omega
    have each : ∀ i : Fin len, ∃ z : α, ∃ cs', W.cells? 0 (a.add (i.1 * K.size)) K.size = some cs' ∧ K.is Anyw W cs' z ∧ ok z := fun i => by
      obtain ⟨cs', k1, k2⟩ := hel i.1 (by omega)
      obtain ⟨z, hz, hk⟩ := E _ _ _ k2 (sized_all hw2.2.1 _ (List.mem_map.2 ⟨i.1, List.mem_range.2 i.2, rfl⟩))
      exact ⟨z, cs', k1, hz, hk⟩
    refine ⟨List.ofFn fun i => Classical.choose (each i), ⟨⟨by simpa using hlen, ?_⟩, some a, m, by rw [hcs]; simp, fun hne => ?_⟩, fun z hz => ?_, ?_⟩
    · rw [hcs]; show len ≤ m; omega
    rotate_left
    rotate_left
    · have h1 : (len + (m - len)) * Tryz.prog.bytesOf ty ≤ reachBytes := of_decide_eq_true hw2.1
      rw [List.length_ofFn]
      exact Nat.le_trans (Nat.mul_le_mul_right _ (by omega)) h1
    rotate_left
    · rw [List.mem_ofFn] at hz
      obtain ⟨i, rfl⟩ := hz
      obtain ⟨_, _, _, hok⟩ := Classical.choose_spec (each i)
      exact hok
    have h0 : 0 < len := by
      refine Nat.pos_of_ne_zero fun e => hne ?_
      subst e; rfl
    have first : ∀ i : Fin len, ∀ cs', W.cells? 0 (a.add (i.1 * K.size)) K.size = some cs' → ∀ j u, cs'[j]? = some u → W.cell? ((a.add (i.1 * K.size)).add j) = some u := fun i cs' k1 j u hu => by
      obtain ⟨h1, _, hcell⟩ := World.cells?_some k1
      have hj : j < cs'.length := (List.getElem?_eq_some_iff.1 hu).1
      have := hcell j (by omega)
      rw [this]; exact hu
    have hplain : ∃ b off, a = ⟨b, off, none⟩ := by
      obtain ⟨cs', k0, k1, _⟩ := Classical.choose_spec (each ⟨0, h0⟩)
      have hl := K.len k1
      have hu : cs'[0]? = some (cs'[0]'(by omega)) := List.getElem?_eq_getElem (by omega)
      have := first ⟨0, h0⟩ cs' k0 0 _ hu
      exact addr_plainP (W := W) (v := cs'[0]'(by omega)) (by simpa [Addr.add] using this)
    obtain ⟨b, off, rfl⟩ := hplain
    have hlt : b < W.heap.size := by
      obtain ⟨cs', k0, k1, _⟩ := Classical.choose_spec (each ⟨0, h0⟩)
      have hl := K.len k1
      have hu : cs'[0]? = some (cs'[0]'(by omega)) := List.getElem?_eq_getElem (by omega)
      have := first ⟨0, h0⟩ cs' k0 0 _ hu
      rw [Addr.add_lit, Addr.add_lit] at this
      exact World.block_lt_of_cell? W _ this
    refine ⟨b, off, rfl, trivial, hlt, fun i z hi => ?_⟩
    have hi' : i < len := by simpa using (List.getElem?_eq_some_iff.1 hi).1
    rw [List.getElem?_ofFn, dif_pos hi'] at hi
    injection hi with hi
    subst hi
    obtain ⟨cs', k0, k1, _⟩ := Classical.choose_spec (each ⟨i, hi'⟩)
    refine ⟨cs', k1, fun j u hu => ?_⟩
    have := first ⟨i, hi'⟩ cs' k0 j u hu
    rw [Addr.add_lit, Addr.add_lit] at this
    exact this

theorem openSl {α : Type} {K : Kind α} {T ty : TypeId} {ok : α → Prop} (hT : Tryz.prog.underlying T = some (.slice ty)) (hc : Tryz.prog.cellsOf ty = K.size) (hby : 16 ≤ Tryz.prog.bytesOf ty) (hsz : 0 < K.size) (E : Opens enc W ty K ok)
    {n : Nat} {v : Value} {x : DataW H × List MemPlace} (hf : DataW.trod enc Tryz.prog W 0 (fun _ => true) true n T [v] = some x) (hw : Sized T x.1) : ∃ l, K.sl Anyw W v l ∧ ∀ a ∈ l, ok a := by
  obtain ⟨l, h1, h2, _⟩ := openSlB hT hc hby hsz E hf hw
  exact ⟨l, h1, h2⟩

/-- No text is longer than Go's. -/
def okT (t : TermD) : Prop := t.2.length ≤ maxLen
def okA (a : AtomD) : Prop := a.name.length ≤ maxLen ∧ ∀ t ∈ a.terms, okT t
def okR (r : RuleD) : Prop := okA r.head ∧ ∀ a ∈ r.body, okA a

theorem cellsTerm : Tryz.prog.cellsOf 101 = 2 := by kernel_rfl
theorem cellsTerms : Tryz.prog.cellsOf 38 = 1 := by kernel_rfl
theorem cellsAtom : Tryz.prog.cellsOf 40 = 3 := by kernel_rfl
theorem cellsAtoms : Tryz.prog.cellsOf 41 = 1 := by kernel_rfl
theorem cellsBool : Tryz.prog.cellsOf 4 = 1 := by kernel_rfl
theorem bytesTerm : Tryz.prog.bytesOf 101 = 24 := by kernel_rfl
theorem bytesAtom : Tryz.prog.bytesOf 40 = 48 := by kernel_rfl

theorem cellsRule : Tryz.prog.cellsOf 43 = 4 := by kernel_rfl
theorem bytesRule : Tryz.prog.bytesOf 43 = 72 := by kernel_rfl

set_option maxRecDepth 100000 in
theorem opensTerm : Opens enc W 101 termK okT := by
  intro n cs x h _
  obtain ⟨y0, y1, m, hx, hl, h0, h1⟩ := trod_struct2 Tryz.underlying101 h
  rw [cellsTerm] at hl
  match cs, hl with
  | [c0, c1], _ =>
    have e0 : Tryz.prog.cellsOf 4 = 1 := cellsBool
    have e1 : Tryz.prog.cellsOf 9 = 1 := cellsStrP
    simp only [e0, e1, List.drop_zero, List.drop_succ_cons, List.take_succ_cons, List.take_zero] at h0 h1
    obtain ⟨b, hb, _⟩ := DataW.trod_bool Tryz.underlying4 h0
    obtain ⟨s, hs, _, hsz⟩ := DataW.trod_string Tryz.underlying9 h1
    simp only [List.cons.injEq, and_true] at hb hs
    exact ⟨(b, raw s), by show [c0, c1] = _; rw [hb, hs, bs_raw], by show (raw s).length ≤ _; rw [length_raw]; exact hsz⟩

set_option maxRecDepth 100000 in
theorem opensAtom : Opens enc W 40 atomK okA := by
  intro n cs x h hw
  obtain ⟨y0, y1, y2, m, hx, hl, h0, h1, h2⟩ := trod_struct3 Tryz.underlying40 h
  rw [cellsAtom] at hl
  match cs, hl with
  | [c0, c1, c2], _ =>
    have e0 : Tryz.prog.cellsOf 4 = 1 := cellsBool
    have e1 : Tryz.prog.cellsOf 9 = 1 := cellsStrP
    have e2 : Tryz.prog.cellsOf 38 = 1 := cellsTerms
    simp only [e0, e1, e2, List.drop_zero, List.drop_succ_cons, List.take_succ_cons, List.take_zero] at h0 h1 h2
    obtain ⟨b, hb, _⟩ := DataW.trod_bool Tryz.underlying4 h0
    obtain ⟨s, hs, _, hsz⟩ := DataW.trod_string Tryz.underlying9 h1
    simp only [List.cons.injEq, and_true] at hb hs
    have hw2 : Sized 38 y2.1 := by
      unfold Sized at hw ⊢
      rw [hx, DataW.weights, Tryz.underlying40] at hw
      simp only [List.map_cons, List.map_nil, DataW.weightsEach, List.all_append, Bool.and_eq_true] at hw
      exact hw.2.2.1
    obtain ⟨l, hl, hlk⟩ := openSl Tryz.underlying38 cellsTerm (by rw [bytesTerm]; decide) (by decide) opensTerm h2 hw2
    exact ⟨⟨b, raw s, l⟩, ⟨c2, by show [c0, c1, c2] = _; rw [hb, hs, bs_raw], hl⟩, by show (raw s).length ≤ _; rw [length_raw]; exact hsz, hlk⟩

set_option maxRecDepth 100000 in
theorem opensRule : Opens enc W 43 ruleK okR := by
  intro n cs x h hw
  obtain ⟨y0, y1, m, hx, hl, h0, h1⟩ := trod_struct2 Tryz.underlying43 h
  rw [cellsRule] at hl
  match cs, hl with
  | [c0, c1, c2, c3], _ =>
    have e0 : Tryz.prog.cellsOf 40 = 3 := cellsAtom
    have e1 : Tryz.prog.cellsOf 41 = 1 := cellsAtoms
    simp only [e0, e1, List.drop_zero, List.drop_succ_cons, List.take_succ_cons, List.take_zero] at h0 h1
    have hws : Sized 40 y0.1 ∧ Sized 41 y1.1 := by
      unfold Sized at hw ⊢
      rw [hx, DataW.weights, Tryz.underlying43] at hw
      simp only [List.map_cons, List.map_nil, DataW.weightsEach, List.all_append, Bool.and_eq_true] at hw
      exact ⟨hw.1, hw.2.1⟩
    obtain ⟨a, ⟨v, ev, hv⟩, hak⟩ := opensAtom _ _ _ h0 hws.1
    obtain ⟨l, hl, hlk⟩ := openSl Tryz.underlying41 cellsAtom (by rw [bytesAtom]; decide) (by decide) opensAtom h1 hws.2
    simp only [List.cons.injEq, and_true] at ev
    exact ⟨⟨a, l⟩, ⟨v, c3, by show [c0, c1, c2, c3] = _; rw [ev.1, ev.2.1, ev.2.2], hv, hl⟩, hak, hlk⟩

set_option maxRecDepth 100000 in
theorem openRules {b0 : Nat} {v : Value} {d : DataW H} {p : List MemPlace} (hv : Value.okWide Tryz.prog W .any b0 23 v) (h : DataW.Trod enc Tryz.prog W 0 (fun _ => true) true 23 v d p) (hw : Sized 23 d) : ∃ l, ruleK.sl Anyw W v l ∧ ∀ r ∈ l, okR r := by
  obtain ⟨a0, len0, cap0, rfl⟩ := okWide_slice Tryz.underlying23 hv
  obtain ⟨fuel, hf⟩ := h
  exact openSl Tryz.underlying23 cellsRule (by rw [bytesRule]; decide) (by decide) opensRule (x := (d, p)) (by simpa [Value.cells] using hf) hw

/-- What the form's reach says of an argument. -/
theorem sized_at {ts : List TypeId} {ds : List (DataW H)} (h : (DataW.weightsEach Tryz.prog ts ds).all (· ≤ reachBytes) = true) {j : Nat} {t : TypeId} {d : DataW H} (ht : ts[j]? = some t) (hd : ds[j]? = some d) : Sized t d :=
  List.all_eq_true.2 fun k hk => List.all_eq_true.1 h _ (DataW.weights_mem_each ht hd k hk)

end Go.Proofs.YtbohggoeebhdmaaGreatDoor
