/- Texts of this claim, one behind the other. -/
import Derived.Test.YtlchjoclipdgbaaGreatDoorJ19
import Derived.Defers
import Derived.Recover
import Derived.Test.YtlchjoclipdgbaaGreatDoorJ17
import Derived.Test.YtlchjoclipdgbaaGreatDoorJ13
import Derived.Lib.SlBytesRow
/- The walks of syntax.read at rules, and of what calls it: a fault that is thrown is caught at the edge. -/
namespace Go.Proofs.YtlchjoclipdgbaaGreatDoor
open Go.RowKit Go.Sort

theorem assertThrown (v : Value) (w : World) : (Instr.typeAssert (.iface 63 v) 20 63 false).run Tryz.prog w = .ok v w := by
  kernel_rfl
theorem fieldThrown (x y : Int) (w : World) : (Instr.field 63 (.agg #[.int .i64 x, .int .i64 y]) 0).run Tryz.prog w = .ok (.agg #[.int .i64 x, .int .i64 y]) w := by
  kernel_rfl

set_option maxRecDepth 100000 in
set_option maxHeartbeats 1000000 in
theorem catchRule (b : Nat) (x y : Int) (u0 u1 : Value) (w : World) (c0 : w.cell? ⟨b, 0, none⟩ = some u0) (c1 : w.cell? ⟨b, 1, none⟩ = some u1) (f0 : w.frozen? ⟨b, 0, none⟩ = false) (f1 : w.frozen? ⟨b, 1, none⟩ = false) :
    CallsD Tryz.prog 19 #[.pointer (some ⟨b, 0, none⟩)] (.panicking [{ v := .iface 63 (.agg #[.int .i64 x, .int .i64 y]), recovered := false }]) w fun e u' w' =>
      e = .returned (.tuple #[]) ∧ u' = .panicking [{ v := .iface 63 (.agg #[.int .i64 x, .int .i64 y]), recovered := true }] ∧ w' = (w.setCell ⟨b, 0, none⟩ (.int .i64 x)).setCell ⟨b, 1, none⟩ (.int .i64 y) := by
  have hta : ∀ (v : Value) (w : World), (Instr.typeAssert (.iface 63 v) 20 63 false).run Tryz.prog w = .ok v w := assertThrown
  have hfl := fieldThrown
  refine callsD_of_wpS Tryz.func19 rfl fun c₀ cs hu => ?_
  apply wpS_seq
  apply wpS_region
  simp [wpOpsS, go_sem, recoverD, hu, Tryz.ntmps19, Exit.thenS]
  refine wpS_of_wp ?_
  go_wp2
  simp [bodyPostS, results, Tryz.results19]

set_option maxRecDepth 100000 in
set_option maxHeartbeats 1000000 in
theorem idleRule (b : Nat) (w : World) :
    CallsD Tryz.prog 19 #[.pointer (some ⟨b, 0, none⟩)] .returning w fun e u' w' => e = .returned (.tuple #[]) ∧ u' = .returning ∧ w' = w := by
  refine callsD_of_wpS Tryz.func19 rfl fun c₀ cs hu => ?_
  apply wpS_seq
  apply wpS_region
  simp [wpOpsS, go_sem, recoverD, hu, Tryz.ntmps19, Exit.thenS]
  refine wpS_of_wp ?_
  go_wp2
  cases c₀
  simp_all [bodyPostS, results, Tryz.results19]

/-- What a call answers beside a fault; where; that. -/
def toldRule (s : Bs) : List RuleD × Int × Nat :=
  if 3000 < s.length then ([], 4, 0) else match rulesGo 16 [] s with
    | .ok out _ => (out, 0, 0)
    | .bad n r => ([], n, s.length - r.length)

set_option maxRecDepth 100000 in
set_option maxHeartbeats 2000000 in
theorem readRule (s : ByteArray) (w : World) (m : Int) (hm : w.cell? ⟨0, 0, none⟩ = some (.int .i64 m)) :
    Calls Tryz.prog 11 #[.string s, .func (.func 12) #[] #[]] w fun e w' => ∃ v, e = .returned (.tuple #[v, .agg #[.int .i64 (toldRule (raw s)).2.1, .int .i64 (toldRule (raw s)).2.2]]) ∧ ruleK.sl (From w.heap.size) w' v (toldRule (raw s)).1 ∧ Below w.heap.size w w' := by
  have hmf : ∀ (fn : Fn) (first cap : Array Value) (w : World), (Instr.makeFunc fn first cap).run Tryz.prog w = .ok (.func fn first cap) w := fun _ _ _ _ => rfl
  by_cases hs : 3000 < s.size
  · have HX : Hid (toldRule (raw s) = ([], 4, 0)) := by show _ = _; unfold toldRule; rw [if_pos (by rw [length_raw]; exact hs)]
    have hs' : (3000 : Int) < s.size := by omega
    go_enter_defers Tryz.func11, Tryz.ntmps11
    go_wp2
    simp only [bodyPostD]
    refine ⟨.tuple #[.slice none 0 0, .agg #[.int .i64 4, .int .i64 0]], by simp [results, Tryz.results11, go_sem], ?_⟩
    exact ⟨_, by rw [HX.out]; rfl, by rw [HX.out]; exact ruleK.sl_nil _ _ _ _, ((Later.refl w).alloc _).below⟩
  · have h0 : 0 < w.heap.size := World.block_lt_of_cell? w _ hm
    have hRd : Rd ((w.alloc (.cells #[.int .i64 0, .int .i64 0] 29)).alloc (.cells #[.string s, .int .i64 0] 67)) (w.heap.size + 1) s (raw s) := by
      have hr : ((w.alloc (.cells #[.int .i64 0, .int .i64 0] 29)).alloc (.cells #[.string s, .int .i64 0] 67)).heap[w.heap.size + 1]? = some (.cells #[.string s, .int .i64 0] 67 (0, 0)) := by
        have := heap_alloc_new (w.alloc (.cells #[.int .i64 0, .int .i64 0] 29)) (.cells #[.string s, .int .i64 0] 67)
        simpa using this
      refine ⟨by omega, List.suffix_refl _, by simp, by omega, by rw [cell_of_row _ _ _ _ _ _ hr]; rfl, ?_, frozen_row hr, m, ?_⟩
      · rw [cell_of_row _ _ _ _ _ _ hr, pos, length_raw, Nat.sub_self]; rfl
      · rw [(((Later.refl w).alloc (.cells #[.int .i64 0, .int .i64 0] 29)).alloc (.cells #[.string s, .int .i64 0] 67)).cell (p := ⟨0, 0, none⟩) h0]; exact hm
    have HC := hide (rulesC _ s _ _ hRd)
    have hs' : ¬ (3000 : Int) < s.size := by omega
    go_enter_defers Tryz.func11, Tryz.ntmps11
    go_wp2_with fail
    refine HC.out.mono ?_
    intro e w1 hE
    have hBB : Below w.heap.size w ((w.alloc (.cells #[.int .i64 0, .int .i64 0] 29)).alloc (.cells #[.string s, .int .i64 0] 67)) := (((Later.refl w).alloc _).alloc _).below
    have hfr : ((w.alloc (.cells #[.int .i64 0, .int .i64 0] 29)).alloc (.cells #[.string s, .int .i64 0] 67)).heap[w.heap.size]? = some (.cells #[.int .i64 0, .int .i64 0] 29 (0, 0)) := by
      rw [Below.heap_alloc _ _ _ (by simp)]; exact heap_alloc_new w _
    have hsz : ((w.alloc (.cells #[.int .i64 0, .int .i64 0] 29)).alloc (.cells #[.string s, .int .i64 0] 67)).heap.size = w.heap.size + 2 := by simp
    rw [hsz] at hE
    generalize (w.alloc (.cells #[.int .i64 0, .int .i64 0] 29)).alloc (.cells #[.string s, .int .i64 0] 67) = wb at *
    obtain ⟨hT, ⟨a, r, v, hx, rfl, hV, hR⟩ | ⟨n, r, hx, rfl, hR⟩⟩ := hE.split
    all_goals
      have hrow := hT.row hfr (b := w.heap.size) (by omega)
      have z0 : w1.cell? ⟨w.heap.size, 0, none⟩ = some (.int .i64 0) := by rw [cell_of_row _ _ _ _ _ _ hrow]; rfl
      have z1 : w1.cell? ⟨w.heap.size, 1, none⟩ = some (.int .i64 0) := by rw [cell_of_row _ _ _ _ _ _ hrow]; rfl
      have f0 := frozen_row (j := 0) hrow
      have f1 := frozen_row (j := 1) hrow
      have hB1 : Below w.heap.size w w1 := ⟨hT.os.trans hBB.os, hT.tape.trans hBB.tape, hT.output.trans hBB.output, by have := hT.size; omega, fun k hk => (hT.block k (by omega) (by omega)).trans (hBB.block k hk)⟩
    · have HX : Hid (toldRule (raw s) = (a, 0, 0)) := by show _ = _; unfold toldRule; rw [if_neg (by rw [length_raw]; exact hs), hx]
      have HV := hide hV
      have HB := hide hB1
      obtain ⟨av, cv, rfl⟩ := Kind.slice hV
      clear hE hT hx hR hBB hfr hRd HC hB1 hV hrow
      go_wp2
      refine leaves_cons (f := 19) (args := #[.pointer (some ⟨w.heap.size, 0, none⟩)]) (by simp) (by simp [go_sem]) ?_
      refine (idleRule _ _).mono ?_
      rintro e u' w'' ⟨rfl, rfl, rfl⟩
      refine ⟨.tuple #[.slice av a.length cv, .agg #[.int .i64 0, .int .i64 0]], by simp [results, Tryz.results11, go_sem, z0, z1], _, by rw [HX.out]; rfl, ?_, ?_⟩
      · rw [HX.out]
        exact Kind.sl_mono (Kind.sl_turned HV.out (((Tn.refl w.heap.size w1).moved _ _).moved _ _) (by omega)) (fun k _ hB => by have : w.heap.size + 2 ≤ k := hB; show w.heap.size ≤ k; omega)
      · exact (HB.out.setCell (Nat.le_refl _) _).setCell (Nat.le_refl _) _
    · have HX : Hid (toldRule (raw s) = ([], n, pos s r)) := by show _ = _; unfold toldRule; rw [if_neg (by rw [length_raw]; exact hs), hx, length_raw]; rfl
      refine leaves_cons (f := 19) (args := #[.pointer (some ⟨w.heap.size, 0, none⟩)]) (by simp) (by simp [go_sem]) ?_
      refine (catchRule _ _ _ _ _ _ z0 z1 f0 f1).mono ?_
      rintro e u' w'' ⟨rfl, rfl, rfl⟩
      refine ⟨.tuple #[.slice none 0 0, .agg #[.int .i64 n, .int .i64 (pos s r)]], by simp [results, Tryz.results11, go_sem, z0, z1], _, by rw [HX.out], ?_, ?_⟩
      · rw [HX.out]; exact ruleK.sl_nil _ _ _ _
      · exact (hB1.setCell (Nat.le_refl _) _).setCell (Nat.le_refl _) _

set_option maxHeartbeats 1000000 in
theorem parseC (s : ByteArray) (w : World) (m : Int) (hm : w.cell? ⟨0, 0, none⟩ = some (.int .i64 m)) :
    Calls Tryz.prog 6 #[.string s] w fun e w' => ∃ v, e = .returned (.tuple #[v, .agg #[.int .i64 (toldRule (raw s)).2.1, .int .i64 (toldRule (raw s)).2.2]]) ∧ ruleK.sl (From w.heap.size) w' v (toldRule (raw s)).1 ∧ Below w.heap.size w w' := by
  have hb0 := World.block_lt_of_cell? w _ hm
  have hA := ((Later.refl w).alloc (.cells #[.int .i64 0, .int .i64 0] 29))
  have HC := hide (readRule s (w.alloc (.cells #[.int .i64 0, .int .i64 0] 29)) m (by rw [hA.cell (p := ⟨0, 0, none⟩) hb0]; exact hm))
  go_enter Tryz.func6, Tryz.ntmps6
  go_wp2_with fail
  refine HC.out.mono ?_
  rintro e w1 ⟨v, rfl, hV, hB⟩
  have hrow : w1.heap[w.heap.size]? = some (.cells #[.int .i64 0, .int .i64 0] 29 (0, 0)) := by
    rw [hB.block _ (by simp)]; exact heap_alloc_new w _
  have z0 : w1.cell? ⟨w.heap.size, 0, none⟩ = some (.int .i64 0) := by rw [cell_of_row _ _ _ _ _ _ hrow]; rfl
  have z1 : w1.cell? ⟨w.heap.size, 1, none⟩ = some (.int .i64 0) := by rw [cell_of_row _ _ _ _ _ _ hrow]; rfl
  have f0 := frozen_row (j := 0) hrow
  have f1 := frozen_row (j := 1) hrow
  have HB : Hid (Below w.heap.size w w1) := ⟨hB.os.trans hA.below.os, hB.tape.trans hA.below.tape, hB.output.trans hA.below.output, by have := hB.size; simp at this; omega, fun k hk => (hB.block k (by simp; omega)).trans (hA.below.block k hk)⟩
  have HV := hide hV
  obtain ⟨av, cv, rfl⟩ := Kind.slice hV
  clear hV hB hA HC hrow hm
  generalize hy : toldRule (raw s) = y at HV ⊢
  have HY := hide hy
  clear hy
  obtain ⟨out, n, k⟩ := y
  dsimp only at HV ⊢
  go_wp2
  refine bodyPost_ret (v := .tuple #[.slice av out.length cv, .agg #[.int .i64 n, .int .i64 k]]) (by simp [results, Tryz.results6, go_sem, z0, z1]) rfl ?_
  refine ⟨.slice av out.length cv, by rw [HY.out], ?_, (HB.out.setCell (Nat.le_refl _) _).setCell (Nat.le_refl _) _⟩
  rw [HY.out]
  exact Kind.sl_mono (Kind.sl_turned HV.out (((Tn.refl w.heap.size w1).moved _ _).moved _ _) (by simp)) (fun k _ hB => by have : (w.alloc _).heap.size ≤ k := hB; simp at this; show w.heap.size ≤ k; omega)

end Go.Proofs.YtlchjoclipdgbaaGreatDoor

/- The walk of chapter 5's statements' closed beginning, alive. -/
namespace Go.Proofs.YtlchjoclipdgbaaGreatDoor
open Go.RowKit Go.Sort

def kb (l : Bs) : ByteArray := ⟨l.toArray⟩
/-- The rules of the closed beginning. -/
def ruls5 : List RuleD :=
  [⟨⟨false, [116], [(true, [88]), (true, [89])]⟩, [⟨false, [101], [(true, [88]), (true, [89])]⟩]⟩,
   ⟨⟨false, [116], [(true, [88]), (true, [90])]⟩, [⟨false, [116], [(true, [88]), (true, [89])]⟩, ⟨false, [101], [(true, [89]), (true, [90])]⟩]⟩,
   ⟨⟨false, [110], [(true, [88])]⟩, [⟨false, [118], [(true, [88])]⟩, ⟨true, [116], [(false, [97]), (true, [88])]⟩]⟩]
def told5 : List FactB := [(kb [101], [kb [97], kb [98]]), (kb [101], [kb [98], kb [99]]), (kb [118], [kb [97]]), (kb [118], [kb [99]])]
def all5 : List FactB := [(kb [101], [kb [97], kb [98]]), (kb [101], [kb [98], kb [99]]), (kb [110], [kb [97]]), (kb [116], [kb [97], kb [98]]), (kb [116], [kb [97], kb [99]]), (kb [116], [kb [98], kb [99]]), (kb [118], [kb [97]]), (kb [118], [kb [99]])]
def txt5 : Bs := [116, 40, 88, 44, 89, 41, 32, 58, 45, 32, 101, 40, 88, 44, 89, 41, 46, 32, 116, 40, 88, 44, 90, 41, 32, 58, 45, 32, 116, 40, 88, 44, 89, 41, 44, 32, 101, 40, 89, 44, 90, 41, 46, 32, 110, 40, 88, 41, 32, 58, 45, 32, 118, 40, 88, 41, 44, 32, 33, 116, 40, 97, 44, 88, 41, 46]

theorem told_txt5 : toldRule txt5 = (ruls5, 0, 0) := by kernel_rfl
theorem strata5 : strataP ruls5 = ([0, 0, 1], 0, 0) := by kernel_rfl
theorem run5 : runI ruls5 [0, 0, 1] 2 0 told5 = (0, all5) := by decide +kernel
theorem up_told5 : Up told5 := by show List.Pairwise _ _; rw [eF_eq]; decide +kernel
theorem up_all5 : Up all5 := by show List.Pairwise _ _; rw [eF_eq]; decide +kernel
theorem right_told5 : ∀ f ∈ told5, wrongF f = 0 := by decide +kernel
theorem fit_told5 : ∀ f ∈ told5, fitF ruls5 f = true := by decide +kernel
theorem good_told5 : GoodS ruls5 told5 := ⟨up_told5, fun f hf => wrongF_right.1 (right_told5 f hf), by decide, fit_told5⟩
theorem count5 : countP [0, 0, 1] = 2 := by decide
theorem allP5 : allP ruls5 told5 = (0, all5) := by
  have e1 : (strataP ruls5).2.1 = 0 := by rw [strata5]
  have e2 : (strataP ruls5).1 = [0, 0, 1] := by rw [strata5]
  have e3 : (factsP ruls5 told5).1 = 0 := by rw [good_facts good_told5]
  unfold allP
  rw [if_neg (fun h => h e1), if_neg (fun h => h e3), e2, count5, runI_eq]
  exact run5

theorem strs1 {w : World} {c : Nat} {a : ByteArray} {t : TypeId} {fr : Nat × Nat} (h : w.heap[c]? = some (.cells #[.string a] t fr)) : Strs w (.slice (some ⟨c, 0, none⟩) 1 1) [a] := by
  refine ⟨by simp, _, 1, rfl, fun _ => ⟨c, 0, rfl, (Array.getElem?_eq_some_iff.1 h).1, fun i hi => ?_⟩⟩
  rw [cell_of_row _ _ _ _ _ _ h]
  simp at hi
  subst hi
  rfl
theorem strs2' {w : World} {c : Nat} {a b : ByteArray} {t : TypeId} {fr : Nat × Nat} (h : w.heap[c]? = some (.cells #[.string a, .string b] t fr)) : Strs w (.slice (some ⟨c, 0, none⟩) 2 2) [a, b] := by
  refine ⟨by simp, _, 2, rfl, fun _ => ⟨c, 0, rfl, (Array.getElem?_eq_some_iff.1 h).1, fun i hi => ?_⟩⟩
  rw [cell_of_row _ _ _ _ _ _ h]
  simp at hi
  have : i = 0 ∨ i = 1 := by omega
  rcases this with rfl | rfl <;> rfl
theorem facts4 {w : World} {c : Nat} {n0 n1 n2 n3 : ByteArray} {s0 s1 s2 s3 : Value} {l0 l1 l2 l3 : List ByteArray} {t : TypeId} {fr : Nat × Nat} (h : w.heap[c]? = some (.cells #[.string n0, s0, .string n1, s1, .string n2, s2, .string n3, s3] t fr)) (h0 : Strs w s0 l0) (h1 : Strs w s1 l1) (h2 : Strs w s2 l2) (h3 : Strs w s3 l3) :
    Facts w (.slice (some ⟨c, 0, none⟩) 4 4) [(n0, l0), (n1, l1), (n2, l2), (n3, l3)] := by
  refine ⟨by simp, _, 4, rfl, fun _ => ⟨c, 0, rfl, (Array.getElem?_eq_some_iff.1 h).1, fun i hi => ?_⟩⟩
  rw [cell_of_row _ _ _ _ _ _ h, cell_of_row _ _ _ _ _ _ h]
  simp at hi
  have : i = 0 ∨ i = 1 ∨ i = 2 ∨ i = 3 := by omega
  rcases this with rfl | rfl | rfl | rfl
  · exact ⟨rfl, s0, rfl, h0⟩
  · exact ⟨rfl, s1, rfl, h1⟩
  · exact ⟨rfl, s2, rfl, h2⟩
  · exact ⟨rfl, s3, rfl, h3⟩

end Go.Proofs.YtlchjoclipdgbaaGreatDoor

/- The text of rules that hang on one another in a circle, and what is told of it. Nothing of the program. -/
namespace Go.Proofs.YtlchjoclipdgbaaGreatDoor
open Go.RowKit Go.Sort

/-- A town's name. -/
def nmL (i : Nat) : Bs := [116, UInt8.ofNat (97 + i)]

/-- The text of one rule of the circle. -/
def circR (n i : Nat) (b : Bool) : Bs := nmL i ++ [32, 58, 45, 32] ++ (if b then 33 :: nmL ((i + 1) % n) else nmL ((i + 1) % n)) ++ [46]
/-- The text of the circle's rules, from number i on. -/
def circT (n : Nat) : Nat → List Bool → Bs
  | _, [] => []
  | i, b :: l => circR n i b ++ circT n (i + 1) l

theorem circT_append (n : Nat) : ∀ (l : List Bool) (i : Nat) (b : Bool), circT n i (l ++ [b]) = circT n i l ++ circR n (i + l.length) b
  | [], i, b => by simp [circT]
  | a :: l, i, b => by
    rw [List.cons_append]
    simp only [circT, circT_append n l (i + 1) b, List.length_cons, List.append_assoc]
    rw [show i + 1 + l.length = i + (l.length + 1) by omega]

/-- What is told of the circle is as it should be. -/
def circOk (b : List Bool) : Bool :=
  let t := toldRule (circT b.length 0 b)
  decide (t.2.1 = 0) && (let s := strataP t.1
    if b.any id then decide (s.2.1 = 10) else decide (s.2.1 = 0) && decide ((runI t.1 s.1 (countP s.1) 0 []).1 = 0))

def boolLists : Nat → List (List Bool)
  | 0 => [[]]
  | n + 1 => (boolLists n).flatMap fun l => [false :: l, true :: l]
theorem mem_boolLists : ∀ (b : List Bool), b ∈ boolLists b.length
  | [] => by simp [boolLists]
  | x :: b => by
    show _ ∈ (boolLists b.length).flatMap _
    refine List.mem_flatMap.2 ⟨b, mem_boolLists b, ?_⟩
    cases x <;> simp

theorem circ1 : (boolLists 1).all circOk = true := by decide +kernel
theorem circ2 : (boolLists 2).all circOk = true := by decide +kernel
theorem circ3 : (boolLists 3).all circOk = true := by decide +kernel
theorem circ4 : (boolLists 4).all circOk = true := by decide +kernel
theorem circ5 : (boolLists 5).all circOk = true := by decide +kernel
theorem circ6 : (boolLists 6).all circOk = true := by decide +kernel
theorem circ7 : (boolLists 7).all circOk = true := by decide +kernel
theorem circ8 : (boolLists 8).all circOk = true := by decide +kernel

theorem circ_ok (b : List Bool) (h1 : 1 ≤ b.length) (h2 : b.length ≤ 8) : circOk b = true := by
  have hm := mem_boolLists b
  have h : b.length = 1 ∨ b.length = 2 ∨ b.length = 3 ∨ b.length = 4 ∨ b.length = 5 ∨ b.length = 6 ∨ b.length = 7 ∨ b.length = 8 := by omega
  rcases h with h | h | h | h | h | h | h | h <;> rw [h] at hm
  · exact List.all_eq_true.1 circ1 b hm
  · exact List.all_eq_true.1 circ2 b hm
  · exact List.all_eq_true.1 circ3 b hm
  · exact List.all_eq_true.1 circ4 b hm
  · exact List.all_eq_true.1 circ5 b hm
  · exact List.all_eq_true.1 circ6 b hm
  · exact List.all_eq_true.1 circ7 b hm
  · exact List.all_eq_true.1 circ8 b hm

end Go.Proofs.YtlchjoclipdgbaaGreatDoor

/- The walks of corotop's name, road and way. -/
namespace Go.Proofs.YtlchjoclipdgbaaGreatDoor
open Go.RowKit Go.Sort

def nmB (i : Nat) : ByteArray := bs (nmL i)

theorem set_other {w : World} {g j k : Nat} {u : Value} (h : k ≠ g) : (w.setCell ⟨g, j, none⟩ u).heap[k]? = w.heap[k]? := by
  simp [World.setCell, Array.getElem?_modify, h.symm]

theorem convOne (c : UInt8) (w : World) : (convert 41 9 (.slice (some ⟨w.heap.size, 0, none⟩) 1 1)).run Tryz.prog (w.alloc (.cells #[.int .u8 (c.toNat : Int)] 5)) = .ok (.string ⟨#[c]⟩) (w.alloc (.cells #[.int .u8 (c.toNat : Int)] 5)) := by
  refine Lib.run_convert_whole _ 41 5 9 Tryz.underlying41 Tryz.underlying5 Tryz.underlying9 w.heap.size 0 ⟨#[c]⟩ (fun i hi => ?_) 1
  have : i = 0 := by
    have : i < 1 := hi
    omega
  subst this
  rw [cell_of_row _ _ _ _ _ _ (heap_alloc_new w _)]
  rfl

set_option maxRecDepth 100000 in
theorem name0 (w : World) : Calls Tryz.prog 5 #[.int .i64 0] w fun e w' => e = .returned (.string (nmB 0)) ∧ Later w w' := by
  have hcv : (convert 41 9 (.slice (some ⟨w.heap.size, 0, none⟩) 1 1)).run Tryz.prog (w.alloc (.cells #[.int .u8 97] 5)) = .ok (.string ⟨#[97]⟩) (w.alloc (.cells #[.int .u8 97] 5)) := convOne 97 w
  go_enter Tryz.func5, Tryz.ntmps5
  go_wp2
  go_ret
  exact ⟨rfl, (by repeat (first | exact Later.refl _ | assumption | refine Later.drewN ?_ _ | refine Later.drew ?_ | refine Later.alloc ?_ _ | refine Later.grow ?_ _))⟩

set_option maxRecDepth 100000 in
theorem name1 (w : World) : Calls Tryz.prog 5 #[.int .i64 1] w fun e w' => e = .returned (.string (nmB 1)) ∧ Later w w' := by
  have hcv : (convert 41 9 (.slice (some ⟨w.heap.size, 0, none⟩) 1 1)).run Tryz.prog (w.alloc (.cells #[.int .u8 98] 5)) = .ok (.string ⟨#[98]⟩) (w.alloc (.cells #[.int .u8 98] 5)) := convOne 98 w
  go_enter Tryz.func5, Tryz.ntmps5
  go_wp2
  go_ret
  exact ⟨rfl, (by repeat (first | exact Later.refl _ | assumption | refine Later.drewN ?_ _ | refine Later.drew ?_ | refine Later.alloc ?_ _ | refine Later.grow ?_ _))⟩

set_option maxRecDepth 100000 in
theorem name2 (w : World) : Calls Tryz.prog 5 #[.int .i64 2] w fun e w' => e = .returned (.string (nmB 2)) ∧ Later w w' := by
  have hcv : (convert 41 9 (.slice (some ⟨w.heap.size, 0, none⟩) 1 1)).run Tryz.prog (w.alloc (.cells #[.int .u8 99] 5)) = .ok (.string ⟨#[99]⟩) (w.alloc (.cells #[.int .u8 99] 5)) := convOne 99 w
  go_enter Tryz.func5, Tryz.ntmps5
  go_wp2
  go_ret
  exact ⟨rfl, (by repeat (first | exact Later.refl _ | assumption | refine Later.drewN ?_ _ | refine Later.drew ?_ | refine Later.alloc ?_ _ | refine Later.grow ?_ _))⟩

set_option maxRecDepth 100000 in
theorem name3 (w : World) : Calls Tryz.prog 5 #[.int .i64 3] w fun e w' => e = .returned (.string (nmB 3)) ∧ Later w w' := by
  have hcv : (convert 41 9 (.slice (some ⟨w.heap.size, 0, none⟩) 1 1)).run Tryz.prog (w.alloc (.cells #[.int .u8 100] 5)) = .ok (.string ⟨#[100]⟩) (w.alloc (.cells #[.int .u8 100] 5)) := convOne 100 w
  go_enter Tryz.func5, Tryz.ntmps5
  go_wp2
  go_ret
  exact ⟨rfl, (by repeat (first | exact Later.refl _ | assumption | refine Later.drewN ?_ _ | refine Later.drew ?_ | refine Later.alloc ?_ _ | refine Later.grow ?_ _))⟩

set_option maxRecDepth 100000 in
theorem name4 (w : World) : Calls Tryz.prog 5 #[.int .i64 4] w fun e w' => e = .returned (.string (nmB 4)) ∧ Later w w' := by
  have hcv : (convert 41 9 (.slice (some ⟨w.heap.size, 0, none⟩) 1 1)).run Tryz.prog (w.alloc (.cells #[.int .u8 101] 5)) = .ok (.string ⟨#[101]⟩) (w.alloc (.cells #[.int .u8 101] 5)) := convOne 101 w
  go_enter Tryz.func5, Tryz.ntmps5
  go_wp2
  go_ret
  exact ⟨rfl, (by repeat (first | exact Later.refl _ | assumption | refine Later.drewN ?_ _ | refine Later.drew ?_ | refine Later.alloc ?_ _ | refine Later.grow ?_ _))⟩

set_option maxRecDepth 100000 in
theorem name5 (w : World) : Calls Tryz.prog 5 #[.int .i64 5] w fun e w' => e = .returned (.string (nmB 5)) ∧ Later w w' := by
  have hcv : (convert 41 9 (.slice (some ⟨w.heap.size, 0, none⟩) 1 1)).run Tryz.prog (w.alloc (.cells #[.int .u8 102] 5)) = .ok (.string ⟨#[102]⟩) (w.alloc (.cells #[.int .u8 102] 5)) := convOne 102 w
  go_enter Tryz.func5, Tryz.ntmps5
  go_wp2
  go_ret
  exact ⟨rfl, (by repeat (first | exact Later.refl _ | assumption | refine Later.drewN ?_ _ | refine Later.drew ?_ | refine Later.alloc ?_ _ | refine Later.grow ?_ _))⟩

set_option maxRecDepth 100000 in
theorem name6 (w : World) : Calls Tryz.prog 5 #[.int .i64 6] w fun e w' => e = .returned (.string (nmB 6)) ∧ Later w w' := by
  have hcv : (convert 41 9 (.slice (some ⟨w.heap.size, 0, none⟩) 1 1)).run Tryz.prog (w.alloc (.cells #[.int .u8 103] 5)) = .ok (.string ⟨#[103]⟩) (w.alloc (.cells #[.int .u8 103] 5)) := convOne 103 w
  go_enter Tryz.func5, Tryz.ntmps5
  go_wp2
  go_ret
  exact ⟨rfl, (by repeat (first | exact Later.refl _ | assumption | refine Later.drewN ?_ _ | refine Later.drew ?_ | refine Later.alloc ?_ _ | refine Later.grow ?_ _))⟩

set_option maxRecDepth 100000 in
theorem name7 (w : World) : Calls Tryz.prog 5 #[.int .i64 7] w fun e w' => e = .returned (.string (nmB 7)) ∧ Later w w' := by
  have hcv : (convert 41 9 (.slice (some ⟨w.heap.size, 0, none⟩) 1 1)).run Tryz.prog (w.alloc (.cells #[.int .u8 104] 5)) = .ok (.string ⟨#[104]⟩) (w.alloc (.cells #[.int .u8 104] 5)) := convOne 104 w
  go_enter Tryz.func5, Tryz.ntmps5
  go_wp2
  go_ret
  exact ⟨rfl, (by repeat (first | exact Later.refl _ | assumption | refine Later.drewN ?_ _ | refine Later.drew ?_ | refine Later.alloc ?_ _ | refine Later.grow ?_ _))⟩

theorem nameC (i : Nat) (hi : i < 8) (w : World) : Calls Tryz.prog 5 #[.int .i64 (i : Nat)] w fun e w' => e = .returned (.string (nmB i)) ∧ Later w w' := by
  have h : i = 0 ∨ i = 1 ∨ i = 2 ∨ i = 3 ∨ i = 4 ∨ i = 5 ∨ i = 6 ∨ i = 7 := by omega
  rcases h with rfl | rfl | rfl | rfl | rfl | rfl | rfl | rfl
  · exact name0 w
  · exact name1 w
  · exact name2 w
  · exact name3 w
  · exact name4 w
  · exact name5 w
  · exact name6 w
  · exact name7 w

set_option maxRecDepth 100000 in
set_option maxHeartbeats 1000000 in
theorem roadC (a b : Nat) (ha : a < 8) (hb : b < 8) (w : World) : Calls Tryz.prog 8 #[.int .i64 (a : Nat), .int .i64 (b : Nat)] w fun e w' => ∃ v, e = .returned v ∧ FactV w' v ({ data := #[114, 111, 97, 100] }, [nmB a, nmB b]) ∧ Later w w' := by
  have HA : Hid (∀ w, Calls Tryz.prog 5 #[.int .i64 (a : Nat)] w fun e w' => e = .returned (.string (nmB a)) ∧ Later w w') := nameC a ha
  have HB : Hid (∀ w, Calls Tryz.prog 5 #[.int .i64 (b : Nat)] w fun e w' => e = .returned (.string (nmB b)) ∧ Later w w') := nameC b hb
  clear ha hb
  generalize nmB a = na at *
  generalize nmB b = nb at *
  go_enter Tryz.func8, Tryz.ntmps8
  go_wp2_with fail
  refine (HA.out _).mono ?_
  rintro e w1 ⟨rfl, hL1⟩
  have HL1 := hide hL1
  clear hL1 HA
  go_wp2_with fail
  refine (HB.out _).mono ?_
  rintro e w2 ⟨rfl, hL2⟩
  have hL02 := HL1.out.trans hL2
  have hr2 : w2.heap[w.heap.size]? = some (.cells #[.string { data := #[] }, .slice none 0 0] 38 (0, 0)) := by
    rw [hL02.block (by simp)]; exact heap_alloc_new w _
  have hlt2 : w.heap.size < w2.heap.size := (Array.getElem?_eq_some_iff.1 hr2).1
  have hlo : w.heap.size ≤ w2.heap.size := Nat.le_of_lt hlt2
  obtain ⟨q0, q1, p0, p1, q2⟩ := row2 hr2
  have hz1 : (w2.setCell ⟨w.heap.size, 0, none⟩ (.string { data := #[114, 111, 97, 100] })).heap.size = w2.heap.size := by simp
  have hr4 := set_at (j := 0) hr2 (.string { data := #[114, 111, 97, 100] })
  have hr5 : ((w2.setCell ⟨w.heap.size, 0, none⟩ (.string { data := #[114, 111, 97, 100] })).alloc (.cells #[.string na, .string nb] 9)).heap[w.heap.size]? = some (.cells #[.string { data := #[114, 111, 97, 100] }, .slice none 0 0] 38 (0, 0)) := by
    rw [heap_at, if_neg (by omega)]; exact hr4
  obtain ⟨q3, q4, p3, p4, q5⟩ := row2 hr5
  have q6 : (w2.alloc (.cells #[.string na, .string nb] 9)).cell? ⟨w.heap.size, 0, none⟩ = some (.string { data := #[] }) := by
    have h : (w2.alloc (.cells #[.string na, .string nb] 9)).heap[w.heap.size]? = some (.cells #[.string { data := #[] }, .slice none 0 0] 38 (0, 0)) := by
      rw [heap_at, if_neg (by omega)]; exact hr2
    exact (row2 h).1
  have p6 : (w2.alloc (.cells #[.string na, .string nb] 9)).frozen? ⟨w.heap.size, 0, none⟩ = false := by
    have h : (w2.alloc (.cells #[.string na, .string nb] 9)).heap[w.heap.size]? = some (.cells #[.string { data := #[] }, .slice none 0 0] 38 (0, 0)) := by
      rw [heap_at, if_neg (by omega)]; exact hr2
    exact (row2 h).2.2.1
  have HR2 := hide hr2
  have HL2 : Hid (Later w w2) := ((Later.refl w).alloc _).trans hL02
  clear hL2 hL02 hr2 hr4 hr5 HB HL1 hlo
  go_wp2
  have hrow := set_at (j := 1) (set_at (j := 0) HR2.out (.string { data := #[114, 111, 97, 100] })) (.slice (some ⟨w2.heap.size, 0, none⟩) 2 2)
  have hz2 : ((w2.setCell ⟨w.heap.size, 0, none⟩ (.string { data := #[114, 111, 97, 100] })).setCell ⟨w.heap.size, 1, none⟩ (.slice (some ⟨w2.heap.size, 0, none⟩) 2 2)).heap.size = w2.heap.size := by simp
  have hrow2 : (((w2.setCell ⟨w.heap.size, 0, none⟩ (.string { data := #[114, 111, 97, 100] })).setCell ⟨w.heap.size, 1, none⟩ (.slice (some ⟨w2.heap.size, 0, none⟩) 2 2)).alloc (.cells #[.string na, .string nb] 9)).heap[w.heap.size]? = some (.cells #[.string { data := #[114, 111, 97, 100] }, .slice (some ⟨w2.heap.size, 0, none⟩) 2 2] 38 (0, 0)) := by
    rw [heap_at, if_neg (by omega)]; exact hrow
  have r0 := (row2 hrow2).1
  have r1 := (row2 hrow2).2.1
  refine bodyPost_ret (v := .agg #[.string { data := #[114, 111, 97, 100] }, .slice (some ⟨w2.heap.size, 0, none⟩) 2 2]) (by simp [results, Tryz.results8, go_sem, r0, r1]) rfl ⟨_, rfl, ⟨_, rfl, ?_⟩, ?_⟩
  · refine strs2' (t := 9) (fr := (0, 0)) ?_
    rw [heap_at, if_pos (by rw [hz2])]
  · exact ((HL2.out.setCell (by show w.heap.size ≤ w.heap.size; omega) _).setCell (by show w.heap.size ≤ w.heap.size; omega) _).alloc _

set_option maxRecDepth 100000 in
set_option maxHeartbeats 1000000 in
theorem wayC (a b : Nat) (ha : a < 8) (hb : b < 8) (w : World) : Calls Tryz.prog 10 #[.int .i64 (a : Nat), .int .i64 (b : Nat)] w fun e w' => ∃ v, e = .returned v ∧ FactV w' v ({ data := #[119, 97, 121] }, [nmB a, nmB b]) ∧ Later w w' := by
  have HA : Hid (∀ w, Calls Tryz.prog 5 #[.int .i64 (a : Nat)] w fun e w' => e = .returned (.string (nmB a)) ∧ Later w w') := nameC a ha
  have HB : Hid (∀ w, Calls Tryz.prog 5 #[.int .i64 (b : Nat)] w fun e w' => e = .returned (.string (nmB b)) ∧ Later w w') := nameC b hb
  clear ha hb
  generalize nmB a = na at *
  generalize nmB b = nb at *
  go_enter Tryz.func10, Tryz.ntmps10
  go_wp2_with fail
  refine (HA.out _).mono ?_
  rintro e w1 ⟨rfl, hL1⟩
  have HL1 := hide hL1
  clear hL1 HA
  go_wp2_with fail
  refine (HB.out _).mono ?_
  rintro e w2 ⟨rfl, hL2⟩
  have hL02 := HL1.out.trans hL2
  have hr2 : w2.heap[w.heap.size]? = some (.cells #[.string { data := #[] }, .slice none 0 0] 38 (0, 0)) := by
    rw [hL02.block (by simp)]; exact heap_alloc_new w _
  have hlt2 : w.heap.size < w2.heap.size := (Array.getElem?_eq_some_iff.1 hr2).1
  have hlo : w.heap.size ≤ w2.heap.size := Nat.le_of_lt hlt2
  obtain ⟨q0, q1, p0, p1, q2⟩ := row2 hr2
  have hz1 : (w2.setCell ⟨w.heap.size, 0, none⟩ (.string { data := #[119, 97, 121] })).heap.size = w2.heap.size := by simp
  have hr4 := set_at (j := 0) hr2 (.string { data := #[119, 97, 121] })
  have hr5 : ((w2.setCell ⟨w.heap.size, 0, none⟩ (.string { data := #[119, 97, 121] })).alloc (.cells #[.string na, .string nb] 9)).heap[w.heap.size]? = some (.cells #[.string { data := #[119, 97, 121] }, .slice none 0 0] 38 (0, 0)) := by
    rw [heap_at, if_neg (by omega)]; exact hr4
  obtain ⟨q3, q4, p3, p4, q5⟩ := row2 hr5
  have q6 : (w2.alloc (.cells #[.string na, .string nb] 9)).cell? ⟨w.heap.size, 0, none⟩ = some (.string { data := #[] }) := by
    have h : (w2.alloc (.cells #[.string na, .string nb] 9)).heap[w.heap.size]? = some (.cells #[.string { data := #[] }, .slice none 0 0] 38 (0, 0)) := by
      rw [heap_at, if_neg (by omega)]; exact hr2
    exact (row2 h).1
  have p6 : (w2.alloc (.cells #[.string na, .string nb] 9)).frozen? ⟨w.heap.size, 0, none⟩ = false := by
    have h : (w2.alloc (.cells #[.string na, .string nb] 9)).heap[w.heap.size]? = some (.cells #[.string { data := #[] }, .slice none 0 0] 38 (0, 0)) := by
      rw [heap_at, if_neg (by omega)]; exact hr2
    exact (row2 h).2.2.1
  have HR2 := hide hr2
  have HL2 : Hid (Later w w2) := ((Later.refl w).alloc _).trans hL02
  clear hL2 hL02 hr2 hr4 hr5 HB HL1 hlo
  go_wp2
  have hrow := set_at (j := 1) (set_at (j := 0) HR2.out (.string { data := #[119, 97, 121] })) (.slice (some ⟨w2.heap.size, 0, none⟩) 2 2)
  have hz2 : ((w2.setCell ⟨w.heap.size, 0, none⟩ (.string { data := #[119, 97, 121] })).setCell ⟨w.heap.size, 1, none⟩ (.slice (some ⟨w2.heap.size, 0, none⟩) 2 2)).heap.size = w2.heap.size := by simp
  have hrow2 : (((w2.setCell ⟨w.heap.size, 0, none⟩ (.string { data := #[119, 97, 121] })).setCell ⟨w.heap.size, 1, none⟩ (.slice (some ⟨w2.heap.size, 0, none⟩) 2 2)).alloc (.cells #[.string na, .string nb] 9)).heap[w.heap.size]? = some (.cells #[.string { data := #[119, 97, 121] }, .slice (some ⟨w2.heap.size, 0, none⟩) 2 2] 38 (0, 0)) := by
    rw [heap_at, if_neg (by omega)]; exact hrow
  have r0 := (row2 hrow2).1
  have r1 := (row2 hrow2).2.1
  refine bodyPost_ret (v := .agg #[.string { data := #[119, 97, 121] }, .slice (some ⟨w2.heap.size, 0, none⟩) 2 2]) (by simp [results, Tryz.results10, go_sem, r0, r1]) rfl ⟨_, rfl, ⟨_, rfl, ?_⟩, ?_⟩
  · refine strs2' (t := 9) (fr := (0, 0)) ?_
    rw [heap_at, if_pos (by rw [hz2])]
  · exact ((HL2.out.setCell (by show w.heap.size ≤ w.heap.size; omega) _).setCell (by show w.heap.size ≤ w.heap.size; omega) _).alloc _

end Go.Proofs.YtlchjoclipdgbaaGreatDoor
