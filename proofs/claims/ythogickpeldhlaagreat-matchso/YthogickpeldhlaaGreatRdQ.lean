/- The walks of syntax.read at atoms, and of what calls it: a fault that is thrown is caught at the edge. -/
import Derived.Test.YthogickpeldhlaaGreatRdP
import Derived.Defers
import Derived.Recover
namespace Go.Proofs.YthogickpeldhlaaGreat
open Go.RowKit Go.Sort

set_option maxRecDepth 100000 in
set_option maxHeartbeats 1000000 in
theorem catchAtom (b : Nat) (x y : Int) (u0 u1 : Value) (w : World) (c0 : w.cell? ⟨b, 0, none⟩ = some u0) (c1 : w.cell? ⟨b, 1, none⟩ = some u1) (f0 : w.frozen? ⟨b, 0, none⟩ = false) (f1 : w.frozen? ⟨b, 1, none⟩ = false) :
    CallsD Tryz.prog 73 #[.pointer (some ⟨b, 0, none⟩)] (.panicking [{ v := .iface 113 (.agg #[.int .i64 x, .int .i64 y]), recovered := false }]) w fun e u' w' =>
      e = .returned (.tuple #[]) ∧ u' = .panicking [{ v := .iface 113 (.agg #[.int .i64 x, .int .i64 y]), recovered := true }] ∧ w' = (w.setCell ⟨b, 0, none⟩ (.int .i64 x)).setCell ⟨b, 1, none⟩ (.int .i64 y) := by
  have hta : ∀ (v : Value) (w : World), (Instr.typeAssert (.iface 113 v) 20 113 false).run Tryz.prog w = .ok v w := assertThrown
  have hfl := fieldThrown
  refine callsD_of_wpS Tryz.func73 rfl fun c₀ cs hu => ?_
  apply wpS_seq
  apply wpS_region
  simp [wpOpsS, go_sem, recoverD, hu, Tryz.ntmps73, Exit.thenS]
  refine wpS_of_wp ?_
  go_wp2
  simp [bodyPostS, results, Tryz.results73]

set_option maxRecDepth 100000 in
set_option maxHeartbeats 1000000 in
theorem idleAtom (b : Nat) (w : World) :
    CallsD Tryz.prog 73 #[.pointer (some ⟨b, 0, none⟩)] .returning w fun e u' w' => e = .returned (.tuple #[]) ∧ u' = .returning ∧ w' = w := by
  refine callsD_of_wpS Tryz.func73 rfl fun c₀ cs hu => ?_
  apply wpS_seq
  apply wpS_region
  simp [wpOpsS, go_sem, recoverD, hu, Tryz.ntmps73, Exit.thenS]
  refine wpS_of_wp ?_
  go_wp2
  cases c₀
  simp_all [bodyPostS, results, Tryz.results73]

/-- What a call answers beside a fault; where; that. -/
def toldAtom (s : Bs) : List AtomD × Int × Nat :=
  if 3000 < s.length then ([], 4, 0) else match onlyBody s with
    | .ok out _ => (out, 0, 0)
    | .bad n r => ([], n, s.length - r.length)

set_option maxRecDepth 100000 in
set_option maxHeartbeats 2000000 in
theorem readAtom (s : ByteArray) (w : World) (m : Int) (hm : w.cell? ⟨0, 0, none⟩ = some (.int .i64 m)) :
    Calls Tryz.prog 55 #[.string s, .func (.func 56) #[] #[]] w fun e w' => ∃ v, e = .returned (.tuple #[v, .agg #[.int .i64 (toldAtom (raw s)).2.1, .int .i64 (toldAtom (raw s)).2.2]]) ∧ atomK.sl (From w.heap.size) w' v (toldAtom (raw s)).1 ∧ Below w.heap.size w w' := by
  have hmf : ∀ (fn : Fn) (first cap : Array Value) (w : World), (Instr.makeFunc fn first cap).run Tryz.prog w = .ok (.func fn first cap) w := fun _ _ _ _ => rfl
  by_cases hs : 3000 < s.size
  · have HX : Hid (toldAtom (raw s) = ([], 4, 0)) := by show _ = _; unfold toldAtom; rw [if_pos (by rw [length_raw]; exact hs)]
    have hs' : (3000 : Int) < s.size := by omega
    go_enter_defers Tryz.func55, Tryz.ntmps55
    go_wp2
    simp only [bodyPostD]
    refine ⟨.tuple #[.slice none 0 0, .agg #[.int .i64 4, .int .i64 0]], by simp [results, Tryz.results55, go_sem], ?_⟩
    exact ⟨_, by rw [HX.out]; rfl, by rw [HX.out]; exact atomK.sl_nil _ _ _ _, ((Later.refl w).alloc _).below⟩
  · have h0 : 0 < w.heap.size := World.block_lt_of_cell? w _ hm
    have hRd : Rd ((w.alloc (.cells #[.int .i64 0, .int .i64 0] 65)).alloc (.cells #[.string s, .int .i64 0] 117)) (w.heap.size + 1) s (raw s) := by
      have hr : ((w.alloc (.cells #[.int .i64 0, .int .i64 0] 65)).alloc (.cells #[.string s, .int .i64 0] 117)).heap[w.heap.size + 1]? = some (.cells #[.string s, .int .i64 0] 117 (0, 0)) := by
        have := heap_alloc_new (w.alloc (.cells #[.int .i64 0, .int .i64 0] 65)) (.cells #[.string s, .int .i64 0] 117)
        simpa using this
      refine ⟨by omega, List.suffix_refl _, by simp, by omega, by rw [cell_of_row _ _ _ _ _ _ hr]; rfl, ?_, frozen_row hr, m, ?_⟩
      · rw [cell_of_row _ _ _ _ _ _ hr, pos, length_raw, Nat.sub_self]; rfl
      · rw [(((Later.refl w).alloc (.cells #[.int .i64 0, .int .i64 0] 65)).alloc (.cells #[.string s, .int .i64 0] 117)).cell (p := ⟨0, 0, none⟩) h0]; exact hm
    have HC := hide (onlyBodyC _ s _ _ hRd)
    have hs' : ¬ (3000 : Int) < s.size := by omega
    go_enter_defers Tryz.func55, Tryz.ntmps55
    go_wp2_with fail
    refine HC.out.mono ?_
    intro e w1 hE
    have hBB : Below w.heap.size w ((w.alloc (.cells #[.int .i64 0, .int .i64 0] 65)).alloc (.cells #[.string s, .int .i64 0] 117)) := (((Later.refl w).alloc _).alloc _).below
    have hfr : ((w.alloc (.cells #[.int .i64 0, .int .i64 0] 65)).alloc (.cells #[.string s, .int .i64 0] 117)).heap[w.heap.size]? = some (.cells #[.int .i64 0, .int .i64 0] 65 (0, 0)) := by
      rw [Below.heap_alloc _ _ _ (by simp)]; exact heap_alloc_new w _
    have hsz : ((w.alloc (.cells #[.int .i64 0, .int .i64 0] 65)).alloc (.cells #[.string s, .int .i64 0] 117)).heap.size = w.heap.size + 2 := by simp
    rw [hsz] at hE
    generalize (w.alloc (.cells #[.int .i64 0, .int .i64 0] 65)).alloc (.cells #[.string s, .int .i64 0] 117) = wb at *
    obtain ⟨hT, ⟨a, r, v, hx, rfl, hV, hR⟩ | ⟨n, r, hx, rfl, hR⟩⟩ := hE.split
    all_goals
      have hrow := hT.row hfr (b := w.heap.size) (by omega)
      have z0 : w1.cell? ⟨w.heap.size, 0, none⟩ = some (.int .i64 0) := by rw [cell_of_row _ _ _ _ _ _ hrow]; rfl
      have z1 : w1.cell? ⟨w.heap.size, 1, none⟩ = some (.int .i64 0) := by rw [cell_of_row _ _ _ _ _ _ hrow]; rfl
      have f0 := frozen_row (j := 0) hrow
      have f1 := frozen_row (j := 1) hrow
      have hB1 : Below w.heap.size w w1 := ⟨hT.os.trans hBB.os, hT.tape.trans hBB.tape, hT.output.trans hBB.output, by have := hT.size; omega, fun k hk => (hT.block k (by omega) (by omega)).trans (hBB.block k hk)⟩
    · have HX : Hid (toldAtom (raw s) = (a, 0, 0)) := by show _ = _; unfold toldAtom; rw [if_neg (by rw [length_raw]; exact hs), hx]
      have HV := hide hV
      have HB := hide hB1
      obtain ⟨av, cv, rfl⟩ := Kind.slice hV
      clear hE hT hx hR hBB hfr hRd HC hB1 hV hrow
      go_wp2
      refine leaves_cons (f := 73) (args := #[.pointer (some ⟨w.heap.size, 0, none⟩)]) (by simp) (by simp [go_sem]) ?_
      refine (idleAtom _ _).mono ?_
      rintro e u' w'' ⟨rfl, rfl, rfl⟩
      refine ⟨.tuple #[.slice av a.length cv, .agg #[.int .i64 0, .int .i64 0]], by simp [results, Tryz.results55, go_sem, z0, z1], _, by rw [HX.out]; rfl, ?_, ?_⟩
      · rw [HX.out]
        exact Kind.sl_mono (Kind.sl_turned HV.out (((Tn.refl w.heap.size w1).moved _ _).moved _ _) (by omega)) (fun k _ hB => by have : w.heap.size + 2 ≤ k := hB; show w.heap.size ≤ k; omega)
      · exact (HB.out.setCell (Nat.le_refl _) _).setCell (Nat.le_refl _) _
    · have HX : Hid (toldAtom (raw s) = ([], n, pos s r)) := by show _ = _; unfold toldAtom; rw [if_neg (by rw [length_raw]; exact hs), hx, length_raw]; rfl
      refine leaves_cons (f := 73) (args := #[.pointer (some ⟨w.heap.size, 0, none⟩)]) (by simp) (by simp [go_sem]) ?_
      refine (catchAtom _ _ _ _ _ _ z0 z1 f0 f1).mono ?_
      rintro e u' w'' ⟨rfl, rfl, rfl⟩
      refine ⟨.tuple #[.slice none 0 0, .agg #[.int .i64 n, .int .i64 (pos s r)]], by simp [results, Tryz.results55, go_sem, z0, z1], _, by rw [HX.out], ?_, ?_⟩
      · rw [HX.out]; exact atomK.sl_nil _ _ _ _
      · exact (hB1.setCell (Nat.le_refl _) _).setCell (Nat.le_refl _) _

set_option maxHeartbeats 1000000 in
theorem bodyFC (s : ByteArray) (w : World) (m : Int) (hm : w.cell? ⟨0, 0, none⟩ = some (.int .i64 m)) :
    Calls Tryz.prog 37 #[.string s] w fun e w' => ∃ v, e = .returned (.tuple #[v, .agg #[.int .i64 (toldAtom (raw s)).2.1, .int .i64 (toldAtom (raw s)).2.2]]) ∧ atomK.sl (From w.heap.size) w' v (toldAtom (raw s)).1 ∧ Below w.heap.size w w' := by
  have hb0 := World.block_lt_of_cell? w _ hm
  have hA := ((Later.refl w).alloc (.cells #[.int .i64 0, .int .i64 0] 65))
  have HC := hide (readAtom s (w.alloc (.cells #[.int .i64 0, .int .i64 0] 65)) m (by rw [hA.cell (p := ⟨0, 0, none⟩) hb0]; exact hm))
  go_enter Tryz.func37, Tryz.ntmps37
  go_wp2_with fail
  refine HC.out.mono ?_
  rintro e w1 ⟨v, rfl, hV, hB⟩
  have hrow : w1.heap[w.heap.size]? = some (.cells #[.int .i64 0, .int .i64 0] 65 (0, 0)) := by
    rw [hB.block _ (by simp)]; exact heap_alloc_new w _
  have z0 : w1.cell? ⟨w.heap.size, 0, none⟩ = some (.int .i64 0) := by rw [cell_of_row _ _ _ _ _ _ hrow]; rfl
  have z1 : w1.cell? ⟨w.heap.size, 1, none⟩ = some (.int .i64 0) := by rw [cell_of_row _ _ _ _ _ _ hrow]; rfl
  have f0 := frozen_row (j := 0) hrow
  have f1 := frozen_row (j := 1) hrow
  have HB : Hid (Below w.heap.size w w1) := ⟨hB.os.trans hA.below.os, hB.tape.trans hA.below.tape, hB.output.trans hA.below.output, by have := hB.size; simp at this; omega, fun k hk => (hB.block k (by simp; omega)).trans (hA.below.block k hk)⟩
  have HV := hide hV
  obtain ⟨av, cv, rfl⟩ := Kind.slice hV
  clear hV hB hA HC hrow hm
  generalize hy : toldAtom (raw s) = y at HV ⊢
  have HY := hide hy
  clear hy
  obtain ⟨out, n, k⟩ := y
  dsimp only at HV ⊢
  go_wp2
  refine bodyPost_ret (v := .tuple #[.slice av out.length cv, .agg #[.int .i64 n, .int .i64 k]]) (by simp [results, Tryz.results37, go_sem, z0, z1]) rfl ?_
  refine ⟨.slice av out.length cv, by rw [HY.out], ?_, (HB.out.setCell (Nat.le_refl _) _).setCell (Nat.le_refl _) _⟩
  rw [HY.out]
  exact Kind.sl_mono (Kind.sl_turned HV.out (((Tn.refl w.heap.size w1).moved _ _).moved _ _) (by simp)) (fun k _ hB => by have : (w.alloc _).heap.size ≤ k := hB; simp at this; show w.heap.size ≤ k; omega)

end Go.Proofs.YthogickpeldhlaaGreat
