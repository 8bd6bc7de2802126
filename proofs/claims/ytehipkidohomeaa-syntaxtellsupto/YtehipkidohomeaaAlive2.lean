/- The walk of alive, of the statements on chapter 2. -/
import Derived.Test.YtehipkidohomeaaSameQ
namespace Go.Proofs.Ytehipkidohomeaa
open Go.RowKit Go.Sort

theorem Kind.sl_tail {α : Type} {K : Kind α} {B : Nat → Prop} {w : World} {b off n cap : Nat} {x : α} {l : List α} (h : K.sl B w (.slice (some ⟨b, off, none⟩) n cap) (x :: l)) {c : Nat} (hc : l.length ≤ c) : K.sl B w (.slice (some ⟨b, off + K.size, none⟩) l.length c) l := by
  obtain ⟨h0, a', cap', e, h1⟩ := h
  simp only [Value.slice.injEq] at e
  obtain ⟨rfl, _, _⟩ := e
  obtain ⟨b', off', e, hB, hb, hcl⟩ := h1 (by simp)
  simp only [Option.some.injEq, Addr.mk.injEq] at e
  obtain ⟨rfl, rfl, _⟩ := e
  refine ⟨⟨by have := h0.1; simp at this; omega, hc⟩, _, c, rfl, fun _ => ⟨b, _, rfl, hB, hb, fun i y hi => ?_⟩⟩
  obtain ⟨d, d1, d2⟩ := hcl (i + 1) y (by simpa using hi)
  refine ⟨d, d1, fun j u hu => ?_⟩
  have := d2 j u hu
  rw [show off + (i + 1) * K.size + j = off + K.size + i * K.size + j by rw [Nat.add_mul]; omega] at this
  exact this

theorem toList_bs (l : Bs) : (bs l).toList = l := by
  rw [Lib.toList_data]; exact raw_bs l

def txt1 : ByteArray := { data := #[112, 97, 116, 104, 40, 88, 44, 89, 41, 32, 58, 45, 32, 101, 100, 103, 101, 40, 88, 44, 89, 41, 44, 32, 33, 115, 104, 117, 116, 40, 89, 41, 46, 32, 101, 100, 103, 101, 40, 97, 44, 98, 41, 46] }
def txt2 : ByteArray := { data := #[112, 97, 116, 104, 40, 97, 44, 88, 41] }
def r0 : RuleD := ⟨⟨false, [112, 97, 116, 104], [(true, [88]), (true, [89])]⟩, [⟨false, [101, 100, 103, 101], [(true, [88]), (true, [89])]⟩, ⟨true, [115, 104, 117, 116], [(true, [89])]⟩]⟩
def r1 : RuleD := ⟨⟨false, [101, 100, 103, 101], [(false, [97]), (false, [98])]⟩, []⟩
def a0 : AtomD := ⟨false, [112, 97, 116, 104], [(false, [97]), (true, [88])]⟩
theorem told1 : toldRule (raw txt1) = ([r0, r1], 0, 0) := by kernel_rfl
theorem told2 : toldAtom (raw txt2) = ([a0], 0, 0) := by kernel_rfl
theorem print1 : printAll [r1] = [101, 100, 103, 101, 40, 97, 44, 98, 41, 46, 10] := by kernel_rfl
theorem print2 : printAtom ⟨a0.no, a0.name, a0.terms⟩ = [112, 97, 116, 104, 40, 97, 44, 88, 41] := by kernel_rfl

set_option maxRecDepth 100000 in
set_option maxHeartbeats 600000 in
theorem alive2 (w : World) (m : Int) (hm : w.cell? ⟨0, 0, none⟩ = some (.int .i64 m)) :
    Calls Try.prog 44 #[] w fun e w' => e = .returned (.bool true) ∧ Below w.heap.size w w' := by
  have h0 : 0 < w.heap.size := World.block_lt_of_cell? w _ hm
  have HP := hide (parseC txt1 w m hm)
  rw [told1] at HP
  go_enter Try.func44, Try.ntmps44
  go_wp2_with fail
  refine HP.out.mono ?_
  rintro e w1 ⟨v1, rfl, hV1, hB1⟩
  obtain ⟨p1, pc, rfl⟩ := Kind.slice hV1
  have hs1 := hB1.size
  have hA1 := ((Later.refl w1).alloc (.cells #[.int .i64 0, .int .i64 0] 30)).below
  have hW1 := below_trans hB1 hA1 hs1
  have HQ := hide (bodyFC txt2 (w1.alloc (.cells #[.int .i64 0, .int .i64 0] 30)) m (by rw [World.cell?_of_block (w := w) (a := ⟨0, 0, none⟩) (hW1.block 0 h0)]; exact hm))
  rw [told2] at HQ
  have hV1' := Kind.sl_below (Kind.sl_any hV1) hA1
  have hrow := heap_alloc_new w1 (.cells #[.int .i64 0, .int .i64 0] 30)
  have hsz1 : (w1.alloc (.cells #[.int .i64 0, .int .i64 0] 30)).heap.size = w1.heap.size + 1 := by simp
  clear hV1 hB1 HP
  go_wp2_with fail
  refine HQ.out.mono ?_
  rintro e w2 ⟨v2, rfl, hV2, hB2⟩
  obtain ⟨q1, qc, rfl⟩ := Kind.slice hV2
  have hs2 := hB2.size
  have hA2 := ((Later.refl w2).alloc (.cells #[.int .i64 0, .int .i64 0] 30)).below
  have hW2 := below_trans (below_trans hW1 hB2 (by omega)) hA2 (by omega)
  have hV1'' := Kind.sl_below (Kind.sl_below hV1' hB2) hA2
  have hV2' := Kind.sl_below (Kind.sl_any hV2) hA2
  have hrow2 : (w2.alloc (.cells #[.int .i64 0, .int .i64 0] 30)).heap[w1.heap.size]? = some (.cells #[.int .i64 0, .int .i64 0] 30 (0, 0)) := by
    rw [hA2.block _ (by omega), hB2.block _ (by omega)]; exact hrow
  have z0 : (w2.alloc (.cells #[.int .i64 0, .int .i64 0] 30)).cell? ⟨w1.heap.size, 0, none⟩ = some (.int .i64 0) := by rw [cell_of_row _ _ _ _ _ _ hrow2]; rfl
  obtain ⟨b1, o1, _, rfl, hb1, ⟨tv1, bv1, rfl, ht1, hbd1⟩, hc1⟩ := Kind.sl_at hV1'' (i := 0) rfl
  obtain ⟨b2, o2, _, rfl, hb2, ⟨tv2, rfl, ht2⟩, hc2⟩ := Kind.sl_at hV2' (i := 0) rfl
  obtain ⟨ba1, bc1, rfl⟩ := Kind.slice hbd1
  obtain ⟨ta2, tc2, rfl⟩ := Kind.slice ht2
  have k3 := hc1 3 _ rfl
  obtain ⟨b3, o3, _, rfl, hb3, ⟨tv3, rfl, ht3⟩, hc3⟩ := Kind.sl_at hbd1 (i := 1) rfl
  have n0 := hc3 0 _ rfl
  have g0 := hc2 0 _ rfl
  have g1 := hc2 1 _ rfl
  have g2 := hc2 2 _ rfl
  have hpc : 2 ≤ pc := hV1''.1.2
  have HT := hide (Kind.sl_tail hV1'' (c := pc - 1) (by show 1 ≤ pc - 1; omega))
  have HW2 := hide hW2
  have HV := hide (variableC { data := #[88, 49] } (w2.alloc (.cells #[.int .i64 0, .int .i64 0] 30)))
  rw [show isVar (raw { data := #[88, 49] }) = true by kernel_rfl] at HV
  have HA := hide (atomF a0.no a0.name a0.terms _ (w2.alloc (.cells #[.int .i64 0, .int .i64 0] 30)) ht2 (by rw [print2]; simp))
  rw [print2] at HA
  simp only [ruleK, atomK, termK, r0, a0, Nat.zero_mul, Nat.add_zero, Nat.one_mul, List.length_cons, List.length_nil] at k3 n0 g0 g1 g2 HT HA
  clear hV1' hV1'' hV2 hV2' hrow hrow2 hc1 hc2 hc3 ht1 hbd1 ht2 ht3 hW1 hW2 hA1 hA2 hB2 HQ hm
  have hsl : (w2.alloc (.cells #[.int .i64 0, .int .i64 0] 30)).heap.size = w2.heap.size + 1 := by simp
  have hws : w.heap.size ≤ w2.heap.size := by omega
  go_wp2_with fail
  refine HV.out.mono ?_
  rintro e w3 ⟨rfl, rfl⟩
  go_wp2_with fail
  refine HA.out.mono ?_
  rintro e w4 ⟨rfl, hB4⟩
  have hs4 := hB4.size
  have HW4 := hide (below_trans HW2.out hB4 (by omega))
  have HP := hide (printC _ [r1] w4 (Kind.sl_below HT.out hB4) (by rw [print1]; simp))
  rw [print1] at HP
  clear HA HV HT hB4 z0 k3 n0 g0 g1 g2
  rw [Nat.zero_add] at HP
  have e1 : (bs [112, 97, 116, 104, 40, 97, 44, 88, 41]).toList = [112, 97, 116, 104, 40, 97, 44, 88, 41] := toList_bs _
  go_wp2_with fail
  refine HP.out.mono ?_
  rintro e w5 ⟨rfl, hB5⟩
  have HW5 := hide (below_trans HW4.out hB5 (by omega))
  have e2 : (bs [101, 100, 103, 101, 40, 97, 44, 98, 41, 46, 10]).toList = [101, 100, 103, 101, 40, 97, 44, 98, 41, 46, 10] := toList_bs _
  clear HP hB5
  go_wp2
  go_ret
  exact ⟨rfl, HW5.out⟩

end Go.Proofs.Ytehipkidohomeaa
