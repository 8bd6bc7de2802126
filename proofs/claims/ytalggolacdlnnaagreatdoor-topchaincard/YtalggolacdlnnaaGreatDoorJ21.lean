/- Texts of this claim, one behind the other. -/
import Derived.Test.YtalggolacdlnnaaGreatDoorJ20
import Derived.Lib.SlBytesRow
import Derived.Shelf.Spec.SlicesGrow
import Derived.Test.YtalggolacdlnnaaGreatDoorProg
import Derived.Test.YtalggolacdlnnaaGreatDoorJ8
/- The walks of corotop's name, road and way. -/
namespace Go.Proofs.YtalggolacdlnnaaGreatDoor
open Go.RowKit Go.Sort

def nmB (i : Nat) : ByteArray := bs (nmL i)

theorem set_other {w : World} {g j k : Nat} {u : Value} (h : k ≠ g) : (w.setCell ⟨g, j, none⟩ u).heap[k]? = w.heap[k]? := by
  simp [World.setCell, Array.getElem?_modify, h.symm]

theorem convOne (c : UInt8) (w : World) : (convert 71 9 (.slice (some ⟨w.heap.size, 0, none⟩) 1 1)).run Tryz.prog (w.alloc (.cells #[.int .u8 (c.toNat : Int)] 5)) = .ok (.string ⟨#[c]⟩) (w.alloc (.cells #[.int .u8 (c.toNat : Int)] 5)) := by
  refine Lib.run_convert_whole _ 71 5 9 Tryz.underlying71 Tryz.underlying5 Tryz.underlying9 w.heap.size 0 ⟨#[c]⟩ (fun i hi => ?_) 1
  have : i = 0 := by
    have : i < 1 := hi
    omega
  subst this
  rw [cell_of_row _ _ _ _ _ _ (heap_alloc_new w _)]
  rfl

set_option maxRecDepth 100000 in
theorem name0 (w : World) : Calls Tryz.prog 13 #[.int .i64 0] w fun e w' => e = .returned (.string (nmB 0)) ∧ Later w w' := by
  have hcv : (convert 71 9 (.slice (some ⟨w.heap.size, 0, none⟩) 1 1)).run Tryz.prog (w.alloc (.cells #[.int .u8 97] 5)) = .ok (.string ⟨#[97]⟩) (w.alloc (.cells #[.int .u8 97] 5)) := convOne 97 w
  go_enter Tryz.func13, Tryz.ntmps13
  go_wp2
  go_ret
  exact ⟨rfl, (by repeat (first | exact Later.refl _ | assumption | refine Later.drewN ?_ _ | refine Later.drew ?_ | refine Later.alloc ?_ _ | refine Later.grow ?_ _))⟩

set_option maxRecDepth 100000 in
theorem name1 (w : World) : Calls Tryz.prog 13 #[.int .i64 1] w fun e w' => e = .returned (.string (nmB 1)) ∧ Later w w' := by
  have hcv : (convert 71 9 (.slice (some ⟨w.heap.size, 0, none⟩) 1 1)).run Tryz.prog (w.alloc (.cells #[.int .u8 98] 5)) = .ok (.string ⟨#[98]⟩) (w.alloc (.cells #[.int .u8 98] 5)) := convOne 98 w
  go_enter Tryz.func13, Tryz.ntmps13
  go_wp2
  go_ret
  exact ⟨rfl, (by repeat (first | exact Later.refl _ | assumption | refine Later.drewN ?_ _ | refine Later.drew ?_ | refine Later.alloc ?_ _ | refine Later.grow ?_ _))⟩

set_option maxRecDepth 100000 in
theorem name2 (w : World) : Calls Tryz.prog 13 #[.int .i64 2] w fun e w' => e = .returned (.string (nmB 2)) ∧ Later w w' := by
  have hcv : (convert 71 9 (.slice (some ⟨w.heap.size, 0, none⟩) 1 1)).run Tryz.prog (w.alloc (.cells #[.int .u8 99] 5)) = .ok (.string ⟨#[99]⟩) (w.alloc (.cells #[.int .u8 99] 5)) := convOne 99 w
  go_enter Tryz.func13, Tryz.ntmps13
  go_wp2
  go_ret
  exact ⟨rfl, (by repeat (first | exact Later.refl _ | assumption | refine Later.drewN ?_ _ | refine Later.drew ?_ | refine Later.alloc ?_ _ | refine Later.grow ?_ _))⟩

set_option maxRecDepth 100000 in
theorem name3 (w : World) : Calls Tryz.prog 13 #[.int .i64 3] w fun e w' => e = .returned (.string (nmB 3)) ∧ Later w w' := by
  have hcv : (convert 71 9 (.slice (some ⟨w.heap.size, 0, none⟩) 1 1)).run Tryz.prog (w.alloc (.cells #[.int .u8 100] 5)) = .ok (.string ⟨#[100]⟩) (w.alloc (.cells #[.int .u8 100] 5)) := convOne 100 w
  go_enter Tryz.func13, Tryz.ntmps13
  go_wp2
  go_ret
  exact ⟨rfl, (by repeat (first | exact Later.refl _ | assumption | refine Later.drewN ?_ _ | refine Later.drew ?_ | refine Later.alloc ?_ _ | refine Later.grow ?_ _))⟩

set_option maxRecDepth 100000 in
theorem name4 (w : World) : Calls Tryz.prog 13 #[.int .i64 4] w fun e w' => e = .returned (.string (nmB 4)) ∧ Later w w' := by
  have hcv : (convert 71 9 (.slice (some ⟨w.heap.size, 0, none⟩) 1 1)).run Tryz.prog (w.alloc (.cells #[.int .u8 101] 5)) = .ok (.string ⟨#[101]⟩) (w.alloc (.cells #[.int .u8 101] 5)) := convOne 101 w
  go_enter Tryz.func13, Tryz.ntmps13
  go_wp2
  go_ret
  exact ⟨rfl, (by repeat (first | exact Later.refl _ | assumption | refine Later.drewN ?_ _ | refine Later.drew ?_ | refine Later.alloc ?_ _ | refine Later.grow ?_ _))⟩

set_option maxRecDepth 100000 in
theorem name5 (w : World) : Calls Tryz.prog 13 #[.int .i64 5] w fun e w' => e = .returned (.string (nmB 5)) ∧ Later w w' := by
  have hcv : (convert 71 9 (.slice (some ⟨w.heap.size, 0, none⟩) 1 1)).run Tryz.prog (w.alloc (.cells #[.int .u8 102] 5)) = .ok (.string ⟨#[102]⟩) (w.alloc (.cells #[.int .u8 102] 5)) := convOne 102 w
  go_enter Tryz.func13, Tryz.ntmps13
  go_wp2
  go_ret
  exact ⟨rfl, (by repeat (first | exact Later.refl _ | assumption | refine Later.drewN ?_ _ | refine Later.drew ?_ | refine Later.alloc ?_ _ | refine Later.grow ?_ _))⟩

set_option maxRecDepth 100000 in
theorem name6 (w : World) : Calls Tryz.prog 13 #[.int .i64 6] w fun e w' => e = .returned (.string (nmB 6)) ∧ Later w w' := by
  have hcv : (convert 71 9 (.slice (some ⟨w.heap.size, 0, none⟩) 1 1)).run Tryz.prog (w.alloc (.cells #[.int .u8 103] 5)) = .ok (.string ⟨#[103]⟩) (w.alloc (.cells #[.int .u8 103] 5)) := convOne 103 w
  go_enter Tryz.func13, Tryz.ntmps13
  go_wp2
  go_ret
  exact ⟨rfl, (by repeat (first | exact Later.refl _ | assumption | refine Later.drewN ?_ _ | refine Later.drew ?_ | refine Later.alloc ?_ _ | refine Later.grow ?_ _))⟩

set_option maxRecDepth 100000 in
theorem name7 (w : World) : Calls Tryz.prog 13 #[.int .i64 7] w fun e w' => e = .returned (.string (nmB 7)) ∧ Later w w' := by
  have hcv : (convert 71 9 (.slice (some ⟨w.heap.size, 0, none⟩) 1 1)).run Tryz.prog (w.alloc (.cells #[.int .u8 104] 5)) = .ok (.string ⟨#[104]⟩) (w.alloc (.cells #[.int .u8 104] 5)) := convOne 104 w
  go_enter Tryz.func13, Tryz.ntmps13
  go_wp2
  go_ret
  exact ⟨rfl, (by repeat (first | exact Later.refl _ | assumption | refine Later.drewN ?_ _ | refine Later.drew ?_ | refine Later.alloc ?_ _ | refine Later.grow ?_ _))⟩

theorem nameC (i : Nat) (hi : i < 8) (w : World) : Calls Tryz.prog 13 #[.int .i64 (i : Nat)] w fun e w' => e = .returned (.string (nmB i)) ∧ Later w w' := by
  have h : i = 0 ∨ i = 1 ∨ i = 2 ∨ i = 3 ∨ i = 4 ∨ i = 5 ∨ i = 6 ∨ i = 7 := by omega
  rcases h with rfl | rfl | rfl | rfl | rfl | rfl | rfl | rfl
  · exact name0 w
  · exact name1 w
  · exact name2 w
  · exact name3 w
  · exact name4 w
  · exact name5 w
  · exact name6 w
  · exact name7 w

set_option maxRecDepth 100000 in
set_option maxHeartbeats 1000000 in
theorem roadL (a b : Nat) (ha : a < 8) (hb : b < 8) (w : World) : Calls Tryz.prog 5 #[.int .i64 (a : Nat), .int .i64 (b : Nat)] w fun e w' => ∃ v, e = .returned v ∧ FactV w' v ({ data := #[114, 111, 97, 100] }, [nmB a, nmB b]) ∧ Later w w' ∧ FarV w w' v := by
  have HA : Hid (∀ w, Calls Tryz.prog 13 #[.int .i64 (a : Nat)] w fun e w' => e = .returned (.string (nmB a)) ∧ Later w w') := nameC a ha
  have HB : Hid (∀ w, Calls Tryz.prog 13 #[.int .i64 (b : Nat)] w fun e w' => e = .returned (.string (nmB b)) ∧ Later w w') := nameC b hb
  clear ha hb
  generalize nmB a = na at *
  generalize nmB b = nb at *
  go_enter Tryz.func5, Tryz.ntmps5
  go_wp2_with fail
  refine (HA.out _).mono ?_
  rintro e w1 ⟨rfl, hL1⟩
  have HL1 := hide hL1
  clear hL1 HA
  go_wp2_with fail
  refine (HB.out _).mono ?_
  rintro e w2 ⟨rfl, hL2⟩
  have hL02 := HL1.out.trans hL2
  have hr2 : w2.heap[w.heap.size]? = some (.cells #[.string { data := #[] }, .slice none 0 0] 26 (0, 0)) := by
    rw [hL02.block (by simp)]; exact heap_alloc_new w _
  have hlt2 : w.heap.size < w2.heap.size := (Array.getElem?_eq_some_iff.1 hr2).1
  have hlo : w.heap.size ≤ w2.heap.size := Nat.le_of_lt hlt2
  obtain ⟨q0, q1, p0, p1, q2⟩ := row2 hr2
  have hz1 : (w2.setCell ⟨w.heap.size, 0, none⟩ (.string { data := #[114, 111, 97, 100] })).heap.size = w2.heap.size := by simp
  have hr4 := set_at (j := 0) hr2 (.string { data := #[114, 111, 97, 100] })
  have hr5 : ((w2.setCell ⟨w.heap.size, 0, none⟩ (.string { data := #[114, 111, 97, 100] })).alloc (.cells #[.string na, .string nb] 9)).heap[w.heap.size]? = some (.cells #[.string { data := #[114, 111, 97, 100] }, .slice none 0 0] 26 (0, 0)) := by
    rw [heap_at, if_neg (by omega)]; exact hr4
  obtain ⟨q3, q4, p3, p4, q5⟩ := row2 hr5
  have q6 : (w2.alloc (.cells #[.string na, .string nb] 9)).cell? ⟨w.heap.size, 0, none⟩ = some (.string { data := #[] }) := by
    have h : (w2.alloc (.cells #[.string na, .string nb] 9)).heap[w.heap.size]? = some (.cells #[.string { data := #[] }, .slice none 0 0] 26 (0, 0)) := by
      rw [heap_at, if_neg (by omega)]; exact hr2
    exact (row2 h).1
  have p6 : (w2.alloc (.cells #[.string na, .string nb] 9)).frozen? ⟨w.heap.size, 0, none⟩ = false := by
    have h : (w2.alloc (.cells #[.string na, .string nb] 9)).heap[w.heap.size]? = some (.cells #[.string { data := #[] }, .slice none 0 0] 26 (0, 0)) := by
      rw [heap_at, if_neg (by omega)]; exact hr2
    exact (row2 h).2.2.1
  have HR2 := hide hr2
  have HL2 : Hid (Later w w2) := ((Later.refl w).alloc _).trans hL02
  clear hL2 hL02 hr2 hr4 hr5 HB HL1 hlo
  go_wp2
  have hrow := set_at (j := 1) (set_at (j := 0) HR2.out (.string { data := #[114, 111, 97, 100] })) (.slice (some ⟨w2.heap.size, 0, none⟩) 2 2)
  have hz2 : ((w2.setCell ⟨w.heap.size, 0, none⟩ (.string { data := #[114, 111, 97, 100] })).setCell ⟨w.heap.size, 1, none⟩ (.slice (some ⟨w2.heap.size, 0, none⟩) 2 2)).heap.size = w2.heap.size := by simp
  have hrow2 : (((w2.setCell ⟨w.heap.size, 0, none⟩ (.string { data := #[114, 111, 97, 100] })).setCell ⟨w.heap.size, 1, none⟩ (.slice (some ⟨w2.heap.size, 0, none⟩) 2 2)).alloc (.cells #[.string na, .string nb] 9)).heap[w.heap.size]? = some (.cells #[.string { data := #[114, 111, 97, 100] }, .slice (some ⟨w2.heap.size, 0, none⟩) 2 2] 26 (0, 0)) := by
    rw [heap_at, if_neg (by omega)]; exact hrow
  have r0 := (row2 hrow2).1
  have r1 := (row2 hrow2).2.1
  refine bodyPost_ret (v := .agg #[.string { data := #[114, 111, 97, 100] }, .slice (some ⟨w2.heap.size, 0, none⟩) 2 2]) (by simp [results, Tryz.results5, go_sem, r0, r1]) rfl ⟨_, rfl, ⟨_, rfl, ?_⟩, ?_, _, _, rfl, fun k e => ?_⟩
  · refine strs2' (t := 9) (fr := (0, 0)) ?_
    rw [heap_at, if_pos (by rw [hz2])]
  · exact ((HL2.out.setCell (by show w.heap.size ≤ w.heap.size; omega) _).setCell (by show w.heap.size ≤ w.heap.size; omega) _).alloc _
  · have e : w2.heap.size = k := by simpa [Value.ownBlock] using e
    rw [World.size_alloc, hz2]
    omega

theorem roadC (a b : Nat) (ha : a < 8) (hb : b < 8) (w : World) : Calls Tryz.prog 5 #[.int .i64 (a : Nat), .int .i64 (b : Nat)] w fun e w' => ∃ v, e = .returned v ∧ FactV w' v ({ data := #[114, 111, 97, 100] }, [nmB a, nmB b]) ∧ Later w w' :=
  (roadL a b ha hb w).mono fun _ _ ⟨v, h1, h2, h3, _⟩ => ⟨v, h1, h2, h3⟩

set_option maxRecDepth 100000 in
set_option maxHeartbeats 1000000 in
theorem wayC (a b : Nat) (ha : a < 8) (hb : b < 8) (w : World) : Calls Tryz.prog 11 #[.int .i64 (a : Nat), .int .i64 (b : Nat)] w fun e w' => ∃ v, e = .returned v ∧ FactV w' v ({ data := #[119, 97, 121] }, [nmB a, nmB b]) ∧ Later w w' := by
  have HA : Hid (∀ w, Calls Tryz.prog 13 #[.int .i64 (a : Nat)] w fun e w' => e = .returned (.string (nmB a)) ∧ Later w w') := nameC a ha
  have HB : Hid (∀ w, Calls Tryz.prog 13 #[.int .i64 (b : Nat)] w fun e w' => e = .returned (.string (nmB b)) ∧ Later w w') := nameC b hb
  clear ha hb
  generalize nmB a = na at *
  generalize nmB b = nb at *
  go_enter Tryz.func11, Tryz.ntmps11
  go_wp2_with fail
  refine (HA.out _).mono ?_
  rintro e w1 ⟨rfl, hL1⟩
  have HL1 := hide hL1
  clear hL1 HA
  go_wp2_with fail
  refine (HB.out _).mono ?_
  rintro e w2 ⟨rfl, hL2⟩
  have hL02 := HL1.out.trans hL2
  have hr2 : w2.heap[w.heap.size]? = some (.cells #[.string { data := #[] }, .slice none 0 0] 26 (0, 0)) := by
    rw [hL02.block (by simp)]; exact heap_alloc_new w _
  have hlt2 : w.heap.size < w2.heap.size := (Array.getElem?_eq_some_iff.1 hr2).1
  have hlo : w.heap.size ≤ w2.heap.size := Nat.le_of_lt hlt2
  obtain ⟨q0, q1, p0, p1, q2⟩ := row2 hr2
  have hz1 : (w2.setCell ⟨w.heap.size, 0, none⟩ (.string { data := #[119, 97, 121] })).heap.size = w2.heap.size := by simp
  have hr4 := set_at (j := 0) hr2 (.string { data := #[119, 97, 121] })
  have hr5 : ((w2.setCell ⟨w.heap.size, 0, none⟩ (.string { data := #[119, 97, 121] })).alloc (.cells #[.string na, .string nb] 9)).heap[w.heap.size]? = some (.cells #[.string { data := #[119, 97, 121] }, .slice none 0 0] 26 (0, 0)) := by
    rw [heap_at, if_neg (by omega)]; exact hr4
  obtain ⟨q3, q4, p3, p4, q5⟩ := row2 hr5
  have q6 : (w2.alloc (.cells #[.string na, .string nb] 9)).cell? ⟨w.heap.size, 0, none⟩ = some (.string { data := #[] }) := by
    have h : (w2.alloc (.cells #[.string na, .string nb] 9)).heap[w.heap.size]? = some (.cells #[.string { data := #[] }, .slice none 0 0] 26 (0, 0)) := by
      rw [heap_at, if_neg (by omega)]; exact hr2
    exact (row2 h).1
  have p6 : (w2.alloc (.cells #[.string na, .string nb] 9)).frozen? ⟨w.heap.size, 0, none⟩ = false := by
    have h : (w2.alloc (.cells #[.string na, .string nb] 9)).heap[w.heap.size]? = some (.cells #[.string { data := #[] }, .slice none 0 0] 26 (0, 0)) := by
      rw [heap_at, if_neg (by omega)]; exact hr2
    exact (row2 h).2.2.1
  have HR2 := hide hr2
  have HL2 : Hid (Later w w2) := ((Later.refl w).alloc _).trans hL02
  clear hL2 hL02 hr2 hr4 hr5 HB HL1 hlo
  go_wp2
  have hrow := set_at (j := 1) (set_at (j := 0) HR2.out (.string { data := #[119, 97, 121] })) (.slice (some ⟨w2.heap.size, 0, none⟩) 2 2)
  have hz2 : ((w2.setCell ⟨w.heap.size, 0, none⟩ (.string { data := #[119, 97, 121] })).setCell ⟨w.heap.size, 1, none⟩ (.slice (some ⟨w2.heap.size, 0, none⟩) 2 2)).heap.size = w2.heap.size := by simp
  have hrow2 : (((w2.setCell ⟨w.heap.size, 0, none⟩ (.string { data := #[119, 97, 121] })).setCell ⟨w.heap.size, 1, none⟩ (.slice (some ⟨w2.heap.size, 0, none⟩) 2 2)).alloc (.cells #[.string na, .string nb] 9)).heap[w.heap.size]? = some (.cells #[.string { data := #[119, 97, 121] }, .slice (some ⟨w2.heap.size, 0, none⟩) 2 2] 26 (0, 0)) := by
    rw [heap_at, if_neg (by omega)]; exact hrow
  have r0 := (row2 hrow2).1
  have r1 := (row2 hrow2).2.1
  refine bodyPost_ret (v := .agg #[.string { data := #[119, 97, 121] }, .slice (some ⟨w2.heap.size, 0, none⟩) 2 2]) (by simp [results, Tryz.results11, go_sem, r0, r1]) rfl ⟨_, rfl, ⟨_, rfl, ?_⟩, ?_⟩
  · refine strs2' (t := 9) (fr := (0, 0)) ?_
    rw [heap_at, if_pos (by rw [hz2])]
  · exact ((HL2.out.setCell (by show w.heap.size ≤ w.heap.size; omega) _).setCell (by show w.heap.size ≤ w.heap.size; omega) _).alloc _

end Go.Proofs.YtalggolacdlnnaaGreatDoor

/- The walk of corotop's alive. -/
namespace Go.Proofs.YtalggolacdlnnaaGreatDoor
open Go.RowKit Go.Sort

def roadsT : Bs := [119, 97, 121, 40, 88, 44, 89, 41, 32, 58, 45, 32, 114, 111, 97, 100, 40, 88, 44, 89, 41, 46, 32, 119, 97, 121, 40, 88, 44, 90, 41, 32, 58, 45, 32, 119, 97, 121, 40, 88, 44, 89, 41, 44, 32, 114, 111, 97, 100, 40, 89, 44, 90, 41, 46, 32, 99, 117, 116, 40, 88, 44, 89, 41, 32, 58, 45, 32, 116, 111, 119, 110, 40, 88, 41, 44, 32, 116, 111, 119, 110, 40, 89, 41, 44, 32, 33, 119, 97, 121, 40, 88, 44, 89, 41, 46]
def roadsR : List RuleD :=
  [⟨⟨false, [119, 97, 121], [(true, [88]), (true, [89])]⟩, [⟨false, [114, 111, 97, 100], [(true, [88]), (true, [89])]⟩]⟩,
   ⟨⟨false, [119, 97, 121], [(true, [88]), (true, [90])]⟩, [⟨false, [119, 97, 121], [(true, [88]), (true, [89])]⟩, ⟨false, [114, 111, 97, 100], [(true, [89]), (true, [90])]⟩]⟩,
   ⟨⟨false, [99, 117, 116], [(true, [88]), (true, [89])]⟩, [⟨false, [116, 111, 119, 110], [(true, [88])]⟩, ⟨false, [116, 111, 119, 110], [(true, [89])]⟩, ⟨true, [119, 97, 121], [(true, [88]), (true, [89])]⟩]⟩]
def roadF (a b : Nat) : FactB := (kb [114, 111, 97, 100], [kb (nmL a), kb (nmL b)])
def wayF (a b : Nat) : FactB := (kb [119, 97, 121], [kb (nmL a), kb (nmL b)])
def roads2 : List FactB := [roadF 0 1, roadF 1 2]
def ways2 : List FactB := [roadF 0 1, roadF 1 2, wayF 0 1, wayF 0 2, wayF 1 2]

theorem told_roads : toldRule roadsT = (roadsR, 0, 0) := by kernel_rfl
theorem strata_roads : strataP roadsR = ([0, 0, 1], 0, 0) := by kernel_rfl
theorem run_roads2 : runI roadsR [0, 0, 1] 2 0 roads2 = (0, ways2) := by decide +kernel
theorem up_roads2 : Up roads2 := by show List.Pairwise _ _; rw [eF_eq]; decide +kernel
theorem up_ways2 : Up ways2 := by show List.Pairwise _ _; rw [eF_eq]; decide +kernel
theorem right_roads2 : ∀ f ∈ roads2, wrongF f = 0 := by decide +kernel
theorem fit_roads2 : ∀ f ∈ roads2, fitF roadsR f = true := by decide +kernel
theorem good_roads2 : GoodS roadsR roads2 := ⟨up_roads2, fun f hf => wrongF_right.1 (right_roads2 f hf), by decide, fit_roads2⟩
theorem all_roads2 : allP roadsR roads2 = (0, ways2) := by
  have e1 : (strataP roadsR).2.1 = 0 := by rw [strata_roads]
  have e2 : (strataP roadsR).1 = [0, 0, 1] := by rw [strata_roads]
  have e3 : (factsP roadsR roads2).1 = 0 := by rw [good_facts good_roads2]
  unfold allP
  rw [if_neg (fun h => h e1), if_neg (fun h => h e3), e2, count5, runI_eq]
  exact run_roads2

theorem facts2 {w : World} {c : Nat} {n0 n1 : ByteArray} {s0 s1 : Value} {l0 l1 : List ByteArray} {t : TypeId} {fr : Nat × Nat} (h : w.heap[c]? = some (.cells #[.string n0, s0, .string n1, s1] t fr)) (h0 : Strs w s0 l0) (h1 : Strs w s1 l1) :
    Facts w (.slice (some ⟨c, 0, none⟩) 2 2) [(n0, l0), (n1, l1)] := by
  refine ⟨by simp, _, 2, rfl, fun _ => ⟨c, 0, rfl, (Array.getElem?_eq_some_iff.1 h).1, fun i hi => ?_⟩⟩
  rw [cell_of_row _ _ _ _ _ _ h, cell_of_row _ _ _ _ _ _ h]
  simp at hi
  have : i = 0 ∨ i = 1 := by omega
  rcases this with rfl | rfl
  · exact ⟨rfl, s0, rfl, h0⟩
  · exact ⟨rfl, s1, rfl, h1⟩

set_option maxRecDepth 100000 in
set_option maxHeartbeats 4000000 in
theorem aliveT (w : World) (m : Int) (hm : w.cell? ⟨0, 0, none⟩ = some (.int .i64 m)) : Calls Tryz.prog 4 #[] w fun e w' => e = .returned (.bool true) ∧ Below w.heap.size w w' := by
  have HP := hide (parseC (bs roadsT) w m hm)
  rw [raw_bs, told_roads] at HP
  clear hm
  go_enter Tryz.func4, Tryz.ntmps4
  go_wp2_with fail
  refine HP.out.mono ?_
  rintro e w1 ⟨v1, rfl, hV1, hB1⟩
  dsimp only at hV1 ⊢
  have HV1 := hide (Kind.sl_any hV1)
  have HB1 := hide hB1
  obtain ⟨va, vc, rfl⟩ := Kind.slice hV1
  clear HP hV1 hB1
  obtain ⟨w2, hw2⟩ : ∃ w2, w2 = w1.alloc (.cells #[.int .i64 0, .int .i64 0] 32) := ⟨_, rfl⟩
  have hL2 : Later w1 w2 := by rw [hw2]; exact (Later.refl _).alloc _
  have hr2 : w2.heap[w1.heap.size]? = some (.cells #[.int .i64 0, .int .i64 0] 32 (0, 0)) := by rw [hw2]; exact heap_alloc_new w1 _
  have H01 := hide (roadC 0 1 (by omega) (by omega) w2)
  have HW2 := hide hw2
  clear hw2
  go_wp2_with fail
  rw [← HW2.out]
  refine H01.out.mono ?_
  rintro e w3 ⟨v3, rfl, hF3, hL3⟩
  have H12 := hide (roadC 1 2 (by omega) (by omega) w3)
  obtain ⟨s3, rfl, hs3⟩ := hF3
  obtain ⟨a3, c3, rfl⟩ := sliceStr hs3
  have HS3 := hide hs3
  have HL3 := hide (hL2.trans hL3)
  have HR3 := hide ((hL3.block (Array.getElem?_eq_some_iff.1 hr2).1).trans hr2)
  clear hs3 hL3 H01 hL2 hr2 HW2
  go_wp2_with fail
  refine H12.out.mono ?_
  rintro e w4 ⟨v4, rfl, hF4, hL4⟩
  obtain ⟨s4, rfl, hs4⟩ := hF4
  obtain ⟨a4, c4, rfl⟩ := sliceStr hs4
  obtain ⟨w5, hw5⟩ : ∃ w5, w5 = w4.alloc (.cells #[.string { data := #[114, 111, 97, 100] }, .slice a3 2 c3, .string { data := #[114, 111, 97, 100] }, .slice a4 2 c4] 26) := ⟨_, rfl⟩
  have hL5 : Later w4 w5 := by rw [hw5]; exact (Later.refl _).alloc _
  have hr5 : w5.heap[w4.heap.size]? = some (.cells #[.string { data := #[114, 111, 97, 100] }, .slice a3 2 c3, .string { data := #[114, 111, 97, 100] }, .slice a4 2 c4] 26 (0, 0)) := by rw [hw5]; exact heap_alloc_new w4 _
  have hF5 : Facts w5 (.slice (some ⟨w4.heap.size, 0, none⟩) 2 2) roads2 := facts2 hr5 (HS3.out.later (hL4.trans hL5)) (hs4.later hL5)
  have hL15 := HL3.out.trans (hL4.trans hL5)
  have hB5 := below_trans HB1.out hL15.below HB1.out.size
  have HA := hide (naiveAllC roadsR roads2 (.slice va roadsR.length vc) (.slice (some ⟨w4.heap.size, 0, none⟩) 2 2) w5 (Kind.sl_later HV1.out hL15) hF5)
  rw [all_roads2] at HA
  have hr15 : w5.heap[w1.heap.size]? = some (.cells #[.int .i64 0, .int .i64 0] 32 (0, 0)) := ((hL4.trans hL5).block (Array.getElem?_eq_some_iff.1 HR3.out).1).trans HR3.out
  have HR5 := hide hr15
  have HB5 := hide hB5
  have HW5 := hide hw5
  clear hs4 hL4 hw5 hL5 hr5 hF5 hL15 hB5 hr15 H12 HS3 HL3 HR3 HV1 HB1
  go_wp2_with fail
  rw [← HW5.out]
  refine HA.out.mono ?_
  rintro e w6 ⟨v6, er, rfl, ⟨her, _, hT6⟩, hB6⟩
  dsimp only at her hT6
  subst her
  have hF6 := hT6 rfl
  have HF6 := hide hF6
  have HB6 := hide (below_trans HB5.out hB6 HB5.out.size)
  have hr6 := (hB6.block _ (Array.getElem?_eq_some_iff.1 HR5.out).1).trans HR5.out
  have c0 : w6.cell? ⟨w1.heap.size, 0, none⟩ = some (.int .i64 0) := by rw [cell_of_row _ _ _ _ _ _ hr6]; rfl
  obtain ⟨a6, c6, rfl⟩ := sliceFacts hF6
  have h5 : ways2.length = 5 := rfl
  rw [h5] at HF6 ⊢
  have H02 := hide (wayC 0 2 (by omega) (by omega) w6)
  clear hT6 hB6 hF6 h5 hr6 HA HB5 HR5 HW5
  go_wp2_with fail
  refine H02.out.mono ?_
  rintro e w7 ⟨v7, rfl, hF7, hL7⟩
  have HI := hide (inC (.slice a6 5 c6) _ ways2 (wayF 0 2) w7 (HF6.out.later hL7) hF7 up_ways2)
  rw [in_eq, show inB ways2 (wayF 0 2) = true by decide +kernel] at HI
  obtain ⟨s7, rfl, hs7⟩ := hF7
  obtain ⟨a7, c7, rfl⟩ := sliceStr hs7
  have HB7 := hide (below_trans HB6.out hL7.below HB6.out.size)
  clear hs7 hL7 H02 c0
  go_wp2_with fail
  refine HI.out.mono ?_
  rintro e w8 ⟨rfl, hL8⟩
  have HB8 := hide (below_trans HB7.out hL8.below HB7.out.size)
  clear hL8 HI
  go_wp2
  go_ret
  exact ⟨rfl, HB8.out⟩

end Go.Proofs.YtalggolacdlnnaaGreatDoor

/-
  DERIVED: THE SHELF's CONTRACTS AT THIS DUMP, IN PLAIN WORDS (tools/lay-plain.mjs out of 'TryzGrowLay.lean', which tools/lay-shelf.mjs wrote): THE SAME DECLARATIONS UNDER THE SAME NAMES: 'import', 'namespace', 'open', 'def', 'theorem' AND NOTHING ELSE: no command of the shelf's: FOR A HAND-IN. Each laying: the table of numbers ('.._ren') and one theorem, a field a fact of the dump's own or the kernel's comparison; each contract: ONE APPLICATION.
-/
namespace Go.Proofs
open Go.Shelf
def Tryz.growFacts_ren : Go.Shelf.Ren := ⟨fun | 4 => 100 | n => n, fun | 22 => 23 | 25 => 26 | 3 => 3 | 4 => 4 | 9 => 9 | 20 => 20 | 0 => 0 | n => n, fun | n => n⟩
theorem Tryz.growFacts : Go.Proofs.Lays8.n4 Tryz.prog Tryz.growFacts_ren := {
  mixed := by kernel_rfl
  f4 := ⟨Tryz.f100.name, by decide, Tryz.func100.trans (congrArg some (by kernel_rfl))⟩
  t0 := Tryz.underlying0
  a0 := Tryz.isAgg0
  z0 := Tryz.sizeOf0
  v0 := Tryz.zeroValue0
  t3 := Tryz.underlying3
  a3 := Tryz.isAgg3
  z3 := Tryz.sizeOf3
  v3 := Tryz.zeroValue3
  t4 := Tryz.underlying4
  a4 := Tryz.isAgg4
  z4 := Tryz.sizeOf4
  v4 := Tryz.zeroValue4
  t9 := Tryz.underlying9
  a9 := Tryz.isAgg9
  z9 := Tryz.sizeOf9
  v9 := Tryz.zeroValue9
  t20 := Tryz.underlying20
  a20 := Tryz.isAgg20
  z20 := Tryz.sizeOf20
  v20 := Tryz.zeroValue20
  t22 := Tryz.underlying23
  a22 := Tryz.isAgg23
  z22 := Tryz.sizeOf23
  v22 := Tryz.zeroValue23 }
end Go.Proofs

/- The walks of slices.Grow, slices.Concat at two lists of facts, fact.Join. -/
namespace Go.Proofs.YtalggolacdlnnaaGreatDoor
open Go.RowKit Go.Sort Go.Shelf

theorem growC (w0 w : World) (hL : Later w0 w) (n : Nat) (hn : n ≤ 3518437208883) : Calls Tryz.prog 100 #[.slice none 0 0, .int .i64 n] w fun e w' =>
    ∃ v', e = .returned v' ∧ RowF w' w0.heap.size v' [] ∧ Later w w' ∧ ∀ k, v'.ownBlock = some k → w.heap.size ≤ k := by
  by_cases h0 : n = 0
  · subst h0
    exact (Any8.slices_Grow_room Tryz.growFacts none 0 0 0 w (Nat.le_refl _) (by omega) (by omega) (Nat.le_refl _)).mono fun e w' ⟨he, hw⟩ =>
      ⟨_, he, by rw [hw]; exact ⟨[], World.ownsRow_nil w _ _ _, fun i hi => by simp at hi⟩, by rw [hw]; exact Later.refl _, fun k hk => by simp [Value.ownBlock] at hk⟩
  · obtain ⟨i, i1, i2, i3, i4⟩ := infoFact
    refine (Any8.slices_Grow_grow Tryz.growFacts i _ i1 i2 (by omega) none 0 0 n [] w (Nat.le_refl _) (by omega) (by rw [i4]; omega) (by omega) (by simp) (fun _ => rfl) (fun a h => by cases h)).mono fun e w' ⟨he, hw⟩ => ⟨_, he, ?_, ?_, fun k hk => ?_⟩
    · rw [hw]
      have hge := grownCap_ge w (0 + n) 0 (Tryz.growFacts_ren.t 25)
      have hcm := grownCap_le_maxLen w (0 + n) 0 (Tryz.growFacts_ren.t 25) (by simp only [maxLen]; omega)
      refine ⟨[], World.ownsRow_made (base := w0.heap.size) (e := 26) (size := 2) w.drew _ _ hL.size hcm ?_, fun i hi => by simp at hi⟩
      simp only [Array.size_append, List.size_toArray, size_zeroCells]
      show 0 + (0 + n - 0) * 2 + (grownCap w (0 + n) 0 (Tryz.growFacts_ren.t 25) - (0 + n)) * 2 = _
      omega
    · rw [hw]; exact (Later.refl w).drew.alloc _
    · simp [Value.ownBlock] at hk; omega

set_option maxHeartbeats 1000000 in
theorem concat (w0 w : World) (hL : Later w0 w) (c cp : Nat) (va vb : Value) (la lb : List FactD) (ha : Facts w0 va la) (hb : Facts w0 vb lb) (hn : la.length + lb.length ≤ 3518437208883) (hc0 : w.cell? ⟨c, 0, none⟩ = some va) (hc1 : w.cell? ⟨c, 1, none⟩ = some vb) (hcb : c < w.heap.size) :
    Calls Tryz.prog 66 #[.slice (some ⟨c, 0, none⟩) 2 cp] w fun e w' => ∃ v', e = .returned v' ∧ RowF w' w0.heap.size v' (la ++ lb) ∧ Later w0 w' := by
  have HA := hide ha
  have HB := hide hb
  obtain ⟨a1, c1, rfl⟩ := sliceFacts ha
  obtain ⟨a2, c2, rfl⟩ := sliceFacts hb
  clear ha hb
  have s1 : ¬ ((la.length : Int) < 0) := by omega
  have s2 : ¬ ((la.length : Int) + (lb.length : Int) < 0) := by omega
  go_enter Tryz.func66, Tryz.ntmps66
  go_wp2
  refine wp_loop_rounds 3 ?_
  rw [rounds_succ]
  go_wp2
  rw [rounds_succ]
  go_wp2
  rw [rounds_succ]
  go_wp2_with fail
  rw [show ((la.length : Int) + (lb.length : Int)) = ((la.length + lb.length : Nat) : Int) by omega]
  refine (growC w0 w hL (la.length + lb.length) hn).mono ?_
  rintro e w1 ⟨v1, rfl, hR1, hL1, hk1⟩
  obtain ⟨v2, w2, run2, hR2, hL2, hg2, hk2⟩ := hR1.append (hL.trans hL1) HA.out (by simp; omega)
  obtain ⟨v3, w3, run3, hR3, hL3, hg3, hk3⟩ := hR2.append hL2 HB.out (by simp; omega)
  rw [List.nil_append] at hR3
  have y0 : w1.cell? ⟨c, 0, none⟩ = some (.slice a1 la.length c1) := by rw [hL1.cell (p := ⟨c, 0, none⟩) hcb]; exact hc0
  have y1 : w1.cell? ⟨c, 1, none⟩ = some (.slice a2 lb.length c2) := by rw [hL1.cell (p := ⟨c, 1, none⟩) hcb]; exact hc1
  have y2 : w2.cell? ⟨c, 1, none⟩ = some (.slice a2 lb.length c2) := by
    rw [World.cell?_of_block (w := w1) (hg2.block c (Nat.lt_of_lt_of_le hcb hL1.size) (fun e => by have := hk1 c e.symm; omega))]; exact y1
  have R2 := hide run2
  have R3 := hide run3
  have HR := hide hR3
  clear run2 run3 hR1 hR2 hR3 hg2 hg3
  go_wp2
  refine wp_loop_rounds 3 ?_
  rw [rounds_succ]
  go_wp2_with (at_builtin; refine wpList_append_run rfl (.tmp 31) (.tmp 32) 23 rfl _ _ _ _ rfl rfl R2.out ?_)
  rw [rounds_succ]
  go_wp2_with (at_builtin; refine wpList_append_run rfl (.tmp 31) (.tmp 32) 23 rfl _ _ _ _ rfl rfl R3.out ?_)
  rw [rounds_succ]
  go_wp2
  go_ret
  exact ⟨v3, rfl, HR.out, hL3⟩

set_option maxHeartbeats 400000 in
/-- fact.Join: the set of both lists' facts, in memory of its own. -/
theorem joinC (va vb : Value) (la lb : List FactD) (w : World) (ha : Facts w va la) (hb : Facts w vb lb) (hn : la.length + lb.length ≤ 3518437208883) :
    Calls Tryz.prog 42 #[va, vb] w fun e w' => ∃ v' s, e = .returned v' ∧ SetOf s (la ++ lb) ∧ OwnF w' w.heap.size v' s ∧ Later w w' := by
  have HA := hide ha
  have HB := hide hb
  obtain ⟨a1, c1, rfl⟩ := sliceFacts ha
  obtain ⟨a2, c2, rfl⟩ := sliceFacts hb
  clear ha hb
  go_enter Tryz.func42, Tryz.ntmps42
  go_wp2_with fail
  refine (concat w _ (by repeat (first | exact Later.refl _ | assumption | refine Later.drewN ?_ _ | refine Later.drew ?_ | refine Later.alloc ?_ _ | refine Later.grow ?_ _)) w.heap.size 2 _ _ la lb HA.out HB.out hn (by simp) (by simp) (by simp)).mono ?_
  rintro e w1 ⟨v1, rfl, hR, hL⟩
  have hr0 := rise w1 w.heap.size v1 (la ++ lb) hR (by simpa using hn)
  obtain ⟨a3, c3, rfl⟩ := ownsSlice hR.choose_spec.1
  rw [List.length_append] at hr0
  have hr := hide hr0
  clear hR hr0
  go_wp2_with fail
  refine hr.out.mono ?_
  rintro e w2 ⟨v2, s, rfl, hs, hO, hW⟩
  have HS := hide hs
  have HO := hide hO
  clear hs hO
  go_wp2
  go_ret
  exact ⟨v2, s, rfl, HS.out, HO.out.base hL.size, hW.later hL (Nat.le_refl _)⟩

end Go.Proofs.YtalggolacdlnnaaGreatDoor
