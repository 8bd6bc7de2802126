/- The walk of chapter 4's statements' closed beginning, alive. -/
import Derived.Test.YthogickpeldhlaaGreatMtL
import Derived.Test.YthogickpeldhlaaGreatRdQ
namespace Go.Proofs.YthogickpeldhlaaGreat
open Go.RowKit Go.Sort

def txtE : ByteArray := { data := #[101, 40, 88, 44, 89, 41, 44, 32, 101, 40, 89, 44, 88, 41] }
def bodyE : List AtomD := [⟨false, [101], [(true, [88]), (true, [89])]⟩, ⟨false, [101], [(true, [89]), (true, [88])]⟩]
def sE : ByteArray := { data := #[101] }
def sA : ByteArray := { data := #[97] }
def sB : ByteArray := { data := #[98] }
def sX : ByteArray := { data := #[88] }
def sY : ByteArray := { data := #[89] }
def fE1 : FactD := (sE, [sA, sB])
def fE2 : FactD := (sE, [sB, sA])
theorem toldE : toldAtom (raw txtE) = (bodyE, 0, 0) := by kernel_rfl
theorem wrongE : wrongBody bodyE = 0 := by kernel_rfl

theorem cmpE : cmpF fE1 fE2 = -1 := by
  simp [cmpF, fE1, fE2, cmpS, Lib.toList_data, sE, sA, sB, Op.bytesLess, cmpI, cmpL]
theorem faultE : setFault [fE1, fE2] = (0, 0) := by
  have h1 : wrongF fE1 = 0 := by decide +kernel
  have h2 : wrongF fE2 = 0 := by decide +kernel
  unfold setFault
  rw [if_neg (by simp)]
  simp only [List.length_cons, List.length_nil, faultFrom, List.getD_eq_getElem?_getD]
  simp [h1, h2, cmpE]
theorem fault0 : setFault [] = (0, 0) := rfl
theorem errE : errW bodyE [fE1, fE2] [] = 0 := by
  unfold errW
  rw [wrongE, faultE, fault0]; rfl

def lE1 : List BindD := [(sX, sA), (sY, sB)]
def lE2 : List BindD := [(sX, sB), (sY, sA)]
theorem metE : metGo (fun _ => [fE1, fE2]) 0 bodyE [[]] = some [lE1, lE2] := by decide +kernel
theorem barE : [lE1, lE2].filter (fun l => !barredB (fun _ => [fE1, fE2]) 0 bodyE l) = [lE1, lE2] := by decide +kernel

theorem cmpXY : cmpS sX sY = -1 := by simp [cmpS, Lib.toList_data, sX, sY, Op.bytesLess]
theorem cmpAB4 : cmpS sA sB = -1 := by simp [cmpS, Lib.toList_data, sA, sB, Op.bytesLess]
theorem sort1 : sortB lE1 = lE1 := (sortBy_of three_cmpB (List.Perm.refl _) (by simp [lE1, cmpB, cmpXY])).symm
theorem sort2 : sortB lE2 = lE2 := (sortBy_of three_cmpB (List.Perm.refl _) (by simp [lE2, cmpB, cmpXY])).symm
theorem sort12 : sortBy cmpBs [lE1, lE2] = [lE1, lE2] := (sortBy_of three_cmpBs (List.Perm.refl _) (by simp [lE1, lE2, cmpX, cmpB, three_cmpS.refl, cmpAB4])).symm
theorem allE : allB (pickB [fE1, fE2] (-1) []) bodyE = some [lE1, lE2] := by
  rw [pick_all']
  unfold allB
  rw [metE]
  dsimp only
  rw [barE]
  simp only [List.map_cons, List.map_nil, sort1, sort2, sort12]

theorem strs2 {w : World} {c : Nat} {a b : ByteArray} {t : TypeId} {fr : Nat × Nat} (h : w.heap[c]? = some (.cells #[.string a, .string b] t fr)) : Strs w (.slice (some ⟨c, 0, none⟩) 2 2) [a, b] := by
  refine ⟨by simp, _, 2, rfl, fun _ => ⟨c, 0, rfl, (Array.getElem?_eq_some_iff.1 h).1, fun i hi => ?_⟩⟩
  rw [cell_of_row _ _ _ _ _ _ h]
  simp at hi
  have : i = 0 ∨ i = 1 := by omega
  rcases this with rfl | rfl <;> rfl

theorem facts2 {w : World} {c : Nat} {n0 n1 : ByteArray} {s0 s1 : Value} {l0 l1 : List ByteArray} {t : TypeId} {fr : Nat × Nat} (h : w.heap[c]? = some (.cells #[.string n0, s0, .string n1, s1] t fr)) (h0 : Strs w s0 l0) (h1 : Strs w s1 l1) :
    Facts w (.slice (some ⟨c, 0, none⟩) 2 2) [(n0, l0), (n1, l1)] := by
  refine ⟨by simp, _, 2, rfl, fun _ => ⟨c, 0, rfl, (Array.getElem?_eq_some_iff.1 h).1, fun i hi => ?_⟩⟩
  rw [cell_of_row _ _ _ _ _ _ h, cell_of_row _ _ _ _ _ _ h]
  simp at hi
  have : i = 0 ∨ i = 1 := by omega
  rcases this with rfl | rfl
  · exact ⟨rfl, s0, rfl, h0⟩
  · exact ⟨rfl, s1, rfl, h1⟩

set_option maxRecDepth 100000 in
set_option maxHeartbeats 2000000 in
theorem alive4 (w : World) (m : Int) (hm : w.cell? ⟨0, 0, none⟩ = some (.int .i64 m)) : Calls Tryz.prog 15 #[] w fun e w' => e = .returned (.bool true) ∧ Below w.heap.size w w' := by
  have HP := hide (bodyFC txtE w m hm)
  rw [toldE] at HP
  clear hm
  go_enter Tryz.func15, Tryz.ntmps15
  go_wp2_with fail
  refine HP.out.mono ?_
  rintro e w1 ⟨v1, rfl, hV1, hB1⟩
  obtain ⟨w2, hw2⟩ : ∃ w2, w2 = (((w1.alloc (.cells #[.int .i64 0, .int .i64 0] 65)).alloc (.cells #[.string { data := #[97] }, .string { data := #[98] }] 9)).alloc (.cells #[.string { data := #[98] }, .string { data := #[97] }] 9)).alloc (.cells #[.string { data := #[101] }, .slice (some ⟨w1.heap.size + 1, 0, none⟩) 2 2, .string { data := #[101] }, .slice (some ⟨w1.heap.size + 2, 0, none⟩) 2 2] 41) := ⟨_, rfl⟩
  have hL2 : Later w1 w2 := by rw [hw2]; exact (by repeat (first | exact Later.refl _ | assumption | refine Later.drewN ?_ _ | refine Later.drew ?_ | refine Later.alloc ?_ _ | refine Later.grow ?_ _))
  have r1 : w2.heap[w1.heap.size + 1]? = some (.cells #[.string sA, .string sB] 9 (0, 0)) := by
    rw [hw2]
    simp only [heap_at, World.size_alloc]
    repeat (first | rw [if_pos trivial] | rw [if_pos (by omega)] | rw [if_neg (by omega)])
    rfl
  have r2 : w2.heap[w1.heap.size + 2]? = some (.cells #[.string sB, .string sA] 9 (0, 0)) := by
    rw [hw2]
    simp only [heap_at, World.size_alloc]
    repeat (first | rw [if_pos trivial] | rw [if_pos (by omega)] | rw [if_neg (by omega)])
    rfl
  have r3 : w2.heap[w1.heap.size + 3]? = some (.cells #[.string sE, .slice (some ⟨w1.heap.size + 1, 0, none⟩) 2 2, .string sE, .slice (some ⟨w1.heap.size + 2, 0, none⟩) 2 2] 41 (0, 0)) := by
    rw [hw2]
    simp only [heap_at, World.size_alloc]
    repeat (first | rw [if_pos trivial] | rw [if_pos (by omega)] | rw [if_neg (by omega)])
    rfl
  have hF := facts2 r3 (strs2 r1) (strs2 r2)
  have HA := hide (allC bodyE v1 _ [fE1, fE2] w2 (Kind.sl_later (Kind.sl_any hV1) hL2) hF)
  have HB2 := hide (below_trans hB1 hL2.below hB1.size)
  have HW2 := hide hw2
  obtain ⟨va, vc, rfl⟩ := Kind.slice hV1
  clear HP hV1 hB1 hL2 r1 r2 r3 hF hw2
  go_wp2_with fail
  rw [← HW2.out]
  refine HA.out.mono ?_
  rintro e w3 ⟨v3, er, rfl, hT, hB3⟩
  unfold WithT at hT
  rw [if_neg (fun h => h errE), allE] at hT
  obtain ⟨rfl, hsl⟩ := hT
  obtain ⟨p3, pc3, rfl⟩ := Kind.slice hsl
  obtain ⟨b5, o5, _, rfl, hb5, ⟨u5, rfl, hu5⟩, hc5⟩ := Kind.sl_at hsl (i := 0) rfl
  have y0 : w3.cell? ⟨b5, o5, none⟩ = some u5 := by simpa [slK] using hc5 0 _ rfl
  obtain ⟨p5, pc5, rfl⟩ := Kind.slice hu5
  obtain ⟨b6, o6, _, rfl, hb6, rfl, hc6⟩ := Kind.sl_at hu5 (i := 0) rfl
  have y1 : w3.cell? ⟨b6, o6 + 1, none⟩ = some (.string sA) := by simpa [bindK] using hc6 1 _ rfl
  have HB3 := hide (below_trans HB2.out hB3 HB2.out.size)
  have hl1 : lE1.length = 2 := rfl
  have hl2 : [lE1, lE2].length = 2 := rfl
  rw [hl1] at y0
  rw [hl2]
  have hqa : (sA.toList == ({ data := #[97] } : ByteArray).toList) = true := by rw [eq_list]; exact decide_eq_true rfl
  clear HA HB2 hB3 hsl hu5 hc5 hc6 hl1 hl2
  go_wp2
  go_ret
  exact ⟨ret_bool (by simp [sA, Lib.toList_data]), HB3.out⟩

end Go.Proofs.YthogickpeldhlaaGreat
