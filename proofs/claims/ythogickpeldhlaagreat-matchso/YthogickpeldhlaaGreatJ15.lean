import Derived.Test.YthogickpeldhlaaGreatJ12
import Derived.Test.YthogickpeldhlaaGreatJ14
import Derived.Test.YthogickpeldhlaaGreatJ3
import Derived.ProofKit
import Derived.SliceStrings
import Derived.Deep.Slices
import Derived.Deep.Strs
import Derived.Lib.SmallJoins
import Derived.SizedLaws
import Derived.Test.YthogickpeldhlaaGreatJ6
/- The walk of chapter 4's statements' closed beginning, alive. -/
namespace Go.Proofs.YthogickpeldhlaaGreat
open Go.RowKit Go.Sort

def txtE : ByteArray := { data := #[101, 40, 88, 44, 89, 41, 44, 32, 101, 40, 89, 44, 88, 41] }
def bodyE : List AtomD := [⟨false, [101], [(true, [88]), (true, [89])]⟩, ⟨false, [101], [(true, [89]), (true, [88])]⟩]
def sE : ByteArray := { data := #[101] }
def sA : ByteArray := { data := #[97] }
def sB : ByteArray := { data := #[98] }
def sX : ByteArray := { data := #[88] }
def sY : ByteArray := { data := #[89] }
def fE1 : FactD := (sE, [sA, sB])
def fE2 : FactD := (sE, [sB, sA])
theorem toldE : toldAtom (raw txtE) = (bodyE, 0, 0) := by kernel_rfl
theorem wrongE : wrongBody bodyE = 0 := by kernel_rfl

theorem cmpE : cmpF fE1 fE2 = -1 := by
  simp [cmpF, fE1, fE2, cmpS, Lib.toList_data, sE, sA, sB, Op.bytesLess, cmpI, cmpL]
theorem faultE : setFault [fE1, fE2] = (0, 0) := by
  have h1 : wrongF fE1 = 0 := by decide +kernel
  have h2 : wrongF fE2 = 0 := by decide +kernel
  unfold setFault
  rw [if_neg (by simp)]
  simp only [List.length_cons, List.length_nil, faultFrom, List.getD_eq_getElem?_getD]
  simp [h1, h2, cmpE]
theorem fault0 : setFault [] = (0, 0) := rfl
theorem errE : errW bodyE [fE1, fE2] [] = 0 := by
  unfold errW
  rw [wrongE, faultE, fault0]; rfl

def lE1 : List BindD := [(sX, sA), (sY, sB)]
def lE2 : List BindD := [(sX, sB), (sY, sA)]
theorem metE : metGo (fun _ => [fE1, fE2]) 0 bodyE [[]] = some [lE1, lE2] := by decide +kernel
theorem barE : [lE1, lE2].filter (fun l => !barredB (fun _ => [fE1, fE2]) 0 bodyE l) = [lE1, lE2] := by decide +kernel

theorem cmpXY : cmpS sX sY = -1 := by simp [cmpS, Lib.toList_data, sX, sY, Op.bytesLess]
theorem cmpAB4 : cmpS sA sB = -1 := by simp [cmpS, Lib.toList_data, sA, sB, Op.bytesLess]
theorem sort1 : sortB lE1 = lE1 := (sortBy_of three_cmpB (List.Perm.refl _) (by simp [lE1, cmpB, cmpXY])).symm
theorem sort2 : sortB lE2 = lE2 := (sortBy_of three_cmpB (List.Perm.refl _) (by simp [lE2, cmpB, cmpXY])).symm
theorem sort12 : sortBy cmpBs [lE1, lE2] = [lE1, lE2] := (sortBy_of three_cmpBs (List.Perm.refl _) (by simp [lE1, lE2, cmpX, cmpB, three_cmpS.refl, cmpAB4])).symm
theorem allE : allB (pickB [fE1, fE2] (-1) []) bodyE = some [lE1, lE2] := by
  rw [pick_all']
  unfold allB
  rw [metE]
  dsimp only
  rw [barE]
  simp only [List.map_cons, List.map_nil, sort1, sort2, sort12]

theorem strs2 {w : World} {c : Nat} {a b : ByteArray} {t : TypeId} {fr : Nat × Nat} (h : w.heap[c]? = some (.cells #[.string a, .string b] t fr)) : Strs w (.slice (some ⟨c, 0, none⟩) 2 2) [a, b] := by
  refine ⟨by simp, _, 2, rfl, fun _ => ⟨c, 0, rfl, (Array.getElem?_eq_some_iff.1 h).1, fun i hi => ?_⟩⟩
  rw [cell_of_row _ _ _ _ _ _ h]
  simp at hi
  have : i = 0 ∨ i = 1 := by omega
  rcases this with rfl | rfl <;> rfl

theorem facts2 {w : World} {c : Nat} {n0 n1 : ByteArray} {s0 s1 : Value} {l0 l1 : List ByteArray} {t : TypeId} {fr : Nat × Nat} (h : w.heap[c]? = some (.cells #[.string n0, s0, .string n1, s1] t fr)) (h0 : Strs w s0 l0) (h1 : Strs w s1 l1) :
    Facts w (.slice (some ⟨c, 0, none⟩) 2 2) [(n0, l0), (n1, l1)] := by
  refine ⟨by simp, _, 2, rfl, fun _ => ⟨c, 0, rfl, (Array.getElem?_eq_some_iff.1 h).1, fun i hi => ?_⟩⟩
  rw [cell_of_row _ _ _ _ _ _ h, cell_of_row _ _ _ _ _ _ h]
  simp at hi
  have : i = 0 ∨ i = 1 := by omega
  rcases this with rfl | rfl
  · exact ⟨rfl, s0, rfl, h0⟩
  · exact ⟨rfl, s1, rfl, h1⟩

set_option maxRecDepth 100000 in
set_option maxHeartbeats 2000000 in
theorem alive4 (w : World) (m : Int) (hm : w.cell? ⟨0, 0, none⟩ = some (.int .i64 m)) : Calls Tryz.prog 15 #[] w fun e w' => e = .returned (.bool true) ∧ Below w.heap.size w w' := by
  have HP := hide (bodyFC txtE w m hm)
  rw [toldE] at HP
  clear hm
  go_enter Tryz.func15, Tryz.ntmps15
  go_wp2_with fail
  refine HP.out.mono ?_
  rintro e w1 ⟨v1, rfl, hV1, hB1⟩
  obtain ⟨w2, hw2⟩ : ∃ w2, w2 = (((w1.alloc (.cells #[.int .i64 0, .int .i64 0] 65)).alloc (.cells #[.string { data := #[97] }, .string { data := #[98] }] 9)).alloc (.cells #[.string { data := #[98] }, .string { data := #[97] }] 9)).alloc (.cells #[.string { data := #[101] }, .slice (some ⟨w1.heap.size + 1, 0, none⟩) 2 2, .string { data := #[101] }, .slice (some ⟨w1.heap.size + 2, 0, none⟩) 2 2] 41) := ⟨_, rfl⟩
  have hL2 : Later w1 w2 := by rw [hw2]; exact (by repeat (first | exact Later.refl _ | assumption | refine Later.drewN ?_ _ | refine Later.drew ?_ | refine Later.alloc ?_ _ | refine Later.grow ?_ _))
  have r1 : w2.heap[w1.heap.size + 1]? = some (.cells #[.string sA, .string sB] 9 (0, 0)) := by
    rw [hw2]
    simp only [heap_at, World.size_alloc]
    repeat (first | rw [if_pos trivial] | rw [if_pos (by omega)] | rw [if_neg (by omega)])
    rfl
  have r2 : w2.heap[w1.heap.size + 2]? = some (.cells #[.string sB, .string sA] 9 (0, 0)) := by
    rw [hw2]
    simp only [heap_at, World.size_alloc]
    repeat (first | rw [if_pos trivial] | rw [if_pos (by omega)] | rw [if_neg (by omega)])
    rfl
  have r3 : w2.heap[w1.heap.size + 3]? = some (.cells #[.string sE, .slice (some ⟨w1.heap.size + 1, 0, none⟩) 2 2, .string sE, .slice (some ⟨w1.heap.size + 2, 0, none⟩) 2 2] 41 (0, 0)) := by
    rw [hw2]
    simp only [heap_at, World.size_alloc]
    repeat (first | rw [if_pos trivial] | rw [if_pos (by omega)] | rw [if_neg (by omega)])
    rfl
  have hF := facts2 r3 (strs2 r1) (strs2 r2)
  have HA := hide (allC bodyE v1 _ [fE1, fE2] w2 (Kind.sl_later (Kind.sl_any hV1) hL2) hF)
  have HB2 := hide (below_trans hB1 hL2.below hB1.size)
  have HW2 := hide hw2
  obtain ⟨va, vc, rfl⟩ := Kind.slice hV1
  clear HP hV1 hB1 hL2 r1 r2 r3 hF hw2
  go_wp2_with fail
  rw [← HW2.out]
  refine HA.out.mono ?_
  rintro e w3 ⟨v3, er, rfl, hT, hB3⟩
  unfold WithT at hT
  rw [if_neg (fun h => h errE), allE] at hT
  obtain ⟨rfl, hsl⟩ := hT
  obtain ⟨p3, pc3, rfl⟩ := Kind.slice hsl
  obtain ⟨b5, o5, _, rfl, hb5, ⟨u5, rfl, hu5⟩, hc5⟩ := Kind.sl_at hsl (i := 0) rfl
  have y0 : w3.cell? ⟨b5, o5, none⟩ = some u5 := by simpa [slK] using hc5 0 _ rfl
  obtain ⟨p5, pc5, rfl⟩ := Kind.slice hu5
  obtain ⟨b6, o6, _, rfl, hb6, rfl, hc6⟩ := Kind.sl_at hu5 (i := 0) rfl
  have y1 : w3.cell? ⟨b6, o6 + 1, none⟩ = some (.string sA) := by simpa [bindK] using hc6 1 _ rfl
  have HB3 := hide (below_trans HB2.out hB3 HB2.out.size)
  have hl1 : lE1.length = 2 := rfl
  have hl2 : [lE1, lE2].length = 2 := rfl
  rw [hl1] at y0
  rw [hl2]
  have hqa : (sA.toList == ({ data := #[97] } : ByteArray).toList) = true := by rw [eq_list]; exact decide_eq_true rfl
  clear HA HB2 hB3 hsl hu5 hc5 hc6 hl1 hl2
  go_wp2
  go_ret
  exact ⟨ret_bool (by simp [sA, Lib.toList_data]), HB3.out⟩

end Go.Proofs.YthogickpeldhlaaGreat

/- The walk of MatchSo. -/
namespace Go.Proofs.YthogickpeldhlaaGreat
open Go.RowKit Go.Sort

/-- What With tells, apart. -/
theorem WithT.cases {w : World} {v : Value} {er : Int} {body : List AtomD} {fs os : List FactD} {at_ : Int} (h : WithT w v er body fs at_ os) :
    (v = .slice none 0 0 ∧ er ≠ 0) ∨ (er = 0 ∧ errW body fs os = 0 ∧ ∃ R, allB (pickB fs at_ os) body = some R ∧ listK.sl Anyw w v R) := by
  unfold WithT at h
  split at h
  · rename_i h0
    exact Or.inl ⟨h.1, by rw [h.2]; exact h0⟩
  · rename_i h0
    split at h
    · exact Or.inl ⟨h.1, by rw [h.2]; decide⟩
    · rename_i R hR
      exact Or.inr ⟨h.1, Classical.byContradiction h0, R, hR, h.2⟩

/-- With each list that is told the body is so; lists rise. -/
theorem told_so {body : List AtomD} {fs : List FactD} (h : errW body fs [] = 0) {R : List (List BindD)} (hR : allB (pickB fs (-1) []) body = some R) :
    (∀ l ∈ R, ∀ a ∈ body, ∃ f, fillB a l = some f ∧ inB fs f = !a.no) ∧ R.Pairwise (fun a b => cmpBs a b < 0) ∧ Rises fs := by
  obtain ⟨h1, h2, _⟩ := errW_zero h
  have hc := covers_of h1
  obtain ⟨_, hr, _⟩ := set_right h2
  rw [pick_all'] at hR
  refine ⟨fun l hl => ?_, all_strict hc (fun _ => rises_nodup hr) hR, hr⟩
  have hf := (all_mem hc hR l).1 hl
  exact SoB_const.1 hf.2.2.2

set_option maxRecDepth 100000 in
set_option maxHeartbeats 4000000 in
theorem matchSoW (v fv : Value) (body : List AtomD) (fs : List FactD) (w : World) (m : Int) (hm : w.cell? ⟨0, 0, none⟩ = some (.int .i64 m)) (hv : atomK.sl Anyw w v body) (hf : Facts w fv fs) :
    Calls Tryz.prog 4 #[v, fv] w fun e w' => e = .returned (.bool true) ∧ Below w.heap.size w w' := by
  have HA := hide (alive4 w m hm)
  have HV := hide hv
  have HF := hide hf
  have HAll : Hid (∀ w1, Below w.heap.size w w1 → Calls Tryz.prog 8 #[v, fv] w1 fun e w' => ∃ v' er, e = .returned (.tuple #[v', .int .i64 er]) ∧ WithT w' v' er body fs (-1) [] ∧ Below w.heap.size w w') := fun w1 hB =>
    (allC body v fv fs w1 (Kind.sl_below hv hB) (hf.below hB)).mono fun e w' ⟨v', er, he, hT, hB2⟩ => ⟨v', er, he, hT, below_trans hB hB2 hB.size⟩
  obtain ⟨a, cap, rfl⟩ := Kind.slice hv
  obtain ⟨fa, fc, rfl⟩ := sliceFacts hf
  have hbl := hv.1.1
  clear hv hf hm
  go_enter Tryz.func4, Tryz.ntmps4
  go_wp2_with fail
  refine HA.out.mono ?_
  rintro e w1 ⟨rfl, hB1⟩
  have HA1 := hide (HAll.out w1 hB1)
  clear HA HAll hB1
  go_wp2_with fail
  refine HA1.out.mono ?_
  rintro e w2 ⟨v', er, rfl, hT, hB2⟩
  have HB2 := hide hB2
  rcases hT.cases with ⟨rfl, hne⟩ | ⟨rfl, h0, R, hR, hsl⟩
  · have hq : (er != 0) = true := by simpa using hne
    clear hT hne hB2 HA1
    go_wp2
    go_ret
    exact ⟨rfl, HB2.out⟩
  · obtain ⟨hso, hst, hri⟩ := told_so h0 hR
    have HSo := hide hso
    have HSt := hide hst
    have HRi := hide hri
    have HRL := hide hsl
    have HV2 := hide (Kind.sl_below HV.out hB2)
    have HF2 := hide (HF.out.below hB2)
    have hrl := hsl.1.1
    obtain ⟨ra, rc, rfl⟩ := Kind.slice hsl
    clear hT hB2 HA1 h0 hR hsl hso hst hri HV HF
    go_wp2
    go_loopg [28] R.length (fun g i wr => ∃ j : Nat, j + g = R.length ∧ i = .int .i64 j ∧ Hid (Later w2 wr))
    case atStart => exact ⟨0, by omega, rfl, Later.refl _⟩
    case round =>
      obtain ⟨j, hj, rfl, HL⟩ := hrel
      by_cases hlt : j < R.length
      · obtain ⟨l, hx⟩ : ∃ x, R[j]? = some x := ⟨_, List.getElem?_eq_getElem hlt⟩
        obtain ⟨b1, o1, _, rfl, hb1, ⟨lv, rfl, hlv⟩, hc⟩ := Kind.sl_at HRL.out hx
        have d0 : wr.cell? ⟨b1, o1 + j, none⟩ = some lv := by rw [HL.out.cell hb1]; simpa [slK] using hc 0 _ rfl
        have hbr : b1 < wr.heap.size := Nat.lt_of_lt_of_le hb1 HL.out.size
        have HLV := hide hlv
        obtain ⟨la, lc, rfl⟩ := Kind.slice hlv
        have HSl : Hid (∀ a ∈ body, ∃ f, fillB a l = some f ∧ inB fs f = !a.no) := HSo.out l (List.mem_of_getElem? hx)
        have HX := hide hx
        clear hc hx hlv
        go_wp2
        go_loopg [35] body.length (fun g i wr => ∃ k : Nat, k + g = body.length ∧ i = .int .i64 k ∧ Hid (Later w2 wr))
        case atStart => exact ⟨0, by omega, rfl, HL⟩
        case round =>
          clear d0 hbr HL
          obtain ⟨k, hk, rfl, HL⟩ := hrel
          by_cases hltk : k < body.length
          · obtain ⟨t, ht⟩ : ∃ x, body[k]? = some x := ⟨_, List.getElem?_eq_getElem hltk⟩
            obtain ⟨b2, o2, _, rfl, hb2, ⟨sv, rfl, hsv⟩, hc⟩ := Kind.sl_at HV2.out ht
            have d0 : wr.cell? ⟨b2, o2 + k * 3, none⟩ = some (.bool t.no) := by rw [HL.out.cell hb2]; exact hc 0 _ rfl
            have d1 : wr.cell? ⟨b2, o2 + k * 3 + 1, none⟩ = some (.string (bs t.name)) := by rw [HL.out.cell hb2]; exact hc 1 _ rfl
            have d2 : wr.cell? ⟨b2, o2 + k * 3 + 2, none⟩ = some sv := by rw [HL.out.cell hb2]; exact hc 2 _ rfl
            have hbr : b2 < wr.heap.size := Nat.lt_of_lt_of_le hb2 HL.out.size
            obtain ⟨sva, svc, rfl⟩ := Kind.slice hsv
            have hLt : Later w2 (wr.alloc (.cells #[.bool t.no, .string (bs t.name), .slice sva t.terms.length svc] 38)) := HL.out.alloc _
            have HFc := hide (fillC t _ (.slice la l.length lc) l (wr.alloc (.cells #[.bool t.no, .string (bs t.name), .slice sva t.terms.length svc] 38)) (Kind.sl_later hsv hLt) (Kind.sl_later HLV.out hLt))
            obtain ⟨f, hf, hin⟩ := HSl.out t (List.mem_of_getElem? ht)
            unfold filled at HFc
            rw [hf] at HFc
            simp only [Option.isSome_some, Option.getD_some] at HFc
            rw [← in_eq] at hin
            have HIN := hide hin
            have HLt := hide hLt
            clear hc ht hsv hf hin hLt
            generalize bs t.name = nm at *
            generalize t.no = tn at *
            go_wp2_with fail
            refine HFc.out.mono ?_
            rintro e w3 ⟨f3, rfl, hfv, hL3⟩
            have HFV := hide hfv
            obtain ⟨s, rfl, hs⟩ := hfv
            obtain ⟨sA', sC', rfl⟩ := sliceStr hs
            obtain ⟨fn, fargs⟩ := f
            dsimp only at *
            obtain ⟨wb, hwb⟩ : ∃ wb, wb = w3.alloc (.cells #[.string fn, .slice sA' fargs.length sC'] 41) := ⟨_, rfl⟩
            have hL3b : Later w3 wb := by rw [hwb]; exact (Later.refl _).alloc _
            have hLb : Later w2 wb := HLt.out.trans (hL3.trans hL3b)
            have hFb : FactV wb (.agg #[.string fn, .slice sA' fargs.length sC']) (fn, fargs) := HFV.out.later hL3b
            have z : wb.cell? ⟨w3.heap.size, 0, none⟩ = some (.string fn) ∧ wb.cell? ⟨w3.heap.size, 1, none⟩ = some (.slice sA' fargs.length sC') := by rw [hwb]; simp
            have hs3 : wr.heap.size < w3.heap.size := by have := hL3.size; simp at this; omega
            have zz : wb.cell? ⟨wr.heap.size, 0, none⟩ = some (.bool tn) := by rw [(hL3.trans hL3b).cell (by simp)]; simp
            have hsb : w3.heap.size < wb.heap.size := by rw [hwb]; simp
            have CELL : Hid (∀ w', Later wb w' → w'.cell? ⟨w3.heap.size, 0, none⟩ = some (.string fn) ∧ w'.cell? ⟨w3.heap.size, 1, none⟩ = some (.slice sA' fargs.length sC') ∧ w'.cell? ⟨wr.heap.size, 0, none⟩ = some (.bool tn)) := fun w' hL =>
              ⟨by rw [hL.cell hsb]; exact z.1, by rw [hL.cell hsb]; exact z.2, by rw [hL.cell (by show wr.heap.size < _; omega)]; exact zz⟩
            have HIn : Hid (∀ w', Later wb w' → Calls Tryz.prog 16 #[.slice fa fs.length fc, .agg #[.string fn, .slice sA' fargs.length sC']] w' fun e w4 => e = .returned (.bool (!tn)) ∧ Later w' w4) := fun w' hL => by
              have := inC _ _ fs (fn, fargs) w' (HF2.out.later (hLb.trans hL)) (hFb.later hL) HRi.out
              rwa [HIN.out] at this
            have HWB := hide hwb
            clear hs hL3 HFc hwb z zz hsb HFV hFb hL3b HIN
            go_wp2
            rw [← HWB.out]
            have htt : ((!tn) == tn) = false := by cases tn <;> rfl
            refine wp_region_held_drew (S := fun w' => Later wb w') (by kernel_rfl) (Later.refl _).drew (fun hHeld => ?_)
            refine take_at (i := 0) (d := some 45) (v := ?_) rfl rfl (by kernel_rfl) (by kernel_rfl) (by kernel_rfl) (fun _ _ _ h => h) (Or.inl ⟨by rfl, ?_⟩) hHeld ?_
            rotate_left
            · intro w hSw; (try dsimp only at hSw);  go_simp; try with_reducible rfl
            simp only [Act.put, List.setIfInBounds_toArray, List.set_cons_zero, List.set_cons_succ]
            refine take_at (i := 1) (d := some 46) (v := ?_) rfl rfl (by kernel_rfl) (by kernel_rfl) (by kernel_rfl) (fun _ _ _ h => h) (Or.inl ⟨by rfl, ?_⟩) hHeld ?_
            rotate_left
            · intro w hSw; (try dsimp only at hSw);  go_simp; try with_reducible rfl
            simp only [Act.put, List.setIfInBounds_toArray, List.set_cons_zero, List.set_cons_succ]
            refine take_at (i := 2) (d := some 47) (v := ?_) rfl rfl (by kernel_rfl) (by kernel_rfl) (by kernel_rfl) (fun _ _ _ h => h) (Or.inl ⟨by rfl, ?_⟩) hHeld ?_
            rotate_left
            · intro w hSw; (try dsimp only at hSw);  go_simp; try with_reducible rfl
            simp only [Act.put, List.setIfInBounds_toArray, List.set_cons_zero, List.set_cons_succ]
            refine take_at (i := 3) (d := some 48) (v := ?_) rfl rfl (by kernel_rfl) (by kernel_rfl) (by kernel_rfl) (fun _ _ _ h => h) (Or.inl ⟨by rfl, ?_⟩) hHeld ?_
            rotate_left
            · intro w hSw; (try dsimp only at hSw);  go_simp; try with_reducible rfl
            simp only [Act.put, List.setIfInBounds_toArray, List.set_cons_zero, List.set_cons_succ]
            refine take_at (i := 4) (d := some 49) (v := ?_) rfl rfl (by kernel_rfl) (by kernel_rfl) (by kernel_rfl) (fun _ _ _ h => h) (Or.inl ⟨by rfl, ?_⟩) hHeld ?_
            rotate_left
            · intro w hSw; (try dsimp only at hSw); obtain ⟨q0, q1, q2⟩ := CELL.out w hSw; go_simp; try with_reducible rfl
            simp only [Act.put, List.setIfInBounds_toArray, List.set_cons_zero, List.set_cons_succ]
            refine take_at (i := 6) (d := some 51) (v := ?_) rfl rfl (by kernel_rfl) (by kernel_rfl) (by kernel_rfl) (fun _ _ _ h => h) (Or.inl ⟨by rfl, ?_⟩) hHeld ?_
            rotate_left
            · intro w hSw; (try dsimp only at hSw);  go_simp; try with_reducible rfl
            simp only [Act.put, List.setIfInBounds_toArray, List.set_cons_zero, List.set_cons_succ]
            refine take_at (i := 7) (d := some 52) (v := ?_) rfl rfl (by kernel_rfl) (by kernel_rfl) (by kernel_rfl) (fun _ _ _ h => h) (Or.inl ⟨by rfl, ?_⟩) hHeld ?_
            rotate_left
            · intro w hSw; (try dsimp only at hSw); obtain ⟨q0, q1, q2⟩ := CELL.out w hSw; go_simp; try with_reducible rfl
            simp only [Act.put, List.setIfInBounds_toArray, List.set_cons_zero, List.set_cons_succ]
            refine wpAnyH_ready (rs := [5]) (by kernel_rfl) (by simp) ?_
            refine AllReadyH.cons rfl (fun K hK => ?_) AllReadyH.nil
            go_simp
            refine (HIn.out _ hHeld).mono ?_
            rintro e u1 ⟨rfl, hU1⟩
            dsimp only
            have hU1' : Later wb u1 := Later.trans hHeld hU1
            refine hK.out _ _ hU1' (fun hHeld => ?_)
            clear hK K
            refine take_at (i := 8) (d := some 53) (v := ?_) rfl rfl (by kernel_rfl) (by kernel_rfl) (by kernel_rfl) (fun _ _ _ h => h) (Or.inl ⟨by rfl, ?_⟩) hHeld ?_
            rotate_left
            · intro w hSw; (try dsimp only at hSw);  go_simp; try with_reducible rfl
            simp only [Act.put, List.setIfInBounds_toArray, List.set_cons_zero, List.set_cons_succ]
            refine take_at (i := 9) (d := some 54) (v := ?_) rfl rfl (by kernel_rfl) (by kernel_rfl) (by kernel_rfl) (fun _ _ _ h => h) (Or.inl ⟨by rfl, ?_⟩) hHeld ?_
            rotate_left
            · intro w hSw; (try dsimp only at hSw);  go_simp; try with_reducible rfl
            simp only [Act.put, List.setIfInBounds_toArray, List.set_cons_zero, List.set_cons_succ]
            refine wpAnyH_done (by kernel_rfl) ?_ _
            have HLu := hide (hLb.trans hU1')
            go_wp2
            go_roundg (body.length - (k + 1))
            case measure => omega
            case rel => exact ⟨k + 1, by omega, by go_num, HLu⟩
          · by_cases hj0 : j = 0
            · subst hj0
              go_wp2
              go_roundg (R.length - (0 + 1))
              case measure => omega
              case rel => exact ⟨0 + 1, by omega, by go_num, HL⟩
            · obtain ⟨i, rfl⟩ : ∃ i, j = i + 1 := ⟨j - 1, by omega⟩
              obtain ⟨l0, hx0⟩ : ∃ x, R[i]? = some x := ⟨_, List.getElem?_eq_getElem (by omega)⟩
              obtain ⟨b3, o3, _, e3, hb3, ⟨lv0, rfl, hlv0⟩, hc0⟩ := Kind.sl_at HRL.out hx0
              cases e3
              have d3 : wr.cell? ⟨b1, o1 + i, none⟩ = some lv0 := by rw [HL.out.cell hb3]; simpa [slK] using hc0 0 _ rfl
              have hbr3 : b1 < wr.heap.size := Nat.lt_of_lt_of_le hb3 HL.out.size
              have hls : lessBs l0 l = true := by
                have h1 := List.pairwise_iff_getElem.1 HSt.out i (i + 1) (by omega) hlt (by omega)
                have h2 := (List.getElem?_eq_some_iff.1 hx0).2
                have h3 := (List.getElem?_eq_some_iff.1 HX.out).2
                rw [h2, h3] at h1
                unfold lessBs
                exact decide_eq_true h1
              have HLB := hide (lessBinds lv0 (.slice la l.length lc) l0 l wr (Kind.sl_later hlv0 HL.out) (Kind.sl_later HLV.out HL.out))
              rw [hls] at HLB
              obtain ⟨la0, lc0, rfl⟩ := Kind.slice hlv0
              have hpos : (0 : Int) < ((i + 1 : Nat) : Int) := by omega
              have hsub : ((i + 1 : Nat) : Int) - 1 = (i : Int) := by omega
              have hsb : IntKind.i64.wrap (i : Int) = (i : Int) := by simp [IntKind.wrap, IntKind.bits, IntKind.signed]; omega
              clear hc0 hx0 hlv0 hls
              go_wp2_with fail
              refine HLB.out.mono ?_
              rintro e w4 ⟨rfl, hL4⟩
              have HL4 := hide (HL.out.trans hL4)
              clear hL4 HLB
              go_wp2
              go_roundg (R.length - (i + 1 + 1))
              case measure => omega
              case rel => exact ⟨i + 1 + 1, by omega, by go_num, HL4⟩
      · go_wp2
        go_ret
        exact ⟨rfl, below_trans HB2.out HL.out.below HB2.out.size⟩

end Go.Proofs.YthogickpeldhlaaGreat

/- Programs among a call's arguments, opened: how they lie in memory, and that no list of theirs is longer than the form's reach, no text longer than Go's. -/
namespace Go.Proofs.YthogickpeldhlaaGreat
open Go.RowKit Go.Sort Go.ChangeShapes Go.WideShapes Go.ChangeAt Go.Deep

variable {H : Type} {enc : TypeId × Value → H} {W : World}

theorem ownP : ownKnob Tryz.prog.godebug = none := by kernel_rfl
theorem laidOutP : laidOutB Tryz.prog = true := by kernel_rfl
theorem cellsStrP : Tryz.prog.cellsOf 9 = 1 := by kernel_rfl
theorem addr_plainP {a : Addr} {v : Value} (h : W.cell? (a.add 0) = some v) : ∃ b off, a = ⟨b, off, none⟩ := by
  obtain ⟨b, off, spot⟩ := a
  have hspot : spot = none := by simpa [Addr.add] using World.cell?_spot h
  subst hspot
  exact ⟨b, off, rfl⟩

/-- Each list within reach. -/
def Sized (t : TypeId) (d : DataW H) : Prop := (d.weights Tryz.prog t).all (· ≤ reachBytes) = true
/-- How a type's values are opened. -/
def Opens {α : Type} (enc : TypeId × Value → H) (W : World) (ty : TypeId) (K : Kind α) (ok : α → Prop) : Prop :=
  ∀ n cs x, DataW.trod enc Tryz.prog W 0 (fun _ => true) true n ty cs = some x → Sized ty x.1 → ∃ a, K.is Anyw W cs a ∧ ok a

theorem sized_all {e : TypeId} {l : List (DataW H)} (h : (DataW.weightsAll Tryz.prog e l).all (· ≤ reachBytes) = true) : ∀ d ∈ l, Sized e d := by
  induction l with
  | nil => intro d hd; cases hd
  | cons x r ih =>
    simp only [DataW.weightsAll, List.all_append, Bool.and_eq_true] at h
    intro d hd
    rcases List.mem_cons.1 hd with rfl | hd
    · exact h.1
    · exact ih h.2 d hd

set_option maxRecDepth 100000 in
theorem openSlB {α : Type} {K : Kind α} {T ty : TypeId} {ok : α → Prop} (hT : Tryz.prog.underlying T = some (.slice ty)) (hc : Tryz.prog.cellsOf ty = K.size) (hby : 16 ≤ Tryz.prog.bytesOf ty) (hsz : 0 < K.size) (E : Opens enc W ty K ok)
    {n : Nat} {v : Value} {x : DataW H × List MemPlace} (hf : DataW.trod enc Tryz.prog W 0 (fun _ => true) true n T [v] = some x) (hw : Sized T x.1) : ∃ l, K.sl Anyw W v l ∧ (∀ a ∈ l, ok a) ∧ l.length * Tryz.prog.bytesOf ty ≤ reachBytes := by
  rcases open_slice hT hf with ⟨hcs, _⟩ | ⟨a, len, cap, m, k, D, Pl, hcs, _, hl, hm, hmm, hx, hel⟩
  · simp only [List.cons.injEq, and_true] at hcs
    exact ⟨[], by rw [hcs]; exact K.sl_nil _ _ _ _, fun a ha => (by cases ha), by simp⟩
  · simp only [List.cons.injEq, and_true] at hcs
    simp only [if_true] at hmm
    subst hmm
    rw [hc] at hel
    have hd : x.1 = .slice ((List.range len).map D) ((List.range (m - len)).map fun j => D (len + j)) := by rw [hx]
    have hw2 : (decide ((len + (m - len)) * Tryz.prog.bytesOf ty ≤ reachBytes) && ((DataW.weightsAll Tryz.prog ty ((List.range len).map D)).all (· ≤ reachBytes) && (DataW.weightsAll Tryz.prog ty ((List.range (m - len)).map fun j => D (len + j))).all (· ≤ reachBytes))) = true := by
      have := hw
      unfold Sized at this
      rw [hd, DataW.weights, hT] at this
      simpa using this
    simp only [Bool.and_eq_true] at hw2
    have hlen : len ≤ 8796093022208 := by
      have h1 : (len + (m - len)) * Tryz.prog.bytesOf ty ≤ reachBytes := of_decide_eq_true hw2.1
      have h2 : len * 16 ≤ (len + (m - len)) * Tryz.prog.bytesOf ty := Nat.mul_le_mul (by omega) hby
      unfold reachBytes at h1
      omega
    have each : ∀ i : Fin len, ∃ z : α, ∃ cs', W.cells? 0 (a.add (i.1 * K.size)) K.size = some cs' ∧ K.is Anyw W cs' z ∧ ok z := fun i => by
      obtain ⟨cs', k1, k2⟩ := hel i.1 (by omega)
      obtain ⟨z, hz, hk⟩ := E _ _ _ k2 (sized_all hw2.2.1 _ (List.mem_map.2 ⟨i.1, List.mem_range.2 i.2, rfl⟩))
      exact ⟨z, cs', k1, hz, hk⟩
    refine ⟨List.ofFn fun i => Classical.choose (each i), ⟨⟨by simpa using hlen, ?_⟩, some a, m, by rw [hcs]; simp, fun hne => ?_⟩, fun z hz => ?_, ?_⟩
    · rw [hcs]; show len ≤ m; omega
    rotate_left
    rotate_left
    · have h1 : (len + (m - len)) * Tryz.prog.bytesOf ty ≤ reachBytes := of_decide_eq_true hw2.1
      rw [List.length_ofFn]
      exact Nat.le_trans (Nat.mul_le_mul_right _ (by omega)) h1
    rotate_left
    · rw [List.mem_ofFn] at hz
      obtain ⟨i, rfl⟩ := hz
      obtain ⟨_, _, _, hok⟩ := Classical.choose_spec (each i)
      exact hok
    have h0 : 0 < len := by
      refine Nat.pos_of_ne_zero fun e => hne ?_
      subst e; rfl
    have first : ∀ i : Fin len, ∀ cs', W.cells? 0 (a.add (i.1 * K.size)) K.size = some cs' → ∀ j u, cs'[j]? = some u → W.cell? ((a.add (i.1 * K.size)).add j) = some u := fun i cs' k1 j u hu => by
      obtain ⟨h1, _, hcell⟩ := World.cells?_some k1
      have hj : j < cs'.length := (List.getElem?_eq_some_iff.1 hu).1
      have := hcell j (by omega)
      rw [this]; exact hu
    have hplain : ∃ b off, a = ⟨b, off, none⟩ := by
      obtain ⟨cs', k0, k1, _⟩ := Classical.choose_spec (each ⟨0, h0⟩)
      have hl := K.len k1
      have hu : cs'[0]? = some (cs'[0]'(by omega)) := List.getElem?_eq_getElem (by omega)
      have := first ⟨0, h0⟩ cs' k0 0 _ hu
      exact addr_plainP (W := W) (v := cs'[0]'(by omega)) (by simpa [Addr.add] using this)
    obtain ⟨b, off, rfl⟩ := hplain
    have hlt : b < W.heap.size := by
      obtain ⟨cs', k0, k1, _⟩ := Classical.choose_spec (each ⟨0, h0⟩)
      have hl := K.len k1
      have hu : cs'[0]? = some (cs'[0]'(by omega)) := List.getElem?_eq_getElem (by omega)
      have := first ⟨0, h0⟩ cs' k0 0 _ hu
      rw [Addr.add_lit, Addr.add_lit] at this
      exact World.block_lt_of_cell? W _ this
    refine ⟨b, off, rfl, trivial, hlt, fun i z hi => ?_⟩
    have hi' : i < len := by simpa using (List.getElem?_eq_some_iff.1 hi).1
    rw [List.getElem?_ofFn, dif_pos hi'] at hi
    injection hi with hi
    subst hi
    obtain ⟨cs', k0, k1, _⟩ := Classical.choose_spec (each ⟨i, hi'⟩)
    refine ⟨cs', k1, fun j u hu => ?_⟩
    have := first ⟨i, hi'⟩ cs' k0 j u hu
    rw [Addr.add_lit, Addr.add_lit] at this
    exact this

theorem openSl {α : Type} {K : Kind α} {T ty : TypeId} {ok : α → Prop} (hT : Tryz.prog.underlying T = some (.slice ty)) (hc : Tryz.prog.cellsOf ty = K.size) (hby : 16 ≤ Tryz.prog.bytesOf ty) (hsz : 0 < K.size) (E : Opens enc W ty K ok)
    {n : Nat} {v : Value} {x : DataW H × List MemPlace} (hf : DataW.trod enc Tryz.prog W 0 (fun _ => true) true n T [v] = some x) (hw : Sized T x.1) : ∃ l, K.sl Anyw W v l ∧ ∀ a ∈ l, ok a := by
  obtain ⟨l, h1, h2, _⟩ := openSlB hT hc hby hsz E hf hw
  exact ⟨l, h1, h2⟩

/-- No text is longer than Go's. -/
def okT (t : TermD) : Prop := t.2.length ≤ maxLen
def okA (a : AtomD) : Prop := a.name.length ≤ maxLen ∧ ∀ t ∈ a.terms, okT t
def okR (r : RuleD) : Prop := okA r.head ∧ ∀ a ∈ r.body, okA a

theorem cellsTerm : Tryz.prog.cellsOf 73 = 2 := by kernel_rfl
theorem cellsTerms : Tryz.prog.cellsOf 36 = 1 := by kernel_rfl
theorem cellsAtom : Tryz.prog.cellsOf 38 = 3 := by kernel_rfl
theorem cellsAtoms : Tryz.prog.cellsOf 22 = 1 := by kernel_rfl
theorem cellsBool : Tryz.prog.cellsOf 4 = 1 := by kernel_rfl
theorem bytesTerm : Tryz.prog.bytesOf 73 = 24 := by kernel_rfl
theorem bytesAtom : Tryz.prog.bytesOf 38 = 48 := by kernel_rfl

set_option maxRecDepth 100000 in
theorem opensTerm : Opens enc W 73 termK okT := by
  intro n cs x h _
  obtain ⟨y0, y1, m, hx, hl, h0, h1⟩ := trod_struct2 Tryz.underlying73 h
  rw [cellsTerm] at hl
  match cs, hl with
  | [c0, c1], _ =>
    have e0 : Tryz.prog.cellsOf 4 = 1 := cellsBool
    have e1 : Tryz.prog.cellsOf 9 = 1 := cellsStrP
    simp only [e0, e1, List.drop_zero, List.drop_succ_cons, List.take_succ_cons, List.take_zero] at h0 h1
    obtain ⟨b, hb, _⟩ := DataW.trod_bool Tryz.underlying4 h0
    obtain ⟨s, hs, _, hsz⟩ := DataW.trod_string Tryz.underlying9 h1
    simp only [List.cons.injEq, and_true] at hb hs
    exact ⟨(b, raw s), by show [c0, c1] = _; rw [hb, hs, bs_raw], by show (raw s).length ≤ _; rw [length_raw]; exact hsz⟩

set_option maxRecDepth 100000 in
theorem opensAtom : Opens enc W 38 atomK okA := by
  intro n cs x h hw
  obtain ⟨y0, y1, y2, m, hx, hl, h0, h1, h2⟩ := trod_struct3 Tryz.underlying38 h
  rw [cellsAtom] at hl
  match cs, hl with
  | [c0, c1, c2], _ =>
    have e0 : Tryz.prog.cellsOf 4 = 1 := cellsBool
    have e1 : Tryz.prog.cellsOf 9 = 1 := cellsStrP
    have e2 : Tryz.prog.cellsOf 36 = 1 := cellsTerms
    simp only [e0, e1, e2, List.drop_zero, List.drop_succ_cons, List.take_succ_cons, List.take_zero] at h0 h1 h2
    obtain ⟨b, hb, _⟩ := DataW.trod_bool Tryz.underlying4 h0
    obtain ⟨s, hs, _, hsz⟩ := DataW.trod_string Tryz.underlying9 h1
    simp only [List.cons.injEq, and_true] at hb hs
    have hw2 : Sized 36 y2.1 := by
      unfold Sized at hw ⊢
      rw [hx, DataW.weights, Tryz.underlying38] at hw
      simp only [List.map_cons, List.map_nil, DataW.weightsEach, List.all_append, Bool.and_eq_true] at hw
      exact hw.2.2.1
    obtain ⟨l, hl, hlk⟩ := openSl Tryz.underlying36 cellsTerm (by rw [bytesTerm]; decide) (by decide) opensTerm h2 hw2
    exact ⟨⟨b, raw s, l⟩, ⟨c2, by show [c0, c1, c2] = _; rw [hb, hs, bs_raw], hl⟩, by show (raw s).length ≤ _; rw [length_raw]; exact hsz, hlk⟩

/-- What the form's reach says of an argument. -/
theorem sized_at {ts : List TypeId} {ds : List (DataW H)} (h : (DataW.weightsEach Tryz.prog ts ds).all (· ≤ reachBytes) = true) {j : Nat} {t : TypeId} {d : DataW H} (ht : ts[j]? = some t) (hd : ds[j]? = some d) : Sized t d :=
  List.all_eq_true.2 fun k hk => List.all_eq_true.1 h _ (DataW.weights_mem_each ht hd k hk)

end Go.Proofs.YthogickpeldhlaaGreat

/- Facts, atoms and texts among a call's arguments, opened, each list within the form's reach. -/
namespace Go.Proofs.YthogickpeldhlaaGreat
open Go.RowKit Go.Sort Go.ChangeShapes Go.WideShapes Go.ChangeAt Go.Deep

variable {H : Type} {enc : TypeId × Value → H} {W : World}

/-- A fact lies in two cells. -/
def factK : Kind FactD where
  size := 2
  is := fun B w c f => ∃ s, c = [.string f.1, s] ∧ bsK.sl B w s f.2
  len := fun ⟨s, h, _⟩ => by subst h; rfl
  one := fun ⟨s, h, hs⟩ u hu => by
    subst h
    obtain ⟨a, cap, rfl⟩ := Kind.slice hs
    simp at hu; rcases hu with rfl | rfl <;> rfl
  kept := fun ⟨v, h, hs⟩ h1 h2 => ⟨v, h, Kind.sl_kept hs h1 h2⟩
  mono := fun ⟨v, h, hs⟩ h1 => ⟨v, h, Kind.sl_mono hs h1⟩

theorem sl_strs {B : Nat → Prop} {w : World} {v : Value} {l : List ByteArray} (h : bsK.sl B w v l) : Strs w v l := by
  obtain ⟨⟨h0, _⟩, a, cap, rfl, h1⟩ := h
  refine ⟨h0, a, cap, rfl, fun hne => ?_⟩
  obtain ⟨b, off, rfl, _, hb, hc⟩ := h1 hne
  refine ⟨b, off, rfl, hb, fun i hi => ?_⟩
  obtain ⟨c, rfl, c2⟩ := hc i _ (List.getElem?_eq_getElem hi)
  have := c2 0 _ rfl
  rw [List.getD_eq_getElem?_getD, List.getElem?_eq_getElem hi]
  simpa [bsK] using this

theorem sl_facts {B : Nat → Prop} {w : World} {v : Value} {l : List FactD} (h : factK.sl B w v l) (hl : l.length ≤ 3518437208883) : Facts w v l := by
  obtain ⟨_, a, cap, rfl, h1⟩ := h
  refine ⟨hl, a, cap, rfl, fun hne => ?_⟩
  obtain ⟨b, off, rfl, _, hb, hc⟩ := h1 hne
  refine ⟨b, off, rfl, hb, fun i hi => ?_⟩
  obtain ⟨c, ⟨s, rfl, hs⟩, c2⟩ := hc i _ (List.getElem?_eq_getElem hi)
  rw [List.getD_eq_getElem?_getD, List.getElem?_eq_getElem hi]
  exact ⟨by simpa [factK] using c2 0 _ rfl, s, by simpa [factK] using c2 1 _ rfl, sl_strs hs⟩

def okS (s : ByteArray) : Prop := s.size ≤ maxLen
def okFt (f : FactD) : Prop := okS f.1 ∧ ∀ s ∈ f.2, okS s

theorem cellsFactP : Tryz.prog.cellsOf 41 = 2 := by kernel_rfl
theorem cellsStrsP : Tryz.prog.cellsOf 39 = 1 := by kernel_rfl
theorem bytesFactP : Tryz.prog.bytesOf 41 = 40 := by kernel_rfl
theorem bytesStrP : Tryz.prog.bytesOf 9 = 16 := by kernel_rfl

set_option maxRecDepth 100000 in
theorem opensStr : Opens enc W 9 bsK okS := by
  intro n cs x h _
  obtain ⟨s, hs, _, hsz⟩ := DataW.trod_string Tryz.underlying9 h
  exact ⟨s, hs, hsz⟩

set_option maxRecDepth 100000 in
theorem opensFact : Opens enc W 41 factK okFt := by
  intro n cs x h hw
  obtain ⟨y0, y1, m, hx, hl, h0, h1⟩ := trod_struct2 Tryz.underlying41 h
  rw [cellsFactP] at hl
  match cs, hl with
  | [c0, c1], _ =>
    have e0 : Tryz.prog.cellsOf 9 = 1 := cellsStrP
    have e1 : Tryz.prog.cellsOf 39 = 1 := cellsStrsP
    simp only [e0, e1, List.drop_zero, List.drop_succ_cons, List.take_succ_cons, List.take_zero] at h0 h1
    obtain ⟨s, hs, _, hsz⟩ := DataW.trod_string Tryz.underlying9 h0
    simp only [List.cons.injEq, and_true] at hs
    have hw2 : Sized 39 y1.1 := by
      unfold Sized at hw ⊢
      rw [hx, DataW.weights, Tryz.underlying41] at hw
      simp only [List.map_cons, List.map_nil, DataW.weightsEach, List.all_append, Bool.and_eq_true] at hw
      exact hw.2.1
    obtain ⟨l, hl, hlk⟩ := openSl Tryz.underlying39 cellsStrP (by rw [bytesStrP]; decide) (by decide) opensStr h1 hw2
    exact ⟨(s, l), ⟨c1, by show [c0, c1] = _; rw [hs], hl⟩, hsz, hlk⟩

set_option maxRecDepth 100000 in
theorem openFactsS {b0 : Nat} {v : Value} {d : DataW H} {p : List MemPlace} (hv : Value.okWide Tryz.prog W .any b0 23 v) (h : DataW.Trod enc Tryz.prog W 0 (fun _ => true) true 23 v d p) (hw : Sized 23 d) : ∃ l, Facts W v l ∧ ∀ f ∈ l, okFt f := by
  obtain ⟨a0, len0, cap0, rfl⟩ := okWide_slice Tryz.underlying23 hv
  obtain ⟨fuel, hf⟩ := h
  obtain ⟨l, h1, h2, h3⟩ := openSlB Tryz.underlying23 cellsFactP (by rw [bytesFactP]; decide) (by decide) opensFact (x := (d, p)) (by simpa [Value.cells] using hf) hw
  rw [bytesFactP] at h3
  exact ⟨l, sl_facts h1 (by unfold reachBytes at h3; omega), h2⟩

set_option maxRecDepth 100000 in
theorem openAtoms {b0 : Nat} {v : Value} {d : DataW H} {p : List MemPlace} (hv : Value.okWide Tryz.prog W .any b0 22 v) (h : DataW.Trod enc Tryz.prog W 0 (fun _ => true) true 22 v d p) (hw : Sized 22 d) : ∃ l, atomK.sl Anyw W v l ∧ (∀ a ∈ l, okA a) ∧ l.length * 48 ≤ reachBytes := by
  obtain ⟨a0, len0, cap0, rfl⟩ := okWide_slice Tryz.underlying22 hv
  obtain ⟨fuel, hf⟩ := h
  obtain ⟨l, h1, h2, h3⟩ := openSlB Tryz.underlying22 cellsAtom (by rw [bytesAtom]; decide) (by decide) opensAtom (x := (d, p)) (by simpa [Value.cells] using hf) hw
  rw [bytesAtom] at h3
  exact ⟨l, h1, h2, h3⟩

set_option maxRecDepth 100000 in
theorem openStrsS {b0 : Nat} {v : Value} {d : DataW H} {p : List MemPlace} (hv : Value.okWide Tryz.prog W .any b0 39 v) (h : DataW.Trod enc Tryz.prog W 0 (fun _ => true) true 39 v d p) (hw : Sized 39 d) : ∃ l, Strs W v l ∧ ∀ s ∈ l, okS s := by
  obtain ⟨a0, len0, cap0, rfl⟩ := okWide_slice Tryz.underlying39 hv
  obtain ⟨fuel, hf⟩ := h
  obtain ⟨l, h1, h2, _⟩ := openSlB Tryz.underlying39 cellsStrP (by rw [bytesStrP]; decide) (by decide) opensStr (x := (d, p)) (by simpa [Value.cells] using hf) hw
  exact ⟨l, sl_strs h1, h2⟩

end Go.Proofs.YthogickpeldhlaaGreat
