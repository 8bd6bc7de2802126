import Derived.Test.YthogickpeldhlabGreatJ12
import Derived.Test.YthogickpeldhlabGreatJ14
import Derived.Test.YthogickpeldhlabGreatJ3
import Derived.ProofKit
import Derived.SliceStrings
import Derived.Deep.Slices
import Derived.Deep.Strs
import Derived.Lib.SmallJoins
import Derived.SizedLaws
/- The walk of chapter 4's statements' closed beginning, alive. -/
namespace Go.Proofs.YthogickpeldhlabGreat
open Go.RowKit Go.Sort

def txtE : ByteArray := { data := #[101, 40, 88, 44, 89, 41, 44, 32, 101, 40, 89, 44, 88, 41] }
def bodyE : List AtomD := [⟨false, [101], [(true, [88]), (true, [89])]⟩, ⟨false, [101], [(true, [89]), (true, [88])]⟩]
def sE : ByteArray := { data := #[101] }
def sA : ByteArray := { data := #[97] }
def sB : ByteArray := { data := #[98] }
def sX : ByteArray := { data := #[88] }
def sY : ByteArray := { data := #[89] }
def fE1 : FactD := (sE, [sA, sB])
def fE2 : FactD := (sE, [sB, sA])
theorem toldE : toldAtom (raw txtE) = (bodyE, 0, 0) := by kernel_rfl
theorem wrongE : wrongBody bodyE = 0 := by kernel_rfl

theorem cmpE : cmpF fE1 fE2 = -1 := by
  simp [cmpF, fE1, fE2, cmpS, Lib.toList_data, sE, sA, sB, Op.bytesLess, cmpI, cmpL]
theorem faultE : setFault [fE1, fE2] = (0, 0) := by
  have h1 : wrongF fE1 = 0 := by decide +kernel
  have h2 : wrongF fE2 = 0 := by decide +kernel
  unfold setFault
  rw [if_neg (by simp)]
  simp only [List.length_cons, List.length_nil, faultFrom, List.getD_eq_getElem?_getD]
  simp [h1, h2, cmpE]
theorem fault0 : setFault [] = (0, 0) := rfl
theorem errE : errW bodyE [fE1, fE2] [] = 0 := by
  unfold errW
  rw [wrongE, faultE, fault0]; rfl

def lE1 : List BindD := [(sX, sA), (sY, sB)]
def lE2 : List BindD := [(sX, sB), (sY, sA)]
theorem metE : metGo (fun _ => [fE1, fE2]) 0 bodyE [[]] = some [lE1, lE2] := by decide +kernel
theorem barE : [lE1, lE2].filter (fun l => !barredB (fun _ => [fE1, fE2]) 0 bodyE l) = [lE1, lE2] := by decide +kernel

theorem cmpXY : cmpS sX sY = -1 := by simp [cmpS, Lib.toList_data, sX, sY, Op.bytesLess]
theorem cmpAB4 : cmpS sA sB = -1 := by simp [cmpS, Lib.toList_data, sA, sB, Op.bytesLess]
theorem sort1 : sortB lE1 = lE1 := (sortBy_of three_cmpB (List.Perm.refl _) (by simp [lE1, cmpB, cmpXY])).symm
theorem sort2 : sortB lE2 = lE2 := (sortBy_of three_cmpB (List.Perm.refl _) (by simp [lE2, cmpB, cmpXY])).symm
theorem sort12 : sortBy cmpBs [lE1, lE2] = [lE1, lE2] := (sortBy_of three_cmpBs (List.Perm.refl _) (by simp [lE1, lE2, cmpX, cmpB, three_cmpS.refl, cmpAB4])).symm
theorem allE : allB (pickB [fE1, fE2] (-1) []) bodyE = some [lE1, lE2] := by
  rw [pick_all']
  unfold allB
  rw [metE]
  dsimp only
  rw [barE]
  simp only [List.map_cons, List.map_nil, sort1, sort2, sort12]

theorem strs2 {w : World} {c : Nat} {a b : ByteArray} {t : TypeId} {fr : Nat × Nat} (h : w.heap[c]? = some (.cells #[.string a, .string b] t fr)) : Strs w (.slice (some ⟨c, 0, none⟩) 2 2) [a, b] := by
  refine ⟨by simp, _, 2, rfl, fun _ => ⟨c, 0, rfl, (Array.getElem?_eq_some_iff.1 h).1, fun i hi => ?_⟩⟩
  rw [cell_of_row _ _ _ _ _ _ h]
  simp at hi
  have : i = 0 ∨ i = 1 := by omega
  rcases this with rfl | rfl <;> rfl

theorem facts2 {w : World} {c : Nat} {n0 n1 : ByteArray} {s0 s1 : Value} {l0 l1 : List ByteArray} {t : TypeId} {fr : Nat × Nat} (h : w.heap[c]? = some (.cells #[.string n0, s0, .string n1, s1] t fr)) (h0 : Strs w s0 l0) (h1 : Strs w s1 l1) :
    Facts w (.slice (some ⟨c, 0, none⟩) 2 2) [(n0, l0), (n1, l1)] := by
  refine ⟨by simp, _, 2, rfl, fun _ => ⟨c, 0, rfl, (Array.getElem?_eq_some_iff.1 h).1, fun i hi => ?_⟩⟩
  rw [cell_of_row _ _ _ _ _ _ h, cell_of_row _ _ _ _ _ _ h]
  simp at hi
  have : i = 0 ∨ i = 1 := by omega
  rcases this with rfl | rfl
  · exact ⟨rfl, s0, rfl, h0⟩
  · exact ⟨rfl, s1, rfl, h1⟩

set_option maxRecDepth 100000 in
set_option maxHeartbeats 2000000 in
theorem alive4 (w : World) (m : Int) (hm : w.cell? ⟨0, 0, none⟩ = some (.int .i64 m)) : Calls Tryz.prog 5 #[] w fun e w' => e = .returned (.bool true) ∧ Below w.heap.size w w' := by
  have HP := hide (bodyFC txtE w m hm)
  rw [toldE] at HP
  clear hm
  go_enter Tryz.func5, Tryz.ntmps5
  go_wp2_with fail
  refine HP.out.mono ?_
  rintro e w1 ⟨v1, rfl, hV1, hB1⟩
  obtain ⟨w2, hw2⟩ : ∃ w2, w2 = (((w1.alloc (.cells #[.int .i64 0, .int .i64 0] 48)).alloc (.cells #[.string { data := #[97] }, .string { data := #[98] }] 9)).alloc (.cells #[.string { data := #[98] }, .string { data := #[97] }] 9)).alloc (.cells #[.string { data := #[101] }, .slice (some ⟨w1.heap.size + 1, 0, none⟩) 2 2, .string { data := #[101] }, .slice (some ⟨w1.heap.size + 2, 0, none⟩) 2 2] 40) := ⟨_, rfl⟩
  have hL2 : Later w1 w2 := by rw [hw2]; exact (by repeat (first | exact Later.refl _ | assumption | refine Later.drewN ?_ _ | refine Later.drew ?_ | refine Later.alloc ?_ _ | refine Later.grow ?_ _))
  have r1 : w2.heap[w1.heap.size + 1]? = some (.cells #[.string sA, .string sB] 9 (0, 0)) := by
    rw [hw2]
    simp only [heap_at, World.size_alloc]
    repeat (first | rw [if_pos trivial] | rw [if_pos (by omega)] | rw [if_neg (by omega)])
    rfl
  have r2 : w2.heap[w1.heap.size + 2]? = some (.cells #[.string sB, .string sA] 9 (0, 0)) := by
    rw [hw2]
    simp only [heap_at, World.size_alloc]
    repeat (first | rw [if_pos trivial] | rw [if_pos (by omega)] | rw [if_neg (by omega)])
    rfl
  have r3 : w2.heap[w1.heap.size + 3]? = some (.cells #[.string sE, .slice (some ⟨w1.heap.size + 1, 0, none⟩) 2 2, .string sE, .slice (some ⟨w1.heap.size + 2, 0, none⟩) 2 2] 40 (0, 0)) := by
    rw [hw2]
    simp only [heap_at, World.size_alloc]
    repeat (first | rw [if_pos trivial] | rw [if_pos (by omega)] | rw [if_neg (by omega)])
    rfl
  have hF := facts2 r3 (strs2 r1) (strs2 r2)
  have HA := hide (allC bodyE v1 _ [fE1, fE2] w2 (Kind.sl_later (Kind.sl_any hV1) hL2) hF)
  have HB2 := hide (below_trans hB1 hL2.below hB1.size)
  have HW2 := hide hw2
  obtain ⟨va, vc, rfl⟩ := Kind.slice hV1
  clear HP hV1 hB1 hL2 r1 r2 r3 hF hw2
  go_wp2_with fail
  rw [← HW2.out]
  refine HA.out.mono ?_
  rintro e w3 ⟨v3, er, rfl, hT, hB3⟩
  unfold WithT at hT
  rw [if_neg (fun h => h errE), allE] at hT
  obtain ⟨rfl, hsl⟩ := hT
  obtain ⟨p3, pc3, rfl⟩ := Kind.slice hsl
  obtain ⟨b5, o5, _, rfl, hb5, ⟨u5, rfl, hu5⟩, hc5⟩ := Kind.sl_at hsl (i := 0) rfl
  have y0 : w3.cell? ⟨b5, o5, none⟩ = some u5 := by simpa [slK] using hc5 0 _ rfl
  obtain ⟨p5, pc5, rfl⟩ := Kind.slice hu5
  obtain ⟨b6, o6, _, rfl, hb6, rfl, hc6⟩ := Kind.sl_at hu5 (i := 0) rfl
  have y1 : w3.cell? ⟨b6, o6 + 1, none⟩ = some (.string sA) := by simpa [bindK] using hc6 1 _ rfl
  have HB3 := hide (below_trans HB2.out hB3 HB2.out.size)
  have hl1 : lE1.length = 2 := rfl
  have hl2 : [lE1, lE2].length = 2 := rfl
  rw [hl1] at y0
  rw [hl2]
  have hqa : (sA.toList == ({ data := #[97] } : ByteArray).toList) = true := by rw [eq_list]; exact decide_eq_true rfl
  clear HA HB2 hB3 hsl hu5 hc5 hc6 hl1 hl2
  go_wp2
  go_ret
  exact ⟨ret_bool (by simp [sA, Lib.toList_data]), HB3.out⟩

end Go.Proofs.YthogickpeldhlabGreat

/- The walk of MatchSo. -/
namespace Go.Proofs.YthogickpeldhlabGreat
open Go.RowKit Go.Sort

/-- What With tells, apart. -/
theorem WithT.cases {w : World} {v : Value} {er : Int} {body : List AtomD} {fs os : List FactD} {at_ : Int} (h : WithT w v er body fs at_ os) :
    (v = .slice none 0 0 ∧ er ≠ 0) ∨ (er = 0 ∧ errW body fs os = 0 ∧ ∃ R, allB (pickB fs at_ os) body = some R ∧ listK.sl Anyw w v R) := by
  unfold WithT at h
  split at h
  · rename_i h0
    exact Or.inl ⟨h.1, by rw [h.2]; exact h0⟩
  · rename_i h0
    split at h
    · exact Or.inl ⟨h.1, by rw [h.2]; decide⟩
    · rename_i R hR
      exact Or.inr ⟨h.1, Classical.byContradiction h0, R, hR, h.2⟩

/-- With each list that is told the body is so; lists rise. -/
theorem told_so {body : List AtomD} {fs : List FactD} (h : errW body fs [] = 0) {R : List (List BindD)} (hR : allB (pickB fs (-1) []) body = some R) :
    (∀ l ∈ R, ∀ a ∈ body, ∃ f, fillB a l = some f ∧ inB fs f = !a.no) ∧ R.Pairwise (fun a b => cmpBs a b < 0) ∧ Rises fs := by
  obtain ⟨h1, h2, _⟩ := errW_zero h
  have hc := covers_of h1
  obtain ⟨_, hr, _⟩ := set_right h2
  rw [pick_all'] at hR
  refine ⟨fun l hl => ?_, all_strict hc (fun _ => rises_nodup hr) hR, hr⟩
  have hf := (all_mem hc hR l).1 hl
  exact SoB_const.1 hf.2.2.2

end Go.Proofs.YthogickpeldhlabGreat

/- The walk of MatchOrder. -/
namespace Go.Proofs.YthogickpeldhlabGreat
open Go.RowKit Go.Sort

theorem infoAtom4 : ∃ i, Tryz.prog.info? 33 = some i ∧ i.zero = some (.agg #[.bool false, .string ByteArray.empty, .slice none 0 0]) ∧ i.size = 3 ∧ i.bytes = 48 := ⟨Tryz.t33, by kernel_rfl, by kernel_rfl, by kernel_rfl, by kernel_rfl⟩

/-- A row of atoms of a call's own; their terms were there in w0. -/
def RowA (w0 w : World) (v : Value) (l : List AtomD) : Prop :=
  ∃ xs, w.ownsRow w0.heap.size 33 3 v l.length xs ∧ ∀ i a, l[i]? = some a → ∃ c, atomK.is Anyw w0 c a ∧ ∀ j u, c[j]? = some u → xs[i * 3 + j]? = some u

theorem RowA.nil (w0 w : World) : RowA w0 w (.slice none 0 0) [] := ⟨[], World.ownsRow_nil w _ _ _, fun i a h => by simp at h⟩

theorem RowA.slice {w0 w : World} {v : Value} {l : List AtomD} (h : RowA w0 w v l) : ∃ a cap, v = .slice a l.length cap := by
  obtain ⟨xs, ho, _⟩ := h
  rcases ho.2 with ⟨rfl, e⟩ | ⟨g, cap, cur, rfl, _⟩
  · exact ⟨none, 0, by rw [e]⟩
  · exact ⟨_, cap, rfl⟩

theorem RowA.lo {w0 w : World} {v : Value} {l : List AtomD} (h : RowA w0 w v l) : ∀ k, v.ownBlock = some k → w0.heap.size ≤ k ∧ k < w.heap.size := fun k e => by
  obtain ⟨xs, ho, _⟩ := h; exact ho.lt k e

/-- One atom more. -/
theorem RowA.more {w0 w : World} {v : Value} {l : List AtomD} (h : RowA w0 w v l) (hs : w0.heap.size ≤ w.heap.size) {c : List Value} {a : AtomD} (hc : atomK.is Anyw w0 c a) (hl : (l.length + 1) * 48 ≤ 140737488355328) :
    ∃ v' w', (Builtin.append_ #[22, 22] 22 #[v, .slice (some ⟨w.heap.size, 0, none⟩) 1 1]).run Tryz.prog (w.alloc (.cells c.toArray 33)) = .ok v' w' ∧ RowA w0 w' v' (l ++ [a]) ∧ (w.alloc (.cells c.toArray 33)).grownBy w' v.ownBlock ∧ w.drawn ≤ w'.drawn := by
  obtain ⟨i, i1, i2, i3, i4⟩ := infoAtom4
  obtain ⟨xs, ho, hx⟩ := h
  have hcl : c.length = 3 := atomK.len hc
  have hnews : ∀ j u, c[j]? = some u → (w.alloc (.cells c.toArray 33)).cell? ((⟨w.heap.size, 0, none⟩ : Addr).add j) = some u := by
    intro j u hu
    rw [Addr.add_lit, Nat.zero_add, cell_of_row _ w.heap.size j c.toArray 33 (0, 0) (heap_alloc_new w _)]
    simpa using hu
  obtain ⟨v', w', hrun, r1, r2, r3, _⟩ := append_own (P := Tryz.prog) (w.alloc (.cells c.toArray 33)) w0.heap.size 22 22 33 i _ 3 48 Tryz.underlying22 i1 i2 i3 i4 rfl (by omega) v l.length xs (ho.alloc _) ⟨w.heap.size, 0, none⟩ 1 1 c (by rw [hcl]) hnews
    (atomK.one hc) (by simp only [maxLen]; omega) hl (by simp; omega)
  refine ⟨v', w', hrun, ⟨xs ++ c, by simpa using r1, fun j y hj => ?_⟩, r2, r3⟩
  have hxl : xs.length = l.length * 3 := ho.1
  by_cases hjl : j < l.length
  · rw [List.getElem?_append_left hjl] at hj
    obtain ⟨d, d1, d2⟩ := hx j y hj
    refine ⟨d, d1, fun q u hu => ?_⟩
    have := d2 q u hu
    rw [List.getElem?_append_left (List.getElem?_eq_some_iff.1 this).1]; exact this
  · rw [List.getElem?_append_right (by omega)] at hj
    have hj' : j = l.length := by
      have := (List.getElem?_eq_some_iff.1 hj).1
      simp at this; omega
    subst hj'
    simp at hj
    subst hj
    refine ⟨c, hc, fun q u hu => ?_⟩
    rw [List.getElem?_append_right (by omega), hxl, Nat.add_sub_cancel_left]; exact hu

theorem RowA.sl {w0 w : World} {v : Value} {l : List AtomD} (h : RowA w0 w v l) (hb : Below w0.heap.size w0 w) (hl : l.length ≤ 8796093022208) : atomK.sl Anyw w v l := by
  obtain ⟨xs, ho, hx⟩ := h
  rcases ho.2 with ⟨rfl, e⟩ | ⟨g, cap, cur, rfl, hbg, hg, hnc, _⟩
  · have : l = [] := List.eq_nil_of_length_eq_zero e
    subst this
    exact atomK.sl_nil _ _ _ _
  · refine ⟨⟨hl, hnc⟩, _, cap, rfl, fun _ => ⟨g, 0, rfl, trivial, (Array.getElem?_eq_some_iff.1 hg).1, fun i x hi => ?_⟩⟩
    obtain ⟨c, c1, c2⟩ := hx i x hi
    refine ⟨c, atomK.kept c1 hb.size fun k hk _ => hb.block k hk, fun j u hu => ?_⟩
    have := ho.cells (g := g) rfl _ u (c2 j u hu)
    rw [Addr.add_lit] at this
    rw [Nat.add_assoc]; exact this

theorem turned_step {l : List AtomD} {i : Nat} {a : AtomD} (h : l[l.length - 1 - i]? = some a) (hi : i < l.length) : l.reverse.take (i + 1) = l.reverse.take i ++ [a] := by
  rw [List.take_add_one]
  congr 1
  rw [List.getElem?_reverse hi, h]; rfl

/-- Told of a body and of it turned around: the same. -/
theorem told_turned {body : List AtomD} {fs : List FactD} (h : errW body fs [] = 0) (h' : errW body.reverse fs [] = 0) {R R' : List (List BindD)} (hR : allB (pickB fs (-1) []) body = some R) (hR' : allB (pickB fs (-1) []) body.reverse = some R') : R = R' := by
  obtain ⟨h1, h2, _⟩ := errW_zero h
  obtain ⟨h3, _, _⟩ := errW_zero h'
  obtain ⟨_, hr, _⟩ := set_right h2
  rw [pick_all'] at hR hR'
  exact all_turned (covers_of h1) (covers_of h3) (rises_nodup hr) hR hR'

set_option maxRecDepth 100000 in
set_option maxHeartbeats 4000000 in
theorem matchOrderW (v fv : Value) (body : List AtomD) (fs : List FactD) (w : World) (m : Int) (hm : w.cell? ⟨0, 0, none⟩ = some (.int .i64 m)) (hv : atomK.sl Anyw w v body) (hf : Facts w fv fs) (hbl : body.length * 48 ≤ 140737488355328) :
    Calls Tryz.prog 4 #[v, fv] w fun e w' => e = .returned (.bool true) ∧ Below w.heap.size w w' := by
  have HA := hide (alive4 w m hm)
  have HV := hide hv
  have HF := hide hf
  obtain ⟨a, cap, rfl⟩ := Kind.slice hv
  obtain ⟨fa, fc, rfl⟩ := sliceFacts hf
  have hbl0 := hv.1.1
  clear hv hf hm
  go_enter Tryz.func4, Tryz.ntmps4
  go_wp2_with fail
  refine HA.out.mono ?_
  rintro e w1 ⟨rfl, hB1⟩
  have HB1 := hide hB1
  have HV1 := hide (Kind.sl_below HV.out hB1)
  have HF1 := hide (HF.out.below hB1)
  clear HA hB1 HV HF
  go_wp2
  go_loopg [5, 15] body.length (fun g o i wr => ∃ j : Nat, j + g = body.length ∧ i = .int .i64 j ∧ Hid (RowA w1 wr o (body.reverse.take j)) ∧ Hid (Later w1 wr))
  case atStart => exact ⟨0, by omega, rfl, RowA.nil _ _, Later.refl _⟩
  case round =>
    obtain ⟨j, hj, rfl, HO, HL⟩ := hrel
    obtain ⟨ao, no', co, rfl⟩ : ∃ a n c, u5 = .slice a n c := by obtain ⟨a, c, e⟩ := RowA.slice HO.out; exact ⟨a, _, c, e⟩
    by_cases hlt : j < body.length
    · obtain ⟨t, ht⟩ : ∃ x, body[body.length - 1 - j]? = some x := ⟨_, List.getElem?_eq_getElem (by omega)⟩
      obtain ⟨b2, o2, c, rfl, hb2, hcis, hc⟩ := Kind.sl_at HV1.out ht
      have hcis' := hcis
      obtain ⟨sv, rfl, hsv⟩ := hcis
      have d0 : wr.cell? ⟨b2, o2 + (body.length - 1 - j) * 3, none⟩ = some (.bool t.no) := by rw [HL.out.cell hb2]; exact hc 0 _ rfl
      have d1 : wr.cell? ⟨b2, o2 + (body.length - 1 - j) * 3 + 1, none⟩ = some (.string (bs t.name)) := by rw [HL.out.cell hb2]; exact hc 1 _ rfl
      have d2 : wr.cell? ⟨b2, o2 + (body.length - 1 - j) * 3 + 2, none⟩ = some sv := by rw [HL.out.cell hb2]; exact hc 2 _ rfl
      have hbr : b2 < wr.heap.size := Nat.lt_of_lt_of_le hb2 HL.out.size
      have hlen : (body.reverse.take j).length = j := by rw [List.length_take, List.length_reverse]; omega
      obtain ⟨v', w4, hrun, hO4, hg4, hd4⟩ := HO.out.more HL.out.size hcis' (by rw [hlen]; omega)
      rw [← turned_step ht hlt] at hO4
      have HL4 := hide (HL.out.more hg4 hd4 fun k e => (RowA.lo HO.out k e).1)
      obtain ⟨sva, svc, rfl⟩ := Kind.slice hsv
      have HR4 := hide hrun
      have HO4 := hide hO4
      have e1 : ((body.length : Int) - 1 - (j : Int)) = ((body.length - 1 - j : Nat) : Int) := by omega
      have e2 : ((body.length - 1 - j : Nat) : Int) < (body.length : Int) := by omega
      have e3 : IntKind.i64.wrap ((body.length : Int) - 1) = (body.length : Int) - 1 := by simp [IntKind.wrap, IntKind.bits, IntKind.signed]; omega
      have e4 : IntKind.i64.wrap ((body.length - 1 - j : Nat) : Int) = ((body.length - 1 - j : Nat) : Int) := by simp [IntKind.wrap, IntKind.bits, IntKind.signed]; omega
      clear hc ht hsv hcis' hrun hO4 hg4 hd4 hlen
      generalize bs t.name = nm at *
      generalize hkk : body.length - 1 - j = kk at *
      clear hkk
      go_wp2_with (at_builtin; refine wpList_append_run rfl (.tmp 18) (.tmp 27) 22 rfl _ _ _ _ rfl rfl HR4.out ?_)
      go_roundg (body.length - (j + 1))
      case measure => omega
      case rel => exact ⟨j + 1, by omega, by go_num, HO4, HL4⟩
    · have e : j = body.length := by omega
      have hrev : body.reverse.take j = body.reverse := by rw [e, List.take_of_length_le (by simp)]
      have hRA := HO.out
      rw [hrev] at hRA
      have hBr : Below w.heap.size w wr := below_trans HB1.out HL.out.below HB1.out.size
      have HT := hide (hRA.sl HL.out.below (by simpa using hbl0))
      have HAll := hide (allC body _ _ fs wr (Kind.sl_later HV1.out HL.out) (HF1.out.later HL.out))
      have HFr := hide (HF1.out.later HL.out)
      have HBr := hide hBr
      clear hrev hRA hBr e HO HL
      go_wp2_with fail
      refine HAll.out.mono ?_
      rintro e w2 ⟨v2, er2, rfl, hT2, hB2⟩
      have HAl2 := hide (allC body.reverse _ _ fs w2 (Kind.sl_below HT.out hB2) (HFr.out.below hB2))
      have HB2 := hide (below_trans HBr.out hB2 HBr.out.size)
      have HT2 := hide hT2
      obtain ⟨a2, n2, c2, rfl⟩ : ∃ a n c, v2 = .slice a n c := by
        rcases hT2.cases with ⟨rfl, _⟩ | ⟨_, _, R, _, hsl⟩
        · exact ⟨_, _, _, rfl⟩
        · obtain ⟨a, c, e⟩ := Kind.slice hsl; exact ⟨a, _, c, e⟩
      clear HAll hT2 hB2
      go_wp2_with fail
      refine HAl2.out.mono ?_
      rintro e w3 ⟨v3, er3, rfl, hT3, hB3⟩
      have hs2 := HB2.out.size
      rcases HT2.out.cases with ⟨hv2, hne2⟩ | ⟨rfl, h20, R, hR, hsl⟩
      · have hq : (er2 != 0) = true := by simpa using hne2
        have HB3 := hide (below_trans HB2.out hB3 hs2)
        obtain ⟨a3, n3, c3, rfl⟩ : ∃ a n c, v3 = .slice a n c := by
          rcases hT3.cases with ⟨rfl, _⟩ | ⟨_, _, R, _, hsl⟩
          · exact ⟨_, _, _, rfl⟩
          · obtain ⟨a, c, e⟩ := Kind.slice hsl; exact ⟨a, _, c, e⟩
        clear HAl2 hT3 hB3 hv2 hne2
        go_wp2
        go_ret
        exact ⟨rfl, HB3.out⟩
      · rcases hT3.cases with ⟨rfl, hne3⟩ | ⟨rfl, h30, R', hR', hsl'⟩
        · have hq : (er3 != 0) = true := by simpa using hne3
          have HB3 := hide (below_trans HB2.out hB3 hs2)
          clear HAl2 hT3 hB3 hne3 hsl hR h20
          go_wp2
          go_ret
          exact ⟨rfl, HB3.out⟩
        · have hRR := told_turned h20 h30 hR hR'
          subst hRR
          have HSm := hide (sameBinds _ _ R w3 (Kind.sl_below hsl hB3) hsl')
          have HB3 := hide (below_trans HB2.out hB3 hs2)
          obtain ⟨a3, n3, c3, rfl⟩ : ∃ a n c, v3 = .slice a n c := by obtain ⟨a, c, e⟩ := Kind.slice hsl'; exact ⟨a, _, c, e⟩
          clear HAl2 hT3 hB3 hsl hsl' hR hR' h20 h30
          go_wp2_with fail
          refine HSm.out.mono ?_
          rintro e w4 ⟨rfl, hL4⟩
          have HL4 := hide hL4
          clear HSm hL4
          go_wp2
          go_ret
          exact ⟨rfl, below_trans HB3.out HL4.out.below HB3.out.size⟩

end Go.Proofs.YthogickpeldhlabGreat

/- Programs among a call's arguments, opened: how they lie in memory, and that no list of theirs is longer than the form's reach, no text longer than Go's. -/
namespace Go.Proofs.YthogickpeldhlabGreat
open Go.RowKit Go.Sort Go.ChangeShapes Go.WideShapes Go.ChangeAt Go.Deep

variable {H : Type} {enc : TypeId × Value → H} {W : World}

theorem ownP : ownKnob Tryz.prog.godebug = none := by kernel_rfl
theorem laidOutP : laidOutB Tryz.prog = true := by kernel_rfl
theorem cellsStrP : Tryz.prog.cellsOf 9 = 1 := by kernel_rfl
theorem addr_plainP {a : Addr} {v : Value} (h : W.cell? (a.add 0) = some v) : ∃ b off, a = ⟨b, off, none⟩ := by
  obtain ⟨b, off, spot⟩ := a
  have hspot : spot = none := by simpa [Addr.add] using World.cell?_spot h
  subst hspot
  exact ⟨b, off, rfl⟩

/-- Each list within reach. -/
def Sized (t : TypeId) (d : DataW H) : Prop := (d.weights Tryz.prog t).all (· ≤ reachBytes) = true
/-- How a type's values are opened. -/
def Opens {α : Type} (enc : TypeId × Value → H) (W : World) (ty : TypeId) (K : Kind α) (ok : α → Prop) : Prop :=
  ∀ n cs x, DataW.trod enc Tryz.prog W 0 (fun _ => true) true n ty cs = some x → Sized ty x.1 → ∃ a, K.is Anyw W cs a ∧ ok a

theorem sized_all {e : TypeId} {l : List (DataW H)} (h : (DataW.weightsAll Tryz.prog e l).all (· ≤ reachBytes) = true) : ∀ d ∈ l, Sized e d := by
  induction l with
  | nil => intro d hd; cases hd
  | cons x r ih =>
    simp only [DataW.weightsAll, List.all_append, Bool.and_eq_true] at h
    intro d hd
    rcases List.mem_cons.1 hd with rfl | hd
    · exact h.1
    · exact ih h.2 d hd

set_option maxRecDepth 100000 in
theorem openSlB {α : Type} {K : Kind α} {T ty : TypeId} {ok : α → Prop} (hT : Tryz.prog.underlying T = some (.slice ty)) (hc : Tryz.prog.cellsOf ty = K.size) (hby : 16 ≤ Tryz.prog.bytesOf ty) (hsz : 0 < K.size) (E : Opens enc W ty K ok)
    {n : Nat} {v : Value} {x : DataW H × List MemPlace} (hf : DataW.trod enc Tryz.prog W 0 (fun _ => true) true n T [v] = some x) (hw : Sized T x.1) : ∃ l, K.sl Anyw W v l ∧ (∀ a ∈ l, ok a) ∧ l.length * Tryz.prog.bytesOf ty ≤ reachBytes := by
  rcases open_slice hT hf with ⟨hcs, _⟩ | ⟨a, len, cap, m, k, D, Pl, hcs, _, hl, hm, hmm, hx, hel⟩
  · simp only [List.cons.injEq, and_true] at hcs
    exact ⟨[], by rw [hcs]; exact K.sl_nil _ _ _ _, fun a ha => (by cases ha), by simp⟩
  · simp only [List.cons.injEq, and_true] at hcs
    simp only [if_true] at hmm
    subst hmm
    rw [hc] at hel
    have hd : x.1 = .slice ((List.range len).map D) ((List.range (m - len)).map fun j => D (len + j)) := by rw [hx]
    have hw2 : (decide ((len + (m - len)) * Tryz.prog.bytesOf ty ≤ reachBytes) && ((DataW.weightsAll Tryz.prog ty ((List.range len).map D)).all (· ≤ reachBytes) && (DataW.weightsAll Tryz.prog ty ((List.range (m - len)).map fun j => D (len + j))).all (· ≤ reachBytes))) = true := by
      have := hw
      unfold Sized at this
      rw [hd, DataW.weights, hT] at this
      simpa using this
    simp only [Bool.and_eq_true] at hw2
    have hlen : len ≤ 8796093022208 := by
      have h1 : (len + (m - len)) * Tryz.prog.bytesOf ty ≤ reachBytes := of_decide_eq_true hw2.1
      have h2 : len * 16 ≤ (len + (m - len)) * Tryz.prog.bytesOf ty := Nat.mul_le_mul (by omega) hby
      unfold reachBytes at h1
      omega
    have each : ∀ i : Fin len, ∃ z : α, ∃ cs', W.cells? 0 (a.add (i.1 * K.size)) K.size = some cs' ∧ K.is Anyw W cs' z ∧ ok z := fun i => by
      obtain ⟨cs', k1, k2⟩ := hel i.1 (by omega)
      obtain ⟨z, hz, hk⟩ := E _ _ _ k2 (sized_all hw2.2.1 _ (List.mem_map.2 ⟨i.1, List.mem_range.2 i.2, rfl⟩))
      exact ⟨z, cs', k1, hz, hk⟩
    refine ⟨List.ofFn fun i => Classical.choose (each i), ⟨⟨by simpa using hlen, ?_⟩, some a, m, by rw [hcs]; simp, fun hne => ?_⟩, fun z hz => ?_, ?_⟩
    · rw [hcs]; show len ≤ m; omega
    rotate_left
    rotate_left
    · have h1 : (len + (m - len)) * Tryz.prog.bytesOf ty ≤ reachBytes := of_decide_eq_true hw2.1
      rw [List.length_ofFn]
      exact Nat.le_trans (Nat.mul_le_mul_right _ (by omega)) h1
    rotate_left
    · rw [List.mem_ofFn] at hz
      obtain ⟨i, rfl⟩ := hz
      obtain ⟨_, _, _, hok⟩ := Classical.choose_spec (each i)
      exact hok
    have h0 : 0 < len := by
      refine Nat.pos_of_ne_zero fun e => hne ?_
      subst e; rfl
    have first : ∀ i : Fin len, ∀ cs', W.cells? 0 (a.add (i.1 * K.size)) K.size = some cs' → ∀ j u, cs'[j]? = some u → W.cell? ((a.add (i.1 * K.size)).add j) = some u := fun i cs' k1 j u hu => by
      obtain ⟨h1, _, hcell⟩ := World.cells?_some k1
      have hj : j < cs'.length := (List.getElem?_eq_some_iff.1 hu).1
      have := hcell j (by omega)
      rw [this]; exact hu
    have hplain : ∃ b off, a = ⟨b, off, none⟩ := by
      obtain ⟨cs', k0, k1, _⟩ := Classical.choose_spec (each ⟨0, h0⟩)
      have hl := K.len k1
      have hu : cs'[0]? = some (cs'[0]'(by omega)) := List.getElem?_eq_getElem (by omega)
      have := first ⟨0, h0⟩ cs' k0 0 _ hu
      exact addr_plainP (W := W) (v := cs'[0]'(by omega)) (by simpa [Addr.add] using this)
    obtain ⟨b, off, rfl⟩ := hplain
    have hlt : b < W.heap.size := by
      obtain ⟨cs', k0, k1, _⟩ := Classical.choose_spec (each ⟨0, h0⟩)
      have hl := K.len k1
      have hu : cs'[0]? = some (cs'[0]'(by omega)) := List.getElem?_eq_getElem (by omega)
      have := first ⟨0, h0⟩ cs' k0 0 _ hu
      rw [Addr.add_lit, Addr.add_lit] at this
      exact World.block_lt_of_cell? W _ this
    refine ⟨b, off, rfl, trivial, hlt, fun i z hi => ?_⟩
    have hi' : i < len := by simpa using (List.getElem?_eq_some_iff.1 hi).1
    rw [List.getElem?_ofFn, dif_pos hi'] at hi
    injection hi with hi
    subst hi
    obtain ⟨cs', k0, k1, _⟩ := Classical.choose_spec (each ⟨i, hi'⟩)
    refine ⟨cs', k1, fun j u hu => ?_⟩
    have := first ⟨i, hi'⟩ cs' k0 j u hu
    rw [Addr.add_lit, Addr.add_lit] at this
    exact this

theorem openSl {α : Type} {K : Kind α} {T ty : TypeId} {ok : α → Prop} (hT : Tryz.prog.underlying T = some (.slice ty)) (hc : Tryz.prog.cellsOf ty = K.size) (hby : 16 ≤ Tryz.prog.bytesOf ty) (hsz : 0 < K.size) (E : Opens enc W ty K ok)
    {n : Nat} {v : Value} {x : DataW H × List MemPlace} (hf : DataW.trod enc Tryz.prog W 0 (fun _ => true) true n T [v] = some x) (hw : Sized T x.1) : ∃ l, K.sl Anyw W v l ∧ ∀ a ∈ l, ok a := by
  obtain ⟨l, h1, h2, _⟩ := openSlB hT hc hby hsz E hf hw
  exact ⟨l, h1, h2⟩

/-- No text is longer than Go's. -/
def okT (t : TermD) : Prop := t.2.length ≤ maxLen
def okA (a : AtomD) : Prop := a.name.length ≤ maxLen ∧ ∀ t ∈ a.terms, okT t
def okR (r : RuleD) : Prop := okA r.head ∧ ∀ a ∈ r.body, okA a

theorem cellsTerm : Tryz.prog.cellsOf 55 = 2 := by kernel_rfl
theorem cellsTerms : Tryz.prog.cellsOf 31 = 1 := by kernel_rfl
theorem cellsAtom : Tryz.prog.cellsOf 33 = 3 := by kernel_rfl
theorem cellsAtoms : Tryz.prog.cellsOf 22 = 1 := by kernel_rfl
theorem cellsBool : Tryz.prog.cellsOf 4 = 1 := by kernel_rfl
theorem bytesTerm : Tryz.prog.bytesOf 55 = 24 := by kernel_rfl
theorem bytesAtom : Tryz.prog.bytesOf 33 = 48 := by kernel_rfl

set_option maxRecDepth 100000 in
theorem opensTerm : Opens enc W 55 termK okT := by
  intro n cs x h _
  obtain ⟨y0, y1, m, hx, hl, h0, h1⟩ := trod_struct2 Tryz.underlying55 h
  rw [cellsTerm] at hl
  match cs, hl with
  | [c0, c1], _ =>
    have e0 : Tryz.prog.cellsOf 4 = 1 := cellsBool
    have e1 : Tryz.prog.cellsOf 9 = 1 := cellsStrP
    simp only [e0, e1, List.drop_zero, List.drop_succ_cons, List.take_succ_cons, List.take_zero] at h0 h1
    obtain ⟨b, hb, _⟩ := DataW.trod_bool Tryz.underlying4 h0
    obtain ⟨s, hs, _, hsz⟩ := DataW.trod_string Tryz.underlying9 h1
    simp only [List.cons.injEq, and_true] at hb hs
    exact ⟨(b, raw s), by show [c0, c1] = _; rw [hb, hs, bs_raw], by show (raw s).length ≤ _; rw [length_raw]; exact hsz⟩

set_option maxRecDepth 100000 in
theorem opensAtom : Opens enc W 33 atomK okA := by
  intro n cs x h hw
  obtain ⟨y0, y1, y2, m, hx, hl, h0, h1, h2⟩ := trod_struct3 Tryz.underlying33 h
  rw [cellsAtom] at hl
  match cs, hl with
  | [c0, c1, c2], _ =>
    have e0 : Tryz.prog.cellsOf 4 = 1 := cellsBool
    have e1 : Tryz.prog.cellsOf 9 = 1 := cellsStrP
    have e2 : Tryz.prog.cellsOf 31 = 1 := cellsTerms
    simp only [e0, e1, e2, List.drop_zero, List.drop_succ_cons, List.take_succ_cons, List.take_zero] at h0 h1 h2
    obtain ⟨b, hb, _⟩ := DataW.trod_bool Tryz.underlying4 h0
    obtain ⟨s, hs, _, hsz⟩ := DataW.trod_string Tryz.underlying9 h1
    simp only [List.cons.injEq, and_true] at hb hs
    have hw2 : Sized 31 y2.1 := by
      unfold Sized at hw ⊢
      rw [hx, DataW.weights, Tryz.underlying33] at hw
      simp only [List.map_cons, List.map_nil, DataW.weightsEach, List.all_append, Bool.and_eq_true] at hw
      exact hw.2.2.1
    obtain ⟨l, hl, hlk⟩ := openSl Tryz.underlying31 cellsTerm (by rw [bytesTerm]; decide) (by decide) opensTerm h2 hw2
    exact ⟨⟨b, raw s, l⟩, ⟨c2, by show [c0, c1, c2] = _; rw [hb, hs, bs_raw], hl⟩, by show (raw s).length ≤ _; rw [length_raw]; exact hsz, hlk⟩

/-- What the form's reach says of an argument. -/
theorem sized_at {ts : List TypeId} {ds : List (DataW H)} (h : (DataW.weightsEach Tryz.prog ts ds).all (· ≤ reachBytes) = true) {j : Nat} {t : TypeId} {d : DataW H} (ht : ts[j]? = some t) (hd : ds[j]? = some d) : Sized t d :=
  List.all_eq_true.2 fun k hk => List.all_eq_true.1 h _ (DataW.weights_mem_each ht hd k hk)

end Go.Proofs.YthogickpeldhlabGreat
