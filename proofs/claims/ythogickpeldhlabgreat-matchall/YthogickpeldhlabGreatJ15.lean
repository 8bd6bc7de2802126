import Derived.Test.YthogickpeldhlabGreatJ12
import Derived.Test.YthogickpeldhlabGreatJ14
import Derived.Test.YthogickpeldhlabGreatJ3
import Derived.ProofKit
import Derived.SliceStrings
import Derived.Deep.Slices
import Derived.Deep.Strs
import Derived.Lib.SmallJoins
import Derived.SizedLaws
/- The walk of chapter 4's statements' closed beginning, alive. -/
namespace Go.Proofs.YthogickpeldhlabGreat
open Go.RowKit Go.Sort

def txtE : ByteArray := { data := #[101, 40, 88, 44, 89, 41, 44, 32, 101, 40, 89, 44, 88, 41] }
def bodyE : List AtomD := [⟨false, [101], [(true, [88]), (true, [89])]⟩, ⟨false, [101], [(true, [89]), (true, [88])]⟩]
def sE : ByteArray := { data := #[101] }
def sA : ByteArray := { data := #[97] }
def sB : ByteArray := { data := #[98] }
def sX : ByteArray := { data := #[88] }
def sY : ByteArray := { data := #[89] }
def fE1 : FactD := (sE, [sA, sB])
def fE2 : FactD := (sE, [sB, sA])
theorem toldE : toldAtom (raw txtE) = (bodyE, 0, 0) := by kernel_rfl
theorem wrongE : wrongBody bodyE = 0 := by kernel_rfl

theorem cmpE : cmpF fE1 fE2 = -1 := by
  simp [cmpF, fE1, fE2, cmpS, Lib.toList_data, sE, sA, sB, Op.bytesLess, cmpI, cmpL]
theorem faultE : setFault [fE1, fE2] = (0, 0) := by
  have h1 : wrongF fE1 = 0 := by decide +kernel
  have h2 : wrongF fE2 = 0 := by decide +kernel
  unfold setFault
  rw [if_neg (by simp)]
  simp only [List.length_cons, List.length_nil, faultFrom, List.getD_eq_getElem?_getD]
  simp [h1, h2, cmpE]
theorem fault0 : setFault [] = (0, 0) := rfl
theorem errE : errW bodyE [fE1, fE2] [] = 0 := by
  unfold errW
  rw [wrongE, faultE, fault0]; rfl

def lE1 : List BindD := [(sX, sA), (sY, sB)]
def lE2 : List BindD := [(sX, sB), (sY, sA)]
theorem metE : metGo (fun _ => [fE1, fE2]) 0 bodyE [[]] = some [lE1, lE2] := by decide +kernel
theorem barE : [lE1, lE2].filter (fun l => !barredB (fun _ => [fE1, fE2]) 0 bodyE l) = [lE1, lE2] := by decide +kernel

theorem cmpXY : cmpS sX sY = -1 := by simp [cmpS, Lib.toList_data, sX, sY, Op.bytesLess]
theorem cmpAB4 : cmpS sA sB = -1 := by simp [cmpS, Lib.toList_data, sA, sB, Op.bytesLess]
theorem sort1 : sortB lE1 = lE1 := (sortBy_of three_cmpB (List.Perm.refl _) (by simp [lE1, cmpB, cmpXY])).symm
theorem sort2 : sortB lE2 = lE2 := (sortBy_of three_cmpB (List.Perm.refl _) (by simp [lE2, cmpB, cmpXY])).symm
theorem sort12 : sortBy cmpBs [lE1, lE2] = [lE1, lE2] := (sortBy_of three_cmpBs (List.Perm.refl _) (by simp [lE1, lE2, cmpX, cmpB, three_cmpS.refl, cmpAB4])).symm
theorem allE : allB (pickB [fE1, fE2] (-1) []) bodyE = some [lE1, lE2] := by
  rw [pick_all']
  unfold allB
  rw [metE]
  dsimp only
  rw [barE]
  simp only [List.map_cons, List.map_nil, sort1, sort2, sort12]

theorem strs2 {w : World} {c : Nat} {a b : ByteArray} {t : TypeId} {fr : Nat × Nat} (h : w.heap[c]? = some (.cells #[.string a, .string b] t fr)) : Strs w (.slice (some ⟨c, 0, none⟩) 2 2) [a, b] := by
  refine ⟨by simp, _, 2, rfl, fun _ => ⟨c, 0, rfl, (Array.getElem?_eq_some_iff.1 h).1, fun i hi => ?_⟩⟩
  rw [cell_of_row _ _ _ _ _ _ h]
  simp at hi
  have : i = 0 ∨ i = 1 := by omega
  rcases this with rfl | rfl <;> rfl

theorem facts2 {w : World} {c : Nat} {n0 n1 : ByteArray} {s0 s1 : Value} {l0 l1 : List ByteArray} {t : TypeId} {fr : Nat × Nat} (h : w.heap[c]? = some (.cells #[.string n0, s0, .string n1, s1] t fr)) (h0 : Strs w s0 l0) (h1 : Strs w s1 l1) :
    Facts w (.slice (some ⟨c, 0, none⟩) 2 2) [(n0, l0), (n1, l1)] := by
  refine ⟨by simp, _, 2, rfl, fun _ => ⟨c, 0, rfl, (Array.getElem?_eq_some_iff.1 h).1, fun i hi => ?_⟩⟩
  rw [cell_of_row _ _ _ _ _ _ h, cell_of_row _ _ _ _ _ _ h]
  simp at hi
  have : i = 0 ∨ i = 1 := by omega
  rcases this with rfl | rfl
  · exact ⟨rfl, s0, rfl, h0⟩
  · exact ⟨rfl, s1, rfl, h1⟩

set_option maxRecDepth 100000 in
set_option maxHeartbeats 2000000 in
theorem alive4 (w : World) (m : Int) (hm : w.cell? ⟨0, 0, none⟩ = some (.int .i64 m)) : Calls Tryz.prog 5 #[] w fun e w' => e = .returned (.bool true) ∧ Below w.heap.size w w' := by
  have HP := hide (bodyFC txtE w m hm)
  rw [toldE] at HP
  clear hm
  go_enter Tryz.func5, Tryz.ntmps5
  go_wp2_with fail
  refine HP.out.mono ?_
  rintro e w1 ⟨v1, rfl, hV1, hB1⟩
  obtain ⟨w2, hw2⟩ : ∃ w2, w2 = (((w1.alloc (.cells #[.int .i64 0, .int .i64 0] 48)).alloc (.cells #[.string { data := #[97] }, .string { data := #[98] }] 9)).alloc (.cells #[.string { data := #[98] }, .string { data := #[97] }] 9)).alloc (.cells #[.string { data := #[101] }, .slice (some ⟨w1.heap.size + 1, 0, none⟩) 2 2, .string { data := #[101] }, .slice (some ⟨w1.heap.size + 2, 0, none⟩) 2 2] 40) := ⟨_, rfl⟩
  have hL2 : Later w1 w2 := by rw [hw2]; exact (by repeat (first | exact Later.refl _ | assumption | refine Later.drewN ?_ _ | refine Later.drew ?_ | refine Later.alloc ?_ _ | refine Later.grow ?_ _))
  have r1 : w2.heap[w1.heap.size + 1]? = some (.cells #[.string sA, .string sB] 9 (0, 0)) := by
    rw [hw2]
    simp only [heap_at, World.size_alloc]
    repeat (first | rw [if_pos trivial] | rw [if_pos (by omega)] | rw [if_neg (by omega)])
    rfl
  have r2 : w2.heap[w1.heap.size + 2]? = some (.cells #[.string sB, .string sA] 9 (0, 0)) := by
    rw [hw2]
    simp only [heap_at, World.size_alloc]
    repeat (first | rw [if_pos trivial] | rw [if_pos (by omega)] | rw [if_neg (by omega)])
    rfl
  have r3 : w2.heap[w1.heap.size + 3]? = some (.cells #[.string sE, .slice (some ⟨w1.heap.size + 1, 0, none⟩) 2 2, .string sE, .slice (some ⟨w1.heap.size + 2, 0, none⟩) 2 2] 40 (0, 0)) := by
    rw [hw2]
    simp only [heap_at, World.size_alloc]
    repeat (first | rw [if_pos trivial] | rw [if_pos (by omega)] | rw [if_neg (by omega)])
    rfl
  have hF := facts2 r3 (strs2 r1) (strs2 r2)
  have HA := hide (allC bodyE v1 _ [fE1, fE2] w2 (Kind.sl_later (Kind.sl_any hV1) hL2) hF)
  have HB2 := hide (below_trans hB1 hL2.below hB1.size)
  have HW2 := hide hw2
  obtain ⟨va, vc, rfl⟩ := Kind.slice hV1
  clear HP hV1 hB1 hL2 r1 r2 r3 hF hw2
  go_wp2_with fail
  rw [← HW2.out]
  refine HA.out.mono ?_
  rintro e w3 ⟨v3, er, rfl, hT, hB3⟩
  unfold WithT at hT
  rw [if_neg (fun h => h errE), allE] at hT
  obtain ⟨rfl, hsl⟩ := hT
  obtain ⟨p3, pc3, rfl⟩ := Kind.slice hsl
  obtain ⟨b5, o5, _, rfl, hb5, ⟨u5, rfl, hu5⟩, hc5⟩ := Kind.sl_at hsl (i := 0) rfl
  have y0 : w3.cell? ⟨b5, o5, none⟩ = some u5 := by simpa [slK] using hc5 0 _ rfl
  obtain ⟨p5, pc5, rfl⟩ := Kind.slice hu5
  obtain ⟨b6, o6, _, rfl, hb6, rfl, hc6⟩ := Kind.sl_at hu5 (i := 0) rfl
  have y1 : w3.cell? ⟨b6, o6 + 1, none⟩ = some (.string sA) := by simpa [bindK] using hc6 1 _ rfl
  have HB3 := hide (below_trans HB2.out hB3 HB2.out.size)
  have hl1 : lE1.length = 2 := rfl
  have hl2 : [lE1, lE2].length = 2 := rfl
  rw [hl1] at y0
  rw [hl2]
  have hqa : (sA.toList == ({ data := #[97] } : ByteArray).toList) = true := by rw [eq_list]; exact decide_eq_true rfl
  clear HA HB2 hB3 hsl hu5 hc5 hc6 hl1 hl2
  go_wp2
  go_ret
  exact ⟨ret_bool (by simp [sA, Lib.toList_data]), HB3.out⟩

end Go.Proofs.YthogickpeldhlabGreat

/- The walk of MatchSo. -/
namespace Go.Proofs.YthogickpeldhlabGreat
open Go.RowKit Go.Sort

/-- What With tells, apart. -/
theorem WithT.cases {w : World} {v : Value} {er : Int} {body : List AtomD} {fs os : List FactD} {at_ : Int} (h : WithT w v er body fs at_ os) :
    (v = .slice none 0 0 ∧ er ≠ 0) ∨ (er = 0 ∧ errW body fs os = 0 ∧ ∃ R, allB (pickB fs at_ os) body = some R ∧ listK.sl Anyw w v R) := by
  unfold WithT at h
  split at h
  · rename_i h0
    exact Or.inl ⟨h.1, by rw [h.2]; exact h0⟩
  · rename_i h0
    split at h
    · exact Or.inl ⟨h.1, by rw [h.2]; decide⟩
    · rename_i R hR
      exact Or.inr ⟨h.1, Classical.byContradiction h0, R, hR, h.2⟩

/-- With each list that is told the body is so; lists rise. -/
theorem told_so {body : List AtomD} {fs : List FactD} (h : errW body fs [] = 0) {R : List (List BindD)} (hR : allB (pickB fs (-1) []) body = some R) :
    (∀ l ∈ R, ∀ a ∈ body, ∃ f, fillB a l = some f ∧ inB fs f = !a.no) ∧ R.Pairwise (fun a b => cmpBs a b < 0) ∧ Rises fs := by
  obtain ⟨h1, h2, _⟩ := errW_zero h
  have hc := covers_of h1
  obtain ⟨_, hr, _⟩ := set_right h2
  rw [pick_all'] at hR
  refine ⟨fun l hl => ?_, all_strict hc (fun _ => rises_nodup hr) hR, hr⟩
  have hf := (all_mem hc hR l).1 hl
  exact SoB_const.1 hf.2.2.2

end Go.Proofs.YthogickpeldhlabGreat

/- The walk of MatchAll. -/
namespace Go.Proofs.YthogickpeldhlabGreat
open Go.RowKit Go.Sort Go.Maps

/-- Is a list the guess? -/
def sameP (env l : List BindD) (q : Nat) : Bool := decide (l.length = env.length) && (env.take q).all fun b => decide (getB l b.1 = some b.2)

theorem sameP_step {env l : List BindD} {q : Nat} {b : BindD} (h : env[q]? = some b) : sameP env l (q + 1) = (sameP env l q && decide (getB l b.1 = some b.2)) := by
  unfold sameP
  rw [List.take_add_one, h]
  simp [List.all_append, Bool.and_assoc]

theorem sameP_end {env l : List BindD} : sameP env l env.length = true ↔ l.length = env.length ∧ ∀ b ∈ env, getB l b.1 = some b.2 := by
  unfold sameP
  rw [List.take_length]
  simp

theorem told_guess {body : List AtomD} {fs : List FactD} (h : errW body fs [] = 0) {R : List (List BindD)} (hR : allB (pickB fs (-1) []) body = some R) {env : List BindD} (hn : (keysB env).Nodup) (hv : ∀ v, v ∈ keysB env ↔ ∃ a ∈ body, v ∈ (vars a).map bs)
    (hso : ∀ a ∈ body, ∃ f, fillB a env = some f ∧ inB fs f = !a.no) : ∃ l ∈ R, sameP env l env.length = true := by
  obtain ⟨h1, _, _⟩ := errW_zero h
  rw [pick_all'] at hR
  obtain ⟨l, hl, h2, h3⟩ := all_guess (covers_of h1) hR hn hv hso
  exact ⟨l, hl, sameP_end.2 ⟨h2, h3⟩⟩

theorem strK_in {ty : TypeId} {lo : Nat} {w : World} {v : Value} {l : List Bs} (h : strK.own ty lo w v l) (hl : l.length ≤ 8796093022208) : strK.sl (ofBlock v) w v l := by
  obtain ⟨xs, ho, hx⟩ := h
  rcases ho.2 with ⟨rfl, e⟩ | ⟨g, cap, cur, rfl, hbg, hg, hnc, _⟩
  · have : l = [] := List.eq_nil_of_length_eq_zero e
    subst this
    exact strK.sl_nil _ _ _ _
  · refine ⟨⟨hl, hnc⟩, _, cap, rfl, fun _ => ⟨g, 0, rfl, rfl, (Array.getElem?_eq_some_iff.1 hg).1, fun i x hi => ?_⟩⟩
    obtain ⟨c, c1, c2⟩ := hx i x hi
    refine ⟨c, c1, fun j u hu => ?_⟩
    have := ho.cells (g := g) rfl _ u (c2 j u hu)
    rw [Addr.add_lit] at this
    rw [Nat.add_assoc]; exact this

/-- The guess so far: each variable once. -/
structure Guess (body : List AtomD) (i : Nat) (vs : List Bs) (env : List BindD) : Prop where
  nodup : (keysB env).Nodup
  mem : ∀ v, v ∈ keysB env ↔ (∃ a ∈ body.take i, v ∈ (vars a).map bs) ∨ v ∈ vs.map bs

theorem Guess.skip {body : List AtomD} {i : Nat} {vs : List Bs} {env : List BindD} (h : Guess body i vs env) {x : Bs} (hx : bs x ∈ keysB env) : Guess body i (vs ++ [x]) env := by
  refine ⟨h.nodup, fun v => ?_⟩
  rw [h.mem, List.map_append, List.mem_append]
  constructor
  · rintro (h1 | h1)
    · exact Or.inl h1
    · exact Or.inr (Or.inl h1)
  · rintro (h1 | h1 | h1)
    · exact Or.inl h1
    · exact Or.inr h1
    · simp at h1
      rw [h1]; exact (h.mem _).1 hx

theorem Guess.put {body : List AtomD} {i : Nat} {vs : List Bs} {env : List BindD} (h : Guess body i vs env) {x : Bs} (hx : bs x ∉ keysB env) (y : ByteArray) : Guess body i (vs ++ [x]) (env ++ [(bs x, y)]) := by
  refine ⟨?_, fun v => ?_⟩
  · show ((env ++ [(bs x, y)]).map (·.1)).Nodup
    rw [List.map_append, List.nodup_append]
    refine ⟨h.nodup, by simp, fun a ha b hb => ?_⟩
    simp at hb
    rw [hb]
    intro e
    exact hx (by rw [← e]; exact ha)
  · have : v ∈ keysB (env ++ [(bs x, y)]) ↔ v ∈ keysB env ∨ v = bs x := by simp [keysB]
    rw [this, h.mem, List.map_append, List.mem_append]
    simp [or_assoc]

theorem Guess.next {body : List AtomD} {i : Nat} {a : AtomD} {env : List BindD} (ha : body[i]? = some a) (h : Guess body i (vars a) env) : Guess body (i + 1) [] env := by
  refine ⟨h.nodup, fun v => ?_⟩
  rw [h.mem, List.take_add_one, ha]
  simp only [Option.toList, List.mem_append, List.mem_singleton, or_and_right, exists_or, exists_eq_left, List.map_nil, List.not_mem_nil, or_false]

set_option maxRecDepth 100000 in
set_option maxHeartbeats 8000000 in
theorem matchAllW (v fv nv : Value) (body : List AtomD) (fs : List FactD) (names : List ByteArray) (w : World) (m : Int) (hm : w.cell? ⟨0, 0, none⟩ = some (.int .i64 m)) (hv : atomK.sl Anyw w v body) (hf : Facts w fv fs) (hn : Strs w nv names) :
    Calls Tryz.prog 3 #[v, fv, nv] w fun e w' => e = .returned (.bool true) ∧ Below w.heap.size w w' := by
  have HA := hide (alive4 w m hm)
  have HV := hide hv
  have HF := hide hf
  have HN := hide hn
  have HAll : Hid (∀ w1, Below w.heap.size w w1 → Calls Tryz.prog 6 #[v, fv] w1 fun e w' => ∃ v' er, e = .returned (.tuple #[v', .int .i64 er]) ∧ WithT w' v' er body fs (-1) [] ∧ Below w.heap.size w w') := fun w1 hB =>
    (allC body v fv fs w1 (Kind.sl_below hv hB) (hf.below hB)).mono fun e w' ⟨v', er, he, hT, hB2⟩ => ⟨v', er, he, hT, below_trans hB hB2 hB.size⟩
  obtain ⟨a, cap, rfl⟩ := Kind.slice hv
  obtain ⟨fa, fc, rfl⟩ := sliceFacts hf
  obtain ⟨na, nc, rfl⟩ := sliceStr hn
  have hnl := hn.1
  clear hv hf hn hm
  go_enter Tryz.func3, Tryz.ntmps3
  go_wp2_with fail
  refine HA.out.mono ?_
  rintro e w1 ⟨rfl, hB1⟩
  have HA1 := hide (HAll.out w1 hB1)
  clear HA HAll hB1
  go_wp2_with fail
  refine HA1.out.mono ?_
  rintro e w2 ⟨v', er, rfl, hT, hB2⟩
  have HB2 := hide hB2
  rcases hT.cases with ⟨rfl, hne⟩ | ⟨rfl, h0, R, hR, hsl⟩
  · have hq : (er != 0) = true := by simpa using hne
    clear hT hne hB2 HA1
    go_wp2
    go_ret
    exact ⟨rfl, HB2.out⟩
  · by_cases hn0 : names.length = 0
    · have hnz : ((names.length : Int) == 0) = true := by simpa using hn0
      obtain ⟨ra, rn, rc, rfl⟩ : ∃ a n c, v' = .slice a n c := by obtain ⟨a, c, e⟩ := Kind.slice hsl; exact ⟨a, _, c, e⟩
      clear hT hB2 HA1 h0 hR hsl hn0
      go_wp2
      go_ret
      exact ⟨rfl, HB2.out⟩
    · have hnz : ((names.length : Int) == 0) = false := by simpa using hn0
      have HG := fun env hn hv hso => told_guess (env := env) h0 hR hn hv hso
      have HGu := hide HG
      obtain ⟨hw0, hf0, _⟩ := errW_zero h0
      obtain ⟨hb5, hba⟩ := body_right hw0
      have HBa : Hid (∀ a ∈ body, a.terms.length ≤ 4 ∧ ∀ t ∈ a.terms, t.2.length ≤ maxLen) := fun a ha => ⟨(wrongAtom_zero (hba a ha)).2.1, fun t ht => short_max ((wrongAtom_zero (hba a ha)).2.2 t ht)⟩
      have HRi := hide (set_right hf0).2.1
      have HRL := hide hsl
      have HV2 := hide (Kind.sl_below HV.out hB2)
      have HF2 := hide (HF.out.below hB2)
      have HN2 := hide (HN.out.below hB2)
      have hrl := hsl.1.1
      obtain ⟨ra, rc, rfl⟩ := Kind.slice hsl
      clear hT hB2 HA1 h0 hR hsl HV HF HN hw0 hf0 hba HG
      go_wp2
      go_loopg [9, 10, 45] body.length (fun g o k i wr => ∃ j : Nat, j + g = body.length ∧ i = .int .i64 j ∧ ∃ env, k = .int .i64 (env.length : Nat) ∧ Hid (Guess body j [] env) ∧ Hid (env.length ≤ 4 * j) ∧ Hid (bindK.own 38 w2.heap.size wr o env) ∧ Hid (Below w2.heap.size w2 wr))
      case atStart => exact ⟨0, by omega, rfl, [], rfl, ⟨List.nodup_nil, fun v => by simp [keysB]⟩, (Nat.le_refl _ : _ ≤ _), bindK.own_nil _ _ _, Below.refl _ _⟩
      case round =>
        obtain ⟨j, hj, rfl, env, rfl, HGs, HEL, HO, HB⟩ := hrel
        have hel := HEL.out
        obtain ⟨ao, no', co, rfl⟩ : ∃ a n c, u9 = .slice a n c := by obtain ⟨a, c, e⟩ := Kind.own_slice HO.out; exact ⟨a, _, c, e⟩
        by_cases hlt : j < body.length
        · obtain ⟨t, ht⟩ : ∃ x, body[j]? = some x := ⟨_, List.getElem?_eq_getElem hlt⟩
          obtain ⟨b2, o2, _, rfl, hb2, ⟨sv, rfl, hsv⟩, hc⟩ := Kind.sl_at HV2.out ht
          have d0 : wr.cell? ⟨b2, o2 + j * 3, none⟩ = some (.bool t.no) := by rw [HB.out.cell hb2]; exact hc 0 _ rfl
          have d1 : wr.cell? ⟨b2, o2 + j * 3 + 1, none⟩ = some (.string (bs t.name)) := by rw [HB.out.cell hb2]; exact hc 1 _ rfl
          have d2 : wr.cell? ⟨b2, o2 + j * 3 + 2, none⟩ = some sv := by rw [HB.out.cell hb2]; exact hc 2 _ rfl
          have hbr : b2 < wr.heap.size := Nat.lt_of_lt_of_le hb2 HB.out.size
          obtain ⟨sva, svc, rfl⟩ := Kind.slice hsv
          obtain ⟨wt, hwt⟩ : ∃ wt, wt = wr.alloc (.cells #[.bool t.no, .string (bs t.name), .slice sva t.terms.length svc] 33) := ⟨_, rfl⟩
          have hLr : Later wr wt := by rw [hwt]; exact (Later.refl _).alloc _
          have hBt : Below w2.heap.size w2 wt := below_trans HB.out hLr.below HB.out.size
          have htb := HBa.out t (List.mem_of_getElem? ht)
          have HVr := hide (varsC t _ wt (Kind.sl_below hsv hBt) (by have := htb.1; omega) htb.2)
          rw [hwt] at HVr
          have hvl : (vars t).length ≤ 4 := by have := vars_le t; omega
          have hvs : ∀ s ∈ vars t, s.length ≤ maxLen := fun s hs => by obtain ⟨x, hx, rfl⟩ := vars_mem t s hs; exact htb.2 x hx
          have HT := hide ht
          have HWT := hide hwt
          have HBt := hide hBt
          have hst : wr.heap.size < wt.heap.size := by rw [hwt]; simp
          clear hc hsv ht hwt hvs htb hBt
          generalize bs t.name = nm at *
          generalize t.no = tn at *
          go_wp2_with fail
          refine HVr.out.mono ?_
          rintro e w3 ⟨uv, rfl, ho3, hB3⟩
          rw [← HWT.out] at hB3 ho3
          have hs3 := hB3.size
          have HU3 := hide (strK_in ho3 (by omega))
          have HB3 := hide (below_trans HBt.out hB3 HBt.out.size)
          have HO3 := hide (own_block (own_kept' HO.out hLr) fun k e => hB3.block k (by have := (Kind.own_lt HO.out e).2; omega))
          have HUlt : Hid (∀ k, uv.ownBlock = some k → wt.heap.size ≤ k ∧ k < w3.heap.size) := fun k e => by
            have := Kind.own_lt ho3 e
            omega
          have HAp : Hid (apart (.slice ao no' co) uv) := fun k e e' => by
            have h1 := (Kind.own_lt HO.out e).2
            have h2 := (HUlt.out k e').1
            omega
          obtain ⟨ua, un, uc, hue⟩ : ∃ a n c, uv = .slice a n c := by obtain ⟨a, c, e⟩ := Kind.own_slice ho3; exact ⟨a, _, c, e⟩
          have hun : un = (vars t).length := by
            obtain ⟨a, c, e⟩ := Kind.own_slice ho3
            rw [hue] at e
            simp only [Value.slice.injEq] at e
            exact e.2.1
          subst hun hue
          clear HVr ho3 hB3 hLr HO HB HBt
          generalize hvt : vars t = vt at *
          have HVT := hide hvt
          clear hvt
          go_wp2
          go_loopg [9, 10, 52] vt.length (fun g o k i wr => ∃ q : Nat, q + g = vt.length ∧ i = .int .i64 q ∧ ∃ env, k = .int .i64 (env.length : Nat) ∧ Hid (Guess body j (vt.take q) env) ∧ Hid (env.length ≤ 4 * j + q) ∧ Hid (bindK.own 38 w2.heap.size wr o env) ∧ Hid (Below w2.heap.size w2 wr) ∧ Hid (apart o (.slice ua vt.length uc)) ∧ Hid (strK.sl (ofBlock (.slice ua vt.length uc)) wr (.slice ua vt.length uc) vt))
          case atStart => exact ⟨0, by omega, rfl, env, rfl, HGs, (by omega : _ ≤ _), HO3, HB3, HAp, HU3⟩
          case round =>
            clear hel HGs HEL HO3 HB3 HAp HU3 HUlt
            obtain ⟨q, hq, rfl, env, rfl, HGs, HEL, HO, HB, HAp, HU⟩ := hrel
            have hel := HEL.out
            obtain ⟨ao, no', co, rfl⟩ : ∃ a n c, u9 = .slice a n c := by obtain ⟨a, c, e⟩ := Kind.own_slice HO.out; exact ⟨a, _, c, e⟩
            by_cases hltq : q < vt.length
            · obtain ⟨x, hx⟩ : ∃ x, vt[q]? = some x := ⟨_, List.getElem?_eq_getElem hltq⟩
              obtain ⟨b3, o3, _, rfl, hb3, rfl, hc3⟩ := Kind.sl_at HU.out hx
              have d3 : wr.cell? ⟨b3, o3 + q, none⟩ = some (.string (bs x)) := by simpa [strK] using hc3 0 _ rfl
              have HGt := hide (getC (.slice ao no' co) env (bs x) wr (Kind.sl_any (Kind.own_sl HO.out (by omega))))
              have hTk : vt.take (q + 1) = vt.take q ++ [x] := by rw [List.take_add_one, hx]; rfl
              clear hc3 hx
              cases hg : getB env (bs x) with
              | some s =>
                rw [hg] at HGt
                have hw0 : toldV (some s) = .tuple #[.string s, .bool true] := rfl
                rw [hw0] at HGt
                have HG1 : Hid (Guess body j (vt.take (q + 1)) env) := by
                  show Guess _ _ _ _
                  rw [hTk]
                  exact HGs.out.skip (Classical.byContradiction fun hk => by rw [getB_none.2 hk] at hg; cases hg)
                clear hg hw0 hTk HGs
                generalize bs x = kx at *
                go_wp2_with fail
                refine HGt.out.mono ?_
                rintro e w4 ⟨rfl, hL4⟩
                have HO4 := hide (own_kept' HO.out hL4)
                have HB4 := hide (below_trans HB.out hL4.below HB.out.size)
                have HU4 := hide (Kind.sl_kept HU.out hL4.size fun k hk _ => hL4.block hk)
                clear hL4 HGt HO HB HU
                go_wp2
                go_roundg (vt.length - (q + 1))
                case measure => omega
                case rel => exact ⟨q + 1, by omega, by go_num, env, rfl, HG1, (by omega : _ ≤ _), HO4, HB4, HAp, HU4⟩
              | none =>
                rw [hg] at HGt
                have hw0 : toldV none = .tuple #[.string ByteArray.empty, .bool false] := rfl
                rw [hw0] at HGt
                have hmod : env.length % names.length < names.length := Nat.mod_lt _ (by omega)
                obtain ⟨b4, o4, rfl, hb4, hyc⟩ : ∃ b o, na = some ⟨b, o, none⟩ ∧ b < w2.heap.size ∧ w2.cell? ⟨b, o + env.length % names.length, none⟩ = some (.string (names.getD (env.length % names.length) ByteArray.empty)) := by
                  obtain ⟨_, a', cap', e, h1⟩ := HN2.out
                  simp only [Value.slice.injEq] at e
                  obtain ⟨rfl, _, _⟩ := e
                  obtain ⟨b, off, rfl, hb, hcc⟩ := h1 (by intro e; rw [e] at hn0; simp at hn0)
                  exact ⟨b, off, rfl, hb, hcc _ hmod⟩
                have HG1 : Hid (∀ y, Guess body j (vt.take (q + 1)) (env ++ [(bs x, y)])) := fun y => by
                  rw [hTk]
                  exact HGs.out.put (getB_none.1 hg) y
                clear hg hw0 hTk HGs
                generalize bs x = kx at *
                generalize names.getD (env.length % names.length) ByteArray.empty = y at *
                go_wp2_with fail
                refine HGt.out.mono ?_
                rintro e w4 ⟨rfl, hL4⟩
                have hB4 := below_trans HB.out hL4.below HB.out.size
                have d4 : w4.cell? ⟨b4, o4 + env.length % names.length, none⟩ = some (.string y) := by rw [hB4.cell hb4]; exact hyc
                have hbr4 : b4 < w4.heap.size := by have := hB4.size; omega
                have hU4 := Kind.sl_kept HU.out hL4.size fun k hk _ => hL4.block hk
                obtain ⟨v5, w5, hrun, hO5, hg5, hd5, hv5⟩ := appendBind (own_kept' HO.out hL4) kx y (by omega) hB4.size
                have hlo : ∀ k, (Value.slice ao no' co).ownBlock = some k → w2.heap.size ≤ k ∧ k < wr.heap.size := fun k e => Kind.own_lt HO.out e
                have hblk : ∀ k, k < w4.heap.size → (Value.slice ao no' co).ownBlock ≠ some k → w5.heap[k]? = w4.heap[k]? := fun k hk hne => by
                  rw [hg5.block k (by simp; omega) (fun e => hne e.symm), Below.heap_alloc _ _ _ hk]
                have HB5 : Hid (Below w2.heap.size w2 w5) := below_trans (hB4.alloc hB4.size _) ⟨hg5.os, hg5.tape, hg5.output, hg5.size, fun k hk => hg5.block k (by have := hB4.size; simp; omega) (fun e => by have := (hlo k e.symm).1; omega)⟩ (Nat.le_refl _)
                have hs45 : w4.heap.size ≤ w5.heap.size := by have := hg5.size; simp at this; omega
                have HU5 := hide (Kind.sl_kept hU4 hs45 fun k hk hB => hblk k hk (fun e => HAp.out k e hB))
                have HAp5 : Hid (apart v5 (.slice (some ⟨b3, o3, none⟩) vt.length uc)) := fun k e e' => by
                  rcases hv5 k e with h1 | h1
                  · exact HAp.out k h1 e'
                  · simp [Value.ownBlock] at e'
                    have := hL4.size
                    omega
                have hrem : ((env.length : Int)).tmod (names.length : Int) = ((env.length % names.length : Nat) : Int) := by
                  rw [Int.tmod_eq_emod_of_nonneg (by omega)]; simp
                obtain ⟨a5, n5, c5, rfl⟩ : ∃ a n c, v5 = .slice a n c := by obtain ⟨a, c, e⟩ := Kind.own_slice hO5; exact ⟨a, _, c, e⟩
                have HR5 := hide hrun
                have HO5 := hide hO5
                have hmz : ((env.length % names.length : Nat) : Int) < (names.length : Int) := by omega
                have hnn : ¬ (names.length : Int) = 0 := by omega
                generalize env.length % names.length = md at *
                clear hL4 HGt HO HB HU hU4 hrun hO5 hg5 hd5 hv5 hblk hlo hB4 hyc
                go_wp2_with (at_builtin; refine wpList_append_run rfl (.tmp 64) (.tmp 74) 30 rfl _ _ _ _ rfl rfl HR5.out ?_)
                go_roundg (vt.length - (q + 1))
                case measure => omega
                case rel =>
                  refine ⟨q + 1, by omega, by go_num, env ++ [(kx, y)], ?_, HG1.out y, (by simp; omega : (env ++ [(kx, y)]).length ≤ 4 * j + (q + 1)), HO5, HB5, HAp5, HU5⟩
                  rw [List.length_append]
                  go_num
            · have e : q = vt.length := by omega
              have HG1 : Hid (Guess body (j + 1) [] env) := by
                have h1 := HGs.out
                rw [e, List.take_length, ← HVT.out] at h1
                exact h1.next HT.out
              clear HGs e
              go_wp2
              go_roundg (body.length - (j + 1))
              case measure => omega
              case rel => exact ⟨j + 1, by omega, by go_num, env, rfl, HG1, (by omega : _ ≤ _), HO, HB⟩
        · have e : j = body.length := by omega
          have hGm := HGs.out.mem
          rw [e, List.take_length] at hGm
          have HMem : Hid (∀ v, v ∈ keysB env ↔ ∃ a ∈ body, v ∈ (vars a).map bs) := fun v => by rw [hGm]; simp
          have HNd : Hid ((keysB env).Nodup) := HGs.out.nodup
          have HGe : Hid ((∀ a ∈ body, ∃ f, fillB a env = some f ∧ inB fs f = !a.no) → ∃ l ∈ R, sameP env l env.length = true) := fun hso => HGu.out env HNd.out HMem.out hso
          have HFill : Hid (∀ a ∈ body, ∃ f, fillB a env = some f) := fun a ha => fillB_some fun t ht htv => (HMem.out _).2 ⟨a, ha, mem_map_bs.2 (vars_iff.2 ⟨t, ht, htv, rfl⟩)⟩
          have HEn := hide (Kind.sl_any (Kind.own_sl HO.out (by omega)))
          obtain ⟨wz, hwz⟩ : ∃ wz, wz = wr := ⟨_, rfl⟩
          have hno : no' = env.length := by
            obtain ⟨a, c, e⟩ := Kind.own_slice HO.out
            simp only [Value.slice.injEq] at e
            exact e.2.1
          subst hno
          have HVz := hide (Kind.sl_below HV2.out HB.out)
          have HFz := hide (HF2.out.below HB.out)
          have HRz := hide (Kind.sl_below HRL.out HB.out)
          have HBz := hide (below_trans HB2.out HB.out HB2.out.size)
          rw [← hwz] at HVz HFz HRz HBz HEn
          clear HGs hGm HNd HMem HGu HO HB e HV2 HF2 HRL HB2 HN2
          go_wp2
          go_loopg [82] body.length (fun g i wr => ∃ k : Nat, k + g = body.length ∧ i = .int .i64 k ∧ Hid (∀ a ∈ body.take k, ∃ f, fillB a env = some f ∧ inB fs f = !a.no) ∧ Hid (Later wz wr))
          case atStart => exact ⟨0, by omega, rfl, (fun a ha => by simp at ha), (by rw [hwz]; exact Later.refl _ : Later _ _)⟩
          case round =>
            clear hwz
            obtain ⟨k, hk, rfl, HSo, HL⟩ := hrel
            by_cases hltk : k < body.length
            · obtain ⟨t, ht⟩ : ∃ x, body[k]? = some x := ⟨_, List.getElem?_eq_getElem hltk⟩
              obtain ⟨b2, o2, _, rfl, hb2, ⟨sv, rfl, hsv⟩, hc⟩ := Kind.sl_at HVz.out ht
              have d0 : wr.cell? ⟨b2, o2 + k * 3, none⟩ = some (.bool t.no) := by rw [HL.out.cell hb2]; exact hc 0 _ rfl
              have d1 : wr.cell? ⟨b2, o2 + k * 3 + 1, none⟩ = some (.string (bs t.name)) := by rw [HL.out.cell hb2]; exact hc 1 _ rfl
              have d2 : wr.cell? ⟨b2, o2 + k * 3 + 2, none⟩ = some sv := by rw [HL.out.cell hb2]; exact hc 2 _ rfl
              have hbr : b2 < wr.heap.size := Nat.lt_of_lt_of_le hb2 HL.out.size
              obtain ⟨sva, svc, rfl⟩ := Kind.slice hsv
              have hLt : Later wz (wr.alloc (.cells #[.bool t.no, .string (bs t.name), .slice sva t.terms.length svc] 33)) := HL.out.alloc _
              have HFc := hide (fillC t _ (.slice ao env.length co) env (wr.alloc (.cells #[.bool t.no, .string (bs t.name), .slice sva t.terms.length svc] 33)) (Kind.sl_later hsv hLt) (Kind.sl_later HEn.out hLt))
              obtain ⟨f, hf⟩ := HFill.out t (List.mem_of_getElem? ht)
              unfold filled at HFc
              rw [hf] at HFc
              simp only [Option.isSome_some, Option.getD_some] at HFc
              have HSt : Hid (inFrom fs f 0 = (!t.no) → ∀ a ∈ body.take (k + 1), ∃ f, fillB a env = some f ∧ inB fs f = !a.no) := fun hin a ha => by
                rw [List.take_add_one, ht] at ha
                rcases List.mem_append.1 ha with h | h
                · exact HSo.out a h
                · simp at h; rw [h]; exact ⟨f, hf, by rw [← in_eq]; exact hin⟩
              have HLt := hide hLt
              clear hc ht hsv hf hLt HSo
              generalize bs t.name = nm at *
              generalize t.no = tn at *
              go_wp2_with fail
              refine HFc.out.mono ?_
              rintro e w3 ⟨f3, rfl, hfv, hL3⟩
              have HFV := hide hfv
              obtain ⟨s, rfl, hs⟩ := hfv
              obtain ⟨sA', sC', rfl⟩ := sliceStr hs
              obtain ⟨fn, fargs⟩ := f
              dsimp only at *
              obtain ⟨wb, hwb⟩ : ∃ wb, wb = w3.alloc (.cells #[.string fn, .slice sA' fargs.length sC'] 40) := ⟨_, rfl⟩
              have hL3b : Later w3 wb := by rw [hwb]; exact (Later.refl _).alloc _
              have hLb : Later wz wb := HLt.out.trans (hL3.trans hL3b)
              have hFb : FactV wb (.agg #[.string fn, .slice sA' fargs.length sC']) (fn, fargs) := HFV.out.later hL3b
              have z : wb.cell? ⟨w3.heap.size, 0, none⟩ = some (.string fn) ∧ wb.cell? ⟨w3.heap.size, 1, none⟩ = some (.slice sA' fargs.length sC') := by rw [hwb]; simp
              have hs3 : wr.heap.size < w3.heap.size := by have := hL3.size; simp at this; omega
              have zz : wb.cell? ⟨wr.heap.size, 0, none⟩ = some (.bool tn) := by rw [(hL3.trans hL3b).cell (by simp)]; simp
              have hsb : w3.heap.size < wb.heap.size := by rw [hwb]; simp
              have CELL : Hid (∀ w', Later wb w' → w'.cell? ⟨w3.heap.size, 0, none⟩ = some (.string fn) ∧ w'.cell? ⟨w3.heap.size, 1, none⟩ = some (.slice sA' fargs.length sC') ∧ w'.cell? ⟨wr.heap.size, 0, none⟩ = some (.bool tn)) := fun w' hL =>
                ⟨by rw [hL.cell hsb]; exact z.1, by rw [hL.cell hsb]; exact z.2, by rw [hL.cell (by show wr.heap.size < _; omega)]; exact zz⟩
              have HIn : Hid (∀ w', Later wb w' → Calls Tryz.prog 10 #[.slice fa fs.length fc, .agg #[.string fn, .slice sA' fargs.length sC']] w' fun e w4 => e = .returned (.bool (inFrom fs (fn, fargs) 0)) ∧ Later w' w4) := fun w' hL =>
                inC _ _ fs (fn, fargs) w' (HFz.out.later (hLb.trans hL)) (hFb.later hL) HRi.out
              have HWB := hide hwb
              clear hs hL3 HFc hwb z zz hsb HFV hFb hL3b
              generalize inFrom fs (fn, fargs) 0 = bb at *
              go_wp2
              rw [← HWB.out]
              refine wp_region_held_drew (S := fun w' => Later wb w') (by kernel_rfl) (Later.refl _).drew (fun hHeld => ?_)
              refine take_at (i := 0) (d := some 92) (v := ?_) rfl rfl (by kernel_rfl) (by kernel_rfl) (by kernel_rfl) (fun _ _ _ h => h) (Or.inl ⟨by rfl, ?_⟩) hHeld ?_
              rotate_left
              · intro w hSw; (try dsimp only at hSw);  go_simp; try with_reducible rfl
              simp only [Act.put, List.setIfInBounds_toArray, List.set_cons_zero, List.set_cons_succ]
              refine take_at (i := 1) (d := some 93) (v := ?_) rfl rfl (by kernel_rfl) (by kernel_rfl) (by kernel_rfl) (fun _ _ _ h => h) (Or.inl ⟨by rfl, ?_⟩) hHeld ?_
              rotate_left
              · intro w hSw; (try dsimp only at hSw);  go_simp; try with_reducible rfl
              simp only [Act.put, List.setIfInBounds_toArray, List.set_cons_zero, List.set_cons_succ]
              refine take_at (i := 2) (d := some 94) (v := ?_) rfl rfl (by kernel_rfl) (by kernel_rfl) (by kernel_rfl) (fun _ _ _ h => h) (Or.inl ⟨by rfl, ?_⟩) hHeld ?_
              rotate_left
              · intro w hSw; (try dsimp only at hSw);  go_simp; try with_reducible rfl
              simp only [Act.put, List.setIfInBounds_toArray, List.set_cons_zero, List.set_cons_succ]
              refine take_at (i := 3) (d := some 95) (v := ?_) rfl rfl (by kernel_rfl) (by kernel_rfl) (by kernel_rfl) (fun _ _ _ h => h) (Or.inl ⟨by rfl, ?_⟩) hHeld ?_
              rotate_left
              · intro w hSw; (try dsimp only at hSw);  go_simp; try with_reducible rfl
              simp only [Act.put, List.setIfInBounds_toArray, List.set_cons_zero, List.set_cons_succ]
              refine take_at (i := 4) (d := some 96) (v := ?_) rfl rfl (by kernel_rfl) (by kernel_rfl) (by kernel_rfl) (fun _ _ _ h => h) (Or.inl ⟨by rfl, ?_⟩) hHeld ?_
              rotate_left
              · intro w hSw; (try dsimp only at hSw); obtain ⟨q0, q1, q2⟩ := CELL.out w hSw; go_simp; try with_reducible rfl
              simp only [Act.put, List.setIfInBounds_toArray, List.set_cons_zero, List.set_cons_succ]
              refine take_at (i := 6) (d := some 98) (v := ?_) rfl rfl (by kernel_rfl) (by kernel_rfl) (by kernel_rfl) (fun _ _ _ h => h) (Or.inl ⟨by rfl, ?_⟩) hHeld ?_
              rotate_left
              · intro w hSw; (try dsimp only at hSw);  go_simp; try with_reducible rfl
              simp only [Act.put, List.setIfInBounds_toArray, List.set_cons_zero, List.set_cons_succ]
              refine take_at (i := 7) (d := some 99) (v := ?_) rfl rfl (by kernel_rfl) (by kernel_rfl) (by kernel_rfl) (fun _ _ _ h => h) (Or.inl ⟨by rfl, ?_⟩) hHeld ?_
              rotate_left
              · intro w hSw; (try dsimp only at hSw); obtain ⟨q0, q1, q2⟩ := CELL.out w hSw; go_simp; try with_reducible rfl
              simp only [Act.put, List.setIfInBounds_toArray, List.set_cons_zero, List.set_cons_succ]
              refine wpAnyH_ready (rs := [5]) (by kernel_rfl) (by simp) ?_
              refine AllReadyH.cons rfl (fun K hK => ?_) AllReadyH.nil
              go_simp
              refine (HIn.out _ hHeld).mono ?_
              rintro e u1 ⟨rfl, hU1⟩
              dsimp only
              have hU1' : Later wb u1 := Later.trans hHeld hU1
              refine hK.out _ _ hU1' (fun hHeld => ?_)
              clear hK K
              refine take_at (i := 8) (d := some 100) (v := ?_) rfl rfl (by kernel_rfl) (by kernel_rfl) (by kernel_rfl) (fun _ _ _ h => h) (Or.inl ⟨by rfl, ?_⟩) hHeld ?_
              rotate_left
              · intro w hSw; (try dsimp only at hSw);  go_simp; try with_reducible rfl
              simp only [Act.put, List.setIfInBounds_toArray, List.set_cons_zero, List.set_cons_succ]
              refine take_at (i := 9) (d := some 101) (v := ?_) rfl rfl (by kernel_rfl) (by kernel_rfl) (by kernel_rfl) (fun _ _ _ h => h) (Or.inl ⟨by rfl, ?_⟩) hHeld ?_
              rotate_left
              · intro w hSw; (try dsimp only at hSw);  go_simp; try with_reducible rfl
              simp only [Act.put, List.setIfInBounds_toArray, List.set_cons_zero, List.set_cons_succ]
              refine wpAnyH_done (by kernel_rfl) ?_ _
              have HLu := hide (hLb.trans hU1')
              cases hbt : (bb == tn)
              · have hin : bb = !tn := by cases bb <;> cases tn <;> first | rfl | cases hbt
                have HS2 := hide (HSt.out hin)
                clear hin HSt
                go_wp2
                go_roundg (body.length - (k + 1))
                case measure => omega
                case rel => exact ⟨k + 1, by omega, by go_num, HS2, HLu⟩
              · clear HSt
                go_wp2
                go_ret
                exact ⟨rfl, below_trans HBz.out HLu.out.below HBz.out.size⟩
            · have HEx : Hid (∃ l ∈ R, sameP env l env.length = true) := by
                refine HGe.out ?_
                have := HSo.out
                rw [List.take_of_length_le (by omega)] at this
                exact this
              obtain ⟨wy, hwy⟩ : ∃ wy, wy = wr := ⟨_, rfl⟩
              have HLy : Hid (Later wz wy) := by rw [hwy]; exact HL.out
              have hel' : env.length ≤ 8796093022208 := by omega
              clear HSo HGe HFill HL
              go_wp2
              go_loopg [105] R.length (fun g i wr => ∃ k : Nat, k + g = R.length ∧ i = .int .i64 k ∧ Hid (∀ l ∈ R.take k, sameP env l env.length = false) ∧ Hid (Later wy wr))
              case atStart => exact ⟨0, by omega, rfl, (fun a ha => by simp at ha), (by rw [hwy]; exact Later.refl _ : Later _ _)⟩
              case round =>
                clear hwy
                obtain ⟨p, hp, rfl, HNo, HL⟩ := hrel
                by_cases hltp : p < R.length
                · obtain ⟨l, hx⟩ : ∃ x, R[p]? = some x := ⟨_, List.getElem?_eq_getElem hltp⟩
                  obtain ⟨b1, o1, _, rfl, hb1, ⟨lv, rfl, hlv⟩, hc⟩ := Kind.sl_at (Kind.sl_later HRz.out HLy.out) hx
                  have d0 : wr.cell? ⟨b1, o1 + p, none⟩ = some lv := by rw [HL.out.cell hb1]; simpa [slK] using hc 0 _ rfl
                  have hbr : b1 < wr.heap.size := Nat.lt_of_lt_of_le hb1 HL.out.size
                  have HLV := hide hlv
                  have hll := hlv.1.1
                  obtain ⟨la, lc, rfl⟩ := Kind.slice hlv
                  have HX := hide hx
                  have HS0 : Hid (sameP env l 0 = ((l.length : Int) == (env.length : Int))) := by
                    show _ = _
                    unfold sameP
                    rw [Bool.eq_iff_iff]; simp; omega
                  clear hc hx hlv
                  go_wp2
                  go_loopg [23, 116] env.length (fun g b i wr => ∃ q : Nat, q + g = env.length ∧ i = .int .i64 q ∧ ∃ bb, b = .bool bb ∧ Hid (bb = sameP env l q) ∧ Hid (Later wy wr))
                  case atStart => exact ⟨0, by omega, rfl, _, rfl, HS0.out.symm, HL⟩
                  case round =>
                    clear d0 hbr HL
                    obtain ⟨q, hq, rfl, bb, rfl, HBB, HL⟩ := hrel
                    by_cases hltq : q < env.length
                    · obtain ⟨x, hx⟩ : ∃ x, env[q]? = some x := ⟨_, List.getElem?_eq_getElem hltq⟩
                      have hLw := HLy.out.trans HL.out
                      obtain ⟨b3, o3, _, rfl, hb3, rfl, hc3⟩ := Kind.sl_at HEn.out hx
                      have d3 : wr.cell? ⟨b3, o3 + q * 2, none⟩ = some (.string x.1) := by rw [hLw.cell hb3]; exact hc3 0 _ rfl
                      have d4 : wr.cell? ⟨b3, o3 + q * 2 + 1, none⟩ = some (.string x.2) := by rw [hLw.cell hb3]; exact hc3 1 _ rfl
                      have hbr3 : b3 < wr.heap.size := Nat.lt_of_lt_of_le hb3 hLw.size
                      have HSt := hide (sameP_step (l := l) hx)
                      have hLa : Later wy (wr.alloc (.cells #[.string x.1, .string x.2] 38)) := HL.out.alloc _
                      have HGt := hide (getC (.slice la l.length lc) l x.1 (wr.alloc (.cells #[.string x.1, .string x.2] 38)) (Kind.sl_later HLV.out hLa))
                      have HLa := hide hLa
                      clear hc3 hx hLw hLa
                      obtain ⟨x1, x2⟩ := x
                      dsimp only at *
                      cases hg : getB l x1 with
                      | none =>
                        rw [hg] at HGt HSt
                        have hw0 : toldV none = .tuple #[.string ByteArray.empty, .bool false] := rfl
                        rw [hw0] at HGt
                        have HB2' : Hid (false = sameP env l (q + 1)) := by show _ = _; rw [HSt.out]; simp
                        clear hg hw0 HSt
                        go_wp2_with fail
                        refine HGt.out.mono ?_
                        rintro e w4 ⟨rfl, hL4⟩
                        have HL4 := hide (HLa.out.trans hL4)
                        clear hL4 HGt HBB
                        cases bb
                        all_goals
                          go_wp2
                          go_roundg (env.length - (q + 1))
                          case measure => omega
                          case rel => exact ⟨q + 1, by omega, by go_num, _, rfl, HB2', HL4⟩
                      | some n =>
                        rw [hg] at HGt HSt
                        have hw0 : toldV (some n) = .tuple #[.string n, .bool true] := rfl
                        rw [hw0] at HGt
                        have HB2' : Hid ((bb && (n.toList == x2.toList)) = sameP env l (q + 1)) := by
                          show _ = _
                          rw [HSt.out, ← HBB.out, eq_list]
                          congr 1
                          rw [Bool.eq_iff_iff]; simp
                        clear hg hw0 HSt
                        go_wp2_with fail
                        refine HGt.out.mono ?_
                        rintro e w4 ⟨rfl, hL4⟩
                        have z1 : w4.cell? ⟨wr.heap.size, 1, none⟩ = some (.string x2) := by rw [hL4.cell (by simp)]; simp
                        have hz1 : wr.heap.size < w4.heap.size := by have := hL4.size; simp at this; omega
                        have HL4 := hide (HLa.out.trans hL4)
                        clear hL4 HGt HBB
                        cases bb
                        all_goals
                          go_wp2
                          go_roundg (env.length - (q + 1))
                          case measure => omega
                          case rel => exact ⟨q + 1, by omega, by go_num, _, rfl, HB2', HL4⟩
                    · have e : q = env.length := by omega
                      subst e
                      cases bb
                      · have HNo2 : Hid (∀ l ∈ R.take (p + 1), sameP env l env.length = false) := fun x hx => by
                          rw [List.take_add_one, HX.out] at hx
                          rcases List.mem_append.1 hx with h | h
                          · exact HNo.out x h
                          · simp at h; rw [h]; exact HBB.out.symm
                        clear HNo HBB
                        go_wp2
                        go_roundg (R.length - (p + 1))
                        case measure => omega
                        case rel => exact ⟨p + 1, by omega, by go_num, HNo2, HL⟩
                      · go_wp2
                        go_ret
                        exact ⟨rfl, below_trans HBz.out (HLy.out.trans HL.out).below HBz.out.size⟩
                · exfalso
                  obtain ⟨l, hl, hs⟩ := HEx.out
                  have := HNo.out l (by rw [List.take_of_length_le (by omega)]; exact hl)
                  rw [hs] at this
                  cases this

end Go.Proofs.YthogickpeldhlabGreat

/- Programs among a call's arguments, opened: how they lie in memory, and that no list of theirs is longer than the form's reach, no text longer than Go's. -/
namespace Go.Proofs.YthogickpeldhlabGreat
open Go.RowKit Go.Sort Go.ChangeShapes Go.WideShapes Go.ChangeAt Go.Deep

variable {H : Type} {enc : TypeId × Value → H} {W : World}

theorem ownP : ownKnob Tryz.prog.godebug = none := by kernel_rfl
theorem laidOutP : laidOutB Tryz.prog = true := by kernel_rfl
theorem cellsStrP : Tryz.prog.cellsOf 9 = 1 := by kernel_rfl
theorem addr_plainP {a : Addr} {v : Value} (h : W.cell? (a.add 0) = some v) : ∃ b off, a = ⟨b, off, none⟩ := by
  obtain ⟨b, off, spot⟩ := a
  have hspot : spot = none := by simpa [Addr.add] using World.cell?_spot h
  subst hspot
  exact ⟨b, off, rfl⟩

/-- Each list within reach. -/
def Sized (t : TypeId) (d : DataW H) : Prop := (d.weights Tryz.prog t).all (· ≤ reachBytes) = true
/-- How a type's values are opened. -/
def Opens {α : Type} (enc : TypeId × Value → H) (W : World) (ty : TypeId) (K : Kind α) (ok : α → Prop) : Prop :=
  ∀ n cs x, DataW.trod enc Tryz.prog W 0 (fun _ => true) true n ty cs = some x → Sized ty x.1 → ∃ a, K.is Anyw W cs a ∧ ok a

theorem sized_all {e : TypeId} {l : List (DataW H)} (h : (DataW.weightsAll Tryz.prog e l).all (· ≤ reachBytes) = true) : ∀ d ∈ l, Sized e d := by
  induction l with
  | nil => intro d hd; cases hd
  | cons x r ih =>
    simp only [DataW.weightsAll, List.all_append, Bool.and_eq_true] at h
    intro d hd
    rcases List.mem_cons.1 hd with rfl | hd
    · exact h.1
    · exact ih h.2 d hd

set_option maxRecDepth 100000 in
theorem openSlB {α : Type} {K : Kind α} {T ty : TypeId} {ok : α → Prop} (hT : Tryz.prog.underlying T = some (.slice ty)) (hc : Tryz.prog.cellsOf ty = K.size) (hby : 16 ≤ Tryz.prog.bytesOf ty) (hsz : 0 < K.size) (E : Opens enc W ty K ok)
    {n : Nat} {v : Value} {x : DataW H × List MemPlace} (hf : DataW.trod enc Tryz.prog W 0 (fun _ => true) true n T [v] = some x) (hw : Sized T x.1) : ∃ l, K.sl Anyw W v l ∧ (∀ a ∈ l, ok a) ∧ l.length * Tryz.prog.bytesOf ty ≤ reachBytes := by
  rcases open_slice hT hf with ⟨hcs, _⟩ | ⟨a, len, cap, m, k, D, Pl, hcs, _, hl, hm, hmm, hx, hel⟩
  · simp only [List.cons.injEq, and_true] at hcs
    exact ⟨[], by rw [hcs]; exact K.sl_nil _ _ _ _, fun a ha => (by cases ha), by simp⟩
  · simp only [List.cons.injEq, and_true] at hcs
    simp only [if_true] at hmm
    subst hmm
    rw [hc] at hel
    have hd : x.1 = .slice ((List.range len).map D) ((List.range (m - len)).map fun j => D (len + j)) := by rw [hx]
    have hw2 : (decide ((len + (m - len)) * Tryz.prog.bytesOf ty ≤ reachBytes) && ((DataW.weightsAll Tryz.prog ty ((List.range len).map D)).all (· ≤ reachBytes) && (DataW.weightsAll Tryz.prog ty ((List.range (m - len)).map fun j => D (len + j))).all (· ≤ reachBytes))) = true := by
      have := hw
      unfold Sized at this
      rw [hd, DataW.weights, hT] at this
      simpa using this
    simp only [Bool.and_eq_true] at hw2
    have hlen : len ≤ 8796093022208 := by
      have h1 : (len + (m - len)) * Tryz.prog.bytesOf ty ≤ reachBytes := of_decide_eq_true hw2.1
      have h2 : len * 16 ≤ (len + (m - len)) * Tryz.prog.bytesOf ty := Nat.mul_le_mul (by omega) hby
      unfold reachBytes at h1
      omega
    have each : ∀ i : Fin len, ∃ z : α, ∃ cs', W.cells? 0 (a.add (i.1 * K.size)) K.size = some cs' ∧ K.is Anyw W cs' z ∧ ok z := fun i => by
      obtain ⟨cs', k1, k2⟩ := hel i.1 (by omega)
      obtain ⟨z, hz, hk⟩ := E _ _ _ k2 (sized_all hw2.2.1 _ (List.mem_map.2 ⟨i.1, List.mem_range.2 i.2, rfl⟩))
      exact ⟨z, cs', k1, hz, hk⟩
    refine ⟨List.ofFn fun i => Classical.choose (each i), ⟨⟨by simpa using hlen, ?_⟩, some a, m, by rw [hcs]; simp, fun hne => ?_⟩, fun z hz => ?_, ?_⟩
    · rw [hcs]; show len ≤ m; omega
    rotate_left
    rotate_left
    · have h1 : (len + (m - len)) * Tryz.prog.bytesOf ty ≤ reachBytes := of_decide_eq_true hw2.1
      rw [List.length_ofFn]
      exact Nat.le_trans (Nat.mul_le_mul_right _ (by omega)) h1
    rotate_left
    · rw [List.mem_ofFn] at hz
      obtain ⟨i, rfl⟩ := hz
      obtain ⟨_, _, _, hok⟩ := Classical.choose_spec (each i)
      exact hok
    have h0 : 0 < len := by
      refine Nat.pos_of_ne_zero fun e => hne ?_
      subst e; rfl
    have first : ∀ i : Fin len, ∀ cs', W.cells? 0 (a.add (i.1 * K.size)) K.size = some cs' → ∀ j u, cs'[j]? = some u → W.cell? ((a.add (i.1 * K.size)).add j) = some u := fun i cs' k1 j u hu => by
      obtain ⟨h1, _, hcell⟩ := World.cells?_some k1
      have hj : j < cs'.length := (List.getElem?_eq_some_iff.1 hu).1
      have := hcell j (by omega)
      rw [this]; exact hu
    have hplain : ∃ b off, a = ⟨b, off, none⟩ := by
      obtain ⟨cs', k0, k1, _⟩ := Classical.choose_spec (each ⟨0, h0⟩)
      have hl := K.len k1
      have hu : cs'[0]? = some (cs'[0]'(by omega)) := List.getElem?_eq_getElem (by omega)
      have := first ⟨0, h0⟩ cs' k0 0 _ hu
      exact addr_plainP (W := W) (v := cs'[0]'(by omega)) (by simpa [Addr.add] using this)
    obtain ⟨b, off, rfl⟩ := hplain
    have hlt : b < W.heap.size := by
      obtain ⟨cs', k0, k1, _⟩ := Classical.choose_spec (each ⟨0, h0⟩)
      have hl := K.len k1
      have hu : cs'[0]? = some (cs'[0]'(by omega)) := List.getElem?_eq_getElem (by omega)
      have := first ⟨0, h0⟩ cs' k0 0 _ hu
      rw [Addr.add_lit, Addr.add_lit] at this
      exact World.block_lt_of_cell? W _ this
    refine ⟨b, off, rfl, trivial, hlt, fun i z hi => ?_⟩
    have hi' : i < len := by simpa using (List.getElem?_eq_some_iff.1 hi).1
    rw [List.getElem?_ofFn, dif_pos hi'] at hi
    injection hi with hi
    subst hi
    obtain ⟨cs', k0, k1, _⟩ := Classical.choose_spec (each ⟨i, hi'⟩)
    refine ⟨cs', k1, fun j u hu => ?_⟩
    have := first ⟨i, hi'⟩ cs' k0 j u hu
    rw [Addr.add_lit, Addr.add_lit] at this
    exact this

theorem openSl {α : Type} {K : Kind α} {T ty : TypeId} {ok : α → Prop} (hT : Tryz.prog.underlying T = some (.slice ty)) (hc : Tryz.prog.cellsOf ty = K.size) (hby : 16 ≤ Tryz.prog.bytesOf ty) (hsz : 0 < K.size) (E : Opens enc W ty K ok)
    {n : Nat} {v : Value} {x : DataW H × List MemPlace} (hf : DataW.trod enc Tryz.prog W 0 (fun _ => true) true n T [v] = some x) (hw : Sized T x.1) : ∃ l, K.sl Anyw W v l ∧ ∀ a ∈ l, ok a := by
  obtain ⟨l, h1, h2, _⟩ := openSlB hT hc hby hsz E hf hw
  exact ⟨l, h1, h2⟩

/-- No text is longer than Go's. -/
def okT (t : TermD) : Prop := t.2.length ≤ maxLen
def okA (a : AtomD) : Prop := a.name.length ≤ maxLen ∧ ∀ t ∈ a.terms, okT t
def okR (r : RuleD) : Prop := okA r.head ∧ ∀ a ∈ r.body, okA a

theorem cellsTerm : Tryz.prog.cellsOf 55 = 2 := by kernel_rfl
theorem cellsTerms : Tryz.prog.cellsOf 31 = 1 := by kernel_rfl
theorem cellsAtom : Tryz.prog.cellsOf 33 = 3 := by kernel_rfl
theorem cellsAtoms : Tryz.prog.cellsOf 22 = 1 := by kernel_rfl
theorem cellsBool : Tryz.prog.cellsOf 4 = 1 := by kernel_rfl
theorem bytesTerm : Tryz.prog.bytesOf 55 = 24 := by kernel_rfl
theorem bytesAtom : Tryz.prog.bytesOf 33 = 48 := by kernel_rfl

set_option maxRecDepth 100000 in
theorem opensTerm : Opens enc W 55 termK okT := by
  intro n cs x h _
  obtain ⟨y0, y1, m, hx, hl, h0, h1⟩ := trod_struct2 Tryz.underlying55 h
  rw [cellsTerm] at hl
  match cs, hl with
  | [c0, c1], _ =>
    have e0 : Tryz.prog.cellsOf 4 = 1 := cellsBool
    have e1 : Tryz.prog.cellsOf 9 = 1 := cellsStrP
    simp only [e0, e1, List.drop_zero, List.drop_succ_cons, List.take_succ_cons, List.take_zero] at h0 h1
    obtain ⟨b, hb, _⟩ := DataW.trod_bool Tryz.underlying4 h0
    obtain ⟨s, hs, _, hsz⟩ := DataW.trod_string Tryz.underlying9 h1
    simp only [List.cons.injEq, and_true] at hb hs
    exact ⟨(b, raw s), by show [c0, c1] = _; rw [hb, hs, bs_raw], by show (raw s).length ≤ _; rw [length_raw]; exact hsz⟩

set_option maxRecDepth 100000 in
theorem opensAtom : Opens enc W 33 atomK okA := by
  intro n cs x h hw
  obtain ⟨y0, y1, y2, m, hx, hl, h0, h1, h2⟩ := trod_struct3 Tryz.underlying33 h
  rw [cellsAtom] at hl
  match cs, hl with
  | [c0, c1, c2], _ =>
    have e0 : Tryz.prog.cellsOf 4 = 1 := cellsBool
    have e1 : Tryz.prog.cellsOf 9 = 1 := cellsStrP
    have e2 : Tryz.prog.cellsOf 31 = 1 := cellsTerms
    simp only [e0, e1, e2, List.drop_zero, List.drop_succ_cons, List.take_succ_cons, List.take_zero] at h0 h1 h2
    obtain ⟨b, hb, _⟩ := DataW.trod_bool Tryz.underlying4 h0
    obtain ⟨s, hs, _, hsz⟩ := DataW.trod_string Tryz.underlying9 h1
    simp only [List.cons.injEq, and_true] at hb hs
    have hw2 : Sized 31 y2.1 := by
      unfold Sized at hw ⊢
      rw [hx, DataW.weights, Tryz.underlying33] at hw
      simp only [List.map_cons, List.map_nil, DataW.weightsEach, List.all_append, Bool.and_eq_true] at hw
      exact hw.2.2.1
    obtain ⟨l, hl, hlk⟩ := openSl Tryz.underlying31 cellsTerm (by rw [bytesTerm]; decide) (by decide) opensTerm h2 hw2
    exact ⟨⟨b, raw s, l⟩, ⟨c2, by show [c0, c1, c2] = _; rw [hb, hs, bs_raw], hl⟩, by show (raw s).length ≤ _; rw [length_raw]; exact hsz, hlk⟩

/-- What the form's reach says of an argument. -/
theorem sized_at {ts : List TypeId} {ds : List (DataW H)} (h : (DataW.weightsEach Tryz.prog ts ds).all (· ≤ reachBytes) = true) {j : Nat} {t : TypeId} {d : DataW H} (ht : ts[j]? = some t) (hd : ds[j]? = some d) : Sized t d :=
  List.all_eq_true.2 fun k hk => List.all_eq_true.1 h _ (DataW.weights_mem_each ht hd k hk)

end Go.Proofs.YthogickpeldhlabGreat
