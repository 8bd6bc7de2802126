/- Texts of this claim, one behind the other. -/
import Derived.Test.YtlchjoclipdgbaaGreatDoorJ20
import Derived.Test.YtlchjoclipdgbaaGreatDoorJ5
import Derived.ProofKit
import Derived.SliceStrings
import Derived.Deep.Slices
import Derived.Deep.Strs
import Derived.Lib.SmallJoins
import Derived.SizedLaws
import Derived.Test.YtlchjoclipdgbaaGreatDoorJ9
/- The walk of corotop's alive. -/
namespace Go.Proofs.YtlchjoclipdgbaaGreatDoor
open Go.RowKit Go.Sort

def roadsT : Bs := [119, 97, 121, 40, 88, 44, 89, 41, 32, 58, 45, 32, 114, 111, 97, 100, 40, 88, 44, 89, 41, 46, 32, 119, 97, 121, 40, 88, 44, 90, 41, 32, 58, 45, 32, 119, 97, 121, 40, 88, 44, 89, 41, 44, 32, 114, 111, 97, 100, 40, 89, 44, 90, 41, 46, 32, 99, 117, 116, 40, 88, 44, 89, 41, 32, 58, 45, 32, 116, 111, 119, 110, 40, 88, 41, 44, 32, 116, 111, 119, 110, 40, 89, 41, 44, 32, 33, 119, 97, 121, 40, 88, 44, 89, 41, 46]
def roadsR : List RuleD :=
  [⟨⟨false, [119, 97, 121], [(true, [88]), (true, [89])]⟩, [⟨false, [114, 111, 97, 100], [(true, [88]), (true, [89])]⟩]⟩,
   ⟨⟨false, [119, 97, 121], [(true, [88]), (true, [90])]⟩, [⟨false, [119, 97, 121], [(true, [88]), (true, [89])]⟩, ⟨false, [114, 111, 97, 100], [(true, [89]), (true, [90])]⟩]⟩,
   ⟨⟨false, [99, 117, 116], [(true, [88]), (true, [89])]⟩, [⟨false, [116, 111, 119, 110], [(true, [88])]⟩, ⟨false, [116, 111, 119, 110], [(true, [89])]⟩, ⟨true, [119, 97, 121], [(true, [88]), (true, [89])]⟩]⟩]
def roadF (a b : Nat) : FactB := (kb [114, 111, 97, 100], [kb (nmL a), kb (nmL b)])
def wayF (a b : Nat) : FactB := (kb [119, 97, 121], [kb (nmL a), kb (nmL b)])
def roads2 : List FactB := [roadF 0 1, roadF 1 2]
def ways2 : List FactB := [roadF 0 1, roadF 1 2, wayF 0 1, wayF 0 2, wayF 1 2]

theorem told_roads : toldRule roadsT = (roadsR, 0, 0) := by kernel_rfl
theorem strata_roads : strataP roadsR = ([0, 0, 1], 0, 0) := by kernel_rfl
theorem run_roads2 : runI roadsR [0, 0, 1] 2 0 roads2 = (0, ways2) := by decide +kernel
theorem up_roads2 : Up roads2 := by show List.Pairwise _ _; rw [eF_eq]; decide +kernel
theorem up_ways2 : Up ways2 := by show List.Pairwise _ _; rw [eF_eq]; decide +kernel
theorem right_roads2 : ∀ f ∈ roads2, wrongF f = 0 := by decide +kernel
theorem fit_roads2 : ∀ f ∈ roads2, fitF roadsR f = true := by decide +kernel
theorem good_roads2 : GoodS roadsR roads2 := ⟨up_roads2, fun f hf => wrongF_right.1 (right_roads2 f hf), by decide, fit_roads2⟩
theorem all_roads2 : allP roadsR roads2 = (0, ways2) := by
  have e1 : (strataP roadsR).2.1 = 0 := by rw [strata_roads]
  have e2 : (strataP roadsR).1 = [0, 0, 1] := by rw [strata_roads]
  have e3 : (factsP roadsR roads2).1 = 0 := by rw [good_facts good_roads2]
  unfold allP
  rw [if_neg (fun h => h e1), if_neg (fun h => h e3), e2, count5, runI_eq]
  exact run_roads2

theorem facts2 {w : World} {c : Nat} {n0 n1 : ByteArray} {s0 s1 : Value} {l0 l1 : List ByteArray} {t : TypeId} {fr : Nat × Nat} (h : w.heap[c]? = some (.cells #[.string n0, s0, .string n1, s1] t fr)) (h0 : Strs w s0 l0) (h1 : Strs w s1 l1) :
    Facts w (.slice (some ⟨c, 0, none⟩) 2 2) [(n0, l0), (n1, l1)] := by
  refine ⟨by simp, _, 2, rfl, fun _ => ⟨c, 0, rfl, (Array.getElem?_eq_some_iff.1 h).1, fun i hi => ?_⟩⟩
  rw [cell_of_row _ _ _ _ _ _ h, cell_of_row _ _ _ _ _ _ h]
  simp at hi
  have : i = 0 ∨ i = 1 := by omega
  rcases this with rfl | rfl
  · exact ⟨rfl, s0, rfl, h0⟩
  · exact ⟨rfl, s1, rfl, h1⟩

set_option maxRecDepth 100000 in
set_option maxHeartbeats 4000000 in
theorem aliveT (w : World) (m : Int) (hm : w.cell? ⟨0, 0, none⟩ = some (.int .i64 m)) : Calls Tryz.prog 4 #[] w fun e w' => e = .returned (.bool true) ∧ Below w.heap.size w w' := by
  have HP := hide (parseC (bs roadsT) w m hm)
  rw [raw_bs, told_roads] at HP
  clear hm
  go_enter Tryz.func4, Tryz.ntmps4
  go_wp2_with fail
  refine HP.out.mono ?_
  rintro e w1 ⟨v1, rfl, hV1, hB1⟩
  dsimp only at hV1 ⊢
  have HV1 := hide (Kind.sl_any hV1)
  have HB1 := hide hB1
  obtain ⟨va, vc, rfl⟩ := Kind.slice hV1
  clear HP hV1 hB1
  obtain ⟨w2, hw2⟩ : ∃ w2, w2 = w1.alloc (.cells #[.int .i64 0, .int .i64 0] 29) := ⟨_, rfl⟩
  have hL2 : Later w1 w2 := by rw [hw2]; exact (Later.refl _).alloc _
  have hr2 : w2.heap[w1.heap.size]? = some (.cells #[.int .i64 0, .int .i64 0] 29 (0, 0)) := by rw [hw2]; exact heap_alloc_new w1 _
  have H01 := hide (roadC 0 1 (by omega) (by omega) w2)
  have HW2 := hide hw2
  clear hw2
  go_wp2_with fail
  rw [← HW2.out]
  refine H01.out.mono ?_
  rintro e w3 ⟨v3, rfl, hF3, hL3⟩
  have H12 := hide (roadC 1 2 (by omega) (by omega) w3)
  obtain ⟨s3, rfl, hs3⟩ := hF3
  obtain ⟨a3, c3, rfl⟩ := sliceStr hs3
  have HS3 := hide hs3
  have HL3 := hide (hL2.trans hL3)
  have HR3 := hide ((hL3.block (Array.getElem?_eq_some_iff.1 hr2).1).trans hr2)
  clear hs3 hL3 H01 hL2 hr2 HW2
  go_wp2_with fail
  refine H12.out.mono ?_
  rintro e w4 ⟨v4, rfl, hF4, hL4⟩
  obtain ⟨s4, rfl, hs4⟩ := hF4
  obtain ⟨a4, c4, rfl⟩ := sliceStr hs4
  obtain ⟨w5, hw5⟩ : ∃ w5, w5 = w4.alloc (.cells #[.string { data := #[114, 111, 97, 100] }, .slice a3 2 c3, .string { data := #[114, 111, 97, 100] }, .slice a4 2 c4] 38) := ⟨_, rfl⟩
  have hL5 : Later w4 w5 := by rw [hw5]; exact (Later.refl _).alloc _
  have hr5 : w5.heap[w4.heap.size]? = some (.cells #[.string { data := #[114, 111, 97, 100] }, .slice a3 2 c3, .string { data := #[114, 111, 97, 100] }, .slice a4 2 c4] 38 (0, 0)) := by rw [hw5]; exact heap_alloc_new w4 _
  have hF5 : Facts w5 (.slice (some ⟨w4.heap.size, 0, none⟩) 2 2) roads2 := facts2 hr5 (HS3.out.later (hL4.trans hL5)) (hs4.later hL5)
  have hL15 := HL3.out.trans (hL4.trans hL5)
  have hB5 := below_trans HB1.out hL15.below HB1.out.size
  have HA := hide (naiveAllC roadsR roads2 (.slice va roadsR.length vc) (.slice (some ⟨w4.heap.size, 0, none⟩) 2 2) w5 (Kind.sl_later HV1.out hL15) hF5)
  rw [all_roads2] at HA
  have hr15 : w5.heap[w1.heap.size]? = some (.cells #[.int .i64 0, .int .i64 0] 29 (0, 0)) := ((hL4.trans hL5).block (Array.getElem?_eq_some_iff.1 HR3.out).1).trans HR3.out
  have HR5 := hide hr15
  have HB5 := hide hB5
  have HW5 := hide hw5
  clear hs4 hL4 hw5 hL5 hr5 hF5 hL15 hB5 hr15 H12 HS3 HL3 HR3 HV1 HB1
  go_wp2_with fail
  rw [← HW5.out]
  refine HA.out.mono ?_
  rintro e w6 ⟨v6, er, rfl, ⟨her, _, hT6⟩, hB6⟩
  dsimp only at her hT6
  subst her
  have hF6 := hT6 rfl
  have HF6 := hide hF6
  have HB6 := hide (below_trans HB5.out hB6 HB5.out.size)
  have hr6 := (hB6.block _ (Array.getElem?_eq_some_iff.1 HR5.out).1).trans HR5.out
  have c0 : w6.cell? ⟨w1.heap.size, 0, none⟩ = some (.int .i64 0) := by rw [cell_of_row _ _ _ _ _ _ hr6]; rfl
  obtain ⟨a6, c6, rfl⟩ := sliceFacts hF6
  have h5 : ways2.length = 5 := rfl
  rw [h5] at HF6 ⊢
  have H02 := hide (wayC 0 2 (by omega) (by omega) w6)
  clear hT6 hB6 hF6 h5 hr6 HA HB5 HR5 HW5
  go_wp2_with fail
  refine H02.out.mono ?_
  rintro e w7 ⟨v7, rfl, hF7, hL7⟩
  have HI := hide (inC (.slice a6 5 c6) _ ways2 (wayF 0 2) w7 (HF6.out.later hL7) hF7 up_ways2)
  rw [in_eq, show inB ways2 (wayF 0 2) = true by decide +kernel] at HI
  obtain ⟨s7, rfl, hs7⟩ := hF7
  obtain ⟨a7, c7, rfl⟩ := sliceStr hs7
  have HB7 := hide (below_trans HB6.out hL7.below HB6.out.size)
  clear hs7 hL7 H02 c0
  go_wp2_with fail
  refine HI.out.mono ?_
  rintro e w8 ⟨rfl, hL8⟩
  have HB8 := hide (below_trans HB7.out hL8.below HB7.out.size)
  clear hL8 HI
  go_wp2
  go_ret
  exact ⟨rfl, HB8.out⟩

end Go.Proofs.YtlchjoclipdgbaaGreatDoor

/- The walk of TopCircle. -/
namespace Go.Proofs.YtlchjoclipdgbaaGreatDoor
open Go.RowKit Go.Sort

/-- A bool lies in one cell. -/
def boolK : Kind Bool where
  size := 1
  is := fun _ _ c t => c = [.bool t]
  len := fun h => by subst h; rfl
  one := fun h u hu => by subst h; simp at hu; subst hu; rfl
  kept := fun h _ _ => h
  mono := fun h _ => h

theorem bs_add (a b : Bs) : bs a ++ bs b = bs (a ++ b) := by
  apply raw_inj
  rw [raw_bs]
  unfold raw
  rw [ByteArray.data_append]
  simp [bs]

theorem circR_len (n i : Nat) (b : Bool) : (circR n i b).length ≤ 10 := by
  unfold circR nmL
  cases b <;> simp
theorem circT_len (n : Nat) : ∀ (l : List Bool) (i : Nat), (circT n i l).length ≤ 10 * l.length
  | [], _ => by simp [circT]
  | b :: l, i => by
    have h1 := circR_len n i b
    have h2 := circT_len n l (i + 1)
    simp only [circT, List.length_append, List.length_cons]; omega

/-- What is told of the circle. -/
theorem circ_all (b : List Bool) (h1 : 1 ≤ b.length) (h2 : b.length ≤ 8) : (toldRule (circT b.length 0 b)).2.1 = 0 ∧ (allP (toldRule (circT b.length 0 b)).1 []).1 = if b.any id then 10 else 0 := by
  have h := circ_ok b h1 h2
  unfold circOk at h
  simp only [Bool.and_eq_true, decide_eq_true_eq] at h
  refine ⟨h.1, ?_⟩
  have hg : GoodS (toldRule (circT b.length 0 b)).1 [] := ⟨List.Pairwise.nil, (fun f hf => by cases hf), by simp, (fun f hf => by cases hf)⟩
  generalize (toldRule (circT b.length 0 b)).1 = p at *
  have h3 := h.2
  unfold allP
  by_cases hb : b.any id = true
  · rw [if_pos hb] at h3 ⊢
    have h4 : (strataP p).2.1 = 10 := of_decide_eq_true h3
    rw [if_pos (by rw [h4]; decide)]
    exact h4
  · rw [if_neg hb] at h3 ⊢
    simp only [Bool.and_eq_true, decide_eq_true_eq] at h3
    rw [if_neg (by rw [h3.1]; simp), if_neg (by rw [good_facts hg]; simp), runI_eq]
    exact h3.2

set_option maxRecDepth 100000 in
set_option maxHeartbeats 4000000 in
theorem circleW (v : Value) (b : List Bool) (w : World) (m : Int) (hm : w.cell? ⟨0, 0, none⟩ = some (.int .i64 m)) (hv : boolK.sl Anyw w v b) (h1 : 1 ≤ b.length) (h8 : b.length ≤ 8) :
    Calls Tryz.prog 3 #[v] w fun e w' => e = .returned (.bool true) ∧ Below w.heap.size w w' := by
  have HA := hide (aliveT w m hm)
  obtain ⟨va, vc, rfl⟩ := Kind.slice hv
  have HV := hide hv
  obtain ⟨hE, hAl⟩ := circ_all b h1 h8
  have hmlt : 0 < w.heap.size := by
    refine Classical.byContradiction fun h => ?_
    rw [World.cell?, Array.getElem?_eq_none (by simpa using h)] at hm
    simp at hm
  have HP : Hid (∀ w', Below w.heap.size w w' → Calls Tryz.prog 6 #[.string (bs (circT b.length 0 b))] w' fun e w'' => ∃ v at', e = .returned (.tuple #[v, .agg #[.int .i64 0, .int .i64 (at' : Nat)]]) ∧ ruleK.sl Anyw w'' v (toldRule (circT b.length 0 b)).1 ∧ Below w'.heap.size w' w'') := fun w' hb => by
    refine (parseC (bs (circT b.length 0 b)) w' m (by rw [hb.cell (p := ⟨0, 0, none⟩) hmlt]; exact hm)).mono ?_
    rintro e w'' ⟨v, rfl, hV, hB⟩
    rw [raw_bs] at hV ⊢
    exact ⟨v, _, by rw [← hE], Kind.sl_any hV, hB⟩
  have HAl := hide hAl
  have g1 : ¬ (b.length : Int) < 1 := by omega
  have g2 : ¬ (8 : Int) < (b.length : Int) := by omega
  clear hv hm hE hAl hmlt
  go_enter Tryz.func3, Tryz.ntmps3
  go_wp2_with fail
  refine HA.out.mono ?_
  rintro e w1 ⟨rfl, hB1⟩
  have HB1 := hide hB1
  clear HA hB1
  go_wp2
  go_loopg [3, 4, 24] b.length (fun g s q i wr => ∃ j : Nat, j + g = b.length ∧ i = .int .i64 j ∧ s = .string (bs (circT b.length 0 (b.take j))) ∧ q = .bool ((b.take j).any id) ∧ Hid (Below w.heap.size w wr))
  case atStart => exact ⟨0, by omega, rfl, rfl, rfl, HB1⟩
  case round =>
    clear HB1
    obtain ⟨j, hj, rfl, rfl, rfl, HBr⟩ := hrel
    by_cases hlt : j < b.length
    · obtain ⟨x, hx⟩ : ∃ x, b[j]? = some x := ⟨_, List.getElem?_eq_getElem hlt⟩
      obtain ⟨b1, o1, _, rfl, hb1, rfl, hc⟩ := Kind.sl_at HV.out hx
      have d0 : wr.cell? ⟨b1, o1 + j, none⟩ = some (.bool x) := by rw [HBr.out.cell (p := ⟨b1, o1 + j, none⟩) hb1]; simpa [boolK] using hc 0 _ rfl
      have htk : b.take (j + 1) = b.take j ++ [x] := by rw [List.take_add_one, hx]; rfl
      have hcT : circT b.length 0 (b.take (j + 1)) = circT b.length 0 (b.take j) ++ circR b.length j x := by
        rw [htk, circT_append, List.length_take, Nat.min_eq_left (Nat.le_of_lt hlt), Nat.zero_add]
      have hany : (b.take (j + 1)).any id = ((b.take j).any id || x) := by rw [htk, List.any_append]; simp
      have hTl : (circT b.length 0 (b.take j)).length ≤ 80 := by
        have := circT_len b.length (b.take j) 0
        rw [List.length_take] at this; omega
      obtain ⟨k, hk⟩ : ∃ k, k = (j + 1) % b.length := ⟨_, rfl⟩
      have hk8 : k < 8 := by rw [hk]; exact Nat.lt_of_lt_of_le (Nat.mod_lt _ (by omega)) h8
      have HN1 : Hid (∀ w, Calls Tryz.prog 5 #[.int .i64 (k : Nat)] w fun e w' => e = .returned (.string (bs (nmL k))) ∧ Later w w') := nameC k hk8
      have HN2 : Hid (∀ w, Calls Tryz.prog 5 #[.int .i64 (j : Nat)] w fun e w' => e = .returned (.string (bs (nmL j))) ∧ Later w w') := nameC j (by omega)
      have hrem : Int.tmod ((j : Int) + 1) (b.length : Int) = (k : Int) := by rw [hk]; rfl
      have HCT : Hid (circT b.length 0 (b.take (j + 1)) = circT b.length 0 (b.take j) ++ nmL j ++ [32, 58, 45, 32] ++ (if x then 33 :: nmL k else nmL k) ++ [46]) := by
        show _ = _
        rw [hcT]; unfold circR; rw [← hk]; simp
      obtain ⟨T, hT⟩ : ∃ T, T = circT b.length 0 (b.take j) := ⟨_, rfl⟩
      rw [← hT] at hTl HCT ⊢
      have hjl : (nmL j).length = 2 := rfl
      have hkl : (nmL k).length = 2 := rfl
      have HAny := hide hany
      have hn0 : ((b.length : Int) == 0) = false := beq_eq_false_iff_ne.2 (by omega)
      clear hc hx htk hcT hany hk hT
      generalize nmL j = nj at *
      generalize nmL k = nk at *
      generalize (b.take j).any id = qa at *
      go_wp2_with fail
      refine (HN1.out _).mono ?_
      rintro e w2 ⟨rfl, hL2⟩
      have HL2 := hide hL2
      clear hL2 d0
      cases x
      · simp only [Bool.false_eq_true, if_false] at HCT
        simp only [Bool.or_false] at HAny
        obtain ⟨y1, hy1⟩ : ∃ y, y = T ++ nj := ⟨_, rfl⟩
        obtain ⟨y2, hy2⟩ : ∃ y, y = y1 ++ [32, 58, 45, 32] := ⟨_, rfl⟩
        obtain ⟨y3, hy3⟩ : ∃ y, y = y2 ++ nk := ⟨_, rfl⟩
        obtain ⟨y4, hy4⟩ : ∃ y, y = y3 ++ [46] := ⟨_, rfl⟩
        rw [← hy1, ← hy2, ← hy3, ← hy4] at HCT
        have k1 : bs T ++ bs nj = bs y1 := by rw [hy1]; exact bs_add _ _
        have k2 : bs y1 ++ ({ data := #[32, 58, 45, 32] } : ByteArray) = bs y2 := by rw [hy2]; exact bs_add _ [32, 58, 45, 32]
        have k3 : bs y2 ++ bs nk = bs y3 := by rw [hy3]; exact bs_add _ _
        have k4 : bs y3 ++ ({ data := #[46] } : ByteArray) = bs y4 := by rw [hy4]; exact bs_add _ [46]
        have s1 : (bs T).size = T.length := size_bs _
        have s2 : (bs nj).size = 2 := by rw [size_bs]; exact hjl
        have s3 : (bs y1).size = T.length + 2 := by rw [size_bs, hy1, List.length_append, hjl]
        have s4 : (bs y2).size = T.length + 6 := by rw [size_bs, hy2, List.length_append, hy1, List.length_append, hjl]; rfl
        have s5 : (bs y3).size = T.length + 6 + 2 := by rw [size_bs, hy3, List.length_append, hy2, List.length_append, hy1, List.length_append, hjl, hkl]; rfl
        have s7 : (bs nk).size = 2 := by rw [size_bs, hkl]
        clear hy1 hy2 hy3 hy4 hjl hkl
        go_wp2_with fail
        refine (HN2.out _).mono ?_
        rintro e w3 ⟨rfl, hL3⟩
        have HB3 := hide (below_trans HBr.out (HL2.out.trans hL3).below HBr.out.size)
        clear hL3
        go_wp2
        go_roundg (b.length - (j + 1))
        case measure => omega
        case rel => exact ⟨j + 1, by omega, by go_num, by rw [HCT.out], by rw [HAny.out], HB3⟩
      · simp only [if_true] at HCT
        simp only [Bool.or_true] at HAny
        obtain ⟨y1, hy1⟩ : ∃ y, y = T ++ nj := ⟨_, rfl⟩
        obtain ⟨y2, hy2⟩ : ∃ y, y = y1 ++ [32, 58, 45, 32] := ⟨_, rfl⟩
        obtain ⟨y3, hy3⟩ : ∃ y, y = y2 ++ (33 :: nk) := ⟨_, rfl⟩
        obtain ⟨y4, hy4⟩ : ∃ y, y = y3 ++ [46] := ⟨_, rfl⟩
        rw [← hy1, ← hy2, ← hy3, ← hy4] at HCT
        have k1 : bs T ++ bs nj = bs y1 := by rw [hy1]; exact bs_add _ _
        have k2 : bs y1 ++ ({ data := #[32, 58, 45, 32] } : ByteArray) = bs y2 := by rw [hy2]; exact bs_add _ [32, 58, 45, 32]
        have k3 : bs y2 ++ bs (33 :: nk) = bs y3 := by rw [hy3]; exact bs_add _ _
        have k4 : bs y3 ++ ({ data := #[46] } : ByteArray) = bs y4 := by rw [hy4]; exact bs_add _ [46]
        have h3k : (33 :: nk).length = 3 := by rw [List.length_cons, hkl]
        have s1 : (bs T).size = T.length := size_bs _
        have s2 : (bs nj).size = 2 := by rw [size_bs]; exact hjl
        have s3 : (bs y1).size = T.length + 2 := by rw [size_bs, hy1, List.length_append, hjl]
        have s4 : (bs y2).size = T.length + 6 := by rw [size_bs, hy2, List.length_append, hy1, List.length_append, hjl]; rfl
        have s5 : (bs y3).size = T.length + 6 + 3 := by rw [size_bs, hy3, List.length_append, hy2, List.length_append, hy1, List.length_append, hjl, h3k]; rfl
        have s7 : (bs (33 :: nk)).size = 3 := by rw [size_bs, List.length_cons, hkl]
        have k0 : ({ data := #[33] } : ByteArray) ++ bs nk = bs (33 :: nk) := bs_add [33] nk
        have s6 : (bs nk).size = 2 := by rw [size_bs]; exact hkl
        clear hy1 hy2 hy3 hy4 hjl hkl h3k
        go_wp2_with fail
        refine (HN2.out _).mono ?_
        rintro e w3 ⟨rfl, hL3⟩
        have HB3 := hide (below_trans HBr.out (HL2.out.trans hL3).below HBr.out.size)
        clear hL3
        go_wp2
        go_roundg (b.length - (j + 1))
        case measure => omega
        case rel => exact ⟨j + 1, by omega, by go_num, by rw [HCT.out], by rw [HAny.out], HB3⟩
    · have hj' : j = b.length := by omega
      subst hj'
      rw [List.take_length]
      have HPr := hide (HP.out wr HBr.out)
      have HALl := HAl.out
      clear HP
      go_wp2_with fail
      refine HPr.out.mono ?_
      rintro e w2 ⟨v2, at', rfl, hV2, hB2⟩
      have HB2 := hide (below_trans HBr.out hB2 HBr.out.size)
      obtain ⟨w3, hw3⟩ : ∃ w3, w3 = w2.alloc (.cells #[.int .i64 0, .int .i64 (at' : Nat)] 29) := ⟨_, rfl⟩
      have hL3 : Later w2 w3 := by rw [hw3]; exact (Later.refl _).alloc _
      have hr3 : w3.heap[w2.heap.size]? = some (.cells #[.int .i64 0, .int .i64 (at' : Nat)] 29 (0, 0)) := by rw [hw3]; exact heap_alloc_new w2 _
      have HAC := hide (naiveAllC _ [] v2 (.slice none 0 0) w3 (Kind.sl_later hV2 hL3) (facts_nil w3))
      obtain ⟨a2, n2, c2, rfl⟩ : ∃ a n c, v2 = .slice a n c := by obtain ⟨a, c, e⟩ := Kind.slice hV2; exact ⟨a, _, c, e⟩
      have HB3 := hide (below_trans HB2.out hL3.below HB2.out.size)
      have HR3 := hide hr3
      have HW3 := hide hw3
      clear hV2 hB2 hL3 hr3 hw3 HPr HB2
      go_wp2_with fail
      rw [← HW3.out]
      refine HAC.out.mono ?_
      rintro e w4 ⟨v4, er, rfl, ⟨her, hT1, hT2⟩, hB4⟩
      rw [HALl] at her
      have hr4 := (hB4.block _ (Array.getElem?_eq_some_iff.1 HR3.out).1).trans HR3.out
      have c0 : w4.cell? ⟨w2.heap.size, 0, none⟩ = some (.int .i64 0) := by rw [cell_of_row _ _ _ _ _ _ hr4]; rfl
      have HB4 := hide (below_trans HB3.out hB4 HB3.out.size)
      obtain ⟨a4, n4, c4, rfl⟩ : ∃ a n c, v4 = .slice a n c := by
        by_cases h : (allP (toldRule (circT b.length 0 b)).1 []).1 = 0
        · obtain ⟨a, c, e⟩ := sliceFacts (hT2 h); exact ⟨a, _, c, e⟩
        · exact ⟨_, _, _, hT1 h⟩
      clear HALl HAl hT1 hT2 hB4 hr4 HAC HB3 HR3 HW3
      cases hq : b.any id
      · rw [hq] at her
        simp only [Bool.false_eq_true, if_false] at her
        subst her
        go_wp2
        go_ret
        exact ⟨rfl, HB4.out⟩
      · rw [hq] at her
        simp only [if_true] at her
        subst her
        go_wp2
        go_ret
        exact ⟨rfl, HB4.out⟩

set_option maxRecDepth 100000 in
set_option maxHeartbeats 1000000 in
theorem circleNone (a : Option Addr) (cap : Nat) (w : World) (m : Int) (hm : w.cell? ⟨0, 0, none⟩ = some (.int .i64 m)) :
    Calls Tryz.prog 3 #[.slice a 0 cap] w fun e w' => e = .returned (.bool true) ∧ Below w.heap.size w w' := by
  have HA := hide (aliveT w m hm)
  clear hm
  go_enter Tryz.func3, Tryz.ntmps3
  go_wp2_with fail
  refine HA.out.mono ?_
  rintro e w1 ⟨rfl, hB1⟩
  have HB1 := hide hB1
  clear HA hB1
  go_wp2
  go_ret
  exact ⟨rfl, HB1.out⟩

set_option maxRecDepth 100000 in
set_option maxHeartbeats 1000000 in
theorem circleFar (a : Option Addr) (n cap : Nat) (hn : 8 < n) (w : World) (m : Int) (hm : w.cell? ⟨0, 0, none⟩ = some (.int .i64 m)) :
    Calls Tryz.prog 3 #[.slice a n cap] w fun e w' => e = .returned (.bool true) ∧ Below w.heap.size w w' := by
  have HA := hide (aliveT w m hm)
  have g1 : ¬ (n : Int) < 1 := by omega
  have g2 : (8 : Int) < (n : Int) := by omega
  clear hm hn
  go_enter Tryz.func3, Tryz.ntmps3
  go_wp2_with fail
  refine HA.out.mono ?_
  rintro e w1 ⟨rfl, hB1⟩
  have HB1 := hide hB1
  clear HA hB1
  go_wp2
  go_ret
  exact ⟨rfl, HB1.out⟩

end Go.Proofs.YtlchjoclipdgbaaGreatDoor

/- Programs among a call's arguments, opened: how they lie in memory, and that no list of theirs is longer than the form's reach, no text longer than Go's. -/
namespace Go.Proofs.YtlchjoclipdgbaaGreatDoor
open Go.RowKit Go.Sort Go.ChangeShapes Go.WideShapes Go.ChangeAt Go.Deep

variable {H : Type} {enc : TypeId × Value → H} {W : World}

theorem ownP : ownKnob Tryz.prog.godebug = none := by kernel_rfl
theorem laidOutP : laidOutB Tryz.prog = true := by kernel_rfl
theorem cellsStrP : Tryz.prog.cellsOf 9 = 1 := by kernel_rfl
theorem addr_plainP {a : Addr} {v : Value} (h : W.cell? (a.add 0) = some v) : ∃ b off, a = ⟨b, off, none⟩ := by
  obtain ⟨b, off, spot⟩ := a
  have hspot : spot = none := by simpa [Addr.add] using World.cell?_spot h
  subst hspot
  exact ⟨b, off, rfl⟩

/-- Each list within reach. -/
def Sized (t : TypeId) (d : DataW H) : Prop := (d.weights Tryz.prog t).all (· ≤ reachBytes) = true
/-- How a type's values are opened. -/
def Opens {α : Type} (enc : TypeId × Value → H) (W : World) (ty : TypeId) (K : Kind α) (ok : α → Prop) : Prop :=
  ∀ n cs x, DataW.trod enc Tryz.prog W 0 (fun _ => true) true n ty cs = some x → Sized ty x.1 → ∃ a, K.is Anyw W cs a ∧ ok a

theorem sized_all {e : TypeId} {l : List (DataW H)} (h : (DataW.weightsAll Tryz.prog e l).all (· ≤ reachBytes) = true) : ∀ d ∈ l, Sized e d := by
  induction l with
  | nil => intro d hd; cases hd
  | cons x r ih =>
    simp only [DataW.weightsAll, List.all_append, Bool.and_eq_true] at h
    intro d hd
    rcases List.mem_cons.1 hd with rfl | hd
    · exact h.1
    · exact ih h.2 d hd

set_option maxRecDepth 100000 in
theorem openSlB {α : Type} {K : Kind α} {T ty : TypeId} {ok : α → Prop} (hT : Tryz.prog.underlying T = some (.slice ty)) (hc : Tryz.prog.cellsOf ty = K.size) (hby : 16 ≤ Tryz.prog.bytesOf ty) (hsz : 0 < K.size) (E : Opens enc W ty K ok)
    {n : Nat} {v : Value} {x : DataW H × List MemPlace} (hf : DataW.trod enc Tryz.prog W 0 (fun _ => true) true n T [v] = some x) (hw : Sized T x.1) : ∃ l, K.sl Anyw W v l ∧ (∀ a ∈ l, ok a) ∧ l.length * Tryz.prog.bytesOf ty ≤ reachBytes := by
  rcases open_slice hT hf with ⟨hcs, _⟩ | ⟨a, len, cap, m, k, D, Pl, hcs, _, hl, hm, hmm, hx, hel⟩
  · simp only [List.cons.injEq, and_true] at hcs
    exact ⟨[], by rw [hcs]; exact K.sl_nil _ _ _ _, fun a ha => (by cases ha), by simp⟩
  · simp only [List.cons.injEq, and_true] at hcs
    simp only [if_true] at hmm
    subst hmm
    rw [hc] at hel
    have hd : x.1 = .slice ((List.range len).map D) ((List.range (m - len)).map fun j => D (len + j)) := by rw [hx]
    have hw2 : (decide ((len + (m - len)) * Tryz.prog.bytesOf ty ≤ reachBytes) && ((DataW.weightsAll Tryz.prog ty ((List.range len).map D)).all (· ≤ reachBytes) && (DataW.weightsAll Tryz.prog ty ((List.range (m - len)).map fun j => D (len + j))).all (· ≤ reachBytes))) = true := by
      have := hw
      unfold Sized at this
      rw [hd, DataW.weights, hT] at this
      simpa using this
    simp only [Bool.and_eq_true] at hw2
    have hlen : len ≤ 8796093022208 := by
      have h1 : (len + (m - len)) * Tryz.prog.bytesOf ty ≤ reachBytes := of_decide_eq_true hw2.1
      have h2 : len * 16 ≤ (len + (m - len)) * Tryz.prog.bytesOf ty := Nat.mul_le_mul (by omega) hby
      unfold reachBytes at h1
      omega
    have each : ∀ i : Fin len, ∃ z : α, ∃ cs', W.cells? 0 (a.add (i.1 * K.size)) K.size = some cs' ∧ K.is Anyw W cs' z ∧ ok z := fun i => by
      obtain ⟨cs', k1, k2⟩ := hel i.1 (by omega)
      obtain ⟨z, hz, hk⟩ := E _ _ _ k2 (sized_all hw2.2.1 _ (List.mem_map.2 ⟨i.1, List.mem_range.2 i.2, rfl⟩))
      exact ⟨z, cs', k1, hz, hk⟩
    refine ⟨List.ofFn fun i => Classical.choose (each i), ⟨⟨by simpa using hlen, ?_⟩, some a, m, by rw [hcs]; simp, fun hne => ?_⟩, fun z hz => ?_, ?_⟩
    · rw [hcs]; show len ≤ m; omega
    rotate_left
    rotate_left
    · have h1 : (len + (m - len)) * Tryz.prog.bytesOf ty ≤ reachBytes := of_decide_eq_true hw2.1
      rw [List.length_ofFn]
      exact Nat.le_trans (Nat.mul_le_mul_right _ (by omega)) h1
    rotate_left
    · rw [List.mem_ofFn] at hz
      obtain ⟨i, rfl⟩ := hz
      obtain ⟨_, _, _, hok⟩ := Classical.choose_spec (each i)
      exact hok
    have h0 : 0 < len := by
      refine Nat.pos_of_ne_zero fun e => hne ?_
      subst e; rfl
    have first : ∀ i : Fin len, ∀ cs', W.cells? 0 (a.add (i.1 * K.size)) K.size = some cs' → ∀ j u, cs'[j]? = some u → W.cell? ((a.add (i.1 * K.size)).add j) = some u := fun i cs' k1 j u hu => by
      obtain ⟨h1, _, hcell⟩ := World.cells?_some k1
      have hj : j < cs'.length := (List.getElem?_eq_some_iff.1 hu).1
      have := hcell j (by omega)
      rw [this]; exact hu
    have hplain : ∃ b off, a = ⟨b, off, none⟩ := by
      obtain ⟨cs', k0, k1, _⟩ := Classical.choose_spec (each ⟨0, h0⟩)
      have hl := K.len k1
      have hu : cs'[0]? = some (cs'[0]'(by omega)) := List.getElem?_eq_getElem (by omega)
      have := first ⟨0, h0⟩ cs' k0 0 _ hu
      exact addr_plainP (W := W) (v := cs'[0]'(by omega)) (by simpa [Addr.add] using this)
    obtain ⟨b, off, rfl⟩ := hplain
    have hlt : b < W.heap.size := by
      obtain ⟨cs', k0, k1, _⟩ := Classical.choose_spec (each ⟨0, h0⟩)
      have hl := K.len k1
      have hu : cs'[0]? = some (cs'[0]'(by omega)) := List.getElem?_eq_getElem (by omega)
      have := first ⟨0, h0⟩ cs' k0 0 _ hu
      rw [Addr.add_lit, Addr.add_lit] at this
      exact World.block_lt_of_cell? W _ this
    refine ⟨b, off, rfl, trivial, hlt, fun i z hi => ?_⟩
    have hi' : i < len := by simpa using (List.getElem?_eq_some_iff.1 hi).1
    rw [List.getElem?_ofFn, dif_pos hi'] at hi
    injection hi with hi
    subst hi
    obtain ⟨cs', k0, k1, _⟩ := Classical.choose_spec (each ⟨i, hi'⟩)
    refine ⟨cs', k1, fun j u hu => ?_⟩
    have := first ⟨i, hi'⟩ cs' k0 j u hu
    rw [Addr.add_lit, Addr.add_lit] at this
    exact this

theorem openSl {α : Type} {K : Kind α} {T ty : TypeId} {ok : α → Prop} (hT : Tryz.prog.underlying T = some (.slice ty)) (hc : Tryz.prog.cellsOf ty = K.size) (hby : 16 ≤ Tryz.prog.bytesOf ty) (hsz : 0 < K.size) (E : Opens enc W ty K ok)
    {n : Nat} {v : Value} {x : DataW H × List MemPlace} (hf : DataW.trod enc Tryz.prog W 0 (fun _ => true) true n T [v] = some x) (hw : Sized T x.1) : ∃ l, K.sl Anyw W v l ∧ ∀ a ∈ l, ok a := by
  obtain ⟨l, h1, h2, _⟩ := openSlB hT hc hby hsz E hf hw
  exact ⟨l, h1, h2⟩

/-- No text is longer than Go's. -/
def okT (t : TermD) : Prop := t.2.length ≤ maxLen
def okA (a : AtomD) : Prop := a.name.length ≤ maxLen ∧ ∀ t ∈ a.terms, okT t
def okR (r : RuleD) : Prop := okA r.head ∧ ∀ a ∈ r.body, okA a

theorem cellsTerm : Tryz.prog.cellsOf 105 = 2 := by kernel_rfl
theorem cellsTerms : Tryz.prog.cellsOf 44 = 1 := by kernel_rfl
theorem cellsAtom : Tryz.prog.cellsOf 46 = 3 := by kernel_rfl
theorem cellsAtoms : Tryz.prog.cellsOf 47 = 1 := by kernel_rfl
theorem cellsBool : Tryz.prog.cellsOf 4 = 1 := by kernel_rfl
theorem bytesTerm : Tryz.prog.bytesOf 105 = 24 := by kernel_rfl
theorem bytesAtom : Tryz.prog.bytesOf 46 = 48 := by kernel_rfl

theorem cellsRule : Tryz.prog.cellsOf 49 = 4 := by kernel_rfl
theorem bytesRule : Tryz.prog.bytesOf 49 = 72 := by kernel_rfl

set_option maxRecDepth 100000 in
theorem opensTerm : Opens enc W 105 termK okT := by
  intro n cs x h _
  obtain ⟨y0, y1, m, hx, hl, h0, h1⟩ := trod_struct2 Tryz.underlying105 h
  rw [cellsTerm] at hl
  match cs, hl with
  | [c0, c1], _ =>
    have e0 : Tryz.prog.cellsOf 4 = 1 := cellsBool
    have e1 : Tryz.prog.cellsOf 9 = 1 := cellsStrP
    simp only [e0, e1, List.drop_zero, List.drop_succ_cons, List.take_succ_cons, List.take_zero] at h0 h1
    obtain ⟨b, hb, _⟩ := DataW.trod_bool Tryz.underlying4 h0
    obtain ⟨s, hs, _, hsz⟩ := DataW.trod_string Tryz.underlying9 h1
    simp only [List.cons.injEq, and_true] at hb hs
    exact ⟨(b, raw s), by show [c0, c1] = _; rw [hb, hs, bs_raw], by show (raw s).length ≤ _; rw [length_raw]; exact hsz⟩

set_option maxRecDepth 100000 in
theorem opensAtom : Opens enc W 46 atomK okA := by
  intro n cs x h hw
  obtain ⟨y0, y1, y2, m, hx, hl, h0, h1, h2⟩ := trod_struct3 Tryz.underlying46 h
  rw [cellsAtom] at hl
  match cs, hl with
  | [c0, c1, c2], _ =>
    have e0 : Tryz.prog.cellsOf 4 = 1 := cellsBool
    have e1 : Tryz.prog.cellsOf 9 = 1 := cellsStrP
    have e2 : Tryz.prog.cellsOf 44 = 1 := cellsTerms
    simp only [e0, e1, e2, List.drop_zero, List.drop_succ_cons, List.take_succ_cons, List.take_zero] at h0 h1 h2
    obtain ⟨b, hb, _⟩ := DataW.trod_bool Tryz.underlying4 h0
    obtain ⟨s, hs, _, hsz⟩ := DataW.trod_string Tryz.underlying9 h1
    simp only [List.cons.injEq, and_true] at hb hs
    have hw2 : Sized 44 y2.1 := by
      unfold Sized at hw ⊢
      rw [hx, DataW.weights, Tryz.underlying46] at hw
      simp only [List.map_cons, List.map_nil, DataW.weightsEach, List.all_append, Bool.and_eq_true] at hw
      exact hw.2.2.1
    obtain ⟨l, hl, hlk⟩ := openSl Tryz.underlying44 cellsTerm (by rw [bytesTerm]; decide) (by decide) opensTerm h2 hw2
    exact ⟨⟨b, raw s, l⟩, ⟨c2, by show [c0, c1, c2] = _; rw [hb, hs, bs_raw], hl⟩, by show (raw s).length ≤ _; rw [length_raw]; exact hsz, hlk⟩

set_option maxRecDepth 100000 in
theorem opensRule : Opens enc W 49 ruleK okR := by
  intro n cs x h hw
  obtain ⟨y0, y1, m, hx, hl, h0, h1⟩ := trod_struct2 Tryz.underlying49 h
  rw [cellsRule] at hl
  match cs, hl with
  | [c0, c1, c2, c3], _ =>
    have e0 : Tryz.prog.cellsOf 46 = 3 := cellsAtom
    have e1 : Tryz.prog.cellsOf 47 = 1 := cellsAtoms
    simp only [e0, e1, List.drop_zero, List.drop_succ_cons, List.take_succ_cons, List.take_zero] at h0 h1
    have hws : Sized 46 y0.1 ∧ Sized 47 y1.1 := by
      unfold Sized at hw ⊢
      rw [hx, DataW.weights, Tryz.underlying49] at hw
      simp only [List.map_cons, List.map_nil, DataW.weightsEach, List.all_append, Bool.and_eq_true] at hw
      exact ⟨hw.1, hw.2.1⟩
    obtain ⟨a, ⟨v, ev, hv⟩, hak⟩ := opensAtom _ _ _ h0 hws.1
    obtain ⟨l, hl, hlk⟩ := openSl Tryz.underlying47 cellsAtom (by rw [bytesAtom]; decide) (by decide) opensAtom h1 hws.2
    simp only [List.cons.injEq, and_true] at ev
    exact ⟨⟨a, l⟩, ⟨v, c3, by show [c0, c1, c2, c3] = _; rw [ev.1, ev.2.1, ev.2.2], hv, hl⟩, hak, hlk⟩

set_option maxRecDepth 100000 in
theorem openRules {b0 : Nat} {v : Value} {d : DataW H} {p : List MemPlace} (hv : Value.okWide Tryz.prog W .any b0 26 v) (h : DataW.Trod enc Tryz.prog W 0 (fun _ => true) true 26 v d p) (hw : Sized 26 d) : ∃ l, ruleK.sl Anyw W v l ∧ ∀ r ∈ l, okR r := by
  obtain ⟨a0, len0, cap0, rfl⟩ := okWide_slice Tryz.underlying26 hv
  obtain ⟨fuel, hf⟩ := h
  exact openSl Tryz.underlying26 cellsRule (by rw [bytesRule]; decide) (by decide) opensRule (x := (d, p)) (by simpa [Value.cells] using hf) hw

/-- What the form's reach says of an argument. -/
theorem sized_at {ts : List TypeId} {ds : List (DataW H)} (h : (DataW.weightsEach Tryz.prog ts ds).all (· ≤ reachBytes) = true) {j : Nat} {t : TypeId} {d : DataW H} (ht : ts[j]? = some t) (hd : ds[j]? = some d) : Sized t d :=
  List.all_eq_true.2 fun k hk => List.all_eq_true.1 h _ (DataW.weights_mem_each ht hd k hk)

end Go.Proofs.YtlchjoclipdgbaaGreatDoor

/- Facts, atoms and texts among a call's arguments, opened, each list within the form's reach. -/
namespace Go.Proofs.YtlchjoclipdgbaaGreatDoor
open Go.RowKit Go.Sort Go.ChangeShapes Go.WideShapes Go.ChangeAt Go.Deep

variable {H : Type} {enc : TypeId × Value → H} {W : World}

/-- A fact lies in two cells. -/
def factK : Kind FactD where
  size := 2
  is := fun B w c f => ∃ s, c = [.string f.1, s] ∧ bsK.sl B w s f.2
  len := fun ⟨s, h, _⟩ => by subst h; rfl
  one := fun ⟨s, h, hs⟩ u hu => by
    subst h
    obtain ⟨a, cap, rfl⟩ := Kind.slice hs
    simp at hu; rcases hu with rfl | rfl <;> rfl
  kept := fun ⟨v, h, hs⟩ h1 h2 => ⟨v, h, Kind.sl_kept hs h1 h2⟩
  mono := fun ⟨v, h, hs⟩ h1 => ⟨v, h, Kind.sl_mono hs h1⟩

theorem sl_strs {B : Nat → Prop} {w : World} {v : Value} {l : List ByteArray} (h : bsK.sl B w v l) : Strs w v l := by
  obtain ⟨⟨h0, _⟩, a, cap, rfl, h1⟩ := h
  refine ⟨h0, a, cap, rfl, fun hne => ?_⟩
  obtain ⟨b, off, rfl, _, hb, hc⟩ := h1 hne
  refine ⟨b, off, rfl, hb, fun i hi => ?_⟩
  obtain ⟨c, rfl, c2⟩ := hc i _ (List.getElem?_eq_getElem hi)
  have := c2 0 _ rfl
  rw [List.getD_eq_getElem?_getD, List.getElem?_eq_getElem hi]
  simpa [bsK] using this

theorem sl_facts {B : Nat → Prop} {w : World} {v : Value} {l : List FactD} (h : factK.sl B w v l) (hl : l.length ≤ 3518437208883) : Facts w v l := by
  obtain ⟨_, a, cap, rfl, h1⟩ := h
  refine ⟨hl, a, cap, rfl, fun hne => ?_⟩
  obtain ⟨b, off, rfl, _, hb, hc⟩ := h1 hne
  refine ⟨b, off, rfl, hb, fun i hi => ?_⟩
  obtain ⟨c, ⟨s, rfl, hs⟩, c2⟩ := hc i _ (List.getElem?_eq_getElem hi)
  rw [List.getD_eq_getElem?_getD, List.getElem?_eq_getElem hi]
  exact ⟨by simpa [factK] using c2 0 _ rfl, s, by simpa [factK] using c2 1 _ rfl, sl_strs hs⟩

def okS (s : ByteArray) : Prop := s.size ≤ maxLen
def okFt (f : FactD) : Prop := okS f.1 ∧ ∀ s ∈ f.2, okS s

theorem cellsFactP : Tryz.prog.cellsOf 38 = 2 := by kernel_rfl
theorem cellsStrsP : Tryz.prog.cellsOf 36 = 1 := by kernel_rfl
theorem bytesFactP : Tryz.prog.bytesOf 38 = 40 := by kernel_rfl
theorem bytesStrP : Tryz.prog.bytesOf 9 = 16 := by kernel_rfl

set_option maxRecDepth 100000 in
theorem opensStr : Opens enc W 9 bsK okS := by
  intro n cs x h _
  obtain ⟨s, hs, _, hsz⟩ := DataW.trod_string Tryz.underlying9 h
  exact ⟨s, hs, hsz⟩

set_option maxRecDepth 100000 in
theorem opensFact : Opens enc W 38 factK okFt := by
  intro n cs x h hw
  obtain ⟨y0, y1, m, hx, hl, h0, h1⟩ := trod_struct2 Tryz.underlying38 h
  rw [cellsFactP] at hl
  match cs, hl with
  | [c0, c1], _ =>
    have e0 : Tryz.prog.cellsOf 9 = 1 := cellsStrP
    have e1 : Tryz.prog.cellsOf 36 = 1 := cellsStrsP
    simp only [e0, e1, List.drop_zero, List.drop_succ_cons, List.take_succ_cons, List.take_zero] at h0 h1
    obtain ⟨s, hs, _, hsz⟩ := DataW.trod_string Tryz.underlying9 h0
    simp only [List.cons.injEq, and_true] at hs
    have hw2 : Sized 36 y1.1 := by
      unfold Sized at hw ⊢
      rw [hx, DataW.weights, Tryz.underlying38] at hw
      simp only [List.map_cons, List.map_nil, DataW.weightsEach, List.all_append, Bool.and_eq_true] at hw
      exact hw.2.1
    obtain ⟨l, hl, hlk⟩ := openSl Tryz.underlying36 cellsStrP (by rw [bytesStrP]; decide) (by decide) opensStr h1 hw2
    exact ⟨(s, l), ⟨c1, by show [c0, c1] = _; rw [hs], hl⟩, hsz, hlk⟩

set_option maxRecDepth 100000 in
theorem openFactsS {b0 : Nat} {v : Value} {d : DataW H} {p : List MemPlace} (hv : Value.okWide Tryz.prog W .any b0 32 v) (h : DataW.Trod enc Tryz.prog W 0 (fun _ => true) true 32 v d p) (hw : Sized 32 d) : ∃ l, Facts W v l ∧ ∀ f ∈ l, okFt f := by
  obtain ⟨a0, len0, cap0, rfl⟩ := okWide_slice Tryz.underlying32 hv
  obtain ⟨fuel, hf⟩ := h
  obtain ⟨l, h1, h2, h3⟩ := openSlB Tryz.underlying32 cellsFactP (by rw [bytesFactP]; decide) (by decide) opensFact (x := (d, p)) (by simpa [Value.cells] using hf) hw
  rw [bytesFactP] at h3
  exact ⟨l, sl_facts h1 (by unfold reachBytes at h3; omega), h2⟩

set_option maxRecDepth 100000 in
theorem openAtoms {b0 : Nat} {v : Value} {d : DataW H} {p : List MemPlace} (hv : Value.okWide Tryz.prog W .any b0 47 v) (h : DataW.Trod enc Tryz.prog W 0 (fun _ => true) true 47 v d p) (hw : Sized 47 d) : ∃ l, atomK.sl Anyw W v l ∧ (∀ a ∈ l, okA a) ∧ l.length * 48 ≤ reachBytes := by
  obtain ⟨a0, len0, cap0, rfl⟩ := okWide_slice Tryz.underlying47 hv
  obtain ⟨fuel, hf⟩ := h
  obtain ⟨l, h1, h2, h3⟩ := openSlB Tryz.underlying47 cellsAtom (by rw [bytesAtom]; decide) (by decide) opensAtom (x := (d, p)) (by simpa [Value.cells] using hf) hw
  rw [bytesAtom] at h3
  exact ⟨l, h1, h2, h3⟩

set_option maxRecDepth 100000 in
theorem openStrsS {b0 : Nat} {v : Value} {d : DataW H} {p : List MemPlace} (hv : Value.okWide Tryz.prog W .any b0 36 v) (h : DataW.Trod enc Tryz.prog W 0 (fun _ => true) true 36 v d p) (hw : Sized 36 d) : ∃ l, Strs W v l ∧ ∀ s ∈ l, okS s := by
  obtain ⟨a0, len0, cap0, rfl⟩ := okWide_slice Tryz.underlying36 hv
  obtain ⟨fuel, hf⟩ := h
  obtain ⟨l, h1, h2, _⟩ := openSlB Tryz.underlying36 cellsStrP (by rw [bytesStrP]; decide) (by decide) opensStr (x := (d, p)) (by simpa [Value.cells] using hf) hw
  exact ⟨l, sl_strs h1, h2⟩

end Go.Proofs.YtlchjoclipdgbaaGreatDoor
