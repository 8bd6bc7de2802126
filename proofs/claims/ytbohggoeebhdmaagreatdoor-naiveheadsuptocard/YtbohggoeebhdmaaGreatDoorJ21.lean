import Derived.Test.YtbohggoeebhdmaaGreatDoorJ18
import Derived.Test.YtbohggoeebhdmaaGreatDoorJ20
import Derived.Test.YtbohggoeebhdmaaGreatDoorJ14
import Derived.Test.YtbohggoeebhdmaaGreatDoorJ15
import Derived.Test.YtbohggoeebhdmaaGreatDoorJ17
import Derived.Test.YtbohggoeebhdmaaGreatDoorJ5
import Derived.ProofKit
import Derived.SliceStrings
import Derived.Deep.Slices
import Derived.Deep.Strs
import Derived.Lib.SmallJoins
import Derived.SizedLaws
import Derived.Test.YtbohggoeebhdmaaGreatDoorJ9
/- The walk of chapter 5's statements' closed beginning, alive. -/
namespace Go.Proofs.YtbohggoeebhdmaaGreatDoor
open Go.RowKit Go.Sort

def kb (l : Bs) : ByteArray := ⟨l.toArray⟩
/-- The rules of the closed beginning. -/
def ruls5 : List RuleD :=
  [⟨⟨false, [116], [(true, [88]), (true, [89])]⟩, [⟨false, [101], [(true, [88]), (true, [89])]⟩]⟩,
   ⟨⟨false, [116], [(true, [88]), (true, [90])]⟩, [⟨false, [116], [(true, [88]), (true, [89])]⟩, ⟨false, [101], [(true, [89]), (true, [90])]⟩]⟩,
   ⟨⟨false, [110], [(true, [88])]⟩, [⟨false, [118], [(true, [88])]⟩, ⟨true, [116], [(false, [97]), (true, [88])]⟩]⟩]
def told5 : List FactB := [(kb [101], [kb [97], kb [98]]), (kb [101], [kb [98], kb [99]]), (kb [118], [kb [97]]), (kb [118], [kb [99]])]
def all5 : List FactB := [(kb [101], [kb [97], kb [98]]), (kb [101], [kb [98], kb [99]]), (kb [110], [kb [97]]), (kb [116], [kb [97], kb [98]]), (kb [116], [kb [97], kb [99]]), (kb [116], [kb [98], kb [99]]), (kb [118], [kb [97]]), (kb [118], [kb [99]])]
def txt5 : Bs := [116, 40, 88, 44, 89, 41, 32, 58, 45, 32, 101, 40, 88, 44, 89, 41, 46, 32, 116, 40, 88, 44, 90, 41, 32, 58, 45, 32, 116, 40, 88, 44, 89, 41, 44, 32, 101, 40, 89, 44, 90, 41, 46, 32, 110, 40, 88, 41, 32, 58, 45, 32, 118, 40, 88, 41, 44, 32, 33, 116, 40, 97, 44, 88, 41, 46]

theorem told_txt5 : toldRule txt5 = (ruls5, 0, 0) := by kernel_rfl
theorem strata5 : strataP ruls5 = ([0, 0, 1], 0, 0) := by kernel_rfl
theorem run5 : runI ruls5 [0, 0, 1] 2 0 told5 = (0, all5) := by decide +kernel
theorem up_told5 : Up told5 := by show List.Pairwise _ _; rw [eF_eq]; decide +kernel
theorem up_all5 : Up all5 := by show List.Pairwise _ _; rw [eF_eq]; decide +kernel
theorem right_told5 : ∀ f ∈ told5, wrongF f = 0 := by decide +kernel
theorem fit_told5 : ∀ f ∈ told5, fitF ruls5 f = true := by decide +kernel
theorem good_told5 : GoodS ruls5 told5 := ⟨up_told5, fun f hf => wrongF_right.1 (right_told5 f hf), by decide, fit_told5⟩
theorem count5 : countP [0, 0, 1] = 2 := by decide
theorem allP5 : allP ruls5 told5 = (0, all5) := by
  have e1 : (strataP ruls5).2.1 = 0 := by rw [strata5]
  have e2 : (strataP ruls5).1 = [0, 0, 1] := by rw [strata5]
  have e3 : (factsP ruls5 told5).1 = 0 := by rw [good_facts good_told5]
  unfold allP
  rw [if_neg (fun h => h e1), if_neg (fun h => h e3), e2, count5, runI_eq]
  exact run5

theorem strs1 {w : World} {c : Nat} {a : ByteArray} {t : TypeId} {fr : Nat × Nat} (h : w.heap[c]? = some (.cells #[.string a] t fr)) : Strs w (.slice (some ⟨c, 0, none⟩) 1 1) [a] := by
  refine ⟨by simp, _, 1, rfl, fun _ => ⟨c, 0, rfl, (Array.getElem?_eq_some_iff.1 h).1, fun i hi => ?_⟩⟩
  rw [cell_of_row _ _ _ _ _ _ h]
  simp at hi
  subst hi
  rfl
theorem strs2' {w : World} {c : Nat} {a b : ByteArray} {t : TypeId} {fr : Nat × Nat} (h : w.heap[c]? = some (.cells #[.string a, .string b] t fr)) : Strs w (.slice (some ⟨c, 0, none⟩) 2 2) [a, b] := by
  refine ⟨by simp, _, 2, rfl, fun _ => ⟨c, 0, rfl, (Array.getElem?_eq_some_iff.1 h).1, fun i hi => ?_⟩⟩
  rw [cell_of_row _ _ _ _ _ _ h]
  simp at hi
  have : i = 0 ∨ i = 1 := by omega
  rcases this with rfl | rfl <;> rfl
theorem facts4 {w : World} {c : Nat} {n0 n1 n2 n3 : ByteArray} {s0 s1 s2 s3 : Value} {l0 l1 l2 l3 : List ByteArray} {t : TypeId} {fr : Nat × Nat} (h : w.heap[c]? = some (.cells #[.string n0, s0, .string n1, s1, .string n2, s2, .string n3, s3] t fr)) (h0 : Strs w s0 l0) (h1 : Strs w s1 l1) (h2 : Strs w s2 l2) (h3 : Strs w s3 l3) :
    Facts w (.slice (some ⟨c, 0, none⟩) 4 4) [(n0, l0), (n1, l1), (n2, l2), (n3, l3)] := by
  refine ⟨by simp, _, 4, rfl, fun _ => ⟨c, 0, rfl, (Array.getElem?_eq_some_iff.1 h).1, fun i hi => ?_⟩⟩
  rw [cell_of_row _ _ _ _ _ _ h, cell_of_row _ _ _ _ _ _ h]
  simp at hi
  have : i = 0 ∨ i = 1 ∨ i = 2 ∨ i = 3 := by omega
  rcases this with rfl | rfl | rfl | rfl
  · exact ⟨rfl, s0, rfl, h0⟩
  · exact ⟨rfl, s1, rfl, h1⟩
  · exact ⟨rfl, s2, rfl, h2⟩
  · exact ⟨rfl, s3, rfl, h3⟩

set_option maxRecDepth 100000 in
set_option maxHeartbeats 4000000 in
theorem alive5 (w : World) (m : Int) (hm : w.cell? ⟨3, 0, none⟩ = some (.int .i64 m)) : Calls Tryz.prog 22 #[] w fun e w' => e = .returned (.bool true) ∧ Below w.heap.size w w' := by
  have HP := hide (parseC (bs txt5) w m hm)
  rw [raw_bs, told_txt5] at HP
  clear hm
  go_enter Tryz.func22, Tryz.ntmps22
  go_wp2_with fail
  refine HP.out.mono ?_
  rintro e w1 ⟨v1, rfl, hV1, hB1⟩
  dsimp only at hV1 ⊢
  have HV1 := hide (Kind.sl_any hV1)
  have HB1 := hide hB1
  obtain ⟨va, vc, rfl⟩ := Kind.slice hV1
  clear HP hV1 hB1
  obtain ⟨w2, hw2⟩ : ∃ w2, w2 = (((((w1.alloc (.cells #[.int .i64 0, .int .i64 0] 27)).alloc (.cells #[.string { data := #[97] }, .string { data := #[98] }] 9)).alloc (.cells #[.string { data := #[98] }, .string { data := #[99] }] 9)).alloc (.cells #[.string { data := #[97] }] 9)).alloc (.cells #[.string { data := #[99] }] 9)).alloc (.cells #[.string { data := #[101] }, .slice (some ⟨w1.heap.size + 1, 0, none⟩) 2 2, .string { data := #[101] }, .slice (some ⟨w1.heap.size + 1 + 1, 0, none⟩) 2 2, .string { data := #[118] }, .slice (some ⟨w1.heap.size + 1 + 1 + 1, 0, none⟩) 1 1, .string { data := #[118] }, .slice (some ⟨w1.heap.size + 1 + 1 + 1 + 1, 0, none⟩) 1 1] 54) := ⟨_, rfl⟩
  have hL2 : Later w1 w2 := by rw [hw2]; exact (by repeat (first | exact Later.refl _ | assumption | refine Later.drewN ?_ _ | refine Later.drew ?_ | refine Later.alloc ?_ _ | refine Later.grow ?_ _))
  have r1 : w2.heap[w1.heap.size + 1]? = some (.cells #[.string { data := #[97] }, .string { data := #[98] }] 9 (0, 0)) := by
    rw [hw2]
    simp only [heap_at, World.size_alloc]
    repeat (first | rw [if_pos trivial] | rw [if_pos (by omega)] | rw [if_neg (by omega)])
  have r2 : w2.heap[w1.heap.size + 1 + 1]? = some (.cells #[.string { data := #[98] }, .string { data := #[99] }] 9 (0, 0)) := by
    rw [hw2]
    simp only [heap_at, World.size_alloc]
    repeat (first | rw [if_pos trivial] | rw [if_pos (by omega)] | rw [if_neg (by omega)])
  have r3 : w2.heap[w1.heap.size + 1 + 1 + 1]? = some (.cells #[.string { data := #[97] }] 9 (0, 0)) := by
    rw [hw2]
    simp only [heap_at, World.size_alloc]
    repeat (first | rw [if_pos trivial] | rw [if_pos (by omega)] | rw [if_neg (by omega)])
  have r4 : w2.heap[w1.heap.size + 1 + 1 + 1 + 1]? = some (.cells #[.string { data := #[99] }] 9 (0, 0)) := by
    rw [hw2]
    simp only [heap_at, World.size_alloc]
    repeat (first | rw [if_pos trivial] | rw [if_pos (by omega)] | rw [if_neg (by omega)])
  have r5 : w2.heap[w1.heap.size + 1 + 1 + 1 + 1 + 1]? = some (.cells #[.string { data := #[101] }, .slice (some ⟨w1.heap.size + 1, 0, none⟩) 2 2, .string { data := #[101] }, .slice (some ⟨w1.heap.size + 1 + 1, 0, none⟩) 2 2, .string { data := #[118] }, .slice (some ⟨w1.heap.size + 1 + 1 + 1, 0, none⟩) 1 1, .string { data := #[118] }, .slice (some ⟨w1.heap.size + 1 + 1 + 1 + 1, 0, none⟩) 1 1] 54 (0, 0)) := by
    rw [hw2]
    simp only [heap_at, World.size_alloc]
    repeat (first | rw [if_pos trivial] | rw [if_pos (by omega)] | rw [if_neg (by omega)])
  have hF : Facts w2 (.slice (some ⟨w1.heap.size + 1 + 1 + 1 + 1 + 1, 0, none⟩) 4 4) told5 := facts4 r5 (strs2' r1) (strs2' r2) (strs1 r3) (strs1 r4)
  have HO := hide (ofC _ told5 w2 hF)
  have HB2 := hide (below_trans HB1.out hL2.below HB1.out.size)
  have HV2 := hide (Kind.sl_later HV1.out hL2)
  have HW2 := hide hw2
  clear hL2 r1 r2 r3 r4 r5 hF hw2 HB1 HV1
  go_wp2_with fail
  rw [← HW2.out]
  refine HO.out.mono ?_
  rintro e w3 ⟨v3, s, rfl, hS, hO3, hL3⟩
  have es : s = told5 := by rw [setF_of hS.1 hS.2.1, setF_up_self up_told5]
  subst es
  have hF3 : Facts w3 v3 told5 := hO3.facts (by decide)
  have HB3 := hide (below_trans HB2.out hL3.below HB2.out.size)
  have HA := hide (naiveAllC ruls5 told5 (.slice va ruls5.length vc) v3 w3 (Kind.sl_later HV2.out hL3) hF3)
  rw [allP5] at HA
  obtain ⟨a3, c3, rfl⟩ := sliceFacts hF3
  clear hS hO3 hL3 hF3 HO HW2 HB2 HV2
  go_wp2_with fail
  refine HA.out.mono ?_
  rintro e w4 ⟨v4, er, rfl, ⟨her, _, hT4⟩, hB4⟩
  dsimp only at her hT4
  subst her
  have hF4 := hT4 rfl
  have HF4 := hide hF4
  have HB4 := hide (below_trans HB3.out hB4 HB3.out.size)
  obtain ⟨a4, c4, rfl⟩ := sliceFacts hF4
  have h8 : all5.length = 8 := rfl
  rw [h8] at HF4 ⊢
  obtain ⟨w5, hw5⟩ : ∃ w5, w5 = w4.alloc (.cells #[.string { data := #[97] }] 9) := ⟨_, rfl⟩
  have hL5 : Later w4 w5 := by rw [hw5]; exact (Later.refl _).alloc _
  have r6 : w5.heap[w4.heap.size]? = some (.cells #[.string { data := #[97] }] 9 (0, 0)) := by rw [hw5]; exact heap_alloc_new w4 _
  have hFV : FactV w5 (.agg #[.string { data := #[110] }, .slice (some ⟨w4.heap.size, 0, none⟩) 1 1]) (kb [110], [kb [97]]) := ⟨_, rfl, strs1 r6⟩
  have HI := hide (inC (.slice a4 8 c4) _ all5 (kb [110], [kb [97]]) w5 (HF4.out.later hL5) hFV up_all5)
  rw [in_eq, show inB all5 (kb [110], [kb [97]]) = true by decide +kernel] at HI
  have HL5 := hide hL5
  have HW5 := hide hw5
  clear hT4 hB4 hF4 h8 hw5 hL5 r6 hFV HA HB3
  go_wp2_with fail
  rw [← HW5.out]
  refine HI.out.mono ?_
  rintro e w6 ⟨rfl, hL6⟩
  have HB6 := hide (below_trans HB4.out (HL5.out.trans hL6).below HB4.out.size)
  obtain ⟨w7, hw7⟩ : ∃ w7, w7 = w6.alloc (.cells #[.int .i64 0, .int .i64 1] 3) := ⟨_, rfl⟩
  have hL7 : Later w6 w7 := by rw [hw7]; exact (Later.refl _).alloc _
  have r7 : w7.heap[w6.heap.size]? = some (.cells #[.int .i64 0, .int .i64 1] 3 (0, 0)) := by rw [hw7]; exact heap_alloc_new w6 _
  have hI7 : intK.sl Anyw w7 (.slice (some ⟨w6.heap.size, 0, none⟩) 2 2) [0, 1] := by
    refine ⟨⟨by simp, by simp [lenOk]⟩, _, 2, rfl, fun _ => ⟨w6.heap.size, 0, rfl, trivial, (Array.getElem?_eq_some_iff.1 r7).1, fun i x hx => ⟨_, rfl, fun j u hu => ?_⟩⟩⟩
    rw [cell_of_row _ _ _ _ _ _ r7]
    match i, hx with
    | 0, hx => simp at hx; subst hx; match j, hu with
      | 0, hu => simp at hu; subst hu; rfl
    | 1, hx => simp at hx; subst hx; match j, hu with
      | 0, hu => simp at hu; subst hu; rfl
  have HC := hide (countC [0, 1] _ w7 hI7 (by decide))
  rw [show countP [0, 1] = 2 from rfl] at HC
  have HB7 := hide (below_trans HB6.out hL7.below HB6.out.size)
  have HW7 := hide hw7
  clear hL6 hw7 hL7 r7 hI7 HI HL5 HW5 HB4
  go_wp2_with fail
  rw [← HW7.out]
  refine HC.out.mono ?_
  rintro e w8 ⟨rfl, hL8⟩
  have HB8 := hide (below_trans HB7.out hL8.below HB7.out.size)
  clear hL8 HC HW7
  go_wp2
  go_ret
  exact ⟨rfl, HB8.out⟩

end Go.Proofs.YtbohggoeebhdmaaGreatDoor

/- The walk of NaiveHeads. -/
namespace Go.Proofs.YtbohggoeebhdmaaGreatDoor
open Go.RowKit Go.Sort Go.Maps

/-- What a head that is not too long makes is not too long. -/
theorem head_long {r : RuleD} {fs : List FactB} {R : List (List BindD)} {l : List BindD} {f : FactB} (h0 : errW r.body fs [] = 0) (hn : r.head.name.length ≤ 2097152) (ht : r.head.terms.length ≤ 2097152) (hx : ∀ t ∈ r.head.terms, t.2.length ≤ 2097152)
    (hR : allB (fun _ => fs) r.body = some R) (hl : l ∈ R) (hf : fillB r.head l = some f) : LongF f := by
  obtain ⟨h1, h2, _⟩ := errW_zero h0
  obtain ⟨_, _, h3⟩ := set_right h2
  have hfit := (all_mem (covers_of h1) hR l).1 hl
  obtain ⟨e1, e2⟩ := fill_name hf
  refine ⟨by rw [e1, size_bs]; exact hn, by rw [fillArgs_len e2]; exact ht, fun s hs => ?_⟩
  obtain ⟨t, ht', hw⟩ := fillArgs_from e2 s hs
  unfold worthB at hw
  split at hw
  · have := named_short (env_right (fun f hf => wrongF_right.1 (h3 f hf)) hfit hw); omega
  · cases hw; rw [size_bs]; exact hx t ht'

theorem mem_heads {a : AtomD} {R : List (List BindD)} {g : FactB} : g ∈ setF (R.filterMap fun l => fillB a l) ↔ ∃ b ∈ R, fillB a b = some g := by
  rw [mem_setF, List.mem_filterMap]

theorem take_made {a : AtomD} {R : List (List BindD)} {j : Nat} {b : List BindD} (hb : R[j]? = some b) (f : FactB) : (∃ x ∈ R.take (j + 1), fillB a x = some f) ↔ (∃ x ∈ R.take j, fillB a x = some f) ∨ fillB a b = some f := by
  rw [List.take_add_one, hb]
  constructor
  · rintro ⟨x, hx, h⟩
    rcases List.mem_append.1 hx with hx | hx
    · exact Or.inl ⟨x, hx, h⟩
    · have e : x = b := by simpa using hx
      exact Or.inr (e ▸ h)
  · rintro (⟨x, hx, h⟩ | h)
    · exact ⟨x, List.mem_append_left _ hx, h⟩
    · exact ⟨b, by simp, h⟩

/-- Whether it was made so far. -/
def MadeQ (a : AtomD) (T : List (List BindD)) (f : FactB) (q : Bool) : Prop := q = true ↔ ∃ b ∈ T, fillB a b = some f

set_option maxRecDepth 100000 in
set_option maxHeartbeats 4000000 in
theorem naiveHeadsW (r : RuleD) (tv bv fv u : Value) (fs : List FactB) (f : FactB) (w : World) (m : Int) (hm : w.cell? ⟨3, 0, none⟩ = some (.int .i64 m)) (ht : termK.sl Anyw w tv r.head.terms) (hb : atomK.sl Anyw w bv r.body) (hf : Facts w fv fs) (hu : FactV w u f) (hTb : TabN w)
    (hn1 : r.head.name.length ≤ 2097152) (hn2 : r.head.terms.length ≤ 2097152) (hn3 : ∀ t ∈ r.head.terms, t.2.length ≤ 2097152) :
    Calls Tryz.prog 8 #[.agg #[.bool r.head.no, .string (bs r.head.name), tv, bv], fv, u] w fun e w' => e = .returned (.bool true) ∧ Below w.heap.size w w' := by
  obtain ⟨su, rfl, hsu⟩ := hu
  obtain ⟨ta, tc, rfl⟩ := Kind.slice ht
  obtain ⟨ba, bc, rfl⟩ := Kind.slice hb
  obtain ⟨fa, fc, rfl⟩ := sliceFacts hf
  obtain ⟨ua, uc, rfl⟩ := sliceStr hsu
  obtain ⟨wb, hwb⟩ : ∃ wb, wb = (w.alloc (.cells #[.bool r.head.no, .string (bs r.head.name), .slice ta r.head.terms.length tc, .slice ba r.body.length bc] 43)).alloc (.cells #[.string f.1, .slice ua f.2.length uc] 54) := ⟨_, rfl⟩
  have hLb : Later w wb := by rw [hwb]; exact ((Later.refl w).alloc _).alloc _
  have hrb : wb.heap[w.heap.size]? = some (.cells #[.bool r.head.no, .string (bs r.head.name), .slice ta r.head.terms.length tc, .slice ba r.body.length bc] 43 (0, 0)) := by
    rw [hwb]; simp only [heap_at, World.size_alloc]
    repeat (first | rw [if_pos trivial] | rw [if_pos (by omega)] | rw [if_neg (by omega)])
  have hgb : wb.heap[w.heap.size + 1]? = some (.cells #[.string f.1, .slice ua f.2.length uc] 54 (0, 0)) := by
    rw [hwb]; simp only [heap_at, World.size_alloc]
    repeat (first | rw [if_pos trivial] | rw [if_pos (by omega)] | rw [if_neg (by omega)])
  have hlt0 : w.heap.size < wb.heap.size := (Array.getElem?_eq_some_iff.1 hrb).1
  have hlt1 : w.heap.size + 1 < wb.heap.size := (Array.getElem?_eq_some_iff.1 hgb).1
  have hmlt : 3 < w.heap.size := by
    refine Classical.byContradiction fun h => ?_
    rw [World.cell?, Array.getElem?_eq_none (by simpa using h)] at hm
    simp at hm
  have HA := hide (alive5 wb m (by rw [hLb.cell (p := ⟨3, 0, none⟩) hmlt]; exact hm))
  have HWB := hide hwb
  have HLb := hide hLb.below
  have HRb := hide hrb
  have HGb := hide hgb
  have HT0 := hide (Kind.sl_later ht hLb)
  have HB0 := hide (Kind.sl_later hb hLb)
  have HF0 := hide (hf.later hLb)
  have HS0 : Hid (FactV wb (.agg #[.string f.1, .slice ua f.2.length uc]) f) := FactV.later ⟨_, rfl, hsu⟩ hLb
  have HTab := hide (hTb.later hLb)
  have HLong : Hid (errW r.body fs [] = 0 → ∀ R, allB (fun _ => fs) r.body = some R → ∀ l ∈ R, ∀ f, fillB r.head l = some f → LongF f) := fun h0 R hR l hl f hf => head_long h0 hn1 hn2 hn3 hR hl hf
  clear hwb hLb hrb hgb ht hb hf hsu hTb hm hmlt hn1 hn2 hn3
  go_enter Tryz.func8, Tryz.ntmps8
  go_wp2_with fail
  rw [← HWB.out]
  refine HA.out.mono ?_
  rintro e w1 ⟨rfl, hB1⟩
  have hrow1 : w1.heap[w.heap.size]? = some (.cells #[.bool r.head.no, .string (bs r.head.name), .slice ta r.head.terms.length tc, .slice ba r.body.length bc] 43 (0, 0)) := by rw [hB1.block _ hlt0]; exact HRb.out
  have d0 : w1.cell? ⟨w.heap.size, 0, none⟩ = some (.bool r.head.no) := by rw [cell_of_row _ _ _ _ _ _ hrow1]; rfl
  have d1 : w1.cell? ⟨w.heap.size, 0 + 1, none⟩ = some (.string (bs r.head.name)) := by rw [cell_of_row _ _ _ _ _ _ hrow1]; rfl
  have d2 : w1.cell? ⟨w.heap.size, 0 + 2, none⟩ = some (.slice ta r.head.terms.length tc) := by rw [cell_of_row _ _ _ _ _ _ hrow1]; rfl
  have d3 : w1.cell? ⟨w.heap.size, 0 + 3, none⟩ = some (.slice ba r.body.length bc) := by rw [cell_of_row _ _ _ _ _ _ hrow1]; rfl
  have HH := hide (headsL r (.slice ta r.head.terms.length tc) (.slice ba r.body.length bc) (.slice fa fs.length fc) fs w1 (Kind.sl_below HT0.out hB1) (Kind.sl_below HB0.out hB1) (HF0.out.below hB1) (HTab.out.below hB1) HLong.out)
  have HB1 := hide hB1
  clear hB1 hrow1 HA HWB HTab HLong
  have hex : ∃ nm no, nm = bs r.head.name ∧ no = r.head.no := ⟨_, _, rfl, rfl⟩
  obtain ⟨nm, no, hnm, hno⟩ := hex
  have HNM := hide hnm
  have HNO := hide hno
  rw [← hnm] at d1 HH
  rw [← hno] at d0 HH
  clear hnm hno
  go_wp2_with fail
  refine HH.out.mono ?_
  rintro e w2 ⟨v2, er, rfl, hT2, hB2⟩
  have hB12 := below_trans HB1.out hB2 HB1.out.size
  have HB12 := hide hB12
  have hrow2 : w2.heap[w.heap.size]? = some (.cells #[.bool r.head.no, .string (bs r.head.name), .slice ta r.head.terms.length tc, .slice ba r.body.length bc] 43 (0, 0)) := by rw [hB12.block _ hlt0]; exact HRb.out
  have d3' : w2.cell? ⟨w.heap.size, 3, none⟩ = some (.slice ba r.body.length bc) := by rw [cell_of_row _ _ _ _ _ _ hrow2]; rfl
  have HAC := hide (allC r.body (.slice ba r.body.length bc) (.slice fa fs.length fc) fs w2 (Kind.sl_below HB0.out hB12) (HF0.out.below hB12))
  have HT2 := hide hT2
  obtain ⟨a2, n2, c2, rfl⟩ : ∃ a n c, v2 = .slice a n c := by
    unfold HeadsT at hT2
    split at hT2
    · exact ⟨_, _, _, hT2.1⟩
    · split at hT2
      · exact ⟨_, _, _, hT2.1⟩
      · obtain ⟨a, c, e⟩ := sliceFacts hT2.2; exact ⟨a, _, c, e⟩
  clear hT2 hB2 hB12 hrow2 HH d0 d1 d2 d3 HB1
  go_wp2_with fail
  refine HAC.out.mono ?_
  rintro e w3 ⟨v3, er3, rfl, hT3, hB3⟩
  have HB23 := hide hB3
  have hB13 := below_trans HB12.out hB3 HB12.out.size
  have HB13 := hide hB13
  have HBw : Hid (Below w.heap.size w w3) := below_trans HLb.out hB13 HLb.out.size
  have hT2 := HT2.out
  unfold HeadsT at hT2
  unfold WithT at hT3
  rw [pickB_all] at hT3
  clear HAC hB3 hB13 d3' HT2
  by_cases h0 : errW r.body fs [] = 0
  · rw [if_neg (by simp [h0])] at hT2 hT3
    unfold headsP at hT2
    cases hR : allB (fun _ => fs) r.body with
    | none =>
      rw [hR] at hT2 hT3
      obtain ⟨h2v, h2e⟩ := hT2
      obtain ⟨rfl, rfl⟩ := hT3
      subst h2e
      clear h0 hR h2v
      go_wp2
      go_ret
      exact ⟨rfl, HBw.out⟩
    | some R =>
      rw [hR] at hT2 hT3
      obtain ⟨rfl, hX⟩ := hT2
      obtain ⟨rfl, hsl⟩ := hT3
      obtain ⟨X, hXe⟩ : ∃ X, X = setF (R.filterMap fun l => fillB r.head l) := ⟨_, rfl⟩
      have hXm : ∀ g, g ∈ X ↔ ∃ b ∈ R, fillB r.head b = some g := fun g => by rw [hXe]; exact mem_heads
      have hXu : Up X := by rw [hXe]; exact setF_up _
      rw [← hXe] at hX
      have HX := hide (hX.below HB23.out)
      have HXm := hide hXm
      have HXu := hide hXu
      have hsmall := allB_small hR
      have HRL := hide hsl
      obtain ⟨ra, rc, rfl⟩ := Kind.slice hsl
      have hmade : MadeQ r.head (R.take 0) f false := by unfold MadeQ; simp
      have HMade := hide hmade
      clear h0 hR hX hXm hXu hXe hsl hmade HB12 HB23
      go_wp2
      go_loopg [11, 42] R.length (fun g mb i wr => ∃ j : Nat, j + g = R.length ∧ i = .int .i64 j ∧ ∃ q : Bool, mb = .bool q ∧ Hid (MadeQ r.head (R.take j) f q) ∧ Hid (Below w3.heap.size w3 wr))
      case atStart => exact ⟨0, by omega, rfl, false, rfl, HMade, Below.refl _ _⟩
      case round =>
        clear HMade
        obtain ⟨j, hj, rfl, q, rfl, HQ, HBr⟩ := hrel
        have hBr13 := below_trans HB13.out HBr.out HB13.out.size
        have hrowr : wr.heap[w.heap.size]? = some (.cells #[.bool r.head.no, .string (bs r.head.name), .slice ta r.head.terms.length tc, .slice ba r.body.length bc] 43 (0, 0)) := by rw [hBr13.block _ hlt0]; exact HRb.out
        have hrowg : wr.heap[w.heap.size + 1]? = some (.cells #[.string f.1, .slice ua f.2.length uc] 54 (0, 0)) := by rw [hBr13.block _ hlt1]; exact HGb.out
        have HSr := hide (factV_below HS0.out hBr13)
        by_cases hlt : j < R.length
        · obtain ⟨l, hx⟩ : ∃ x, R[j]? = some x := ⟨_, List.getElem?_eq_getElem hlt⟩
          obtain ⟨b1, o1, _, rfl, hb1, ⟨lv, rfl, hlv⟩, hc⟩ := Kind.sl_at HRL.out hx
          have d0 : wr.cell? ⟨b1, o1 + j, none⟩ = some lv := by rw [HBr.out.cell (p := ⟨b1, o1 + j, none⟩) hb1]; simpa [slK] using hc 0 _ rfl
          have HLV := hide hlv
          obtain ⟨la, lc, rfl⟩ := Kind.slice hlv
          have r0 : wr.cell? ⟨w.heap.size, 0, none⟩ = some (.bool r.head.no) := by rw [cell_of_row _ _ _ _ _ _ hrowr]; rfl
          have r1 : wr.cell? ⟨w.heap.size, 0 + 1, none⟩ = some (.string (bs r.head.name)) := by rw [cell_of_row _ _ _ _ _ _ hrowr]; rfl
          have r2 : wr.cell? ⟨w.heap.size, 0 + 2, none⟩ = some (.slice ta r.head.terms.length tc) := by rw [cell_of_row _ _ _ _ _ _ hrowr]; rfl
          have HFc := hide (fillC r.head (.slice ta r.head.terms.length tc) (.slice la l.length lc) l wr (Kind.sl_below HT0.out hBr13) (Kind.sl_below HLV.out HBr.out))
          have htm := take_made (a := r.head) hx f
          have HHx := hide (List.mem_of_getElem? hx)
          have HRowG := hide hrowg
          have HBr13 := hide hBr13
          unfold filled at HFc
          have hwlt : w.heap.size + 1 < wr.heap.size := (Array.getElem?_eq_some_iff.1 hrowg).1
          clear hc hx hlv hrowr hrowg hBr13
          rw [← HNM.out] at r1 HFc
          rw [← HNO.out] at r0 HFc
          cases hfl : fillB r.head l with
          | none =>
            rw [hfl] at HFc htm
            have HQ' : Hid (MadeQ r.head (R.take (j + 1)) f q) := by
              show MadeQ _ _ _ _
              have hq := HQ.out; unfold MadeQ at hq ⊢; rw [htm, hq]; simp
            clear hfl htm HQ HHx HRowG
            go_wp2_with fail
            refine HFc.out.mono ?_
            rintro e w4 ⟨f3, rfl, hfv, hL4⟩
            obtain ⟨s, rfl, hs⟩ := hfv
            obtain ⟨sA', sC', rfl⟩ := sliceStr hs
            simp only [Option.isSome_none]
            have HL4 : Hid (Later wr w4) := hL4
            clear hs hL4 HFc d0 r0 r1 r2
            cases q
            · go_wp2
              go_roundg (R.length - (j + 1))
              case measure => omega
              case rel => exact ⟨j + 1, by omega, by go_num, false, rfl, HQ', below_trans HBr.out (HL4.out.alloc _).below HBr.out.size⟩
            · go_wp2
              go_roundg (R.length - (j + 1))
              case measure => omega
              case rel => exact ⟨j + 1, by omega, by go_num, true, rfl, HQ', below_trans HBr.out (HL4.out.alloc _).below HBr.out.size⟩
          | some g =>
            rw [hfl] at HFc htm
            have hgX : g ∈ X := (HXm.out g).2 ⟨l, HHx.out, hfl⟩
            have HGX := hide hgX
            have HTM := hide htm
            clear hfl htm hgX HHx
            go_wp2_with fail
            refine HFc.out.mono ?_
            rintro e w4 ⟨f3, rfl, hfv, hL4⟩
            simp only [Option.isSome_some, Option.getD_some] at hfv ⊢
            have hfv' := hfv
            obtain ⟨s, rfl, hs⟩ := hfv
            obtain ⟨sA', sC', rfl⟩ := sliceStr hs
            obtain ⟨w5, hw5⟩ : ∃ w5, w5 = w4.alloc (.cells #[.string g.1, .slice sA' g.2.length sC'] 54) := ⟨_, rfl⟩
            have hL5 : Later w4 w5 := by rw [hw5]; exact (Later.refl _).alloc _
            have hrow5 : w5.heap[w4.heap.size]? = some (.cells #[.string g.1, .slice sA' g.2.length sC'] 54 (0, 0)) := by rw [hw5]; exact heap_alloc_new w4 _
            have hL45 := hL4.trans hL5
            have hrowg5 : w5.heap[w.heap.size + 1]? = some (.cells #[.string f.1, .slice ua f.2.length uc] 54 (0, 0)) := by rw [hL45.block hwlt]; exact HRowG.out
            have HG5 := hide (hfv'.later hL5)
            have HF5 := hide (HSr.out.later hL45)
            have HB5 := hide (below_trans HBr.out hL45.below HBr.out.size)
            have g0 : w5.cell? ⟨w4.heap.size, 0, none⟩ = some (.string g.1) := by rw [cell_of_row _ _ _ _ _ _ hrow5]; rfl
            have g1 : w5.cell? ⟨w4.heap.size, 0 + 1, none⟩ = some (.slice sA' g.2.length sC') := by rw [cell_of_row _ _ _ _ _ _ hrow5]; rfl
            have f0 : w5.cell? ⟨w.heap.size + 1, 0, none⟩ = some (.string f.1) := by rw [cell_of_row _ _ _ _ _ _ hrowg5]; rfl
            have f1 : w5.cell? ⟨w.heap.size + 1, 0 + 1, none⟩ = some (.slice ua f.2.length uc) := by rw [cell_of_row _ _ _ _ _ _ hrowg5]; rfl
            have HX5 := hide (HX.out.below HB5.out)
            have HIn : Hid (∀ w', Later w5 w' → Calls Tryz.prog 31 #[.slice a2 n2 c2, .agg #[.string g.1, .slice sA' g.2.length sC']] w' fun e w'' => e = .returned (.bool true) ∧ Later w' w'') := fun w' hL => by
              have := inC (.slice a2 n2 c2) _ X g w' (HX5.out.later hL) (HG5.out.later hL) HXu.out
              rw [in_eq, inB_iff.2 HGX.out] at this
              exact this
            have HW5 := hide hw5
            have hw4lt : w4.heap.size < w5.heap.size := (Array.getElem?_eq_some_iff.1 hrow5).1
            have HRow5 := hide hrow5
            clear hs hL4 hL5 hL45 hrow5 hrowg5 hw5 hfv' HFc d0 r0 r1 r2 HGX HSr HRowG HBr13
            cases q
            · have HCm := hide (compareF _ _ f g w5 HF5.out HG5.out)
              rw [HW5.out] at f0 f1
              by_cases hfg : f = g
              · have HQ' : Hid (MadeQ r.head (R.take (j + 1)) f true) := by
                  show MadeQ _ _ _ _
                  unfold MadeQ; rw [HTM.out, hfg]; simp
                have hc0 : cmpF f g = 0 := by rw [hfg]; exact three_cmpF.refl _
                rw [hc0] at HCm
                clear hfg hc0 HTM HQ
                go_wp2_with fail
                rw [← HW5.out]
                refine HCm.out.mono ?_
                rintro e w6 ⟨rfl, hL6⟩
                have k0 : w6.cell? ⟨w4.heap.size, 0, none⟩ = some (.string g.1) := by rw [hL6.cell (p := ⟨w4.heap.size, 0, none⟩) hw4lt]; exact g0
                have k1 : w6.cell? ⟨w4.heap.size, 0 + 1, none⟩ = some (.slice sA' g.2.length sC') := by rw [hL6.cell (p := ⟨w4.heap.size, 0 + 1, none⟩) hw4lt]; exact g1
                have HIn6 := hide (HIn.out w6 hL6)
                have HB6 := hide (below_trans HB5.out hL6.below HB5.out.size)
                clear hL6 HCm g0 g1 f0 f1
                go_wp2_with fail
                refine HIn6.out.mono ?_
                rintro e w7 ⟨rfl, hL7⟩
                have HB7 := hide (below_trans HB6.out hL7.below HB6.out.size)
                clear hL7 HIn6 k0 k1
                go_wp2
                go_roundg (R.length - (j + 1))
                case measure => omega
                case rel => exact ⟨j + 1, by omega, by go_num, true, rfl, HQ', HB7⟩
              · have HQ' : Hid (MadeQ r.head (R.take (j + 1)) f false) := by
                  show MadeQ _ _ _ _
                  have hq := HQ.out; unfold MadeQ at hq ⊢; rw [HTM.out, ← hq]
                  simp only [Bool.false_eq_true, false_or, Option.some.injEq, false_iff]
                  exact fun e => hfg e.symm
                have hc0 : cmpF f g ≠ 0 := fun e => hfg (three_cmpF.zero _ _ e)
                have hc1 : (cmpF f g == 0) = false := by simpa using hc0
                generalize cmpF f g = cz at *
                clear hfg hc0 HTM HQ
                go_wp2_with fail
                rw [← HW5.out]
                refine HCm.out.mono ?_
                rintro e w6 ⟨rfl, hL6⟩
                have k0 : w6.cell? ⟨w4.heap.size, 0, none⟩ = some (.string g.1) := by rw [hL6.cell (p := ⟨w4.heap.size, 0, none⟩) hw4lt]; exact g0
                have k1 : w6.cell? ⟨w4.heap.size, 0 + 1, none⟩ = some (.slice sA' g.2.length sC') := by rw [hL6.cell (p := ⟨w4.heap.size, 0 + 1, none⟩) hw4lt]; exact g1
                have HIn6 := hide (HIn.out w6 hL6)
                have HB6 := hide (below_trans HB5.out hL6.below HB5.out.size)
                clear hL6 HCm g0 g1 f0 f1
                go_wp2_with fail
                refine HIn6.out.mono ?_
                rintro e w7 ⟨rfl, hL7⟩
                have HB7 := hide (below_trans HB6.out hL7.below HB6.out.size)
                clear hL7 HIn6 k0 k1
                go_wp2
                go_roundg (R.length - (j + 1))
                case measure => omega
                case rel => exact ⟨j + 1, by omega, by go_num, false, rfl, HQ', HB7⟩
            · have HQ' : Hid (MadeQ r.head (R.take (j + 1)) f true) := by
                show MadeQ _ _ _ _
                have hq := HQ.out; unfold MadeQ at hq ⊢; rw [HTM.out, ← hq]; simp
              have HIn6 := hide (HIn.out w5 (Later.refl _))
              clear HTM HQ f0 f1
              go_wp2_with fail
              rw [← HW5.out]
              refine HIn6.out.mono ?_
              rintro e w7 ⟨rfl, hL7⟩
              have HB7 := hide (below_trans HB5.out hL7.below HB5.out.size)
              clear hL7 HIn6 g0 g1
              go_wp2
              go_roundg (R.length - (j + 1))
              case measure => omega
              case rel => exact ⟨j + 1, by omega, by go_num, true, rfl, HQ', HB7⟩
        · have hjR : R.take j = R := List.take_of_length_le (by omega)
          have hIn := inC (.slice a2 n2 c2) _ X f wr (HX.out.below HBr.out) HSr.out HXu.out
          have hq : inB X f = q := by
            have h1 := HQ.out
            unfold MadeQ at h1
            rw [hjR, ← HXm.out f] at h1
            cases q
            · cases e : inB X f with
              | false => rfl
              | true => exact absurd (h1.2 (inB_iff.1 e)) (by simp)
            · exact inB_iff.2 (h1.1 rfl)
          rw [in_eq, hq] at hIn
          have HIn := hide hIn
          have f0 : wr.cell? ⟨w.heap.size + 1, 0, none⟩ = some (.string f.1) := by rw [cell_of_row _ _ _ _ _ _ hrowg]; rfl
          have f1 : wr.cell? ⟨w.heap.size + 1, 0 + 1, none⟩ = some (.slice ua f.2.length uc) := by rw [cell_of_row _ _ _ _ _ _ hrowg]; rfl
          have HBz := hide (below_trans HBw.out HBr.out HBw.out.size)
          clear hjR hIn hq hrowr hrowg hBr13 HQ HSr
          cases q
          · go_wp2_with fail
            refine HIn.out.mono ?_
            rintro e w6 ⟨rfl, hL6⟩
            have HB6 := hide (below_trans HBz.out hL6.below HBz.out.size)
            clear hL6 HIn f0 f1
            go_wp2
            go_ret
            exact ⟨rfl, HB6.out⟩
          · go_wp2_with fail
            refine HIn.out.mono ?_
            rintro e w6 ⟨rfl, hL6⟩
            have HB6 := hide (below_trans HBz.out hL6.below HBz.out.size)
            clear hL6 HIn f0 f1
            go_wp2
            go_ret
            exact ⟨rfl, HB6.out⟩
  · rw [if_pos h0] at hT2 hT3
    obtain ⟨h2v, h2e⟩ := hT2
    obtain ⟨rfl, h3e⟩ := hT3
    rw [← h3e] at h2e h0
    subst h2e
    have hne : (er != 0) = true := by simpa using h0
    have hee : (er == er) = true := by simp
    clear h0 h2v h3e
    go_wp2
    go_ret
    exact ⟨rfl, HBw.out⟩

end Go.Proofs.YtbohggoeebhdmaaGreatDoor

/- Programs among a call's arguments, opened: how they lie in memory, and that no list of theirs is longer than the form's reach, no text longer than Go's. -/
namespace Go.Proofs.YtbohggoeebhdmaaGreatDoor
open Go.RowKit Go.Sort Go.ChangeShapes Go.WideShapes Go.ChangeAt Go.Deep

variable {H : Type} {enc : TypeId × Value → H} {W : World}

theorem ownP : ownKnob Tryz.prog.godebug = none := by kernel_rfl
theorem laidOutP : laidOutB Tryz.prog = true := by kernel_rfl
theorem cellsStrP : Tryz.prog.cellsOf 9 = 1 := by kernel_rfl
theorem addr_plainP {a : Addr} {v : Value} (h : W.cell? (a.add 0) = some v) : ∃ b off, a = ⟨b, off, none⟩ := by
  obtain ⟨b, off, spot⟩ := a
  have hspot : spot = none := by simpa [Addr.add] using World.cell?_spot h
  subst hspot
  exact ⟨b, off, rfl⟩

/-- Each list within reach. -/
def Sized (t : TypeId) (d : DataW H) : Prop := (d.weights Tryz.prog t).all (· ≤ reachBytes) = true
/-- How a type's values are opened. -/
def Opens {α : Type} (enc : TypeId × Value → H) (W : World) (ty : TypeId) (K : Kind α) (ok : α → Prop) : Prop :=
  ∀ n cs x, DataW.trod enc Tryz.prog W 0 (fun _ => true) true n ty cs = some x → Sized ty x.1 → ∃ a, K.is Anyw W cs a ∧ ok a

theorem sized_all {e : TypeId} {l : List (DataW H)} (h : (DataW.weightsAll Tryz.prog e l).all (· ≤ reachBytes) = true) : ∀ d ∈ l, Sized e d := by
  induction l with
  | nil => intro d hd; cases hd
  | cons x r ih =>
    simp only [DataW.weightsAll, List.all_append, Bool.and_eq_true] at h
    intro d hd
    rcases List.mem_cons.1 hd with rfl | hd
    · exact h.1
    · exact ih h.2 d hd

set_option maxRecDepth 100000 in
theorem openSlB {α : Type} {K : Kind α} {T ty : TypeId} {ok : α → Prop} (hT : Tryz.prog.underlying T = some (.slice ty)) (hc : Tryz.prog.cellsOf ty = K.size) (hby : 16 ≤ Tryz.prog.bytesOf ty) (hsz : 0 < K.size) (E : Opens enc W ty K ok)
    {n : Nat} {v : Value} {x : DataW H × List MemPlace} (hf : DataW.trod enc Tryz.prog W 0 (fun _ => true) true n T [v] = some x) (hw : Sized T x.1) : ∃ l, K.sl Anyw W v l ∧ (∀ a ∈ l, ok a) ∧ l.length * Tryz.prog.bytesOf ty ≤ reachBytes := by
  rcases open_slice hT hf with ⟨hcs, _⟩ | ⟨a, len, cap, m, k, D, Pl, hcs, _, hl, hm, hmm, hx, hel⟩
  · simp only [List.cons.injEq, and_true] at hcs
    exact ⟨[], by rw [hcs]; exact K.sl_nil _ _ _ _, fun a ha => (by cases ha), by simp⟩
  · simp only [List.cons.injEq, and_true] at hcs
    simp only [if_true] at hmm
    subst hmm
    rw [hc] at hel
    have hd : x.1 = .slice ((List.range len).map D) ((List.range (m - len)).map fun j => D (len + j)) := by rw [hx]
    have hw2 : (decide ((len + (m - len)) * Tryz.prog.bytesOf ty ≤ reachBytes) && ((DataW.weightsAll Tryz.prog ty ((List.range len).map D)).all (· ≤ reachBytes) && (DataW.weightsAll Tryz.prog ty ((List.range (m - len)).map fun j => D (len + j))).all (· ≤ reachBytes))) = true := by
      have := hw
      unfold Sized at this
      rw [hd, DataW.weights, hT] at this
      simpa using this
    simp only [Bool.and_eq_true] at hw2
    have hlen : len ≤ 8796093022208 := by
      have h1 : (len + (m - len)) * Tryz.prog.bytesOf ty ≤ reachBytes := of_decide_eq_true hw2.1
      have h2 : len * 16 ≤ (len + (m - len)) * Tryz.prog.bytesOf ty := Nat.mul_le_mul (by omega) hby
      unfold reachBytes at h1
      omega
    have each : ∀ i : Fin len, ∃ z : α, ∃ cs', W.cells? 0 (a.add (i.1 * K.size)) K.size = some cs' ∧ K.is Anyw W cs' z ∧ ok z := fun i => by
      obtain ⟨cs', k1, k2⟩ := hel i.1 (by omega)
      obtain ⟨z, hz, hk⟩ := E _ _ _ k2 (sized_all hw2.2.1 _ (List.mem_map.2 ⟨i.1, List.mem_range.2 i.2, rfl⟩))
      exact ⟨z, cs', k1, hz, hk⟩
    refine ⟨List.ofFn fun i => Classical.choose (each i), ⟨⟨by simpa using hlen, ?_⟩, some a, m, by rw [hcs]; simp, fun hne => ?_⟩, fun z hz => ?_, ?_⟩
    · rw [hcs]; show len ≤ m; omega
    rotate_left
    rotate_left
    · have h1 : (len + (m - len)) * Tryz.prog.bytesOf ty ≤ reachBytes := of_decide_eq_true hw2.1
      rw [List.length_ofFn]
      exact Nat.le_trans (Nat.mul_le_mul_right _ (by omega)) h1
    rotate_left
    · rw [List.mem_ofFn] at hz
      obtain ⟨i, rfl⟩ := hz
      obtain ⟨_, _, _, hok⟩ := Classical.choose_spec (each i)
      exact hok
    have h0 : 0 < len := by
      refine Nat.pos_of_ne_zero fun e => hne ?_
      subst e; rfl
    have first : ∀ i : Fin len, ∀ cs', W.cells? 0 (a.add (i.1 * K.size)) K.size = some cs' → ∀ j u, cs'[j]? = some u → W.cell? ((a.add (i.1 * K.size)).add j) = some u := fun i cs' k1 j u hu => by
      obtain ⟨h1, _, hcell⟩ := World.cells?_some k1
      have hj : j < cs'.length := (List.getElem?_eq_some_iff.1 hu).1
      have := hcell j (by omega)
      rw [this]; exact hu
    have hplain : ∃ b off, a = ⟨b, off, none⟩ := by
      obtain ⟨cs', k0, k1, _⟩ := Classical.choose_spec (each ⟨0, h0⟩)
      have hl := K.len k1
      have hu : cs'[0]? = some (cs'[0]'(by omega)) := List.getElem?_eq_getElem (by omega)
      have := first ⟨0, h0⟩ cs' k0 0 _ hu
      exact addr_plainP (W := W) (v := cs'[0]'(by omega)) (by simpa [Addr.add] using this)
    obtain ⟨b, off, rfl⟩ := hplain
    have hlt : b < W.heap.size := by
      obtain ⟨cs', k0, k1, _⟩ := Classical.choose_spec (each ⟨0, h0⟩)
      have hl := K.len k1
      have hu : cs'[0]? = some (cs'[0]'(by omega)) := List.getElem?_eq_getElem (by omega)
      have := first ⟨0, h0⟩ cs' k0 0 _ hu
      rw [Addr.add_lit, Addr.add_lit] at this
      exact World.block_lt_of_cell? W _ this
    refine ⟨b, off, rfl, trivial, hlt, fun i z hi => ?_⟩
    have hi' : i < len := by simpa using (List.getElem?_eq_some_iff.1 hi).1
    rw [List.getElem?_ofFn, dif_pos hi'] at hi
    injection hi with hi
    subst hi
    obtain ⟨cs', k0, k1, _⟩ := Classical.choose_spec (each ⟨i, hi'⟩)
    refine ⟨cs', k1, fun j u hu => ?_⟩
    have := first ⟨i, hi'⟩ cs' k0 j u hu
    rw [Addr.add_lit, Addr.add_lit] at this
    exact this

theorem openSl {α : Type} {K : Kind α} {T ty : TypeId} {ok : α → Prop} (hT : Tryz.prog.underlying T = some (.slice ty)) (hc : Tryz.prog.cellsOf ty = K.size) (hby : 16 ≤ Tryz.prog.bytesOf ty) (hsz : 0 < K.size) (E : Opens enc W ty K ok)
    {n : Nat} {v : Value} {x : DataW H × List MemPlace} (hf : DataW.trod enc Tryz.prog W 0 (fun _ => true) true n T [v] = some x) (hw : Sized T x.1) : ∃ l, K.sl Anyw W v l ∧ ∀ a ∈ l, ok a := by
  obtain ⟨l, h1, h2, _⟩ := openSlB hT hc hby hsz E hf hw
  exact ⟨l, h1, h2⟩

/-- No text is longer than Go's. -/
def okT (t : TermD) : Prop := t.2.length ≤ maxLen
def okA (a : AtomD) : Prop := a.name.length ≤ maxLen ∧ ∀ t ∈ a.terms, okT t
def okR (r : RuleD) : Prop := okA r.head ∧ ∀ a ∈ r.body, okA a

theorem cellsTerm : Tryz.prog.cellsOf 101 = 2 := by kernel_rfl
theorem cellsTerms : Tryz.prog.cellsOf 38 = 1 := by kernel_rfl
theorem cellsAtom : Tryz.prog.cellsOf 40 = 3 := by kernel_rfl
theorem cellsAtoms : Tryz.prog.cellsOf 41 = 1 := by kernel_rfl
theorem cellsBool : Tryz.prog.cellsOf 4 = 1 := by kernel_rfl
theorem bytesTerm : Tryz.prog.bytesOf 101 = 24 := by kernel_rfl
theorem bytesAtom : Tryz.prog.bytesOf 40 = 48 := by kernel_rfl

theorem cellsRule : Tryz.prog.cellsOf 43 = 4 := by kernel_rfl
theorem bytesRule : Tryz.prog.bytesOf 43 = 72 := by kernel_rfl

set_option maxRecDepth 100000 in
theorem opensTerm : Opens enc W 101 termK okT := by
  intro n cs x h _
  obtain ⟨y0, y1, m, hx, hl, h0, h1⟩ := trod_struct2 Tryz.underlying101 h
  rw [cellsTerm] at hl
  match cs, hl with
  | [c0, c1], _ =>
    have e0 : Tryz.prog.cellsOf 4 = 1 := cellsBool
    have e1 : Tryz.prog.cellsOf 9 = 1 := cellsStrP
    simp only [e0, e1, List.drop_zero, List.drop_succ_cons, List.take_succ_cons, List.take_zero] at h0 h1
    obtain ⟨b, hb, _⟩ := DataW.trod_bool Tryz.underlying4 h0
    obtain ⟨s, hs, _, hsz⟩ := DataW.trod_string Tryz.underlying9 h1
    simp only [List.cons.injEq, and_true] at hb hs
    exact ⟨(b, raw s), by show [c0, c1] = _; rw [hb, hs, bs_raw], by show (raw s).length ≤ _; rw [length_raw]; exact hsz⟩

set_option maxRecDepth 100000 in
theorem opensAtom : Opens enc W 40 atomK okA := by
  intro n cs x h hw
  obtain ⟨y0, y1, y2, m, hx, hl, h0, h1, h2⟩ := trod_struct3 Tryz.underlying40 h
  rw [cellsAtom] at hl
  match cs, hl with
  | [c0, c1, c2], _ =>
    have e0 : Tryz.prog.cellsOf 4 = 1 := cellsBool
    have e1 : Tryz.prog.cellsOf 9 = 1 := cellsStrP
    have e2 : Tryz.prog.cellsOf 38 = 1 := cellsTerms
    simp only [e0, e1, e2, List.drop_zero, List.drop_succ_cons, List.take_succ_cons, List.take_zero] at h0 h1 h2
    obtain ⟨b, hb, _⟩ := DataW.trod_bool Tryz.underlying4 h0
    obtain ⟨s, hs, _, hsz⟩ := DataW.trod_string Tryz.underlying9 h1
    simp only [List.cons.injEq, and_true] at hb hs
    have hw2 : Sized 38 y2.1 := by
      unfold Sized at hw ⊢
      rw [hx, DataW.weights, Tryz.underlying40] at hw
      simp only [List.map_cons, List.map_nil, DataW.weightsEach, List.all_append, Bool.and_eq_true] at hw
      exact hw.2.2.1
    obtain ⟨l, hl, hlk⟩ := openSl Tryz.underlying38 cellsTerm (by rw [bytesTerm]; decide) (by decide) opensTerm h2 hw2
    exact ⟨⟨b, raw s, l⟩, ⟨c2, by show [c0, c1, c2] = _; rw [hb, hs, bs_raw], hl⟩, by show (raw s).length ≤ _; rw [length_raw]; exact hsz, hlk⟩

set_option maxRecDepth 100000 in
theorem opensRule : Opens enc W 43 ruleK okR := by
  intro n cs x h hw
  obtain ⟨y0, y1, m, hx, hl, h0, h1⟩ := trod_struct2 Tryz.underlying43 h
  rw [cellsRule] at hl
  match cs, hl with
  | [c0, c1, c2, c3], _ =>
    have e0 : Tryz.prog.cellsOf 40 = 3 := cellsAtom
    have e1 : Tryz.prog.cellsOf 41 = 1 := cellsAtoms
    simp only [e0, e1, List.drop_zero, List.drop_succ_cons, List.take_succ_cons, List.take_zero] at h0 h1
    have hws : Sized 40 y0.1 ∧ Sized 41 y1.1 := by
      unfold Sized at hw ⊢
      rw [hx, DataW.weights, Tryz.underlying43] at hw
      simp only [List.map_cons, List.map_nil, DataW.weightsEach, List.all_append, Bool.and_eq_true] at hw
      exact ⟨hw.1, hw.2.1⟩
    obtain ⟨a, ⟨v, ev, hv⟩, hak⟩ := opensAtom _ _ _ h0 hws.1
    obtain ⟨l, hl, hlk⟩ := openSl Tryz.underlying41 cellsAtom (by rw [bytesAtom]; decide) (by decide) opensAtom h1 hws.2
    simp only [List.cons.injEq, and_true] at ev
    exact ⟨⟨a, l⟩, ⟨v, c3, by show [c0, c1, c2, c3] = _; rw [ev.1, ev.2.1, ev.2.2], hv, hl⟩, hak, hlk⟩

set_option maxRecDepth 100000 in
theorem openRules {b0 : Nat} {v : Value} {d : DataW H} {p : List MemPlace} (hv : Value.okWide Tryz.prog W .any b0 23 v) (h : DataW.Trod enc Tryz.prog W 0 (fun _ => true) true 23 v d p) (hw : Sized 23 d) : ∃ l, ruleK.sl Anyw W v l ∧ ∀ r ∈ l, okR r := by
  obtain ⟨a0, len0, cap0, rfl⟩ := okWide_slice Tryz.underlying23 hv
  obtain ⟨fuel, hf⟩ := h
  exact openSl Tryz.underlying23 cellsRule (by rw [bytesRule]; decide) (by decide) opensRule (x := (d, p)) (by simpa [Value.cells] using hf) hw

/-- What the form's reach says of an argument. -/
theorem sized_at {ts : List TypeId} {ds : List (DataW H)} (h : (DataW.weightsEach Tryz.prog ts ds).all (· ≤ reachBytes) = true) {j : Nat} {t : TypeId} {d : DataW H} (ht : ts[j]? = some t) (hd : ds[j]? = some d) : Sized t d :=
  List.all_eq_true.2 fun k hk => List.all_eq_true.1 h _ (DataW.weights_mem_each ht hd k hk)

end Go.Proofs.YtbohggoeebhdmaaGreatDoor

/- Facts, atoms and texts among a call's arguments, opened, each list within the form's reach. -/
namespace Go.Proofs.YtbohggoeebhdmaaGreatDoor
open Go.RowKit Go.Sort Go.ChangeShapes Go.WideShapes Go.ChangeAt Go.Deep

variable {H : Type} {enc : TypeId × Value → H} {W : World}

/-- A fact lies in two cells. -/
def factK : Kind FactD where
  size := 2
  is := fun B w c f => ∃ s, c = [.string f.1, s] ∧ bsK.sl B w s f.2
  len := fun ⟨s, h, _⟩ => by subst h; rfl
  one := fun ⟨s, h, hs⟩ u hu => by
    subst h
    obtain ⟨a, cap, rfl⟩ := Kind.slice hs
    simp at hu; rcases hu with rfl | rfl <;> rfl
  kept := fun ⟨v, h, hs⟩ h1 h2 => ⟨v, h, Kind.sl_kept hs h1 h2⟩
  mono := fun ⟨v, h, hs⟩ h1 => ⟨v, h, Kind.sl_mono hs h1⟩

theorem sl_strs {B : Nat → Prop} {w : World} {v : Value} {l : List ByteArray} (h : bsK.sl B w v l) : Strs w v l := by
  obtain ⟨⟨h0, _⟩, a, cap, rfl, h1⟩ := h
  refine ⟨h0, a, cap, rfl, fun hne => ?_⟩
  obtain ⟨b, off, rfl, _, hb, hc⟩ := h1 hne
  refine ⟨b, off, rfl, hb, fun i hi => ?_⟩
  obtain ⟨c, rfl, c2⟩ := hc i _ (List.getElem?_eq_getElem hi)
  have := c2 0 _ rfl
  rw [List.getD_eq_getElem?_getD, List.getElem?_eq_getElem hi]
  simpa [bsK] using this

theorem sl_facts {B : Nat → Prop} {w : World} {v : Value} {l : List FactD} (h : factK.sl B w v l) (hl : l.length ≤ 3518437208883) : Facts w v l := by
  obtain ⟨_, a, cap, rfl, h1⟩ := h
  refine ⟨hl, a, cap, rfl, fun hne => ?_⟩
  obtain ⟨b, off, rfl, _, hb, hc⟩ := h1 hne
  refine ⟨b, off, rfl, hb, fun i hi => ?_⟩
  obtain ⟨c, ⟨s, rfl, hs⟩, c2⟩ := hc i _ (List.getElem?_eq_getElem hi)
  rw [List.getD_eq_getElem?_getD, List.getElem?_eq_getElem hi]
  exact ⟨by simpa [factK] using c2 0 _ rfl, s, by simpa [factK] using c2 1 _ rfl, sl_strs hs⟩

def okS (s : ByteArray) : Prop := s.size ≤ maxLen
def okFt (f : FactD) : Prop := okS f.1 ∧ ∀ s ∈ f.2, okS s

theorem cellsFactP : Tryz.prog.cellsOf 54 = 2 := by kernel_rfl
theorem cellsStrsP : Tryz.prog.cellsOf 52 = 1 := by kernel_rfl
theorem bytesFactP : Tryz.prog.bytesOf 54 = 40 := by kernel_rfl
theorem bytesStrP : Tryz.prog.bytesOf 9 = 16 := by kernel_rfl

set_option maxRecDepth 100000 in
theorem opensStr : Opens enc W 9 bsK okS := by
  intro n cs x h _
  obtain ⟨s, hs, _, hsz⟩ := DataW.trod_string Tryz.underlying9 h
  exact ⟨s, hs, hsz⟩

set_option maxRecDepth 100000 in
theorem opensFact : Opens enc W 54 factK okFt := by
  intro n cs x h hw
  obtain ⟨y0, y1, m, hx, hl, h0, h1⟩ := trod_struct2 Tryz.underlying54 h
  rw [cellsFactP] at hl
  match cs, hl with
  | [c0, c1], _ =>
    have e0 : Tryz.prog.cellsOf 9 = 1 := cellsStrP
    have e1 : Tryz.prog.cellsOf 52 = 1 := cellsStrsP
    simp only [e0, e1, List.drop_zero, List.drop_succ_cons, List.take_succ_cons, List.take_zero] at h0 h1
    obtain ⟨s, hs, _, hsz⟩ := DataW.trod_string Tryz.underlying9 h0
    simp only [List.cons.injEq, and_true] at hs
    have hw2 : Sized 52 y1.1 := by
      unfold Sized at hw ⊢
      rw [hx, DataW.weights, Tryz.underlying54] at hw
      simp only [List.map_cons, List.map_nil, DataW.weightsEach, List.all_append, Bool.and_eq_true] at hw
      exact hw.2.1
    obtain ⟨l, hl, hlk⟩ := openSl Tryz.underlying52 cellsStrP (by rw [bytesStrP]; decide) (by decide) opensStr h1 hw2
    exact ⟨(s, l), ⟨c1, by show [c0, c1] = _; rw [hs], hl⟩, hsz, hlk⟩

set_option maxRecDepth 100000 in
theorem openFactsS {b0 : Nat} {v : Value} {d : DataW H} {p : List MemPlace} (hv : Value.okWide Tryz.prog W .any b0 24 v) (h : DataW.Trod enc Tryz.prog W 0 (fun _ => true) true 24 v d p) (hw : Sized 24 d) : ∃ l, Facts W v l ∧ ∀ f ∈ l, okFt f := by
  obtain ⟨a0, len0, cap0, rfl⟩ := okWide_slice Tryz.underlying24 hv
  obtain ⟨fuel, hf⟩ := h
  obtain ⟨l, h1, h2, h3⟩ := openSlB Tryz.underlying24 cellsFactP (by rw [bytesFactP]; decide) (by decide) opensFact (x := (d, p)) (by simpa [Value.cells] using hf) hw
  rw [bytesFactP] at h3
  exact ⟨l, sl_facts h1 (by unfold reachBytes at h3; omega), h2⟩

set_option maxRecDepth 100000 in
theorem openAtoms {b0 : Nat} {v : Value} {d : DataW H} {p : List MemPlace} (hv : Value.okWide Tryz.prog W .any b0 41 v) (h : DataW.Trod enc Tryz.prog W 0 (fun _ => true) true 41 v d p) (hw : Sized 41 d) : ∃ l, atomK.sl Anyw W v l ∧ (∀ a ∈ l, okA a) ∧ l.length * 48 ≤ reachBytes := by
  obtain ⟨a0, len0, cap0, rfl⟩ := okWide_slice Tryz.underlying41 hv
  obtain ⟨fuel, hf⟩ := h
  obtain ⟨l, h1, h2, h3⟩ := openSlB Tryz.underlying41 cellsAtom (by rw [bytesAtom]; decide) (by decide) opensAtom (x := (d, p)) (by simpa [Value.cells] using hf) hw
  rw [bytesAtom] at h3
  exact ⟨l, h1, h2, h3⟩

set_option maxRecDepth 100000 in
theorem openStrsS {b0 : Nat} {v : Value} {d : DataW H} {p : List MemPlace} (hv : Value.okWide Tryz.prog W .any b0 52 v) (h : DataW.Trod enc Tryz.prog W 0 (fun _ => true) true 52 v d p) (hw : Sized 52 d) : ∃ l, Strs W v l ∧ ∀ s ∈ l, okS s := by
  obtain ⟨a0, len0, cap0, rfl⟩ := okWide_slice Tryz.underlying52 hv
  obtain ⟨fuel, hf⟩ := h
  obtain ⟨l, h1, h2, _⟩ := openSlB Tryz.underlying52 cellsStrP (by rw [bytesStrP]; decide) (by decide) opensStr (x := (d, p)) (by simpa [Value.cells] using hf) hw
  exact ⟨l, sl_strs h1, h2⟩

end Go.Proofs.YtbohggoeebhdmaaGreatDoor
