/- Texts of this claim, one behind the other. -/
import Derived.Test.YtafmbokfkbccaaaGreatDoorJ28
import Derived.Test.YtafmbokfkbccaaaGreatDoorJ29
import Derived.Test.YtafmbokfkbccaaaGreatDoorJ6
import Derived.Test.YtafmbokfkbccaaaGreatDoorJ23
/- The closed beginning of chapter 8's statements, plain. -/
namespace Go.Proofs.YtafmbokfkbccaaaGreatDoor
open Go.RowKit Go.Sort

theorem for7 : forE ruls7 told7 = 0 := by
  have e1 : (strataP ruls7).2.1 = 0 := by rw [strata7]
  unfold forE
  rw [if_neg (fun h => h e1), good_facts good_told7]
theorem begin7 : runOf ruls7 told7 = ⟨told7, told7, 0, 0, false⟩ := by
  unfold runOf
  rw [strata7]
  rfl
def run8 : RunD := ⟨all7, all7, 1, 2, true⟩
theorem steps8 : stepsP ruls7 [0] 9 ⟨told7, told7, 0, 0, false⟩ = (0, run8) := by rw [stepsJ_eq]; kernel_rfl
theorem stepsF8 : stepsF ruls7 ⟨told7, told7, 0, 0, false⟩ 9 = (0, run8) := by
  unfold stepsF
  rw [if_neg (by rw [← begin7, begin_right for7]; simp), if_neg (by simp), strata7]
  exact steps8
theorem beginP8 : beginP ruls7 told7 = (0, ⟨told7, told7, 0, 0, false⟩) := by unfold beginP; rw [if_neg (by rw [for7]; simp), begin7]
theorem wrong8 : wrongRunP ruls7 run8 = 0 := by
  have h := begin_right for7
  obtain ⟨h1, h2⟩ := wrongRun_zero h
  obtain ⟨hp, _, τ, _, hs, _⟩ := forE_zero for7
  have e : (strataP ruls7).1 = ruls7.map fun r => τ r.head.name := by rw [hs]
  have hr : RightN ruls7 (countP (strataP ruls7).1) run8 := by
    have h3 := steps8
    rw [← begin7, show ([0] : List Nat) = (strataP ruls7).1 by rw [strata7]] at h3
    rw [e] at h2 h3 ⊢
    exact steps_right hp _ 9 h2 h3
  refine wrongRun_right ?_ hr
  have e1 : (strataP ruls7).2.1 = 0 := by rw [strata7]
  unfold forE
  rw [if_neg (fun h => h e1), good_facts hr.good]
theorem load8 : loadP ruls7 (wRun run8) = (0, run8) := by
  unfold loadP
  rw [read_wrun (byteR_of wrong8).1, if_neg (by simp), if_neg (by rw [wrong8]; simp)]
theorem save8 : saveP ruls7 run8 = (0, wRun run8) := by
  unfold saveP
  rw [if_neg (by rw [wrong8]; simp)]
def body8 : List AtomD := [⟨false, [98], [(true, [88])]⟩]
theorem atom8 : toldAtom [98, 40, 88, 41] = (body8, 0, 0) := by kernel_rfl
theorem err8 : errW body8 all7 [] = 0 := by decide +kernel
theorem all8 : allW body8 all7 = (0, [[(kb [88], kb [113])]]) := by
  have e : allB (pickB all7 (-1) []) body8 = some [[(kb [88], kb [113])]] := by rw [allJ_eq]; kernel_rfl
  unfold allW
  rw [if_neg (by rw [err8]; simp), e]

def do8 : List DoD := [⟨1, 0, (⟨#[97]⟩, [⟨#[113]⟩]), ⟨#[]⟩⟩, ⟨2, 0, (⟨#[]⟩, []), bs txt7⟩, ⟨3, 0, (⟨#[]⟩, []), ⟨#[]⟩⟩, ⟨4, 9, (⟨#[]⟩, []), ⟨#[]⟩⟩, ⟨7, 0, (⟨#[]⟩, []), ⟨#[]⟩⟩, ⟨5, 0, (⟨#[]⟩, []), bs [98, 40, 88, 41]⟩]
def desk8 : DeskD := ⟨told7, ruls7, true, run8, wRun run8⟩

theorem tell8 : tellP noDesk (⟨#[97]⟩, [⟨#[113]⟩]) = (⟨told7, [], false, noRun, []⟩, ansN 1) := by
  have h1 : wrongF (⟨#[97]⟩, [⟨#[113]⟩]) = 0 := right_told7 _ (by simp [told7, kb])
  have h2 : setF ([] ++ [((⟨#[97]⟩, [⟨#[113]⟩]) : FactB)]) = told7 := by rw [setI_eq]; decide +kernel
  unfold tellP
  rw [if_neg (by rw [h1]; simp)]
  show (if 200 < (setF ([] ++ [((⟨#[97]⟩, [⟨#[113]⟩]) : FactB)])).length then _ else (DeskD.mk (setF ([] ++ [((⟨#[97]⟩, [⟨#[113]⟩]) : FactB)])) [] false noRun [], ansN (setF ([] ++ [((⟨#[97]⟩, [⟨#[113]⟩]) : FactB)])).length)) = _
  rw [h2]
  rfl
theorem rule8 : ruleP ⟨told7, [], false, noRun, []⟩ (bs txt7) = (⟨told7, ruls7, false, noRun, []⟩, ansN 1) := by
  unfold ruleP
  rw [raw_bs, told_txt7]
  dsimp only
  rw [if_neg (by simp), strata7]
  rfl
def noPr : Prover := fun _ _ _ => (0, none)
theorem no6 : ∀ x ∈ do8, x.kind ≠ 6 := by
  intro x hx
  simp only [do8, List.mem_cons, List.not_mem_nil, or_false] at hx
  rcases hx with rfl | rfl | rfl | rfl | rfl | rfl <;> decide
theorem play8 (φ : Prover) : ∃ l, playP φ do8 = (desk8, l, 0) ∧ l.length = 6 ∧ (l[5]?.map AnsD.n) = some 1 := by
  have e1 : doP φ noDesk ⟨1, 0, (⟨#[97]⟩, [⟨#[113]⟩]), ⟨#[]⟩⟩ = (⟨told7, [], false, noRun, []⟩, ansN 1) := tell8
  have e2 : doP φ ⟨told7, [], false, noRun, []⟩ ⟨2, 0, (⟨#[]⟩, []), bs txt7⟩ = (⟨told7, ruls7, false, noRun, []⟩, ansN 1) := rule8
  have e3 : doP φ ⟨told7, ruls7, false, noRun, []⟩ ⟨3, 0, (⟨#[]⟩, []), ⟨#[]⟩⟩ = (⟨told7, ruls7, true, ⟨told7, told7, 0, 0, false⟩, []⟩, ansN 1) := by
    show runsP _ (beginP ruls7 told7) = _
    rw [beginP8]; rfl
  have e4 : doP φ ⟨told7, ruls7, true, ⟨told7, told7, 0, 0, false⟩, []⟩ ⟨4, 9, (⟨#[]⟩, []), ⟨#[]⟩⟩ = (⟨told7, ruls7, true, run8, []⟩, ansN 2) := by
    unfold doP
    rw [if_neg (show ¬ (4 : Int) = 1 by decide), if_neg (show ¬ (4 : Int) = 2 by decide), if_neg (show ¬ (4 : Int) = 3 by decide), if_pos rfl]
    unfold stepD
    rw [if_neg (by simp)]
    show runsP _ (stepsF ruls7 ⟨told7, told7, 0, 0, false⟩ 9) = _
    rw [stepsF8]; rfl
  have e5 : doP φ ⟨told7, ruls7, true, run8, []⟩ ⟨7, 0, (⟨#[]⟩, []), ⟨#[]⟩⟩ = (desk8, ansN (wRun run8).length) := by
    unfold doP
    rw [if_neg (show ¬ (7 : Int) = 1 by decide), if_neg (show ¬ (7 : Int) = 2 by decide), if_neg (show ¬ (7 : Int) = 3 by decide), if_neg (show ¬ (7 : Int) = 4 by decide), if_neg (show ¬ (7 : Int) = 5 by decide), if_neg (show ¬ (7 : Int) = 6 by decide), if_pos rfl]
    unfold saveD
    rw [if_neg (by simp)]
    show (if (saveP ruls7 run8).1 ≠ 0 then _ else (DeskD.mk told7 ruls7 true run8 (saveP ruls7 run8).2, ansN (saveP ruls7 run8).2.length)) = _
    rw [save8]; rfl
  have e6 : doP φ desk8 ⟨5, 0, (⟨#[]⟩, []), bs [98, 40, 88, 41]⟩ = (desk8, ⟨0, 0, 1, [[(kb [88], kb [113])]], noPrf⟩) := by
    show (desk8, askD desk8 (bs [98, 40, 88, 41])) = _
    unfold askD
    rw [raw_bs, atom8]
    dsimp only
    rw [if_neg (by simp), if_neg (by simp [desk8, run8])]
    show (desk8, if (allW body8 all7).1 ≠ 0 then _ else (AnsD.mk 0 0 (allW body8 all7).2.length (allW body8 all7).2 noPrf)) = _
    rw [all8]; rfl
  refine ⟨[ansN 1, ansN 1, ansN 1, ansN 2, ansN (wRun run8).length, ⟨0, 0, 1, [[(kb [88], kb [113])]], noPrf⟩], ?_, rfl, rfl⟩
  unfold playP
  rw [if_neg (by simp [do8])]
  simp only [do8, playGo, e1, e2, e3, e4, e5, e6]

end Go.Proofs.YtafmbokfkbccaaaGreatDoor

/- The walk of chapter 8's statements' alive. -/
namespace Go.Proofs.YtafmbokfkbccaaaGreatDoor
open Go.RowKit Go.Sort

set_option maxRecDepth 100000 in
set_option maxHeartbeats 1000000 in
theorem tellA (nm : ByteArray) (a : Option Addr) (n c : Nat) (w : World) :
    Calls Tryz.prog 80 #[.string nm, .slice a n c] w fun e w' => e = .returned (.agg #[.int .i64 1, .int .i64 0, .string nm, .slice a n c, .string ⟨#[]⟩]) ∧ Below w.heap.size w w' := by
  obtain ⟨w1, hw1⟩ : ∃ w1, w1 = w.alloc (.cells #[.int .i64 0, .int .i64 0, .string ⟨#[]⟩, .slice none 0 0, .string ⟨#[]⟩] 72) := ⟨_, rfl⟩
  have hL1 : Later w w1 := by rw [hw1]; exact (Later.refl w).alloc _
  have hr1 : w1.heap[w.heap.size]? = some (.cells #[.int .i64 0, .int .i64 0, .string ⟨#[]⟩, .slice none 0 0, .string ⟨#[]⟩] 72 (0, 0)) := by rw [hw1]; exact heap_alloc_new w _
  obtain ⟨q0, q1, q2, q3, q4, ⟨f0, f1, f2, f3, f4⟩, hlt⟩ := row5 hr1
  have HR := hide hr1
  have HW1 := hide hw1
  have HL1 := hide hL1
  clear hw1 hr1 hL1
  go_enter Tryz.func80, Tryz.ntmps80
  go_wp2_with (rw [← HW1.out])
  obtain ⟨r0, r1, r2, r3, r4⟩ := set5 HR.out (.int .i64 1) (.int .i64 0) (.string nm) (.slice a n c) (.string ⟨#[]⟩)
  exact bodyPost_ret (v := .agg #[.int .i64 1, .int .i64 0, .string nm, .slice a n c, .string ⟨#[]⟩]) (by simp [results, Tryz.results80, go_sem, r0, r1, r2, r3, r4]) rfl ⟨rfl, Below.put5 HL1.out.below (Nat.le_refl _)⟩

theorem row8do {w : World} {b : Nat} {a : Option Addr} {n c : Nat} (h : w.heap[b]? = some (.cells #[.int .i64 1, .int .i64 0, .string ⟨#[97]⟩, .slice a n c, .string ⟨#[]⟩, .int .i64 2, .int .i64 0, .string ⟨#[]⟩, .slice none 0 0, .string ⟨#[98, 40, 88, 41, 32, 58, 45, 32, 97, 40, 88, 41, 46]⟩, .int .i64 3, .int .i64 0, .string ⟨#[]⟩, .slice none 0 0, .string ⟨#[]⟩, .int .i64 4, .int .i64 9, .string ⟨#[]⟩, .slice none 0 0, .string ⟨#[]⟩, .int .i64 7, .int .i64 0, .string ⟨#[]⟩, .slice none 0 0, .string ⟨#[]⟩, .int .i64 5, .int .i64 0, .string ⟨#[]⟩, .slice none 0 0, .string ⟨#[98, 40, 88, 41]⟩] 72 (0, 0))) (hs : bsK.sl Anyw w (.slice a n c) [⟨#[113]⟩]) : doK.sl Anyw w (.slice (some ⟨b, 0, none⟩) 6 6) do8 := by
  refine ⟨⟨by simp [do8], Nat.le_refl _⟩, _, 6, rfl, fun _ => ⟨b, 0, rfl, trivial, (Array.getElem?_eq_some_iff.1 h).1, fun i x hi => ?_⟩⟩
  have cellOf : ∀ j, w.cell? ⟨b, j, none⟩ = _ := fun j => cell_of_row w b j _ _ _ h
  have hlt : i < 6 := (List.getElem?_eq_some_iff.1 hi).1
  have nil : bsK.sl Anyw w (.slice none 0 0) [] := bsK.sl_nil _ _ _ _
  have fin : ∀ (k : Nat) (y : DoD) (s : Value), do8[k]? = some y → bsK.sl Anyw w s y.fact.2 → (∀ j u, ([.int .i64 y.kind, .int .i64 y.n, .string y.fact.1, s, .string y.text] : List Value)[j]? = some u → w.cell? ⟨b, 0 + k * 5 + j, none⟩ = some u) → ∀ x, do8[k]? = some x → ∃ c, doK.is Anyw w c x ∧ ∀ j u, c[j]? = some u → w.cell? ⟨b, 0 + k * doK.size + j, none⟩ = some u := fun k y s hy hs' hc x hx => by
    rw [hy] at hx; cases hx
    exact ⟨_, ⟨s, rfl, hs'⟩, hc⟩
  have : i = 0 ∨ i = 1 ∨ i = 2 ∨ i = 3 ∨ i = 4 ∨ i = 5 := by omega
  rcases this with rfl | rfl | rfl | rfl | rfl | rfl
  · refine fin 0 _ (.slice a n c) rfl hs (fun j u hu => ?_) x hi
    rw [cellOf]
    match j, hu with
    | 0, hu | 1, hu | 2, hu | 3, hu | 4, hu => cases hu; rfl
  · refine fin 1 _ (.slice none 0 0) rfl nil (fun j u hu => ?_) x hi
    rw [cellOf]
    match j, hu with
    | 0, hu | 1, hu | 2, hu | 3, hu | 4, hu => cases hu; rfl
  · refine fin 2 _ (.slice none 0 0) rfl nil (fun j u hu => ?_) x hi
    rw [cellOf]
    match j, hu with
    | 0, hu | 1, hu | 2, hu | 3, hu | 4, hu => cases hu; rfl
  · refine fin 3 _ (.slice none 0 0) rfl nil (fun j u hu => ?_) x hi
    rw [cellOf]
    match j, hu with
    | 0, hu | 1, hu | 2, hu | 3, hu | 4, hu => cases hu; rfl
  · refine fin 4 _ (.slice none 0 0) rfl nil (fun j u hu => ?_) x hi
    rw [cellOf]
    match j, hu with
    | 0, hu | 1, hu | 2, hu | 3, hu | 4, hu => cases hu; rfl
  · refine fin 5 _ (.slice none 0 0) rfl nil (fun j u hu => ?_) x hi
    rw [cellOf]
    match j, hu with
    | 0, hu | 1, hu | 2, hu | 3, hu | 4, hu => cases hu; rfl

theorem long8 : 5 < (wRun run8).length := by decide +kernel

set_option maxRecDepth 100000 in
set_option maxHeartbeats 4000000 in
theorem alive8 (w : World) (m : Int) (hm : w.cell? ⟨1, 0, none⟩ = some (.int .i64 m)) (hmw : 1 < w.heap.size) : Calls Tryz.prog 34 #[] w fun e w' => e = .returned (.bool true) ∧ Below w.heap.size w w' := by
  obtain ⟨w1, hw1⟩ : ∃ w1, w1 = w.alloc (.cells #[.string ⟨#[113]⟩] 9) := ⟨_, rfl⟩
  have hL1 : Later w w1 := by rw [hw1]; exact (Later.refl w).alloc _
  have hr1 : w1.heap[w.heap.size]? = some (.cells #[.string ⟨#[113]⟩] 9 (0, 0)) := by rw [hw1]; exact heap_alloc_new w _
  have HT := hide (tellA ⟨#[97]⟩ (some ⟨w.heap.size, 0, none⟩) 1 1 w1)
  have HW1 := hide hw1
  have HR1 := hide hr1
  have HL1 := hide hL1
  have HM := hide hm
  clear hw1 hr1 hL1 hm
  go_enter Tryz.func34, Tryz.ntmps34
  go_wp2_with (first | (rw [← HW1.out]) | fail)
  refine HT.out.mono ?_
  rintro e w2 ⟨rfl, hB2⟩
  have hlt1 := (Array.getElem?_eq_some_iff.1 HR1.out).1
  have hr2 := (hB2.block _ hlt1).trans HR1.out
  obtain ⟨w3, hw3⟩ : ∃ w3, w3 = w2.alloc (.cells #[.int .i64 1, .int .i64 0, .string ⟨#[97]⟩, .slice (some ⟨w.heap.size, 0, none⟩) 1 1, .string ⟨#[]⟩, .int .i64 2, .int .i64 0, .string ⟨#[]⟩, .slice none 0 0, .string ⟨#[98, 40, 88, 41, 32, 58, 45, 32, 97, 40, 88, 41, 46]⟩, .int .i64 3, .int .i64 0, .string ⟨#[]⟩, .slice none 0 0, .string ⟨#[]⟩, .int .i64 4, .int .i64 9, .string ⟨#[]⟩, .slice none 0 0, .string ⟨#[]⟩, .int .i64 7, .int .i64 0, .string ⟨#[]⟩, .slice none 0 0, .string ⟨#[]⟩, .int .i64 5, .int .i64 0, .string ⟨#[]⟩, .slice none 0 0, .string ⟨#[98, 40, 88, 41]⟩] 72) := ⟨_, rfl⟩
  have hL3 : Later w2 w3 := by rw [hw3]; exact (Later.refl w2).alloc _
  have hB23 : Below w1.heap.size w1 w3 := below_trans hB2 hL3.below hB2.size
  have hB3 : Below w.heap.size w w3 := below_trans HL1.out.below hB23 HL1.out.size
  have hr3 := (hL3.block (Array.getElem?_eq_some_iff.1 hr2).1).trans hr2
  have hs3 : bsK.sl Anyw w3 (.slice (some ⟨w.heap.size, 0, none⟩) 1 1) [⟨#[113]⟩] := by
    refine ⟨⟨by simp, Nat.le_refl _⟩, _, 1, rfl, fun _ => ⟨w.heap.size, 0, rfl, trivial, (Array.getElem?_eq_some_iff.1 hr3).1, fun i x hi => ?_⟩⟩
    have h0 : i = 0 := by have := (List.getElem?_eq_some_iff.1 hi).1; simp at this; exact this
    subst h0
    cases hi
    refine ⟨_, rfl, fun j u hu => ?_⟩
    have h0 : j = 0 := by have := (List.getElem?_eq_some_iff.1 hu).1; simp at this; exact this
    subst h0
    cases hu
    rw [cell_of_row _ _ _ _ _ _ hr3]; rfl
  have hd3 : doK.sl Anyw w3 (.slice (some ⟨w2.heap.size, 0, none⟩) 6 6) do8 := row8do (by rw [hw3]; exact heap_alloc_new w2 _) hs3
  have hz3 := hB3.size
  have HP := hide (playC noPr do8 _ w3 hd3 m (by rw [hB3.cell (p := ⟨1, 0, none⟩) hmw]; exact HM.out) (by omega) (fun x hx h => absurd h (no6 x hx)))
  obtain ⟨l8, hp8, hl8, hn8⟩ := play8 noPr
  rw [hp8] at HP
  have HB3 := hide hB3
  have HW3 := hide hw3
  have HN8 := hide hn8
  have HL8 := hide hl8
  clear hB2 hr2 hw3 hL3 hB23 hB3 hr3 hs3 hd3 hp8 hn8 hl8 HT HR1 HW1 HL1 HM
  dsimp only at HP
  go_wp2_with (first | (rw [← HW3.out]) | fail)
  refine HP.out.mono ?_
  rintro e w4 ⟨dv, ov, rfl, ⟨tv, rv, kv, nv, sv, rfl, hD1, hD2, hD3, hD4, hD5⟩, hO4, hB4⟩
  obtain ⟨ta, tc, rfl⟩ := hD1.slice
  obtain ⟨ra, rc, rfl⟩ := Kind.slice hD2
  obtain ⟨ka, kc, rfl⟩ := hD3.slice
  obtain ⟨na, nc, rfl⟩ := hD4.slice
  obtain ⟨sa, sc, rfl⟩ := Kind.slice hD5
  obtain ⟨oa, oc, rfl⟩ := Kind.slice hO4
  obtain ⟨a5, ha5⟩ : ∃ a, l8[5]? = some a := ⟨_, List.getElem?_eq_getElem (by rw [HL8.out]; omega)⟩
  have hn5 : a5.n = 1 := by have := HN8.out; rw [ha5] at this; simpa using this
  obtain ⟨ob, oo, _, rfl, hob, ⟨_, _, _, rfl, _, _, _⟩, hoc⟩ := Kind.sl_at hO4 ha5
  have o2 : w4.cell? ⟨ob, oo + 42, none⟩ = some (.int .i64 1) := by
    have := hoc 2 _ rfl
    rw [hn5] at this
    simpa [ansK, Nat.add_assoc] using this
  obtain ⟨w5, hw5⟩ : ∃ w5, w5 = w4.alloc (.cells #[.slice ta desk8.told.length tc, .slice ra desk8.rules.length rc, .bool desk8.running, .slice ka desk8.run.known.length kc, .slice na desk8.run.fresh.length nc, .int .i64 desk8.run.level, .int .i64 desk8.run.rounds, .bool desk8.run.done, .slice sa desk8.saved.length sc] 56) := ⟨_, rfl⟩
  have hL5 : Later w4 w5 := by rw [hw5]; exact (Later.refl w4).alloc _
  have hr5 : w5.heap[w4.heap.size]? = some (.cells #[.slice ta desk8.told.length tc, .slice ra desk8.rules.length rc, .bool desk8.running, .slice ka desk8.run.known.length kc, .slice na desk8.run.fresh.length nc, .int .i64 desk8.run.level, .int .i64 desk8.run.rounds, .bool desk8.run.done, .slice sa desk8.saved.length sc] 56 (0, 0)) := by rw [hw5]; exact heap_alloc_new w4 _
  have hlo := loadC ruls7 (wRun run8) (.slice ra desk8.rules.length rc) (.slice sa desk8.saved.length sc) w5 (Kind.sl_later (Kind.sl_any hD2) hL5) (LongB.of (Kind.sl_later (Kind.sl_any hD5) hL5))
  rw [load8] at hlo
  have HLo := hide hlo
  have hB35 := below_trans hB4 hL5.below hB4.size
  have HB5 := hide (below_trans HB3.out hB35 HB3.out.size)
  have HW5 := hide hw5
  have HR5 := hide hr5
  have o5 : w5.cell? ⟨ob, oo + 42, none⟩ = some (.int .i64 1) := by rw [hL5.cell (p := ⟨ob, oo + 42, none⟩) hob]; exact o2
  have hob5 : ob < w5.heap.size := Nat.lt_of_lt_of_le hob hL5.size
  have hlt5 := (Array.getElem?_eq_some_iff.1 hr5).1
  have hsl : 5 < desk8.saved.length := long8
  have hol : l8.length = 6 := HL8.out
  have HOl := hide hol
  obtain ⟨⟨q0, q1, q2, q3, q4, q5, q6, q7, q8⟩, _, _⟩ := row9 hr5
  clear hD1 hD2 hD3 hD4 hD5 hO4 hoc ha5 hn5 hw5 hL5 hlo hB35 hB4 o2 hr5 HP HW3 HN8 HL8 hol
  generalize desk8.saved.length = sn at *
  generalize desk8.rules.length = rn at *
  generalize desk8.told.length = tn at *
  generalize desk8.run.known.length = kn at *
  generalize desk8.run.fresh.length = nn at *
  rw [HOl.out]
  go_wp2_with (first | (rw [← HW5.out]) | fail)
  refine HLo.out.mono ?_
  rintro e w6 ⟨v6, rfl, ⟨k6, n6, rfl, hk6, hn6⟩, hB6⟩
  obtain ⟨k6a, k6c, rfl⟩ := hk6.slice
  obtain ⟨n6a, n6c, rfl⟩ := hn6.slice
  obtain ⟨w7, hw7⟩ : ∃ w7, w7 = w6.alloc (.cells #[.slice k6a run8.known.length k6c, .slice n6a run8.fresh.length n6c, .int .i64 run8.level, .int .i64 run8.rounds, .bool run8.done] 47) := ⟨_, rfl⟩
  have hL7 : Later w6 w7 := by rw [hw7]; exact (Later.refl w6).alloc _
  have hr7 : w7.heap[w6.heap.size]? = some (.cells #[.slice k6a run8.known.length k6c, .slice n6a run8.fresh.length n6c, .int .i64 run8.level, .int .i64 run8.rounds, .bool run8.done] 47 (0, 0)) := by rw [hw7]; exact heap_alloc_new w6 _
  have hB57 := below_trans hB6 hL7.below hB6.size
  have o7 : w7.cell? ⟨ob, oo + 42, none⟩ = some (.int .i64 1) := by rw [hB57.cell (p := ⟨ob, oo + 42, none⟩) hob5]; exact o5
  have hr57 := (hB57.block _ hlt5).trans HR5.out
  have s7 := (row9 hr57).1.2.2.2.2.2.2.2.2
  have d7 := (row5 hr7).2.2.2.2.1
  have d7' : w7.cell? ⟨w6.heap.size, 4, none⟩ = some (.bool true) := d7
  have HB7 := hide (below_trans HB5.out hB57 HB5.out.size)
  have HW7 := hide hw7
  clear hk6 hn6 hw7 hL7 hr7 hB57 hr57 hB6 o5 q0 q1 q2 q3 q4 q5 q6 q7 q8 HLo HW5 HR5 d7
  go_wp2_with (first | (rw [← HW7.out]) | fail)
  go_ret
  exact ⟨rfl, HB7.out⟩

end Go.Proofs.YtafmbokfkbccaaaGreatDoor

/- The document's answer: the walk of ref.Same, where the two lists hold the same. -/
namespace Go.Proofs.YtafmbokfkbccaaaGreatDoor
open Go.RowKit Go.Sort

set_option maxHeartbeats 1000000 in
theorem rSame (v1 v2 : Value) (l : List FactD) (w : World) (h1 : Facts w v1 l) (h2 : Facts w v2 l) :
    Calls Tryz.prog 38 #[v1, v2] w fun e w' => e = .returned (.bool true) ∧ Later w w' := by
  have mx := mixed
  have H1 := hide h1
  have H2 := hide h2
  obtain ⟨a, cap, rfl, hn, hz⟩ := h1.addr
  obtain ⟨a2, cap2, rfl, _, hz2⟩ := h2.addr
  clear h1 h2
  go_enter Tryz.func38, Tryz.ntmps38
  go_wp2
  go_loopw [13] (fun i wr => ∃ k : Nat, k ≤ l.length ∧ i = .int .i64 k ∧ Later w wr) (fun i _ => l.length - (intOf i).toNat)
  case atStart => exact ⟨0, by omega, rfl, Later.refl _⟩
  case round =>
    obtain ⟨k, hk, rfl, hL⟩ := hrel
    by_cases hlt : k < l.length
    · rcases hz with rfl | ⟨b, off, rfl⟩
      · simp at hlt
      rcases hz2 with rfl | ⟨b2, off2, rfl⟩
      · simp at hlt
      have hltz : (k : Int) < (l.length : Int) := by omega
      obtain ⟨ax, lx, cx, g1, g2, fx⟩ := (H1.out.later hL).grown hlt
      obtain ⟨ay, ly, cy, g3, g4, fy⟩ := (H2.out.later hL).grown hlt
      have hE : ∀ q os, Calls Tryz.prog 64 #[.agg #[.string (l.getD k noFact).1, .slice ax lx cx], .agg #[.string (l.getD k noFact).1, .slice ay ly cy]] (grow (wr.drewN q) os) fun e w'' => e = .returned (.bool true) ∧ Later (grow (wr.drewN q) os) w'' :=
        fun q os => (rEqual _ _ _ _ _ (fx.later ⟨q, os, rfl⟩) (fy.later ⟨q, os, rfl⟩)).mono fun e w' ⟨he, hw⟩ => ⟨by rw [he, sameF_iff.2 rfl], hw⟩
      have HE := hide hE
      clear hE fx fy
      generalize (l.getD k noFact).1 = nk at *
      go_wp2
      go_quiet_grown ((go_at_call 64; exact Calls.grown_of (HE.out _ _)))
      go_wp2
      go_roundw
      case rel => exact ⟨k + 1, by omega, by go_num, hL.trans ⟨_, _, rfl⟩⟩
      case measure => simp [intOf]; omega
    · go_wp2
      go_ret
      exact ⟨rfl, hL⟩

end Go.Proofs.YtafmbokfkbccaaaGreatDoor

/- The walks of chapter 6's statements' closed beginning, alive, and of the reference's SameRun (of one run twice). -/
namespace Go.Proofs.YtafmbokfkbccaaaGreatDoor
open Go.RowKit Go.Sort Go.Maps


def ruls6 : List RuleD :=
  [⟨⟨false, [116], [(true, [88]), (true, [89])]⟩, [⟨false, [101], [(true, [88]), (true, [89])]⟩]⟩,
   ⟨⟨false, [116], [(true, [88]), (true, [90])]⟩, [⟨false, [116], [(true, [88]), (true, [89])]⟩, ⟨false, [101], [(true, [89]), (true, [90])]⟩]⟩]
def told6 : List FactB := [(kb [101], [kb [97], kb [98]])]
def all6 : List FactB := [(kb [101], [kb [97], kb [98]]), (kb [116], [kb [97], kb [98]])]
def txt6 : Bs := [116, 40, 88, 44, 89, 41, 32, 58, 45, 32, 101, 40, 88, 44, 89, 41, 46, 32, 116, 40, 88, 44, 90, 41, 32, 58, 45, 32, 116, 40, 88, 44, 89, 41, 44, 32, 101, 40, 89, 44, 90, 41, 46]
def run6 : RunD := ⟨all6, all6, 1, 2, true⟩

set_option maxRecDepth 100000 in
set_option maxHeartbeats 2000000 in
theorem sameRun (r : RunD) (v1 v2 : Value) (w : World) (h1 : RunV w v1 r) (h2 : RunV w v2 r) :
    Calls Tryz.prog 29 #[v1, v2] w fun e w' => e = .returned (.bool true) ∧ Later w w' := by
  obtain ⟨kv, nv, rfl, hk1, hn1⟩ := h1
  obtain ⟨kv', nv', rfl, hk2, hn2⟩ := h2
  obtain ⟨ka, kc, rfl⟩ := sliceFacts hk1
  obtain ⟨na, nc, rfl⟩ := sliceFacts hn1
  obtain ⟨xa, xc, rfl⟩ := sliceFacts hk2
  obtain ⟨ya, yc, rfl⟩ := sliceFacts hn2
  obtain ⟨wb, hwb⟩ : ∃ wb, wb = (w.alloc (.cells #[.slice ka r.known.length kc, .slice na r.fresh.length nc, .int .i64 r.level, .int .i64 r.rounds, .bool r.done] 47)).alloc (.cells #[.slice xa r.known.length xc, .slice ya r.fresh.length yc, .int .i64 r.level, .int .i64 r.rounds, .bool r.done] 47) := ⟨_, rfl⟩
  have hLb : Later w wb := by rw [hwb]; exact ((Later.refl w).alloc _).alloc _
  have hzb : wb.heap.size = w.heap.size + 2 := by rw [hwb]; simp
  have hr1 : wb.heap[w.heap.size]? = some (.cells #[.slice ka r.known.length kc, .slice na r.fresh.length nc, .int .i64 r.level, .int .i64 r.rounds, .bool r.done] 47 (0, 0)) := by
    rw [hwb, Below.heap_alloc _ _ _ (by simp)]; exact heap_alloc_new w _
  have hr2 : wb.heap[w.heap.size + 1]? = some (.cells #[.slice xa r.known.length xc, .slice ya r.fresh.length yc, .int .i64 r.level, .int .i64 r.rounds, .bool r.done] 47 (0, 0)) := by
    have := heap_alloc_new (w.alloc (.cells #[.slice ka r.known.length kc, .slice na r.fresh.length nc, .int .i64 r.level, .int .i64 r.rounds, .bool r.done] 47)) (.cells #[.slice xa r.known.length xc, .slice ya r.fresh.length yc, .int .i64 r.level, .int .i64 r.rounds, .bool r.done] 47)
    rw [hwb]; simpa using this
  have HS1 := hide (rSame _ _ r.known wb (hk1.later hLb) (hk2.later hLb))
  have HN1 := hide (hn1.later hLb)
  have HN2 := hide (hn2.later hLb)
  have HR1 := hide hr1
  have HR2 := hide hr2
  have HL := hide hLb
  have HW := hide hwb
  clear hk1 hn1 hk2 hn2 hLb hr1 hr2 hwb
  go_enter Tryz.func29, Tryz.ntmps29
  go_wp2_with fail
  rw [← HW.out]
  refine HS1.out.mono ?_
  rintro e w1 ⟨rfl, hL1⟩
  have hr1 : w1.heap[w.heap.size]? = some (.cells #[.slice ka r.known.length kc, .slice na r.fresh.length nc, .int .i64 r.level, .int .i64 r.rounds, .bool r.done] 47 (0, 0)) := by rw [hL1.block (by omega)]; exact HR1.out
  have hr2 : w1.heap[w.heap.size + 1]? = some (.cells #[.slice xa r.known.length xc, .slice ya r.fresh.length yc, .int .i64 r.level, .int .i64 r.rounds, .bool r.done] 47 (0, 0)) := by rw [hL1.block (by omega)]; exact HR2.out
  obtain ⟨b0, b1, b2, b3, b4, _, _⟩ := row5 hr1
  obtain ⟨q0, q1, q2, q3, q4, _, _⟩ := row5 hr2
  have HS2 := hide (rSame _ _ r.fresh w1 (HN1.out.later hL1) (HN2.out.later hL1))
  have HR1' := hide hr1
  have HR2' := hide hr2
  have HL1 := hide (HL.out.trans hL1)
  have hz1 := hL1.size
  clear hL1 hr1 hr2 HS1 HR1 HR2 HN1 HN2 HW
  go_wp2_with fail
  refine HS2.out.mono ?_
  rintro e w2 ⟨rfl, hL2⟩
  clear b0 b1 b2 b3 b4 q0 q1 q2 q3 q4
  have hr1 : w2.heap[w.heap.size]? = some (.cells #[.slice ka r.known.length kc, .slice na r.fresh.length nc, .int .i64 r.level, .int .i64 r.rounds, .bool r.done] 47 (0, 0)) := by rw [hL2.block (by omega)]; exact HR1'.out
  have hr2 : w2.heap[w.heap.size + 1]? = some (.cells #[.slice xa r.known.length xc, .slice ya r.fresh.length yc, .int .i64 r.level, .int .i64 r.rounds, .bool r.done] 47 (0, 0)) := by rw [hL2.block (by omega)]; exact HR2'.out
  obtain ⟨b0, b1, b2, b3, b4, _, _⟩ := row5 hr1
  obtain ⟨q0, q1, q2, q3, q4, _, _⟩ := row5 hr2
  have HL2 := hide (HL1.out.trans hL2)
  clear hr1 hr2 hL2 HS2 HR1' HR2'
  go_wp2
  go_ret
  exact ⟨by simp, HL2.out⟩

end Go.Proofs.YtafmbokfkbccaaaGreatDoor
