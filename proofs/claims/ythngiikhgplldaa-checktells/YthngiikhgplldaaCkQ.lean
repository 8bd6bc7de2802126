/- CheckTells: Vars, Body, Wrong and Strata tell what is wrong with any program, and its strata, as the document's own answer does. Whatever program is handed in, each list within the form's own reach, in whatever memory: the call returns true and what was handed in reads as it did. -/
import Derived.Test.YthngiikhgplldaaRows
import Derived.Test.YthngiikhgplldaaJC13
import Derived.HandedShaped
namespace Go.Proofs.Ythngiikhgplldaa
open Go.ChangeShapes Go.WideShapes Go.ChangeAt Go.RowKit Go.Deep

theorem longA_ok {a : AtomD} (h : okA a) : longA a := ⟨by have := h.1; unfold maxLen at this; omega, fun t ht => by have : t.2.length ≤ maxLen := h.2 t ht; unfold maxLen at this; show t.2.length ≤ _; omega⟩
theorem longR_ok {r : RuleD} (h : okR r) : longR r := ⟨longA_ok h.1, fun a ha => longA_ok (h.2 a ha)⟩

theorem keyA_ok {r : RuleD} (h : okR r ∧ r.head.terms.length * 24 ≤ reachBytes) : keyA r.head := ⟨by have := h.2; unfold reachBytes at this; omega, fun t ht => h.1.1.2 t ht⟩

section
variable {H : Type} {enc : TypeId × Value → H} {W : World}

set_option maxRecDepth 100000 in
theorem opensAtomL : Opens enc W 30 atomK (fun a => okA a ∧ a.terms.length * 24 ≤ reachBytes) := by
  intro n cs x h hw
  obtain ⟨y0, y1, y2, m, hx, hl, h0, h1, h2⟩ := trod_struct3 Try.underlying30 h
  rw [cellsAtom] at hl
  match cs, hl with
  | [c0, c1, c2], _ =>
    have e0 : Try.prog.cellsOf 4 = 1 := cellsBool
    have e1 : Try.prog.cellsOf 9 = 1 := cellsStrP
    have e2 : Try.prog.cellsOf 28 = 1 := cellsTerms
    simp only [e0, e1, e2, List.drop_zero, List.drop_succ_cons, List.take_succ_cons, List.take_zero] at h0 h1 h2
    obtain ⟨b, hb, _⟩ := DataW.trod_bool Try.underlying4 h0
    obtain ⟨s, hs, _, hsz⟩ := DataW.trod_string Try.underlying9 h1
    simp only [List.cons.injEq, and_true] at hb hs
    have hw2 : Sized 28 y2.1 := by
      unfold Sized at hw ⊢
      rw [hx, DataW.weights, Try.underlying30] at hw
      simp only [List.map_cons, List.map_nil, DataW.weightsEach, List.all_append, Bool.and_eq_true] at hw
      exact hw.2.2.1
    obtain ⟨l, hl, hlk, hlb⟩ := openSlB Try.underlying28 cellsTerm (by rw [bytesTerm]; decide) (by decide) opensTerm h2 hw2
    exact ⟨⟨b, raw s, l⟩, ⟨c2, by show [c0, c1, c2] = _; rw [hb, hs, bs_raw], hl⟩, ⟨by show (raw s).length ≤ _; rw [length_raw]; exact hsz, hlk⟩, by rw [bytesTerm] at hlb; exact hlb⟩

set_option maxRecDepth 100000 in
theorem opensRuleL : Opens enc W 33 ruleK (fun r => okR r ∧ r.head.terms.length * 24 ≤ reachBytes) := by
  intro n cs x h hw
  obtain ⟨y0, y1, m, hx, hl, h0, h1⟩ := trod_struct2 Try.underlying33 h
  rw [cellsRule] at hl
  match cs, hl with
  | [c0, c1, c2, c3], _ =>
    have e0 : Try.prog.cellsOf 30 = 3 := cellsAtom
    have e1 : Try.prog.cellsOf 31 = 1 := cellsAtoms
    simp only [e0, e1, List.drop_zero, List.drop_succ_cons, List.take_succ_cons, List.take_zero] at h0 h1
    have hws : Sized 30 y0.1 ∧ Sized 31 y1.1 := by
      unfold Sized at hw ⊢
      rw [hx, DataW.weights, Try.underlying33] at hw
      simp only [List.map_cons, List.map_nil, DataW.weightsEach, List.all_append, Bool.and_eq_true] at hw
      exact ⟨hw.1, hw.2.1⟩
    obtain ⟨a, ⟨v, ev, hv⟩, hak⟩ := opensAtomL _ _ _ h0 hws.1
    obtain ⟨l, hl, hlk⟩ := openSl Try.underlying31 cellsAtom (by rw [bytesAtom]; decide) (by decide) opensAtom h1 hws.2
    simp only [List.cons.injEq, and_true] at ev
    exact ⟨⟨a, l⟩, ⟨v, c3, by show [c0, c1, c2, c3] = _; rw [ev.1, ev.2.1, ev.2.2], hv, hl⟩, ⟨hak.1, hlk⟩, hak.2⟩

set_option maxRecDepth 100000 in
theorem openRulesL {b0 : Nat} {v : Value} {d : DataW H} {p : List MemPlace} (hv : Value.okWide Try.prog W .any b0 23 v) (h : DataW.Trod enc Try.prog W 0 (fun _ => true) true 23 v d p) (hw : Sized 23 d) : ∃ l, ruleK.sl Anyw W v l ∧ ∀ r ∈ l, okR r ∧ r.head.terms.length * 24 ≤ reachBytes := by
  obtain ⟨a0, len0, cap0, rfl⟩ := okWide_slice Try.underlying23 hv
  obtain ⟨fuel, hf⟩ := h
  exact openSl Try.underlying23 cellsRule (by rw [bytesRule]; decide) (by decide) opensRuleL (x := (d, p)) (by simpa [Value.cells] using hf) hw
end

set_option maxRecDepth 100000 in
theorem ctellq_lifted (os : Os) (started : os.Started) (H : Type) (enc : TypeId × Value → H) :
    ReturnsInHanded {} Try.checked os 3 .any (Rows.checkTellsSpec.pre6 enc Try.prog Try.f3 Rows.checkTellsRow.domain false) (Rows.checkTellsSpec.post enc Try.prog Try.f3 false true false false) := by
  refine returnsInHanded_of_change_shaped (C := Try.checked) ownP started (by kernel_rfl) Try.func3
    (ChangeSpec.witness6 (enc := enc) (C := Try.checked) false ⟨#[], #[.slice none 0 0], []⟩ 8 (by kernel_rfl) (by kernel_rfl) (by kernel_rfl) (by kernel_rfl)) ?_
  intro W base args ds gs before hval0 hW _ hsz0 hsh _
  have hval : ∀ (j : Nat) t v, Try.f3.params[j]? = some t → args[j]? = some v → Value.okWide Try.prog W .any base t v := hval0
  have hsz : (DataW.weightsEach Try.prog (Try.f3.params.toList ++ Rows.checkTellsSpec.plain.varTypes Try.prog) (ds ++ gs)).all (· ≤ reachBytes) = true := hsz0
  have hW' := hW
  obtain ⟨p, q, hA0, hV, rfl, hfz, hnd⟩ := hW
  have hA : DataW.TrodAll enc Try.prog W 0 (fun _ => true) true Try.f3.params.toList args.toList ds p := hA0
  rw [Try.params3] at hA hval hsz
  obtain ⟨v0, d0, rfl, rfl, h0⟩ := trodAll_one hA
  obtain ⟨rfl, rfl⟩ := trodVars_none hV
  clear hA0 hval0 hsz0
  simp only [List.append_nil] at hW'
  have hlt : ∀ x ∈ p, x.block < W.heap.size := fun x hx => hW'.lt x (by simpa using hx)
  obtain ⟨l, hl, hr⟩ := openRulesL (hval 0 23 v0 rfl rfl) h0 (sized_at hsz (j := 0) rfl rfl)
  refine (checkTellsW v0 l W hl (fun r h => longR_ok (hr r h).1) (fun r h => keyA_ok (hr r h))).mono fun e W' ⟨he, bel⟩ => ?_
  subst he
  refine ⟨_, rfl, _, _, _, [], p, [], hW', ?_, ?_, rfl, bel.frame _, fun h => by cases h⟩
  · exact trodAll_mk1 (shut_bool Try.underlying4 true)
  · exact trodAll_mk1 (Below.trod laidOutP (by kernel_rfl) (of_decide_eq_true (by kernel_rfl)) h0 bel hlt)

theorem ctellq_holds : Rows.CheckTellsSaid :=
  OpenClaim.holds_of_wide 3 Try.f3 rfl rfl rfl rfl rfl rfl rfl ⟨rfl, rfl, rfl, rfl, rfl⟩ rfl rfl rfl rfl rfl (by kernel_rfl) Try.func3 (by kernel_rfl)
    (of_decide_eq_true (by kernel_rfl)) (by unfold Func.isWrapper; first | (rw [if_pos (by decide +kernel)]; kernel_rfl) | (rw [if_neg (by decide +kernel)]; exact ⟨rfl, rfl⟩))
    (fun os started H enc _ => ctellq_lifted os started H enc)

#print axioms ctellq_holds
end Go.Proofs.Ythngiikhgplldaa
