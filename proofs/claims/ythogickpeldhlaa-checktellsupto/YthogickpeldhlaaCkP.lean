/- CheckTells: Vars, Body, Wrong and Strata tell what is wrong with any program, and its strata, as the document's own answer does. Whatever program is handed in, of bulk at most 1048576, in whatever memory: the call returns true and what was handed in reads as it did. -/
import Derived.Test.YthogickpeldhlaaCkW
import Derived.Test.YthogickpeldhlaaOpenV
import Derived.HandedShaped
import Derived.JoinedCond
namespace Go.Proofs.Ythogickpeldhlaa
open Go.ChangeShapes Go.WideShapes Go.ChangeAt Go.RowKit

theorem mem_sum {α : Type} (μ : α → Nat) : ∀ (l : List α) (x : α), x ∈ l → μ x ≤ (l.map μ).sum
  | [], _, h => by cases h
  | y :: l, x, h => by
    rw [List.map_cons, List.sum_cons]
    rcases List.mem_cons.1 h with rfl | h
    · omega
    · have := mem_sum μ l x h; omega
theorem len_sum : ∀ l : List TermD, l.length ≤ (l.map muT).sum
  | [] => by simp
  | t :: l => by have := len_sum l; rw [List.map_cons, List.sum_cons, List.length_cons]; unfold muT; unfold muT at this; omega
theorem longA_mu {a : AtomD} (h : muA a ≤ 1048576) : longA a := by
  unfold muA at h
  refine ⟨by omega, fun t ht => ?_⟩
  have h1 := mem_sum muT a.terms t ht
  have h2 : t.2.length + 1 ≤ (a.terms.map muT).sum := h1
  show t.2.length ≤ _
  omega
theorem longR_mu {r : RuleD} (h : muR r ≤ 1048576) : longR r := by
  unfold muR at h
  refine ⟨longA_mu (by omega), fun a ha => longA_mu ?_⟩
  have := mem_sum muA r.body a ha
  omega
theorem keyA_mu {r : RuleD} (h : muR r ≤ 1048576) : keyA r.head := by
  unfold muR muA at h
  have h0 := len_sum r.head.terms
  refine ⟨by omega, fun t ht => ?_⟩
  have h1 := mem_sum muT r.head.terms t ht
  have h2 : t.2.length + 1 ≤ (r.head.terms.map muT).sum := h1
  simp only [maxLen]
  omega

set_option maxRecDepth 100000 in
theorem ctell_contract (H : Type) (enc : TypeId × Value → H) (W : World) (base : Nat) (args : Array Value) (ds gs : List (DataW H)) (before : List MemPlace)
    (hval : ∀ (j : Nat) t v, Try.f9.params[j]? = some t → args[j]? = some v → Value.okWide Try.prog W .any base t v)
    (hW : DataW.Whole enc Try.prog Try.f9.params.toList Rows.checkTellsSpec.vars false W args.toList ds gs before) (hk : Rows.uptoSmall H (ds ++ gs) = true)
    (hsz : (DataW.weightsEach Try.prog (Try.f9.params.toList ++ Rows.checkTellsSpec.plain.varTypes Try.prog) (ds ++ gs)).all (· ≤ reachBytes) = true) :
    Calls Try.prog 9 args W fun e W' => ∃ v, e = .returned v ∧ Rows.checkTellsSpec.post enc Try.prog Try.f9 false true false false W args v W' := by
  have hW' := hW
  obtain ⟨p, q, hA0, hV, rfl, hfz, hnd⟩ := hW
  have hA : DataW.TrodAll enc Try.prog W 0 (fun _ => true) true Try.f9.params.toList args.toList ds p := hA0
  rw [Try.params9] at hA hval hsz
  obtain ⟨v0, d0, rfl, rfl, h0⟩ := trodAll_one hA
  obtain ⟨rfl, rfl⟩ := trodVars_none hV
  clear hA0
  simp only [List.append_nil] at hW' hk
  have hB : Rows.uptoBulkAll [d0] ≤ 1048576 := of_decide_eq_true hk
  simp only [Rows.uptoBulkAll] at hB
  have hlt : ∀ x ∈ p, x.block < W.heap.size := fun x hx => hW'.lt x (by simpa using hx)
  obtain ⟨l, hl, hls⟩ := openRulesR (hval 0 43 v0 rfl rfl) h0 (sized_at hsz (j := 0) rfl rfl)
  have hr : ∀ r ∈ l, muR r ≤ 1048576 := fun r hr => by have := mem_sum muR l r hr; omega
  refine (checkTellsW v0 l W hl (fun r h => longR_mu (hr r h)) (fun r h => keyA_mu (hr r h))).mono fun e W' ⟨he, bel⟩ => ?_
  subst he
  refine ⟨_, rfl, _, _, _, [], p, [], hW', ?_, ?_, rfl, bel.frame _, fun h => by cases h⟩
  · exact trodAll_mk1 (shut_bool Try.underlying4 true)
  · exact trodAll_mk1 (Below.trod laidOutP (by kernel_rfl) (of_decide_eq_true (by kernel_rfl)) h0 bel hlt)

set_option maxRecDepth 100000 in
theorem ctell_lifted (os : Os) (started : os.Started) (H : Type) (enc : TypeId × Value → H) (F : Stop.Interp) :
    ReturnsInHanded {} Try.checked os 9 .any ((Rows.OpenSpec.upto Rows.checkTellsSpec).pre6 enc Try.prog Try.f9 Rows.checkTellsUptoRow.domain false) (((Rows.OpenSpec.upto Rows.checkTellsSpec).at F).post enc Try.prog Try.f9 false true false false) := by
  refine returnsInHanded_of_calls (C := Try.checked) ownP started (by kernel_rfl)
    (OpenSpec.witness (enc := enc) (C := Try.checked) (s := Rows.OpenSpec.upto Rows.checkTellsSpec) (k := Rows.uptoSmall) rfl false ⟨#[], #[.slice none 0 0], []⟩ 8 (by kernel_rfl) (by kernel_rfl) (by kernel_rfl)
      (x := ([.nil], [], [])) (by kernel_rfl) rfl (by kernel_rfl)) ?_
  intro w tape i _ _ _ hok hpre _
  obtain ⟨_, _, _, fn', hfn', _, _, _, _, hval⟩ := hok
  have e : fn' = Try.f9 := Option.some.inj (hfn'.symm.trans Try.func9)
  subst e
  have hz := hpre.2
  obtain ⟨ds, gs, before, hw, hc, hkk⟩ := (OpenSpec.pre_some (s := Rows.OpenSpec.upto Rows.checkTellsSpec) (k := Rows.uptoSmall) rfl _ _ _ _).1 hpre.1
  have hw' := DataW.Whole.of_heap (w' := w.forCall tape i) (by rfl) hw
  refine (ctell_contract H enc (w.forCall tape i) w.heap.size i.args ds gs before hval hw' hkk (hz.weights hw)).mono fun e W' ⟨v, he, hp⟩ => ?_
  subst he
  exact ChangeSpec.post_blind hp

theorem ctell_holds : Rows.CheckTellsUptoSaid :=
  OpenClaim.holds_of_cond 9 Try.f9 rfl rfl rfl rfl rfl rfl rfl ⟨rfl, rfl, rfl, rfl, rfl⟩ rfl rfl rfl rfl rfl (by kernel_rfl) Try.func9 (by kernel_rfl)
    (of_decide_eq_true (by kernel_rfl)) (by unfold Func.isWrapper; first | (rw [if_pos (by decide +kernel)]; kernel_rfl) | (rw [if_neg (by decide +kernel)]; exact ⟨rfl, rfl⟩))
    (fun os started H enc _ F => ctell_lifted os started H enc F)

#print axioms ctell_holds
end Go.Proofs.Ythogickpeldhlaa
