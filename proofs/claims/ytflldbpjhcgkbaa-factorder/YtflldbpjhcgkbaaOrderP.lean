/- FactOrder: of two facts just one comes first, or they are the same; and who comes ahead of who comes ahead comes ahead. Whatever three facts are handed in (each within the form's own reach), in whatever memory: the call returns true and the facts read as they did. -/
import Derived.Test.YtflldbpjhcgkbaaOpen
import Derived.Test.YtflldbpjhcgkbaaOrderW
namespace Go.Proofs.Ytflldbpjhcgkbaa
open Go.ChangeShapes Go.WideShapes Go.ChangeAt Go.RowKit

theorem bytesStr : Try.prog.bytesOf 9 = 16 := by kernel_rfl

/-- What the form's reach says of a fact among the arguments. -/
theorem sizedFact {H : Type} {ts : List TypeId} {ds : List (DataW H)} (h : (DataW.weightsEach Try.prog ts ds).all (· ≤ reachBytes) = true) {j : Nat} {d : DataW H} (ht : ts[j]? = some 25) (hd : ds[j]? = some d) :
    ∀ y es sp, d = .agg [y, .slice es sp] → es.length ≤ 8796093022208 := by
  intro y es sp e
  subst e
  have := List.all_eq_true.1 h _ (DataW.weights_mem_each ht hd ((es.length + sp.length) * Try.prog.bytesOf 9) (by simp [DataW.weights, DataW.weightsEach, Try.underlying25, Try.underlying23]))
  rw [bytesStr] at this
  have h2 : (es.length + sp.length) * 16 ≤ reachBytes := of_decide_eq_true this
  unfold reachBytes at h2
  omega

set_option maxRecDepth 100000 in
theorem order_lifted (os : Os) (started : os.Started) (H : Type) (enc : TypeId × Value → H) :
    ReturnsInHanded {} Try.checked os 5 .any (Rows.factOrderSpec.pre6 enc Try.prog Try.f5 Rows.factOrderRow.domain false) (Rows.factOrderSpec.post enc Try.prog Try.f5 false true false false) := by
  refine returnsInHanded_of_change_sized (C := Try.checked) ownT started (by kernel_rfl) Try.func5
    (ChangeSpec.witness6 (enc := enc) (C := Try.checked) false ⟨#[], #[.agg #[.string .empty, .slice none 0 0], .agg #[.string .empty, .slice none 0 0], .agg #[.string .empty, .slice none 0 0]], []⟩ 8 (by kernel_rfl) (by kernel_rfl) (by kernel_rfl) (by kernel_rfl)) ?_
  intro W base args ds gs before hval0 hW _ hsz0 _
  have hval : ∀ (j : Nat) t v, Try.f5.params[j]? = some t → args[j]? = some v → Value.okWide Try.prog W .any base t v := hval0
  have hsz : (DataW.weightsEach Try.prog (Try.f5.params.toList ++ Rows.factOrderSpec.plain.varTypes Try.prog) (ds ++ gs)).all (· ≤ reachBytes) = true := hsz0
  have hW' := hW
  obtain ⟨p, q, hA0, hV, rfl, hfz, hnd⟩ := hW
  have hA : DataW.TrodAll enc Try.prog W 0 (fun _ => true) true Try.f5.params.toList args.toList ds p := hA0
  rw [Try.params5] at hA hval hsz
  obtain ⟨v0, v1, v2, d0, d1, d2, p0, p1, p2, rfl, rfl, rfl, h0, h1, h2⟩ := trodAll_three hA
  obtain ⟨rfl, rfl⟩ := trodVars_none hV
  clear hA0 hval0 hsz0
  simp only [List.append_nil] at hW'
  have hlt : ∀ x ∈ p0 ++ (p1 ++ p2), x.block < W.heap.size := fun x hx => hW'.lt x (by simpa using hx)
  obtain ⟨a, ha, _⟩ := openFact (hval 0 25 v0 rfl rfl) h0 (sizedFact hsz (j := 0) rfl rfl)
  obtain ⟨b, hb, _⟩ := openFact (hval 1 25 v1 rfl rfl) h1 (sizedFact hsz (j := 1) rfl rfl)
  obtain ⟨c, hc, _⟩ := openFact (hval 2 25 v2 rfl rfl) h2 (sizedFact hsz (j := 2) rfl rfl)
  refine (orderW v0 v1 v2 a b c W ha hb hc).mono fun e W' ⟨he, hL⟩ => ?_
  subst he
  have bel : Below W.heap.size W W' := hL.below
  refine ⟨_, rfl, _, _, _, [], p0 ++ (p1 ++ p2), [], hW', ?_, ?_, rfl, bel.frame _, fun h => by cases h⟩
  · exact trodAll_mk1 (shut_bool Try.underlying4 true)
  · exact trodAll_mk3 (Below.trod laidOutT (by kernel_rfl) (of_decide_eq_true (by kernel_rfl)) h0 bel (fun x hx => hlt x (by simp [hx]))) (Below.trod laidOutT (by kernel_rfl) (of_decide_eq_true (by kernel_rfl)) h1 bel (fun x hx => hlt x (by simp [hx]))) (Below.trod laidOutT (by kernel_rfl) (of_decide_eq_true (by kernel_rfl)) h2 bel (fun x hx => hlt x (by simp [hx])))

theorem order_holds : Rows.FactOrderSaid :=
  OpenClaim.holds_of_wide 5 Try.f5 rfl rfl rfl rfl rfl rfl rfl ⟨rfl, rfl, rfl, rfl, rfl⟩ rfl rfl rfl rfl rfl (by kernel_rfl) Try.func5 (by kernel_rfl)
    (of_decide_eq_true (by kernel_rfl)) (by unfold Func.isWrapper; first | (rw [if_pos (by decide +kernel)]; kernel_rfl) | (rw [if_neg (by decide +kernel)]; exact ⟨rfl, rfl⟩))
    (fun os started H enc _ => order_lifted os started H enc)

#print axioms order_holds
end Go.Proofs.Ytflldbpjhcgkbaa
