/- NaiveHeads: what a rule makes it makes of something: each fact is its head, its body being so. Whatever rule, list of facts and fact are handed in, of bulk at most 1048576 together, in whatever memory, the listed variables being as the program's text lays them: the call returns true and what was handed in reads as it did. The card ties that to the program's text. -/
import Derived.Test.YtbohggoeebhdmaaGreatDoorJ25
import Derived.Test.YtbohggoeebhdmaaGreatDoorJ21
import Derived.Test.YtbohggoeebhdmaaGreatDoorJ24
import Derived.Test.YtbohggoeebhdmaaGreatDoorRows
import Derived.Test.YtbohggoeebhdmaaGreatDoorCards
import Derived.Test.YtbohggoeebhdmaaGreatDoorTie
import Derived.SevenTiedAt
import Derived.Deep.DeepHandedRow
import Derived.LaidSub
import Derived.MakeChecks
import Derived.Lib.LaidTab
namespace Go.Proofs.YtbohggoeebhdmaaGreatDoor
open Go.ChangeShapes Go.WideShapes Go.ChangeAt Go.RowKit

/-- The rows' list gives the table of powers of ten. -/
theorem tabW {W : World} (h : laidMetH Tryz.prog Rows.naiveHeadsUptoRow.laid W) : TabN W := by
  have h1 := laidMetH.filter (fun x => x.1 == "internal/strconv.uint64pow10") h
  have e : Rows.naiveHeadsUptoRow.laid.filter (fun x => x.1 == "internal/strconv.uint64pow10") = [("internal/strconv.uint64pow10", Lib.tabData .u64 Lib.pow10Tab)] := by kernel_rfl
  rw [e, Go.MakeChecks.laidMetH_plain _ _ _ (by kernel_rfl)] at h1
  exact Lib.tabIs_of_head (g := 0) (t := 254) (by kernel_rfl) (by kernel_rfl) Tryz.underlying254 Tryz.underlying204 (by kernel_rfl) (by kernel_rfl) h1

set_option maxRecDepth 100000 in
theorem openRuleU {H : Type} {enc : TypeId × Value → H} {W : World} {b0 : Nat} {v : Value} {d : DataW H} {p : List MemPlace} (hv : Value.okWide Tryz.prog W .any b0 43 v) (h : DataW.Trod enc Tryz.prog W 0 (fun _ => true) true 43 v d p) (hw : Sized 43 d) :
    ∃ r tv bv, v = .agg #[.bool r.head.no, .string (bs r.head.name), tv, bv] ∧ termK.sl Anyw W tv r.head.terms ∧ atomK.sl Anyw W bv r.body ∧ muR r ≤ Rows.uptoBulk d := by
  obtain ⟨cs, rfl, hsz⟩ := okWide_struct Tryz.underlying43 hv
  obtain ⟨fuel, hf⟩ := h
  obtain ⟨r, ⟨tv, bv, e, ht, hb⟩, hk⟩ := opensRuleR fuel cs.toList (d, p) (by simpa [Value.cells] using hf) hw
  have : cs = #[.bool r.head.no, .string (bs r.head.name), tv, bv] := by cases cs; simp_all
  exact ⟨r, tv, bv, by rw [this], ht, hb, hk⟩

theorem sum_each {α : Type} {μ : α → Nat} : ∀ {l : List α} {x : α}, x ∈ l → μ x ≤ (l.map μ).sum
  | y :: l, x, h => by
    rw [List.map_cons, List.sum_cons]
    rcases List.mem_cons.1 h with rfl | h
    · omega
    · have := sum_each (μ := μ) h; omega
theorem len_sum {l : List TermD} : l.length ≤ (l.map muT).sum := by
  induction l with
  | nil => simp
  | cons t l ih => rw [List.map_cons, List.sum_cons, List.length_cons]; unfold muT at *; omega

set_option maxRecDepth 100000 in
theorem heads_contract (H : Type) (enc : TypeId × Value → H) (W : World) (base : Nat) (args : Array Value) (ds gs : List (DataW H)) (before : List MemPlace)
    (hval : ∀ (j : Nat) t v, Tryz.f8.params[j]? = some t → args[j]? = some v → Value.okWide Tryz.prog W .any base t v)
    (hW : DataW.Whole enc Tryz.prog Tryz.f8.params.toList Rows.naiveHeadsSpec.vars false W args.toList ds gs before) (hk : Rows.uptoSmall H (ds ++ gs) = true)
    (hsz : (DataW.weightsEach Tryz.prog (Tryz.f8.params.toList ++ Rows.naiveHeadsSpec.plain.varTypes Tryz.prog) (ds ++ gs)).all (· ≤ reachBytes) = true) (hL : laidMetH Tryz.prog Rows.naiveHeadsUptoRow.laid W) (hsh : W.ShapedOpen Tryz.prog) :
    Calls Tryz.prog 8 args W fun e W' => ∃ v, e = .returned v ∧ Rows.naiveHeadsSpec.post enc Tryz.prog Tryz.f8 false true false false W args v W' := by
  have hW' := hW
  obtain ⟨p, q, hA0, hV, rfl, hfz, hnd⟩ := hW
  have hA : DataW.TrodAll enc Tryz.prog W 0 (fun _ => true) true Tryz.f8.params.toList args.toList ds p := hA0
  rw [Tryz.params8] at hA hval hsz
  obtain ⟨v0, v1, v2, d0, d1, d2, p0, p1, p2, rfl, rfl, rfl, h0, h1, h2⟩ := trodAll_three hA
  obtain ⟨rfl, rfl⟩ := trodVars_none hV
  clear hA0
  simp only [List.append_nil] at hW' hk
  have hB : Rows.uptoBulkAll [d0, d1, d2] ≤ 1048576 := of_decide_eq_true hk
  simp only [Rows.uptoBulkAll] at hB
  have hlt0 : ∀ x ∈ p0, x.block < W.heap.size := fun x hx => hW'.lt x (by simp [hx])
  have hlt1 : ∀ x ∈ p1, x.block < W.heap.size := fun x hx => hW'.lt x (by simp [hx])
  have hlt2 : ∀ x ∈ p2, x.block < W.heap.size := fun x hx => hW'.lt x (by simp [hx])
  obtain ⟨r, tv, bv, rfl, ht, hb, hmu⟩ := openRuleU (hval 0 43 v0 rfl rfl) h0 (sized_at hsz (j := 0) rfl rfl)
  obtain ⟨fs, ha, hla, _⟩ := openFacts (hval 1 24 v1 rfl rfl) h1 (by omega)
  obtain ⟨f, hf, _⟩ := openFact (hval 2 54 v2 rfl rfl) h2 (bulkFact (by omega))
  obtain ⟨m, hm⟩ := maxLenN W hsh
  unfold muR muA at hmu
  have hlen := len_sum (l := r.head.terms)
  refine (naiveHeadsW r tv bv v1 v2 fs f W m hm ht hb ha hf (tabW hL) (by omega) (by omega) (fun t ht => by have := sum_each (μ := muT) ht; unfold muT at this hmu; omega)).mono fun e W' ⟨he, bel⟩ => ?_
  subst he
  refine ⟨_, rfl, _, _, _, [], p0 ++ (p1 ++ p2), [], hW', ?_, ?_, rfl, bel.frame _, fun h => by cases h⟩
  · exact trodAll_mk1 (shut_bool Tryz.underlying4 true)
  · exact trodAll_mk3 (Below.trod laidOutP (by kernel_rfl) (of_decide_eq_true (by kernel_rfl)) h0 bel hlt0) (Below.trod laidOutP (by kernel_rfl) (of_decide_eq_true (by kernel_rfl)) h1 bel hlt1) (Below.trod laidOutP (by kernel_rfl) (of_decide_eq_true (by kernel_rfl)) h2 bel hlt2)

set_option maxRecDepth 100000 in
theorem heads_met (os : Os) : laidMet Tryz.prog Rows.naiveHeadsUptoRow.laid ((World.doorLaid Tryz.prog 1000 os).forCall (fun _ _ => 0) ⟨#[], #[.agg #[.bool false, .string ⟨#[]⟩, .slice none 0 0, .slice none 0 0], .slice none 0 0, .agg #[.string ⟨#[]⟩, .slice none 0 0]], []⟩).memory :=
  laidMet_of_run' 8 (by kernel_rfl) (by kernel_rfl)

set_option maxRecDepth 100000 in
theorem heads_reads (os : Os) {H : Type} (enc : TypeId × Value → H) : ∃ places, DataW.whole enc Tryz.prog ((World.doorLaid Tryz.prog 1000 os).forCall (fun _ _ => 0) ⟨#[], #[.agg #[.bool false, .string ⟨#[]⟩, .slice none 0 0, .slice none 0 0], .slice none 0 0, .agg #[.string ⟨#[]⟩, .slice none 0 0]], []⟩).memory Tryz.f8.params.toList Rows.naiveHeadsSpec.vars false (#[.agg #[.bool false, .string ⟨#[]⟩, .slice none 0 0, .slice none 0 0], .slice none 0 0, .agg #[.string ⟨#[]⟩, .slice none 0 0]] : Array Value).toList 8 = some ([.agg [.agg [.lit (.bool false), .lit (.string []), .nil], .nil], .nil, .agg [.lit (.string []), .nil]], [], places) :=
  ⟨[], by kernel_rfl⟩

set_option maxRecDepth 100000 in
theorem heads_lifted (os : Os) (started : os.Started) (H : Type) (enc : TypeId × Value → H) (F : Stop.Interp) :
    ReturnsInHanded {} Tryz.checked os 8 .any ((Rows.OpenSpec.upto Rows.naiveHeadsSpec).preRow enc Tryz.prog Tryz.f8 Rows.naiveHeadsUptoRow.domain false Rows.naiveHeadsUptoRow.laid) (((Rows.OpenSpec.upto Rows.naiveHeadsSpec).at F).post enc Tryz.prog Tryz.f8 false true false false) := by
  obtain ⟨places, hx⟩ := heads_reads os enc
  refine returnsInHanded_of_row (C := Tryz.checked) (s := Rows.OpenSpec.upto Rows.naiveHeadsSpec) ownP started (by kernel_rfl) Tryz.func8
    (witness_row_at (enc := enc) (C := Tryz.checked) false (World.doorLaid Tryz.prog 1000 os) #[.agg #[.bool false, .string ⟨#[]⟩, .slice none 0 0, .slice none 0 0], .slice none 0 0, .agg #[.string ⟨#[]⟩, .slice none 0 0]] rfl (by kernel_rfl) (by kernel_rfl) (by kernel_rfl)
      (OpenSpec.preRow_of_cond 8 hx (by kernel_rfl) (fun k hk => by cases hk; kernel_rfl) (by kernel_rfl) (heads_met os))) ?_
  intro W base args ds gs before hval hW _ hcond hsz hL hsh _
  exact heads_contract H enc W base args ds gs before hval hW (hcond _ rfl) hsz hL hsh

theorem heads_said : Rows.NaiveHeadsUptoSaid :=
  OpenClaim.holds_of_cond 8 Tryz.f8 rfl rfl rfl rfl rfl rfl rfl ⟨rfl, rfl, rfl, rfl, rfl⟩ rfl rfl rfl rfl rfl (by kernel_rfl) Tryz.func8 (by kernel_rfl)
    (of_decide_eq_true (by kernel_rfl)) (by unfold Func.isWrapper; first | (rw [if_pos (by decide +kernel)]; kernel_rfl) | (rw [if_neg (by decide +kernel)]; exact ⟨rfl, rfl⟩))
    (fun os started H enc _ F => by rw [OpenClaim.pre_eq_preRow]; exact heads_lifted os started H enc F)

theorem heads_holds : Rows.NaiveHeadsUptoCardSaid :=
  Claim7.holds_tied_plain_at .later [] [.data, .data, .data] true (true, "689d0827a86e6b07d3e72e9d4fafeee1a9c618c9e516ed542380d8324eac388a") true
    heads_said (fun _ h => by cases h) (by kernel_rfl) (fun _ h => by cases h) naiveHeadsUpto_row_tie rfl ⟨rfl, rfl⟩ (by kernel_rfl) rfl
    (fun f fn hf hfn => by
      obtain rfl : f = 8 := Option.some.inj ((show Tryz.prog.funcNamed "corollary/corolaw5.NaiveHeads" = some 8 by kernel_rfl).symm.trans hf) |>.symm
      obtain rfl : fn = Tryz.f8 := (Option.some.inj (Tryz.func8.symm.trans hfn)).symm
      exact ⟨by kernel_rfl, fun j t ht => by
        rw [Tryz.params8] at ht
        rcases j with _ | _ | _ | j
        · have h3 : t = 43 := by simpa using ht.symm
          subst h3
          exact (show Tryz.prog.wantsStandIn 43 = false by kernel_rfl)
        · have h3 : t = 24 := by simpa using ht.symm
          subst h3
          exact (show Tryz.prog.wantsStandIn 24 = false by kernel_rfl)
        · have h3 : t = 54 := by simpa using ht.symm
          subst h3
          exact (show Tryz.prog.wantsStandIn 54 = false by kernel_rfl)
        · simp at ht⟩)
    (by kernel_rfl)

#print axioms heads_holds
end Go.Proofs.YtbohggoeebhdmaaGreatDoor
