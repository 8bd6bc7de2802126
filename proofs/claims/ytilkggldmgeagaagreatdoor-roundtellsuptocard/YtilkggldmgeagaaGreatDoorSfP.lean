/- RoundTells: Begin, Wrong, Step and Steps tell what is wrong with any run of any program, and what comes of it, as the document's own answer does. Whatever program, facts, run and number are handed in, of bulk at most 1048576 together, in whatever memory, the listed variables being as the program's text lays them: the call returns true and what was handed in reads as it did. The card ties that to the program's text. -/
import Derived.Test.YtilkggldmgeagaaGreatDoorJ29
import Derived.Test.YtilkggldmgeagaaGreatDoorJ30
import Derived.Test.YtilkggldmgeagaaGreatDoorJ31
import Derived.Test.YtilkggldmgeagaaGreatDoorRows
import Derived.Test.YtilkggldmgeagaaGreatDoorCards
import Derived.Test.YtilkggldmgeagaaGreatDoorTie
import Derived.SevenTiedAt
import Derived.Carry
import Derived.Deep.DeepHandedRow
namespace Go.Proofs.YtilkggldmgeagaaGreatDoor
open Go.ChangeShapes Go.WideShapes Go.ChangeAt Go.RowKit

theorem mem_sum5 {α : Type} (μ : α → Nat) : ∀ (l : List α) (x : α), x ∈ l → μ x ≤ (l.map μ).sum
  | [], _, h => by cases h
  | y :: l, x, h => by
    rw [List.map_cons, List.sum_cons]
    rcases List.mem_cons.1 h with rfl | h
    · omega
    · have := mem_sum5 μ l x h; omega
theorem longA_mu5 {a : AtomD} (h : muA a ≤ 1048576) : longA a := by
  unfold muA at h
  refine ⟨by omega, fun t ht => ?_⟩
  have h1 := mem_sum5 muT a.terms t ht
  have h2 : t.2.length + 1 ≤ (a.terms.map muT).sum := h1
  show t.2.length ≤ _
  omega
theorem longR_mu5 {r : RuleD} (h : muR r ≤ 1048576) : longR r := by
  unfold muR at h
  refine ⟨longA_mu5 (by omega), fun a ha => longA_mu5 ?_⟩
  have := mem_sum5 muA r.body a ha
  omega

theorem okF_t {l : List FactD} (h : ∀ f ∈ l, okFt f) : ∀ k, okF (l.getD k noFact) := fun k => by
  rw [List.getD_eq_getElem?_getD]
  cases e : l[k]? with
  | none => exact ⟨by simp [noFact], fun s hs => by simp [noFact] at hs⟩
  | some f =>
    have hf := h f (List.mem_of_getElem? e)
    exact ⟨by simpa [okS, maxLen] using hf.1, fun s hs => by simpa [okS, maxLen] using hf.2 s hs⟩

theorem cellsRunT : Tryz.prog.cellsOf 26 = 5 := by kernel_rfl
theorem cellsFactsT : Tryz.prog.cellsOf 24 = 1 := by kernel_rfl
theorem cellsIntT : Tryz.prog.cellsOf 3 = 1 := by kernel_rfl

section
variable {H : Type} {enc : TypeId × Value → H} {W : World}

theorem factsAt {n : Nat} {v : Value} {x : DataW H × List MemPlace} (hf : DataW.trod enc Tryz.prog W 0 (fun _ => true) true n 24 [v] = some x) (hw : Sized 24 x.1) : ∃ l, Facts W v l ∧ ∀ f ∈ l, okFt f := by
  obtain ⟨l, h1, h2, h3⟩ := openSlB Tryz.underlying24 cellsFactP (by rw [bytesFactP]; decide) (by decide) opensFact hf hw
  rw [bytesFactP] at h3
  exact ⟨l, sl_facts h1 (by unfold reachBytes at h3; omega), h2⟩

set_option maxRecDepth 100000 in
theorem openRun {b0 : Nat} {v : Value} {d : DataW H} {p : List MemPlace} (hv : Value.okWide Tryz.prog W .any b0 26 v) (h : DataW.Trod enc Tryz.prog W 0 (fun _ => true) true 26 v d p) (hw : Sized 26 d) :
    ∃ (r : RunD) (kv nv : Value), v = .agg #[kv, nv, .int .i64 r.level, .int .i64 r.rounds, .bool r.done] ∧ Facts W kv r.known ∧ Facts W nv r.fresh ∧ (∀ f ∈ r.known, okFt f) ∧ ∀ f ∈ r.fresh, okFt f := by
  obtain ⟨cs, rfl, hsz⟩ := okWide_struct Tryz.underlying26 hv
  obtain ⟨fuel, hf⟩ := h
  obtain ⟨xs, n, _, hx, hl, hlen, hp⟩ := DataW.trod_struct Tryz.underlying26 hf
  rw [cellsRunT] at hsz
  obtain ⟨cs⟩ := cs
  match cs, hsz with
  | [c0, c1, c2, c3, c4], _ =>
    match xs, hlen with
    | [y0, y1, y2, y3, y4], _ =>
      have hp0 : DataW.trod enc Tryz.prog W 0 (fun _ => true) true n 24 [c0] = some y0 := by
        have := hp 0 _ rfl
        simpa [Value.cells, cellsFactsT] using this
      have hp1 : DataW.trod enc Tryz.prog W 0 (fun _ => true) true n 24 [c1] = some y1 := by
        have := hp 1 _ rfl
        simpa [Value.cells, cellsFactsT] using this
      have hp2 : DataW.trod enc Tryz.prog W 0 (fun _ => true) true n 3 [c2] = some y2 := by
        have := hp 2 _ rfl
        simpa [Value.cells, cellsIntT] using this
      have hp3 : DataW.trod enc Tryz.prog W 0 (fun _ => true) true n 3 [c3] = some y3 := by
        have := hp 3 _ rfl
        simpa [Value.cells, cellsIntT] using this
      have hp4 : DataW.trod enc Tryz.prog W 0 (fun _ => true) true n 4 [c4] = some y4 := by
        have := hp 4 _ rfl
        simpa [Value.cells, cellsBool] using this
      have hws : Sized 24 y0.1 ∧ Sized 24 y1.1 := by
        have hd : d = .agg [y0.1, y1.1, y2.1, y3.1, y4.1] := by simpa using congrArg Prod.fst hx
        unfold Sized at hw ⊢
        rw [hd, DataW.weights, Tryz.underlying26] at hw
        simp only [List.map_cons, List.map_nil, DataW.weightsEach, List.all_append, Bool.and_eq_true] at hw
        exact ⟨hw.1, hw.2.1⟩
      obtain ⟨k, hk, hk1⟩ := factsAt hp0 hws.1
      obtain ⟨f, hf', hf1⟩ := factsAt hp1 hws.2
      obtain ⟨lev, h2, _, _⟩ := DataW.trod_int Tryz.underlying3 hp2
      obtain ⟨rn, h3, _, _⟩ := DataW.trod_int Tryz.underlying3 hp3
      obtain ⟨dn, h4, _⟩ := DataW.trod_bool Tryz.underlying4 hp4
      simp only [List.cons.injEq, and_true] at h2 h3 h4
      exact ⟨⟨k, f, lev, rn, dn⟩, c0, c1, by rw [h2, h3, h4], hk, hf', hk1, hf1⟩
end

set_option maxRecDepth 100000 in
theorem rtell6_contract (H : Type) (enc : TypeId × Value → H) (W : World) (base : Nat) (args : Array Value) (ds gs : List (DataW H)) (before : List MemPlace)
    (hval : ∀ (j : Nat) t v, Tryz.f3.params[j]? = some t → args[j]? = some v → Value.okWide Tryz.prog W .any base t v)
    (hW : DataW.Whole enc Tryz.prog Tryz.f3.params.toList Rows.roundTellsSpec.vars false W args.toList ds gs before) (hk : Rows.uptoSmall H (ds ++ gs) = true)
    (hsz : (DataW.weightsEach Tryz.prog (Tryz.f3.params.toList ++ Rows.roundTellsSpec.plain.varTypes Tryz.prog) (ds ++ gs)).all (· ≤ reachBytes) = true) :
    Calls Tryz.prog 3 args W fun e W' => ∃ v, e = .returned v ∧ Rows.roundTellsSpec.post enc Tryz.prog Tryz.f3 false true false false W args v W' := by
  have hW' := hW
  obtain ⟨p, q, hA0, hV, rfl, hfz, hnd⟩ := hW
  have hA : DataW.TrodAll enc Tryz.prog W 0 (fun _ => true) true Tryz.f3.params.toList args.toList ds p := hA0
  rw [Tryz.params3] at hA hval hsz
  obtain ⟨v0, v1, v2, v3, d0, d1, d2, d3, p0, p1, p2, p3, rfl, rfl, rfl, h0, h1, h2, h3⟩ := trodAll_four hA
  obtain ⟨rfl, rfl⟩ := trodVars_none hV
  clear hA0
  simp only [List.append_nil] at hW' hk
  have hB : Rows.uptoBulkAll [d0, d1, d2, d3] ≤ 1048576 := of_decide_eq_true hk
  simp only [Rows.uptoBulkAll] at hB
  have hlt0 : ∀ x ∈ p0, x.block < W.heap.size := fun x hx => hW'.lt x (by simp [hx])
  have hlt1 : ∀ x ∈ p1, x.block < W.heap.size := fun x hx => hW'.lt x (by simp [hx])
  have hlt2 : ∀ x ∈ p2, x.block < W.heap.size := fun x hx => hW'.lt x (by simp [hx])
  obtain ⟨l, hl, hls⟩ := openRulesR (hval 0 23 v0 rfl rfl) h0 (sized_at hsz (j := 0) rfl rfl)
  have hr : ∀ r ∈ l, muR r ≤ 1048576 := fun r hr => by have := mem_sum5 muR l r hr; omega
  obtain ⟨fs, ha, hok⟩ := openFactsS (hval 1 24 v1 rfl rfl) h1 (sized_at hsz (j := 1) rfl rfl)
  obtain ⟨r, kv, nv, rfl, hk1, hn1, hok1, hon1⟩ := openRun (hval 2 26 v2 rfl rfl) h2 (sized_at hsz (j := 2) rfl rfl)
  obtain ⟨n, rfl, rfl, rfl, wn⟩ := open_int Tryz.underlying3 (hval 3 3 v3 rfl rfl) h3
  refine (roundTellsW v0 v1 kv nv n l fs r W hl ha hk1 hn1 (fun r h => longR_mu5 (hr r h)) (okF_t hok) (okF_t hok1) (okF_t hon1)).mono fun e W' ⟨he, bel⟩ => ?_
  subst he
  refine ⟨_, rfl, _, _, _, [], p0 ++ (p1 ++ (p2 ++ [])), [], hW', ?_, ?_, rfl, bel.frame _, fun h => by cases h⟩
  · exact trodAll_mk1 (shut_bool Tryz.underlying4 true)
  · exact trodAll_mk4 (Below.trod laidOutP (by kernel_rfl) (of_decide_eq_true (by kernel_rfl)) h0 bel hlt0) (Below.trod laidOutP (by kernel_rfl) (of_decide_eq_true (by kernel_rfl)) h1 bel hlt1) (Below.trod laidOutP (by kernel_rfl) (of_decide_eq_true (by kernel_rfl)) h2 bel hlt2) (shut_int Tryz.underlying3 wn)

set_option maxRecDepth 100000 in
theorem rtell6_met (os : Os) : laidMet Tryz.prog Rows.roundTellsUptoRow.laid ((World.doorLaid Tryz.prog 1000 os).forCall (fun _ _ => 0) ⟨#[], #[.slice none 0 0, .slice none 0 0, .agg #[.slice none 0 0, .slice none 0 0, .int .i64 0, .int .i64 0, .bool false], .int .i64 0], []⟩).memory :=
  laidMet_of_run' 8 (by kernel_rfl) (by kernel_rfl)

set_option maxRecDepth 100000 in
theorem rtell6_reads (os : Os) {H : Type} (enc : TypeId × Value → H) : ∃ places, DataW.whole enc Tryz.prog ((World.doorLaid Tryz.prog 1000 os).forCall (fun _ _ => 0) ⟨#[], #[.slice none 0 0, .slice none 0 0, .agg #[.slice none 0 0, .slice none 0 0, .int .i64 0, .int .i64 0, .bool false], .int .i64 0], []⟩).memory Tryz.f3.params.toList Rows.roundTellsSpec.vars false (#[.slice none 0 0, .slice none 0 0, .agg #[.slice none 0 0, .slice none 0 0, .int .i64 0, .int .i64 0, .bool false], .int .i64 0] : Array Value).toList 8 = some ([.nil, .nil, .agg [.nil, .nil, .lit (.int .i64 0), .lit (.int .i64 0), .lit (.bool false)], .lit (.int .i64 0)], [], places) :=
  ⟨[], by kernel_rfl⟩

set_option maxRecDepth 100000 in
theorem rtell6_lifted (os : Os) (started : os.Started) (H : Type) (enc : TypeId × Value → H) (F : Stop.Interp) :
    ReturnsInHanded {} Tryz.checked os 3 .any ((Rows.OpenSpec.upto Rows.roundTellsSpec).preRow enc Tryz.prog Tryz.f3 Rows.roundTellsUptoRow.domain false Rows.roundTellsUptoRow.laid) (((Rows.OpenSpec.upto Rows.roundTellsSpec).at F).post enc Tryz.prog Tryz.f3 false true false false) := by
  obtain ⟨places, hx⟩ := rtell6_reads os enc
  refine returnsInHanded_of_row (C := Tryz.checked) (s := Rows.OpenSpec.upto Rows.roundTellsSpec) ownP started (by kernel_rfl) Tryz.func3
    (witness_row_at (enc := enc) (C := Tryz.checked) false (World.doorLaid Tryz.prog 1000 os) #[.slice none 0 0, .slice none 0 0, .agg #[.slice none 0 0, .slice none 0 0, .int .i64 0, .int .i64 0, .bool false], .int .i64 0] rfl (by kernel_rfl) (by kernel_rfl) (by kernel_rfl)
      (OpenSpec.preRow_of_cond 8 hx (by kernel_rfl) (fun k hk => by cases hk; kernel_rfl) (by kernel_rfl) (rtell6_met os))) ?_
  intro W base args ds gs before hval hW _ hcond hsz _ _ _
  exact rtell6_contract H enc W base args ds gs before hval hW (hcond _ rfl) hsz

theorem rtell6_said : Rows.RoundTellsUptoSaid :=
  OpenClaim.holds_of_cond 3 Tryz.f3 rfl rfl rfl rfl rfl rfl rfl ⟨rfl, rfl, rfl, rfl, rfl⟩ rfl rfl rfl rfl rfl (by kernel_rfl) Tryz.func3 (by kernel_rfl)
    (of_decide_eq_true (by kernel_rfl)) (by unfold Func.isWrapper; first | (rw [if_pos (by decide +kernel)]; kernel_rfl) | (rw [if_neg (by decide +kernel)]; exact ⟨rfl, rfl⟩))
    (fun os started H enc _ F => by rw [OpenClaim.pre_eq_preRow]; exact rtell6_lifted os started H enc F)

theorem rtell6_holds : Rows.RoundTellsUptoCardSaid :=
  Claim7.holds_tied_plain_at .later [] [.data, .data, .data] true (true, "6ab875babe70b2d813628c9d52180a3792801a1547c4f32173de28e1dd059719") false
    rtell6_said (fun _ h => by cases h) (by kernel_rfl) (fun _ h => by cases h) roundTellsUpto_row_tie rfl ⟨rfl, rfl⟩ (by kernel_rfl) rfl
    (fun f fn hf hfn => by
      obtain rfl : f = 3 := Option.some.inj ((show Tryz.prog.funcNamed "corollary/corolaw6.RoundTells" = some 3 by kernel_rfl).symm.trans hf) |>.symm
      obtain rfl : fn = Tryz.f3 := (Option.some.inj (Tryz.func3.symm.trans hfn)).symm
      exact ⟨by kernel_rfl, fun j t ht => by
        rw [Tryz.params3] at ht
        rcases j with _ | _ | _ | _ | j
        · have h3 : t = 23 := by simpa using ht.symm
          subst h3
          exact (show Tryz.prog.wantsStandIn 23 = false by kernel_rfl)
        · have h3 : t = 24 := by simpa using ht.symm
          subst h3
          exact (show Tryz.prog.wantsStandIn 24 = false by kernel_rfl)
        · have h3 : t = 26 := by simpa using ht.symm
          subst h3
          exact (show Tryz.prog.wantsStandIn 26 = false by kernel_rfl)
        · have h3 : t = 3 := by simpa using ht.symm
          subst h3
          exact (show Tryz.prog.wantsStandIn 3 = false by kernel_rfl)
        · simp at ht⟩)
    (by kernel_rfl)

#print axioms rtell6_holds
end Go.Proofs.YtilkggldmgeagaaGreatDoor
