/- TopCircle: it can't hang on its own not being so: so many rules, each one's head hanging on the next one's, the last one's on the first one's, have strata just if none asks for that not to be so. Whatever list of bools is handed in (within the form's own reach), in whatever memory, the listed variables being as the program's text lays them: the call returns true and what was handed in reads as it did. The card ties that to the program's text. -/
import Derived.Test.YtlchjoclipdgbaaGreatDoorJ21
import Derived.Test.YtlchjoclipdgbaaGreatDoorJ22
import Derived.Test.YtlchjoclipdgbaaGreatDoorRows
import Derived.Test.YtlchjoclipdgbaaGreatDoorCards
import Derived.Test.YtlchjoclipdgbaaGreatDoorTie
import Derived.SevenTiedAt
namespace Go.Proofs.YtlchjoclipdgbaaGreatDoor
open Go.ChangeShapes Go.WideShapes Go.ChangeAt Go.RowKit Go.Deep

set_option maxRecDepth 100000 in
theorem cellsBool1 : Tryz.prog.cellsOf 4 = 1 := by kernel_rfl

set_option maxRecDepth 100000 in
/-- At most eight bools, opened. -/
theorem openBools {H : Type} {enc : TypeId × Value → H} {W : World} {n : Nat} {a0 : Option Addr} {len0 cap0 : Nat} {x : DataW H × List MemPlace} (h8 : len0 ≤ 8) (hf : DataW.trod enc Tryz.prog W 0 (fun _ => true) true n 22 [.slice a0 len0 cap0] = some x) : ∃ l, boolK.sl Anyw W (.slice a0 len0 cap0) l ∧ l.length = len0 := by
  rcases open_slice Tryz.underlying22 hf with ⟨hcs, _⟩ | ⟨a, len, cap, m, k, D, Pl, hcs, _, hl, hm, hmm, hx, hel⟩
  · simp only [List.cons.injEq, and_true] at hcs
    exact ⟨[], by rw [hcs]; exact boolK.sl_nil _ _ _ _, by injection hcs with _ h _; exact h.symm⟩
  · simp only [List.cons.injEq, and_true] at hcs
    simp only [if_true] at hmm
    subst hmm
    rw [cellsBool1] at hel
    have hlen : len0 = len := by injection hcs
    have each : ∀ i : Fin len, ∃ z : Bool, ∃ cs', W.cells? 0 (a.add (i.1 * 1)) 1 = some cs' ∧ cs' = [.bool z] := fun i => by
      obtain ⟨cs', k1, k2⟩ := hel i.1 (by omega)
      obtain ⟨b, hb, _⟩ := DataW.trod_bool Tryz.underlying4 k2
      exact ⟨b, cs', k1, hb⟩
    refine ⟨List.ofFn fun i => Classical.choose (each i), ⟨⟨by rw [List.length_ofFn]; omega, ?_⟩, some a, m, by rw [hcs]; simp, fun hne => ?_⟩, by simp [hlen]⟩
    · rw [hcs]; show len ≤ m; omega
    have h0 : 0 < len := by
      refine Nat.pos_of_ne_zero fun e => hne ?_
      subst e; rfl
    have first : ∀ i : Fin len, ∀ cs', W.cells? 0 (a.add (i.1 * 1)) 1 = some cs' → ∀ j u, cs'[j]? = some u → W.cell? ((a.add (i.1 * 1)).add j) = some u := fun i cs' k1 j u hu => by
      obtain ⟨h1, _, hcell⟩ := World.cells?_some k1
      have hj : j < cs'.length := (List.getElem?_eq_some_iff.1 hu).1
      have := hcell j (by omega)
      rw [this]; exact hu
    have hplain : ∃ b off, a = ⟨b, off, none⟩ := by
      obtain ⟨z, cs', k0, k1⟩ := each ⟨0, h0⟩
      have := first ⟨0, h0⟩ cs' k0 0 (.bool z) (by rw [k1]; rfl)
      exact addr_plainP (W := W) (by simpa [Addr.add] using this)
    obtain ⟨b, off, rfl⟩ := hplain
    have hlt : b < W.heap.size := by
      obtain ⟨z, cs', k0, k1⟩ := each ⟨0, h0⟩
      have := first ⟨0, h0⟩ cs' k0 0 (.bool z) (by rw [k1]; rfl)
      rw [Addr.add_lit, Addr.add_lit] at this
      exact World.block_lt_of_cell? W _ this
    refine ⟨b, off, rfl, trivial, hlt, fun i z hi => ?_⟩
    have hi' : i < len := by simpa using (List.getElem?_eq_some_iff.1 hi).1
    rw [List.getElem?_ofFn, dif_pos hi'] at hi
    injection hi with hi
    subst hi
    obtain ⟨cs', k0, k1⟩ := Classical.choose_spec (each ⟨i, hi'⟩)
    refine ⟨cs', k1, fun j u hu => ?_⟩
    have := first ⟨i, hi'⟩ cs' k0 j u hu
    rw [Addr.add_lit, Addr.add_lit] at this
    exact this

set_option maxRecDepth 100000 in
theorem circle_lifted (os : Os) (started : os.Started) (H : Type) (enc : TypeId × Value → H) :
    ReturnsInHanded {} Tryz.checked os 3 .any (fun w args => (Rows.topCircleSpec.pre enc Tryz.prog Tryz.f3 [] false w args ∧ laidMetH Tryz.prog laid5 w) ∧ sizedMet enc Tryz.prog Tryz.f3 (OpenSpec.ofChange Rows.topCircleSpec) false w args)
      (Rows.topCircleSpec.post enc Tryz.prog Tryz.f3 false true false false) := by
  refine handed_laid (C := Tryz.checked) (X := fun w _ => laidMetH Tryz.prog laid5 w) ownP started (by kernel_rfl) Tryz.func3
    (ChangeSpec.witness_shaped (enc := enc) (C := Tryz.checked) (os := os) (X := fun w _ => laidMetH Tryz.prog laid5 w) false (World.doorLaid Tryz.prog 1000 os) #[.slice none 0 0] 8 rfl (World.shaped_of_RefB (by kernel_rfl) (by kernel_rfl)) (by kernel_rfl) (by kernel_rfl) (by kernel_rfl) (door5_met os _)) ?_
  intro W base args ds gs before hval0 hW hsz0 hsh
  have hval : ∀ (j : Nat) t v, Tryz.f3.params[j]? = some t → args[j]? = some v → Value.okWide Tryz.prog W .any base t v := hval0
  have hW' := hW
  obtain ⟨p, q, hA0, hV, rfl, hfz, hnd⟩ := hW
  have hA : DataW.TrodAll enc Tryz.prog W 0 (fun _ => true) true Tryz.f3.params.toList args.toList ds p := hA0
  rw [Tryz.params3] at hA hval
  obtain ⟨v0, vs0, d0, ds0, p0, q0, hargs, rfl, rfl, h0, r0⟩ := trodAll_cons hA
  obtain ⟨rfl, rfl, rfl⟩ := trodAll_nil r0
  obtain rfl : args = #[v0] := by cases args; simp_all
  obtain ⟨rfl, rfl⟩ := trodVars_none hV
  clear hA0 hval0 hsz0
  simp only [List.append_nil] at hW'
  have hlt0 : ∀ x ∈ p0, x.block < W.heap.size := fun x hx => hW'.lt x (by simp [hx])
  obtain ⟨m, hm⟩ := maxLenN W hsh
  have walk : Calls Tryz.prog 3 #[v0] W fun e W' => e = .returned (.bool true) ∧ Below W.heap.size W W' := by
    obtain ⟨a, n, cap, rfl⟩ := okWide_slice Tryz.underlying22 (hval 0 22 v0 rfl rfl)
    by_cases h9 : 8 < n
    · exact circleFar a n cap h9 W m hm
    · obtain ⟨fuel, hf⟩ := h0
      obtain ⟨l, hl, hn⟩ := openBools (len0 := n) (x := (d0, p0)) (by omega) (by simpa [Value.cells] using hf)
      by_cases h1 : n = 0
      · rw [h1]; exact circleNone a cap W m hm
      · exact circleW _ l W m hm hl (by omega) (by omega)
  refine walk.mono fun e W' ⟨he, bel⟩ => ?_
  subst he
  refine ⟨_, rfl, _, _, _, [], p0, [], hW', ?_, ?_, rfl, bel.frame _, fun h => by cases h⟩
  · exact trodAll_mk1 (shut_bool Tryz.underlying4 true)
  · exact trodAll_mk1 (Below.trod laidOutP (by kernel_rfl) (of_decide_eq_true (by kernel_rfl)) h0 bel hlt0)

theorem circle_said : Rows.TopCircleSaid :=
  OpenClaim.holds_of_wide 3 Tryz.f3 rfl rfl rfl rfl rfl rfl rfl ⟨rfl, rfl, rfl, rfl, rfl⟩ rfl rfl rfl rfl rfl (by kernel_rfl) Tryz.func3 (by kernel_rfl)
    (of_decide_eq_true (by kernel_rfl)) (by unfold Func.isWrapper; first | (rw [if_pos (by decide +kernel)]; kernel_rfl) | (rw [if_neg (by decide +kernel)]; exact ⟨rfl, rfl⟩))
    (fun os started H enc _ => circle_lifted os started H enc)

theorem circle_holds : Rows.TopCircleCardSaid :=
  Claim7.holds_tied_plain_at .later [] [.data, .data, .data] true (true, "3ae80f4573165208b7470474d25eeb30e47319ad3129bfc3d45503a16f39199d") true
    circle_said (fun _ h => by cases h) (by kernel_rfl) (fun _ h => by cases h) topCircle_row_tie rfl ⟨rfl, rfl⟩ (by kernel_rfl) rfl
    (fun f fn hf hfn => by
      obtain rfl : f = 3 := Option.some.inj ((show Tryz.prog.funcNamed "corollary/corotop.TopCircle" = some 3 by kernel_rfl).symm.trans hf) |>.symm
      obtain rfl : fn = Tryz.f3 := (Option.some.inj (Tryz.func3.symm.trans hfn)).symm
      exact ⟨by kernel_rfl, fun j t ht => by
        rw [Tryz.params3] at ht
        rcases j with _ | j
        · have h3 : t = 22 := by simpa using ht.symm
          subst h3
          exact (show Tryz.prog.wantsStandIn 22 = false by kernel_rfl)
        · simp at ht⟩)
    (by kernel_rfl)

#print axioms circle_holds
end Go.Proofs.YtlchjoclipdgbaaGreatDoor
