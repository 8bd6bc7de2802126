/- DeskTurns: a run comes back from its bytes; bytes that are read are those of their run. Whatever program, run and bytes are handed in (each list within the form's own reach), in whatever memory, the listed variables being as the program's text lays them: the call returns true and what was handed in reads as it did. The card ties that to the program's text. -/
import Derived.Test.YtafmbokfkbccaaaGreatDoorJ31
import Derived.Test.YtafmbokfkbccaaaGreatDoorJ32
import Derived.Test.YtafmbokfkbccaaaGreatDoorRows
import Derived.Test.YtafmbokfkbccaaaGreatDoorCards
import Derived.Test.YtafmbokfkbccaaaGreatDoorTie
import Derived.SevenTiedAt
namespace Go.Proofs.YtafmbokfkbccaaaGreatDoor
open Go.ChangeShapes Go.WideShapes Go.ChangeAt Go.RowKit

set_option maxRecDepth 100000 in
theorem dturns_lifted (os : Os) (started : os.Started) (H : Type) (enc : TypeId × Value → H) :
    ReturnsInHanded {} Tryz.checked os 6 .any (fun w args => (Rows.deskTurnsSpec.pre enc Tryz.prog Tryz.f6 [] false w args ∧ laidMetH Tryz.prog laid5 w) ∧ sizedMet enc Tryz.prog Tryz.f6 (OpenSpec.ofChange Rows.deskTurnsSpec) false w args)
      (Rows.deskTurnsSpec.post enc Tryz.prog Tryz.f6 false true false false) := by
  refine handed_laid (C := Tryz.checked) (X := fun w _ => laidMetH Tryz.prog laid5 w) ownP started (by kernel_rfl) Tryz.func6
    (ChangeSpec.witness_shaped (enc := enc) (C := Tryz.checked) (os := os) (X := fun w _ => laidMetH Tryz.prog laid5 w) false (World.doorLaid Tryz.prog 1000 os) #[.slice none 0 0, .agg #[.slice none 0 0, .slice none 0 0, .int .i64 0, .int .i64 0, .bool false], .slice none 0 0] 8 rfl (World.shaped_of_RefB (by kernel_rfl) (by kernel_rfl)) (by kernel_rfl) (by kernel_rfl) (by kernel_rfl) (door5_met os _)) ?_
  intro W base args ds gs before hval0 hW hsz0 hsh
  have hval : ∀ (j : Nat) t v, Tryz.f6.params[j]? = some t → args[j]? = some v → Value.okWide Tryz.prog W .any base t v := hval0
  have hsz : (DataW.weightsEach Tryz.prog (Tryz.f6.params.toList ++ Rows.deskTurnsSpec.plain.varTypes Tryz.prog) (ds ++ gs)).all (· ≤ reachBytes) = true := hsz0
  have hW' := hW
  obtain ⟨p, q, hA0, hV, rfl, hfz, hnd⟩ := hW
  have hA : DataW.TrodAll enc Tryz.prog W 0 (fun _ => true) true Tryz.f6.params.toList args.toList ds p := hA0
  rw [Tryz.params6] at hA hval hsz
  obtain ⟨v0, v1, v2, d0, d1, d2, p0, p1, p2, rfl, rfl, rfl, h0, h1, h2⟩ := trodAll_three hA
  obtain ⟨rfl, rfl⟩ := trodVars_none hV
  clear hA0 hval0 hsz0
  simp only [List.append_nil] at hW'
  have hlt0 : ∀ x ∈ p0, x.block < W.heap.size := fun x hx => hW'.lt x (by simp [hx])
  have hlt1 : ∀ x ∈ p1, x.block < W.heap.size := fun x hx => hW'.lt x (by simp [hx])
  obtain ⟨l, hl, _⟩ := openRules (hval 0 23 v0 rfl rfl) h0 (sized_at hsz (j := 0) rfl rfl)
  obtain ⟨r, kv, nv, rfl, hk1, hn1, _, _⟩ := openRun (hval 1 47 v1 rfl rfl) h1 (sized_at hsz (j := 1) rfl rfl)
  obtain ⟨bs, hb⟩ := openBytes (hval 2 48 v2 rfl rfl) h2 (sized_at hsz (j := 2) rfl rfl)
  have hlt2 : ∀ x ∈ p2, x.block < W.heap.size := fun x hx => hW'.lt x (by simp [hx])
  obtain ⟨mx, hmx⟩ := maxLenN W hsh
  have hmw : 1 < W.heap.size := lt_of_cell hmx
  refine (deskTurnsW l r bs v0 kv nv v2 W hl hk1 hn1 hb mx hmx hmw).mono fun e W' ⟨he, bel⟩ => ?_
  subst he
  refine ⟨_, rfl, _, _, _, [], p0 ++ (p1 ++ p2), [], hW', ?_, ?_, rfl, bel.frame _, fun h => by cases h⟩
  · exact trodAll_mk1 (shut_bool Tryz.underlying4 true)
  · exact trodAll_mk3 (Below.trod laidOutP (by kernel_rfl) (of_decide_eq_true (by kernel_rfl)) h0 bel hlt0) (Below.trod laidOutP (by kernel_rfl) (of_decide_eq_true (by kernel_rfl)) h1 bel hlt1) (Below.trod laidOutP (by kernel_rfl) (of_decide_eq_true (by kernel_rfl)) h2 bel hlt2)

theorem dturns_c7 : (Rows.deskTurnsRow.inPlace == Tryz.prog.inPlace 6) = true := by kernel_rfl

theorem dturns_c8 : (Rows.deskTurnsRow.unfollowed == Tryz.prog.unfollowed 6) = true := by kernel_rfl

theorem dturns_c9 : (Rows.deskTurnsRow.recurses == Tryz.prog.recurses 6) = true := by kernel_rfl

theorem dturns_c10 : (Rows.deskTurnsRow.named == Tryz.prog.varsNamed 6) = true := by kernel_rfl

theorem dturns_c19 : (Rows.deskTurnsRow.lifted == Tryz.prog.liftsFinal) = true := by kernel_rfl

theorem dturns_c20 : (Tryz.prog.make == some Rows.deskTurnsRow.make) = true := by kernel_rfl

theorem dturns_c33 : false = Rows.deskTurnsRow.goesBy Tryz.prog := by kernel_rfl

theorem dturns_c34 : Tryz.prog.funcNamed "corollary/corolaw8.DeskTurns" = some 6 := by kernel_rfl

theorem dturns_closed : joinedFacts Tryz.prog 6 Tryz.f6 Rows.deskTurnsSpec Rows.deskTurnsRow = true :=
  joined_of (by kernel_rfl) laidOutP mapsRowedP (by kernel_rfl) (by kernel_rfl) (by kernel_rfl) dturns_c7 dturns_c8 dturns_c9 dturns_c10 (by kernel_rfl) (by kernel_rfl) (by kernel_rfl) (by kernel_rfl) (by kernel_rfl) (by kernel_rfl) stopsHeardP mayEnterP dturns_c19 dturns_c20 (by kernel_rfl) (by kernel_rfl)

theorem dturns_inst : Tryz.f6.isInstance Tryz.prog Rows.deskTurnsRow.origin Rows.deskTurnsRow.targs := of_decide_eq_true (by kernel_rfl)

theorem dturns_wrap : Tryz.f6.isWrapper Tryz.prog Rows.deskTurnsRow.wrapper Rows.deskTurnsRow.mainSum := by unfold Func.isWrapper; first | (rw [if_pos (by decide +kernel)]; kernel_rfl) | (rw [if_neg (by decide +kernel)]; exact ⟨rfl, rfl⟩)

theorem dturns_said : Rows.DeskTurnsSaid :=
  OpenClaim.holds_of_wide 6 Tryz.f6 rfl rfl rfl rfl rfl rfl rfl ⟨rfl, rfl, rfl, rfl, rfl⟩ rfl rfl rfl rfl rfl dturns_c34 Tryz.func6 dturns_closed dturns_inst dturns_wrap
    (fun os started H enc _ => dturns_lifted os started H enc)

theorem dturns_holds : Rows.DeskTurnsCardSaid :=
  Claim7.holds_tied_plain_at .later [] [.data, .data, .data] true (true, "e76fd24520ba4795eb7a2cecdf2239fb7aed378c08519b991bb398be843b7320") true
    dturns_said (fun _ h => by cases h) (by kernel_rfl) (fun _ h => by cases h) deskTurns_row_tie rfl ⟨rfl, rfl⟩ mainIsP rfl
    (fun f fn hf hfn => by
      obtain rfl : f = 6 := (Option.some.inj (dturns_c34.symm.trans hf)).symm
      obtain rfl : fn = Tryz.f6 := (Option.some.inj (Tryz.func6.symm.trans hfn)).symm
      exact ⟨looksP, fun j t ht => by
        rw [Tryz.params6] at ht
        rcases j with _ | _ | _ | j
        · have h3 : t = 23 := by simpa using ht.symm
          subst h3
          exact (show Tryz.prog.wantsStandIn 23 = false by kernel_rfl)
        · have h3 : t = 47 := by simpa using ht.symm
          subst h3
          exact (show Tryz.prog.wantsStandIn 47 = false by kernel_rfl)
        · have h3 : t = 48 := by simpa using ht.symm
          subst h3
          exact (show Tryz.prog.wantsStandIn 48 = false by kernel_rfl)
        · simp at ht⟩)
    dturns_c33

#print axioms dturns_holds
end Go.Proofs.YtafmbokfkbccaaaGreatDoor
