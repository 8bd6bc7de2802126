/- DeskResumes: a run that is saved behind so many rounds, read again, and gone on with, knows in the end what it would have known. Whatever program, facts and number are handed in (each list within the form's own reach), in whatever memory, the listed variables being as the program's text lays them: the call returns true and what was handed in reads as it did. The card ties that to the program's text. -/
import Derived.Test.YtafmbokfkbccaaaGreatDoorJ31
import Derived.Test.YtafmbokfkbccaaaGreatDoorJ32
import Derived.Test.YtafmbokfkbccaaaGreatDoorRows
import Derived.Test.YtafmbokfkbccaaaGreatDoorCards
import Derived.Test.YtafmbokfkbccaaaGreatDoorTie
import Derived.SevenTiedAt
namespace Go.Proofs.YtafmbokfkbccaaaGreatDoor
open Go.ChangeShapes Go.WideShapes Go.ChangeAt Go.RowKit

set_option maxRecDepth 100000 in
theorem dresumes_lifted (os : Os) (started : os.Started) (H : Type) (enc : TypeId × Value → H) :
    ReturnsInHanded {} Tryz.checked os 7 .any (fun w args => (Rows.deskResumesSpec.pre enc Tryz.prog Tryz.f7 [] false w args ∧ laidMetH Tryz.prog laid5 w) ∧ sizedMet enc Tryz.prog Tryz.f7 (OpenSpec.ofChange Rows.deskResumesSpec) false w args)
      (Rows.deskResumesSpec.post enc Tryz.prog Tryz.f7 false true false false) := by
  refine handed_laid (C := Tryz.checked) (X := fun w _ => laidMetH Tryz.prog laid5 w) ownP started (by kernel_rfl) Tryz.func7
    (ChangeSpec.witness_shaped (enc := enc) (C := Tryz.checked) (os := os) (X := fun w _ => laidMetH Tryz.prog laid5 w) false (World.doorLaid Tryz.prog 1000 os) #[.slice none 0 0, .slice none 0 0, .int .i64 0] 8 rfl (World.shaped_of_RefB (by kernel_rfl) (by kernel_rfl)) (by kernel_rfl) (by kernel_rfl) (by kernel_rfl) (door5_met os _)) ?_
  intro W base args ds gs before hval0 hW hsz0 hsh
  have hval : ∀ (j : Nat) t v, Tryz.f7.params[j]? = some t → args[j]? = some v → Value.okWide Tryz.prog W .any base t v := hval0
  have hsz : (DataW.weightsEach Tryz.prog (Tryz.f7.params.toList ++ Rows.deskResumesSpec.plain.varTypes Tryz.prog) (ds ++ gs)).all (· ≤ reachBytes) = true := hsz0
  have hW' := hW
  obtain ⟨p, q, hA0, hV, rfl, hfz, hnd⟩ := hW
  have hA : DataW.TrodAll enc Tryz.prog W 0 (fun _ => true) true Tryz.f7.params.toList args.toList ds p := hA0
  rw [Tryz.params7] at hA hval hsz
  obtain ⟨v0, v1, v2, d0, d1, d2, p0, p1, p2, rfl, rfl, rfl, h0, h1, h2⟩ := trodAll_three hA
  obtain ⟨rfl, rfl⟩ := trodVars_none hV
  clear hA0 hval0 hsz0
  simp only [List.append_nil] at hW'
  have hlt0 : ∀ x ∈ p0, x.block < W.heap.size := fun x hx => hW'.lt x (by simp [hx])
  have hlt1 : ∀ x ∈ p1, x.block < W.heap.size := fun x hx => hW'.lt x (by simp [hx])
  obtain ⟨l, hl, _⟩ := openRules (hval 0 23 v0 rfl rfl) h0 (sized_at hsz (j := 0) rfl rfl)
  obtain ⟨fs, hf, _⟩ := openFactsS (hval 1 24 v1 rfl rfl) h1 (sized_at hsz (j := 1) rfl rfl)
  obtain ⟨n, rfl, rfl, rfl, wn⟩ := open_int Tryz.underlying3 (hval 2 3 v2 rfl rfl) h2
  obtain ⟨mx, hmx⟩ := maxLenN W hsh
  have hmw : 1 < W.heap.size := lt_of_cell hmx
  refine (deskResumesW l fs n v0 v1 W hl hf mx hmx hmw).mono fun e W' ⟨he, bel⟩ => ?_
  subst he
  refine ⟨_, rfl, _, _, _, [], p0 ++ (p1 ++ []), [], hW', ?_, ?_, rfl, bel.frame _, fun h => by cases h⟩
  · exact trodAll_mk1 (shut_bool Tryz.underlying4 true)
  · exact trodAll_mk3 (Below.trod laidOutP (by kernel_rfl) (of_decide_eq_true (by kernel_rfl)) h0 bel hlt0) (Below.trod laidOutP (by kernel_rfl) (of_decide_eq_true (by kernel_rfl)) h1 bel hlt1) (shut_int Tryz.underlying3 wn)

theorem dresumes_c7 : (Rows.deskResumesRow.inPlace == Tryz.prog.inPlace 7) = true := by kernel_rfl

theorem dresumes_c8 : (Rows.deskResumesRow.unfollowed == Tryz.prog.unfollowed 7) = true := by kernel_rfl

theorem dresumes_c9 : (Rows.deskResumesRow.recurses == Tryz.prog.recurses 7) = true := by kernel_rfl

theorem dresumes_c10 : (Rows.deskResumesRow.named == Tryz.prog.varsNamed 7) = true := by kernel_rfl

theorem dresumes_c19 : (Rows.deskResumesRow.lifted == Tryz.prog.liftsFinal) = true := by kernel_rfl

theorem dresumes_c20 : (Tryz.prog.make == some Rows.deskResumesRow.make) = true := by kernel_rfl

theorem dresumes_c33 : false = Rows.deskResumesRow.goesBy Tryz.prog := by kernel_rfl

theorem dresumes_c34 : Tryz.prog.funcNamed "corollary/corolaw8.DeskResumes" = some 7 := by kernel_rfl

theorem dresumes_closed : joinedFacts Tryz.prog 7 Tryz.f7 Rows.deskResumesSpec Rows.deskResumesRow = true :=
  joined_of (by kernel_rfl) laidOutP mapsRowedP (by kernel_rfl) (by kernel_rfl) (by kernel_rfl) dresumes_c7 dresumes_c8 dresumes_c9 dresumes_c10 (by kernel_rfl) (by kernel_rfl) (by kernel_rfl) (by kernel_rfl) (by kernel_rfl) (by kernel_rfl) stopsHeardP mayEnterP dresumes_c19 dresumes_c20 (by kernel_rfl) (by kernel_rfl)

theorem dresumes_inst : Tryz.f7.isInstance Tryz.prog Rows.deskResumesRow.origin Rows.deskResumesRow.targs := of_decide_eq_true (by kernel_rfl)

theorem dresumes_wrap : Tryz.f7.isWrapper Tryz.prog Rows.deskResumesRow.wrapper Rows.deskResumesRow.mainSum := by unfold Func.isWrapper; first | (rw [if_pos (by decide +kernel)]; kernel_rfl) | (rw [if_neg (by decide +kernel)]; exact ⟨rfl, rfl⟩)

theorem dresumes_said : Rows.DeskResumesSaid :=
  OpenClaim.holds_of_wide 7 Tryz.f7 rfl rfl rfl rfl rfl rfl rfl ⟨rfl, rfl, rfl, rfl, rfl⟩ rfl rfl rfl rfl rfl dresumes_c34 Tryz.func7 dresumes_closed dresumes_inst dresumes_wrap
    (fun os started H enc _ => dresumes_lifted os started H enc)

theorem dresumes_holds : Rows.DeskResumesCardSaid :=
  Claim7.holds_tied_plain_at .later [] [.data, .data, .data] true (true, "e76fd24520ba4795eb7a2cecdf2239fb7aed378c08519b991bb398be843b7320") true
    dresumes_said (fun _ h => by cases h) (by kernel_rfl) (fun _ h => by cases h) deskResumes_row_tie rfl ⟨rfl, rfl⟩ mainIsP rfl
    (fun f fn hf hfn => by
      obtain rfl : f = 7 := (Option.some.inj (dresumes_c34.symm.trans hf)).symm
      obtain rfl : fn = Tryz.f7 := (Option.some.inj (Tryz.func7.symm.trans hfn)).symm
      exact ⟨looksP, fun j t ht => by
        rw [Tryz.params7] at ht
        rcases j with _ | _ | _ | j
        · have h3 : t = 23 := by simpa using ht.symm
          subst h3
          exact (show Tryz.prog.wantsStandIn 23 = false by kernel_rfl)
        · have h3 : t = 24 := by simpa using ht.symm
          subst h3
          exact (show Tryz.prog.wantsStandIn 24 = false by kernel_rfl)
        · have h3 : t = 3 := by simpa using ht.symm
          subst h3
          exact (show Tryz.prog.wantsStandIn 3 = false by kernel_rfl)
        · simp at ht⟩)
    dresumes_c33

#print axioms dresumes_holds
end Go.Proofs.YtafmbokfkbccaaaGreatDoor
