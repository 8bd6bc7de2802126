/- TopRoads: there is a way just where roads lead, one behind the other; and two towns are cut off just where there is none. Whatever number of towns and whatever roads are handed in (each list within the form's own reach), in whatever memory, the listed variables being as the program's text lays them: the call returns true and what was handed in reads as it did. The card ties that to the program's text. -/
import Derived.Test.YtafmbokfkbccaaaGreatDoorJR26
import Derived.Test.YtafmbokfkbccaaaGreatDoorJR27
import Derived.Test.YtafmbokfkbccaaaGreatDoorJR28
import Derived.Test.YtafmbokfkbccaaaGreatDoorRows
import Derived.Test.YtafmbokfkbccaaaGreatDoorCards
import Derived.Test.YtafmbokfkbccaaaGreatDoorTie
import Derived.SevenTiedAt
namespace Go.Proofs.YtafmbokfkbccaaaGreatDoor
open Go.ChangeShapes Go.WideShapes Go.ChangeAt Go.RowKit

set_option maxRecDepth 100000 in
theorem roads_lifted (os : Os) (started : os.Started) (H : Type) (enc : TypeId × Value → H) :
    ReturnsInHanded {} Tryz.checked os 11 .any (fun w args => (Rows.topRoadsSpec.pre enc Tryz.prog Tryz.f11 [] false w args ∧ laidMetH Tryz.prog laid5 w) ∧ sizedMet enc Tryz.prog Tryz.f11 (OpenSpec.ofChange Rows.topRoadsSpec) false w args)
      (Rows.topRoadsSpec.post enc Tryz.prog Tryz.f11 false true false false) := by
  refine handed_laid (C := Tryz.checked) (X := fun w _ => laidMetH Tryz.prog laid5 w) ownP started (by kernel_rfl) Tryz.func11
    (ChangeSpec.witness_shaped (enc := enc) (C := Tryz.checked) (os := os) (X := fun w _ => laidMetH Tryz.prog laid5 w) false (World.doorLaid Tryz.prog 1000 os) #[.int .i64 0, .slice none 0 0, .slice none 0 0] 8 rfl (World.shaped_of_RefB (by kernel_rfl) (by kernel_rfl)) (by kernel_rfl) (by kernel_rfl) (by kernel_rfl) (door5_met os _)) ?_
  intro W base args ds gs before hval0 hW hsz0 hsh
  have hval : ∀ (j : Nat) t v, Tryz.f11.params[j]? = some t → args[j]? = some v → Value.okWide Tryz.prog W .any base t v := hval0
  have hW' := hW
  obtain ⟨p, q, hA0, hV, rfl, hfz, hnd⟩ := hW
  have hA : DataW.TrodAll enc Tryz.prog W 0 (fun _ => true) true Tryz.f11.params.toList args.toList ds p := hA0
  rw [Tryz.params11] at hA hval
  obtain ⟨v0, v1, v2, d0, d1, d2, p0, p1, p2, rfl, rfl, rfl, h0, h1, h2⟩ := trodAll_three hA
  obtain ⟨rfl, rfl⟩ := trodVars_none hV
  clear hA0 hval0 hsz0
  simp only [List.append_nil] at hW'
  have hlt1 : ∀ x ∈ p1, x.block < W.heap.size := fun x hx => hW'.lt x (by simp [hx])
  have hlt2 : ∀ x ∈ p2, x.block < W.heap.size := fun x hx => hW'.lt x (by simp [hx])
  obtain ⟨n, rfl, rfl, rfl, wn⟩ := open_int Tryz.underlying3 (hval 0 3 v0 rfl rfl) h0
  obtain ⟨g1, n1, hi1⟩ := openInts (hval 1 39 v1 rfl rfl) h1
  obtain ⟨g2, n2, hi2⟩ := openInts (hval 2 39 v2 rfl rfl) h2
  obtain ⟨mx, hmx⟩ := maxLenN W hsh
  refine (topRoadsW n v1 v2 g1 g2 n1 n2 W mx hmx hi1 hi2).mono fun e W' ⟨he, bel⟩ => ?_
  subst he
  refine ⟨_, rfl, _, _, _, [], [] ++ (p1 ++ p2), [], hW', ?_, ?_, rfl, bel.frame _, fun h => by cases h⟩
  · exact trodAll_mk1 (shut_bool Tryz.underlying4 true)
  · exact trodAll_mk3 (shut_int Tryz.underlying3 wn) (Below.trod laidOutP (by kernel_rfl) (of_decide_eq_true (by kernel_rfl)) h1 bel hlt1) (Below.trod laidOutP (by kernel_rfl) (of_decide_eq_true (by kernel_rfl)) h2 bel hlt2)

theorem roads_c7 : (Rows.topRoadsRow.inPlace == Tryz.prog.inPlace 11) = true := by kernel_rfl

theorem roads_c8 : (Rows.topRoadsRow.unfollowed == Tryz.prog.unfollowed 11) = true := by kernel_rfl

theorem roads_c9 : (Rows.topRoadsRow.recurses == Tryz.prog.recurses 11) = true := by kernel_rfl

theorem roads_c10 : (Rows.topRoadsRow.named == Tryz.prog.varsNamed 11) = true := by kernel_rfl

theorem roads_c19 : (Rows.topRoadsRow.lifted == Tryz.prog.liftsFinal) = true := by kernel_rfl

theorem roads_c20 : (Tryz.prog.make == some Rows.topRoadsRow.make) = true := by kernel_rfl

theorem roads_c33 : false = Rows.topRoadsRow.goesBy Tryz.prog := by kernel_rfl

theorem roads_c34 : Tryz.prog.funcNamed "corollary/corotop.TopRoads" = some 11 := by kernel_rfl

theorem roads_closed : joinedFacts Tryz.prog 11 Tryz.f11 Rows.topRoadsSpec Rows.topRoadsRow = true :=
  joined_of (by kernel_rfl) laidOutP mapsRowedP (by kernel_rfl) (by kernel_rfl) (by kernel_rfl) roads_c7 roads_c8 roads_c9 roads_c10 (by kernel_rfl) (by kernel_rfl) (by kernel_rfl) (by kernel_rfl) (by kernel_rfl) (by kernel_rfl) stopsHeardP mayEnterP roads_c19 roads_c20 (by kernel_rfl) (by kernel_rfl)

theorem roads_inst : Tryz.f11.isInstance Tryz.prog Rows.topRoadsRow.origin Rows.topRoadsRow.targs := of_decide_eq_true (by kernel_rfl)

theorem roads_wrap : Tryz.f11.isWrapper Tryz.prog Rows.topRoadsRow.wrapper Rows.topRoadsRow.mainSum := by unfold Func.isWrapper; first | (rw [if_pos (by decide +kernel)]; kernel_rfl) | (rw [if_neg (by decide +kernel)]; exact ⟨rfl, rfl⟩)

theorem roads_said : Rows.TopRoadsSaid :=
  OpenClaim.holds_of_wide 11 Tryz.f11 rfl rfl rfl rfl rfl rfl rfl ⟨rfl, rfl, rfl, rfl, rfl⟩ rfl rfl rfl rfl rfl roads_c34 Tryz.func11 roads_closed roads_inst roads_wrap
    (fun os started H enc _ => roads_lifted os started H enc)

theorem roads_holds : Rows.TopRoadsCardSaid :=
  Claim7.holds_tied_plain_at .later [] [.data, .data, .data] true (true, "e76fd24520ba4795eb7a2cecdf2239fb7aed378c08519b991bb398be843b7320") true
    roads_said (fun _ h => by cases h) (by kernel_rfl) (fun _ h => by cases h) topRoads_row_tie rfl ⟨rfl, rfl⟩ mainIsP rfl
    (fun f fn hf hfn => by
      obtain rfl : f = 11 := (Option.some.inj (roads_c34.symm.trans hf)).symm
      obtain rfl : fn = Tryz.f11 := (Option.some.inj (Tryz.func11.symm.trans hfn)).symm
      exact ⟨looksP, fun j t ht => by
        rw [Tryz.params11] at ht
        rcases j with _ | _ | _ | j
        · have h3 : t = 3 := by simpa using ht.symm
          subst h3
          exact (show Tryz.prog.wantsStandIn 3 = false by kernel_rfl)
        · have h3 : t = 39 := by simpa using ht.symm
          subst h3
          exact (show Tryz.prog.wantsStandIn 39 = false by kernel_rfl)
        · have h3 : t = 39 := by simpa using ht.symm
          subst h3
          exact (show Tryz.prog.wantsStandIn 39 = false by kernel_rfl)
        · simp at ht⟩)
    roads_c33

#print axioms roads_holds
end Go.Proofs.YtafmbokfkbccaaaGreatDoor
