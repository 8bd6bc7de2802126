/- Texts of this claim, one behind the other. -/
import Derived.Test.YthngiikhgplldaaJC12
import Derived.Test.YthngiikhgplldaaJC9
import Derived.Deep.QuietTactic
import Derived.BigQuiet
import Derived.Test.YthngiikhgplldaaJC3
import Derived.ProofKit
import Derived.SliceStrings
import Derived.Deep.Slices
import Derived.Deep.Strs
import Derived.Lib.SmallJoins
import Derived.SizedLaws
/- The walk of the law CheckTells. -/
namespace Go.Proofs.Ythngiikhgplldaa
open Go.RowKit Go.Sort Go.Maps

set_option maxRecDepth 100000 in
set_option maxHeartbeats 8000000 in
theorem checkTellsW (v : Value) (p : List RuleD) (w : World) (hv : ruleK.sl Anyw w v p) (hk : ∀ r ∈ p, longR r) (hka : ∀ r ∈ p, keyA r.head) :
    Calls Try.prog 3 #[v] w fun e w' => e = .returned (.bool true) ∧ Below w.heap.size w w' := by
  obtain ⟨sa, cap, rfl⟩ := Kind.slice hv
  have hl0 := hv.1.1
  have HV := hide hv
  have HK := hide hk
  have HKA := hide hka
  have HC1 := hide (wrongC p _ w hv)
  clear hv hk hka
  have hne1 := neqFault (wrongP p).1 (wrongP p).2
  go_enter Try.func3, Try.ntmps3
  go_wp2_with fail
  refine HC1.out.mono ?_
  rintro e w1 ⟨rfl, hB1⟩
  have HC2 := hide (rWrongProgram p _ w1 (Kind.sl_below HV.out hB1) HK.out)
  go_wp2_with fail
  refine HC2.out.mono ?_
  rintro e w2 ⟨rfl, hB2⟩
  have HB := hide (below_trans hB1 hB2 hB1.size)
  clear HC1 HC2 hB1 hB2
  go_wp2
  clear hne1
  go_loopg [20] p.length (fun k i wr => ∃ j : Nat, j + k = p.length ∧ i = .int .i64 j ∧ Hid (Below w.heap.size w wr))
  case atStart => exact ⟨0, by omega, rfl, HB⟩
  case round =>
    obtain ⟨j, hj, rfl, HBj⟩ := hrel
    clear HB
    by_cases hlt : j < p.length
    · obtain ⟨r, hr⟩ : ∃ x, p[j]? = some x := ⟨_, List.getElem?_eq_getElem hlt⟩
      obtain ⟨b1, o1, _, rfl, hb1, ⟨sv, su, rfl, hsv, hsu⟩, hcl⟩ := Kind.sl_at HV.out hr
      have d0 : wr.cell? ⟨b1, o1 + j * 4, none⟩ = some (.bool r.head.no) := by rw [HBj.out.cell hb1]; exact hcl 0 _ rfl
      have d1 : wr.cell? ⟨b1, o1 + j * 4 + 1, none⟩ = some (.string (bs r.head.name)) := by rw [HBj.out.cell hb1]; exact hcl 1 _ rfl
      have d2 : wr.cell? ⟨b1, o1 + j * 4 + 2, none⟩ = some sv := by rw [HBj.out.cell hb1]; exact hcl 2 _ rfl
      have d3 : wr.cell? ⟨b1, o1 + j * 4 + 3, none⟩ = some su := by rw [HBj.out.cell hb1]; exact hcl 3 _ rfl
      have hbr : b1 < wr.heap.size := by have := HBj.out.size; omega
      have hkA := HKA.out r (List.mem_of_getElem? hr)
      have hlR := HK.out r (List.mem_of_getElem? hr)
      obtain ⟨a2, c2, rfl⟩ := Kind.slice hsv
      obtain ⟨a3, c3, rfl⟩ := Kind.slice hsu
      have HSV := hide hsv
      have HSU := hide hsu
      have hW1 := HBj.out.alloc HBj.out.size (.cells #[.bool r.head.no, .string (bs r.head.name), .slice a2 r.head.terms.length c2, .slice a3 r.body.length c3] 33)
      have hbox : ∀ w', Below (wr.heap.size + 1) (wr.alloc (.cells #[.bool r.head.no, .string (bs r.head.name), .slice a2 r.head.terms.length c2, .slice a3 r.body.length c3] 33)) w' → w'.cell? ⟨wr.heap.size, 0, none⟩ = some (.bool r.head.no) ∧ w'.cell? ⟨wr.heap.size, 1, none⟩ = some (.string (bs r.head.name)) ∧ w'.cell? ⟨wr.heap.size, 2, none⟩ = some (.slice a2 r.head.terms.length c2) ∧ w'.cell? ⟨wr.heap.size, 3, none⟩ = some (.slice a3 r.body.length c3) ∧ wr.heap.size < w'.heap.size := fun w' k => by
        have hs := k.size
        simp at hs
        refine ⟨?_, ?_, ?_, ?_, by omega⟩ <;> (rw [Below.cell k (by show wr.heap.size < _; omega)]; simp)
      have hBW : ∀ w', Below (wr.heap.size + 1) (wr.alloc (.cells #[.bool r.head.no, .string (bs r.head.name), .slice a2 r.head.terms.length c2, .slice a3 r.body.length c3] 33)) w' → Below w.heap.size w w' := fun w' k => below_trans hW1 k (by have := HBj.out.size; omega)
      have HBX := hide hbox
      have HBW := hide hBW
      have H1 : Hid (∀ x, Below (wr.heap.size + 1) (wr.alloc (.cells #[.bool r.head.no, .string (bs r.head.name), .slice a2 r.head.terms.length c2, .slice a3 r.body.length c3] 33)) x → Calls Try.prog 6 #[.agg #[.bool r.head.no, .string (bs r.head.name), .slice a2 r.head.terms.length c2]] x fun e w' => ∃ u, e = .returned u ∧ strK.own 9 (x.heap.size + 2) w' u (vars r.head) ∧ Below x.heap.size x w') := fun x hx => varsC r.head _ x (Kind.sl_below HSV.out (hBW x hx)) hkA.1 hkA.2
      have H2 : Hid (∀ x, Below (wr.heap.size + 1) (wr.alloc (.cells #[.bool r.head.no, .string (bs r.head.name), .slice a2 r.head.terms.length c2, .slice a3 r.body.length c3] 33)) x → Calls Try.prog 7 #[.agg #[.bool r.head.no, .string (bs r.head.name), .slice a2 r.head.terms.length c2]] x fun e w' => ∃ u, e = .returned u ∧ strK.own 9 (x.heap.size + 2) w' u (vars r.head) ∧ Below x.heap.size x w') := fun x hx => rVars r.head _ x (Kind.sl_below HSV.out (hBW x hx)) hkA.1 hkA.2
      have H3 : Hid (∀ x, Below (wr.heap.size + 1) (wr.alloc (.cells #[.bool r.head.no, .string (bs r.head.name), .slice a2 r.head.terms.length c2, .slice a3 r.body.length c3] 33)) x → Calls Try.prog 8 #[.slice a3 r.body.length c3] x fun e w' => e = .returned (.int .i64 (wrongBody r.body)) ∧ Below x.heap.size x w') := fun x hx => chkBodyC r.body _ x (Kind.sl_below HSU.out (hBW x hx))
      have H4 : Hid (∀ x, Below (wr.heap.size + 1) (wr.alloc (.cells #[.bool r.head.no, .string (bs r.head.name), .slice a2 r.head.terms.length c2, .slice a3 r.body.length c3] 33)) x → Calls Try.prog 9 #[.slice a3 r.body.length c3] x fun e w' => e = .returned (.int .i64 (wrongBody r.body)) ∧ Below x.heap.size x w') := fun x hx => rWrongBody r.body _ x (Kind.sl_below HSU.out (hBW x hx)) hlR.2
      have hvl : (vars r.head).length ≤ 6000000000000 := Nat.le_trans (vars_le r.head) hkA.1
      have hwz := HBj.out.size
      clear hcl hr hsv hsu hkA hlR hW1 hbox hBW HSV HSU
      generalize bs r.head.name = nm at *
      generalize r.head.no = no at *
      generalize vars r.head = vs at *
      generalize wrongBody r.body = wb at *
      go_wp2
      refine wp_region_held_drew (S := fun w' => Below (wr.heap.size + 1) (wr.alloc (.cells #[.bool no, .string nm, .slice a2 r.head.terms.length c2, .slice a3 r.body.length c3] 33)) w') (by kernel_rfl) (by have := (Later.refl (wr.alloc (.cells #[.bool no, .string nm, .slice a2 r.head.terms.length c2, .slice a3 r.body.length c3] 33))).drew.below; rw [World.size_alloc] at this; exact this) (fun hHeld => ?_)
      refine tkY 0 24 hHeld ?_
      refine tkY 1 25 hHeld ?_ rfl fun w hSw => by obtain ⟨q0, q1, q2, q3, q4⟩ := HBX.out w hSw; go_simp; try with_reducible rfl
      refine tkY 3 27 hHeld ?_
      refine tkY 4 28 hHeld ?_ rfl fun w hSw => by obtain ⟨q0, q1, q2, q3, q4⟩ := HBX.out w hSw; go_simp; try with_reducible rfl
      refine tkC 2 fun K hK => ?_
      go_simp
      refine (H1.out _ hHeld).mono ?_
      rintro e y1 ⟨u1, rfl, hO1, hU1⟩
      dsimp only
      have hz1 := (HBX.out _ hHeld).2.2.2.2
      have F1 := hide (Kind.sl_any (Kind.own_sl hO1 (by omega)))
      obtain ⟨ua, uc, rfl⟩ := Kind.own_slice hO1
      clear hO1
      refine hK.out _ _ (below_trans hHeld hU1 (by omega)) (fun hHeld => ?_)
      clear hK K
      refine tkC 5 fun K hK => ?_
      go_simp
      refine (H2.out _ hHeld).mono ?_
      rintro e y2 ⟨u2, rfl, hO2, hU2⟩
      dsimp only
      have hz2 := (HBX.out _ hHeld).2.2.2.2
      have F2 := hide (Kind.sl_any (Kind.own_sl hO2 (by omega)))
      obtain ⟨ub, ud, rfl⟩ := Kind.own_slice hO2
      replace F1 := hide (Kind.sl_below F1.out hU2)
      clear hO2
      refine hK.out _ _ (below_trans hHeld hU2 (by omega)) (fun hHeld => ?_)
      clear hK K
      refine tkY 6 5 hHeld ?_
      refine tkY 7 6 hHeld ?_
      refine wpAnyH_done (by kernel_rfl) ?_ _
      clear hU1 hz1 hU2 hz2
      go_wp2
      refine wp_region_held_drew (S := fun w' => Below (wr.heap.size + 1) (wr.alloc (.cells #[.bool no, .string nm, .slice a2 r.head.terms.length c2, .slice a3 r.body.length c3] 33)) w' ∧ Below y2.heap.size y2 w') (by kernel_rfl) ⟨below_trans hHeld (Later.refl y2).drew.below (by have := (HBX.out _ hHeld).2.2.2.2; omega), (Later.refl y2).drew.below⟩ (fun hHeld => ?_)
      refine tkY 0 30 hHeld ?_
      refine tkY 1 31 hHeld ?_
      refine tkY 2 32 hHeld ?_
      refine tkY 3 33 hHeld ?_
      refine tkY 4 34 hHeld ?_
      refine tkY 5 35 hHeld ?_
      refine tkY 6 36 hHeld ?_
      refine tkY 7 37 hHeld ?_ rfl fun w hSw => by obtain ⟨q0, q1, q2, q3, q4⟩ := HBX.out w hSw.1; go_simp; try with_reducible rfl
      refine tkY 9 39 hHeld ?_
      refine tkY 10 40 hHeld ?_ rfl fun w hSw => by obtain ⟨q0, q1, q2, q3, q4⟩ := HBX.out w hSw.1; go_simp; try with_reducible rfl
      refine tkC 8 fun K hK => ?_
      go_simp
      refine (H3.out _ hHeld.1).mono ?_
      rintro e y3 ⟨rfl, hU3⟩
      dsimp only
      have hz3 := (HBX.out _ hHeld.1).2.2.2.2
      refine hK.out _ _ ⟨below_trans hHeld.1 hU3 (by omega), below_trans hHeld.2 hU3 hHeld.2.size⟩ (fun hHeld => ?_)
      clear hK K
      refine tkC 11 fun K hK => ?_
      go_simp
      refine (H4.out _ hHeld.1).mono ?_
      rintro e y4 ⟨rfl, hU4⟩
      dsimp only
      have hz4 := (HBX.out _ hHeld.1).2.2.2.2
      refine hK.out _ _ ⟨below_trans hHeld.1 hU4 (by omega), below_trans hHeld.2 hU4 hHeld.2.size⟩ (fun hHeld => ?_)
      clear hK K
      refine tkY 12 42 hHeld ?_
      refine tkY 13 43 hHeld ?_
      refine wpAnyH_done (by kernel_rfl) ?_ _
      have G1 := hide (Kind.sl_below F1.out hHeld.2)
      have G2 := hide (Kind.sl_below F2.out hHeld.2)
      have HB4 := hide (HBW.out _ hHeld.1)
      clear hU3 hU4 hz3 hz4 hHeld F1 F2 H1 H2 H3 H4 HBX HBW d0 d1 d2 d3
      go_wp2
      go_loopg [46] vs.length (fun k i wr => ∃ q : Nat, q + k = vs.length ∧ i = .int .i64 q ∧ Hid (Later y4 wr))
      case atStart => exact ⟨0, by omega, rfl, Later.refl _⟩
      case round =>
        obtain ⟨q, hq, rfl, HL⟩ := hrel
        by_cases hlq : q < vs.length
        · obtain ⟨x, hx⟩ : ∃ x, vs[q]? = some x := ⟨_, List.getElem?_eq_getElem hlq⟩
          obtain ⟨b5, o5, _, rfl, hb5, rfl, hc5⟩ := Kind.sl_at (Kind.sl_later G1.out HL.out) hx
          obtain ⟨b6, o6, _, rfl, hb6, rfl, hc6⟩ := Kind.sl_at (Kind.sl_later G2.out HL.out) hx
          have e1 : wr.cell? ⟨b5, o5 + q, none⟩ = some (.string (bs x)) := by simpa [strK] using hc5 0 _ rfl
          have e2 : wr.cell? ⟨b6, o6 + q, none⟩ = some (.string (bs x)) := by simpa [strK] using hc6 0 _ rfl
          have hj1 : (q : Int) < (vs.length : Int) := by omega
          clear hc5 hc6 hx
          generalize bs x = bx at *
          go_wp2
          go_quiet (fail)
          go_wp2
          go_roundg (vs.length - (q + 1))
          case measure => omega
          case rel => exact ⟨q + 1, by omega, by go_num, HL.out.drewN _⟩
        · go_wp2
          go_roundg (p.length - (j + 1))
          case measure => omega
          case rel => exact ⟨j + 1, by omega, by go_num, below_trans HB4.out HL.out.below HB4.out.size⟩
    · have HS1 : Hid (∀ x, Below w.heap.size w x → Calls Try.prog 10 #[.slice sa p.length cap] x fun e w' => ∃ u, e = .returned (.tuple #[u, .agg #[.int .i64 (strataP p).2.1, .int .i64 ((strataP p).2.2 : Nat)]]) ∧ intK.sl (From x.heap.size) w' u (strataP p).1 ∧ Below x.heap.size x w') := fun x hx => strataC p _ x (Kind.sl_below HV.out hx)
      have HS2 : Hid (∀ x, Below w.heap.size w x → Calls Try.prog 11 #[.slice sa p.length cap] x fun e w' => ∃ u, e = .returned (.tuple #[u, .agg #[.int .i64 (strataP p).2.1, .int .i64 ((strataP p).2.2 : Nat)]]) ∧ intK.sl (From x.heap.size) w' u (strataP p).1 ∧ Below x.heap.size x w') := fun x hx => rStrata p _ x (Kind.sl_below HV.out hx) HK.out
      generalize strataP p = sp at *
      obtain ⟨ls, se, sn⟩ := sp
      dsimp only at *
      have hne := neqFault se (sn : Int)
      go_wp2_with fail
      refine (HS1.out _ HBj.out).mono ?_
      rintro e w3 ⟨u3, rfl, hU3, hB3⟩
      have hw3 := HBj.out.size
      have hs3 := hB3.size
      have hll := hU3.1.1
      have F3 := hide (Kind.sl_any hU3)
      obtain ⟨xa, xc, rfl⟩ := Kind.slice hU3
      have hBa : Below w.heap.size w (w3.alloc (.cells #[.int .i64 se, .int .i64 (sn : Int)] 26)) := (below_trans HBj.out hB3 hw3).alloc (by omega) _
      clear hU3 hB3 HS1
      go_wp2_with fail
      refine (HS2.out _ hBa).mono ?_
      rintro e w4 ⟨u4, rfl, hU4, hB4⟩
      have hs4 := hB4.size
      simp only [World.size_alloc] at hs4
      have q0 : w4.cell? ⟨w3.heap.size, 0, none⟩ = some (.int .i64 se) := by rw [Below.cell hB4 (by simp)]; simp
      have q1 : w4.cell? ⟨w3.heap.size, 1, none⟩ = some (.int .i64 (sn : Int)) := by rw [Below.cell hB4 (by simp)]; simp
      have hB5 : Below w3.heap.size w3 w4 := below_trans ((Later.refl w3).alloc _).below hB4 (by simp)
      have G3 := hide (Kind.sl_below (Kind.sl_below F3.out hB5) ((Later.refl w4).alloc (.cells #[.int .i64 se, .int .i64 (sn : Int)] 26)).below)
      have G4 := hide (Kind.sl_below (Kind.sl_any hU4) ((Later.refl w4).alloc (.cells #[.int .i64 se, .int .i64 (sn : Int)] 26)).below)
      obtain ⟨ya, yc, rfl⟩ := Kind.slice hU4
      have HB6 : Hid (Below w.heap.size w (w4.alloc (.cells #[.int .i64 se, .int .i64 (sn : Int)] 26))) := (below_trans hBa hB4 (by simp; omega)).alloc (by omega) _
      have hq4 : w3.heap.size < w4.heap.size := by omega
      clear hU4 hB4 hB5 hBa F3 HS2
      go_wp2
      go_loopg [82] ls.length (fun k i wr => ∃ q : Nat, q + k = ls.length ∧ i = .int .i64 q ∧ Hid (Later (w4.alloc (.cells #[.int .i64 se, .int .i64 (sn : Int)] 26)) wr))
      case atStart => exact ⟨0, by omega, rfl, Later.refl _⟩
      case round =>
        obtain ⟨q, hq, rfl, HL⟩ := hrel
        by_cases hlq : q < ls.length
        · obtain ⟨x, hx⟩ : ∃ x, ls[q]? = some x := ⟨_, List.getElem?_eq_getElem hlq⟩
          obtain ⟨b5, o5, _, rfl, hb5, rfl, hc5⟩ := Kind.sl_at (Kind.sl_later G3.out HL.out) hx
          obtain ⟨b6, o6, _, rfl, hb6, rfl, hc6⟩ := Kind.sl_at (Kind.sl_later G4.out HL.out) hx
          have e1 : wr.cell? ⟨b5, o5 + q, none⟩ = some (.int .i64 (x : Int)) := by simpa [intK] using hc5 0 _ rfl
          have e2 : wr.cell? ⟨b6, o6 + q, none⟩ = some (.int .i64 (x : Int)) := by simpa [intK] using hc6 0 _ rfl
          have hj1 : (q : Int) < (ls.length : Int) := by omega
          clear hc5 hc6 hx hne q0 q1
          go_wp2
          go_quiet (fail)
          go_wp2
          go_roundg (ls.length - (q + 1))
          case measure => omega
          case rel => exact ⟨q + 1, by omega, by go_num, HL.out.drewN _⟩
        · clear hne q0 q1
          go_wp2
          go_ret
          exact ⟨rfl, below_trans HB6.out HL.out.below HB6.out.size⟩

end Go.Proofs.Ythngiikhgplldaa

/- Programs among a call's arguments, opened: how they lie in memory, and that no list of theirs is longer than the form's reach, no text longer than Go's. -/
namespace Go.Proofs.Ythngiikhgplldaa
open Go.RowKit Go.Sort Go.ChangeShapes Go.WideShapes Go.ChangeAt Go.Deep

variable {H : Type} {enc : TypeId × Value → H} {W : World}

theorem ownP : ownKnob Try.prog.godebug = none := by kernel_rfl
theorem laidOutP : laidOutB Try.prog = true := by kernel_rfl
theorem cellsStrP : Try.prog.cellsOf 9 = 1 := by kernel_rfl
theorem addr_plainP {a : Addr} {v : Value} (h : W.cell? (a.add 0) = some v) : ∃ b off, a = ⟨b, off, none⟩ := by
  obtain ⟨b, off, spot⟩ := a
  have hspot : spot = none := by simpa [Addr.add] using World.cell?_spot h
  subst hspot
  exact ⟨b, off, rfl⟩

/-- Each list within reach. -/
def Sized (t : TypeId) (d : DataW H) : Prop := (d.weights Try.prog t).all (· ≤ reachBytes) = true
/-- How a type's values are opened. -/
def Opens {α : Type} (enc : TypeId × Value → H) (W : World) (ty : TypeId) (K : Kind α) (ok : α → Prop) : Prop :=
  ∀ n cs x, DataW.trod enc Try.prog W 0 (fun _ => true) true n ty cs = some x → Sized ty x.1 → ∃ a, K.is Anyw W cs a ∧ ok a

theorem sized_all {e : TypeId} {l : List (DataW H)} (h : (DataW.weightsAll Try.prog e l).all (· ≤ reachBytes) = true) : ∀ d ∈ l, Sized e d := by
  induction l with
  | nil => intro d hd; cases hd
  | cons x r ih =>
    simp only [DataW.weightsAll, List.all_append, Bool.and_eq_true] at h
    intro d hd
    rcases List.mem_cons.1 hd with rfl | hd
    · exact h.1
    · exact ih h.2 d hd

set_option maxRecDepth 100000 in
theorem openSlB {α : Type} {K : Kind α} {T ty : TypeId} {ok : α → Prop} (hT : Try.prog.underlying T = some (.slice ty)) (hc : Try.prog.cellsOf ty = K.size) (hby : 16 ≤ Try.prog.bytesOf ty) (hsz : 0 < K.size) (E : Opens enc W ty K ok)
    {n : Nat} {v : Value} {x : DataW H × List MemPlace} (hf : DataW.trod enc Try.prog W 0 (fun _ => true) true n T [v] = some x) (hw : Sized T x.1) : ∃ l, K.sl Anyw W v l ∧ (∀ a ∈ l, ok a) ∧ l.length * Try.prog.bytesOf ty ≤ reachBytes := by
  rcases open_slice hT hf with ⟨hcs, _⟩ | ⟨a, len, cap, m, k, D, Pl, hcs, _, hl, hm, hmm, hx, hel⟩
  · simp only [List.cons.injEq, and_true] at hcs
    exact ⟨[], by rw [hcs]; exact K.sl_nil _ _ _ _, fun a ha => (by cases ha), by simp⟩
  · simp only [List.cons.injEq, and_true] at hcs
    simp only [if_true] at hmm
    subst hmm
    rw [hc] at hel
    have hd : x.1 = .slice ((List.range len).map D) ((List.range (m - len)).map fun j => D (len + j)) := by rw [hx]
    have hw2 : (decide ((len + (m - len)) * Try.prog.bytesOf ty ≤ reachBytes) && ((DataW.weightsAll Try.prog ty ((List.range len).map D)).all (· ≤ reachBytes) && (DataW.weightsAll Try.prog ty ((List.range (m - len)).map fun j => D (len + j))).all (· ≤ reachBytes))) = true := by
      have := hw
      unfold Sized at this
      rw [hd, DataW.weights, hT] at this
      simpa using this
    simp only [Bool.and_eq_true] at hw2
    have hlen : len ≤ 8796093022208 := by
      have h1 : (len + (m - len)) * Try.prog.bytesOf ty ≤ reachBytes := of_decide_eq_true hw2.1
      have h2 : len * 16 ≤ (len + (m - len)) * Try.prog.bytesOf ty := Nat.mul_le_mul (by omega) hby
      unfold reachBytes at h1
      omega
    have each : ∀ i : Fin len, ∃ z : α, ∃ cs', W.cells? 0 (a.add (i.1 * K.size)) K.size = some cs' ∧ K.is Anyw W cs' z ∧ ok z := fun i => by
      obtain ⟨cs', k1, k2⟩ := hel i.1 (by omega)
      obtain ⟨z, hz, hk⟩ := E _ _ _ k2 (sized_all hw2.2.1 _ (List.mem_map.2 ⟨i.1, List.mem_range.2 i.2, rfl⟩))
      exact ⟨z, cs', k1, hz, hk⟩
    refine ⟨List.ofFn fun i => Classical.choose (each i), ⟨⟨by simpa using hlen, ?_⟩, some a, m, by rw [hcs]; simp, fun hne => ?_⟩, fun z hz => ?_, ?_⟩
    · rw [hcs]; show len ≤ m; omega
    rotate_left
    rotate_left
    · have h1 : (len + (m - len)) * Try.prog.bytesOf ty ≤ reachBytes := of_decide_eq_true hw2.1
      rw [List.length_ofFn]
      exact Nat.le_trans (Nat.mul_le_mul_right _ (by omega)) h1
    rotate_left
    · rw [List.mem_ofFn] at hz
      obtain ⟨i, rfl⟩ := hz
      obtain ⟨_, _, _, hok⟩ := Classical.choose_spec (each i)
      exact hok
    have h0 : 0 < len := by
      refine Nat.pos_of_ne_zero fun e => hne ?_
      subst e; rfl
    have first : ∀ i : Fin len, ∀ cs', W.cells? 0 (a.add (i.1 * K.size)) K.size = some cs' → ∀ j u, cs'[j]? = some u → W.cell? ((a.add (i.1 * K.size)).add j) = some u := fun i cs' k1 j u hu => by
      obtain ⟨h1, _, hcell⟩ := World.cells?_some k1
      have hj : j < cs'.length := (List.getElem?_eq_some_iff.1 hu).1
      have := hcell j (by omega)
      rw [this]; exact hu
    have hplain : ∃ b off, a = ⟨b, off, none⟩ := by
      obtain ⟨cs', k0, k1, _⟩ := Classical.choose_spec (each ⟨0, h0⟩)
      have hl := K.len k1
      have hu : cs'[0]? = some (cs'[0]'(by omega)) := List.getElem?_eq_getElem (by omega)
      have := first ⟨0, h0⟩ cs' k0 0 _ hu
      exact addr_plainP (W := W) (v := cs'[0]'(by omega)) (by simpa [Addr.add] using this)
    obtain ⟨b, off, rfl⟩ := hplain
    have hlt : b < W.heap.size := by
      obtain ⟨cs', k0, k1, _⟩ := Classical.choose_spec (each ⟨0, h0⟩)
      have hl := K.len k1
      have hu : cs'[0]? = some (cs'[0]'(by omega)) := List.getElem?_eq_getElem (by omega)
      have := first ⟨0, h0⟩ cs' k0 0 _ hu
      rw [Addr.add_lit, Addr.add_lit] at this
      exact World.block_lt_of_cell? W _ this
    refine ⟨b, off, rfl, trivial, hlt, fun i z hi => ?_⟩
    have hi' : i < len := by simpa using (List.getElem?_eq_some_iff.1 hi).1
    rw [List.getElem?_ofFn, dif_pos hi'] at hi
    injection hi with hi
    subst hi
    obtain ⟨cs', k0, k1, _⟩ := Classical.choose_spec (each ⟨i, hi'⟩)
    refine ⟨cs', k1, fun j u hu => ?_⟩
    have := first ⟨i, hi'⟩ cs' k0 j u hu
    rw [Addr.add_lit, Addr.add_lit] at this
    exact this

theorem openSl {α : Type} {K : Kind α} {T ty : TypeId} {ok : α → Prop} (hT : Try.prog.underlying T = some (.slice ty)) (hc : Try.prog.cellsOf ty = K.size) (hby : 16 ≤ Try.prog.bytesOf ty) (hsz : 0 < K.size) (E : Opens enc W ty K ok)
    {n : Nat} {v : Value} {x : DataW H × List MemPlace} (hf : DataW.trod enc Try.prog W 0 (fun _ => true) true n T [v] = some x) (hw : Sized T x.1) : ∃ l, K.sl Anyw W v l ∧ ∀ a ∈ l, ok a := by
  obtain ⟨l, h1, h2, _⟩ := openSlB hT hc hby hsz E hf hw
  exact ⟨l, h1, h2⟩

/-- No text is longer than Go's. -/
def okT (t : TermD) : Prop := t.2.length ≤ maxLen
def okA (a : AtomD) : Prop := a.name.length ≤ maxLen ∧ ∀ t ∈ a.terms, okT t
def okR (r : RuleD) : Prop := okA r.head ∧ ∀ a ∈ r.body, okA a

theorem cellsTerm : Try.prog.cellsOf 51 = 2 := by kernel_rfl
theorem cellsTerms : Try.prog.cellsOf 28 = 1 := by kernel_rfl
theorem cellsAtom : Try.prog.cellsOf 30 = 3 := by kernel_rfl
theorem cellsAtoms : Try.prog.cellsOf 31 = 1 := by kernel_rfl
theorem cellsBool : Try.prog.cellsOf 4 = 1 := by kernel_rfl
theorem bytesTerm : Try.prog.bytesOf 51 = 24 := by kernel_rfl
theorem bytesAtom : Try.prog.bytesOf 30 = 48 := by kernel_rfl

theorem cellsRule : Try.prog.cellsOf 33 = 4 := by kernel_rfl
theorem bytesRule : Try.prog.bytesOf 33 = 72 := by kernel_rfl

set_option maxRecDepth 100000 in
theorem opensTerm : Opens enc W 51 termK okT := by
  intro n cs x h _
  obtain ⟨y0, y1, m, hx, hl, h0, h1⟩ := trod_struct2 Try.underlying51 h
  rw [cellsTerm] at hl
  match cs, hl with
  | [c0, c1], _ =>
    have e0 : Try.prog.cellsOf 4 = 1 := cellsBool
    have e1 : Try.prog.cellsOf 9 = 1 := cellsStrP
    simp only [e0, e1, List.drop_zero, List.drop_succ_cons, List.take_succ_cons, List.take_zero] at h0 h1
    obtain ⟨b, hb, _⟩ := DataW.trod_bool Try.underlying4 h0
    obtain ⟨s, hs, _, hsz⟩ := DataW.trod_string Try.underlying9 h1
    simp only [List.cons.injEq, and_true] at hb hs
    exact ⟨(b, raw s), by show [c0, c1] = _; rw [hb, hs, bs_raw], by show (raw s).length ≤ _; rw [length_raw]; exact hsz⟩

set_option maxRecDepth 100000 in
theorem opensAtom : Opens enc W 30 atomK okA := by
  intro n cs x h hw
  obtain ⟨y0, y1, y2, m, hx, hl, h0, h1, h2⟩ := trod_struct3 Try.underlying30 h
  rw [cellsAtom] at hl
  match cs, hl with
  | [c0, c1, c2], _ =>
    have e0 : Try.prog.cellsOf 4 = 1 := cellsBool
    have e1 : Try.prog.cellsOf 9 = 1 := cellsStrP
    have e2 : Try.prog.cellsOf 28 = 1 := cellsTerms
    simp only [e0, e1, e2, List.drop_zero, List.drop_succ_cons, List.take_succ_cons, List.take_zero] at h0 h1 h2
    obtain ⟨b, hb, _⟩ := DataW.trod_bool Try.underlying4 h0
    obtain ⟨s, hs, _, hsz⟩ := DataW.trod_string Try.underlying9 h1
    simp only [List.cons.injEq, and_true] at hb hs
    have hw2 : Sized 28 y2.1 := by
      unfold Sized at hw ⊢
      rw [hx, DataW.weights, Try.underlying30] at hw
      simp only [List.map_cons, List.map_nil, DataW.weightsEach, List.all_append, Bool.and_eq_true] at hw
      exact hw.2.2.1
    obtain ⟨l, hl, hlk⟩ := openSl Try.underlying28 cellsTerm (by rw [bytesTerm]; decide) (by decide) opensTerm h2 hw2
    exact ⟨⟨b, raw s, l⟩, ⟨c2, by show [c0, c1, c2] = _; rw [hb, hs, bs_raw], hl⟩, by show (raw s).length ≤ _; rw [length_raw]; exact hsz, hlk⟩

/-- What the form's reach says of an argument. -/
theorem sized_at {ts : List TypeId} {ds : List (DataW H)} (h : (DataW.weightsEach Try.prog ts ds).all (· ≤ reachBytes) = true) {j : Nat} {t : TypeId} {d : DataW H} (ht : ts[j]? = some t) (hd : ds[j]? = some d) : Sized t d :=
  List.all_eq_true.2 fun k hk => List.all_eq_true.1 h _ (DataW.weights_mem_each ht hd k hk)

end Go.Proofs.Ythngiikhgplldaa
