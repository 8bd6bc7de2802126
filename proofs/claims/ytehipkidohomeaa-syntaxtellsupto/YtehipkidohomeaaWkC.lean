/- The walk of the reference's Walk.Atom. -/
import Derived.Test.YtehipkidohomeaaWkA
namespace Go.Proofs.Ytehipkidohomeaa
open Go.RowKit Go.Sort

theorem atomX_bad {no : Bool} {l : Bs} {n : Int} {r : Bs} (h : word (fitsW false) l = .bad n r) : atomX no l = .bad n r := by rw [fitsW_named] at h; unfold atomX; rw [h]; rfl
theorem atomX_ok {no : Bool} {l nm r : Bs} (h : word (fitsW false) l = .ok nm r) : atomX no l = if (took [40] r).1 then (termsGo 4 [] (took [40] r).2).next fun ts r => mustTake [41] ⟨no, nm, ts⟩ r else .ok ⟨no, nm, []⟩ (took [40] r).2 := by rw [fitsW_named] at h; unfold atomX; rw [h]; rfl

/-- Behind all that is done the atom is copied into the result's box, and told. -/
theorem backRead {w0 : World} {p : Nat} {no : Bool} {nm : Bs} {v : Value} {ts : List TermD} {w : World} (h : ABox w0 p no nm v ts w) :
    (backA w0 no nm v w).cell? ⟨w0.heap.size, 0, none⟩ = some (.bool no) ∧ (backA w0 no nm v w).cell? ⟨w0.heap.size, 1, none⟩ = some (.string (bs nm)) ∧ (backA w0 no nm v w).cell? ⟨w0.heap.size, 2, none⟩ = some v :=
  ⟨by rw [cell_of_row _ _ _ _ _ _ h.back]; rfl, by rw [cell_of_row _ _ _ _ _ _ h.back]; rfl, by rw [cell_of_row _ _ _ _ _ _ h.back]; rfl⟩

theorem endOk {w0 : World} {p : Nat} {s : ByteArray} {no : Bool} {nm : Bs} {v : Value} {ts : List TermD} {w : World} {X : Res AtomD} {r : Bs} (hX : X = .ok ⟨no, nm, ts⟩ r) (hB : ABox w0 p no nm v ts w) (hl : ts.length ≤ 4) (hW : Wk w p s r 0 0) (hp : p < w0.heap.size) :
    Wends p s w0 (fun w' v a => atomK.val w0.heap.size w' v a) X (.returned (.agg #[.bool no, .string (bs nm), v])) (backA w0 no nm v w) :=
  wendsOk hX hB.backTn (hB.val hl) (hW.turned (tn_back w0 no nm v w) (by omega))
theorem endBad {w0 : World} {p : Nat} {s : ByteArray} {no : Bool} {nm : Bs} {v : Value} {ts : List TermD} {w : World} {X : Res AtomD} {r l' : Bs} {n : Int} (hX : X = .bad n r) (hB : ABox w0 p no nm v ts w) (hl : ts.length ≤ 4) (hW : Wk w p s l' n (pos s r)) (hp : p < w0.heap.size) :
    Wends p s w0 (fun w' v a => atomK.val w0.heap.size w' v a) X (.returned (.agg #[.bool no, .string (bs nm), v])) (backA w0 no nm v w) :=
  wendsBad hX hB.backTn (hB.val hl) (hW.turned (tn_back w0 no nm v w) (by omega))

/-- What the loop over terms keeps. -/
def TermsR (w : World) (p : Nat) (s : ByteArray) (b : Bool) (nm : Bs) (l0 : Bs) (g : Nat) (more : Value) (wr : World) : Prop :=
  ∃ ts v, ABox w p b nm v ts wr ∧ ts.length ≤ 4 ∧ ((more = .bool true ∧ ∃ l', g = 5 - ts.length ∧ Wk wr p s l' 0 0 ∧ termsGo 4 [] l0 = termsGo (4 - ts.length) ts l') ∨
    (more = .bool false ∧ ((∃ l', Wk wr p s l' 0 0 ∧ termsGo 4 [] l0 = .ok ts l') ∨ ∃ n r l', n ≠ 0 ∧ Wk wr p s l' n (pos s r) ∧ termsGo 4 [] l0 = .bad n r)))

set_option maxRecDepth 100000 in
set_option maxHeartbeats 4000000 in
theorem wAtom (p : Nat) (s : ByteArray) (l : Bs) (not : Bool) (w : World) (h : Wk w p s l 0 0) :
    Calls Try.prog 77 #[.pointer (some ⟨p, 0, none⟩), .bool not] w fun e w' => Wends p s w (fun w' v a => atomK.val w.heap.size w' v a) (if not then bodyAtom l else atom l) e w' := by
  have hp := h.lt
  obtain ⟨X, hX⟩ : ∃ X, X = (if not then bodyAtom l else atom l) := ⟨_, rfl⟩
  rw [← hX]
  have hW0 : Wk ((w.alloc (.cells #[.bool false, .string { data := #[] }, .slice none 0 0] 54)).alloc (.cells #[.bool false, .string { data := #[] }, .slice none 0 0] 54)) p s l 0 0 := h.below (((Later.refl w).alloc _).alloc _).below
  have hB0 := ABox.made w p
  clear h
  cases not
  case' false =>
    obtain ⟨b, HX, HB2⟩ : ∃ b, Hid (X = atomX b l) ∧ Hid (ABox w p b [] (.slice none 0 0) [] ((w.alloc (.cells #[.bool false, .string { data := #[] }, .slice none 0 0] 54)).alloc (.cells #[.bool false, .string { data := #[] }, .slice none 0 0] 54))) := ⟨false, hX.trans (atomX_atom l).symm, hB0⟩
    have HW2 := hide hW0
    clear hX hW0 hB0
    go_enter Try.func77, Try.ntmps77
    go_wp2_with fail
  case' true =>
    have HX0 : Hid (X = atomX (took [33] l).1 (took [33] l).2) := hX.trans (atomX_body l).symm
    have HE := hide (wEatB [33] (by decide) hW0 hB0 hp)
    clear hX hW0 hB0
    go_enter Try.func77, Try.ntmps77
    go_wp2_with fail
    refine HE.out.mono ?_
    rintro e w1 ⟨rfl, hW1, hB1⟩
    obtain ⟨z0, z1, z2⟩ := hB1.z
    have fz0 := hB1.fz 0
    have hlt1 := hB1.lt
    generalize (took [33] l).1 = b at *
    generalize (took [33] l).2 = l1 at *
    have HX : Hid (X = atomX b l1) := HX0
    have HB2 := hide (hB1.setNo b)
    have HW2 := hide (hW1.setOther (g := w.heap.size + 1) (j := 0) (.bool b) (by omega))
    clear hW1 hB1 HE HX0
    go_wp2_with fail
    clear z0 z1 z2 fz0 hlt1
  all_goals
    refine (wWordB false HW2.out HB2.out hp).mono ?_
    rintro e w3 ⟨hB3, ⟨x, r, hw, rfl, hxl, hW3⟩ | ⟨n, r, x, l', hw, hn, rfl, hxl, hW3⟩⟩
    · have HX1 : Hid (X = if (took [40] r).1 then (termsGo 4 [] (took [40] r).2).next fun ts r => mustTake [41] ⟨b, x, ts⟩ r else .ok ⟨b, x, []⟩ (took [40] r).2) := HX.out.trans (atomX_ok hw)
      obtain ⟨z0, z1, z2⟩ := hB3.z
      have fz1 := hB3.fz 1
      have hlt3 := hB3.lt
      have HW4 := hide (hW3.setOther (g := w.heap.size + 1) (j := 1) (.string (bs x)) (by omega))
      have HB4 := hide (hB3.setName x)
      clear hB3 hW3 hw HX HW2 HB2 hxl
      go_wp2_with fail
      refine (wEatB [40] (by decide) HW4.out HB4.out hp).mono ?_
      rintro e w5 ⟨rfl, hW5, hB5⟩
      clear z0 z1 z2 fz1 hlt3 HW4 HB4
      generalize hl0 : (took [40] r).2 = l0 at *
      generalize (took [40] r).1 = t0 at *
      clear hl0
      cases t0
      · have HX2 : Hid (X = .ok ⟨b, x, []⟩ l0) := HX1.out
        obtain ⟨z0, z1, z2⟩ := hB5.z
        obtain ⟨y0, y1, y2⟩ := hB5.y
        have f0 := hB5.fy 0
        have f1 := hB5.fy 1
        have f2 := hB5.fy 2
        have HB5 := hide hB5
        have HW5 := hide hW5
        clear hB5 hW5 HX1
        go_wp2
        obtain ⟨r0, r1, r2⟩ := backRead HB5.out
        unfold backA at r0 r1 r2
        exact bodyPost_ret (v := .agg #[.bool b, .string (bs x), .slice none 0 0]) (by simp [results, Try.results77, go_sem, r0, r1, r2]) rfl (endOk HX2.out HB5.out (by simp) HW5.out hp)
      · have HX2 : Hid (X = (termsGo 4 [] l0).next fun ts r => mustTake [41] ⟨b, x, ts⟩ r) := HX1.out
        have HR0 : Hid (TermsR w p s b x l0 5 (.bool true) w5) := ⟨[], _, hB5, by simp, Or.inl ⟨rfl, l0, rfl, hW5, rfl⟩⟩
        clear hB5 hW5 HX1
        go_wp2
        go_loopg [6] 5 (fun g more wr => Hid (TermsR w p s b x l0 g more wr))
        case atStart => exact HR0
        case round =>
          clear HR0
          obtain ⟨ts, v, hB, hlen, ⟨rfl, l', hg, hW, hE⟩ | ⟨rfl, hend⟩⟩ := hrel.out
          · obtain ⟨ao, co, rfl⟩ := Kind.own_slice hB.own
            have HOk := hide (wOk p s l' 0 0 wr hW)
            obtain ⟨z0, z1, z2⟩ := hB.z
            have hlt := hB.lt
            have HE := hide hE
            clear hE hrel
            by_cases h4 : ts.length = 4
            · have HS := hide (wStop p s l' 5 wr hW)
              have HX3 : Hid (X = .bad 5 l') := by show _ = _; rw [HX2.out, HE.out, h4]; rfl
              have HBw : Hid (∀ w', Tn p wr w' → ABox w p b x (.slice ao ts.length co) ts w') := fun w' k => hB.turned k hp
              have h4z : (4 : Int) ≤ (ts.length : Int) := by omega
              clear hW hB HX2 HE h4
              go_wp2_with (first
                | (go_at_call 75; refine HOk.out.mono ?_; rintro e w' ⟨rfl, rfl⟩)
                | fail)
              refine HS.out.mono ?_
              rintro e w6 ⟨rfl, hW6, hT6⟩
              have hB6 := HBw.out w6 hT6
              clear z0 z1 z2 hT6 HBw HS HOk hlt
              obtain ⟨z0, z1, z2⟩ := hB6.z
              obtain ⟨y0, y1, y2⟩ := hB6.y
              have f0 := hB6.fy 0
              have f1 := hB6.fy 1
              have f2 := hB6.fy 2
              have HB6 := hide hB6
              have HW6 := hide hW6
              clear hB6 hW6
              go_wp2
              obtain ⟨r0, r1, r2⟩ := backRead HB6.out
              unfold backA at r0 r1 r2
              exact bodyPost_ret (v := .agg #[.bool b, .string (bs x), .slice ao ts.length co]) (by simp [results, Try.results77, go_sem, r0, r1, r2]) rfl (endBad HX3.out HB6.out hlen HW6.out hp)
            · have h4z : ¬ (4 : Int) ≤ (ts.length : Int) := by omega
              have HWd := hide (wWordB true hW hB hp)
              clear hW hB
              go_wp2_with (first
                | (go_at_call 75; refine HOk.out.mono ?_; rintro e w' ⟨rfl, rfl⟩)
                | fail)
              refine HWd.out.mono ?_
              rintro e w6 ⟨hB6, hres0⟩
              obtain ⟨x2, lz, n, k, rfl, hx2, hW6, hres⟩ : ∃ x2 lz n k, e = .returned (.string (bs x2)) ∧ x2.length ≤ 3000 ∧ Wk w6 p s lz n k ∧ ((n = 0 ∧ k = 0 ∧ word (fitsW true) l' = .ok x2 lz) ∨ (n ≠ 0 ∧ ∃ r2, k = pos s r2 ∧ word (fitsW true) l' = .bad n r2)) := by
                rcases hres0 with ⟨x2, r2, h1, h2, h3, h5⟩ | ⟨n, r2, x2, l2, h1, hn, h2, h3, h5⟩
                · exact ⟨x2, r2, 0, 0, h2, h3, h5, Or.inl ⟨rfl, rfl, h1⟩⟩
                · exact ⟨x2, l2, n, _, h2, h3, h5, Or.inr ⟨hn, r2, rfl, h1⟩⟩
              have HVr : Hid (∀ w', Calls Try.prog 36 #[.string (bs x2)] w' fun e w'' => e = .returned (.bool (isVar x2)) ∧ Later w' w'') := fun w' => by
                have := rVariable (bs x2) w' (by rw [size_bs]; omega)
                rw [raw_bs] at this; exact this
              have HTl : Hid (∀ w7, Later w6 w7 → w7.cell? ⟨w.heap.size + 1, 2, none⟩ = some (.slice ao ts.length co) ∧ ∃ a8 n8 c8 w8, (Builtin.append_ #[52, 52] 52 #[.slice ao ts.length co, .slice (some ⟨w7.heap.size, 0, none⟩) 1 1]).run Try.prog (w7.alloc (.cells #[.bool (isVar x2), .string (bs x2)] 105)) = .ok (.slice a8 n8 c8) w8 ∧ w8.cell? ⟨w.heap.size + 1, 2, none⟩ = some (.slice ao ts.length co) ∧ w8.frozen? ⟨w.heap.size + 1, 2, none⟩ = false ∧
                  Hid (ABox w p b x (.slice a8 n8 c8) (ts ++ [(isVar x2, x2)]) (w8.setCell ⟨w.heap.size + 1, 2, none⟩ (.slice a8 n8 c8))) ∧ Hid (Wk (w8.setCell ⟨w.heap.size + 1, 2, none⟩ (.slice a8 n8 c8)) p s lz n k)) := fun w7 hL => by
                have hB7 := hB6.turned (Tn.of_below hL.below) hp
                have hl7 := hB7.lt
                obtain ⟨v', w8, hrun, ho8, hg8⟩ := appendTerm hB7.own (c := [.bool (isVar x2), .string (bs x2)]) (x := (isVar x2, x2)) rfl (by omega) (by omega)
                have hne : ∀ {g : Nat}, g < w.heap.size + 2 → some g ≠ (Value.slice ao ts.length co).ownBlock := fun hg e => by have := (Kind.own_lt hB7.own e.symm).1; omega
                have hb8 : ∀ g, g < w.heap.size + 2 → w8.heap[g]? = w7.heap[g]? := fun g hg => by rw [hg8.block g (by simp; omega) (hne hg), Below.heap_alloc _ _ _ (by omega)]
                have hA8 : w8.heap[w.heap.size + 1]? = some (.cells #[.bool b, .string (bs x), .slice ao ts.length co] 54 (0, 0)) := (hb8 _ (by omega)).trans hB7.rA
                have hs8 := hg8.size
                simp only [World.size_alloc] at hs8
                have ht8 : Tn p w w8 := ⟨hg8.os.trans hB7.tn.os, hg8.tape.trans hB7.tn.tape, hg8.output.trans hB7.tn.output, by omega, fun i hi ho => (hb8 i (by omega)).trans (hB7.tn.block i hi ho)⟩
                have hW8 : Wk w8 p s lz n k := (hW6.below hL.below).block (hb8 p (by omega))
                obtain ⟨a8, c8, rfl⟩ := Kind.own_slice ho8
                exact ⟨hB7.z.2.2, a8, _, c8, w8, hrun, by rw [cell_of_row _ _ _ _ _ _ hA8]; rfl, frozen_at 2 hA8, ABox.setTerms ht8 ((hb8 _ (by omega)).trans hB7.rR) hA8 ho8, hW8.setOther _ (by omega)⟩
              clear hB6 hW6 hres0 HWd HOk z0 z1 z2
              have hlt6 : True := trivial
              go_wp2
              refine wp_region_held_drew (S := fun _ => True) (by kernel_rfl) trivial (fun hHeld => ?_)
              refine take_at (i := 0) (d := some 35) (v := ?_) rfl rfl (by kernel_rfl) (by kernel_rfl) (by kernel_rfl) (fun _ _ _ h => h) (Or.inl ⟨by rfl, ?_⟩) hHeld ?_
              rotate_left
              · intro w hSw; (try dsimp only at hSw);  go_simp; try with_reducible rfl
              simp only [Act.put, List.setIfInBounds_toArray, List.set_cons_zero, List.set_cons_succ]
              refine take_at (i := 2) (d := some 37) (v := ?_) rfl rfl (by kernel_rfl) (by kernel_rfl) (by kernel_rfl) (fun _ _ _ h => h) (Or.inl ⟨by rfl, ?_⟩) hHeld ?_
              rotate_left
              · intro w hSw; (try dsimp only at hSw);  go_simp; try with_reducible rfl
              simp only [Act.put, List.setIfInBounds_toArray, List.set_cons_zero, List.set_cons_succ]
              refine take_at (i := 4) (d := some 39) (v := ?_) rfl rfl (by kernel_rfl) (by kernel_rfl) (by kernel_rfl) (fun _ _ _ h => h) (Or.inl ⟨by rfl, ?_⟩) hHeld ?_
              rotate_left
              · intro w hSw; (try dsimp only at hSw);  go_simp; try with_reducible rfl
              simp only [Act.put, List.setIfInBounds_toArray, List.set_cons_zero, List.set_cons_succ]
              refine wpAnyH_ready (rs := [1, 3]) (by kernel_rfl) (by simp) ?_
              refine AllReadyH.cons rfl (fun K hK => ?_) (AllReadyH.cons rfl (fun K hK => ?_) AllReadyH.nil)
              · have x6 := (HTl.out w6.drew (Later.refl _).drew).1
                go_simp
                refine hK.out _ _ trivial (fun hHeld => ?_)
                clear hK K
                clear hHeld x6
                refine wpAnyH_ready (rs := [3]) (by kernel_rfl) (by simp) ?_
                refine AllReadyH.cons rfl (fun K hK => ?_) AllReadyH.nil
                go_simp
                refine (HVr.out _).mono ?_
                rintro e w7 ⟨rfl, hL7⟩
                dsimp only
                obtain ⟨_, a8, n8, c8, w8, hrun, x8, g8, hB8, hW8⟩ := HTl.out w7 ((Later.refl _).drew.trans hL7)
                clear hL7
                refine hK.out _ _ trivial (fun hHeld => ?_)
                clear hK K
                refine take_at (i := 5) (d := some 40) (v := ?_) rfl rfl (by kernel_rfl) (by kernel_rfl) (by kernel_rfl) (fun _ _ _ h => h) (Or.inl ⟨by rfl, ?_⟩) hHeld ?_
                rotate_left
                · intro w hSw; (try dsimp only at hSw);  go_simp; try with_reducible rfl
                simp only [Act.put, List.setIfInBounds_toArray, List.set_cons_zero, List.set_cons_succ]
                refine wpAnyH_ready (rs := [6]) (by kernel_rfl) (by simp) ?_
                refine AllReadyH.cons rfl (fun K hK => ?_) AllReadyH.nil
                go_simp
                refine hK.out _ _ trivial (fun hHeld => ?_)
                clear hK K
                refine wpAnyH_ready (rs := [7]) (by kernel_rfl) (by simp) ?_
                refine held_append (i := 7) (d := some 42) rfl rfl rfl (.tmp 36) (.tmp 41) 52 52 rfl rfl _ _ _ _ (by simp [Act.eval]) (by simp [Act.eval]) hrun trivial (fun hHeld => ?_) AllReadyH.nil
                simp only [Act.put, List.setIfInBounds_toArray, List.set_cons_zero, List.set_cons_succ]
                refine take_at (i := 8) (d := some 43) (v := ?_) rfl rfl (by kernel_rfl) (by kernel_rfl) (by kernel_rfl) (fun _ _ _ h => h) (Or.inl ⟨by rfl, ?_⟩) hHeld ?_
                rotate_left
                · intro w hSw; (try dsimp only at hSw);  go_simp; try with_reducible rfl
                simp only [Act.put, List.setIfInBounds_toArray, List.set_cons_zero, List.set_cons_succ]
                refine wpAnyH_ready (rs := [9]) (by kernel_rfl) (by simp) ?_
                refine AllReadyH.cons rfl (fun K hK => ?_) AllReadyH.nil
                go_simp
                refine hK.out _ _ trivial (fun hHeld => ?_)
                clear hK K
                refine wpAnyH_done (by kernel_rfl) ?_ _
                clear hrun x8 g8 hHeld
                rcases hres with ⟨rfl, rfl, hwd⟩ | ⟨hn, r2, rfl, hwd⟩
                · have HEa := hide (wEatB [44] (by decide) hW8.out hB8.out hp)
                  have hgo : termsGo (4 - ts.length) ts l' = if (took [44] lz).1 then termsGo (3 - ts.length) (ts ++ [(isVar x2, x2)]) (took [44] lz).2 else .ok (ts ++ [(isVar x2, x2)]) (took [44] lz).2 := by
                    rw [show 4 - ts.length = (3 - ts.length) + 1 by omega]
                    show (term l').next _ = _
                    rw [term_ok hwd, ← listGo_terms]; rfl
                  have HG := hide hgo
                  clear hgo hwd hW8 hB8
                  go_wp2_with fail
                  refine HEa.out.mono ?_
                  rintro e w9 ⟨rfl, hW9, hB9⟩
                  generalize (took [44] lz).2 = l9 at *
                  generalize (took [44] lz).1 = t9 at *
                  have HR9 : Hid (TermsR w p s b x l0 (4 - ts.length) (.bool t9) w9) := by
                    refine ⟨ts ++ [(isVar x2, x2)], _, hB9, by simp; omega, ?_⟩
                    cases t9
                    · exact Or.inr ⟨rfl, Or.inl ⟨l9, hW9, HE.out.trans HG.out⟩⟩
                    · exact Or.inl ⟨rfl, l9, by simp <;> omega, hW9, by rw [HE.out, HG.out, if_pos rfl]; simp only [List.length_append, List.length_cons, List.length_nil]; rw [show 4 - (ts.length + (0 + 1)) = 3 - ts.length by omega]⟩
                  clear hW9 hB9 HEa HG
                  go_wp2
                  go_roundg (4 - ts.length)
                  case measure => omega
                  case rel => exact HR9
                · have HEa := hide (wEatNot p s lz [44] n (pos s r2) _ hW8.out hn)
                  have HR9 : Hid (TermsR w p s b x l0 (4 - ts.length) (.bool false) (w8.setCell ⟨w.heap.size + 1, 2, none⟩ (.slice a8 n8 c8))) := by
                    refine ⟨ts ++ [(isVar x2, x2)], _, hB8.out, by simp; omega, Or.inr ⟨rfl, Or.inr ⟨n, r2, lz, hn, hW8.out, ?_⟩⟩⟩
                    rw [HE.out, show 4 - ts.length = (3 - ts.length) + 1 by omega]
                    show (term l').next _ = _
                    rw [term_bad hwd]; rfl
                  clear hwd hW8 hB8
                  go_wp2_with fail
                  refine HEa.out.mono ?_
                  rintro e w9 ⟨rfl, rfl⟩
                  go_wp2
                  go_roundg (4 - ts.length)
                  case measure => omega
                  case rel => exact HR9
              · go_simp
                refine (HVr.out _).mono ?_
                rintro e w7 ⟨rfl, hL7⟩
                dsimp only
                obtain ⟨x7, a8, n8, c8, w8, hrun, x8, g8, hB8, hW8⟩ := HTl.out w7 ((Later.refl _).drew.trans hL7)
                clear hL7
                refine hK.out _ _ trivial (fun hHeld => ?_)
                clear hK K
                refine take_at (i := 5) (d := some 40) (v := ?_) rfl rfl (by kernel_rfl) (by kernel_rfl) (by kernel_rfl) (fun _ _ _ h => h) (Or.inl ⟨by rfl, ?_⟩) hHeld ?_
                rotate_left
                · intro w hSw; (try dsimp only at hSw);  go_simp; try with_reducible rfl
                simp only [Act.put, List.setIfInBounds_toArray, List.set_cons_zero, List.set_cons_succ]
                refine wpAnyH_ready (rs := [1, 6]) (by kernel_rfl) (by simp) ?_
                refine AllReadyH.cons rfl (fun K hK => ?_) (AllReadyH.cons rfl (fun K hK => ?_) AllReadyH.nil)
                · go_simp
                  refine hK.out _ _ trivial (fun hHeld => ?_)
                  clear hK K
                  clear x7
                  refine wpAnyH_ready (rs := [6]) (by kernel_rfl) (by simp) ?_
                  refine AllReadyH.cons rfl (fun K hK => ?_) AllReadyH.nil
                  go_simp
                  refine hK.out _ _ trivial (fun hHeld => ?_)
                  clear hK K
                  refine wpAnyH_ready (rs := [7]) (by kernel_rfl) (by simp) ?_
                  refine held_append (i := 7) (d := some 42) rfl rfl rfl (.tmp 36) (.tmp 41) 52 52 rfl rfl _ _ _ _ (by simp [Act.eval]) (by simp [Act.eval]) hrun trivial (fun hHeld => ?_) AllReadyH.nil
                  simp only [Act.put, List.setIfInBounds_toArray, List.set_cons_zero, List.set_cons_succ]
                  refine take_at (i := 8) (d := some 43) (v := ?_) rfl rfl (by kernel_rfl) (by kernel_rfl) (by kernel_rfl) (fun _ _ _ h => h) (Or.inl ⟨by rfl, ?_⟩) hHeld ?_
                  rotate_left
                  · intro w hSw; (try dsimp only at hSw);  go_simp; try with_reducible rfl
                  simp only [Act.put, List.setIfInBounds_toArray, List.set_cons_zero, List.set_cons_succ]
                  refine wpAnyH_ready (rs := [9]) (by kernel_rfl) (by simp) ?_
                  refine AllReadyH.cons rfl (fun K hK => ?_) AllReadyH.nil
                  go_simp
                  refine hK.out _ _ trivial (fun hHeld => ?_)
                  clear hK K
                  refine wpAnyH_done (by kernel_rfl) ?_ _
                  clear hrun x8 g8 hHeld
                  rcases hres with ⟨rfl, rfl, hwd⟩ | ⟨hn, r2, rfl, hwd⟩
                  · have HEa := hide (wEatB [44] (by decide) hW8.out hB8.out hp)
                    have hgo : termsGo (4 - ts.length) ts l' = if (took [44] lz).1 then termsGo (3 - ts.length) (ts ++ [(isVar x2, x2)]) (took [44] lz).2 else .ok (ts ++ [(isVar x2, x2)]) (took [44] lz).2 := by
                      rw [show 4 - ts.length = (3 - ts.length) + 1 by omega]
                      show (term l').next _ = _
                      rw [term_ok hwd, ← listGo_terms]; rfl
                    have HG := hide hgo
                    clear hgo hwd hW8 hB8
                    go_wp2_with fail
                    refine HEa.out.mono ?_
                    rintro e w9 ⟨rfl, hW9, hB9⟩
                    generalize (took [44] lz).2 = l9 at *
                    generalize (took [44] lz).1 = t9 at *
                    have HR9 : Hid (TermsR w p s b x l0 (4 - ts.length) (.bool t9) w9) := by
                      refine ⟨ts ++ [(isVar x2, x2)], _, hB9, by simp; omega, ?_⟩
                      cases t9
                      · exact Or.inr ⟨rfl, Or.inl ⟨l9, hW9, HE.out.trans HG.out⟩⟩
                      · exact Or.inl ⟨rfl, l9, by simp <;> omega, hW9, by rw [HE.out, HG.out, if_pos rfl]; simp only [List.length_append, List.length_cons, List.length_nil]; rw [show 4 - (ts.length + (0 + 1)) = 3 - ts.length by omega]⟩
                    clear hW9 hB9 HEa HG
                    go_wp2
                    go_roundg (4 - ts.length)
                    case measure => omega
                    case rel => exact HR9
                  · have HEa := hide (wEatNot p s lz [44] n (pos s r2) _ hW8.out hn)
                    have HR9 : Hid (TermsR w p s b x l0 (4 - ts.length) (.bool false) (w8.setCell ⟨w.heap.size + 1, 2, none⟩ (.slice a8 n8 c8))) := by
                      refine ⟨ts ++ [(isVar x2, x2)], _, hB8.out, by simp; omega, Or.inr ⟨rfl, Or.inr ⟨n, r2, lz, hn, hW8.out, ?_⟩⟩⟩
                      rw [HE.out, show 4 - ts.length = (3 - ts.length) + 1 by omega]
                      show (term l').next _ = _
                      rw [term_bad hwd]; rfl
                    clear hwd hW8 hB8
                    go_wp2_with fail
                    refine HEa.out.mono ?_
                    rintro e w9 ⟨rfl, rfl⟩
                    go_wp2
                    go_roundg (4 - ts.length)
                    case measure => omega
                    case rel => exact HR9
                · go_simp
                  refine hK.out _ _ trivial (fun hHeld => ?_)
                  clear hK K
                  have x7' : (w7.alloc (.cells #[.bool (isVar x2), .string (bs x2)] 105)).cell? ⟨w.heap.size + 1, 2, none⟩ = some (.slice ao ts.length co) := by rw [World.cell?_alloc_lt _ _ _ (World.block_lt_of_cell? w7 _ x7)]; exact x7
                  refine wpAnyH_ready (rs := [1]) (by kernel_rfl) (by simp) ?_
                  refine AllReadyH.cons rfl (fun K hK => ?_) AllReadyH.nil
                  go_simp
                  refine hK.out _ _ trivial (fun hHeld => ?_)
                  clear hK K
                  clear x7 x7'
                  refine wpAnyH_ready (rs := [7]) (by kernel_rfl) (by simp) ?_
                  refine held_append (i := 7) (d := some 42) rfl rfl rfl (.tmp 36) (.tmp 41) 52 52 rfl rfl _ _ _ _ (by simp [Act.eval]) (by simp [Act.eval]) hrun trivial (fun hHeld => ?_) AllReadyH.nil
                  simp only [Act.put, List.setIfInBounds_toArray, List.set_cons_zero, List.set_cons_succ]
                  refine take_at (i := 8) (d := some 43) (v := ?_) rfl rfl (by kernel_rfl) (by kernel_rfl) (by kernel_rfl) (fun _ _ _ h => h) (Or.inl ⟨by rfl, ?_⟩) hHeld ?_
                  rotate_left
                  · intro w hSw; (try dsimp only at hSw);  go_simp; try with_reducible rfl
                  simp only [Act.put, List.setIfInBounds_toArray, List.set_cons_zero, List.set_cons_succ]
                  refine wpAnyH_ready (rs := [9]) (by kernel_rfl) (by simp) ?_
                  refine AllReadyH.cons rfl (fun K hK => ?_) AllReadyH.nil
                  go_simp
                  refine hK.out _ _ trivial (fun hHeld => ?_)
                  clear hK K
                  refine wpAnyH_done (by kernel_rfl) ?_ _
                  clear hrun x8 g8 hHeld
                  rcases hres with ⟨rfl, rfl, hwd⟩ | ⟨hn, r2, rfl, hwd⟩
                  · have HEa := hide (wEatB [44] (by decide) hW8.out hB8.out hp)
                    have hgo : termsGo (4 - ts.length) ts l' = if (took [44] lz).1 then termsGo (3 - ts.length) (ts ++ [(isVar x2, x2)]) (took [44] lz).2 else .ok (ts ++ [(isVar x2, x2)]) (took [44] lz).2 := by
                      rw [show 4 - ts.length = (3 - ts.length) + 1 by omega]
                      show (term l').next _ = _
                      rw [term_ok hwd, ← listGo_terms]; rfl
                    have HG := hide hgo
                    clear hgo hwd hW8 hB8
                    go_wp2_with fail
                    refine HEa.out.mono ?_
                    rintro e w9 ⟨rfl, hW9, hB9⟩
                    generalize (took [44] lz).2 = l9 at *
                    generalize (took [44] lz).1 = t9 at *
                    have HR9 : Hid (TermsR w p s b x l0 (4 - ts.length) (.bool t9) w9) := by
                      refine ⟨ts ++ [(isVar x2, x2)], _, hB9, by simp; omega, ?_⟩
                      cases t9
                      · exact Or.inr ⟨rfl, Or.inl ⟨l9, hW9, HE.out.trans HG.out⟩⟩
                      · exact Or.inl ⟨rfl, l9, by simp <;> omega, hW9, by rw [HE.out, HG.out, if_pos rfl]; simp only [List.length_append, List.length_cons, List.length_nil]; rw [show 4 - (ts.length + (0 + 1)) = 3 - ts.length by omega]⟩
                    clear hW9 hB9 HEa HG
                    go_wp2
                    go_roundg (4 - ts.length)
                    case measure => omega
                    case rel => exact HR9
                  · have HEa := hide (wEatNot p s lz [44] n (pos s r2) _ hW8.out hn)
                    have HR9 : Hid (TermsR w p s b x l0 (4 - ts.length) (.bool false) (w8.setCell ⟨w.heap.size + 1, 2, none⟩ (.slice a8 n8 c8))) := by
                      refine ⟨ts ++ [(isVar x2, x2)], _, hB8.out, by simp; omega, Or.inr ⟨rfl, Or.inr ⟨n, r2, lz, hn, hW8.out, ?_⟩⟩⟩
                      rw [HE.out, show 4 - ts.length = (3 - ts.length) + 1 by omega]
                      show (term l').next _ = _
                      rw [term_bad hwd]; rfl
                    clear hwd hW8 hB8
                    go_wp2_with fail
                    refine HEa.out.mono ?_
                    rintro e w9 ⟨rfl, rfl⟩
                    go_wp2
                    go_roundg (4 - ts.length)
                    case measure => omega
                    case rel => exact HR9
          · clear hrel
            rcases hend with ⟨l', hW, hE⟩ | ⟨n, r2, l', hn, hW, hE⟩
            · have HX3 : Hid (X = mustTake [41] ⟨b, x, ts⟩ l') := by show _ = _; rw [HX2.out, hE]; rfl
              have HN := hide (wNeed p s l' [41] wr (by decide) hW)
              have HBw : Hid (∀ w', Tn p wr w' → ABox w p b x v ts w') := fun w' k => hB.turned k hp
              obtain ⟨ao, co, rfl⟩ := Kind.own_slice hB.own
              clear hW hE hB HX2
              unfold mustTake at HX3
              go_wp2_with fail
              refine HN.out.mono ?_
              rintro e w6 ⟨rfl, hW6, hT6⟩
              have hB6 := HBw.out w6 hT6
              obtain ⟨z0, z1, z2⟩ := hB6.z
              obtain ⟨y0, y1, y2⟩ := hB6.y
              have f0 := hB6.fy 0
              have f1 := hB6.fy 1
              have f2 := hB6.fy 2
              have HB6 := hide hB6
              have HW6 := hide hW6
              clear hB6 hW6 hT6 HBw HN
              go_wp2
              obtain ⟨r0, r1, r2⟩ := backRead HB6.out
              unfold backA at r0 r1 r2
              refine bodyPost_ret (v := .agg #[.bool b, .string (bs x), .slice ao ts.length co]) (by simp [results, Try.results77, go_sem, r0, r1, r2]) rfl ?_
              cases htk : (took [41] l').1
              · rw [htk] at HX3 HW6
                exact endBad HX3.out HB6.out hlen HW6.out hp
              · rw [htk] at HX3 HW6
                exact endOk HX3.out HB6.out hlen HW6.out hp
            · have HX3 : Hid (X = .bad n r2) := by show _ = _; rw [HX2.out, hE]; rfl
              have HN := hide (wNeedNot p s l' [41] n (pos s r2) wr hW hn)
              obtain ⟨ao, co, rfl⟩ := Kind.own_slice hB.own
              obtain ⟨z0, z1, z2⟩ := hB.z
              obtain ⟨y0, y1, y2⟩ := hB.y
              have f0 := hB.fy 0
              have f1 := hB.fy 1
              have f2 := hB.fy 2
              have HB6 := hide hB
              have HW6 := hide hW
              clear hB hW hE HX2
              go_wp2_with (first
                | (go_at_call 80; refine HN.out.mono ?_; rintro e w' ⟨rfl, rfl⟩))
              obtain ⟨r0, r1, r2⟩ := backRead HB6.out
              unfold backA at r0 r1 r2
              exact bodyPost_ret (v := .agg #[.bool b, .string (bs x), .slice ao ts.length co]) (by simp [results, Try.results77, go_sem, r0, r1, r2]) rfl (endBad HX3.out HB6.out hlen HW6.out hp)
    · have HX1 : Hid (X = .bad n r) := HX.out.trans (atomX_bad hw)
      obtain ⟨z0, z1, z2⟩ := hB3.z
      have fz1 := hB3.fz 1
      have hlt3 := hB3.lt
      have HW4 := hide (hW3.setOther (g := w.heap.size + 1) (j := 1) (.string (bs x)) (by omega))
      have HB4 := hide (hB3.setName x)
      clear hB3 hW3 hw HX HW2 HB2 hxl
      go_wp2_with fail
      refine (wEatNot p s l' [40] n (pos s r) _ HW4.out hn).mono ?_
      rintro e w5 ⟨rfl, rfl⟩
      have hB5 := HB4.out
      have HW5 := HW4
      clear z0 z1 z2 fz1 hlt3 HW4 HB4
      generalize World.setCell w3 _ _ = w5 at hB5 HW5 ⊢
      obtain ⟨z0, z1, z2⟩ := hB5.z
      obtain ⟨y0, y1, y2⟩ := hB5.y
      have f0 := hB5.fy 0
      have f1 := hB5.fy 1
      have f2 := hB5.fy 2
      have HB5 := hide hB5
      clear hB5
      go_wp2
      obtain ⟨r0, r1, r2⟩ := backRead HB5.out
      unfold backA at r0 r1 r2
      exact bodyPost_ret (v := .agg #[.bool b, .string (bs x), .slice none 0 0]) (by simp [results, Try.results77, go_sem, r0, r1, r2]) rfl (endBad HX1.out HB5.out (by simp) HW5.out hp)

end Go.Proofs.Ytehipkidohomeaa
