/- The walks of check.givenBy and check.Body. -/
import Derived.Test.YthogickpeldhlaaCkC
namespace Go.Proofs.Ythogickpeldhlaa
open Go.RowKit Go.Sort Go.Maps

/-- What is right with an atom with which nothing is wrong. -/
theorem wrongAtom_zero {a : AtomD} (h : wrongAtom a = 0) : a.name.length ≤ 12 ∧ a.terms.length ≤ 4 ∧ ∀ t ∈ a.terms, t.2.length ≤ 12 := by
  unfold wrongAtom at h
  split at h
  · cases h
  · rename_i h0
    split at h
    · cases h
    · rename_i h1
      split at h
      · cases h
      · rename_i h2
        refine ⟨?_, by omega, fun t ht => ?_⟩
        · have : isNamed a.name = true := by simpa using h0
          unfold isNamed at this
          simp at this
          exact this.1.1
        · have h3 : wrongTerm t = false := by
            cases hc : wrongTerm t with
            | false => rfl
            | true => exact absurd (List.any_eq_true.2 ⟨t, ht, hc⟩) h2
          unfold wrongTerm at h3
          split at h3
          · have : isVar t.2 = true := by simpa using h3
            unfold isVar at this
            simp at this
            exact this.1.1
          · have : isNamed t.2 = true := by simpa using h3
            unfold isNamed at this
            simp at this
            exact this.1.1

theorem short_max {s : Bs} (h : s.length ≤ 12) : s.length ≤ maxLen := by simp [maxLen]; omega

theorem givenBy_step {l : List AtomD} {j : Nat} {a : AtomD} (h : l[j]? = some a) (s : Bs) : givenBy (l.take (j + 1)) s = (givenBy (l.take j) s || (!a.no && (vars a).contains s)) := by
  rw [List.take_add_one, h]
  simp [givenBy]

theorem vars_le (a : AtomD) : (vars a).length ≤ a.terms.length := by have := varsGo_len a.terms []; simpa [vars] using this
theorem vars_mem (a : AtomD) : ∀ s ∈ vars a, ∃ t ∈ a.terms, t.2 = s := by
  have : ∀ (ts : List TermD) (l : List Bs), (∀ s ∈ l, ∃ t ∈ a.terms, t.2 = s) → (∀ t ∈ ts, t ∈ a.terms) → ∀ s ∈ varsGo l ts, ∃ t ∈ a.terms, t.2 = s := by
    intro ts
    induction ts with
    | nil => intro l h _; exact h
    | cons t ts ih =>
      intro l h hsub
      refine ih _ (fun s hs0 => ?_) (fun u hu => hsub u (by simp [hu]))
      have hs : s ∈ (if t.1 then addNew l t.2 else l) := hs0
      clear hs0
      split at hs
      · unfold addNew at hs
        split at hs
        · exact h s hs
        · rcases List.mem_append.1 hs with hs | hs
          · exact h s hs
          · simp at hs; exact ⟨t, hsub t (by simp), hs.symm⟩
      · exact h s hs
  exact this a.terms [] (by simp) (fun t h => h)

set_option maxRecDepth 100000 in
set_option maxHeartbeats 2000000 in
theorem givenByC (l : List AtomD) (v : Value) (w : World) (hv : atomK.sl Anyw w v l) (hf : ∀ a ∈ l, wrongAtom a = 0) (hl : l.length ≤ 5) :
    Calls Try.prog 94 #[v] w fun e w' => e = .returned (.map (some w.heap.size)) ∧ NamesM w' w.heap.size 20 (givenBy l) ∧ Below w.heap.size w w' := by
  obtain ⟨sa, cap, rfl⟩ := Kind.slice hv
  have HV := hide hv
  clear hv
  have HF := hide hf
  clear hf
  have hmm := @run_makeMap Try.prog
  go_enter Try.func94, Try.ntmps94
  go_wp2
  go_loopg [9] l.length (fun k i wr => ∃ j : Nat, j + k = l.length ∧ i = .int .i64 j ∧ Hid (NamesM wr w.heap.size (4 * j) (givenBy (l.take j))) ∧ Hid (Below w.heap.size w wr) ∧ w.heap.size + 1 ≤ wr.heap.size)
  case atStart => exact ⟨0, by omega, rfl, SetM.made Try.prog 9 w, ((Later.refl w).alloc _).below, by simp⟩
  case round =>
    obtain ⟨j, hj, rfl, HM, HB, hsz⟩ := hrel
    by_cases hlt : j < l.length
    · obtain ⟨x, hx⟩ : ∃ x, l[j]? = some x := ⟨_, List.getElem?_eq_getElem hlt⟩
      obtain ⟨b1, o1, _, rfl, hb1, ⟨sv, rfl, hsv⟩, hc⟩ := Kind.sl_at HV.out hx
      have d0 : wr.cell? ⟨b1, o1 + j * 3, none⟩ = some (.bool x.no) := by rw [HB.out.cell hb1]; exact hc 0 _ rfl
      have d1 : wr.cell? ⟨b1, o1 + j * 3 + 1, none⟩ = some (.string (bs x.name)) := by rw [HB.out.cell hb1]; exact hc 1 _ rfl
      have d2 : wr.cell? ⟨b1, o1 + j * 3 + 2, none⟩ = some sv := by rw [HB.out.cell hb1]; exact hc 2 _ rfl
      obtain ⟨fn, ft, fs⟩ := wrongAtom_zero (HF.out x (List.mem_of_getElem? hx))
      have E := hide (givenBy_step hx)
      have hbr : b1 < wr.heap.size := by omega
      have hj5 : j < 5 := by omega
      clear hc hx
      cases hno : x.no
      · have HC : Hid (Calls Try.prog 47 #[.agg #[.bool false, .string (bs x.name), sv]] (wr.alloc (.cells #[.bool false, .string (bs x.name), sv] 54)) fun e w2 => ∃ u, e = .returned u ∧
            Hid (strK.sl (fun k => k ≠ w.heap.size) w2 u (vars x)) ∧ Hid (NamesM w2 w.heap.size (4 * j) (givenBy (l.take j))) ∧ Hid (Below w.heap.size w w2) ∧ w.heap.size + 1 ≤ w2.heap.size) := by
          have hB1 : Below w.heap.size w (wr.alloc (.cells #[.bool false, .string (bs x.name), sv] 54)) := HB.out.alloc HB.out.size _
          have := varsC x sv (wr.alloc (.cells #[.bool false, .string (bs x.name), sv] 54)) (Kind.sl_below hsv hB1) (by omega) (fun t ht => short_max (fs t ht))
          rw [hno] at this
          refine this.mono fun e w2 ⟨u, he, ho, hb⟩ => ⟨u, he, ?_, ?_, ?_, ?_⟩
          · refine Kind.sl_mono (Kind.own_sl ho (by have := vars_le x; omega)) fun k _ hk => ?_
            have : _ ≤ k := hk
            simp only [World.size_alloc] at this
            omega
          · exact (HM.out.later ((Later.refl _).alloc _)).below hb
          · exact below_trans hB1 hb (by simp; omega)
          · have := hb.size; simp at this; omega
        have HA : Hid (∀ w2 u, Hid (strK.sl (fun k => k ≠ w.heap.size) w2 u (vars x)) → Hid (NamesM w2 w.heap.size (4 * j) (givenBy (l.take j))) → Hid (Below w.heap.size w w2) → w.heap.size + 1 ≤ w2.heap.size → Calls Try.prog 92 #[.map (some w.heap.size), u] w2 fun e w3 => e = .returned (.tuple #[]) ∧
            Hid (NamesM w3 w.heap.size (4 * (j + 1)) (givenBy (l.take (j + 1)))) ∧ Hid (Below w.heap.size w w3) ∧ w.heap.size + 1 ≤ w3.heap.size) := fun w2 u h1 h2 h3 h4 => by
          have hvl := vars_le x
          refine (addC _ _ _ u (vars x) w2 h2.out h1.out (by simp [maxLen]; omega) (fun s hs => by obtain ⟨t, ht, rfl⟩ := vars_mem x s hs; exact short_max (fs t ht))).mono fun e w3 ⟨he, k1, k2⟩ => ⟨he, ?_, ?_, ?_⟩
          · exact (k1.mono (by omega)).congr fun s => by rw [E.out s, hno]; simp
          · exact below_trans h3.out (k2.below (n := w.heap.size) (Nat.le_refl _) (by omega)) (Nat.le_refl _)
          · have := k2.size; omega
        rw [hno] at d0
        obtain ⟨a2, c2, rfl⟩ := Kind.slice hsv
        clear hsv E HM HB fs hno
        generalize bs x.name = nm at *
        go_wp2_with (first
          | (go_at_call 47; refine HC.out.mono ?_; rintro e w2 ⟨u, rfl, h1, h2, h3, h4⟩)
          | (go_at_call 92; refine (HA.out w2 u h1 h2 h3 h4).mono ?_; rintro e w3 ⟨rfl, k1, k2, k3⟩))
        go_roundg (l.length - (j + 1))
        case measure => omega
        case rel => exact ⟨j + 1, by omega, by go_num, k1, k2, k3⟩
      · have E1 : Hid (∀ s, givenBy (l.take (j + 1)) s = givenBy (l.take j) s) := fun s => by rw [E.out s, hno]; simp
        rw [hno] at d0
        obtain ⟨a2, c2, rfl⟩ := Kind.slice hsv
        clear hsv E fs hno
        generalize bs x.name = nm at *
        go_wp2
        go_roundg (l.length - (j + 1))
        case measure => omega
        case rel => exact ⟨j + 1, by omega, by go_num, ((HM.out.later ((Later.refl _).alloc _)).mono (by omega)).congr fun s => (E1.out s).symm, HB.out.alloc HB.out.size _, by simp; omega⟩
    · have e : j = l.length := by omega
      subst e
      have HM2 : Hid (NamesM wr w.heap.size 20 (givenBy l)) := by have := HM.out; rw [List.take_length] at this; exact this.mono (by omega)
      go_wp2
      go_ret
      exact ⟨rfl, HM2.out, HB.out⟩

theorem wrongAtoms_step {l : List AtomD} {j : Nat} {a : AtomD} (h : l[j]? = some a) : wrongAtoms (l.drop j) = if wrongAtom a = 0 then wrongAtoms (l.drop (j + 1)) else wrongAtom a := by
  obtain ⟨h1, e1⟩ := List.getElem?_eq_some_iff.1 h
  rw [List.drop_eq_getElem_cons h1, e1]; rfl

set_option maxRecDepth 100000 in
set_option maxHeartbeats 4000000 in
theorem chkBodyC (l : List AtomD) (v : Value) (w : World) (hv : atomK.sl Anyw w v l) :
    Calls Try.prog 49 #[v] w fun e w' => e = .returned (.int .i64 (wrongBody l)) ∧ Below w.heap.size w w' := by
  obtain ⟨sa, cap, rfl⟩ := Kind.slice hv
  have hl0 := hv.1.1
  have HV := hide hv
  clear hv
  by_cases h5 : 5 < l.length
  · have F : Hid (wrongBody l = 5) := by show _ = _; unfold wrongBody; rw [if_pos h5]
    go_enter Try.func49, Try.ntmps49
    go_wp2
    go_ret
    exact ⟨by rw [F.out]; rfl, Below.refl _ _⟩
  · have F : Hid (wrongBody l = if wrongAtoms l = 0 then (if l.all (fun a => (vars a).all (givenBy l)) then 0 else 9) else wrongAtoms l) := by show _ = _; unfold wrongBody; rw [if_neg h5]
    go_enter Try.func49, Try.ntmps49
    go_wp2
    go_loopg [14] l.length (fun k i wr => ∃ j : Nat, j + k = l.length ∧ i = .int .i64 j ∧ Hid (wrongAtoms l = wrongAtoms (l.drop j)) ∧ Hid (∀ a ∈ l.take j, wrongAtom a = 0) ∧ Hid (Below w.heap.size w wr))
    case atStart => exact ⟨0, by omega, rfl, (rfl : _ = _), (fun a ha => by simp at ha), Below.refl _ _⟩
    case round =>
      obtain ⟨j, hj, rfl, HE, HG, HB⟩ := hrel
      have hwr := HB.out.size
      by_cases hlt : j < l.length
      · obtain ⟨x, hx⟩ : ∃ x, l[j]? = some x := ⟨_, List.getElem?_eq_getElem hlt⟩
        obtain ⟨b1, o1, _, rfl, hb1, ⟨sv, rfl, hsv⟩, hc⟩ := Kind.sl_at HV.out hx
        have d0 : wr.cell? ⟨b1, o1 + j * 3, none⟩ = some (.bool x.no) := by rw [HB.out.cell hb1]; exact hc 0 _ rfl
        have d1 : wr.cell? ⟨b1, o1 + j * 3 + 1, none⟩ = some (.string (bs x.name)) := by rw [HB.out.cell hb1]; exact hc 1 _ rfl
        have d2 : wr.cell? ⟨b1, o1 + j * 3 + 2, none⟩ = some sv := by rw [HB.out.cell hb1]; exact hc 2 _ rfl
        have hbr : b1 < wr.heap.size := by omega
        have hB1 : Below w.heap.size w (wr.alloc (.cells #[.bool x.no, .string (bs x.name), sv] 54)) := HB.out.alloc HB.out.size _
        have HC : Hid (Calls Try.prog 93 #[.agg #[.bool x.no, .string (bs x.name), sv]] (wr.alloc (.cells #[.bool x.no, .string (bs x.name), sv] 54)) fun e w2 => e = .returned (.int .i64 (wrongAtom x)) ∧ Hid (Below w.heap.size w w2)) :=
          (wrongAtomC x sv _ (Kind.sl_below hsv hB1)).mono fun e w2 ⟨he, hL⟩ => ⟨he, below_trans hB1 hL.below (by simp; omega)⟩
        have hst := wrongAtoms_step hx
        obtain ⟨a2, c2, rfl⟩ := Kind.slice hsv
        by_cases h0 : wrongAtom x = 0
        · have HE1 : Hid (wrongAtoms l = wrongAtoms (l.drop (j + 1))) := by show _ = _; rw [HE.out, hst, if_pos h0]
          have HG1 : Hid (∀ a ∈ l.take (j + 1), wrongAtom a = 0) := fun a ha => by
            rw [List.take_add_one, hx] at ha
            rcases List.mem_append.1 ha with ha | ha
            · exact HG.out a ha
            · simp at ha; rw [ha]; exact h0
          rw [h0] at HC
          clear hst hc hx hsv hB1 HE HG h0
          generalize bs x.name = nm at *
          generalize x.no = xn at *
          go_wp2_with (go_at_call 93; refine HC.out.mono ?_; rintro e w2 ⟨rfl, hB2⟩)
          go_roundg (l.length - (j + 1))
          case measure => omega
          case rel => exact ⟨j + 1, by omega, by go_num, HE1, HG1, hB2⟩
        · have F2 : Hid (wrongBody l = wrongAtom x) := by show _ = _; rw [F.out, HE.out, hst, if_neg h0, if_neg h0]
          have hq : (wrongAtom x != 0) = true := by simpa using h0
          clear hst hc hx hsv hB1 HE HG h0
          generalize bs x.name = nm at *
          generalize x.no = xn at *
          generalize wrongAtom x = ex at *
          go_wp2_with (go_at_call 93; refine HC.out.mono ?_; rintro e w2 ⟨rfl, hB2⟩)
          go_ret
          exact ⟨by rw [F2.out]; rfl, hB2.out⟩
      · have e : j = l.length := by omega
        subst e
        have HG1 : Hid (∀ a ∈ l, wrongAtom a = 0) := by have := HG.out; rw [List.take_length] at this; exact this
        have F1 : Hid (wrongBody l = if l.all (fun a => (vars a).all (givenBy l)) then 0 else 9) := by
          show _ = _
          rw [F.out, if_pos]
          rw [HE.out, List.drop_length]; rfl
        have HGB : Hid (Calls Try.prog 94 #[.slice sa l.length cap] wr fun e w' => e = .returned (.map (some wr.heap.size)) ∧ Hid (NamesM w' wr.heap.size 20 (givenBy l)) ∧ Hid (Below w.heap.size w w') ∧ Hid (Below wr.heap.size wr w')) :=
          (givenByC l _ wr (Kind.sl_below HV.out HB.out) HG1.out (by omega)).mono fun e w' ⟨he, h1, h2⟩ => ⟨he, h1, below_trans HB.out h2 hwr, h2⟩
        clear HE HG HB F
        generalize hgb : givenBy l = gb at *
        clear hgb
        generalize hbk : wr.heap.size = bk at *
        clear hbk
        go_wp2_with (go_at_call 94; refine HGB.out.mono ?_; rintro e w3 ⟨rfl, hM3, hB3, _⟩)
        go_loopg [28] l.length (fun k i wr => ∃ j : Nat, j + k = l.length ∧ i = .int .i64 j ∧ Hid (NamesM wr bk 20 gb) ∧ Hid (l.all (fun a => (vars a).all gb) = (l.drop j).all (fun a => (vars a).all gb)) ∧ Hid (Below w.heap.size w wr))
        case atStart => exact ⟨0, by omega, rfl, hM3, (rfl : _ = _), hB3⟩
        case round =>
          obtain ⟨j, hj, rfl, HM, HF, HB⟩ := hrel
          have hwr := HB.out.size
          by_cases hlt : j < l.length
          · obtain ⟨x, hx⟩ : ∃ x, l[j]? = some x := ⟨_, List.getElem?_eq_getElem hlt⟩
            obtain ⟨b1, o1, _, rfl, hb1, ⟨sv, rfl, hsv⟩, hc⟩ := Kind.sl_at HV.out hx
            have d0 : wr.cell? ⟨b1, o1 + j * 3, none⟩ = some (.bool x.no) := by rw [HB.out.cell hb1]; exact hc 0 _ rfl
            have d1 : wr.cell? ⟨b1, o1 + j * 3 + 1, none⟩ = some (.string (bs x.name)) := by rw [HB.out.cell hb1]; exact hc 1 _ rfl
            have d2 : wr.cell? ⟨b1, o1 + j * 3 + 2, none⟩ = some sv := by rw [HB.out.cell hb1]; exact hc 2 _ rfl
            obtain ⟨fn, ft, fs⟩ := wrongAtom_zero (HG1.out x (List.mem_of_getElem? hx))
            have hbr : b1 < wr.heap.size := by omega
            have hB1 : Below w.heap.size w (wr.alloc (.cells #[.bool x.no, .string (bs x.name), sv] 54)) := HB.out.alloc HB.out.size _
            have HC : Hid (Calls Try.prog 47 #[.agg #[.bool x.no, .string (bs x.name), sv]] (wr.alloc (.cells #[.bool x.no, .string (bs x.name), sv] 54)) fun e w2 => ∃ u, e = .returned u ∧
                Hid (strK.sl Anyw w2 u (vars x)) ∧ Hid (NamesM w2 bk 20 gb) ∧ Hid (Below w.heap.size w w2)) :=
              (varsC x sv _ (Kind.sl_below hsv hB1) (by omega) (fun t ht => short_max (fs t ht))).mono fun e w2 ⟨u, he, ho, hb⟩ => ⟨u, he, Kind.sl_any (Kind.own_sl ho (by have := vars_le x; omega)), (HM.out.later ((Later.refl _).alloc _)).below hb, below_trans hB1 hb (by simp; omega)⟩
            have HA : Hid (∀ w2 u, Hid (strK.sl Anyw w2 u (vars x)) → Hid (NamesM w2 bk 20 gb) → Hid (Below w.heap.size w w2) → Calls Try.prog 95 #[.map (some bk), u] w2 fun e w3 => e = .returned (.bool ((vars x).all gb)) ∧
                Hid (NamesM w3 bk 20 gb) ∧ Hid (Below w.heap.size w w3)) := fun w2 u h1 h2 h3 =>
              (hasAllC _ _ _ u (vars x) w2 h2.out h1.out (fun s hs => by obtain ⟨t, ht, rfl⟩ := vars_mem x s hs; exact short_max (fs t ht))).mono fun e w3 ⟨he, hL⟩ => ⟨he, h2.out.later hL, below_trans h3.out hL.below h3.out.size⟩
            have hst := all_step hx (fun a => (vars a).all gb)
            obtain ⟨a2, c2, rfl⟩ := Kind.slice hsv
            generalize hvx : (vars x).all gb = vx at *
            cases vx
            · have F2 : Hid (wrongBody l = 9) := by show _ = _; rw [F1.out, HF.out, hst]; rfl
              clear hst hc hx hsv hB1 HM HF hvx F1 fs
              generalize bs x.name = nm at *
              generalize x.no = xn at *
              go_wp2_with (first
                | (go_at_call 47; refine HC.out.mono ?_; rintro e w4 ⟨u, rfl, h1, h2, h3⟩)
                | (go_at_call 95; refine (HA.out w4 u h1 h2 h3).mono ?_; rintro e w5 ⟨rfl, k1, k2⟩))
              go_ret
              exact ⟨by rw [F2.out]; rfl, k2.out⟩
            · have HF1 : Hid (l.all (fun a => (vars a).all gb) = (l.drop (j + 1)).all (fun a => (vars a).all gb)) := by show _ = _; rw [HF.out, hst]; rfl
              clear hst hc hx hsv hB1 HM HF hvx fs
              generalize bs x.name = nm at *
              generalize x.no = xn at *
              go_wp2_with (first
                | (go_at_call 47; refine HC.out.mono ?_; rintro e w4 ⟨u, rfl, h1, h2, h3⟩)
                | (go_at_call 95; refine (HA.out w4 u h1 h2 h3).mono ?_; rintro e w5 ⟨rfl, k1, k2⟩))
              go_roundg (l.length - (j + 1))
              case measure => omega
              case rel => exact ⟨j + 1, by omega, by go_num, k1, HF1, k2⟩
          · have F2 : Hid (wrongBody l = 0) := by show _ = _; rw [F1.out, HF.out, List.drop_eq_nil_of_le (by omega)]; rfl
            go_wp2
            go_ret
            exact ⟨by rw [F2.out]; rfl, HB.out⟩

end Go.Proofs.Ythogickpeldhlaa
