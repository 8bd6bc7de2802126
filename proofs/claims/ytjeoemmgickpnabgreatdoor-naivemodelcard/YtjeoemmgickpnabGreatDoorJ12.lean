import Derived.Test.YtjeoemmgickpnabGreatDoorJ11
import Derived.Test.YtjeoemmgickpnabGreatDoorJ10
import Derived.Test.YtjeoemmgickpnabGreatDoorJ5
import Derived.Test.YtjeoemmgickpnabGreatDoorJ6
import Derived.Test.YtjeoemmgickpnabGreatDoorJ7
import Derived.Test.YtjeoemmgickpnabGreatDoorJ8
import Derived.Test.YtjeoemmgickpnabGreatDoorJ3
/- The walks of check.givenBy and check.Body. -/
namespace Go.Proofs.YtjeoemmgickpnabGreatDoor
open Go.RowKit Go.Sort Go.Maps

/-- What is right with an atom with which nothing is wrong. -/
theorem wrongAtom_zero {a : AtomD} (h : wrongAtom a = 0) : a.name.length ≤ 12 ∧ a.terms.length ≤ 4 ∧ ∀ t ∈ a.terms, t.2.length ≤ 12 := by
  unfold wrongAtom at h
  split at h
  · cases h
  · rename_i h0
    split at h
    · cases h
    · rename_i h1
      split at h
      · cases h
      · rename_i h2
        refine ⟨?_, by omega, fun t ht => ?_⟩
        · have : isNamed a.name = true := by simpa using h0
          unfold isNamed at this
          simp at this
          exact this.1.1
        · have h3 : wrongTerm t = false := by
            cases hc : wrongTerm t with
            | false => rfl
            | true => exact absurd (List.any_eq_true.2 ⟨t, ht, hc⟩) h2
          unfold wrongTerm at h3
          split at h3
          · have : isVar t.2 = true := by simpa using h3
            unfold isVar at this
            simp at this
            exact this.1.1
          · have : isNamed t.2 = true := by simpa using h3
            unfold isNamed at this
            simp at this
            exact this.1.1

theorem short_max {s : Bs} (h : s.length ≤ 12) : s.length ≤ maxLen := by simp [maxLen]; omega

theorem givenBy_step {l : List AtomD} {j : Nat} {a : AtomD} (h : l[j]? = some a) (s : Bs) : givenBy (l.take (j + 1)) s = (givenBy (l.take j) s || (!a.no && (vars a).contains s)) := by
  rw [List.take_add_one, h]
  simp [givenBy]

theorem vars_le (a : AtomD) : (vars a).length ≤ a.terms.length := by have := varsGo_len a.terms []; simpa [vars] using this
theorem vars_mem (a : AtomD) : ∀ s ∈ vars a, ∃ t ∈ a.terms, t.2 = s := by
  have : ∀ (ts : List TermD) (l : List Bs), (∀ s ∈ l, ∃ t ∈ a.terms, t.2 = s) → (∀ t ∈ ts, t ∈ a.terms) → ∀ s ∈ varsGo l ts, ∃ t ∈ a.terms, t.2 = s := by
    intro ts
    induction ts with
    | nil => intro l h _; exact h
    | cons t ts ih =>
      intro l h hsub
      refine ih _ (fun s hs0 => ?_) (fun u hu => hsub u (by simp [hu]))
      have hs : s ∈ (if t.1 then addNew l t.2 else l) := hs0
      clear hs0
      split at hs
      · unfold addNew at hs
        split at hs
        · exact h s hs
        · rcases List.mem_append.1 hs with hs | hs
          · exact h s hs
          · simp at hs; exact ⟨t, hsub t (by simp), hs.symm⟩
      · exact h s hs
  exact this a.terms [] (by simp) (fun t h => h)

set_option maxRecDepth 100000 in
set_option maxHeartbeats 2000000 in
theorem givenByC (l : List AtomD) (v : Value) (w : World) (hv : atomK.sl Anyw w v l) (hf : ∀ a ∈ l, wrongAtom a = 0) (hl : l.length ≤ 5) :
    Calls Tryz.prog 98 #[v] w fun e w' => e = .returned (.map (some w.heap.size)) ∧ NamesM w' w.heap.size 20 (givenBy l) ∧ Below w.heap.size w w' := by
  obtain ⟨sa, cap, rfl⟩ := Kind.slice hv
  have HV := hide hv
  clear hv
  have HF := hide hf
  clear hf
  have hmm := @run_makeMap Tryz.prog
  go_enter Tryz.func98, Tryz.ntmps98
  go_wp2
  go_loopg [9] l.length (fun k i wr => ∃ j : Nat, j + k = l.length ∧ i = .int .i64 j ∧ Hid (NamesM wr w.heap.size (4 * j) (givenBy (l.take j))) ∧ Hid (Below w.heap.size w wr) ∧ w.heap.size + 1 ≤ wr.heap.size)
  case atStart => exact ⟨0, by omega, rfl, SetM.made Tryz.prog 9 w, ((Later.refl w).alloc _).below, by simp⟩
  case round =>
    obtain ⟨j, hj, rfl, HM, HB, hsz⟩ := hrel
    by_cases hlt : j < l.length
    · obtain ⟨x, hx⟩ : ∃ x, l[j]? = some x := ⟨_, List.getElem?_eq_getElem hlt⟩
      obtain ⟨b1, o1, _, rfl, hb1, ⟨sv, rfl, hsv⟩, hc⟩ := Kind.sl_at HV.out hx
      have d0 : wr.cell? ⟨b1, o1 + j * 3, none⟩ = some (.bool x.no) := by rw [HB.out.cell hb1]; exact hc 0 _ rfl
      have d1 : wr.cell? ⟨b1, o1 + j * 3 + 1, none⟩ = some (.string (bs x.name)) := by rw [HB.out.cell hb1]; exact hc 1 _ rfl
      have d2 : wr.cell? ⟨b1, o1 + j * 3 + 2, none⟩ = some sv := by rw [HB.out.cell hb1]; exact hc 2 _ rfl
      obtain ⟨fn, ft, fs⟩ := wrongAtom_zero (HF.out x (List.mem_of_getElem? hx))
      have E := hide (givenBy_step hx)
      have hbr : b1 < wr.heap.size := by omega
      have hj5 : j < 5 := by omega
      clear hc hx
      cases hno : x.no
      · have HC : Hid (Calls Tryz.prog 100 #[.agg #[.bool false, .string (bs x.name), sv]] (wr.alloc (.cells #[.bool false, .string (bs x.name), sv] 40)) fun e w2 => ∃ u, e = .returned u ∧
            Hid (strK.sl (fun k => k ≠ w.heap.size) w2 u (vars x)) ∧ Hid (NamesM w2 w.heap.size (4 * j) (givenBy (l.take j))) ∧ Hid (Below w.heap.size w w2) ∧ w.heap.size + 1 ≤ w2.heap.size) := by
          have hB1 : Below w.heap.size w (wr.alloc (.cells #[.bool false, .string (bs x.name), sv] 40)) := HB.out.alloc HB.out.size _
          have := varsC x sv (wr.alloc (.cells #[.bool false, .string (bs x.name), sv] 40)) (Kind.sl_below hsv hB1) (by omega) (fun t ht => short_max (fs t ht))
          rw [hno] at this
          refine this.mono fun e w2 ⟨u, he, ho, hb⟩ => ⟨u, he, ?_, ?_, ?_, ?_⟩
          · refine Kind.sl_mono (Kind.own_sl ho (by have := vars_le x; omega)) fun k _ hk => ?_
            have : _ ≤ k := hk
            simp only [World.size_alloc] at this
            omega
          · exact (HM.out.later ((Later.refl _).alloc _)).below hb
          · exact below_trans hB1 hb (by simp; omega)
          · have := hb.size; simp at this; omega
        have HA : Hid (∀ w2 u, Hid (strK.sl (fun k => k ≠ w.heap.size) w2 u (vars x)) → Hid (NamesM w2 w.heap.size (4 * j) (givenBy (l.take j))) → Hid (Below w.heap.size w w2) → w.heap.size + 1 ≤ w2.heap.size → Calls Tryz.prog 135 #[.map (some w.heap.size), u] w2 fun e w3 => e = .returned (.tuple #[]) ∧
            Hid (NamesM w3 w.heap.size (4 * (j + 1)) (givenBy (l.take (j + 1)))) ∧ Hid (Below w.heap.size w w3) ∧ w.heap.size + 1 ≤ w3.heap.size) := fun w2 u h1 h2 h3 h4 => by
          have hvl := vars_le x
          refine (addC _ _ _ u (vars x) w2 h2.out h1.out (by simp [maxLen]; omega) (fun s hs => by obtain ⟨t, ht, rfl⟩ := vars_mem x s hs; exact short_max (fs t ht))).mono fun e w3 ⟨he, k1, k2⟩ => ⟨he, ?_, ?_, ?_⟩
          · exact (k1.mono (by omega)).congr fun s => by rw [E.out s, hno]; simp
          · exact below_trans h3.out (k2.below (n := w.heap.size) (Nat.le_refl _) (by omega)) (Nat.le_refl _)
          · have := k2.size; omega
        rw [hno] at d0
        obtain ⟨a2, c2, rfl⟩ := Kind.slice hsv
        clear hsv E HM HB fs hno
        generalize bs x.name = nm at *
        go_wp2_with (first
          | (go_at_call 100; refine HC.out.mono ?_; rintro e w2 ⟨u, rfl, h1, h2, h3, h4⟩)
          | (go_at_call 135; refine (HA.out w2 u h1 h2 h3 h4).mono ?_; rintro e w3 ⟨rfl, k1, k2, k3⟩))
        go_roundg (l.length - (j + 1))
        case measure => omega
        case rel => exact ⟨j + 1, by omega, by go_num, k1, k2, k3⟩
      · have E1 : Hid (∀ s, givenBy (l.take (j + 1)) s = givenBy (l.take j) s) := fun s => by rw [E.out s, hno]; simp
        rw [hno] at d0
        obtain ⟨a2, c2, rfl⟩ := Kind.slice hsv
        clear hsv E fs hno
        generalize bs x.name = nm at *
        go_wp2
        go_roundg (l.length - (j + 1))
        case measure => omega
        case rel => exact ⟨j + 1, by omega, by go_num, ((HM.out.later ((Later.refl _).alloc _)).mono (by omega)).congr fun s => (E1.out s).symm, HB.out.alloc HB.out.size _, by simp; omega⟩
    · have e : j = l.length := by omega
      subst e
      have HM2 : Hid (NamesM wr w.heap.size 20 (givenBy l)) := by have := HM.out; rw [List.take_length] at this; exact this.mono (by omega)
      go_wp2
      go_ret
      exact ⟨rfl, HM2.out, HB.out⟩

theorem wrongAtoms_step {l : List AtomD} {j : Nat} {a : AtomD} (h : l[j]? = some a) : wrongAtoms (l.drop j) = if wrongAtom a = 0 then wrongAtoms (l.drop (j + 1)) else wrongAtom a := by
  obtain ⟨h1, e1⟩ := List.getElem?_eq_some_iff.1 h
  rw [List.drop_eq_getElem_cons h1, e1]; rfl

set_option maxRecDepth 100000 in
set_option maxHeartbeats 4000000 in
theorem chkBodyC (l : List AtomD) (v : Value) (w : World) (hv : atomK.sl Anyw w v l) :
    Calls Tryz.prog 97 #[v] w fun e w' => e = .returned (.int .i64 (wrongBody l)) ∧ Below w.heap.size w w' := by
  obtain ⟨sa, cap, rfl⟩ := Kind.slice hv
  have hl0 := hv.1.1
  have HV := hide hv
  clear hv
  by_cases h5 : 5 < l.length
  · have F : Hid (wrongBody l = 5) := by show _ = _; unfold wrongBody; rw [if_pos h5]
    go_enter Tryz.func97, Tryz.ntmps97
    go_wp2
    go_ret
    exact ⟨by rw [F.out]; rfl, Below.refl _ _⟩
  · have F : Hid (wrongBody l = if wrongAtoms l = 0 then (if l.all (fun a => (vars a).all (givenBy l)) then 0 else 9) else wrongAtoms l) := by show _ = _; unfold wrongBody; rw [if_neg h5]
    go_enter Tryz.func97, Tryz.ntmps97
    go_wp2
    go_loopg [14] l.length (fun k i wr => ∃ j : Nat, j + k = l.length ∧ i = .int .i64 j ∧ Hid (wrongAtoms l = wrongAtoms (l.drop j)) ∧ Hid (∀ a ∈ l.take j, wrongAtom a = 0) ∧ Hid (Below w.heap.size w wr))
    case atStart => exact ⟨0, by omega, rfl, (rfl : _ = _), (fun a ha => by simp at ha), Below.refl _ _⟩
    case round =>
      obtain ⟨j, hj, rfl, HE, HG, HB⟩ := hrel
      have hwr := HB.out.size
      by_cases hlt : j < l.length
      · obtain ⟨x, hx⟩ : ∃ x, l[j]? = some x := ⟨_, List.getElem?_eq_getElem hlt⟩
        obtain ⟨b1, o1, _, rfl, hb1, ⟨sv, rfl, hsv⟩, hc⟩ := Kind.sl_at HV.out hx
        have d0 : wr.cell? ⟨b1, o1 + j * 3, none⟩ = some (.bool x.no) := by rw [HB.out.cell hb1]; exact hc 0 _ rfl
        have d1 : wr.cell? ⟨b1, o1 + j * 3 + 1, none⟩ = some (.string (bs x.name)) := by rw [HB.out.cell hb1]; exact hc 1 _ rfl
        have d2 : wr.cell? ⟨b1, o1 + j * 3 + 2, none⟩ = some sv := by rw [HB.out.cell hb1]; exact hc 2 _ rfl
        have hbr : b1 < wr.heap.size := by omega
        have hB1 : Below w.heap.size w (wr.alloc (.cells #[.bool x.no, .string (bs x.name), sv] 40)) := HB.out.alloc HB.out.size _
        have HC : Hid (Calls Tryz.prog 96 #[.agg #[.bool x.no, .string (bs x.name), sv]] (wr.alloc (.cells #[.bool x.no, .string (bs x.name), sv] 40)) fun e w2 => e = .returned (.int .i64 (wrongAtom x)) ∧ Hid (Below w.heap.size w w2)) :=
          (wrongAtomC x sv _ (Kind.sl_below hsv hB1)).mono fun e w2 ⟨he, hL⟩ => ⟨he, below_trans hB1 hL.below (by simp; omega)⟩
        have hst := wrongAtoms_step hx
        obtain ⟨a2, c2, rfl⟩ := Kind.slice hsv
        by_cases h0 : wrongAtom x = 0
        · have HE1 : Hid (wrongAtoms l = wrongAtoms (l.drop (j + 1))) := by show _ = _; rw [HE.out, hst, if_pos h0]
          have HG1 : Hid (∀ a ∈ l.take (j + 1), wrongAtom a = 0) := fun a ha => by
            rw [List.take_add_one, hx] at ha
            rcases List.mem_append.1 ha with ha | ha
            · exact HG.out a ha
            · simp at ha; rw [ha]; exact h0
          rw [h0] at HC
          clear hst hc hx hsv hB1 HE HG h0
          generalize bs x.name = nm at *
          generalize x.no = xn at *
          go_wp2_with (go_at_call 96; refine HC.out.mono ?_; rintro e w2 ⟨rfl, hB2⟩)
          go_roundg (l.length - (j + 1))
          case measure => omega
          case rel => exact ⟨j + 1, by omega, by go_num, HE1, HG1, hB2⟩
        · have F2 : Hid (wrongBody l = wrongAtom x) := by show _ = _; rw [F.out, HE.out, hst, if_neg h0, if_neg h0]
          have hq : (wrongAtom x != 0) = true := by simpa using h0
          clear hst hc hx hsv hB1 HE HG h0
          generalize bs x.name = nm at *
          generalize x.no = xn at *
          generalize wrongAtom x = ex at *
          go_wp2_with (go_at_call 96; refine HC.out.mono ?_; rintro e w2 ⟨rfl, hB2⟩)
          go_ret
          exact ⟨by rw [F2.out]; rfl, hB2.out⟩
      · have e : j = l.length := by omega
        subst e
        have HG1 : Hid (∀ a ∈ l, wrongAtom a = 0) := by have := HG.out; rw [List.take_length] at this; exact this
        have F1 : Hid (wrongBody l = if l.all (fun a => (vars a).all (givenBy l)) then 0 else 9) := by
          show _ = _
          rw [F.out, if_pos]
          rw [HE.out, List.drop_length]; rfl
        have HGB : Hid (Calls Tryz.prog 98 #[.slice sa l.length cap] wr fun e w' => e = .returned (.map (some wr.heap.size)) ∧ Hid (NamesM w' wr.heap.size 20 (givenBy l)) ∧ Hid (Below w.heap.size w w') ∧ Hid (Below wr.heap.size wr w')) :=
          (givenByC l _ wr (Kind.sl_below HV.out HB.out) HG1.out (by omega)).mono fun e w' ⟨he, h1, h2⟩ => ⟨he, h1, below_trans HB.out h2 hwr, h2⟩
        clear HE HG HB F
        generalize hgb : givenBy l = gb at *
        clear hgb
        generalize hbk : wr.heap.size = bk at *
        clear hbk
        go_wp2_with (go_at_call 98; refine HGB.out.mono ?_; rintro e w3 ⟨rfl, hM3, hB3, _⟩)
        go_loopg [28] l.length (fun k i wr => ∃ j : Nat, j + k = l.length ∧ i = .int .i64 j ∧ Hid (NamesM wr bk 20 gb) ∧ Hid (l.all (fun a => (vars a).all gb) = (l.drop j).all (fun a => (vars a).all gb)) ∧ Hid (Below w.heap.size w wr))
        case atStart => exact ⟨0, by omega, rfl, hM3, (rfl : _ = _), hB3⟩
        case round =>
          obtain ⟨j, hj, rfl, HM, HF, HB⟩ := hrel
          have hwr := HB.out.size
          by_cases hlt : j < l.length
          · obtain ⟨x, hx⟩ : ∃ x, l[j]? = some x := ⟨_, List.getElem?_eq_getElem hlt⟩
            obtain ⟨b1, o1, _, rfl, hb1, ⟨sv, rfl, hsv⟩, hc⟩ := Kind.sl_at HV.out hx
            have d0 : wr.cell? ⟨b1, o1 + j * 3, none⟩ = some (.bool x.no) := by rw [HB.out.cell hb1]; exact hc 0 _ rfl
            have d1 : wr.cell? ⟨b1, o1 + j * 3 + 1, none⟩ = some (.string (bs x.name)) := by rw [HB.out.cell hb1]; exact hc 1 _ rfl
            have d2 : wr.cell? ⟨b1, o1 + j * 3 + 2, none⟩ = some sv := by rw [HB.out.cell hb1]; exact hc 2 _ rfl
            obtain ⟨fn, ft, fs⟩ := wrongAtom_zero (HG1.out x (List.mem_of_getElem? hx))
            have hbr : b1 < wr.heap.size := by omega
            have hB1 : Below w.heap.size w (wr.alloc (.cells #[.bool x.no, .string (bs x.name), sv] 40)) := HB.out.alloc HB.out.size _
            have HC : Hid (Calls Tryz.prog 100 #[.agg #[.bool x.no, .string (bs x.name), sv]] (wr.alloc (.cells #[.bool x.no, .string (bs x.name), sv] 40)) fun e w2 => ∃ u, e = .returned u ∧
                Hid (strK.sl Anyw w2 u (vars x)) ∧ Hid (NamesM w2 bk 20 gb) ∧ Hid (Below w.heap.size w w2)) :=
              (varsC x sv _ (Kind.sl_below hsv hB1) (by omega) (fun t ht => short_max (fs t ht))).mono fun e w2 ⟨u, he, ho, hb⟩ => ⟨u, he, Kind.sl_any (Kind.own_sl ho (by have := vars_le x; omega)), (HM.out.later ((Later.refl _).alloc _)).below hb, below_trans hB1 hb (by simp; omega)⟩
            have HA : Hid (∀ w2 u, Hid (strK.sl Anyw w2 u (vars x)) → Hid (NamesM w2 bk 20 gb) → Hid (Below w.heap.size w w2) → Calls Tryz.prog 99 #[.map (some bk), u] w2 fun e w3 => e = .returned (.bool ((vars x).all gb)) ∧
                Hid (NamesM w3 bk 20 gb) ∧ Hid (Below w.heap.size w w3)) := fun w2 u h1 h2 h3 =>
              (hasAllC _ _ _ u (vars x) w2 h2.out h1.out (fun s hs => by obtain ⟨t, ht, rfl⟩ := vars_mem x s hs; exact short_max (fs t ht))).mono fun e w3 ⟨he, hL⟩ => ⟨he, h2.out.later hL, below_trans h3.out hL.below h3.out.size⟩
            have hst := all_step hx (fun a => (vars a).all gb)
            obtain ⟨a2, c2, rfl⟩ := Kind.slice hsv
            generalize hvx : (vars x).all gb = vx at *
            cases vx
            · have F2 : Hid (wrongBody l = 9) := by show _ = _; rw [F1.out, HF.out, hst]; rfl
              clear hst hc hx hsv hB1 HM HF hvx F1 fs
              generalize bs x.name = nm at *
              generalize x.no = xn at *
              go_wp2_with (first
                | (go_at_call 100; refine HC.out.mono ?_; rintro e w4 ⟨u, rfl, h1, h2, h3⟩)
                | (go_at_call 99; refine (HA.out w4 u h1 h2 h3).mono ?_; rintro e w5 ⟨rfl, k1, k2⟩))
              go_ret
              exact ⟨by rw [F2.out]; rfl, k2.out⟩
            · have HF1 : Hid (l.all (fun a => (vars a).all gb) = (l.drop (j + 1)).all (fun a => (vars a).all gb)) := by show _ = _; rw [HF.out, hst]; rfl
              clear hst hc hx hsv hB1 HM HF hvx fs
              generalize bs x.name = nm at *
              generalize x.no = xn at *
              go_wp2_with (first
                | (go_at_call 100; refine HC.out.mono ?_; rintro e w4 ⟨u, rfl, h1, h2, h3⟩)
                | (go_at_call 99; refine (HA.out w4 u h1 h2 h3).mono ?_; rintro e w5 ⟨rfl, k1, k2⟩))
              go_roundg (l.length - (j + 1))
              case measure => omega
              case rel => exact ⟨j + 1, by omega, by go_num, k1, HF1, k2⟩
          · have F2 : Hid (wrongBody l = 0) := by show _ = _; rw [F1.out, HF.out, List.drop_eq_nil_of_le (by omega)]; rfl
            go_wp2
            go_ret
            exact ⟨by rw [F2.out]; rfl, HB.out⟩

end Go.Proofs.YtjeoemmgickpnabGreatDoor

/- The walks of match.source, its closure, and match.met. -/
namespace Go.Proofs.YtjeoemmgickpnabGreatDoor
open Go.RowKit Go.Sort Go.Maps

theorem Strs.below {w w' : World} {v : Value} {l : List ByteArray} (h : Strs w v l) (k : Below w.heap.size w w') : Strs w' v l := by
  obtain ⟨h0, a, cap, rfl, h1⟩ := h
  refine ⟨h0, a, cap, rfl, fun hl => ?_⟩
  obtain ⟨b, off, rfl, hb, hc⟩ := h1 hl
  exact ⟨b, off, rfl, Nat.lt_of_lt_of_le hb k.size, fun i hi => by rw [k.cell (p := ⟨b, off + i, none⟩) hb]; exact hc i hi⟩

theorem Facts.below {w w' : World} {v : Value} {l : List FactD} (h : Facts w v l) (k : Below w.heap.size w w') : Facts w' v l := by
  obtain ⟨h0, a, cap, rfl, h1⟩ := h
  refine ⟨h0, a, cap, rfl, fun hl => ?_⟩
  obtain ⟨b, off, rfl, hb, hc⟩ := h1 hl
  refine ⟨b, off, rfl, Nat.lt_of_lt_of_le hb k.size, fun i hi => ?_⟩
  obtain ⟨c1, s, c2, c3⟩ := hc i hi
  exact ⟨by rw [k.cell (p := ⟨b, off + i * 2, none⟩) hb]; exact c1, s, by rw [k.cell (p := ⟨b, off + i * 2 + 1, none⟩) hb]; exact c2, c3.below k⟩

/-- Of which facts an atom is met. -/
def pickB (fs : List FactD) (at_ : Int) (os : List FactD) : Nat → List FactD := fun n => if (n : Int) = at_ then os else fs

/-- What is asked of the closure that tells it: in whatever world leaves all below n as it was. -/
def Picks (g : Nat) (cb : Array Value) (pick : Nat → List FactD) (n : Nat) (w0 : World) : Prop := ∀ (W : World) (k : Nat), Below n w0 W → (k : Int) ≤ 100 →
  Calls Tryz.prog g (#[.int .i64 k] ++ cb) W fun e w' => ∃ v, e = .returned v ∧ Facts w' v (pick k) ∧ Later W w'

theorem Picks.below {g : Nat} {cb : Array Value} {pick : Nat → List FactD} {n m : Nat} {a b : World} (h : Picks g cb pick n a) (k : Below n a b) (hm : n ≤ m) : Picks g cb pick m b := fun W i hW hi => h W i (below_trans k hW hm) hi

theorem enters_source1 : ∀ args w, (callFunc 137 args).run Tryz.prog w = .ok (.enter 137 args) w := enters_of Tryz.func137 (by kernel_rfl) rfl

set_option maxHeartbeats 400000 in
theorem sourceC (fv ov : Value) (fs os : List FactD) (at_ : Int) (w : World) (hf : Facts w fv fs) (ho : Facts w ov os) :
    Calls Tryz.prog 103 #[fv, .int .i64 at_, ov] w fun e w' => e = .returned (.func (.func 137) #[] #[.pointer (some ⟨w.heap.size + 1, 0, none⟩), .pointer (some ⟨w.heap.size + 2, 0, none⟩), .pointer (some ⟨w.heap.size, 0, none⟩)]) ∧ Later w w' ∧ w'.heap.size = w.heap.size + 3 ∧
      w'.cell? ⟨w.heap.size, 0, none⟩ = some fv ∧ w'.cell? ⟨w.heap.size + 1, 0, none⟩ = some (.int .i64 at_) ∧ w'.cell? ⟨w.heap.size + 2, 0, none⟩ = some ov := by
  obtain ⟨fa, capf, rfl⟩ := sliceFacts hf
  obtain ⟨oa, capo, rfl⟩ := sliceFacts ho
  clear hf ho
  go_enter Tryz.func103, Tryz.ntmps103
  go_wp2
  go_ret
  refine ⟨rfl, (by repeat (first | exact Later.refl _ | assumption | refine Later.drewN ?_ _ | refine Later.drew ?_ | refine Later.alloc ?_ _ | refine Later.grow ?_ _)), by simp, (row1 (t := 24) ?_).1, (row1 (t := 3) ?_).1, (row1 (t := 24) ?_).1⟩
  all_goals
    simp only [heap_at, World.size_alloc]
    repeat (first | rw [if_pos trivial] | rw [if_pos (by omega)] | rw [if_neg (by omega)])

set_option maxHeartbeats 1000000 in
theorem source1C (c0 c1 c2 : Nat) (fv ov : Value) (fs os : List FactD) (at_ : Int) (n : Nat) (w0 : World) (hf : Facts w0 fv fs) (ho : Facts w0 ov os) (h0 : w0.cell? ⟨c0, 0, none⟩ = some fv) (h1 : w0.cell? ⟨c1, 0, none⟩ = some (.int .i64 at_)) (h2 : w0.cell? ⟨c2, 0, none⟩ = some ov) (b0 : c0 < n) (b1 : c1 < n) (b2 : c2 < n) (hn : n = w0.heap.size) :
    Picks 137 #[.pointer (some ⟨c1, 0, none⟩), .pointer (some ⟨c2, 0, none⟩), .pointer (some ⟨c0, 0, none⟩)] (pickB fs at_ os) n w0 := by
  intro W k hW hk
  have hW' : Below w0.heap.size w0 W := by rw [← hn]; exact hW
  have z0 : W.cell? ⟨c0, 0, none⟩ = some fv := by rw [hW.cell b0]; exact h0
  have z1 : W.cell? ⟨c1, 0, none⟩ = some (.int .i64 at_) := by rw [hW.cell b1]; exact h1
  have z2 : W.cell? ⟨c2, 0, none⟩ = some ov := by rw [hW.cell b2]; exact h2
  have HF := hide (hf.below hW')
  have HO := hide (ho.below hW')
  obtain ⟨fa, capf, rfl⟩ := sliceFacts hf
  obtain ⟨oa, capo, rfl⟩ := sliceFacts ho
  have s0 : c0 < W.heap.size := by have := hW.size; omega
  have s1 : c1 < W.heap.size := by have := hW.size; omega
  have s2 : c2 < W.heap.size := by have := hW.size; omega
  clear hf ho h0 h1 h2 hW' hW
  unfold pickB
  show Calls _ _ #[.int .i64 k, .pointer (some ⟨c1, 0, none⟩), .pointer (some ⟨c2, 0, none⟩), .pointer (some ⟨c0, 0, none⟩)] _ _
  by_cases he : (k : Int) = at_
  · have HE := hide he
    have hq : ((k : Int) == at_) = true := by simpa using he
    have hP : (if (k : Int) = at_ then os else fs) = os := if_pos he
    rw [hP]
    clear he hP HF
    go_enter Tryz.func137, Tryz.ntmps137
    go_wp2
    go_ret
    exact ⟨_, rfl, HO.out, Later.refl _⟩
  · have hq : ((k : Int) == at_) = false := by simpa using he
    have hP : (if (k : Int) = at_ then os else fs) = fs := if_neg he
    rw [hP]
    clear he hP HO
    go_enter Tryz.func137, Tryz.ntmps137
    go_wp2
    go_ret
    exact ⟨_, rfl, HF.out, Later.refl _⟩

theorem meetGo_len : ∀ (ts : List TermD) (xs : List ByteArray) (l m : List BindD), meetGo l ts xs = some m → m.length ≤ l.length + ts.length
  | [], _, l, m, h => by cases h; simp
  | _ :: _, [], _, _, h => by cases h
  | t :: ts, x :: xs, l, m, h => by
    simp only [meetGo] at h
    split at h
    · have := meetGo_len ts xs _ m h
      simp at this ⊢; omega
    · split at h
      · have := meetGo_len ts xs _ m h
        simp; omega
      · cases h

theorem meetAllB_len {a : AtomD} {fs : List FactB} {ls : List (List BindD)} {n : Nat} (h : ∀ l ∈ ls, l.length ≤ n) : ∀ m ∈ meetAllB a fs ls, m.length ≤ n + a.terms.length := fun m hm => by
  obtain ⟨l, hl, f, _, hf⟩ := mem_meetAllB.1 hm
  have h1 := h l hl
  unfold meetB at hf
  split at hf
  · have := meetGo_len _ _ _ _ hf; omega
  · cases hf

theorem metGo_step {pick : Nat → List FactB} {body : List AtomD} {j : Nat} {a : AtomD} (h : body[j]? = some a) (ls : List (List BindD)) : metGo pick j (body.drop j) ls = if a.no then metGo pick (j + 1) (body.drop (j + 1)) ls else if 20000 < (meetAllB a (pick j) ls).length then none else metGo pick (j + 1) (body.drop (j + 1)) (meetAllB a (pick j) ls) := by
  obtain ⟨h1, e1⟩ := List.getElem?_eq_some_iff.1 h
  rw [List.drop_eq_getElem_cons h1, e1]; rfl

/-- What met tells. -/
def MetT (w0 w : World) (v : Value) (e : Int) (r : Option (List (List BindD))) : Prop := match r with
  | none => v = .slice none 0 0 ∧ e = 4
  | some ms => e = 0 ∧ ∃ ps, ps.map (·.2) = ms ∧ ms.length ≤ 20000 ∧ (∀ m ∈ ms, m.length ≤ 20) ∧ Lists 58 147 w0.heap.size w v ps

theorem lists_one (lo : Nat) (w : World) (hlo : lo ≤ w.heap.size) : Lists 58 147 lo (w.alloc (.cells #[.slice none 0 0] 58)) (.slice (some ⟨w.heap.size, 0, none⟩) 1 1) [(.slice none 0 0, [])] := by
  refine ⟨⟨rfl, Or.inr ⟨w.heap.size, 1, #[.slice none 0 0], rfl, hlo, heap_alloc_new _ _, by simp, by simp [maxLen], rfl, rfl⟩⟩, fun p hp => ?_, List.pairwise_singleton _ _⟩
  simp at hp
  subst hp
  exact ⟨bindK.own_nil _ _ _, fun k e => by simp [Value.ownBlock] at e⟩

set_option maxRecDepth 100000 in
set_option maxHeartbeats 4000000 in
theorem metC (body : List AtomD) (v : Value) (g : Nat) (cb : Array Value) (eg : ∀ args w, (callFunc g args).run Tryz.prog w = .ok (.enter g args) w) (pick : Nat → List FactD) (w : World) (hv : atomK.sl Anyw w v body) (hp : Picks g cb pick w.heap.size w) (hb : body.length ≤ 5) (ha : ∀ a ∈ body, a.terms.length ≤ 4) (hfs : ∀ n, (pick n).length ≤ 200) :
    Calls Tryz.prog 104 #[v, .func (.func g) #[] cb] w fun e w' => ∃ v' er, e = .returned (.tuple #[v', .int .i64 er]) ∧ MetT w w' v' er (metGo pick 0 body [[]]) ∧ Later w w' := by
  obtain ⟨sa, cap, rfl⟩ := Kind.slice hv
  have HV := hide hv
  have HP := hide hp
  have HA := hide ha
  have HFS := hide hfs
  clear hv hp ha hfs
  generalize hR : metGo pick 0 body [[]] = R at *
  have H0 : Hid (R = metGo pick 0 (body.drop 0) [[]]) := hR.symm
  clear hR
  go_enter Tryz.func104, Tryz.ntmps104
  go_wp2
  go_loopg [6, 13] body.length (fun gg o i wr => ∃ j : Nat, j + gg = body.length ∧ i = .int .i64 j ∧ ∃ ps, Hid (R = metGo pick j (body.drop j) (ps.map (·.2))) ∧ Hid (Lists 58 147 w.heap.size wr o ps) ∧ Hid (ps.length ≤ 20000) ∧ Hid (∀ p ∈ ps, p.2.length ≤ 4 * j) ∧ Hid (Later w wr))
  case atStart =>
    exact ⟨0, by omega, rfl, [(.slice none 0 0, [])], H0, lists_one _ _ (Nat.le_refl _), (by simp : _ ≤ _), (fun p hp => by simp at hp; subst hp; simp), ((by repeat (first | exact Later.refl _ | assumption | refine Later.drewN ?_ _ | refine Later.drew ?_ | refine Later.alloc ?_ _ | refine Later.grow ?_ _)) : Later _ _)⟩
  case round =>
    obtain ⟨j, hj, rfl, ps, HE, HO, HN, HQ, HL⟩ := hrel
    have hn := HN.out
    obtain ⟨ao, no', co, rfl⟩ : ∃ a n c, u6 = .slice a n c := by obtain ⟨a, c, e⟩ := Lists.slice HO.out; exact ⟨a, _, c, e⟩
    by_cases hlt : j < body.length
    · obtain ⟨a, hx⟩ : ∃ x, body[j]? = some x := ⟨_, List.getElem?_eq_getElem hlt⟩
      obtain ⟨b1, o1, _, rfl, hb1, ⟨sv, rfl, hsv⟩, hc⟩ := Kind.sl_at HV.out hx
      have d0 : wr.cell? ⟨b1, o1 + j * 3, none⟩ = some (.bool a.no) := by rw [HL.out.cell hb1]; exact hc 0 _ rfl
      have d1 : wr.cell? ⟨b1, o1 + j * 3 + 1, none⟩ = some (.string (bs a.name)) := by rw [HL.out.cell hb1]; exact hc 1 _ rfl
      have d2 : wr.cell? ⟨b1, o1 + j * 3 + 2, none⟩ = some sv := by rw [HL.out.cell hb1]; exact hc 2 _ rfl
      have hbr : b1 < wr.heap.size := Nat.lt_of_lt_of_le hb1 HL.out.size
      have hat := HA.out a (List.mem_of_getElem? hx)
      have HS := hide (metGo_step (pick := pick) hx (ps.map (·.2)))
      obtain ⟨sva, svc, rfl⟩ := Kind.slice hsv
      have HSV := hide hsv
      clear hc hx hsv
      cases hno : a.no
      · have HS1 : Hid (R = if 20000 < (meetAllB a (pick j) (ps.map (·.2))).length then none else metGo pick (j + 1) (body.drop (j + 1)) (meetAllB a (pick j) (ps.map (·.2)))) := by
          show _ = _
          rw [HE.out, HS.out, hno]; rfl
        rw [hno] at d0
        obtain ⟨wb, hwb⟩ : ∃ wb, wb = wr.alloc (.cells #[.bool false, .string (bs a.name), .slice sva a.terms.length svc] 40) := ⟨_, rfl⟩
        have hLb : Later w wb := by rw [hwb]; exact HL.out.alloc _
        have hLr : Later wr wb := by rw [hwb]; exact (Later.refl _).alloc _
        have z : wb.cell? ⟨wr.heap.size, 0, none⟩ = some (.bool false) ∧ wb.cell? ⟨wr.heap.size, 1, none⟩ = some (.string (bs a.name)) ∧ wb.cell? ⟨wr.heap.size, 2, none⟩ = some (.slice sva a.terms.length svc) := by rw [hwb]; simp
        have hsb : wr.heap.size < wb.heap.size := by rw [hwb]; simp
        have CELL : Hid (∀ w', Later wb w' → w'.cell? ⟨wr.heap.size, 0, none⟩ = some (.bool false) ∧ w'.cell? ⟨wr.heap.size, 1, none⟩ = some (.string (bs a.name)) ∧ w'.cell? ⟨wr.heap.size, 2, none⟩ = some (.slice sva a.terms.length svc)) := fun w' hL =>
          ⟨by rw [hL.cell hsb]; exact z.1, by rw [hL.cell hsb]; exact z.2.1, by rw [hL.cell hsb]; exact z.2.2⟩
        have HFr : Hid (∀ w', Later wb w' → Calls Tryz.prog g (#[.int .i64 j] ++ cb) w' fun e w2 => ∃ v, e = .returned v ∧ Facts w2 v (pick j) ∧ Later w' w2) := fun w' hL =>
          HP.out w' j (hLb.trans hL).below (by omega)
        have HMA : Hid (∀ w' fv, Later wb w' → Facts w' fv (pick j) → Calls Tryz.prog 138 #[.agg #[.bool false, .string (bs a.name), .slice sva a.terms.length svc], fv, .slice ao no' co] w' fun e w2 => ∃ v' er, e = .returned (.tuple #[v', .int .i64 er]) ∧ Hid (er = if 20000 < (meetAllB a (pick j) (ps.map (·.2))).length then 4 else 0) ∧ Hid (MetAll w' w2 v' (meetAllB a (pick j) (ps.map (·.2)))) ∧ Later w' w2) := fun w' fv hL hf => by
          have h1 := meetAllC a _ fv (.slice ao no' co) (pick j) (ps.map (·.2)) w' (Kind.sl_later HSV.out (hLb.trans hL)) hf (Kind.sl_any ((HO.out.later (hLr.trans hL)).sl (by omega) (fun p hp => by have := HQ.out p hp; omega))) (HFS.out j) (by simpa using hn) hat (fun l hl => by
            obtain ⟨p, hp, rfl⟩ := List.mem_map.1 hl
            have := HQ.out p hp; omega)
          rw [hno] at h1
          exact h1.mono fun e w2 ⟨v', he, hm, hl⟩ => ⟨v', _, he, (rfl : _ = _), hm, hl⟩
        have HWB := hide hwb
        have HQ1 : Hid (∀ m ∈ meetAllB a (pick j) (ps.map (·.2)), m.length ≤ 4 * (j + 1)) := fun m hm => by
          have := meetAllB_len (a := a) (fs := pick j) (ls := ps.map (·.2)) (n := 4 * j) (fun l hl => by
            obtain ⟨p, hp, rfl⟩ := List.mem_map.1 hl
            exact HQ.out p hp) m hm
          omega
        clear hwb z hsb HE HS HSV hno
        generalize meetAllB a (pick j) (ps.map (·.2)) = MA at *
        generalize bs a.name = nm at *
        go_wp2
        rw [← HWB.out]
        refine wp_region_held_drew (S := fun w' => Later wb w') (by kernel_rfl) (Later.refl _).drew (fun hHeld => ?_)
        refine take_at (i := 0) (d := some 21) (v := ?_) rfl rfl (by kernel_rfl) (by kernel_rfl) (by kernel_rfl) (fun _ _ _ h => h) (Or.inl ⟨by rfl, ?_⟩) hHeld ?_
        rotate_left
        · intro w hSw; (try dsimp only at hSw); obtain ⟨q0, q1, q2⟩ := CELL.out w hSw; go_simp; try with_reducible rfl
        simp only [Act.put, List.setIfInBounds_toArray, List.set_cons_zero, List.set_cons_succ]
        refine take_at (i := 1) (d := some 22) (v := ?_) rfl rfl (by kernel_rfl) (by kernel_rfl) (by kernel_rfl) (fun _ _ _ h => h) (Or.inl ⟨by rfl, ?_⟩) hHeld ?_
        rotate_left
        · intro w hSw; (try dsimp only at hSw);  go_simp; try with_reducible rfl
        simp only [Act.put, List.setIfInBounds_toArray, List.set_cons_zero, List.set_cons_succ]
        refine take_at (i := 2) (d := some 23) (v := ?_) rfl rfl (by kernel_rfl) (by kernel_rfl) (by kernel_rfl) (fun _ _ _ h => h) (Or.inl ⟨by rfl, ?_⟩) hHeld ?_
        rotate_left
        · intro w hSw; (try dsimp only at hSw);  go_simp; try with_reducible rfl
        simp only [Act.put, List.setIfInBounds_toArray, List.set_cons_zero, List.set_cons_succ]
        refine take_at (i := 4) (d := some 25) (v := ?_) rfl rfl (by kernel_rfl) (by kernel_rfl) (by kernel_rfl) (fun _ _ _ h => h) (Or.inl ⟨by rfl, ?_⟩) hHeld ?_
        rotate_left
        · intro w hSw; (try dsimp only at hSw);  go_simp; try with_reducible rfl
        simp only [Act.put, List.setIfInBounds_toArray, List.set_cons_zero, List.set_cons_succ]
        refine wpAnyH_ready (rs := [3]) (by kernel_rfl) (by simp) ?_
        refine AllReadyH.cons rfl (fun K hK => ?_) AllReadyH.nil
        go_simp
        refine (HFr.out _ hHeld).mono ?_
        rintro e u1 ⟨fv, rfl, hfv, hU1⟩
        dsimp only
        have hU1' : Later wb u1 := Later.trans hHeld hU1
        refine hK.out _ _ hU1' (fun hHeld => ?_)
        clear hK K
        refine wpAnyH_ready (rs := [5]) (by kernel_rfl) (by simp) ?_
        refine AllReadyH.cons rfl (fun K hK => ?_) AllReadyH.nil
        go_simp
        refine (HMA.out _ fv hU1' hfv).mono ?_
        rintro e u2 ⟨v', er, rfl, HER, HMT, hU2⟩
        dsimp only
        have hU2' : Later wb u2 := hU1'.trans hU2
        refine hK.out _ _ hU2' (fun hHeld => ?_)
        clear hK K
        refine take_at (i := 6) (d := some 20) (v := ?_) rfl rfl (by kernel_rfl) (by kernel_rfl) (by kernel_rfl) (fun _ _ _ h => h) (Or.inl ⟨by rfl, ?_⟩) hHeld ?_
        rotate_left
        · intro w hSw; (try dsimp only at hSw);  go_simp; try with_reducible rfl
        simp only [Act.put, List.setIfInBounds_toArray, List.set_cons_zero, List.set_cons_succ]
        refine take_at (i := 7) (d := some 27) (v := ?_) rfl rfl (by kernel_rfl) (by kernel_rfl) (by kernel_rfl) (fun _ _ _ h => h) (Or.inl ⟨by rfl, ?_⟩) hHeld ?_
        rotate_left
        · intro w hSw; (try dsimp only at hSw);  go_simp; try with_reducible rfl
        simp only [Act.put, List.setIfInBounds_toArray, List.set_cons_zero, List.set_cons_succ]
        refine take_at (i := 8) (d := some 28) (v := ?_) rfl rfl (by kernel_rfl) (by kernel_rfl) (by kernel_rfl) (fun _ _ _ h => h) (Or.inl ⟨by rfl, ?_⟩) hHeld ?_
        rotate_left
        · intro w hSw; (try dsimp only at hSw);  go_simp; try with_reducible rfl
        simp only [Act.put, List.setIfInBounds_toArray, List.set_cons_zero, List.set_cons_succ]
        refine take_at (i := 9) (d := some 6) (v := ?_) rfl rfl (by kernel_rfl) (by kernel_rfl) (by kernel_rfl) (fun _ _ _ h => h) (Or.inl ⟨by rfl, ?_⟩) hHeld ?_
        rotate_left
        · intro w hSw; (try dsimp only at hSw);  go_simp; try with_reducible rfl
        simp only [Act.put, List.setIfInBounds_toArray, List.set_cons_zero, List.set_cons_succ]
        refine take_at (i := 10) (d := some 9) (v := ?_) rfl rfl (by kernel_rfl) (by kernel_rfl) (by kernel_rfl) (fun _ _ _ h => h) (Or.inl ⟨by rfl, ?_⟩) hHeld ?_
        rotate_left
        · intro w hSw; (try dsimp only at hSw);  go_simp; try with_reducible rfl
        simp only [Act.put, List.setIfInBounds_toArray, List.set_cons_zero, List.set_cons_succ]
        refine wpAnyH_done (by kernel_rfl) ?_ _
        have hLu : Later w u2 := hLb.trans hU2'
        have hsu : w.heap.size ≤ u1.heap.size := (hLb.trans hU1').size
        by_cases hbig : 20000 < MA.length
        · have HR : Hid (R = none) := by show _ = _; rw [HS1.out, if_pos hbig]
          have he : er = 4 := by rw [HER.out, if_pos hbig]
          subst he
          clear hbig HER HMT HS1
          go_wp2
          go_ret2
          exact ⟨_, _, rfl, by rw [HR.out]; exact ⟨rfl, rfl⟩, hLu⟩
        · have HR : Hid (R = metGo pick (j + 1) (body.drop (j + 1)) MA) := by show _ = _; rw [HS1.out, if_neg hbig]
          have he : er = 0 := by rw [HER.out, if_neg hbig]
          subst he
          have hmt := HMT.out
          unfold MetAll at hmt
          rw [if_neg hbig] at hmt
          obtain ⟨ps', hps', hLs⟩ := hmt
          have HR2 : Hid (R = metGo pick (j + 1) (body.drop (j + 1)) (ps'.map (·.2))) := by show _ = _; rw [hps']; exact HR.out
          have HN2 : Hid (ps'.length ≤ 20000) := by show _ ≤ _; rw [← hps', List.length_map] at hbig; omega
          have HQ2 : Hid (∀ p ∈ ps', p.2.length ≤ 4 * (j + 1)) := fun p hp => HQ1.out _ (by rw [← hps']; exact List.mem_map.2 ⟨p, hp, rfl⟩)
          have HO2 := hide (hLs.base hsu)
          obtain ⟨a4, n4, c4, rfl⟩ : ∃ a n c, v' = .slice a n c := by obtain ⟨a, c, e⟩ := Lists.slice hLs; exact ⟨a, _, c, e⟩
          clear hbig HER HMT HS1 hps' hLs HR
          go_wp2
          go_roundg (body.length - (j + 1))
          case measure => omega
          case rel => exact ⟨j + 1, by omega, by go_num, ps', HR2, HO2, HN2, HQ2, hLu⟩
      · have HS1 : Hid (R = metGo pick (j + 1) (body.drop (j + 1)) (ps.map (·.2))) := by
          show _ = _
          rw [HE.out, HS.out, hno]; rfl
        rw [hno] at d0
        clear HE HS hno
        generalize bs a.name = nm at *
        go_wp2
        go_roundg (body.length - (j + 1))
        case measure => omega
        case rel => exact ⟨j + 1, by omega, by go_num, ps, HS1, HO.out.later ((Later.refl _).alloc _), HN, (fun p hp => by have := HQ.out p hp; omega), HL.out.alloc _⟩
    · have e : j = body.length := by omega
      have HR : Hid (R = some (ps.map (·.2))) := by show _ = _; rw [HE.out, List.drop_eq_nil_of_le (by omega)]; rfl
      clear HE
      go_wp2
      go_ret2
      refine ⟨_, _, rfl, ?_, HL.out⟩
      rw [HR.out]
      exact ⟨rfl, ps, rfl, by simpa using hn, fun m hm => by
        obtain ⟨p, hp, rfl⟩ := List.mem_map.1 hm
        have := HQ.out p hp; omega, HO.out⟩

end Go.Proofs.YtjeoemmgickpnabGreatDoor

/- The walks of known's add and set. -/
namespace Go.Proofs.YtjeoemmgickpnabGreatDoor
open Go.RowKit Go.Sort Go.Maps

theorem cell_not_map {w : World} {b : Nat} {es : Array MapEntry} {c : Nat} {x : Addr} {v : Value} (hb : w.heap[b]? = some (.map es c)) (hx : w.cell? x = some v) : x.block ≠ b := by
  intro e
  subst e
  simp [World.cell?, hb] at hx

theorem known_map {P : Program} {K : TypeId} {w : World} {b n : Nat} {L : List FactB} (h : KnownM P K w b n L) : ∃ es c, w.heap[b]? = some (.map es c) := by
  obtain ⟨D, ⟨es, c, hb, _⟩, _⟩ := h
  exact ⟨es, c, hb⟩

theorem strs_tn {w w' : World} {b : Nat} {v : Value} {l : List ByteArray} (h : Strs w v l) (hb : ∃ es c, w.heap[b]? = some (.map es c)) (k : Tn b w w') : Strs w' v l := by
  obtain ⟨es, c, hb⟩ := hb
  obtain ⟨h0, a, cap, rfl, h1⟩ := h
  refine ⟨h0, a, cap, rfl, fun hl => ?_⟩
  obtain ⟨b1, off, rfl, hlt, hc⟩ := h1 hl
  refine ⟨b1, off, rfl, Nat.lt_of_lt_of_le hlt k.size, fun i hi => ?_⟩
  rw [k.cell (x := ⟨b1, off + i, none⟩) hlt (cell_not_map hb (hc i hi))]
  exact hc i hi

theorem factV_tn {w w' : World} {b : Nat} {v : Value} {f : FactD} (h : FactV w v f) (hb : ∃ es c, w.heap[b]? = some (.map es c)) (k : Tn b w w') : FactV w' v f := by
  obtain ⟨s, rfl, h1⟩ := h; exact ⟨s, rfl, strs_tn h1 hb k⟩

theorem facts_tn {w w' : World} {b : Nat} {v : Value} {l : List FactD} (h : Facts w v l) (hb : ∃ es c, w.heap[b]? = some (.map es c)) (k : Tn b w w') : Facts w' v l := by
  obtain ⟨h0, a, cap, rfl, h1⟩ := h
  refine ⟨h0, a, cap, rfl, fun hl => ?_⟩
  obtain ⟨b1, off, rfl, hlt, hc⟩ := h1 hl
  refine ⟨b1, off, rfl, Nat.lt_of_lt_of_le hlt k.size, fun i hi => ?_⟩
  obtain ⟨c1, s, c2, c3⟩ := hc i hi
  obtain ⟨es, c, hb'⟩ := hb
  exact ⟨by rw [k.cell (x := ⟨b1, off + i * 2, none⟩) hlt (cell_not_map hb' c1)]; exact c1, s, by rw [k.cell (x := ⟨b1, off + i * 2 + 1, none⟩) hlt (cell_not_map hb' c2)]; exact c2, strs_tn c3 ⟨es, c, hb'⟩ k⟩

theorem tn_of_grown {b : Nat} {w w' : World} (h : w.grownBy w' (some b)) : Tn b w w' := ⟨h.os, h.tape, h.output, h.size, fun k hk hb => h.block k hk (fun e => hb (by cases e; rfl))⟩

abbrev KnN (w : World) (b n : Nat) (L : List FactB) : Prop := KnownM Tryz.prog 9 w b n L

set_option maxHeartbeats 2000000 in
theorem knownAdd (b n : Nat) (L : List FactB) (v : Value) (l : List FactB) (w : World) (hK : KnN w b n L) (hv : Facts w v l) (hs : ∀ f ∈ l, ShortF f) (hn : n + l.length < 1000000) :
    Calls Tryz.prog 46 #[.map (some b), v] w fun e w' => (∃ u, e = .returned u) ∧ KnN w' b (n + l.length) (L ++ l) ∧ Tn b w w' := by
  obtain ⟨a, cap, rfl, hl, hz⟩ := hv.addr
  have hM := known_map hK
  have HM := hide hM
  have HV := hide hv
  have HS := hide hs
  have HK : Hid (KnN w b (n + 0) (L ++ l.take 0)) := by show KnN _ _ _ _; simpa using hK
  clear hv hs hK hM
  go_enter Tryz.func46, Tryz.ntmps46
  go_wp2
  go_loopg [8] l.length (fun k i wr => ∃ j : Nat, j + k = l.length ∧ i = .int .i64 j ∧ Hid (KnN wr b (n + j) (L ++ l.take j)) ∧ Hid (Tn b w wr))
  case atStart => exact ⟨0, by omega, rfl, HK, Tn.refl _ _⟩
  case round =>
    clear HK
    obtain ⟨j, hj, rfl, HK, HT⟩ := hrel
    by_cases hlt : j < l.length
    · rcases hz with rfl | ⟨b1, off, rfl⟩
      · simp at hlt
      have hltz : (j : Int) < (l.length : Int) := by omega
      have hFr := facts_tn HV.out HM.out HT.out
      obtain ⟨hb, ax, lx, cx, g1, g2, fx⟩ := hFr.at hlt
      have hfm : l.getD j noFact ∈ l := by rw [List.getD_eq_getElem?_getD, List.getElem?_eq_getElem hlt]; exact List.getElem_mem hlt
      have htk : l.take (j + 1) = l.take j ++ [l.getD j noFact] := by rw [List.take_add_one, List.getD_eq_getElem?_getD, List.getElem?_eq_getElem hlt]; rfl
      have hsh := HS.out _ hfm
      obtain ⟨wb, hwb⟩ : ∃ wb, wb = wr.alloc (.cells #[.string (l.getD j noFact).1, .slice ax lx cx] 54) := ⟨_, rfl⟩
      have hLb : Later wr wb := by rw [hwb]; exact (Later.refl _).alloc _
      have hrb : wb.heap[wr.heap.size]? = some (.cells #[.string (l.getD j noFact).1, .slice ax lx cx] 54 (0, 0)) := by rw [hwb]; exact heap_alloc_new wr _
      have hfb := fx.later hLb
      have hKb := HK.out.later hLb
      have HC : Hid (∀ w', Below wb.heap.size wb w' → Calls Tryz.prog 76 #[.agg #[.string (l.getD j noFact).1, .slice ax lx cx]] w' fun e w'' => e = .returned (.string (bs (keyF (l.getD j noFact)))) ∧ Hid (Below wb.heap.size wb w'')) := fun w' hw =>
        (apartC _ _ w' (factV_below hfb hw) hsh).mono fun e w'' ⟨he, h2⟩ => ⟨he, below_trans hw h2 hw.size⟩
      have hcell : ∀ w', Below wb.heap.size wb w' → w'.cell? ⟨wr.heap.size, 0, none⟩ = some (.string (l.getD j noFact).1) ∧ w'.cell? ⟨wr.heap.size, 0 + 1, none⟩ = some (.slice ax lx cx) := fun w' hw => by
        have hlt' : wr.heap.size < wb.heap.size := (Array.getElem?_eq_some_iff.1 hrb).1
        constructor
        · rw [hw.cell (p := ⟨wr.heap.size, 0, none⟩) hlt', cell_of_row _ _ _ _ _ _ hrb]; rfl
        · rw [hw.cell (p := ⟨wr.heap.size, 0 + 1, none⟩) hlt', cell_of_row _ _ _ _ _ _ hrb]; rfl
      have HU : Hid (∀ w', Below wb.heap.size wb w' → ∃ w'', (Instr.mapUpdate 81 (.map (some b)) (.string (bs (keyF (l.getD j noFact)))) (.agg #[.string (l.getD j noFact).1, .slice ax lx cx])).run Tryz.prog w' = .ok () w'' ∧ KnN w'' b (n + (j + 1)) (L ++ l.take (j + 1)) ∧ Tn b w w'' ∧ w''.cell? ⟨wr.heap.size, 0, none⟩ = some (.string (l.getD j noFact).1) ∧ w''.cell? ⟨wr.heap.size, 0 + 1, none⟩ = some (.slice ax lx cx)) := fun w' hw => by
        have hK' : KnN w' b (n + j) (L ++ l.take j) := hKb.below hw
        have hf' := factV_below hfb hw
        have hkl := keyF_len hsh
        obtain ⟨w'', hrun, hg, hkn⟩ := hK'.store Tryz.underlying9 Tryz.underlying81 (by unfold maxLen; omega) hf' (by unfold maxLen; omega)
        refine ⟨w'', hrun, ?_, ?_, ?_⟩
        · rw [htk, ← List.append_assoc, show n + (j + 1) = n + j + 1 by omega]
          exact hkn fun g _ u hu => factV_tn hu (known_map hK') (tn_of_grown hg)
        · exact ((HT.out.trans (Tn.of_below hLb.below)).trans (Tn.of_below hw)).trans (tn_of_grown hg)
        · have hblt : b < wr.heap.size := HK.out.lt
          have hlt' : wr.heap.size < w'.heap.size := Nat.lt_of_lt_of_le (Array.getElem?_eq_some_iff.1 hrb).1 hw.size
          obtain ⟨q0, q1⟩ := hcell w' hw
          exact ⟨by rw [(tn_of_grown hg).cell (x := ⟨wr.heap.size, 0, none⟩) hlt' (by show wr.heap.size ≠ b; omega)]; exact q0, by rw [(tn_of_grown hg).cell (x := ⟨wr.heap.size, 0 + 1, none⟩) hlt' (by show wr.heap.size ≠ b; omega)]; exact q1⟩
      have HCell := hide hcell
      generalize bs (keyF (l.getD j noFact)) = kb at *
      generalize (l.getD j noFact).1 = nk at *
      clear hcell htk hsh hfm hrb hfb hKb hFr fx hLb
      go_wp2
      rw [← hwb]
      clear hwb
      refine wp_region_held_drew (S := fun w' => w'.cell? ⟨wr.heap.size, 0, none⟩ = some (.string nk) ∧ w'.cell? ⟨wr.heap.size, 0 + 1, none⟩ = some (.slice ax lx cx)) (by kernel_rfl) (HCell.out _ (Below.refl _ _).drew) (fun hHeld => ?_)
      refine take_at (i := 0) (d := some 12) (v := ?_) rfl rfl (by kernel_rfl) (by kernel_rfl) (by kernel_rfl) (fun _ _ _ h => h) (Or.inl ⟨by rfl, ?_⟩) hHeld ?_
      rotate_left
      · intro w hSw; (try dsimp only at hSw);  go_simp; try with_reducible rfl
      simp only [Act.put, List.setIfInBounds_toArray, List.set_cons_zero, List.set_cons_succ]
      refine take_at (i := 1) (d := some 13) (v := ?_) rfl rfl (by kernel_rfl) (by kernel_rfl) (by kernel_rfl) (fun _ _ _ h => h) (Or.inl ⟨by rfl, ?_⟩) hHeld ?_
      rotate_left
      · intro w hSw; (try dsimp only at hSw); obtain ⟨q0, q1⟩ := hSw; go_simp; try with_reducible rfl
      simp only [Act.put, List.setIfInBounds_toArray, List.set_cons_zero, List.set_cons_succ]
      refine take_at (i := 3) (d := some 15) (v := ?_) rfl rfl (by kernel_rfl) (by kernel_rfl) (by kernel_rfl) (fun _ _ _ h => h) (Or.inl ⟨by rfl, ?_⟩) hHeld ?_
      rotate_left
      · intro w hSw; (try dsimp only at hSw); obtain ⟨q0, q1⟩ := hSw; go_simp; try with_reducible rfl
      simp only [Act.put, List.setIfInBounds_toArray, List.set_cons_zero, List.set_cons_succ]
      refine wpAnyH_ready (rs := [2]) (by kernel_rfl) (by simp) ?_
      refine AllReadyH.cons rfl (fun K hK => ?_) AllReadyH.nil
      go_simp
      refine (HC.out _ (Below.refl _ _).drew).mono ?_
      rintro e w5 ⟨rfl, hB5⟩
      dsimp only
      refine hK.out _ _ (HCell.out _ hB5.out) (fun hHeld => ?_)
      clear hK K
      refine wpAnyH_ready (rs := [4]) (by kernel_rfl) (by simp) ?_
      obtain ⟨w6, hrun, hK6, hT6, hc6⟩ := HU.out _ hB5.out
      have HK6 := hide hK6
      have HT6 := hide hT6
      clear hK6 hT6
      refine AllReadyH.cons rfl (fun K hK => ?_) AllReadyH.nil
      go_simp
      refine hK.out _ _ hc6 (fun hHeld => ?_)
      clear hK K
      refine wpAnyH_done (by kernel_rfl) ?_ _
      clear hc6 hHeld hrun
      go_wp2
      go_roundg (l.length - (j + 1))
      case measure => omega
      case rel => exact ⟨j + 1, by omega, by go_num, HK6, HT6⟩
    · have hj' : j = l.length := by omega
      subst hj'
      rw [List.take_length] at HK
      go_wp2
      go_end0
      exact ⟨⟨_, rfl⟩, HK.out, HT.out⟩

set_option maxHeartbeats 1000000 in
theorem knownSet (b n : Nat) (L : List FactB) (w : World) (hK : KnN w b n L) (hn : n ≤ 1000000) :
    Calls Tryz.prog 47 #[.map (some b)] w fun e w' => ∃ v', e = .returned v' ∧ Facts w' v' (setF L) ∧ Below w.heap.size w w' := by
  obtain ⟨D, hown, h1, h2, h3⟩ := hK
  have hsz : Maps.size D ≤ 3518437208883 := by have := hown.size_le; omega
  have hL1 : Later w (w.alloc (.cells #[.map (some b)] 81)) := (Later.refl w).alloc _
  have hr1 : (w.alloc (.cells #[.map (some b)] 81)).heap[w.heap.size]? = some (.cells #[.map (some b)] 81 (0, 0)) := heap_alloc_new w _
  have HV := hide (valuesC (some b) w)
  have HC := hide (collectC b n w.heap.size D (w.alloc (.cells #[.map (some b)] 81)) (by simp) (by rw [cell_of_row _ _ _ _ _ _ hr1]; rfl) (owns_block hown (hL1.block hown.lt)) hsz)
  have H1 := hide h1
  have H2 : Hid (∀ f ∈ L, ∃ x, D.atKey (.string (keyF f)) .nil = .held x ∧ FactV (w.alloc (.cells #[.map (some b)] 81)) (encT x) f) := fun f hf => by
    obtain ⟨x, e, hx⟩ := h2 f hf; exact ⟨x, e, hx.later hL1⟩
  have HL1 := hide hL1.below
  clear h1 h2 h3 hown hL1 hr1
  go_enter Tryz.func47, Tryz.ntmps47
  go_wp2_with fail
  refine HV.out.mono ?_
  rintro e w1 ⟨rfl, rfl⟩
  clear HV
  go_wp2_with fail
  refine HC.out.mono ?_
  rintro e w2 ⟨v, xs, rfl, ⟨ps, hA, rfl⟩, hr, hB⟩
  obtain ⟨l, hl, hF⟩ := known_facts H1.out H2.out hsz hA hr hB
  have HO := hide (ofC v l w2 hF)
  have HB : Hid (Below w.heap.size w w2) := below_trans HL1.out hB (by simp)
  have HLL := hide hl
  have hl0 := hF.1
  obtain ⟨a, cap, rfl⟩ := sliceFacts hF
  clear hA hr hB hl hF HC H1 H2 HL1
  go_wp2_with fail
  refine HO.out.mono ?_
  rintro e w3 ⟨v', s, rfl, hS, hOw, hL3⟩
  have es : s = setF L := setF_of hS.1 fun f => by rw [hS.2.1 f, HLL.out f]
  have HF : Hid (Facts w3 v' (setF L)) := by rw [← es]; exact hOw.facts (Nat.le_trans hS.2.2 hl0)
  have HB3 : Hid (Below w.heap.size w w3) := below_trans HB.out hL3.below HB.out.size
  clear hS hOw hL3 es
  go_wp2
  go_ret
  exact ⟨v', rfl, HF.out, HB3.out⟩

end Go.Proofs.YtjeoemmgickpnabGreatDoor

/- What all that follows is good for, plain: no rule makes anything more; each fact was told, or is made of what is there; told more there is no less; rules in whatever order. Nothing of the program. -/
namespace Go.Proofs.YtjeoemmgickpnabGreatDoor

theorem heads_mem {r : RuleD} {fs x : List FactB} (hc : Covers r.body) (h : headsP r fs = some x) (f : FactB) : f ∈ x ↔ ∃ env, FitsB (fun _ => fs) r.body env ∧ fillB r.head env = some f := by
  unfold headsP at h
  cases e : allB (fun _ => fs) r.body with
  | none => rw [e] at h; cases h
  | some R =>
    rw [e] at h
    cases h
    rw [mem_setF, List.mem_filterMap]
    exact ⟨fun ⟨l, hl, hf⟩ => ⟨l, (all_mem hc e l).1 hl, hf⟩, fun ⟨l, hl, hf⟩ => ⟨l, (all_mem hc e l).2 hl, hf⟩⟩

theorem fill_name {a : AtomD} {l : List BindD} {f : FactB} (h : fillB a l = some f) : f.1 = bs a.name ∧ fillArgs l a.terms = some f.2 := by
  unfold fillB at h
  cases e : fillArgs l a.terms with
  | none => rw [e] at h; cases h
  | some r => rw [e] at h; cases h; exact ⟨rfl, rfl⟩

theorem fits_sub {fs gs : List FactB} {body : List AtomD} {env : List BindD} (hpos : ∀ a ∈ body, a.no = false → ∀ f : FactB, f.1 = bs a.name → f ∈ fs → f ∈ gs)
    (hneg : ∀ a ∈ body, a.no = true → ∀ f : FactB, f.1 = bs a.name → f ∈ gs → f ∈ fs) (h : FitsB (fun _ => fs) body env) : FitsB (fun _ => gs) body env := by
  obtain ⟨h1, h2, h3, h4⟩ := h
  refine ⟨h1, h2, h3, SoB_const.2 fun a ha => ?_⟩
  obtain ⟨f, hf, hi⟩ := SoB_const.1 h4 a ha
  refine ⟨f, hf, ?_⟩
  have hn := (fill_name hf).1
  cases hno : a.no with
  | false =>
    rw [hno] at hi
    exact inB_iff.2 (hpos a ha hno f hn (inB_iff.1 hi))
  | true =>
    rw [hno] at hi
    cases e : inB gs f with
    | false => rfl
    | true => rw [inB_iff.2 (hneg a ha hno f hn (inB_iff.1 e))] at hi; cases hi

/-- A fact with which nothing is wrong. -/
def RightF (f : FactB) : Prop := isNamed (raw f.1) = true ∧ f.2.length ≤ 4 ∧ ∀ s ∈ f.2, isNamed (raw s) = true

theorem fillArgs_to {l : List BindD} : ∀ {ts : List TermD} {r : List ByteArray}, fillArgs l ts = some r → ∀ t ∈ ts, ∃ u ∈ r, worthB l t = some u
  | [], _, _ => fun _ h => by cases h
  | t :: ts, r, h => fun u hu => by
    simp only [fillArgs] at h
    cases e : worthB l t with
    | none => rw [e] at h; cases h
    | some s =>
      rw [e] at h
      dsimp only at h
      cases e2 : fillArgs l ts with
      | none => rw [e2] at h; cases h
      | some q =>
        rw [e2] at h
        cases h
        rcases List.mem_cons.1 hu with rfl | hu
        · exact ⟨s, by simp, e⟩
        · obtain ⟨v, hv, hw⟩ := fillArgs_to e2 u hu
          exact ⟨v, by simp [hv], hw⟩

theorem fillArgs_from {l : List BindD} : ∀ {ts : List TermD} {r : List ByteArray}, fillArgs l ts = some r → ∀ u ∈ r, ∃ t ∈ ts, worthB l t = some u
  | [], _, h => fun _ hu => by cases h; cases hu
  | t :: ts, r, h => fun u hu => by
    simp only [fillArgs] at h
    cases e : worthB l t with
    | none => rw [e] at h; cases h
    | some s =>
      rw [e] at h
      dsimp only at h
      cases e2 : fillArgs l ts with
      | none => rw [e2] at h; cases h
      | some q =>
        rw [e2] at h
        cases h
        rcases List.mem_cons.1 hu with rfl | hu
        · exact ⟨t, by simp, e⟩
        · obtain ⟨v, hv, hw⟩ := fillArgs_from e2 u hu
          exact ⟨v, by simp [hv], hw⟩

theorem env_right {fs : List FactB} {body : List AtomD} {env : List BindD} (hr : ∀ f ∈ fs, RightF f) (h : FitsB (fun _ => fs) body env) {v s : ByteArray} (hg : getB env v = some s) : isNamed (raw s) = true := by
  obtain ⟨_, _, h3, h4⟩ := h
  have hk0 : v ∈ keysB env := List.mem_map.2 ⟨_, getB_mem hg, rfl⟩
  obtain ⟨k, hk, rfl⟩ := List.mem_map.1 ((h3 v).1 hk0)
  rcases (mem_posVars body).1 hk with hk | ⟨a, ha, hno, t, ht, ht1, rfl⟩
  · cases hk
  obtain ⟨f, hf, hi⟩ := SoB_const.1 h4 a ha
  rw [hno] at hi
  obtain ⟨u, hu, hw⟩ := fillArgs_to (fill_name hf).2 t ht
  unfold worthB at hw
  rw [if_pos ht1, hg] at hw
  cases hw
  exact (hr f (inB_iff.1 hi)).2.2 _ hu

theorem atom_zero {a : AtomD} (h : wrongAtom a = 0) : isNamed a.name = true ∧ a.terms.length ≤ 4 ∧ ∀ t ∈ a.terms, wrongTerm t = false := by
  unfold wrongAtom at h
  split at h
  · cases h
  · rename_i h1
    split at h
    · cases h
    · rename_i h2
      split at h
      · cases h
      · rename_i h3
        refine ⟨by simpa using h1, by omega, fun t ht => ?_⟩
        cases e : wrongTerm t with
        | false => rfl
        | true => exact absurd (List.any_eq_true.2 ⟨t, ht, e⟩) h3

theorem head_right {r : RuleD} {fs : List FactB} {env : List BindD} {f : FactB} (hR : RightR r) (hr : ∀ f ∈ fs, RightF f) (h : FitsB (fun _ => fs) r.body env) (hf : fillB r.head env = some f) :
    RightF f ∧ f.1 = bs r.head.name ∧ f.2.length = r.head.terms.length := by
  obtain ⟨h1, h2⟩ := fill_name hf
  obtain ⟨h3, h4, h5⟩ := atom_zero hR.head
  have hl := fillArgs_len h2
  refine ⟨⟨by rw [h1, raw_bs]; exact h3, by omega, fun s hs => ?_⟩, h1, hl⟩
  obtain ⟨t, ht, hw⟩ := fillArgs_from h2 s hs
  unfold worthB at hw
  split at hw
  · exact env_right hr h hw
  · rename_i ht1
    cases hw
    have := h5 t ht
    unfold wrongTerm at this
    rw [if_neg ht1] at this
    rw [raw_bs]
    simpa using this

/-- Facts with which nothing is wrong, and that go with a program. -/
structure GoodS (p : List RuleD) (L : List FactB) : Prop where
  up : Up L
  right : ∀ f ∈ L, RightF f
  few : L.length ≤ 200
  fit : ∀ f ∈ L, fitF p f = true

theorem fitF_iff {p : List RuleD} {f : FactB} : fitF p f = true ↔ ∀ a ∈ atomsP p, bs a.name = f.1 → a.terms.length = f.2.length := by
  unfold fitF atomsP
  simp only [List.all_eq_true, Bool.or_eq_true, Bool.not_eq_true', decide_eq_false_iff_not, decide_eq_true_eq, List.mem_flatMap]
  constructor
  · rintro h a ⟨r, hr, ha⟩ e
    exact (h r hr a ha).resolve_left fun hn => hn e
  · intro h r hr a ha
    by_cases e : bs a.name = f.1
    · exact Or.inr (h a ⟨r, hr, ha⟩ e)
    · exact Or.inl e

theorem head_fit {p : List RuleD} (hp : RightP p) {r : RuleD} (hr : r ∈ p) {f : FactB} (h1 : f.1 = bs r.head.name) (h2 : f.2.length = r.head.terms.length) : fitF p f = true :=
  fitF_iff.2 fun a ha e => by
    rw [h2]
    exact hp.even a ha r.head (List.mem_flatMap.2 ⟨r, hr, by simp⟩) (bs_inj (e.trans h1))

theorem covers_right {r : RuleD} (h : RightR r) : Covers r.body := covers_of h.body

/-! ### one round -/

theorem onceGo_ok {n : Int} {fs : List FactB} (σ : RuleD → Nat) : ∀ {p : List RuleD} {acc S : List FactB}, onceGo n fs p (p.map σ) acc = (0, S) →
    (∀ r ∈ p, (σ r : Int) = n → ∃ x, headsP r fs = some x ∧ ∀ f ∈ x, f ∈ S) ∧ (∀ f ∈ acc, f ∈ S) ∧ (∀ f ∈ S, f ∈ acc ∨ ∃ r ∈ p, (σ r : Int) = n ∧ ∃ x, headsP r fs = some x ∧ f ∈ x) ∧ Up S ∧ ((setF acc).length ≤ 200 → S.length ≤ 200)
  | [], acc, S, h => by
    simp only [onceGo, Prod.mk.injEq, true_and] at h
    subst h
    exact ⟨fun _ h => (by cases h), fun f hf => mem_setF.2 hf, fun f hf => Or.inl (mem_setF.1 hf), setF_up _, id⟩
  | r :: p, acc, S, h => by
    simp only [onceGo, List.map_cons] at h
    split at h
    · rename_i hs
      split at h
      · simp at h
      · rename_i x hx
        split at h
        · simp at h
        · rename_i hlen
          obtain ⟨h1, h2, h3, h4, h5⟩ := onceGo_ok σ h
          refine ⟨fun q hq hqn => ?_, fun f hf => h2 f (by simp [hf]), fun f hf => ?_, h4, fun _ => h5 (by omega)⟩
          · rcases List.mem_cons.1 hq with rfl | hq
            · exact ⟨x, hx, fun f hf => h2 f (by simp [hf])⟩
            · exact h1 q hq hqn
          · rcases h3 f hf with hf | ⟨q, hq, hqn, y, hy, hf⟩
            · rcases List.mem_append.1 hf with hf | hf
              · exact Or.inl hf
              · exact Or.inr ⟨r, by simp, hs, x, hx, hf⟩
            · exact Or.inr ⟨q, by simp [hq], hqn, y, hy, hf⟩
    · rename_i hs
      obtain ⟨h1, h2, h3, h4, h5⟩ := onceGo_ok σ h
      refine ⟨fun q hq hqn => ?_, h2, fun f hf => ?_, h4, h5⟩
      · rcases List.mem_cons.1 hq with rfl | hq
        · exact absurd hqn hs
        · exact h1 q hq hqn
      · rcases h3 f hf with hf | ⟨q, hq, hqn, y, hy, hf⟩
        · exact Or.inl hf
        · exact Or.inr ⟨q, by simp [hq], hqn, y, hy, hf⟩

theorem onceGo_of {n : Int} {fs : List FactB} (σ : RuleD → Nat) {T : List FactB} (hT : T.length ≤ 200) : ∀ {p : List RuleD} {acc : List FactB}, (∀ r ∈ p, (σ r : Int) = n → ∃ x, headsP r fs = some x ∧ ∀ f ∈ x, f ∈ T) → (∀ f ∈ acc, f ∈ T) →
    (onceGo n fs p (p.map σ) acc).1 = 0
  | [], acc, _, _ => rfl
  | r :: p, acc, h, ha => by
    simp only [onceGo, List.map_cons]
    split
    · rename_i hs
      obtain ⟨x, hx, hxT⟩ := h r (by simp) hs
      rw [hx]
      have hsub : ∀ f ∈ acc ++ x, f ∈ T := fun f hf => (List.mem_append.1 hf).elim (ha f) (hxT f)
      have hlen := up_le (setF_up (acc ++ x)) fun f hf => hsub f (mem_setF.1 hf)
      dsimp only
      rw [if_neg (by omega)]
      exact onceGo_of σ hT (fun q hq => h q (by simp [hq])) hsub
    · exact onceGo_of σ hT (fun q hq => h q (by simp [hq])) ha

theorem onceGo_err {n : Int} {fs : List FactB} : ∀ {p : List RuleD} {ss : List Nat} {acc : List FactB}, (onceGo n fs p ss acc).1 = 0 ∨ onceGo n fs p ss acc = (4, []) ∨ onceGo n fs p ss acc = (5, [])
  | [], _, _ => Or.inl rfl
  | _ :: _, [], _ => Or.inl rfl
  | r :: p, s :: ss, acc => by
    simp only [onceGo]
    split
    · split
      · exact Or.inr (Or.inl rfl)
      · split
        · exact Or.inr (Or.inr rfl)
        · exact onceGo_err
    · exact onceGo_err

theorem once_good {p : List RuleD} (hp : RightP p) (σ : RuleD → Nat) {n : Int} {L S : List FactB} (hL : GoodS p L) (h : onceP p (p.map σ) n L = (0, S)) : GoodS p S ∧ ∀ f ∈ L, f ∈ S := by
  obtain ⟨h1, h2, h3, h4, h5⟩ := onceGo_ok σ h
  have key : ∀ f ∈ S, f ∈ L ∨ (RightF f ∧ fitF p f = true) := fun f hf => by
    rcases h3 f hf with hf | ⟨r, hr, _, x, hx, hf⟩
    · exact Or.inl hf
    · obtain ⟨env, he, hfill⟩ := (heads_mem (covers_right (hp.rules r hr)) hx f).1 hf
      obtain ⟨a, b, c⟩ := head_right (hp.rules r hr) hL.right he hfill
      exact Or.inr ⟨a, head_fit hp hr b c⟩
  refine ⟨⟨h4, fun f hf => (key f hf).elim (hL.right f) (·.1), h5 (by rw [setF_up_self hL.up]; exact hL.few), fun f hf => (key f hf).elim (hL.fit f) (·.2)⟩, h2⟩

/-! ### a stratum -/

inductive Walks (p : List RuleD) (ss : List Nat) (n : Int) : List FactB → List FactB → Prop
  | stop {L : List FactB} : onceP p ss n L = (0, L) → Walks p ss n L L
  | go {L L' M : List FactB} : onceP p ss n L = (0, L') → Walks p ss n L' M → Walks p ss n L M

theorem over_walks {p : List RuleD} (hp : RightP p) (σ : RuleD → Nat) {n : Int} : ∀ (k : Nat) {L M : List FactB}, GoodS p L → overGo p (p.map σ) n k L = (0, M) → 200 < L.length + k → Walks p (p.map σ) n L M
  | 0, L, M, hL, _, hk => by have := hL.few; omega
  | k + 1, L, M, hL, h, hk => by
    unfold overGo at h
    obtain ⟨e, x, hx⟩ : ∃ e x, onceP p (p.map σ) n L = (e, x) := ⟨_, _, rfl⟩
    rw [hx] at h
    dsimp only at h
    split at h
    · rename_i he
      simp at h
      exact absurd h.1 he
    · rename_i he
      have he : e = 0 := by simpa using he
      subst he
      obtain ⟨g1, g2⟩ := once_good hp σ hL hx
      split at h
      · rename_i hlen
        have e : L = x := up_same hL.up g1.up g2 (by omega)
        simp at h
        subst h
        subst e
        exact .stop hx
      · rename_i hlen
        have := up_le hL.up g2
        exact .go hx (over_walks hp σ k g1 h (by omega))

theorem walks_inv {p : List RuleD} (hp : RightP p) (σ : RuleD → Nat) {n : Int} {P : List FactB → Prop} (hP : ∀ L L', GoodS p L → P L → onceP p (p.map σ) n L = (0, L') → P L') {L M : List FactB} (h : Walks p (p.map σ) n L M) :
    GoodS p L → P L → GoodS p M ∧ P M ∧ onceP p (p.map σ) n M = (0, M) ∧ ∀ f ∈ L, f ∈ M := by
  induction h with
  | stop h => exact fun hL hPL => ⟨hL, hPL, h, fun _ h => h⟩
  | go h _ ih =>
    intro hL hPL
    obtain ⟨g1, g2⟩ := once_good hp σ hL h
    obtain ⟨a, b, c, d⟩ := ih g1 (hP _ _ hL hPL h)
    exact ⟨a, b, c, fun f hf => d f (g2 f hf)⟩

/-! ### all strata -/

theorem run_inv {p : List RuleD} (hp : RightP p) (σ : RuleD → Nat) {P : Nat → List FactB → Prop} (hP : ∀ (n : Nat) L M, GoodS p L → P n L → Walks p (p.map σ) n L M → P (n + 1) M) :
    ∀ (c n : Nat) {L M : List FactB}, GoodS p L → P n L → runGo p (p.map σ) c n L = (0, M) → GoodS p M ∧ P (n + c) M ∧ ∀ f ∈ L, f ∈ M
  | 0, n, L, M, hL, hPL, h => by
    simp [runGo] at h
    subst h
    exact ⟨hL, hPL, fun _ h => h⟩
  | c + 1, n, L, M, hL, hPL, h => by
    unfold runGo at h
    obtain ⟨e, x, hx⟩ : ∃ e x, overGo p (p.map σ) n 201 L = (e, x) := ⟨_, _, rfl⟩
    rw [hx] at h
    dsimp only at h
    split at h
    · rename_i he
      simp at h
      exact absurd h.1 he
    · rename_i he
      have he : e = 0 := by simpa using he
      subst he
      have hw := over_walks hp σ 201 hL hx (by omega)
      obtain ⟨g1, _, _, g2⟩ := walks_inv hp σ (P := fun _ => True) (fun _ _ _ _ _ => trivial) hw hL trivial
      obtain ⟨a, b, d⟩ := run_inv hp σ hP c (n + 1) g1 (hP n L x hL hPL hw) h
      exact ⟨a, by rw [show n + (c + 1) = n + 1 + c by omega]; exact b, fun f hf => d f (g2 f hf)⟩

/-- What holds on the way: n: the strata that are closed; m: those of which there may be something. -/
structure Way (p : List RuleD) (τ : Bs → Nat) (l : List FactB) (n m : Nat) (L : List FactB) : Prop where
  told : ∀ f ∈ l, f ∈ L
  of : ∀ f ∈ L, f ∉ l → ∃ r ∈ p, τ r.head.name < m ∧ f.1 = bs r.head.name
  closed : ∀ r ∈ p, τ r.head.name < n → ∀ env f, FitsB (fun _ => L) r.body env → fillB r.head env = some f → f ∈ L
  made : ∀ f ∈ L, f ∉ l → ∃ r ∈ p, τ r.head.name < m ∧ ∃ env, FitsB (fun _ => L) r.body env ∧ fillB r.head env = some f

theorem way_once {p : List RuleD} (hp : RightP p) {τ : Bs → Nat} (hτ : Sol p τ) {l : List FactB} {n : Nat} {L L' : List FactB} (hw : Way p τ l n (n + 1) L) (h : onceP p (p.map fun r => τ r.head.name) n L = (0, L')) : Way p τ l n (n + 1) L' := by
  obtain ⟨h1, h2, h3, h4, h5⟩ := onceGo_ok (fun r => τ r.head.name) h
  have hnew : ∀ f ∈ L', f ∈ L ∨ ∃ r ∈ p, τ r.head.name = n ∧ ∃ env, FitsB (fun _ => L) r.body env ∧ fillB r.head env = some f ∧ f.1 = bs r.head.name := fun f hf => by
    rcases h3 f hf with hf | ⟨r, hr, hn, x, hx, hf⟩
    · exact Or.inl hf
    · obtain ⟨env, he, hfill⟩ := (heads_mem (covers_right (hp.rules r hr)) hx f).1 hf
      exact Or.inr ⟨r, hr, Int.ofNat.inj hn, env, he, hfill, (fill_name hfill).1⟩
  have hold : ∀ r ∈ p, ∀ a ∈ r.body, τ r.head.name < n + step a → ∀ f : FactB, f.1 = bs a.name → f ∈ L' → f ∈ L := fun r hr a ha hlt f hfn hf => by
    rcases hnew f hf with hf | ⟨q, hq, hqn, _, _, _, hqf⟩
    · exact hf
    · exfalso
      have e : a.name = q.head.name := bs_inj (hfn.symm.trans hqf)
      have := hτ r hr a ha ⟨q, hq, e.symm⟩
      rw [e] at this
      omega
  have hfits : ∀ r ∈ p, τ r.head.name < n + 1 → ∀ env, FitsB (fun _ => L) r.body env → FitsB (fun _ => L') r.body env := fun r hr hrn env he =>
    fits_sub (fun a _ _ f _ hf => h2 f hf) (fun a ha hno f hfn hf => hold r hr a ha (by simp only [step, hno, if_true]; omega) f hfn hf) he
  refine ⟨fun f hf => h2 f (hw.told f hf), fun f hf hfl => ?_, fun r hr hrn env f he hfill => ?_, fun f hf hfl => ?_⟩
  · rcases hnew f hf with hf | ⟨q, hq, hqn, _, _, _, hqf⟩
    · exact hw.of f hf hfl
    · exact ⟨q, hq, by omega, hqf⟩
  · refine h2 f (hw.closed r hr hrn env f (fits_sub (fun a ha hno f hfn hf => hold r hr a ha (by omega) f hfn hf) (fun a _ _ f _ hf => h2 f hf) he) hfill)
  · rcases hnew f hf with hf | ⟨q, hq, hqn, env, he, hfill, _⟩
    · obtain ⟨r, hr, hrn, env, he, hfill⟩ := hw.made f hf hfl
      exact ⟨r, hr, hrn, env, hfits r hr hrn env he, hfill⟩
    · exact ⟨q, hq, by omega, env, hfits q hq (by omega) env he, hfill⟩

theorem way_walks {p : List RuleD} (hp : RightP p) {τ : Bs → Nat} (hτ : Sol p τ) {l : List FactB} {n : Nat} {L M : List FactB} (hL : GoodS p L) (hw : Way p τ l n n L) (h : Walks p (p.map fun r => τ r.head.name) n L M) : Way p τ l (n + 1) (n + 1) M := by
  have h0 : Way p τ l n (n + 1) L := ⟨hw.told, fun f hf hn => by obtain ⟨r, hr, h1, h2⟩ := hw.of f hf hn; exact ⟨r, hr, by omega, h2⟩, hw.closed, fun f hf hn => by obtain ⟨r, hr, h1, h2⟩ := hw.made f hf hn; exact ⟨r, hr, by omega, h2⟩⟩
  obtain ⟨g, hm, hfix, _⟩ := walks_inv hp (fun r => τ r.head.name) (P := Way p τ l n (n + 1)) (fun L L' _ hw ho => way_once hp hτ hw ho) h hL h0
  obtain ⟨h1, _⟩ := onceGo_ok (fun r => τ r.head.name) hfix
  refine ⟨hm.told, hm.of, fun r hr hrn env f he hfill => ?_, hm.made⟩
  by_cases e : τ r.head.name < n
  · exact hm.closed r hr e env f he hfill
  · have e2 : τ r.head.name = n := by omega
    obtain ⟨x, hx, hxm⟩ := h1 r hr (by rw [e2])
    exact hxm f ((heads_mem (covers_right (hp.rules r hr)) hx f).2 ⟨env, he, hfill⟩)

/-- ALL THAT FOLLOWS. -/
theorem run_way {p : List RuleD} (hp : RightP p) {τ : Bs → Nat} (hτ : Sol p τ) {l m : List FactB} (hl : GoodS p l) (h : runGo p (p.map fun r => τ r.head.name) (countP (p.map fun r => τ r.head.name)) 0 l = (0, m)) :
    GoodS p m ∧ Way p τ l (countP (p.map fun r => τ r.head.name)) (countP (p.map fun r => τ r.head.name)) m := by
  have h0 : Way p τ l 0 0 l := ⟨fun _ h => h, fun f hf hn => absurd hf hn, fun r _ h => by omega, fun f hf hn => absurd hf hn⟩
  obtain ⟨a, b, _⟩ := run_inv hp (fun r => τ r.head.name) (P := fun n => Way p τ l n n) (fun n L M hL hw hW => way_walks hp hτ hL hw hW) _ 0 hl h0 h
  exact ⟨a, by rw [Nat.zero_add] at b; exact b⟩

theorem run_model {p : List RuleD} (hp : RightP p) {τ : Bs → Nat} (hτ : Sol p τ) {l m : List FactB} (hl : GoodS p l) (h : runGo p (p.map fun r => τ r.head.name) (countP (p.map fun r => τ r.head.name)) 0 l = (0, m)) :
    (∀ f ∈ l, f ∈ m) ∧ ∀ r ∈ p, ∀ x, headsP r m = some x → ∀ f ∈ x, f ∈ m := by
  obtain ⟨_, hw⟩ := run_way hp hτ hl h
  refine ⟨hw.told, fun r hr x hx f hf => ?_⟩
  obtain ⟨env, he, hfill⟩ := (heads_mem (covers_right (hp.rules r hr)) hx f).1 hf
  exact hw.closed r hr (lt_countP (List.mem_map.2 ⟨r, hr, rfl⟩)) env f he hfill

theorem run_needed {p : List RuleD} (hp : RightP p) {τ : Bs → Nat} (hτ : Sol p τ) {l m : List FactB} (hl : GoodS p l) (h : runGo p (p.map fun r => τ r.head.name) (countP (p.map fun r => τ r.head.name)) 0 l = (0, m)) (hs : ∀ r ∈ p, ∃ x, headsP r m = some x) :
    ∀ f, f ∈ m ↔ f ∈ l ∨ ∃ r ∈ p, ∃ x, headsP r m = some x ∧ f ∈ x := by
  obtain ⟨_, hw⟩ := run_way hp hτ hl h
  obtain ⟨m1, m2⟩ := run_model hp hτ hl h
  intro f
  constructor
  · intro hf
    by_cases hfl : f ∈ l
    · exact Or.inl hfl
    · obtain ⟨r, hr, _, env, he, hfill⟩ := hw.made f hf hfl
      obtain ⟨x, hx⟩ := hs r hr
      exact Or.inr ⟨r, hr, x, hx, (heads_mem (covers_right (hp.rules r hr)) hx f).2 ⟨env, he, hfill⟩⟩
  · rintro (hf | ⟨r, hr, x, hx, hf⟩)
    · exact m1 f hf
    · exact m2 r hr x hx f hf

/-! ### told more -/

theorem run_least {p : List RuleD} (hp : RightP p) (hno : ∀ r ∈ p, ∀ a ∈ r.body, a.no = false) {l l' m m' : List FactB} (hl : GoodS p l) (hl' : GoodS p l') (hs : ∀ f ∈ l, f ∈ l')
    (h : runGo p (p.map fun _ => 0) (countP (p.map fun _ => 0)) 0 l = (0, m)) (h' : runGo p (p.map fun _ => 0) (countP (p.map fun _ => 0)) 0 l' = (0, m')) : ∀ f ∈ m, f ∈ m' := by
  have hτ : Sol p (fun _ => 0) := fun r hr a ha _ => by simp [step, hno r hr a ha]
  obtain ⟨_, hw⟩ := run_way (τ := fun _ => 0) hp hτ hl' h'
  have hP : ∀ L L', GoodS p L → (∀ f ∈ L, f ∈ m') → onceP p (p.map fun _ => 0) (0 : Nat) L = (0, L') → ∀ f ∈ L', f ∈ m' := fun L L' hL hsub ho f hf => by
    obtain ⟨_, _, h3, _⟩ := onceGo_ok (fun _ => 0) ho
    rcases h3 f hf with hf | ⟨r, hr, _, x, hx, hf⟩
    · exact hsub f hf
    · obtain ⟨env, he, hfill⟩ := (heads_mem (covers_right (hp.rules r hr)) hx f).1 hf
      exact hw.closed r hr (lt_countP (List.mem_map.2 ⟨r, hr, rfl⟩)) env f (fits_sub (fun a _ _ f _ hf => hsub f hf) (fun a ha hn => by rw [hno r hr a ha] at hn; cases hn) he) hfill
  cases p with
  | nil =>
    simp [runGo, countP] at h h'
    subst h; subst h'
    exact hs
  | cons r p =>
    have hc : countP ((r :: p).map fun _ => 0) = 1 := by
      have : ∀ q : List RuleD, countP (q.map fun _ => 0) ≤ 1 := fun q => by
        induction q with
        | nil => simp [countP]
        | cons a q ih => simp only [List.map_cons, countP]; omega
      have h1 := this (r :: p)
      have h2 := lt_countP (ss := (r :: p).map fun _ => 0) (s := 0) (by simp)
      omega
    rw [hc] at h
    unfold runGo at h
    obtain ⟨e, x, hx⟩ : ∃ e x, overGo (r :: p) ((r :: p).map fun _ => 0) (0 : Nat) 201 l = (e, x) := ⟨_, _, rfl⟩
    rw [hx] at h
    dsimp only at h
    split at h
    · rename_i he
      simp at h
      exact absurd h.1 he
    · rename_i he
      have he : e = 0 := by simpa using he
      subst he
      simp [runGo] at h
      subst h
      obtain ⟨_, b, _⟩ := walks_inv hp (fun _ => 0) hP (over_walks hp (fun _ => 0) 201 hl hx (by omega)) hl (fun f hf => hw.told f (hs f hf))
      exact b

/-- Told what follows, nothing more follows. -/
theorem run_again {p : List RuleD} (hp : RightP p) (hno : ∀ r ∈ p, ∀ a ∈ r.body, a.no = false) {l m : List FactB} (hl : GoodS p l)
    (h : runGo p (p.map fun _ => 0) (countP (p.map fun _ => 0)) 0 l = (0, m)) : ∃ e x, runGo p (p.map fun _ => 0) (countP (p.map fun _ => 0)) 0 m = (e, x) ∧ (e = 0 → x = m) ∧ (e = 0 ∨ e = 4) := by
  have hτ : Sol p (fun _ => 0) := fun r hr a ha _ => by simp [step, hno r hr a ha]
  cases p with
  | nil => exact ⟨0, m, rfl, fun _ => rfl, Or.inl rfl⟩
  | cons r p =>
    have hc : countP ((r :: p).map fun _ => 0) = 1 := by
      have : ∀ q : List RuleD, countP (q.map fun _ => 0) ≤ 1 := fun q => by
        induction q with
        | nil => simp [countP]
        | cons a q ih => simp only [List.map_cons, countP]; omega
      have h1 := this (r :: p)
      have h2 := lt_countP (ss := (r :: p).map fun _ => 0) (s := 0) (by simp)
      omega
    rw [hc] at h ⊢
    unfold runGo at h ⊢
    obtain ⟨e, x, hx⟩ : ∃ e x, overGo (r :: p) ((r :: p).map fun _ => 0) (0 : Nat) 201 l = (e, x) := ⟨_, _, rfl⟩
    rw [hx] at h
    dsimp only at h
    split at h
    · rename_i he
      simp at h
      exact absurd h.1 he
    · rename_i he
      have he : e = 0 := by simpa using he
      subst he
      simp [runGo] at h
      subst h
      obtain ⟨_, _, hfix, _⟩ := walks_inv hp (fun _ => 0) (P := fun _ => True) (fun _ _ _ _ _ => trivial) (over_walks hp (fun _ => 0) 201 hl hx (by omega)) hl trivial
      have ho : overGo (r :: p) ((r :: p).map fun _ => 0) (0 : Nat) 201 x = (0, x) := by
        unfold overGo
        rw [hfix]
        simp
      rw [ho]
      exact ⟨0, x, by simp [runGo], fun _ => rfl, Or.inl rfl⟩

/-! ### rules in whatever order -/

theorem once_same {p q : List RuleD} (hpq : ∀ r, r ∈ p ↔ r ∈ q) (σ : RuleD → Nat) {n : Int} {L : List FactB} (hL : L.length ≤ 200) (hu : Up L) (h4 : (onceP p (p.map σ) n L).1 ≠ 4) (h4' : (onceP q (q.map σ) n L).1 ≠ 4) :
    onceP p (p.map σ) n L = onceP q (q.map σ) n L := by
  have one : ∀ {p q : List RuleD}, (∀ r, r ∈ p ↔ r ∈ q) → (onceP p (p.map σ) n L).1 = 0 → (onceP q (q.map σ) n L).1 = 0 := fun {p q} hpq h => by
    obtain ⟨S, hS⟩ : ∃ S, onceP p (p.map σ) n L = (0, S) := ⟨_, Prod.ext h rfl⟩
    obtain ⟨h1, h2, _, _, h5⟩ := onceGo_ok σ hS
    exact onceGo_of σ (h5 (by rw [setF_up_self hu]; exact hL)) (fun r hr => h1 r ((hpq r).2 hr)) h2
  rcases onceGo_err (n := n) (fs := L) (p := p) (ss := p.map σ) (acc := L) with h | h | h
  · have h' := one hpq h
    obtain ⟨S, hS⟩ : ∃ S, onceP p (p.map σ) n L = (0, S) := ⟨_, Prod.ext h rfl⟩
    obtain ⟨T, hT⟩ : ∃ T, onceP q (q.map σ) n L = (0, T) := ⟨_, Prod.ext h' rfl⟩
    obtain ⟨s1, s2, s3, s4, _⟩ := onceGo_ok σ hS
    obtain ⟨t1, t2, t3, t4, _⟩ := onceGo_ok σ hT
    rw [hS, hT]
    refine Prod.ext rfl (up_ext s4 t4 fun f => ⟨fun hf => ?_, fun hf => ?_⟩)
    · rcases s3 f hf with hf | ⟨r, hr, hn, x, hx, hf⟩
      · exact t2 f hf
      · obtain ⟨y, hy, hyT⟩ := t1 r ((hpq r).1 hr) hn
        rw [hx] at hy; cases hy
        exact hyT f hf
    · rcases t3 f hf with hf | ⟨r, hr, hn, x, hx, hf⟩
      · exact s2 f hf
      · obtain ⟨y, hy, hyS⟩ := s1 r ((hpq r).2 hr) hn
        rw [hx] at hy; cases hy
        exact hyS f hf
  · exact absurd (by unfold onceP; rw [h]) h4
  · rcases onceGo_err (n := n) (fs := L) (p := q) (ss := q.map σ) (acc := L) with h' | h' | h'
    · have := one (fun r => (hpq r).symm) h'
      unfold onceP at this
      rw [h] at this
      simp at this
    · exact absurd (by unfold onceP; rw [h']) h4'
    · unfold onceP; rw [h, h']

theorem over_same {p q : List RuleD} (hp : RightP p) (hpq : ∀ r, r ∈ p ↔ r ∈ q) (σ : RuleD → Nat) {n : Int} : ∀ (k : Nat) {L : List FactB}, GoodS p L → (overGo p (p.map σ) n k L).1 ≠ 4 → (overGo q (q.map σ) n k L).1 ≠ 4 →
    overGo p (p.map σ) n k L = overGo q (q.map σ) n k L
  | 0, _, _, _, _ => rfl
  | k + 1, L, hL, h4, h4' => by
    have e : onceP p (p.map σ) n L = onceP q (q.map σ) n L := by
      refine once_same hpq σ hL.few hL.up (fun h => h4 ?_) (fun h => h4' ?_)
      · unfold overGo; rw [if_pos (by rw [h]; decide)]; exact h
      · unfold overGo; rw [if_pos (by rw [h]; decide)]; exact h
    unfold overGo at h4 h4' ⊢
    rw [← e] at h4' ⊢
    obtain ⟨er, x, hx⟩ : ∃ e x, onceP p (p.map σ) n L = (e, x) := ⟨_, _, rfl⟩
    rw [hx] at h4 h4' ⊢
    dsimp only at h4 h4' ⊢
    split
    · rfl
    · rename_i he
      have he' : er = 0 := by simpa using he
      subst he'
      rw [if_neg he] at h4 h4'
      split
      · rfl
      · rename_i hl
        rw [if_neg hl] at h4 h4'
        exact over_same hp hpq σ k (once_good hp σ hL hx).1 h4 h4'

theorem run_same {p q : List RuleD} (hp : RightP p) (hpq : ∀ r, r ∈ p ↔ r ∈ q) (σ : RuleD → Nat) : ∀ (c n : Nat) {L : List FactB}, GoodS p L → (runGo p (p.map σ) c n L).1 ≠ 4 → (runGo q (q.map σ) c n L).1 ≠ 4 →
    runGo p (p.map σ) c n L = runGo q (q.map σ) c n L
  | 0, _, _, _, _, _ => rfl
  | c + 1, n, L, hL, h4, h4' => by
    have e : overGo p (p.map σ) n 201 L = overGo q (q.map σ) n 201 L := by
      refine over_same hp hpq σ 201 hL (fun h => h4 ?_) (fun h => h4' ?_)
      · unfold runGo; rw [if_pos (by rw [h]; decide)]; exact h
      · unfold runGo; rw [if_pos (by rw [h]; decide)]; exact h
    unfold runGo at h4 h4' ⊢
    rw [← e] at h4' ⊢
    obtain ⟨er, x, hx⟩ : ∃ e x, overGo p (p.map σ) n 201 L = (e, x) := ⟨_, _, rfl⟩
    rw [hx] at h4 h4' ⊢
    dsimp only at h4 h4' ⊢
    split
    · rfl
    · rename_i he
      have he' : er = 0 := by simpa using he
      subst he'
      rw [if_neg he] at h4 h4'
      obtain ⟨g, _⟩ := walks_inv hp σ (P := fun _ => True) (fun _ _ _ _ _ => trivial) (over_walks hp σ 201 hL hx (by omega)) hL trivial
      exact run_same hp hpq σ c (n + 1) g h4 h4'

theorem sol_turned {p : List RuleD} {τ : Bs → Nat} (h : Sol p τ) : Sol p.reverse τ := fun r hr a ha ⟨q, hq, e⟩ => h r (List.mem_reverse.1 hr) a ha ⟨q, List.mem_reverse.1 hq, e⟩

/-- The strata of a program turned around are those of the program, turned around. -/
theorem strata_turned {p : List RuleD} (hp : RightP p) : (strataP p.reverse).2.1 = (strataP p).2.1 ∧ ((strataP p).2.1 = 0 → ∃ τ, Sol p τ ∧ (strataP p).1 = p.map (fun r => τ r.head.name) ∧ (strataP p.reverse).1 = p.reverse.map fun r => τ r.head.name) := by
  have hp' := hp.turned
  have w1 := rightP_iff.2 hp
  have w2 := rightP_iff.2 hp'
  have errs : ∀ {q : List RuleD}, (wrongP q).1 = 0 → (strataP q).2.1 = 0 ∨ (strataP q).2.1 = 10 := fun {q} h => by
    unfold strataP; rw [if_pos h]; split <;> simp
  have ok : ∀ {q : List RuleD}, (strataP q).2.1 = 0 → ∃ m, (strataP q).1 = each m q ∧ Least q m ∧ Sol q (numOf m) := fun {q} h => by
    obtain ⟨_, m, h1, _, h3, h4⟩ := strataP_ok (p := q) (l := (strataP q).1) (k := (strataP q).2.2) (by rw [← h])
    exact ⟨m, h1, h3, h4⟩
  have back : ∀ τ, Sol p.reverse τ → Sol p τ := fun τ h => by have := sol_turned h; rwa [List.reverse_reverse] at this
  by_cases h : (strataP p).2.1 = 0
  · obtain ⟨m, e1, l1, s1⟩ := ok h
    obtain ⟨l, hl⟩ := strataP_of w2 (sol_turned s1)
    have h' : (strataP p.reverse).2.1 = 0 := by rw [hl]
    obtain ⟨m', e2, l2, s2⟩ := ok h'
    refine ⟨by rw [h, h'], fun _ => ⟨numOf m, s1, e1, ?_⟩⟩
    rw [e2]
    unfold each
    refine List.map_congr_left fun r _ => Nat.le_antisymm (l2 _ (sol_turned s1) _) (l1 _ (back _ s2) _)
  · refine ⟨?_, fun h' => absurd h' h⟩
    rcases errs w1 with h1 | h1
    · exact absurd h1 h
    · rcases errs w2 with h2 | h2
      · obtain ⟨m', _, _, s2⟩ := ok h2
        obtain ⟨l, hl⟩ := strataP_of w1 (back _ s2)
        rw [hl] at h; exact absurd rfl h
      · rw [h1, h2]

end Go.Proofs.YtjeoemmgickpnabGreatDoor
