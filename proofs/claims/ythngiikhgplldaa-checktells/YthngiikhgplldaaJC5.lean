/- Texts of this claim, one behind the other. -/
import Derived.Test.YthngiikhgplldaaJC4
import Derived.Test.YthngiikhgplldaaJC2
import Derived.Shelf.Abstract
/- The walk of check.Vars. -/
namespace Go.Proofs.Ythngiikhgplldaa
open Go.RowKit Go.Sort Go.Maps

theorem appendStrC {lo : Nat} {w : World} {v : Value} {l : List Bs} (h : strK.own 9 lo w v l) {x : Bs} (hl : l.length + 1 ≤ 6000000000001) (hlo : lo ≤ w.heap.size) :
    ∃ v' w', (Builtin.append_ #[34, 34] 34 #[v, .slice (some ⟨w.heap.size, 0, none⟩) 1 1]).run Try.prog (w.alloc (.cells #[.string (bs x)] 9)) = .ok v' w' ∧ strK.own 9 lo w' v' (l ++ [x]) ∧ (w.alloc (.cells #[.string (bs x)] 9)).grownBy w' v.ownBlock := by
  obtain ⟨i, i1, i2, i3, i4⟩ := infoStr
  exact Kind.own_appendB h Try.underlying34 i1 i2 i3 i4 rfl (by decide) (c := [.string (bs x)]) rfl (by simp only [maxLen]; omega) (by omega) hlo

theorem varsGo_step {ts : List TermD} {j : Nat} {x : TermD} (h : ts[j]? = some x) : varsGo [] (ts.take (j + 1)) = if x.1 then addNew (varsGo [] (ts.take j)) x.2 else varsGo [] (ts.take j) := by
  rw [List.take_add_one, h]
  simp [varsGo, List.foldl_append]

theorem addNew_len (l : List Bs) (s : Bs) : (addNew l s).length ≤ l.length + 1 := by unfold addNew; split <;> simp
theorem varsGo_len (ts : List TermD) : ∀ l, (varsGo l ts).length ≤ l.length + ts.length := by
  induction ts with
  | nil => intro l; simp [varsGo]
  | cons t ts ih =>
    intro l
    show (varsGo (if t.1 then addNew l t.2 else l) ts).length ≤ _
    have h0 : (if t.1 then addNew l t.2 else l).length ≤ l.length + 1 := by
      split
      · exact addNew_len l t.2
      · omega
    have h1 := ih (if t.1 then addNew l t.2 else l)
    rw [List.length_cons]; omega

theorem one_sl {w : World} {b : Nat} (x : Bs) (hb : b < w.heap.size) : strK.sl (fun k => k ≠ b) (w.alloc (.cells #[.string (bs x)] 9)) (.slice (some ⟨w.heap.size, 0, none⟩) 1 1) [x] := by
  have h := Kind.own_one (K := strK) (ty := 9) (lo := w.heap.size) (w := w) (c := [.string (bs x)]) (x := x) rfl (Nat.le_refl _)
  exact Kind.sl_mono (Kind.own_sl h (by simp)) fun k _ hk => by have : w.heap.size ≤ k := hk; omega

set_option maxRecDepth 100000 in
set_option maxHeartbeats 2000000 in
theorem varsC (a : AtomD) (v : Value) (w : World) (hv : termK.sl Anyw w v a.terms) (hn : a.terms.length ≤ 6000000000000) (hs : ∀ t ∈ a.terms, t.2.length ≤ maxLen) :
    Calls Try.prog 6 #[.agg #[.bool a.no, .string (bs a.name), v]] w fun e w' => ∃ u, e = .returned u ∧ strK.own 9 (w.heap.size + 2) w' u (vars a) ∧ Below w.heap.size w w' := by
  obtain ⟨sa, cap, rfl⟩ := Kind.slice hv
  have HV := hide hv
  clear hv
  obtain ⟨no, name, ts⟩ := a
  dsimp only at *
  have HS := hide hs
  clear hs
  have hmm := @run_makeMap Try.prog
  show Calls _ _ _ _ fun e w' => ∃ u, e = .returned u ∧ strK.own 9 (w.heap.size + 2) w' u (varsGo [] ts) ∧ _
  generalize bs name = nm
  go_enter Try.func6, Try.ntmps6
  go_wp2
  go_loopg [4, 11] ts.length (fun k o i wr => ∃ j : Nat, j + k = ts.length ∧ i = .int .i64 j ∧ Hid (NamesM wr (w.heap.size + 1) j (fun s => (varsGo [] (ts.take j)).contains s)) ∧ Hid (strK.own 9 (w.heap.size + 2) wr o (varsGo [] (ts.take j))) ∧ Hid (Below w.heap.size w wr) ∧ w.heap.size + 2 ≤ wr.heap.size)
  case atStart =>
    refine ⟨0, by omega, rfl, ?_, strK.own_nil _ _ _, ?_, by simp⟩
    · have := SetM.made Try.prog 9 (w.alloc (.cells #[.bool no, .string nm, .slice sa ts.length cap] 30))
      rw [World.size_alloc] at this
      exact this
    · exact (((Later.refl w).alloc _).alloc _).below
  case round =>
    obtain ⟨j, hj, rfl, HM, HO, HB, hsz⟩ := hrel
    obtain ⟨ao, co, rfl⟩ := Kind.own_slice HO.out
    by_cases hlt : j < ts.length
    · obtain ⟨x, hx⟩ : ∃ x, ts[j]? = some x := ⟨_, List.getElem?_eq_getElem hlt⟩
      obtain ⟨b1, o1, _, rfl, hb1, rfl, hc⟩ := Kind.sl_at HV.out hx
      have d0 : wr.cell? ⟨b1, o1 + j * 2, none⟩ = some (.bool x.1) := by rw [HB.out.cell hb1]; exact hc 0 _ rfl
      have d1 : wr.cell? ⟨b1, o1 + j * 2 + 1, none⟩ = some (.string (bs x.2)) := by rw [HB.out.cell hb1]; exact hc 1 _ rfl
      have hxs : x.2.length ≤ maxLen := HS.out x (List.mem_of_getElem? hx)
      have E := hide (varsGo_step hx)
      have hlen : (varsGo [] (ts.take j)).length ≤ j := by have := varsGo_len (ts.take j) []; simp at this; omega
      clear hc hx
      have hbr : b1 < wr.heap.size := by omega
      obtain ⟨x1, x2⟩ := x
      dsimp only at *
      generalize hg : varsGo [] (ts.take j) = g at *
      clear hg
      cases x1
      · have E1 : Hid (varsGo [] (ts.take (j + 1)) = g) := E.out
        clear E
        generalize bs x2 = kx at *
        go_wp2
        go_roundg (ts.length - (j + 1))
        case measure => omega
        case rel =>
          refine ⟨j + 1, by omega, by go_num, ?_, ?_, ?_, by simp; omega⟩
          · show NamesM _ _ _ _
            rw [E1.out]
            exact (HM.out.later ((Later.refl _).alloc _)).mono (by omega)
          · show strK.own _ _ _ _ _
            rw [E1.out]
            exact Kind.own_turned HO.out ((Tn.refl 0 _).alloc _) (by omega)
          · exact HB.out.alloc HB.out.size _
      · have E1 : Hid (varsGo [] (ts.take (j + 1)) = addNew g x2) := E.out
        clear E
        have HC : Hid (Calls Try.prog 16 #[.map (some (w.heap.size + 1)), .string (bs x2)] (wr.alloc (.cells #[.bool true, .string (bs x2)] 51)) fun e w' => e = .returned (.bool (g.contains x2)) ∧ Later (wr.alloc (.cells #[.bool true, .string (bs x2)] 51)) w') := hasC _ _ _ x2 _ (HM.out.later ((Later.refl _).alloc _)) hxs
        have HZ : Hid (∀ w2, Later (wr.alloc (.cells #[.bool true, .string (bs x2)] 51)) w2 → w2.cell? ⟨wr.heap.size, 1, none⟩ = some (.string (bs x2)) ∧ wr.heap.size < w2.heap.size) := fun w2 hL => by
          refine ⟨?_, by have := hL.size; simp at this; omega⟩
          rw [hL.cell (by simp)]; simp
        cases hcx : g.contains x2
        · have E2 : Hid (varsGo [] (ts.take (j + 1)) = g ++ [x2]) := by show _ = _; rw [E1.out]; unfold addNew; rw [hcx]; rfl
          rw [hcx] at HC
          have HA : Hid (∀ w2, Later (wr.alloc (.cells #[.bool true, .string (bs x2)] 51)) w2 → Calls Try.prog 17 #[.map (some (w.heap.size + 1)), .slice (some ⟨w2.heap.size, 0, none⟩) 1 1] (w2.alloc (.cells #[.string (bs x2)] 9))
              fun e w3 => e = .returned (.tuple #[]) ∧ NamesM w3 (w.heap.size + 1) (j + 1) (fun s => (g ++ [x2]).contains s) ∧ Tn (w.heap.size + 1) w2 w3 ∧ w2.heap.size < w3.heap.size) := fun w2 hL => by
            have hs2 := hL.size
            simp only [World.size_alloc] at hs2
            have hm := HM.out.later (((Later.refl _).alloc _).trans hL)
            refine (addC _ _ _ _ [x2] _ (hm.later ((Later.refl _).alloc _)) (one_sl x2 (by omega)) (by simp [maxLen]; omega) (by simpa using hxs)).mono fun e w3 ⟨he, h1, h2⟩ => ⟨he, h1.congr fun s => by simp, ((Tn.refl _ _).alloc _).trans h2, by have := h2.size; simp at this; omega⟩
          have HP : Hid (∀ w2 w3, Later (wr.alloc (.cells #[.bool true, .string (bs x2)] 51)) w2 → Tn (w.heap.size + 1) w2 w3 → w2.heap.size < w3.heap.size → NamesM w3 (w.heap.size + 1) (j + 1) (fun s => (g ++ [x2]).contains s) → w3.cell? ⟨wr.heap.size, 1, none⟩ = some (.string (bs x2)) ∧ wr.heap.size < w3.heap.size ∧
              ∃ v' w4, (Builtin.append_ #[34, 34] 34 #[.slice ao g.length co, .slice (some ⟨w3.heap.size, 0, none⟩) 1 1]).run Try.prog (w3.alloc (.cells #[.string (bs x2)] 9)) = .ok v' w4 ∧ Hid (NamesM w4 (w.heap.size + 1) (j + 1) (fun s => (g ++ [x2]).contains s)) ∧ Hid (strK.own 9 (w.heap.size + 2) w4 v' (g ++ [x2])) ∧ Hid (Below w.heap.size w w4) ∧ w.heap.size + 2 ≤ w4.heap.size) := fun w2 w3 hL hT h23 hm => by
            have hs2 := hL.size
            simp only [World.size_alloc] at hs2
            have hO2 := Kind.own_turned HO.out (Tn.of_below (p := 0) (((Later.refl _).alloc _).trans hL).below) (by omega)
            have hO3 := Kind.own_turned hO2 hT (by omega)
            have hB3 : Below w.heap.size w w3 := below_trans (below_trans HB.out (((Later.refl wr).alloc _).trans hL).below HB.out.size) (hT.below (n := w.heap.size) (by omega) (by omega)) (Nat.le_refl _)
            obtain ⟨v', w4, hrun, o4, g4⟩ := appendStrC hO3 (x := x2) (by omega) (by omega)
            have hs4 := g4.size
            simp only [World.size_alloc] at hs4
            refine ⟨?_, by omega, v', w4, hrun, ?_, o4, ?_, by omega⟩
            · rw [hT.cell (by show wr.heap.size < _; omega) (by show wr.heap.size ≠ _; omega)]
              exact (HZ.out w2 hL).1
            · refine (hm.later ((Later.refl _).alloc _)).grown g4 (fun e => ?_)
              have := (Kind.own_lt hO3 e.symm).1
              omega
            · refine below_trans (hB3.alloc hB3.size _) ⟨g4.os, g4.tape, g4.output, g4.size, fun k hk => g4.block k (by simp; omega) (fun e => ?_)⟩ (Nat.le_refl _)
              have := (Kind.own_lt hO3 e.symm).1
              omega
          clear E1 HM HO HB hxs hcx
          generalize bs x2 = kx at *
          go_wp2_with (first
            | (go_at_call 16; refine HC.out.mono ?_; rintro e w2 ⟨rfl, hL⟩; obtain ⟨z2, h2s⟩ := HZ.out w2 hL; replace hL := hide hL)
            | (go_at_call 17; refine (HA.out w2 (unhide hL)).mono ?_; rintro e w3 ⟨rfl, hm3, hT3, h23⟩; obtain ⟨z3, h3s, v', w4, hrun, hN4, hO4, hB4, h4s⟩ := HP.out w2 w3 (unhide hL) hT3 h23 hm3; replace hrun := hide hrun; clear hm3 hT3)
            | (at_builtin; refine wpList_append_run rfl (.tmp 29) (.tmp 32) 34 rfl _ _ _ _ rfl rfl (unhide hrun) ?_))
          go_roundg (ts.length - (j + 1))
          case measure => omega
          case rel =>
            refine ⟨j + 1, by omega, by go_num, ?_, ?_, hB4, h4s⟩
            · show NamesM _ _ _ _
              rw [E2.out]; exact hN4.out
            · show strK.own _ _ _ _ _
              rw [E2.out]; exact hO4.out
        · have E2 : Hid (varsGo [] (ts.take (j + 1)) = g) := by show _ = _; rw [E1.out]; unfold addNew; rw [hcx]; rfl
          rw [hcx] at HC
          clear E1 hxs hcx
          generalize bs x2 = kx at *
          go_wp2_with (first
            | (go_at_call 16; refine HC.out.mono ?_; rintro e w2 ⟨rfl, hL⟩; obtain ⟨z2, h2s⟩ := HZ.out w2 hL; replace hL := hide hL))
          go_roundg (ts.length - (j + 1))
          case measure => omega
          case rel =>
            have hLL := ((Later.refl wr).alloc (.cells #[.bool true, .string kx] 51)).trans (unhide hL)
            refine ⟨j + 1, by omega, by go_num, ?_, ?_, ?_, by omega⟩
            · show NamesM _ _ _ _
              rw [E2.out]
              exact (HM.out.later hLL).mono (by omega)
            · show strK.own _ _ _ _ _
              rw [E2.out]
              exact Kind.own_turned HO.out (Tn.of_below (p := 0) hLL.below) (by omega)
            · exact below_trans HB.out hLL.below HB.out.size
    · have e : j = ts.length := by omega
      subst e
      have HO2 : Hid (strK.own 9 (w.heap.size + 2) wr (.slice ao (varsGo [] (ts.take ts.length)).length co) (varsGo [] ts)) := by have := HO.out; rw [List.take_length] at this ⊢; exact this
      go_wp2
      go_ret
      exact ⟨_, rfl, HO2.out, HB.out⟩

end Go.Proofs.Ythngiikhgplldaa

/- The walks of check.givenBy and check.Body. -/
namespace Go.Proofs.Ythngiikhgplldaa
open Go.RowKit Go.Sort Go.Maps

/-- What is right with an atom with which nothing is wrong. -/
theorem wrongAtom_zero {a : AtomD} (h : wrongAtom a = 0) : a.name.length ≤ 12 ∧ a.terms.length ≤ 4 ∧ ∀ t ∈ a.terms, t.2.length ≤ 12 := by
  unfold wrongAtom at h
  split at h
  · cases h
  · rename_i h0
    split at h
    · cases h
    · rename_i h1
      split at h
      · cases h
      · rename_i h2
        refine ⟨?_, by omega, fun t ht => ?_⟩
        · have : isNamed a.name = true := by simpa using h0
          unfold isNamed at this
          simp at this
          exact this.1.1
        · have h3 : wrongTerm t = false := by
            cases hc : wrongTerm t with
            | false => rfl
            | true => exact absurd (List.any_eq_true.2 ⟨t, ht, hc⟩) h2
          unfold wrongTerm at h3
          split at h3
          · have : isVar t.2 = true := by simpa using h3
            unfold isVar at this
            simp at this
            exact this.1.1
          · have : isNamed t.2 = true := by simpa using h3
            unfold isNamed at this
            simp at this
            exact this.1.1

theorem short_max {s : Bs} (h : s.length ≤ 12) : s.length ≤ maxLen := by simp [maxLen]; omega

theorem givenBy_step {l : List AtomD} {j : Nat} {a : AtomD} (h : l[j]? = some a) (s : Bs) : givenBy (l.take (j + 1)) s = (givenBy (l.take j) s || (!a.no && (vars a).contains s)) := by
  rw [List.take_add_one, h]
  simp [givenBy]

theorem vars_le (a : AtomD) : (vars a).length ≤ a.terms.length := by have := varsGo_len a.terms []; simpa [vars] using this
theorem vars_mem (a : AtomD) : ∀ s ∈ vars a, ∃ t ∈ a.terms, t.2 = s := by
  have : ∀ (ts : List TermD) (l : List Bs), (∀ s ∈ l, ∃ t ∈ a.terms, t.2 = s) → (∀ t ∈ ts, t ∈ a.terms) → ∀ s ∈ varsGo l ts, ∃ t ∈ a.terms, t.2 = s := by
    intro ts
    induction ts with
    | nil => intro l h _; exact h
    | cons t ts ih =>
      intro l h hsub
      refine ih _ (fun s hs0 => ?_) (fun u hu => hsub u (by simp [hu]))
      have hs : s ∈ (if t.1 then addNew l t.2 else l) := hs0
      clear hs0
      split at hs
      · unfold addNew at hs
        split at hs
        · exact h s hs
        · rcases List.mem_append.1 hs with hs | hs
          · exact h s hs
          · simp at hs; exact ⟨t, hsub t (by simp), hs.symm⟩
      · exact h s hs
  exact this a.terms [] (by simp) (fun t h => h)

set_option maxRecDepth 100000 in
set_option maxHeartbeats 2000000 in
theorem givenByC (l : List AtomD) (v : Value) (w : World) (hv : atomK.sl Anyw w v l) (hf : ∀ a ∈ l, wrongAtom a = 0) (hl : l.length ≤ 5) :
    Calls Try.prog 19 #[v] w fun e w' => e = .returned (.map (some w.heap.size)) ∧ NamesM w' w.heap.size 20 (givenBy l) ∧ Below w.heap.size w w' := by
  obtain ⟨sa, cap, rfl⟩ := Kind.slice hv
  have HV := hide hv
  clear hv
  have HF := hide hf
  clear hf
  have hmm := @run_makeMap Try.prog
  go_enter Try.func19, Try.ntmps19
  go_wp2
  go_loopg [9] l.length (fun k i wr => ∃ j : Nat, j + k = l.length ∧ i = .int .i64 j ∧ Hid (NamesM wr w.heap.size (4 * j) (givenBy (l.take j))) ∧ Hid (Below w.heap.size w wr) ∧ w.heap.size + 1 ≤ wr.heap.size)
  case atStart => exact ⟨0, by omega, rfl, SetM.made Try.prog 9 w, ((Later.refl w).alloc _).below, by simp⟩
  case round =>
    obtain ⟨j, hj, rfl, HM, HB, hsz⟩ := hrel
    by_cases hlt : j < l.length
    · obtain ⟨x, hx⟩ : ∃ x, l[j]? = some x := ⟨_, List.getElem?_eq_getElem hlt⟩
      obtain ⟨b1, o1, _, rfl, hb1, ⟨sv, rfl, hsv⟩, hc⟩ := Kind.sl_at HV.out hx
      have d0 : wr.cell? ⟨b1, o1 + j * 3, none⟩ = some (.bool x.no) := by rw [HB.out.cell hb1]; exact hc 0 _ rfl
      have d1 : wr.cell? ⟨b1, o1 + j * 3 + 1, none⟩ = some (.string (bs x.name)) := by rw [HB.out.cell hb1]; exact hc 1 _ rfl
      have d2 : wr.cell? ⟨b1, o1 + j * 3 + 2, none⟩ = some sv := by rw [HB.out.cell hb1]; exact hc 2 _ rfl
      obtain ⟨fn, ft, fs⟩ := wrongAtom_zero (HF.out x (List.mem_of_getElem? hx))
      have E := hide (givenBy_step hx)
      have hbr : b1 < wr.heap.size := by omega
      have hj5 : j < 5 := by omega
      clear hc hx
      cases hno : x.no
      · have HC : Hid (Calls Try.prog 6 #[.agg #[.bool false, .string (bs x.name), sv]] (wr.alloc (.cells #[.bool false, .string (bs x.name), sv] 30)) fun e w2 => ∃ u, e = .returned u ∧
            Hid (strK.sl (fun k => k ≠ w.heap.size) w2 u (vars x)) ∧ Hid (NamesM w2 w.heap.size (4 * j) (givenBy (l.take j))) ∧ Hid (Below w.heap.size w w2) ∧ w.heap.size + 1 ≤ w2.heap.size) := by
          have hB1 : Below w.heap.size w (wr.alloc (.cells #[.bool false, .string (bs x.name), sv] 30)) := HB.out.alloc HB.out.size _
          have := varsC x sv (wr.alloc (.cells #[.bool false, .string (bs x.name), sv] 30)) (Kind.sl_below hsv hB1) (by omega) (fun t ht => short_max (fs t ht))
          rw [hno] at this
          refine this.mono fun e w2 ⟨u, he, ho, hb⟩ => ⟨u, he, ?_, ?_, ?_, ?_⟩
          · refine Kind.sl_mono (Kind.own_sl ho (by have := vars_le x; omega)) fun k _ hk => ?_
            have : _ ≤ k := hk
            simp only [World.size_alloc] at this
            omega
          · exact (HM.out.later ((Later.refl _).alloc _)).below hb
          · exact below_trans hB1 hb (by simp; omega)
          · have := hb.size; simp at this; omega
        have HA : Hid (∀ w2 u, Hid (strK.sl (fun k => k ≠ w.heap.size) w2 u (vars x)) → Hid (NamesM w2 w.heap.size (4 * j) (givenBy (l.take j))) → Hid (Below w.heap.size w w2) → w.heap.size + 1 ≤ w2.heap.size → Calls Try.prog 17 #[.map (some w.heap.size), u] w2 fun e w3 => e = .returned (.tuple #[]) ∧
            Hid (NamesM w3 w.heap.size (4 * (j + 1)) (givenBy (l.take (j + 1)))) ∧ Hid (Below w.heap.size w w3) ∧ w.heap.size + 1 ≤ w3.heap.size) := fun w2 u h1 h2 h3 h4 => by
          have hvl := vars_le x
          refine (addC _ _ _ u (vars x) w2 h2.out h1.out (by simp [maxLen]; omega) (fun s hs => by obtain ⟨t, ht, rfl⟩ := vars_mem x s hs; exact short_max (fs t ht))).mono fun e w3 ⟨he, k1, k2⟩ => ⟨he, ?_, ?_, ?_⟩
          · exact (k1.mono (by omega)).congr fun s => by rw [E.out s, hno]; simp
          · exact below_trans h3.out (k2.below (n := w.heap.size) (Nat.le_refl _) (by omega)) (Nat.le_refl _)
          · have := k2.size; omega
        rw [hno] at d0
        obtain ⟨a2, c2, rfl⟩ := Kind.slice hsv
        clear hsv E HM HB fs hno
        generalize bs x.name = nm at *
        go_wp2_with (first
          | (go_at_call 6; refine HC.out.mono ?_; rintro e w2 ⟨u, rfl, h1, h2, h3, h4⟩)
          | (go_at_call 17; refine (HA.out w2 u h1 h2 h3 h4).mono ?_; rintro e w3 ⟨rfl, k1, k2, k3⟩))
        go_roundg (l.length - (j + 1))
        case measure => omega
        case rel => exact ⟨j + 1, by omega, by go_num, k1, k2, k3⟩
      · have E1 : Hid (∀ s, givenBy (l.take (j + 1)) s = givenBy (l.take j) s) := fun s => by rw [E.out s, hno]; simp
        rw [hno] at d0
        obtain ⟨a2, c2, rfl⟩ := Kind.slice hsv
        clear hsv E fs hno
        generalize bs x.name = nm at *
        go_wp2
        go_roundg (l.length - (j + 1))
        case measure => omega
        case rel => exact ⟨j + 1, by omega, by go_num, ((HM.out.later ((Later.refl _).alloc _)).mono (by omega)).congr fun s => (E1.out s).symm, HB.out.alloc HB.out.size _, by simp; omega⟩
    · have e : j = l.length := by omega
      subst e
      have HM2 : Hid (NamesM wr w.heap.size 20 (givenBy l)) := by have := HM.out; rw [List.take_length] at this; exact this.mono (by omega)
      go_wp2
      go_ret
      exact ⟨rfl, HM2.out, HB.out⟩

theorem wrongAtoms_step {l : List AtomD} {j : Nat} {a : AtomD} (h : l[j]? = some a) : wrongAtoms (l.drop j) = if wrongAtom a = 0 then wrongAtoms (l.drop (j + 1)) else wrongAtom a := by
  obtain ⟨h1, e1⟩ := List.getElem?_eq_some_iff.1 h
  rw [List.drop_eq_getElem_cons h1, e1]; rfl

set_option maxRecDepth 100000 in
set_option maxHeartbeats 4000000 in
theorem chkBodyC (l : List AtomD) (v : Value) (w : World) (hv : atomK.sl Anyw w v l) :
    Calls Try.prog 8 #[v] w fun e w' => e = .returned (.int .i64 (wrongBody l)) ∧ Below w.heap.size w w' := by
  obtain ⟨sa, cap, rfl⟩ := Kind.slice hv
  have hl0 := hv.1.1
  have HV := hide hv
  clear hv
  by_cases h5 : 5 < l.length
  · have F : Hid (wrongBody l = 5) := by show _ = _; unfold wrongBody; rw [if_pos h5]
    go_enter Try.func8, Try.ntmps8
    go_wp2
    go_ret
    exact ⟨by rw [F.out]; rfl, Below.refl _ _⟩
  · have F : Hid (wrongBody l = if wrongAtoms l = 0 then (if l.all (fun a => (vars a).all (givenBy l)) then 0 else 9) else wrongAtoms l) := by show _ = _; unfold wrongBody; rw [if_neg h5]
    go_enter Try.func8, Try.ntmps8
    go_wp2
    go_loopg [14] l.length (fun k i wr => ∃ j : Nat, j + k = l.length ∧ i = .int .i64 j ∧ Hid (wrongAtoms l = wrongAtoms (l.drop j)) ∧ Hid (∀ a ∈ l.take j, wrongAtom a = 0) ∧ Hid (Below w.heap.size w wr))
    case atStart => exact ⟨0, by omega, rfl, (rfl : _ = _), (fun a ha => by simp at ha), Below.refl _ _⟩
    case round =>
      obtain ⟨j, hj, rfl, HE, HG, HB⟩ := hrel
      have hwr := HB.out.size
      by_cases hlt : j < l.length
      · obtain ⟨x, hx⟩ : ∃ x, l[j]? = some x := ⟨_, List.getElem?_eq_getElem hlt⟩
        obtain ⟨b1, o1, _, rfl, hb1, ⟨sv, rfl, hsv⟩, hc⟩ := Kind.sl_at HV.out hx
        have d0 : wr.cell? ⟨b1, o1 + j * 3, none⟩ = some (.bool x.no) := by rw [HB.out.cell hb1]; exact hc 0 _ rfl
        have d1 : wr.cell? ⟨b1, o1 + j * 3 + 1, none⟩ = some (.string (bs x.name)) := by rw [HB.out.cell hb1]; exact hc 1 _ rfl
        have d2 : wr.cell? ⟨b1, o1 + j * 3 + 2, none⟩ = some sv := by rw [HB.out.cell hb1]; exact hc 2 _ rfl
        have hbr : b1 < wr.heap.size := by omega
        have hB1 : Below w.heap.size w (wr.alloc (.cells #[.bool x.no, .string (bs x.name), sv] 30)) := HB.out.alloc HB.out.size _
        have HC : Hid (Calls Try.prog 18 #[.agg #[.bool x.no, .string (bs x.name), sv]] (wr.alloc (.cells #[.bool x.no, .string (bs x.name), sv] 30)) fun e w2 => e = .returned (.int .i64 (wrongAtom x)) ∧ Hid (Below w.heap.size w w2)) :=
          (wrongAtomC x sv _ (Kind.sl_below hsv hB1)).mono fun e w2 ⟨he, hL⟩ => ⟨he, below_trans hB1 hL.below (by simp; omega)⟩
        have hst := wrongAtoms_step hx
        obtain ⟨a2, c2, rfl⟩ := Kind.slice hsv
        by_cases h0 : wrongAtom x = 0
        · have HE1 : Hid (wrongAtoms l = wrongAtoms (l.drop (j + 1))) := by show _ = _; rw [HE.out, hst, if_pos h0]
          have HG1 : Hid (∀ a ∈ l.take (j + 1), wrongAtom a = 0) := fun a ha => by
            rw [List.take_add_one, hx] at ha
            rcases List.mem_append.1 ha with ha | ha
            · exact HG.out a ha
            · simp at ha; rw [ha]; exact h0
          rw [h0] at HC
          clear hst hc hx hsv hB1 HE HG h0
          generalize bs x.name = nm at *
          generalize x.no = xn at *
          go_wp2_with (go_at_call 18; refine HC.out.mono ?_; rintro e w2 ⟨rfl, hB2⟩)
          go_roundg (l.length - (j + 1))
          case measure => omega
          case rel => exact ⟨j + 1, by omega, by go_num, HE1, HG1, hB2⟩
        · have F2 : Hid (wrongBody l = wrongAtom x) := by show _ = _; rw [F.out, HE.out, hst, if_neg h0, if_neg h0]
          have hq : (wrongAtom x != 0) = true := by simpa using h0
          clear hst hc hx hsv hB1 HE HG h0
          generalize bs x.name = nm at *
          generalize x.no = xn at *
          generalize wrongAtom x = ex at *
          go_wp2_with (go_at_call 18; refine HC.out.mono ?_; rintro e w2 ⟨rfl, hB2⟩)
          go_ret
          exact ⟨by rw [F2.out]; rfl, hB2.out⟩
      · have e : j = l.length := by omega
        subst e
        have HG1 : Hid (∀ a ∈ l, wrongAtom a = 0) := by have := HG.out; rw [List.take_length] at this; exact this
        have F1 : Hid (wrongBody l = if l.all (fun a => (vars a).all (givenBy l)) then 0 else 9) := by
          show _ = _
          rw [F.out, if_pos]
          rw [HE.out, List.drop_length]; rfl
        have HGB : Hid (Calls Try.prog 19 #[.slice sa l.length cap] wr fun e w' => e = .returned (.map (some wr.heap.size)) ∧ Hid (NamesM w' wr.heap.size 20 (givenBy l)) ∧ Hid (Below w.heap.size w w') ∧ Hid (Below wr.heap.size wr w')) :=
          (givenByC l _ wr (Kind.sl_below HV.out HB.out) HG1.out (by omega)).mono fun e w' ⟨he, h1, h2⟩ => ⟨he, h1, below_trans HB.out h2 hwr, h2⟩
        clear HE HG HB F
        generalize hgb : givenBy l = gb at *
        clear hgb
        generalize hbk : wr.heap.size = bk at *
        clear hbk
        go_wp2_with (go_at_call 19; refine HGB.out.mono ?_; rintro e w3 ⟨rfl, hM3, hB3, _⟩)
        go_loopg [28] l.length (fun k i wr => ∃ j : Nat, j + k = l.length ∧ i = .int .i64 j ∧ Hid (NamesM wr bk 20 gb) ∧ Hid (l.all (fun a => (vars a).all gb) = (l.drop j).all (fun a => (vars a).all gb)) ∧ Hid (Below w.heap.size w wr))
        case atStart => exact ⟨0, by omega, rfl, hM3, (rfl : _ = _), hB3⟩
        case round =>
          obtain ⟨j, hj, rfl, HM, HF, HB⟩ := hrel
          have hwr := HB.out.size
          by_cases hlt : j < l.length
          · obtain ⟨x, hx⟩ : ∃ x, l[j]? = some x := ⟨_, List.getElem?_eq_getElem hlt⟩
            obtain ⟨b1, o1, _, rfl, hb1, ⟨sv, rfl, hsv⟩, hc⟩ := Kind.sl_at HV.out hx
            have d0 : wr.cell? ⟨b1, o1 + j * 3, none⟩ = some (.bool x.no) := by rw [HB.out.cell hb1]; exact hc 0 _ rfl
            have d1 : wr.cell? ⟨b1, o1 + j * 3 + 1, none⟩ = some (.string (bs x.name)) := by rw [HB.out.cell hb1]; exact hc 1 _ rfl
            have d2 : wr.cell? ⟨b1, o1 + j * 3 + 2, none⟩ = some sv := by rw [HB.out.cell hb1]; exact hc 2 _ rfl
            obtain ⟨fn, ft, fs⟩ := wrongAtom_zero (HG1.out x (List.mem_of_getElem? hx))
            have hbr : b1 < wr.heap.size := by omega
            have hB1 : Below w.heap.size w (wr.alloc (.cells #[.bool x.no, .string (bs x.name), sv] 30)) := HB.out.alloc HB.out.size _
            have HC : Hid (Calls Try.prog 6 #[.agg #[.bool x.no, .string (bs x.name), sv]] (wr.alloc (.cells #[.bool x.no, .string (bs x.name), sv] 30)) fun e w2 => ∃ u, e = .returned u ∧
                Hid (strK.sl Anyw w2 u (vars x)) ∧ Hid (NamesM w2 bk 20 gb) ∧ Hid (Below w.heap.size w w2)) :=
              (varsC x sv _ (Kind.sl_below hsv hB1) (by omega) (fun t ht => short_max (fs t ht))).mono fun e w2 ⟨u, he, ho, hb⟩ => ⟨u, he, Kind.sl_any (Kind.own_sl ho (by have := vars_le x; omega)), (HM.out.later ((Later.refl _).alloc _)).below hb, below_trans hB1 hb (by simp; omega)⟩
            have HA : Hid (∀ w2 u, Hid (strK.sl Anyw w2 u (vars x)) → Hid (NamesM w2 bk 20 gb) → Hid (Below w.heap.size w w2) → Calls Try.prog 20 #[.map (some bk), u] w2 fun e w3 => e = .returned (.bool ((vars x).all gb)) ∧
                Hid (NamesM w3 bk 20 gb) ∧ Hid (Below w.heap.size w w3)) := fun w2 u h1 h2 h3 =>
              (hasAllC _ _ _ u (vars x) w2 h2.out h1.out (fun s hs => by obtain ⟨t, ht, rfl⟩ := vars_mem x s hs; exact short_max (fs t ht))).mono fun e w3 ⟨he, hL⟩ => ⟨he, h2.out.later hL, below_trans h3.out hL.below h3.out.size⟩
            have hst := all_step hx (fun a => (vars a).all gb)
            obtain ⟨a2, c2, rfl⟩ := Kind.slice hsv
            generalize hvx : (vars x).all gb = vx at *
            cases vx
            · have F2 : Hid (wrongBody l = 9) := by show _ = _; rw [F1.out, HF.out, hst]; rfl
              clear hst hc hx hsv hB1 HM HF hvx F1 fs
              generalize bs x.name = nm at *
              generalize x.no = xn at *
              go_wp2_with (first
                | (go_at_call 6; refine HC.out.mono ?_; rintro e w4 ⟨u, rfl, h1, h2, h3⟩)
                | (go_at_call 20; refine (HA.out w4 u h1 h2 h3).mono ?_; rintro e w5 ⟨rfl, k1, k2⟩))
              go_ret
              exact ⟨by rw [F2.out]; rfl, k2.out⟩
            · have HF1 : Hid (l.all (fun a => (vars a).all gb) = (l.drop (j + 1)).all (fun a => (vars a).all gb)) := by show _ = _; rw [HF.out, hst]; rfl
              clear hst hc hx hsv hB1 HM HF hvx fs
              generalize bs x.name = nm at *
              generalize x.no = xn at *
              go_wp2_with (first
                | (go_at_call 6; refine HC.out.mono ?_; rintro e w4 ⟨u, rfl, h1, h2, h3⟩)
                | (go_at_call 20; refine (HA.out w4 u h1 h2 h3).mono ?_; rintro e w5 ⟨rfl, k1, k2⟩))
              go_roundg (l.length - (j + 1))
              case measure => omega
              case rel => exact ⟨j + 1, by omega, by go_num, k1, HF1, k2⟩
          · have F2 : Hid (wrongBody l = 0) := by show _ = _; rw [F1.out, HF.out, List.drop_eq_nil_of_le (by omega)]; rfl
            go_wp2
            go_ret
            exact ⟨by rw [F2.out]; rfl, HB.out⟩

end Go.Proofs.Ythngiikhgplldaa

/- The walk of fact.keep, whatever the closure that is asked, and whatever it keeps to itself. -/
namespace Go.Proofs.Ythngiikhgplldaa
open Go.RowKit Go.Sort

/-- The first k facts, those of them that p takes. -/
def pick (p : Nat → Bool) (l : List FactD) : Nat → List FactD
  | 0 => []
  | k + 1 => if p k then pick p l k ++ [l.getD k noFact] else pick p l k

/-- What is asked of a closure: in every round it tells p k; it turns nothing but its own blocks (from lo up to hi), and its own state goes on. -/
structure Asked (g : Nat) (cb : Array Value) (lo hi : Nat) (w0 : World) (l : List FactD) (p : Nat → Bool) (S : Nat → World → Prop) : Prop where
  ask : ∀ k w' v, k < l.length → Later w0 w' → hi ≤ w'.heap.size → S k w' → FactV w0 v (l.getD k noFact) →
    Calls Try.prog g (#[v] ++ cb) w' fun e w'' => e = .returned (.bool (p k)) ∧ Only lo hi w' w'' ∧ S (k + 1) w''
  kept : ∀ k w' w'', S k w' → (∀ j, j < hi → w''.heap[j]? = w'.heap[j]?) → w'.heap.size ≤ w''.heap.size → S k w''

end Go.Proofs.Ythngiikhgplldaa

/- Sets of facts, in plain Lean: lists that rise, each fact once. -/
namespace Go.Proofs.Ythngiikhgplldaa
open Go.RowKit Go.Sort

/-- Rising, each once. -/
def Rises (s : List FactD) : Prop := s.Pairwise fun a b => cmpF a b < 0

/-- s is the set of l's facts. -/
def SetOf (s l : List FactD) : Prop := Rises s ∧ (∀ f, f ∈ s ↔ f ∈ l) ∧ s.length ≤ l.length

/-- Is a fact another one than the one ahead? -/
def newP (l : List FactD) (k : Nat) : Bool := decide (k = 0) || !decide (cmpF (l.getD (k - 1) noFact) (l.getD k noFact) = 0)

end Go.Proofs.Ythngiikhgplldaa
