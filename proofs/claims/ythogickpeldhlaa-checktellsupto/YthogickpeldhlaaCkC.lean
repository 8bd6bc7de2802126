/- The walk of check.Vars. -/
import Derived.Test.YthogickpeldhlaaCkB
namespace Go.Proofs.Ythogickpeldhlaa
open Go.RowKit Go.Sort Go.Maps

theorem appendStrC {lo : Nat} {w : World} {v : Value} {l : List Bs} (h : strK.own 9 lo w v l) {x : Bs} (hl : l.length + 1 ≤ 1099511627776) (hlo : lo ≤ w.heap.size) :
    ∃ v' w', (Builtin.append_ #[23, 23] 23 #[v, .slice (some ⟨w.heap.size, 0, none⟩) 1 1]).run Try.prog (w.alloc (.cells #[.string (bs x)] 9)) = .ok v' w' ∧ strK.own 9 lo w' v' (l ++ [x]) ∧ (w.alloc (.cells #[.string (bs x)] 9)).grownBy w' v.ownBlock := by
  obtain ⟨i, i1, i2, i3, i4⟩ := infoStr
  exact Kind.own_append h Try.underlying23 i1 i2 i3 i4 rfl (by decide) (by decide) (c := [.string (bs x)]) rfl hl hlo

theorem varsGo_step {ts : List TermD} {j : Nat} {x : TermD} (h : ts[j]? = some x) : varsGo [] (ts.take (j + 1)) = if x.1 then addNew (varsGo [] (ts.take j)) x.2 else varsGo [] (ts.take j) := by
  rw [List.take_add_one, h]
  simp [varsGo, List.foldl_append]

theorem addNew_len (l : List Bs) (s : Bs) : (addNew l s).length ≤ l.length + 1 := by unfold addNew; split <;> simp
theorem varsGo_len (ts : List TermD) : ∀ l, (varsGo l ts).length ≤ l.length + ts.length := by
  induction ts with
  | nil => intro l; simp [varsGo]
  | cons t ts ih =>
    intro l
    show (varsGo (if t.1 then addNew l t.2 else l) ts).length ≤ _
    have h0 : (if t.1 then addNew l t.2 else l).length ≤ l.length + 1 := by
      split
      · exact addNew_len l t.2
      · omega
    have h1 := ih (if t.1 then addNew l t.2 else l)
    rw [List.length_cons]; omega

theorem one_sl {w : World} {b : Nat} (x : Bs) (hb : b < w.heap.size) : strK.sl (fun k => k ≠ b) (w.alloc (.cells #[.string (bs x)] 9)) (.slice (some ⟨w.heap.size, 0, none⟩) 1 1) [x] := by
  have h := Kind.own_one (K := strK) (ty := 9) (lo := w.heap.size) (w := w) (c := [.string (bs x)]) (x := x) rfl (Nat.le_refl _)
  exact Kind.sl_mono (Kind.own_sl h (by simp)) fun k _ hk => by have : w.heap.size ≤ k := hk; omega

set_option maxRecDepth 100000 in
set_option maxHeartbeats 2000000 in
theorem varsC (a : AtomD) (v : Value) (w : World) (hv : termK.sl Anyw w v a.terms) (hn : a.terms.length ≤ 1099511627775) (hs : ∀ t ∈ a.terms, t.2.length ≤ maxLen) :
    Calls Try.prog 47 #[.agg #[.bool a.no, .string (bs a.name), v]] w fun e w' => ∃ u, e = .returned u ∧ strK.own 9 (w.heap.size + 2) w' u (vars a) ∧ Below w.heap.size w w' := by
  obtain ⟨sa, cap, rfl⟩ := Kind.slice hv
  have HV := hide hv
  clear hv
  obtain ⟨no, name, ts⟩ := a
  dsimp only at *
  have HS := hide hs
  clear hs
  have hmm := @run_makeMap Try.prog
  show Calls _ _ _ _ fun e w' => ∃ u, e = .returned u ∧ strK.own 9 (w.heap.size + 2) w' u (varsGo [] ts) ∧ _
  generalize bs name = nm
  go_enter Try.func47, Try.ntmps47
  go_wp2
  go_loopg [4, 11] ts.length (fun k o i wr => ∃ j : Nat, j + k = ts.length ∧ i = .int .i64 j ∧ Hid (NamesM wr (w.heap.size + 1) j (fun s => (varsGo [] (ts.take j)).contains s)) ∧ Hid (strK.own 9 (w.heap.size + 2) wr o (varsGo [] (ts.take j))) ∧ Hid (Below w.heap.size w wr) ∧ w.heap.size + 2 ≤ wr.heap.size)
  case atStart =>
    refine ⟨0, by omega, rfl, ?_, strK.own_nil _ _ _, ?_, by simp⟩
    · have := SetM.made Try.prog 9 (w.alloc (.cells #[.bool no, .string nm, .slice sa ts.length cap] 54))
      rw [World.size_alloc] at this
      exact this
    · exact (((Later.refl w).alloc _).alloc _).below
  case round =>
    obtain ⟨j, hj, rfl, HM, HO, HB, hsz⟩ := hrel
    obtain ⟨ao, co, rfl⟩ := Kind.own_slice HO.out
    by_cases hlt : j < ts.length
    · obtain ⟨x, hx⟩ : ∃ x, ts[j]? = some x := ⟨_, List.getElem?_eq_getElem hlt⟩
      obtain ⟨b1, o1, _, rfl, hb1, rfl, hc⟩ := Kind.sl_at HV.out hx
      have d0 : wr.cell? ⟨b1, o1 + j * 2, none⟩ = some (.bool x.1) := by rw [HB.out.cell hb1]; exact hc 0 _ rfl
      have d1 : wr.cell? ⟨b1, o1 + j * 2 + 1, none⟩ = some (.string (bs x.2)) := by rw [HB.out.cell hb1]; exact hc 1 _ rfl
      have hxs : x.2.length ≤ maxLen := HS.out x (List.mem_of_getElem? hx)
      have E := hide (varsGo_step hx)
      have hlen : (varsGo [] (ts.take j)).length ≤ j := by have := varsGo_len (ts.take j) []; simp at this; omega
      clear hc hx
      have hbr : b1 < wr.heap.size := by omega
      obtain ⟨x1, x2⟩ := x
      dsimp only at *
      generalize hg : varsGo [] (ts.take j) = g at *
      clear hg
      cases x1
      · have E1 : Hid (varsGo [] (ts.take (j + 1)) = g) := E.out
        clear E
        generalize bs x2 = kx at *
        go_wp2
        go_roundg (ts.length - (j + 1))
        case measure => omega
        case rel =>
          refine ⟨j + 1, by omega, by go_num, ?_, ?_, ?_, by simp; omega⟩
          · show NamesM _ _ _ _
            rw [E1.out]
            exact (HM.out.later ((Later.refl _).alloc _)).mono (by omega)
          · show strK.own _ _ _ _ _
            rw [E1.out]
            exact Kind.own_turned HO.out ((Tn.refl 0 _).alloc _) (by omega)
          · exact HB.out.alloc HB.out.size _
      · have E1 : Hid (varsGo [] (ts.take (j + 1)) = addNew g x2) := E.out
        clear E
        have HC : Hid (Calls Try.prog 91 #[.map (some (w.heap.size + 1)), .string (bs x2)] (wr.alloc (.cells #[.bool true, .string (bs x2)] 105)) fun e w' => e = .returned (.bool (g.contains x2)) ∧ Later (wr.alloc (.cells #[.bool true, .string (bs x2)] 105)) w') := hasC _ _ _ x2 _ (HM.out.later ((Later.refl _).alloc _)) hxs
        have HZ : Hid (∀ w2, Later (wr.alloc (.cells #[.bool true, .string (bs x2)] 105)) w2 → w2.cell? ⟨wr.heap.size, 1, none⟩ = some (.string (bs x2)) ∧ wr.heap.size < w2.heap.size) := fun w2 hL => by
          refine ⟨?_, by have := hL.size; simp at this; omega⟩
          rw [hL.cell (by simp)]; simp
        cases hcx : g.contains x2
        · have E2 : Hid (varsGo [] (ts.take (j + 1)) = g ++ [x2]) := by show _ = _; rw [E1.out]; unfold addNew; rw [hcx]; rfl
          rw [hcx] at HC
          have HA : Hid (∀ w2, Later (wr.alloc (.cells #[.bool true, .string (bs x2)] 105)) w2 → Calls Try.prog 92 #[.map (some (w.heap.size + 1)), .slice (some ⟨w2.heap.size, 0, none⟩) 1 1] (w2.alloc (.cells #[.string (bs x2)] 9))
              fun e w3 => e = .returned (.tuple #[]) ∧ NamesM w3 (w.heap.size + 1) (j + 1) (fun s => (g ++ [x2]).contains s) ∧ Tn (w.heap.size + 1) w2 w3 ∧ w2.heap.size < w3.heap.size) := fun w2 hL => by
            have hs2 := hL.size
            simp only [World.size_alloc] at hs2
            have hm := HM.out.later (((Later.refl _).alloc _).trans hL)
            refine (addC _ _ _ _ [x2] _ (hm.later ((Later.refl _).alloc _)) (one_sl x2 (by omega)) (by simp [maxLen]; omega) (by simpa using hxs)).mono fun e w3 ⟨he, h1, h2⟩ => ⟨he, h1.congr fun s => by simp, ((Tn.refl _ _).alloc _).trans h2, by have := h2.size; simp at this; omega⟩
          have HP : Hid (∀ w2 w3, Later (wr.alloc (.cells #[.bool true, .string (bs x2)] 105)) w2 → Tn (w.heap.size + 1) w2 w3 → w2.heap.size < w3.heap.size → NamesM w3 (w.heap.size + 1) (j + 1) (fun s => (g ++ [x2]).contains s) → w3.cell? ⟨wr.heap.size, 1, none⟩ = some (.string (bs x2)) ∧ wr.heap.size < w3.heap.size ∧
              ∃ v' w4, (Builtin.append_ #[23, 23] 23 #[.slice ao g.length co, .slice (some ⟨w3.heap.size, 0, none⟩) 1 1]).run Try.prog (w3.alloc (.cells #[.string (bs x2)] 9)) = .ok v' w4 ∧ Hid (NamesM w4 (w.heap.size + 1) (j + 1) (fun s => (g ++ [x2]).contains s)) ∧ Hid (strK.own 9 (w.heap.size + 2) w4 v' (g ++ [x2])) ∧ Hid (Below w.heap.size w w4) ∧ w.heap.size + 2 ≤ w4.heap.size) := fun w2 w3 hL hT h23 hm => by
            have hs2 := hL.size
            simp only [World.size_alloc] at hs2
            have hO2 := Kind.own_turned HO.out (Tn.of_below (p := 0) (((Later.refl _).alloc _).trans hL).below) (by omega)
            have hO3 := Kind.own_turned hO2 hT (by omega)
            have hB3 : Below w.heap.size w w3 := below_trans (below_trans HB.out (((Later.refl wr).alloc _).trans hL).below HB.out.size) (hT.below (n := w.heap.size) (by omega) (by omega)) (Nat.le_refl _)
            obtain ⟨v', w4, hrun, o4, g4⟩ := appendStrC hO3 (x := x2) (by omega) (by omega)
            have hs4 := g4.size
            simp only [World.size_alloc] at hs4
            refine ⟨?_, by omega, v', w4, hrun, ?_, o4, ?_, by omega⟩
            · rw [hT.cell (by show wr.heap.size < _; omega) (by show wr.heap.size ≠ _; omega)]
              exact (HZ.out w2 hL).1
            · refine (hm.later ((Later.refl _).alloc _)).grown g4 (fun e => ?_)
              have := (Kind.own_lt hO3 e.symm).1
              omega
            · refine below_trans (hB3.alloc hB3.size _) ⟨g4.os, g4.tape, g4.output, g4.size, fun k hk => g4.block k (by simp; omega) (fun e => ?_)⟩ (Nat.le_refl _)
              have := (Kind.own_lt hO3 e.symm).1
              omega
          clear E1 HM HO HB hxs hcx
          generalize bs x2 = kx at *
          go_wp2_with (first
            | (go_at_call 91; refine HC.out.mono ?_; rintro e w2 ⟨rfl, hL⟩; obtain ⟨z2, h2s⟩ := HZ.out w2 hL; replace hL := hide hL)
            | (go_at_call 92; refine (HA.out w2 (unhide hL)).mono ?_; rintro e w3 ⟨rfl, hm3, hT3, h23⟩; obtain ⟨z3, h3s, v', w4, hrun, hN4, hO4, hB4, h4s⟩ := HP.out w2 w3 (unhide hL) hT3 h23 hm3; replace hrun := hide hrun; clear hm3 hT3)
            | (at_builtin; refine wpList_append_run rfl (.tmp 29) (.tmp 32) 23 rfl _ _ _ _ rfl rfl (unhide hrun) ?_))
          go_roundg (ts.length - (j + 1))
          case measure => omega
          case rel =>
            refine ⟨j + 1, by omega, by go_num, ?_, ?_, hB4, h4s⟩
            · show NamesM _ _ _ _
              rw [E2.out]; exact hN4.out
            · show strK.own _ _ _ _ _
              rw [E2.out]; exact hO4.out
        · have E2 : Hid (varsGo [] (ts.take (j + 1)) = g) := by show _ = _; rw [E1.out]; unfold addNew; rw [hcx]; rfl
          rw [hcx] at HC
          clear E1 hxs hcx
          generalize bs x2 = kx at *
          go_wp2_with (first
            | (go_at_call 91; refine HC.out.mono ?_; rintro e w2 ⟨rfl, hL⟩; obtain ⟨z2, h2s⟩ := HZ.out w2 hL; replace hL := hide hL))
          go_roundg (ts.length - (j + 1))
          case measure => omega
          case rel =>
            have hLL := ((Later.refl wr).alloc (.cells #[.bool true, .string kx] 105)).trans (unhide hL)
            refine ⟨j + 1, by omega, by go_num, ?_, ?_, ?_, by omega⟩
            · show NamesM _ _ _ _
              rw [E2.out]
              exact (HM.out.later hLL).mono (by omega)
            · show strK.own _ _ _ _ _
              rw [E2.out]
              exact Kind.own_turned HO.out (Tn.of_below (p := 0) hLL.below) (by omega)
            · exact below_trans HB.out hLL.below HB.out.size
    · have e : j = ts.length := by omega
      subst e
      have HO2 : Hid (strK.own 9 (w.heap.size + 2) wr (.slice ao (varsGo [] (ts.take ts.length)).length co) (varsGo [] ts)) := by have := HO.out; rw [List.take_length] at this ⊢; exact this
      go_wp2
      go_ret
      exact ⟨_, rfl, HO2.out, HB.out⟩

end Go.Proofs.Ythogickpeldhlaa
