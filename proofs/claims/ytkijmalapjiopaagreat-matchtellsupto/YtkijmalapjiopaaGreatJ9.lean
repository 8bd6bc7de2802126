/- Texts of this claim, one behind the other. -/
import Derived.Test.YtkijmalapjiopaaGreatJ4
import Derived.Test.YtkijmalapjiopaaGreatJ2
/- The walks of check's sets of names. -/
namespace Go.Proofs.YtkijmalapjiopaaGreat
open Go.RowKit Go.Sort Go.Maps

abbrev NamesM (w : World) (b n : Nat) (f : Bs → Bool) : Prop := SetM Tryz.prog 9 w b n f
theorem zeroUnit (w : World) : (zeroValue 131).run Tryz.prog w = .ok (.agg #[]) w := by kernel_rfl
theorem zeroInt (w : World) : (zeroValue 3).run Tryz.prog w = .ok (.int .i64 0) w := by kernel_rfl

theorem Tn.of_grown {p : Nat} {a b : World} (h : a.grownBy b (some p)) : Tn p a b := ⟨h.os, h.tape, h.output, h.size, fun k hk ho => h.block k hk (by simpa using ho)⟩

/-- An element's cells, and where they may lie. -/
theorem Kind.sl_atB {α : Type} {K : Kind α} {B : Nat → Prop} {w : World} {a : Option Addr} {n cap i : Nat} {l : List α} {x : α} (h : K.sl B w (.slice a n cap) l) (hi : l[i]? = some x) :
    ∃ b off c, a = some ⟨b, off, none⟩ ∧ b < w.heap.size ∧ B b ∧ K.is B w c x ∧ ∀ j u, c[j]? = some u → w.cell? ⟨b, off + i * K.size + j, none⟩ = some u := by
  obtain ⟨_, a', cap', e, h1⟩ := h
  simp only [Value.slice.injEq] at e
  obtain ⟨rfl, _, _⟩ := e
  obtain ⟨b, off, rfl, hB, hb, hc⟩ := h1 (by intro e; rw [e] at hi; simp at hi)
  obtain ⟨c, c1, c2⟩ := hc i x hi
  exact ⟨b, off, c, rfl, hb, hB, c1, c2⟩

set_option maxHeartbeats 400000 in
theorem hasC (b n : Nat) (f : Bs → Bool) (s : Bs) (w : World) (h : NamesM w b n f) (hs : s.length ≤ maxLen) :
    Calls Tryz.prog 70 #[.map (some b), .string (bs s)] w fun e w' => e = .returned (.bool (f s)) ∧ Later w w' := by
  have hr := SetM.has (T := 88) (E := 131) h Tryz.underlying9 Tryz.underlying88 (zeroUnit w) hs
  generalize f s = r at *
  generalize bs s = k at *
  go_enter Tryz.func70, Tryz.ntmps70
  go_wp2
  go_ret
  exact ⟨rfl, (Later.refl _).alloc _⟩

theorem contains_take {l : List Bs} {j : Nat} {x : Bs} (h : l[j]? = some x) (s : Bs) : (l.take (j + 1)).contains s = ((l.take j).contains s || decide (s = x)) := by
  rw [List.take_add_one, h]
  rw [Bool.eq_iff_iff]
  simp

set_option maxHeartbeats 1000000 in
theorem addC (b n : Nat) (f : Bs → Bool) (v : Value) (l : List Bs) (w : World) (h : NamesM w b n f) (hv : strK.sl (fun k => k ≠ b) w v l) (hn : n + l.length < maxLen) (hs : ∀ s ∈ l, s.length ≤ maxLen) :
    Calls Tryz.prog 69 #[.map (some b), v] w fun e w' => e = .returned (.tuple #[]) ∧ NamesM w' b (n + l.length) (fun s => f s || l.contains s) ∧ Tn b w w' := by
  obtain ⟨a, cap, rfl⟩ := Kind.slice hv
  have HV := hide hv
  have hl := hv.1.1
  clear hv
  have H0 : Hid (NamesM w b (n + 0) (fun s => f s || (l.take 0).contains s)) := h.congr fun s => by simp
  clear h
  go_enter Tryz.func69, Tryz.ntmps69
  go_wp2
  go_loopg [8] l.length (fun k i wr => ∃ j : Nat, j + k = l.length ∧ i = .int .i64 j ∧ Hid (NamesM wr b (n + j) (fun s => f s || (l.take j).contains s)) ∧ Hid (Tn b w wr))
  case atStart => exact ⟨0, by omega, rfl, H0, Tn.refl _ _⟩
  case round =>
    obtain ⟨j, hj, rfl, HM, HT⟩ := hrel
    by_cases hlt : j < l.length
    · obtain ⟨x, hx⟩ : ∃ x, l[j]? = some x := ⟨_, List.getElem?_eq_getElem hlt⟩
      obtain ⟨b1, o1, _, rfl, hb1, hne, rfl, hc⟩ := Kind.sl_atB HV.out hx
      have d0 : wr.cell? ⟨b1, o1 + j, none⟩ = some (.string (bs x)) := by rw [HT.out.cell hb1 hne]; simpa [strK] using hc 0 _ rfl
      obtain ⟨w1, hr, hm, hg⟩ := SetM.add (T := 88) (E := 131) HM.out Tryz.underlying9 Tryz.underlying88 (by omega) (hs x (List.mem_of_getElem? hx))
      have HM1 : Hid (NamesM w1 b (n + (j + 1)) (fun s => f s || (l.take (j + 1)).contains s)) := hm.congr fun s => by rw [contains_take hx]; simp [Bool.or_assoc]
      have HT1 : Hid (Tn b w w1) := HT.out.trans (Tn.of_grown hg)
      clear hc hm hg hx HM HT
      generalize bs x = k at *
      go_wp2_with (first
        | (at_mapUpdate; refine wpList_run_update _ rfl _ _ _ _ rfl _ _ _ _ rfl rfl rfl hr ?_)
        | go_in)
      go_roundg (l.length - (j + 1))
      case measure => omega
      case rel => exact ⟨j + 1, by omega, by go_num, HM1, HT1⟩
    · have e : j = l.length := by omega
      subst e
      go_wp2
      go_end0
      exact ⟨rfl, by simpa using HM.out, HT.out⟩

set_option maxHeartbeats 1000000 in
theorem hasAllC (b n : Nat) (f : Bs → Bool) (v : Value) (l : List Bs) (w : World) (h : NamesM w b n f) (hv : strK.sl Anyw w v l) (hs : ∀ s ∈ l, s.length ≤ maxLen) :
    Calls Tryz.prog 53 #[.map (some b), v] w fun e w' => e = .returned (.bool (l.all f)) ∧ Later w w' := by
  obtain ⟨a, cap, rfl⟩ := Kind.slice hv
  have HV := hide hv
  have hl := hv.1.1
  clear hv
  have H0 := hide h
  clear h
  go_enter Tryz.func53, Tryz.ntmps53
  go_wp2
  go_loopg [9] l.length (fun k i wr => ∃ j : Nat, j + k = l.length ∧ i = .int .i64 j ∧ Hid (Later w wr) ∧ Hid (l.all f = (l.drop j).all f))
  case atStart => exact ⟨0, by omega, rfl, Later.refl _, (rfl : _ = _)⟩
  case round =>
    obtain ⟨j, hj, rfl, HL, HF⟩ := hrel
    by_cases hlt : j < l.length
    · obtain ⟨x, hx⟩ : ∃ x, l[j]? = some x := ⟨_, List.getElem?_eq_getElem hlt⟩
      obtain ⟨b1, o1, _, rfl, hb1, rfl, hc⟩ := Kind.sl_at HV.out hx
      have d0 : wr.cell? ⟨b1, o1 + j, none⟩ = some (.string (bs x)) := by rw [HL.out.cell hb1]; simpa [strK] using hc 0 _ rfl
      have hC := hasC b n f x wr (H0.out.later HL.out) (hs x (List.mem_of_getElem? hx))
      have HC := hide hC
      have hd : (l.drop j).all f = (f x && (l.drop (j + 1)).all f) := by
        obtain ⟨h1, e1⟩ := List.getElem?_eq_some_iff.1 hx
        rw [List.drop_eq_getElem_cons h1, e1]; rfl
      clear hc hx hC
      generalize bs x = k at *
      cases hf : f x
      · have F : Hid (l.all f = false) := by show _ = _; rw [HF.out, hd, hf]; rfl
        rw [hf] at HC
        clear hd HF
        go_wp2_with (go_at_call 70; refine HC.out.mono ?_; rintro e w' ⟨rfl, hL⟩; replace hL := hide hL)
        go_ret
        exact ⟨ret_bool F.out.symm, HL.out.trans (unhide hL)⟩
      · have F : Hid (l.all f = (l.drop (j + 1)).all f) := by show _ = _; rw [HF.out, hd, hf]; rfl
        rw [hf] at HC
        clear hd HF
        go_wp2_with (go_at_call 70; refine HC.out.mono ?_; rintro e w' ⟨rfl, hL⟩; replace hL := hide hL)
        go_roundg (l.length - (j + 1))
        case measure => omega
        case rel => exact ⟨j + 1, by omega, by go_num, HL.out.trans (unhide hL), F⟩
    · have F : Hid (l.all f = true) := by show _ = _; rw [HF.out, List.drop_eq_nil_of_le (by omega)]; rfl
      go_wp2
      go_ret
      exact ⟨ret_bool F.out.symm, HL.out⟩

end Go.Proofs.YtkijmalapjiopaaGreat

/- The walk of syntax.Variable. -/
namespace Go.Proofs.YtkijmalapjiopaaGreat
open Go.RowKit Go.Sort

theorem isVar_long {l : Bs} (h : l = [] ∨ 12 < l.length) : isVar l = false := by
  rcases h with h | h
  · subst h; rfl
  · unfold isVar; rw [decide_eq_false (by omega)]; rfl

theorem isVar_in {s : ByteArray} (h0 : 0 < s.size) (h1 : s.size ≤ 12) : isVar (raw s) = (greatB (s[0].toNat) && decide ((bs ((raw s).takeWhile isSign)).size = s.size)) := by
  have hl := length_raw s
  unfold isVar
  rw [size_bs, ← hl, takeWhile_len, decide_eq_true (by omega)]
  have hl' : 0 < (raw s).length := by omega
  have e : raw s = (s[0]'h0) :: (raw s).drop 1 := by
    have := List.drop_eq_getElem_cons hl'
    rw [List.drop_zero, getRaw h0 hl'] at this
    exact this
  generalize (raw s).all isSign = q
  rw [e]
  rfl

set_option maxHeartbeats 1000000 in
theorem variableC (s : ByteArray) (w : World) : Calls Tryz.prog 101 #[.string s] w fun e w' => e = .returned (.bool (isVar (raw s))) ∧ w' = w := by
  by_cases h0 : 0 < s.size
  · have h0' : ((s.size : Int) == 0) = false := by rw [beq_eq_false_iff_ne]; omega
    by_cases h1 : s.size ≤ 12
    · have F := hide (isVar_in h0 h1)
      generalize hx : bs ((raw s).takeWhile isSign) = x at F
      have HX := hide hx
      clear hx
      generalize hc : (s[0]'h0).toNat = c at F
      by_cases ha : c < 65
      · have G : Hid (greatB c = false) := by show _ = _; unfold greatB; exact decide_eq_false (by omega)
        have ha' : (c : Int) < 65 := by omega
        go_enter Tryz.func101, Tryz.ntmps101
        go_wp2
        go_ret
        exact ⟨ret_bool (by rw [F.out, G.out]; rfl), rfl⟩
      · by_cases hz : 90 < c
        · have G : Hid (greatB c = false) := by show _ = _; unfold greatB; exact decide_eq_false (by omega)
          have ha' : ¬ (c : Int) < 65 := by omega
          have hz' : 90 < (c : Int) := by omega
          go_enter Tryz.func101, Tryz.ntmps101
          go_wp2
          go_ret
          exact ⟨ret_bool (by rw [F.out, G.out]; rfl), rfl⟩
        · have G : Hid (greatB c = true) := by show _ = _; unfold greatB; exact decide_eq_true (by omega)
          have ha' : ¬ (c : Int) < 65 := by omega
          have hz' : ¬ 90 < (c : Int) := by omega
          go_enter Tryz.func101, Tryz.ntmps101
          go_wp2_with (go_at_call 99; refine (wordC _ _ (by omega)).mono ?_; rintro e w' ⟨rfl, rfl⟩; rw [HX.out])
          go_ret
          refine ⟨ret_bool ?_, rfl⟩
          rw [F.out, G.out, Bool.eq_iff_iff]
          simp
          omega
    · have F : Hid (isVar (raw s) = false) := isVar_long (Or.inr (by rw [length_raw]; omega))
      go_enter Tryz.func101, Tryz.ntmps101
      go_wp2
      go_ret
      exact ⟨ret_bool F.out.symm, rfl⟩
  · have F : Hid (isVar (raw s) = false) := isVar_long (Or.inl (List.eq_nil_of_length_eq_zero (by rw [length_raw]; omega)))
    have h0' : ((s.size : Int) == 0) = true := by rw [beq_iff_eq]; omega
    go_enter Tryz.func101, Tryz.ntmps101
    go_wp2
    go_ret
    exact ⟨ret_bool F.out.symm, rfl⟩

end Go.Proofs.YtkijmalapjiopaaGreat

/- The walks of check.wrongTerm and check.wrongAtom. -/
namespace Go.Proofs.YtkijmalapjiopaaGreat
open Go.RowKit Go.Sort

theorem namedBs (l : Bs) (w : World) : Calls Tryz.prog 66 #[.string (bs l)] w fun e w' => e = .returned (.bool (isNamed l)) ∧ w' = w := by
  have := named (bs l) w
  rw [namedB_eq, raw_bs] at this
  exact this
theorem variableBs (l : Bs) (w : World) : Calls Tryz.prog 101 #[.string (bs l)] w fun e w' => e = .returned (.bool (isVar l)) ∧ w' = w := by
  have := variableC (bs l) w
  rw [raw_bs] at this
  exact this

set_option maxHeartbeats 400000 in
theorem wrongTermC (t : TermD) (w : World) : Calls Tryz.prog 68 #[.agg #[.bool t.1, .string (bs t.2)]] w fun e w' => e = .returned (.bool (wrongTerm t)) ∧ Later w w' := by
  obtain ⟨v, s⟩ := t
  unfold wrongTerm
  dsimp only
  have HN : Hid (∀ w, Calls Tryz.prog 66 #[.string (bs s)] w fun e w' => e = .returned (.bool (isNamed s)) ∧ w' = w) := fun w => namedBs s w
  have HV : Hid (∀ w, Calls Tryz.prog 101 #[.string (bs s)] w fun e w' => e = .returned (.bool (isVar s)) ∧ w' = w) := fun w => variableBs s w
  generalize isNamed s = x at *
  generalize isVar s = y at *
  generalize bs s = k at *
  cases v
  all_goals
    go_enter Tryz.func68, Tryz.ntmps68
    go_wp2_with (first
      | (go_at_call 66; refine (HN.out _).mono ?_; rintro e w' ⟨rfl, rfl⟩)
      | (go_at_call 101; refine (HV.out _).mono ?_; rintro e w' ⟨rfl, rfl⟩))
    go_ret
    exact ⟨rfl, (Later.refl _).alloc _⟩

theorem any_step {α : Type} {l : List α} {j : Nat} {x : α} (h : l[j]? = some x) (f : α → Bool) : (l.drop j).any f = (f x || (l.drop (j + 1)).any f) := by
  obtain ⟨h1, e1⟩ := List.getElem?_eq_some_iff.1 h
  rw [List.drop_eq_getElem_cons h1, e1]; rfl
theorem all_step {α : Type} {l : List α} {j : Nat} {x : α} (h : l[j]? = some x) (f : α → Bool) : (l.drop j).all f = (f x && (l.drop (j + 1)).all f) := by
  obtain ⟨h1, e1⟩ := List.getElem?_eq_some_iff.1 h
  rw [List.drop_eq_getElem_cons h1, e1]; rfl

set_option maxHeartbeats 1000000 in
/-- slices.IndexFunc at terms, with wrongTerm: at or above 0 just where one is wrong. -/
theorem indexTerm (v : Value) (l : List TermD) (w : World) (hv : termK.sl Anyw w v l) :
    Calls Tryz.prog 100 #[v, .func (.func 68) #[] #[]] w fun e w' => ∃ n : Int, e = .returned (.int .i64 n) ∧ decide (0 ≤ n) = l.any wrongTerm ∧ Later w w' := by
  obtain ⟨a, cap, rfl⟩ := Kind.slice hv
  have HV := hide hv
  have hl := hv.1.1
  clear hv
  go_enter Tryz.func100, Tryz.ntmps100
  go_wp2
  go_loopg [8] l.length (fun k i wr => ∃ j : Nat, j + k = l.length ∧ i = .int .i64 j ∧ Hid (Later w wr) ∧ Hid (l.any wrongTerm = (l.drop j).any wrongTerm))
  case atStart => exact ⟨0, by omega, rfl, Later.refl _, (rfl : _ = _)⟩
  case round =>
    obtain ⟨j, hj, rfl, HL, HF⟩ := hrel
    by_cases hlt : j < l.length
    · obtain ⟨x, hx⟩ : ∃ x, l[j]? = some x := ⟨_, List.getElem?_eq_getElem hlt⟩
      obtain ⟨b1, o1, _, rfl, hb1, rfl, hc⟩ := Kind.sl_at HV.out hx
      have d0 : wr.cell? ⟨b1, o1 + j * 2, none⟩ = some (.bool x.1) := by rw [HL.out.cell hb1]; exact hc 0 _ rfl
      have d1 : wr.cell? ⟨b1, o1 + j * 2 + 1, none⟩ = some (.string (bs x.2)) := by rw [HL.out.cell hb1]; exact hc 1 _ rfl
      have HC := hide (wrongTermC x wr)
      have hd := any_step hx wrongTerm
      clear hc hx
      cases hf : wrongTerm x
      · have F : Hid (l.any wrongTerm = (l.drop (j + 1)).any wrongTerm) := by show _ = _; rw [HF.out, hd, hf]; rfl
        rw [hf] at HC
        clear hd HF hf
        go_wp2_with (go_at_call 68; refine HC.out.mono ?_; rintro e w' ⟨rfl, hL⟩; replace hL := hide hL)
        go_roundg (l.length - (j + 1))
        case measure => omega
        case rel => exact ⟨j + 1, by omega, by go_num, HL.out.trans (unhide hL), F⟩
      · have F : Hid (l.any wrongTerm = true) := by show _ = _; rw [HF.out, hd, hf]; rfl
        rw [hf] at HC
        clear hd HF hf
        go_wp2_with (go_at_call 68; refine HC.out.mono ?_; rintro e w' ⟨rfl, hL⟩; replace hL := hide hL)
        go_ret
        exact ⟨_, rfl, by rw [F.out]; simp, HL.out.trans (unhide hL)⟩
    · have F : Hid (l.any wrongTerm = false) := by show _ = _; rw [HF.out, List.drop_eq_nil_of_le (by omega)]; rfl
      go_wp2
      go_ret
      exact ⟨_, rfl, by rw [F.out]; simp, HL.out⟩

set_option maxHeartbeats 400000 in
theorem containsTerm (v : Value) (l : List TermD) (w : World) (hv : termK.sl Anyw w v l) :
    Calls Tryz.prog 67 #[v, .func (.func 68) #[] #[]] w fun e w' => e = .returned (.bool (l.any wrongTerm)) ∧ Later w w' := by
  have HI := hide (indexTerm v l w hv)
  obtain ⟨a, cap, rfl⟩ := Kind.slice hv
  clear hv
  go_enter Tryz.func67, Tryz.ntmps67
  go_wp2_with (go_at_call 100; refine HI.out.mono ?_; rintro e w' ⟨n, rfl, hn, hL⟩; replace hn := hide hn; replace hL := hide hL)
  go_ret
  exact ⟨ret_bool (unhide hn), unhide hL⟩

set_option maxHeartbeats 1000000 in
theorem wrongAtomC (a : AtomD) (v : Value) (w : World) (hv : termK.sl Anyw w v a.terms) :
    Calls Tryz.prog 51 #[.agg #[.bool a.no, .string (bs a.name), v]] w fun e w' => e = .returned (.int .i64 (wrongAtom a)) ∧ Later w w' := by
  have HC : Hid (∀ w', Later w w' → Calls Tryz.prog 67 #[v, .func (.func 68) #[] #[]] w' fun e w'' => e = .returned (.bool (a.terms.any wrongTerm)) ∧ Later w' w'') := fun w' hw => containsTerm v a.terms w' (Kind.sl_later hv hw)
  have HN : Hid (∀ w, Calls Tryz.prog 66 #[.string (bs a.name)] w fun e w' => e = .returned (.bool (isNamed a.name)) ∧ w' = w) := fun w => namedBs a.name w
  have l0 := hv.1.1
  obtain ⟨a1, c1, rfl⟩ := Kind.slice hv
  clear hv
  obtain ⟨no, n, x⟩ := a
  unfold wrongAtom
  dsimp only at *
  generalize hn : isNamed n = q at *
  clear hn
  generalize bs n = s at *
  cases q
  · rw [if_pos rfl]
    go_enter Tryz.func51, Tryz.ntmps51
    go_wp2_with (go_at_call 66; refine (HN.out _).mono ?_; rintro e w' ⟨rfl, rfl⟩)
    go_ret
    exact ⟨rfl, (Later.refl _).alloc _⟩
  · rw [if_neg (by simp)]
    by_cases h4 : 4 < x.length
    · rw [if_pos h4]
      go_enter Tryz.func51, Tryz.ntmps51
      go_wp2_with (go_at_call 66; refine (HN.out _).mono ?_; rintro e w' ⟨rfl, rfl⟩)
      go_ret
      exact ⟨rfl, (Later.refl _).alloc _⟩
    · rw [if_neg h4]
      generalize x.any wrongTerm = r at *
      cases r
      all_goals
        go_enter Tryz.func51, Tryz.ntmps51
        go_wp2_with (first
          | (go_at_call 66; refine (HN.out _).mono ?_; rintro e w' ⟨rfl, rfl⟩)
          | (go_at_call 67; refine (HC.out _ ((Later.refl _).alloc _)).mono ?_; rintro e w' ⟨rfl, hL⟩; replace hL := hide hL))
        go_ret
        exact ⟨rfl, ((Later.refl _).alloc _).trans (unhide hL)⟩

end Go.Proofs.YtkijmalapjiopaaGreat

/- The walk of check.Vars. -/
namespace Go.Proofs.YtkijmalapjiopaaGreat
open Go.RowKit Go.Sort Go.Maps

theorem appendStrC {lo : Nat} {w : World} {v : Value} {l : List Bs} (h : strK.own 9 lo w v l) {x : Bs} (hl : l.length + 1 ≤ 1099511627776) (hlo : lo ≤ w.heap.size) :
    ∃ v' w', (Builtin.append_ #[39, 39] 39 #[v, .slice (some ⟨w.heap.size, 0, none⟩) 1 1]).run Tryz.prog (w.alloc (.cells #[.string (bs x)] 9)) = .ok v' w' ∧ strK.own 9 lo w' v' (l ++ [x]) ∧ (w.alloc (.cells #[.string (bs x)] 9)).grownBy w' v.ownBlock := by
  obtain ⟨i, i1, i2, i3, i4⟩ := infoStr
  exact Kind.own_append h Tryz.underlying39 i1 i2 i3 i4 rfl (by decide) (by decide) (c := [.string (bs x)]) rfl hl hlo

theorem varsGo_step {ts : List TermD} {j : Nat} {x : TermD} (h : ts[j]? = some x) : varsGo [] (ts.take (j + 1)) = if x.1 then addNew (varsGo [] (ts.take j)) x.2 else varsGo [] (ts.take j) := by
  rw [List.take_add_one, h]
  simp [varsGo, List.foldl_append]

theorem addNew_len (l : List Bs) (s : Bs) : (addNew l s).length ≤ l.length + 1 := by unfold addNew; split <;> simp
theorem varsGo_len (ts : List TermD) : ∀ l, (varsGo l ts).length ≤ l.length + ts.length := by
  induction ts with
  | nil => intro l; simp [varsGo]
  | cons t ts ih =>
    intro l
    show (varsGo (if t.1 then addNew l t.2 else l) ts).length ≤ _
    have h0 : (if t.1 then addNew l t.2 else l).length ≤ l.length + 1 := by
      split
      · exact addNew_len l t.2
      · omega
    have h1 := ih (if t.1 then addNew l t.2 else l)
    rw [List.length_cons]; omega

theorem one_sl {w : World} {b : Nat} (x : Bs) (hb : b < w.heap.size) : strK.sl (fun k => k ≠ b) (w.alloc (.cells #[.string (bs x)] 9)) (.slice (some ⟨w.heap.size, 0, none⟩) 1 1) [x] := by
  have h := Kind.own_one (K := strK) (ty := 9) (lo := w.heap.size) (w := w) (c := [.string (bs x)]) (x := x) rfl (Nat.le_refl _)
  exact Kind.sl_mono (Kind.own_sl h (by simp)) fun k _ hk => by have : w.heap.size ≤ k := hk; omega

set_option maxRecDepth 100000 in
set_option maxHeartbeats 2000000 in
theorem varsC (a : AtomD) (v : Value) (w : World) (hv : termK.sl Anyw w v a.terms) (hn : a.terms.length ≤ 1099511627775) (hs : ∀ t ∈ a.terms, t.2.length ≤ maxLen) :
    Calls Tryz.prog 54 #[.agg #[.bool a.no, .string (bs a.name), v]] w fun e w' => ∃ u, e = .returned u ∧ strK.own 9 (w.heap.size + 2) w' u (vars a) ∧ Below w.heap.size w w' := by
  obtain ⟨sa, cap, rfl⟩ := Kind.slice hv
  have HV := hide hv
  clear hv
  obtain ⟨no, name, ts⟩ := a
  dsimp only at *
  have HS := hide hs
  clear hs
  have hmm := @run_makeMap Tryz.prog
  show Calls _ _ _ _ fun e w' => ∃ u, e = .returned u ∧ strK.own 9 (w.heap.size + 2) w' u (varsGo [] ts) ∧ _
  generalize bs name = nm
  go_enter Tryz.func54, Tryz.ntmps54
  go_wp2
  go_loopg [4, 11] ts.length (fun k o i wr => ∃ j : Nat, j + k = ts.length ∧ i = .int .i64 j ∧ Hid (NamesM wr (w.heap.size + 1) j (fun s => (varsGo [] (ts.take j)).contains s)) ∧ Hid (strK.own 9 (w.heap.size + 2) wr o (varsGo [] (ts.take j))) ∧ Hid (Below w.heap.size w wr) ∧ w.heap.size + 2 ≤ wr.heap.size)
  case atStart =>
    refine ⟨0, by omega, rfl, ?_, strK.own_nil _ _ _, ?_, by simp⟩
    · have := SetM.made Tryz.prog 9 (w.alloc (.cells #[.bool no, .string nm, .slice sa ts.length cap] 38))
      rw [World.size_alloc] at this
      exact this
    · exact (((Later.refl w).alloc _).alloc _).below
  case round =>
    obtain ⟨j, hj, rfl, HM, HO, HB, hsz⟩ := hrel
    obtain ⟨ao, co, rfl⟩ := Kind.own_slice HO.out
    by_cases hlt : j < ts.length
    · obtain ⟨x, hx⟩ : ∃ x, ts[j]? = some x := ⟨_, List.getElem?_eq_getElem hlt⟩
      obtain ⟨b1, o1, _, rfl, hb1, rfl, hc⟩ := Kind.sl_at HV.out hx
      have d0 : wr.cell? ⟨b1, o1 + j * 2, none⟩ = some (.bool x.1) := by rw [HB.out.cell hb1]; exact hc 0 _ rfl
      have d1 : wr.cell? ⟨b1, o1 + j * 2 + 1, none⟩ = some (.string (bs x.2)) := by rw [HB.out.cell hb1]; exact hc 1 _ rfl
      have hxs : x.2.length ≤ maxLen := HS.out x (List.mem_of_getElem? hx)
      have E := hide (varsGo_step hx)
      have hlen : (varsGo [] (ts.take j)).length ≤ j := by have := varsGo_len (ts.take j) []; simp at this; omega
      clear hc hx
      have hbr : b1 < wr.heap.size := by omega
      obtain ⟨x1, x2⟩ := x
      dsimp only at *
      generalize hg : varsGo [] (ts.take j) = g at *
      clear hg
      cases x1
      · have E1 : Hid (varsGo [] (ts.take (j + 1)) = g) := E.out
        clear E
        generalize bs x2 = kx at *
        go_wp2
        go_roundg (ts.length - (j + 1))
        case measure => omega
        case rel =>
          refine ⟨j + 1, by omega, by go_num, ?_, ?_, ?_, by simp; omega⟩
          · show NamesM _ _ _ _
            rw [E1.out]
            exact (HM.out.later ((Later.refl _).alloc _)).mono (by omega)
          · show strK.own _ _ _ _ _
            rw [E1.out]
            exact Kind.own_turned HO.out ((Tn.refl 0 _).alloc _) (by omega)
          · exact HB.out.alloc HB.out.size _
      · have E1 : Hid (varsGo [] (ts.take (j + 1)) = addNew g x2) := E.out
        clear E
        have HC : Hid (Calls Tryz.prog 70 #[.map (some (w.heap.size + 1)), .string (bs x2)] (wr.alloc (.cells #[.bool true, .string (bs x2)] 70)) fun e w' => e = .returned (.bool (g.contains x2)) ∧ Later (wr.alloc (.cells #[.bool true, .string (bs x2)] 70)) w') := hasC _ _ _ x2 _ (HM.out.later ((Later.refl _).alloc _)) hxs
        have HZ : Hid (∀ w2, Later (wr.alloc (.cells #[.bool true, .string (bs x2)] 70)) w2 → w2.cell? ⟨wr.heap.size, 1, none⟩ = some (.string (bs x2)) ∧ wr.heap.size < w2.heap.size) := fun w2 hL => by
          refine ⟨?_, by have := hL.size; simp at this; omega⟩
          rw [hL.cell (by simp)]; simp
        cases hcx : g.contains x2
        · have E2 : Hid (varsGo [] (ts.take (j + 1)) = g ++ [x2]) := by show _ = _; rw [E1.out]; unfold addNew; rw [hcx]; rfl
          rw [hcx] at HC
          have HA : Hid (∀ w2, Later (wr.alloc (.cells #[.bool true, .string (bs x2)] 70)) w2 → Calls Tryz.prog 69 #[.map (some (w.heap.size + 1)), .slice (some ⟨w2.heap.size, 0, none⟩) 1 1] (w2.alloc (.cells #[.string (bs x2)] 9))
              fun e w3 => e = .returned (.tuple #[]) ∧ NamesM w3 (w.heap.size + 1) (j + 1) (fun s => (g ++ [x2]).contains s) ∧ Tn (w.heap.size + 1) w2 w3 ∧ w2.heap.size < w3.heap.size) := fun w2 hL => by
            have hs2 := hL.size
            simp only [World.size_alloc] at hs2
            have hm := HM.out.later (((Later.refl _).alloc _).trans hL)
            refine (addC _ _ _ _ [x2] _ (hm.later ((Later.refl _).alloc _)) (one_sl x2 (by omega)) (by simp [maxLen]; omega) (by simpa using hxs)).mono fun e w3 ⟨he, h1, h2⟩ => ⟨he, h1.congr fun s => by simp, ((Tn.refl _ _).alloc _).trans h2, by have := h2.size; simp at this; omega⟩
          have HP : Hid (∀ w2 w3, Later (wr.alloc (.cells #[.bool true, .string (bs x2)] 70)) w2 → Tn (w.heap.size + 1) w2 w3 → w2.heap.size < w3.heap.size → NamesM w3 (w.heap.size + 1) (j + 1) (fun s => (g ++ [x2]).contains s) → w3.cell? ⟨wr.heap.size, 1, none⟩ = some (.string (bs x2)) ∧ wr.heap.size < w3.heap.size ∧
              ∃ v' w4, (Builtin.append_ #[39, 39] 39 #[.slice ao g.length co, .slice (some ⟨w3.heap.size, 0, none⟩) 1 1]).run Tryz.prog (w3.alloc (.cells #[.string (bs x2)] 9)) = .ok v' w4 ∧ Hid (NamesM w4 (w.heap.size + 1) (j + 1) (fun s => (g ++ [x2]).contains s)) ∧ Hid (strK.own 9 (w.heap.size + 2) w4 v' (g ++ [x2])) ∧ Hid (Below w.heap.size w w4) ∧ w.heap.size + 2 ≤ w4.heap.size) := fun w2 w3 hL hT h23 hm => by
            have hs2 := hL.size
            simp only [World.size_alloc] at hs2
            have hO2 := Kind.own_turned HO.out (Tn.of_below (p := 0) (((Later.refl _).alloc _).trans hL).below) (by omega)
            have hO3 := Kind.own_turned hO2 hT (by omega)
            have hB3 : Below w.heap.size w w3 := below_trans (below_trans HB.out (((Later.refl wr).alloc _).trans hL).below HB.out.size) (hT.below (n := w.heap.size) (by omega) (by omega)) (Nat.le_refl _)
            obtain ⟨v', w4, hrun, o4, g4⟩ := appendStrC hO3 (x := x2) (by omega) (by omega)
            have hs4 := g4.size
            simp only [World.size_alloc] at hs4
            refine ⟨?_, by omega, v', w4, hrun, ?_, o4, ?_, by omega⟩
            · rw [hT.cell (by show wr.heap.size < _; omega) (by show wr.heap.size ≠ _; omega)]
              exact (HZ.out w2 hL).1
            · refine (hm.later ((Later.refl _).alloc _)).grown g4 (fun e => ?_)
              have := (Kind.own_lt hO3 e.symm).1
              omega
            · refine below_trans (hB3.alloc hB3.size _) ⟨g4.os, g4.tape, g4.output, g4.size, fun k hk => g4.block k (by simp; omega) (fun e => ?_)⟩ (Nat.le_refl _)
              have := (Kind.own_lt hO3 e.symm).1
              omega
          clear E1 HM HO HB hxs hcx
          generalize bs x2 = kx at *
          go_wp2_with (first
            | (go_at_call 70; refine HC.out.mono ?_; rintro e w2 ⟨rfl, hL⟩; obtain ⟨z2, h2s⟩ := HZ.out w2 hL; replace hL := hide hL)
            | (go_at_call 69; refine (HA.out w2 (unhide hL)).mono ?_; rintro e w3 ⟨rfl, hm3, hT3, h23⟩; obtain ⟨z3, h3s, v', w4, hrun, hN4, hO4, hB4, h4s⟩ := HP.out w2 w3 (unhide hL) hT3 h23 hm3; replace hrun := hide hrun; clear hm3 hT3)
            | (at_builtin; refine wpList_append_run rfl (.tmp 29) (.tmp 32) 39 rfl _ _ _ _ rfl rfl (unhide hrun) ?_))
          go_roundg (ts.length - (j + 1))
          case measure => omega
          case rel =>
            refine ⟨j + 1, by omega, by go_num, ?_, ?_, hB4, h4s⟩
            · show NamesM _ _ _ _
              rw [E2.out]; exact hN4.out
            · show strK.own _ _ _ _ _
              rw [E2.out]; exact hO4.out
        · have E2 : Hid (varsGo [] (ts.take (j + 1)) = g) := by show _ = _; rw [E1.out]; unfold addNew; rw [hcx]; rfl
          rw [hcx] at HC
          clear E1 hxs hcx
          generalize bs x2 = kx at *
          go_wp2_with (first
            | (go_at_call 70; refine HC.out.mono ?_; rintro e w2 ⟨rfl, hL⟩; obtain ⟨z2, h2s⟩ := HZ.out w2 hL; replace hL := hide hL))
          go_roundg (ts.length - (j + 1))
          case measure => omega
          case rel =>
            have hLL := ((Later.refl wr).alloc (.cells #[.bool true, .string kx] 70)).trans (unhide hL)
            refine ⟨j + 1, by omega, by go_num, ?_, ?_, ?_, by omega⟩
            · show NamesM _ _ _ _
              rw [E2.out]
              exact (HM.out.later hLL).mono (by omega)
            · show strK.own _ _ _ _ _
              rw [E2.out]
              exact Kind.own_turned HO.out (Tn.of_below (p := 0) hLL.below) (by omega)
            · exact below_trans HB.out hLL.below HB.out.size
    · have e : j = ts.length := by omega
      subst e
      have HO2 : Hid (strK.own 9 (w.heap.size + 2) wr (.slice ao (varsGo [] (ts.take ts.length)).length co) (varsGo [] ts)) := by have := HO.out; rw [List.take_length] at this ⊢; exact this
      go_wp2
      go_ret
      exact ⟨_, rfl, HO2.out, HB.out⟩

end Go.Proofs.YtkijmalapjiopaaGreat
