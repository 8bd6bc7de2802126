/- Texts of this claim, one behind the other. -/
import Derived.Test.YthngiikhgplldaaJC7
/- The reference's Vars; maps from texts to whether. -/
namespace Go.Proofs.Ythngiikhgplldaa
open Go.RowKit Go.Sort Go.Maps

/-- Block b holds true at just those texts of which f says so. -/
def HadM (w : World) (b n : Nat) (f : Bs → Bool) : Prop := ∃ D : DataW Unit, w.ownsMap Try.prog 9 (plainElem Try.prog 4) b n D ∧ ∀ s, D.atKey (.string s) (.lit (.bool false)) = .lit (.bool (f s))
theorem HadM.made (w : World) : HadM (w.alloc (.map #[] 0)) w.heap.size 0 (fun _ => false) := ⟨.map [], World.ownsMap_made _ _ _ _, fun _ => rfl⟩
theorem HadM.lt {w : World} {b n : Nat} {f : Bs → Bool} (h : HadM w b n f) : b < w.heap.size := by obtain ⟨D, h, _⟩ := h; exact h.lt
theorem HadM.block {w w' : World} {b n : Nat} {f : Bs → Bool} (h : HadM w b n f) (e : w'.heap[b]? = w.heap[b]?) : HadM w' b n f := by obtain ⟨D, h, hf⟩ := h; exact ⟨D, owns_block h e, hf⟩
theorem HadM.later {w w' : World} {b n : Nat} {f : Bs → Bool} (h : HadM w b n f) (k : Later w w') : HadM w' b n f := h.block (k.block h.lt)
theorem HadM.mono {w : World} {b n m : Nat} {f : Bs → Bool} (h : HadM w b n f) (hn : n ≤ m) : HadM w b m f := by obtain ⟨D, h, hf⟩ := h; exact ⟨D, h.mono hn, hf⟩
theorem HadM.congr {w : World} {b n : Nat} {f g : Bs → Bool} (h : HadM w b n f) (e : ∀ s, f s = g s) : HadM w b n g := by obtain ⟨D, h, hf⟩ := h; exact ⟨D, h, fun s => by rw [hf, e]⟩
set_option maxRecDepth 100000 in
theorem HadM.look {w : World} {b n : Nat} {f : Bs → Bool} (h : HadM w b n f) {s : Bs} (hs : s.length ≤ maxLen) : (Instr.lookup 54 (.map (some b)) (.string (bs s)) false).run Try.prog w = .ok (.bool (f s)) w := by
  obtain ⟨D, hown, hf⟩ := h
  obtain ⟨v, ps, hrun, hv⟩ := hown.lookup (string_keyed Try.underlying9) Try.underlying54 (zeroBool w) (plainElem_bool Try.underlying4 false) (key_mk Try.underlying9 hs)
  rw [hf s] at hv
  obtain ⟨x, rfl, hz⟩ := plainElem_bool_inv hv
  simp only [Prod.mk.injEq] at hz
  have hz := hz.1
  injection hz with hz
  injection hz with hz
  rw [hrun, hz]
set_option maxRecDepth 100000 in
theorem HadM.store {w : World} {b n : Nat} {f : Bs → Bool} (h : HadM w b n f) (hn : n < maxLen) {s : Bs} (hs : s.length ≤ maxLen) :
    ∃ w', (Instr.mapUpdate 54 (.map (some b)) (.string (bs s)) (.bool true)).run Try.prog w = .ok () w' ∧ HadM w' b (n + 1) (fun t => f t || decide (t = s)) ∧ w.grownBy w' (some b) := by
  obtain ⟨D, hown, hf⟩ := h
  obtain ⟨w', hrun, r1, r2⟩ := hown.update (string_keyed Try.underlying9) Try.underlying54 hn (key_mk Try.underlying9 hs) (plainElem_bool Try.underlying4 true)
  refine ⟨w', hrun, ⟨_, r1, fun t => ?_⟩, r2⟩
  by_cases e : t = s
  · subst e
    rw [atKey_put_same hown.isMap (keyS _)]; simp
  · rw [atKey_put_other (str_ne e), hf]; simp [e]

set_option maxRecDepth 100000 in
set_option maxHeartbeats 2000000 in
theorem rVars (a : AtomD) (v : Value) (w : World) (hv : termK.sl Anyw w v a.terms) (hn : a.terms.length ≤ 6000000000000) (hs : ∀ t ∈ a.terms, t.2.length ≤ maxLen) :
    Calls Try.prog 7 #[.agg #[.bool a.no, .string (bs a.name), v]] w fun e w' => ∃ u, e = .returned u ∧ strK.own 9 (w.heap.size + 2) w' u (vars a) ∧ Below w.heap.size w w' := by
  obtain ⟨sa, cap, rfl⟩ := Kind.slice hv
  have HV := hide hv
  clear hv
  obtain ⟨no, name, ts⟩ := a
  dsimp only at *
  have HS := hide hs
  clear hs
  have hmm := @run_makeMap Try.prog
  show Calls _ _ _ _ fun e w' => ∃ u, e = .returned u ∧ strK.own 9 (w.heap.size + 2) w' u (varsGo [] ts) ∧ _
  generalize bs name = nm
  go_enter Try.func7, Try.ntmps7
  go_wp2
  go_loopg [3, 11] ts.length (fun k o i wr => ∃ j : Nat, j + k = ts.length ∧ i = .int .i64 j ∧ Hid (HadM wr (w.heap.size + 1) j (fun s => (varsGo [] (ts.take j)).contains s)) ∧ Hid (strK.own 9 (w.heap.size + 2) wr o (varsGo [] (ts.take j))) ∧ Hid (Below w.heap.size w wr) ∧ w.heap.size + 2 ≤ wr.heap.size)
  case atStart =>
    refine ⟨0, by omega, rfl, ?_, strK.own_nil _ _ _, ?_, by simp⟩
    · have := HadM.made (w.alloc (.cells #[.bool no, .string nm, .slice sa ts.length cap] 30))
      rw [World.size_alloc] at this
      exact this
    · exact (((Later.refl w).alloc _).alloc _).below
  case round =>
    obtain ⟨j, hj, rfl, HM, HO, HB, hsz⟩ := hrel
    obtain ⟨ao, co, rfl⟩ := Kind.own_slice HO.out
    by_cases hlt : j < ts.length
    · obtain ⟨x, hx⟩ : ∃ x, ts[j]? = some x := ⟨_, List.getElem?_eq_getElem hlt⟩
      obtain ⟨b1, o1, _, rfl, hb1, rfl, hc⟩ := Kind.sl_at HV.out hx
      have d0 : wr.cell? ⟨b1, o1 + j * 2, none⟩ = some (.bool x.1) := by rw [HB.out.cell hb1]; exact hc 0 _ rfl
      have d1 : wr.cell? ⟨b1, o1 + j * 2 + 1, none⟩ = some (.string (bs x.2)) := by rw [HB.out.cell hb1]; exact hc 1 _ rfl
      have hxs : x.2.length ≤ maxLen := HS.out x (List.mem_of_getElem? hx)
      have E := hide (varsGo_step hx)
      have hlen : (varsGo [] (ts.take j)).length ≤ j := by have := varsGo_len (ts.take j) []; simp at this; omega
      clear hc hx
      have hbr : b1 < wr.heap.size := by omega
      obtain ⟨x1, x2⟩ := x
      dsimp only at *
      generalize hg : varsGo [] (ts.take j) = g at *
      clear hg
      cases x1
      · have E1 : Hid (varsGo [] (ts.take (j + 1)) = g) := E.out
        clear E
        generalize bs x2 = kx at *
        go_wp2
        go_roundg (ts.length - (j + 1))
        case measure => omega
        case rel =>
          refine ⟨j + 1, by omega, by go_num, ?_, ?_, ?_, by simp; omega⟩
          · show HadM _ _ _ _
            rw [E1.out]
            exact (HM.out.later ((Later.refl _).alloc _)).mono (by omega)
          · show strK.own _ _ _ _ _
            rw [E1.out]
            exact Kind.own_turned HO.out ((Tn.refl 0 _).alloc _) (by omega)
          · exact HB.out.alloc HB.out.size _
      · have E1 : Hid (varsGo [] (ts.take (j + 1)) = addNew g x2) := E.out
        clear E
        have hMA := HM.out.later ((Later.refl wr).alloc (.cells #[.bool true, .string (bs x2)] 51))
        have hlk := hMA.look hxs
        cases hcx : g.contains x2
        · have E2 : Hid (varsGo [] (ts.take (j + 1)) = g ++ [x2]) := by show _ = _; rw [E1.out]; unfold addNew; rw [hcx]; rfl
          obtain ⟨w3, hup, hM3, hg3⟩ := hMA.store (by simp [maxLen]; omega) hxs
          have hs3 := hg3.size
          simp only [World.size_alloc] at hs3
          have hO3 := Kind.own_turned (Kind.own_turned HO.out ((Tn.refl (w.heap.size + 1) wr).alloc (.cells #[.bool true, .string (bs x2)] 51)) (by omega)) (Tn.of_grown hg3) (by omega)
          have hB3 : Below w.heap.size w w3 := below_trans (HB.out.alloc HB.out.size _) ((Tn.of_grown hg3).below (n := w.heap.size) (by omega) (by simp; omega)) (Nat.le_refl _)
          have z3 : w3.cell? ⟨wr.heap.size, 1, none⟩ = some (.string (bs x2)) := by rw [(Tn.of_grown hg3).cell (by simp) (by show wr.heap.size ≠ _; omega)]; simp
          obtain ⟨v', w4, hrun, o4, g4⟩ := appendStrC hO3 (x := x2) (by omega) (by omega)
          have hs4 := g4.size
          simp only [World.size_alloc] at hs4
          have HN4 : Hid (HadM w4 (w.heap.size + 1) (j + 1) (fun s => (varsGo [] (ts.take (j + 1))).contains s)) := by
            show HadM _ _ _ _
            rw [E2.out]
            refine (hM3.congr fun s => ?_).block ?_
            · rw [Bool.eq_iff_iff]; simp
            · rw [g4.block _ (by simp; omega) (fun e => by have := (Kind.own_lt hO3 e.symm).1; omega), Below.heap_alloc _ _ _ (by omega)]
          have HO4 : Hid (strK.own 9 (w.heap.size + 2) w4 v' (varsGo [] (ts.take (j + 1)))) := by show strK.own _ _ _ _ _; rw [E2.out]; exact o4
          have HB4 : Hid (Below w.heap.size w w4) := by
            refine below_trans (hB3.alloc hB3.size _) ⟨g4.os, g4.tape, g4.output, g4.size, fun k hk => g4.block k (by simp; omega) (fun e => ?_)⟩ (Nat.le_refl _)
            have := (Kind.own_lt hO3 e.symm).1
            omega
          have h4s : w.heap.size + 2 ≤ w4.heap.size := by omega
          have hR3 : wr.heap.size < w3.heap.size := by omega
          rw [hcx] at hlk
          replace hup := hide hup
          replace hrun := hide hrun
          clear E1 E2 HM HO HB hxs hcx hMA hM3 hg3 hO3 hB3 o4 g4
          generalize bs x2 = kx at *
          go_wp2_with (first
            | (at_mapUpdate; refine wpList_run_update _ rfl _ _ _ _ rfl _ _ _ _ rfl rfl rfl (unhide hup) ?_)
            | (at_builtin; refine wpList_append_run rfl (.tmp 27) (.tmp 30) 34 rfl _ _ _ _ rfl rfl (unhide hrun) ?_)
            | go_in)
          go_roundg (ts.length - (j + 1))
          case measure => omega
          case rel => exact ⟨j + 1, by omega, by go_num, HN4, HO4, HB4, h4s⟩
        · have E2 : Hid (varsGo [] (ts.take (j + 1)) = g) := by show _ = _; rw [E1.out]; unfold addNew; rw [hcx]; rfl
          rw [hcx] at hlk
          clear E1 hxs hcx hMA
          generalize bs x2 = kx at *
          go_wp2
          go_roundg (ts.length - (j + 1))
          case measure => omega
          case rel =>
            refine ⟨j + 1, by omega, by go_num, ?_, ?_, ?_, by simp; omega⟩
            · show HadM _ _ _ _
              rw [E2.out]
              exact (HM.out.later ((Later.refl _).alloc _)).mono (by omega)
            · show strK.own _ _ _ _ _
              rw [E2.out]
              exact Kind.own_turned HO.out ((Tn.refl 0 _).alloc _) (by omega)
            · exact HB.out.alloc HB.out.size _
    · have e : j = ts.length := by omega
      subst e
      have HO2 : Hid (strK.own 9 (w.heap.size + 2) wr (.slice ao (varsGo [] (ts.take ts.length)).length co) (varsGo [] ts)) := by have := HO.out; rw [List.take_length] at this ⊢; exact this
      go_wp2
      go_ret
      exact ⟨_, rfl, HO2.out, HB.out⟩

end Go.Proofs.Ythngiikhgplldaa

/- The reference's Bound. -/
namespace Go.Proofs.Ythngiikhgplldaa
open Go.RowKit Go.Sort Go.Maps

/-- Texts of an atom that may be keys, and not too many. -/
def keyA (a : AtomD) : Prop := a.terms.length ≤ 6000000000000 ∧ ∀ t ∈ a.terms, t.2.length ≤ maxLen

theorem bs_eqR (a b : Bs) : ((bs a).toList == (bs b).toList) = decide (a = b) := by
  rw [Bool.eq_iff_iff, beq_iff_eq, decide_eq_true_iff]
  exact ⟨fun h => bs_inj (toList_inj h), fun h => by rw [h]⟩

/-- Does what the atoms that are so, of those from the first to the k-th, give one text? -/
theorem given_part (a : AtomD) (s : Bs) (b : Bool) (t : Nat) {u : Bs} (h : (vars a)[t]? = some u) : (b || (!a.no && ((vars a).take (t + 1)).contains s)) = ((b || (!a.no && ((vars a).take t).contains s)) || (!a.no && decide (u = s))) := by
  rw [List.take_add_one, h]
  rw [Bool.eq_iff_iff]
  simp
  constructor
  · rintro (h | ⟨h1, h | h⟩)
    · exact Or.inl (Or.inl h)
    · exact Or.inl (Or.inr ⟨h1, h⟩)
    · exact Or.inr ⟨h1, h.symm⟩
  · rintro ((h | ⟨h1, h⟩) | ⟨h1, h⟩)
    · exact Or.inl h
    · exact Or.inr ⟨h1, Or.inl h⟩
    · exact Or.inr ⟨h1, Or.inr h.symm⟩

set_option maxRecDepth 100000 in
set_option maxHeartbeats 4000000 in
theorem rBound (a : AtomD) (va : Value) (l : List AtomD) (v : Value) (w : World) (hva : termK.sl Anyw w va a.terms) (hka : keyA a) (hv : atomK.sl Anyw w v l) (hk : ∀ b ∈ l, keyA b) :
    Calls Try.prog 15 #[.agg #[.bool a.no, .string (bs a.name), va], v] w fun e w' => e = .returned (.bool ((vars a).all (givenBy l))) ∧ Below w.heap.size w w' := by
  have HVr := hide (rVars a va (w.alloc (.cells #[.bool a.no, .string (bs a.name), va] 30)) (Kind.sl_later hva ((Later.refl w).alloc _)) hka.1 hka.2)
  have HV := hide hv
  have HK := hide hk
  have hl0 := hv.1.1
  obtain ⟨sa, cap, rfl⟩ := Kind.slice hv
  obtain ⟨ta, tc, rfl⟩ := Kind.slice hva
  have hvl := vars_le a
  have hka1 := hka.1
  clear hv hk hva hka
  generalize hvs : vars a = vs at *
  clear hvs
  generalize bs a.name = nm at *
  generalize a.no = no at *
  go_enter Try.func15, Try.ntmps15
  go_wp2_with fail
  refine HVr.out.mono ?_
  rintro e w1 ⟨u1, rfl, hO1, hB1⟩
  have hs1 := hB1.size
  simp only [World.size_alloc] at hs1
  have HW1 := hide (below_trans ((Later.refl w).alloc (.cells #[.bool no, .string nm, .slice ta a.terms.length tc] 30)).below hB1 (by simp))
  have HU := hide (Kind.sl_any (Kind.own_sl hO1 (by omega)))
  obtain ⟨ua, uc, rfl⟩ := Kind.own_slice hO1
  clear hO1 hB1 HVr
  go_wp2
  go_loopg [15] vs.length (fun k i wr => ∃ j : Nat, j + k = vs.length ∧ i = .int .i64 j ∧ Hid (Below w1.heap.size w1 wr) ∧ Hid (vs.all (givenBy l) = (vs.drop j).all (givenBy l)))
  case atStart => exact ⟨0, by omega, rfl, Below.refl _ _, (rfl : _ = _)⟩
  case round =>
    obtain ⟨j, hj, rfl, HB, HF⟩ := hrel
    by_cases hlt : j < vs.length
    · obtain ⟨x, hx⟩ : ∃ x, vs[j]? = some x := ⟨_, List.getElem?_eq_getElem hlt⟩
      obtain ⟨b1, o1, _, rfl, hb1, rfl, hc⟩ := Kind.sl_at (Kind.sl_below HU.out HB.out) hx
      have d0 : wr.cell? ⟨b1, o1 + j, none⟩ = some (.string (bs x)) := by simpa [strK] using hc 0 _ rfl
      have hd := all_step hx (givenBy l)
      have HG0 : Hid (givenBy (l.take 0) x = false) := by show _ = _; simp [givenBy]
      clear hc hx
      generalize hbx : bs x = bx at *
      have HBX := hide hbx
      clear hbx
      go_wp2
      go_loopg [7, 21] l.length (fun k s7 i wr2 => ∃ q : Nat, q + k = l.length ∧ i = .int .i64 q ∧ s7 = .bool (givenBy (l.take q) x) ∧ Hid (Below w1.heap.size w1 wr2))
      case atStart => exact ⟨0, by omega, rfl, by rw [HG0.out], HB⟩
      case round =>
        obtain ⟨q, hq, rfl, rfl, HBq⟩ := hrel
        clear HB d0
        by_cases hlq : q < l.length
        · obtain ⟨b, hb⟩ : ∃ x, l[q]? = some x := ⟨_, List.getElem?_eq_getElem hlq⟩
          obtain ⟨b2, o2, _, rfl, hb2, ⟨tv, rfl, htv⟩, hcl⟩ := Kind.sl_at HV.out hb
          have hWq : Below w.heap.size w wr := below_trans HW1.out HBq.out (by omega)
          have d0 : wr.cell? ⟨b2, o2 + q * 3, none⟩ = some (.bool b.no) := by rw [hWq.cell hb2]; exact hcl 0 _ rfl
          have d1 : wr.cell? ⟨b2, o2 + q * 3 + 1, none⟩ = some (.string (bs b.name)) := by rw [hWq.cell hb2]; exact hcl 1 _ rfl
          have d2 : wr.cell? ⟨b2, o2 + q * 3 + 2, none⟩ = some tv := by rw [hWq.cell hb2]; exact hcl 2 _ rfl
          have hbr : b2 < wr.heap.size := by have := hWq.size; omega
          have hkb := HK.out b (List.mem_of_getElem? hb)
          have HVb := hide (rVars b tv (wr.alloc (.cells #[.bool b.no, .string (bs b.name), tv] 30)) (Kind.sl_below htv (hWq.alloc hWq.size _)) hkb.1 hkb.2)
          have HG := hide (givenBy_step hb x)
          have hvb := vars_le b
          have hkb1 := hkb.1
          have HP : Hid (∀ (c : Bool) (t : Nat) (u : Bs), (vars b)[t]? = some u → (c || (!b.no && ((vars b).take (t + 1)).contains x)) = ((c || (!b.no && ((vars b).take t).contains x)) || (!b.no && decide (u = x)))) := fun c t u h => given_part b x c t h
          obtain ⟨t2, c2, rfl⟩ := Kind.slice htv
          clear hcl hb htv hkb hWq
          generalize hv2 : vars b = vb at *
          clear hv2
          generalize bs b.name = nb at *
          generalize b.no = bn at *
          generalize givenBy (l.take q) x = c0 at *
          go_wp2_with fail
          refine HVb.out.mono ?_
          rintro e w3 ⟨u3, rfl, hO3, hB3⟩
          have hs3 := hB3.size
          simp only [World.size_alloc] at hs3
          have hq1 := HBq.out.size
          have HZ : Hid (∀ w', Below w3.heap.size w3 w' → w'.cell? ⟨wr.heap.size, 0, none⟩ = some (.bool bn) ∧ wr.heap.size < w'.heap.size ∧ Below w1.heap.size w1 w') := fun w' k => by
            refine ⟨?_, by have := k.size; omega, below_trans (below_trans (HBq.out.alloc hq1 _) hB3 (by simp; omega)) k (by omega)⟩
            rw [k.cell (by show wr.heap.size < _; omega), hB3.cell (by simp)]; simp
          have HU3 := hide (Kind.sl_any (Kind.own_sl hO3 (by omega)))
          obtain ⟨u4, c4, rfl⟩ := Kind.own_slice hO3
          clear hO3 hB3 HVb d0 d1 d2
          go_wp2
          go_loopg [7, 28] vb.length (fun k s7 i wr3 => ∃ t : Nat, t + k = vb.length ∧ i = .int .i64 t ∧ s7 = .bool (c0 || (!bn && (vb.take t).contains x)) ∧ Hid (Below w3.heap.size w3 wr3))
          case atStart => exact ⟨0, by omega, rfl, by simp, Below.refl _ _⟩
          case round =>
            obtain ⟨t, ht, rfl, rfl, HBt⟩ := hrel
            by_cases hlt3 : t < vb.length
            · obtain ⟨u, hu⟩ : ∃ x, vb[t]? = some x := ⟨_, List.getElem?_eq_getElem hlt3⟩
              obtain ⟨b5, o5, _, rfl, hb5, rfl, hc5⟩ := Kind.sl_at (Kind.sl_below HU3.out HBt.out) hu
              have f0 : wr.cell? ⟨b5, o5 + t, none⟩ = some (.string (bs u)) := by simpa [strK] using hc5 0 _ rfl
              obtain ⟨z0, zl, _⟩ := HZ.out wr HBt.out
              have hE := HP.out c0 t u hu
              have hEq : ((bs u).toList == bx.toList) = decide (u = x) := by rw [← HBX.out]; exact bs_eqR u x
              generalize decide (u = x) = du at *
              generalize (c0 || (!bn && (vb.take t).contains x)) = cv at *
              have HE := hide hE
              clear hc5 hu hE
              generalize bs u = bu at *
              cases cv
              · cases bn
                · cases du
                  all_goals
                    go_wp2
                    go_roundg (vb.length - (t + 1))
                    case measure => omega
                    case rel => exact ⟨t + 1, by omega, by go_num, by rw [HE.out]; rfl, HBt⟩
                · go_wp2
                  go_roundg (vb.length - (t + 1))
                  case measure => omega
                  case rel => exact ⟨t + 1, by omega, by go_num, by rw [HE.out]; rfl, HBt⟩
              · go_wp2
                go_roundg (vb.length - (t + 1))
                case measure => omega
                case rel => exact ⟨t + 1, by omega, by go_num, by rw [HE.out]; rfl, HBt⟩
            · have e : t = vb.length := by omega
              subst e
              have HB2 := hide (HZ.out wr HBt.out).2.2
              go_wp2
              go_roundg (l.length - (q + 1))
              case measure => omega
              case rel => exact ⟨q + 1, by omega, by go_num, by rw [HG.out, List.take_length], HB2⟩
        · have e : q = l.length := by omega
          subst e
          rw [List.take_length]
          cases hgx : givenBy l x
          · have F : Hid (vs.all (givenBy l) = false) := by show _ = _; rw [HF.out, hd, hgx]; rfl
            clear hd HF hgx
            go_wp2
            go_ret
            exact ⟨ret_bool F.out.symm, below_trans HW1.out HBq.out (by omega)⟩
          · have F : Hid (vs.all (givenBy l) = (vs.drop (j + 1)).all (givenBy l)) := by show _ = _; rw [HF.out, hd, hgx]; rfl
            clear hd HF hgx
            go_wp2
            go_roundg (vs.length - (j + 1))
            case measure => omega
            case rel => exact ⟨j + 1, by omega, by go_num, HBq, F⟩
    · have F : Hid (vs.all (givenBy l) = true) := by show _ = _; rw [HF.out, List.drop_eq_nil_of_le (by omega)]; rfl
      go_wp2
      go_ret
      exact ⟨ret_bool F.out.symm, below_trans HW1.out HB.out (by omega)⟩

end Go.Proofs.Ythngiikhgplldaa

/- The reference's WrongBody. -/
namespace Go.Proofs.Ythngiikhgplldaa
open Go.RowKit Go.Sort Go.Maps

theorem keyA_of {a : AtomD} (h : wrongAtom a = 0) : keyA a := by
  obtain ⟨_, h2, h3⟩ := wrongAtom_zero h
  exact ⟨by omega, fun t ht => short_max (h3 t ht)⟩

set_option maxRecDepth 100000 in
set_option maxHeartbeats 4000000 in
theorem rWrongBody (l : List AtomD) (v : Value) (w : World) (hv : atomK.sl Anyw w v l) (hk : ∀ a ∈ l, longA a) :
    Calls Try.prog 9 #[v] w fun e w' => e = .returned (.int .i64 (wrongBody l)) ∧ Below w.heap.size w w' := by
  obtain ⟨sa, cap, rfl⟩ := Kind.slice hv
  have hl0 := hv.1.1
  have HV := hide hv
  have HK := hide hk
  clear hv hk
  by_cases h5 : 5 < l.length
  · have F : Hid (wrongBody l = 5) := by show _ = _; unfold wrongBody; rw [if_pos h5]
    go_enter Try.func9, Try.ntmps9
    go_wp2
    go_ret
    exact ⟨by rw [F.out]; rfl, Below.refl _ _⟩
  · have F : Hid (wrongBody l = if wrongAtoms l = 0 then (if l.all (fun a => (vars a).all (givenBy l)) then 0 else 9) else wrongAtoms l) := by show _ = _; unfold wrongBody; rw [if_neg h5]
    go_enter Try.func9, Try.ntmps9
    go_wp2
    go_loopg [13] l.length (fun k i wr => ∃ j : Nat, j + k = l.length ∧ i = .int .i64 j ∧ Hid (wrongAtoms l = wrongAtoms (l.drop j)) ∧ Hid (∀ a ∈ l.take j, wrongAtom a = 0) ∧ Hid (Below w.heap.size w wr))
    case atStart => exact ⟨0, by omega, rfl, (rfl : _ = _), (fun a ha => by simp at ha), Below.refl _ _⟩
    case round =>
      obtain ⟨j, hj, rfl, HE, HG, HB⟩ := hrel
      have hwr := HB.out.size
      by_cases hlt : j < l.length
      · obtain ⟨x, hx⟩ : ∃ x, l[j]? = some x := ⟨_, List.getElem?_eq_getElem hlt⟩
        obtain ⟨b1, o1, _, rfl, hb1, ⟨sv, rfl, hsv⟩, hc⟩ := Kind.sl_at HV.out hx
        have d0 : wr.cell? ⟨b1, o1 + j * 3, none⟩ = some (.bool x.no) := by rw [HB.out.cell hb1]; exact hc 0 _ rfl
        have d1 : wr.cell? ⟨b1, o1 + j * 3 + 1, none⟩ = some (.string (bs x.name)) := by rw [HB.out.cell hb1]; exact hc 1 _ rfl
        have d2 : wr.cell? ⟨b1, o1 + j * 3 + 2, none⟩ = some sv := by rw [HB.out.cell hb1]; exact hc 2 _ rfl
        have hbr : b1 < wr.heap.size := by omega
        have hB1 : Below w.heap.size w (wr.alloc (.cells #[.bool x.no, .string (bs x.name), sv] 30)) := HB.out.alloc HB.out.size _
        have HC : Hid (Calls Try.prog 14 #[.agg #[.bool x.no, .string (bs x.name), sv]] (wr.alloc (.cells #[.bool x.no, .string (bs x.name), sv] 30)) fun e w2 => e = .returned (.int .i64 (wrongAtom x)) ∧ Hid (Below w.heap.size w w2)) :=
          (rWrongAtom x sv _ (Kind.sl_below hsv hB1) (HK.out x (List.mem_of_getElem? hx))).mono fun e w2 ⟨he, hL⟩ => ⟨he, below_trans hB1 hL.below (by simp; omega)⟩
        have hst := wrongAtoms_step hx
        obtain ⟨a2, c2, rfl⟩ := Kind.slice hsv
        by_cases h0 : wrongAtom x = 0
        · have HE1 : Hid (wrongAtoms l = wrongAtoms (l.drop (j + 1))) := by show _ = _; rw [HE.out, hst, if_pos h0]
          have HG1 : Hid (∀ a ∈ l.take (j + 1), wrongAtom a = 0) := fun a ha => by
            rw [List.take_add_one, hx] at ha
            rcases List.mem_append.1 ha with ha | ha
            · exact HG.out a ha
            · simp at ha; rw [ha]; exact h0
          rw [h0] at HC
          clear hst hc hx hsv hB1 HE HG h0
          generalize bs x.name = nm at *
          generalize x.no = xn at *
          go_wp2_with (go_at_call 14; refine HC.out.mono ?_; rintro e w2 ⟨rfl, hB2⟩)
          go_roundg (l.length - (j + 1))
          case measure => omega
          case rel => exact ⟨j + 1, by omega, by go_num, HE1, HG1, hB2⟩
        · have F2 : Hid (wrongBody l = wrongAtom x) := by show _ = _; rw [F.out, HE.out, hst, if_neg h0, if_neg h0]
          have hq : (wrongAtom x != 0) = true := by simpa using h0
          clear hst hc hx hsv hB1 HE HG h0
          generalize bs x.name = nm at *
          generalize x.no = xn at *
          generalize wrongAtom x = ex at *
          go_wp2_with (go_at_call 14; refine HC.out.mono ?_; rintro e w2 ⟨rfl, hB2⟩)
          go_ret
          exact ⟨by rw [F2.out]; rfl, hB2.out⟩
      · have e : j = l.length := by omega
        subst e
        have HG1 : Hid (∀ a ∈ l, wrongAtom a = 0) := by have := HG.out; rw [List.take_length] at this; exact this
        have F1 : Hid (wrongBody l = if l.all (fun a => (vars a).all (givenBy l)) then 0 else 9) := by
          show _ = _
          rw [F.out, if_pos]
          rw [HE.out, List.drop_length]; rfl
        clear HE HG F
        go_wp2
        go_loopg [25] l.length (fun k i wr => ∃ j : Nat, j + k = l.length ∧ i = .int .i64 j ∧ Hid (l.all (fun a => (vars a).all (givenBy l)) = (l.drop j).all (fun a => (vars a).all (givenBy l))) ∧ Hid (Below w.heap.size w wr))
        case atStart => exact ⟨0, by omega, rfl, (rfl : _ = _), HB⟩
        case round =>
          obtain ⟨j, hj, rfl, HF, HBj⟩ := hrel
          clear HB
          have hwr2 := HBj.out.size
          by_cases hlt : j < l.length
          · obtain ⟨x, hx⟩ : ∃ x, l[j]? = some x := ⟨_, List.getElem?_eq_getElem hlt⟩
            obtain ⟨b1, o1, _, rfl, hb1, ⟨sv, rfl, hsv⟩, hc⟩ := Kind.sl_at HV.out hx
            have d0 : wr.cell? ⟨b1, o1 + j * 3, none⟩ = some (.bool x.no) := by rw [HBj.out.cell hb1]; exact hc 0 _ rfl
            have d1 : wr.cell? ⟨b1, o1 + j * 3 + 1, none⟩ = some (.string (bs x.name)) := by rw [HBj.out.cell hb1]; exact hc 1 _ rfl
            have d2 : wr.cell? ⟨b1, o1 + j * 3 + 2, none⟩ = some sv := by rw [HBj.out.cell hb1]; exact hc 2 _ rfl
            have hbr : b1 < wr.heap.size := by omega
            have hB1 : Below w.heap.size w (wr.alloc (.cells #[.bool x.no, .string (bs x.name), sv] 30)) := HBj.out.alloc HBj.out.size _
            have HA : Hid (Calls Try.prog 15 #[.agg #[.bool x.no, .string (bs x.name), sv], .slice (some ⟨b1, o1, none⟩) l.length cap] (wr.alloc (.cells #[.bool x.no, .string (bs x.name), sv] 30)) fun e w3 => e = .returned (.bool ((vars x).all (givenBy l))) ∧ Hid (Below w.heap.size w w3)) :=
              (rBound x sv l _ _ (Kind.sl_below hsv hB1) (keyA_of (HG1.out x (List.mem_of_getElem? hx))) (Kind.sl_below HV.out hB1) (fun b hb => keyA_of (HG1.out b hb))).mono fun e w3 ⟨he, hL⟩ => ⟨he, below_trans hB1 hL (by simp; omega)⟩
            have hst := all_step hx (fun a => (vars a).all (givenBy l))
            obtain ⟨a2, c2, rfl⟩ := Kind.slice hsv
            generalize hvx : (vars x).all (givenBy l) = vx at *
            cases vx
            · have F2 : Hid (wrongBody l = 9) := by show _ = _; rw [F1.out, HF.out, hst]; rfl
              clear hst hc hx hsv hB1 HF hvx F1
              generalize bs x.name = nm at *
              generalize x.no = xn at *
              go_wp2_with (go_at_call 15; refine HA.out.mono ?_; rintro e w5 ⟨rfl, k2⟩)
              go_ret
              exact ⟨by rw [F2.out]; rfl, k2.out⟩
            · have HF1 : Hid (l.all (fun a => (vars a).all (givenBy l)) = (l.drop (j + 1)).all (fun a => (vars a).all (givenBy l))) := by show _ = _; rw [HF.out, hst]; rfl
              clear hst hc hx hsv hB1 HF hvx
              generalize bs x.name = nm at *
              generalize x.no = xn at *
              go_wp2_with (go_at_call 15; refine HA.out.mono ?_; rintro e w5 ⟨rfl, k2⟩)
              go_roundg (l.length - (j + 1))
              case measure => omega
              case rel => exact ⟨j + 1, by omega, by go_num, HF1, k2⟩
          · have F2 : Hid (wrongBody l = 0) := by show _ = _; rw [F1.out, HF.out, List.drop_eq_nil_of_le (by omega)]; rfl
            go_wp2
            go_ret
            exact ⟨by rw [F2.out]; rfl, HBj.out⟩

end Go.Proofs.Ythngiikhgplldaa

/- The reference's WrongProgram: its closure. -/
namespace Go.Proofs.Ythngiikhgplldaa
open Go.RowKit Go.Sort Go.Maps

set_option maxRecDepth 100000 in
set_option maxHeartbeats 400000 in
theorem badC (e i : Int) (g : Nat) (w : World) (h : w.cell? ⟨g, 0, none⟩ = some (.int .i64 i)) :
    Calls Try.prog 13 #[.int .i64 e, .pointer (some ⟨g, 0, none⟩)] w fun x w' => x = .returned (.agg #[.int .i64 e, .int .i64 i]) ∧ Later w w' := by
  have hg := World.block_lt_of_cell? w _ h
  have hg' : g < w.heap.size := hg
  have hgn : g ≠ w.heap.size := by omega
  go_enter Try.func13, Try.ntmps13
  go_wp2
  exact bodyPost_ret (v := .agg #[.int .i64 e, .int .i64 i]) (by simp [results, Try.results13, go_sem]) rfl ⟨rfl, (by repeat (first | exact Later.refl _ | assumption | refine Later.drewN ?_ _ | refine Later.drew ?_ | refine Later.alloc ?_ _ | refine Later.grow ?_ _))⟩

end Go.Proofs.Ythngiikhgplldaa
