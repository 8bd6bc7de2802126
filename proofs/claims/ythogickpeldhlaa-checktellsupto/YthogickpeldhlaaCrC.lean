/- The reference's Bound. -/
import Derived.Test.YthogickpeldhlaaCrB
namespace Go.Proofs.Ythogickpeldhlaa
open Go.RowKit Go.Sort Go.Maps

/-- Texts of an atom that may be keys, and not too many. -/
def keyA (a : AtomD) : Prop := a.terms.length ≤ 1099511627775 ∧ ∀ t ∈ a.terms, t.2.length ≤ maxLen

theorem bs_eqR (a b : Bs) : ((bs a).toList == (bs b).toList) = decide (a = b) := by
  rw [Bool.eq_iff_iff, beq_iff_eq, decide_eq_true_iff]
  exact ⟨fun h => bs_inj (toList_inj h), fun h => by rw [h]⟩

/-- Does what the atoms that are so, of those from the first to the k-th, give one text? -/
theorem given_part (a : AtomD) (s : Bs) (b : Bool) (t : Nat) {u : Bs} (h : (vars a)[t]? = some u) : (b || (!a.no && ((vars a).take (t + 1)).contains s)) = ((b || (!a.no && ((vars a).take t).contains s)) || (!a.no && decide (u = s))) := by
  rw [List.take_add_one, h]
  rw [Bool.eq_iff_iff]
  simp
  constructor
  · rintro (h | ⟨h1, h | h⟩)
    · exact Or.inl (Or.inl h)
    · exact Or.inl (Or.inr ⟨h1, h⟩)
    · exact Or.inr ⟨h1, h.symm⟩
  · rintro ((h | ⟨h1, h⟩) | ⟨h1, h⟩)
    · exact Or.inl h
    · exact Or.inr ⟨h1, Or.inl h⟩
    · exact Or.inr ⟨h1, Or.inr h.symm⟩

set_option maxRecDepth 100000 in
set_option maxHeartbeats 4000000 in
theorem rBound (a : AtomD) (va : Value) (l : List AtomD) (v : Value) (w : World) (hva : termK.sl Anyw w va a.terms) (hka : keyA a) (hv : atomK.sl Anyw w v l) (hk : ∀ b ∈ l, keyA b) :
    Calls Try.prog 90 #[.agg #[.bool a.no, .string (bs a.name), va], v] w fun e w' => e = .returned (.bool ((vars a).all (givenBy l))) ∧ Below w.heap.size w w' := by
  have HVr := hide (rVars a va (w.alloc (.cells #[.bool a.no, .string (bs a.name), va] 54)) (Kind.sl_later hva ((Later.refl w).alloc _)) hka.1 hka.2)
  have HV := hide hv
  have HK := hide hk
  have hl0 := hv.1.1
  obtain ⟨sa, cap, rfl⟩ := Kind.slice hv
  obtain ⟨ta, tc, rfl⟩ := Kind.slice hva
  have hvl := vars_le a
  have hka1 := hka.1
  clear hv hk hva hka
  generalize hvs : vars a = vs at *
  clear hvs
  generalize bs a.name = nm at *
  generalize a.no = no at *
  go_enter Try.func90, Try.ntmps90
  go_wp2_with fail
  refine HVr.out.mono ?_
  rintro e w1 ⟨u1, rfl, hO1, hB1⟩
  have hs1 := hB1.size
  simp only [World.size_alloc] at hs1
  have HW1 := hide (below_trans ((Later.refl w).alloc (.cells #[.bool no, .string nm, .slice ta a.terms.length tc] 54)).below hB1 (by simp))
  have HU := hide (Kind.sl_any (Kind.own_sl hO1 (by omega)))
  obtain ⟨ua, uc, rfl⟩ := Kind.own_slice hO1
  clear hO1 hB1 HVr
  go_wp2
  go_loopg [15] vs.length (fun k i wr => ∃ j : Nat, j + k = vs.length ∧ i = .int .i64 j ∧ Hid (Below w1.heap.size w1 wr) ∧ Hid (vs.all (givenBy l) = (vs.drop j).all (givenBy l)))
  case atStart => exact ⟨0, by omega, rfl, Below.refl _ _, (rfl : _ = _)⟩
  case round =>
    obtain ⟨j, hj, rfl, HB, HF⟩ := hrel
    by_cases hlt : j < vs.length
    · obtain ⟨x, hx⟩ : ∃ x, vs[j]? = some x := ⟨_, List.getElem?_eq_getElem hlt⟩
      obtain ⟨b1, o1, _, rfl, hb1, rfl, hc⟩ := Kind.sl_at (Kind.sl_below HU.out HB.out) hx
      have d0 : wr.cell? ⟨b1, o1 + j, none⟩ = some (.string (bs x)) := by simpa [strK] using hc 0 _ rfl
      have hd := all_step hx (givenBy l)
      have HG0 : Hid (givenBy (l.take 0) x = false) := by show _ = _; simp [givenBy]
      clear hc hx
      generalize hbx : bs x = bx at *
      have HBX := hide hbx
      clear hbx
      go_wp2
      go_loopg [7, 21] l.length (fun k s7 i wr2 => ∃ q : Nat, q + k = l.length ∧ i = .int .i64 q ∧ s7 = .bool (givenBy (l.take q) x) ∧ Hid (Below w1.heap.size w1 wr2))
      case atStart => exact ⟨0, by omega, rfl, by rw [HG0.out], HB⟩
      case round =>
        obtain ⟨q, hq, rfl, rfl, HBq⟩ := hrel
        clear HB d0
        by_cases hlq : q < l.length
        · obtain ⟨b, hb⟩ : ∃ x, l[q]? = some x := ⟨_, List.getElem?_eq_getElem hlq⟩
          obtain ⟨b2, o2, _, rfl, hb2, ⟨tv, rfl, htv⟩, hcl⟩ := Kind.sl_at HV.out hb
          have hWq : Below w.heap.size w wr := below_trans HW1.out HBq.out (by omega)
          have d0 : wr.cell? ⟨b2, o2 + q * 3, none⟩ = some (.bool b.no) := by rw [hWq.cell hb2]; exact hcl 0 _ rfl
          have d1 : wr.cell? ⟨b2, o2 + q * 3 + 1, none⟩ = some (.string (bs b.name)) := by rw [hWq.cell hb2]; exact hcl 1 _ rfl
          have d2 : wr.cell? ⟨b2, o2 + q * 3 + 2, none⟩ = some tv := by rw [hWq.cell hb2]; exact hcl 2 _ rfl
          have hbr : b2 < wr.heap.size := by have := hWq.size; omega
          have hkb := HK.out b (List.mem_of_getElem? hb)
          have HVb := hide (rVars b tv (wr.alloc (.cells #[.bool b.no, .string (bs b.name), tv] 54)) (Kind.sl_below htv (hWq.alloc hWq.size _)) hkb.1 hkb.2)
          have HG := hide (givenBy_step hb x)
          have hvb := vars_le b
          have hkb1 := hkb.1
          have HP : Hid (∀ (c : Bool) (t : Nat) (u : Bs), (vars b)[t]? = some u → (c || (!b.no && ((vars b).take (t + 1)).contains x)) = ((c || (!b.no && ((vars b).take t).contains x)) || (!b.no && decide (u = x)))) := fun c t u h => given_part b x c t h
          obtain ⟨t2, c2, rfl⟩ := Kind.slice htv
          clear hcl hb htv hkb hWq
          generalize hv2 : vars b = vb at *
          clear hv2
          generalize bs b.name = nb at *
          generalize b.no = bn at *
          generalize givenBy (l.take q) x = c0 at *
          go_wp2_with fail
          refine HVb.out.mono ?_
          rintro e w3 ⟨u3, rfl, hO3, hB3⟩
          have hs3 := hB3.size
          simp only [World.size_alloc] at hs3
          have hq1 := HBq.out.size
          have HZ : Hid (∀ w', Below w3.heap.size w3 w' → w'.cell? ⟨wr.heap.size, 0, none⟩ = some (.bool bn) ∧ wr.heap.size < w'.heap.size ∧ Below w1.heap.size w1 w') := fun w' k => by
            refine ⟨?_, by have := k.size; omega, below_trans (below_trans (HBq.out.alloc hq1 _) hB3 (by simp; omega)) k (by omega)⟩
            rw [k.cell (by show wr.heap.size < _; omega), hB3.cell (by simp)]; simp
          have HU3 := hide (Kind.sl_any (Kind.own_sl hO3 (by omega)))
          obtain ⟨u4, c4, rfl⟩ := Kind.own_slice hO3
          clear hO3 hB3 HVb d0 d1 d2
          go_wp2
          go_loopg [7, 28] vb.length (fun k s7 i wr3 => ∃ t : Nat, t + k = vb.length ∧ i = .int .i64 t ∧ s7 = .bool (c0 || (!bn && (vb.take t).contains x)) ∧ Hid (Below w3.heap.size w3 wr3))
          case atStart => exact ⟨0, by omega, rfl, by simp, Below.refl _ _⟩
          case round =>
            obtain ⟨t, ht, rfl, rfl, HBt⟩ := hrel
            by_cases hlt3 : t < vb.length
            · obtain ⟨u, hu⟩ : ∃ x, vb[t]? = some x := ⟨_, List.getElem?_eq_getElem hlt3⟩
              obtain ⟨b5, o5, _, rfl, hb5, rfl, hc5⟩ := Kind.sl_at (Kind.sl_below HU3.out HBt.out) hu
              have f0 : wr.cell? ⟨b5, o5 + t, none⟩ = some (.string (bs u)) := by simpa [strK] using hc5 0 _ rfl
              obtain ⟨z0, zl, _⟩ := HZ.out wr HBt.out
              have hE := HP.out c0 t u hu
              have hEq : ((bs u).toList == bx.toList) = decide (u = x) := by rw [← HBX.out]; exact bs_eqR u x
              generalize decide (u = x) = du at *
              generalize (c0 || (!bn && (vb.take t).contains x)) = cv at *
              have HE := hide hE
              clear hc5 hu hE
              generalize bs u = bu at *
              cases cv
              · cases bn
                · cases du
                  all_goals
                    go_wp2
                    go_roundg (vb.length - (t + 1))
                    case measure => omega
                    case rel => exact ⟨t + 1, by omega, by go_num, by rw [HE.out]; rfl, HBt⟩
                · go_wp2
                  go_roundg (vb.length - (t + 1))
                  case measure => omega
                  case rel => exact ⟨t + 1, by omega, by go_num, by rw [HE.out]; rfl, HBt⟩
              · go_wp2
                go_roundg (vb.length - (t + 1))
                case measure => omega
                case rel => exact ⟨t + 1, by omega, by go_num, by rw [HE.out]; rfl, HBt⟩
            · have e : t = vb.length := by omega
              subst e
              have HB2 := hide (HZ.out wr HBt.out).2.2
              go_wp2
              go_roundg (l.length - (q + 1))
              case measure => omega
              case rel => exact ⟨q + 1, by omega, by go_num, by rw [HG.out, List.take_length], HB2⟩
        · have e : q = l.length := by omega
          subst e
          rw [List.take_length]
          cases hgx : givenBy l x
          · have F : Hid (vs.all (givenBy l) = false) := by show _ = _; rw [HF.out, hd, hgx]; rfl
            clear hd HF hgx
            go_wp2
            go_ret
            exact ⟨ret_bool F.out.symm, below_trans HW1.out HBq.out (by omega)⟩
          · have F : Hid (vs.all (givenBy l) = (vs.drop (j + 1)).all (givenBy l)) := by show _ = _; rw [HF.out, hd, hgx]; rfl
            clear hd HF hgx
            go_wp2
            go_roundg (vs.length - (j + 1))
            case measure => omega
            case rel => exact ⟨j + 1, by omega, by go_num, HBq, F⟩
    · have F : Hid (vs.all (givenBy l) = true) := by show _ = _; rw [HF.out, List.drop_eq_nil_of_le (by omega)]; rfl
      go_wp2
      go_ret
      exact ⟨ret_bool F.out.symm, below_trans HW1.out HB.out (by omega)⟩

end Go.Proofs.Ythogickpeldhlaa
