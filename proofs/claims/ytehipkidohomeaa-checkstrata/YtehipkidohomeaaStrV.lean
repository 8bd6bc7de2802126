/- The walk of CheckStrata. -/
import Derived.Test.YtehipkidohomeaaStrW
namespace Go.Proofs.Ytehipkidohomeaa
open Go.RowKit Go.Sort Go.Maps

theorem bs_eqC (a b : Bs) : ((bs a).toList == (bs b).toList) = decide (a = b) := by
  rw [Bool.eq_iff_iff, beq_iff_eq, decide_eq_true_iff]
  exact ⟨fun h => bs_inj (toList_inj h), fun h => by rw [h]⟩

set_option maxRecDepth 100000 in
set_option maxHeartbeats 8000000 in
theorem strW (v : Value) (p : List RuleD) (w : World) (m : Int) (hm : w.cell? ⟨0, 0, none⟩ = some (.int .i64 m)) (hv : ruleK.sl Anyw w v p) :
    Calls Try.prog 10 #[v] w fun e w' => e = .returned (.bool true) ∧ Below w.heap.size w w' := by
  obtain ⟨sa, cap, rfl⟩ := Kind.slice hv
  have hl0 := hv.1.1
  have HA := hide (alive3 w m hm)
  have HS : Hid (∀ w1, Below w.heap.size w w1 → Calls Try.prog 51 #[.slice sa p.length cap] w1 fun e w2 => ∃ u, e = .returned (.tuple #[u, .agg #[.int .i64 (strataP p).2.1, .int .i64 ((strataP p).2.2 : Nat)]]) ∧ intK.sl Anyw w2 u (strataP p).1 ∧ Below w.heap.size w w2) := fun w1 hb =>
    (strataC p _ w1 (Kind.sl_below hv hb)).mono fun e w2 ⟨u, he, hu, hb2⟩ => ⟨u, he, Kind.sl_any hu, below_trans hb hb2 hb.size⟩
  have HV := hide hv
  have hmm := @run_makeMap Try.prog
  clear hv hm
  generalize hsp : strataP p = sp at *
  obtain ⟨l, ex, ea⟩ := sp
  dsimp only at *
  by_cases h0 : ex = 0
  · subst h0
    have HG := hide (good_of hsp)
    have hlen := HG.out.len
    have hp16 : p.length ≤ 16 := (wrongP_fine (strataP_ok hsp).1).1
    clear hsp
    go_enter Try.func10, Try.ntmps10
    go_wp2_with fail
    refine HA.out.mono ?_
    rintro e w1 ⟨rfl, hB1⟩
    have HS1 := hide (HS.out w1 hB1)
    clear hB1 HA HS
    go_wp2_with fail
    refine HS1.out.mono ?_
    rintro e w2 ⟨u, rfl, hU, hB2⟩
    have hs2 := hB2.size
    obtain ⟨ua, uc, rfl⟩ := Kind.slice hU
    rw [hlen]
    have hL3 := ((Later.refl w2).alloc (.cells #[.int .i64 0, .int .i64 (ea : Int)] 30)).alloc (.map #[] 0)
    have hU0 : intK.sl Anyw w2 (.slice ua p.length uc) l := by rw [hlen] at hU; exact hU
    have HU := hide (Kind.sl_neBelow hU0 hL3.below (b := w2.heap.size + 1) (Nat.le_succ _))
    have HV3 := hide (Kind.sl_neBelow HV.out (below_trans hB2 hL3.below hs2) (b := w2.heap.size + 1) (by omega))
    have HB3 := hide (below_trans hB2 hL3.below hs2)
    have HM3 := TrueM.made (w2.alloc (.cells #[.int .i64 0, .int .i64 (ea : Int)] 30))
    rw [World.size_alloc] at HM3
    replace HM3 := hide HM3
    have hz3 : ((w2.alloc (.cells #[.int .i64 0, .int .i64 (ea : Int)] 30)).alloc (.map #[] 0)).heap.size = w2.heap.size + 2 := by simp
    clear hU hU0 hB2 hL3 HS1 HV
    generalize hM : w2.heap.size + 1 = M at *
    go_wp2
    generalize hw3 : (w2.alloc (.cells #[.int .i64 0, .int .i64 (ea : Int)] 30)).alloc (.map #[] 0) = w3 at *
    clear hw3
    go_loopg [29] p.length (fun k i wr => ∃ j : Nat, j + k = p.length ∧ i = .int .i64 j ∧ Hid (TrueM wr M j (onceN (l.take j))) ∧ Hid (Tn M w3 wr))
    case atStart => exact ⟨0, by omega, rfl, HM3, Tn.refl _ _⟩
    case round =>
      obtain ⟨i, hi, rfl, HM, HT⟩ := hrel
      clear HM3
      have hwr := HT.out.size
      by_cases hlt : i < p.length
      · obtain ⟨r, hr⟩ : ∃ x, p[i]? = some x := ⟨_, List.getElem?_eq_getElem hlt⟩
        obtain ⟨x, hx⟩ : ∃ x, l[i]? = some x := ⟨_, List.getElem?_eq_getElem (by omega)⟩
        obtain ⟨b1, o1, _, rfl, hb1, hbne, ⟨sv, su, rfl, hsv, hsu⟩, hcl⟩ := Kind.sl_atB HV3.out hr
        obtain ⟨b5, o5, _, rfl, hb5, hbne5, rfl, hc5⟩ := Kind.sl_atB HU.out hx
        have d0 : wr.cell? ⟨b1, o1 + i * 4, none⟩ = some (.bool r.head.no) := by rw [HT.out.cell hb1 hbne]; exact hcl 0 _ rfl
        have d1 : wr.cell? ⟨b1, o1 + i * 4 + 1, none⟩ = some (.string (bs r.head.name)) := by rw [HT.out.cell hb1 hbne]; exact hcl 1 _ rfl
        have d2 : wr.cell? ⟨b1, o1 + i * 4 + 2, none⟩ = some sv := by rw [HT.out.cell hb1 hbne]; exact hcl 2 _ rfl
        have d3 : wr.cell? ⟨b1, o1 + i * 4 + 3, none⟩ = some su := by rw [HT.out.cell hb1 hbne]; exact hcl 3 _ rfl
        have e1 : wr.cell? ⟨b5, o5 + i, none⟩ = some (.int .i64 (x : Int)) := by rw [HT.out.cell hb5 hbne5]; simpa [intK] using hc5 0 _ rfl
        have hbr : b1 < wr.heap.size := by omega
        have hbr5 : b5 < wr.heap.size := by omega
        obtain ⟨a2, c2, rfl⟩ := Kind.slice hsv
        obtain ⟨a3, c3, rfl⟩ := Kind.slice hsu
        have hMlt := HM.out.lt
        obtain ⟨w4, hup, hM4, hg⟩ := TrueM.store (HM.out.later ((Later.refl wr).alloc (.cells #[.bool r.head.no, .string (bs r.head.name), .slice a2 r.head.terms.length c2, .slice a3 r.body.length c3] 56))) (by simp [maxLen]; omega) (x := x) (wf_len (by have := HG.out.small x (List.mem_of_getElem? hx); omega))
        have hgs := hg.size
        simp only [World.size_alloc] at hgs
        rw [← onceN_take hx] at hM4
        have HM4 := hide hM4
        have HT4 : Hid (Tn M w3 w4) := (HT.out.alloc _).trans (Tn.of_grown hg)
        have HE1 : Hid (w4.cell? ⟨b5, o5 + i, none⟩ = some (.int .i64 (x : Int))) := by show _ = _; rw [HT4.out.cell hb5 hbne5]; simpa [intK] using hc5 0 _ rfl
        have HZ1 : Hid (w4.cell? ⟨wr.heap.size, 1, none⟩ = some (.string (bs r.head.name))) := by show _ = _; rw [(Tn.of_grown hg).cell (by simp) (by show wr.heap.size ≠ M; omega)]; simp
        have HZ3 : Hid (w4.cell? ⟨wr.heap.size, 3, none⟩ = some (.slice a3 r.body.length c3)) := by show _ = _; rw [(Tn.of_grown hg).cell (by simp) (by show wr.heap.size ≠ M; omega)]; simp
        have hR4 : wr.heap.size < w4.heap.size := by omega
        have HSU := hide hsu
        have hlb := hsu.1.1
        replace hup := hide hup
        clear hcl hc5 hsv hsu hM4 hg HM HT hgs
        generalize hn1 : bs r.head.name = n1 at *
        generalize r.head.no = no at *
        generalize hR : wr.heap.size = R at *
        go_wp2_with (first
          | (at_mapUpdate; refine wpList_run_update _ rfl _ _ _ _ rfl _ _ _ _ rfl rfl rfl (unhide hup) ?_)
          | go_in)
        clear d0 d1 d2 d3 e1 hup hR hbr hbr5
        go_loopg [41] p.length (fun k i2 wr2 => ∃ j : Nat, j + k = p.length ∧ i2 = .int .i64 j ∧ Hid (Later w4 wr2))
        case atStart => exact ⟨0, by omega, rfl, Later.refl _⟩
        case round =>
          obtain ⟨j, hj, rfl, HL⟩ := hrel
          have hwr4 := HL.out.size
          by_cases hlj : j < p.length
          · obtain ⟨q, hq⟩ : ∃ x, p[j]? = some x := ⟨_, List.getElem?_eq_getElem hlj⟩
            obtain ⟨y, hy⟩ : ∃ x, l[j]? = some x := ⟨_, List.getElem?_eq_getElem (by omega)⟩
            obtain ⟨b6, o6, _, e6, hb6, hbne6, ⟨tv, tu, rfl, htv, htu⟩, hcl⟩ := Kind.sl_atB HV3.out hq
            simp only [Option.some.injEq, Addr.mk.injEq, and_true] at e6
            obtain ⟨rfl, rfl⟩ := e6
            obtain ⟨b7, o7, _, e7, hb7, hbne7, rfl, hc7⟩ := Kind.sl_atB HU.out hy
            simp only [Option.some.injEq, Addr.mk.injEq, and_true] at e7
            obtain ⟨rfl, rfl⟩ := e7
            have hw34 := HT4.out.size
            have mv : ∀ {c : Addr} {u : Value}, w3.cell? c = some u → c.block < w3.heap.size → c.block ≠ M → wr.cell? c = some u := fun h h1 h2 => by rw [HL.out.cell (by omega), HT4.out.cell h1 h2]; exact h
            have d0 : wr.cell? ⟨b1, o1 + j * 4, none⟩ = some (.bool q.head.no) := mv (hcl 0 _ rfl) hb1 hbne
            have d1 : wr.cell? ⟨b1, o1 + j * 4 + 1, none⟩ = some (.string (bs q.head.name)) := mv (hcl 1 _ rfl) hb1 hbne
            have d2 : wr.cell? ⟨b1, o1 + j * 4 + 2, none⟩ = some tv := mv (hcl 2 _ rfl) hb1 hbne
            have d3 : wr.cell? ⟨b1, o1 + j * 4 + 3, none⟩ = some tu := mv (hcl 3 _ rfl) hb1 hbne
            have EY : Hid (w4.cell? ⟨b5, o5 + j, none⟩ = some (.int .i64 (y : Int))) := by show _ = _; rw [HT4.out.cell hb5 hbne5]; simpa [intK] using hc7 0 _ rfl
            have e1 : wr.cell? ⟨b5, o5 + i, none⟩ = some (.int .i64 (x : Int)) := by rw [HL.out.cell (by show b5 < _; omega)]; exact HE1.out
            have e2 : wr.cell? ⟨b5, o5 + j, none⟩ = some (.int .i64 (y : Int)) := by rw [HL.out.cell (by show b5 < _; omega)]; exact EY.out
            have z1 : wr.cell? ⟨R, 1, none⟩ = some (.string n1) := by rw [HL.out.cell hR4]; exact HZ1.out
            have z3 : wr.cell? ⟨R, 3, none⟩ = some (.slice a3 r.body.length c3) := by rw [HL.out.cell hR4]; exact HZ3.out
            have hRl : R < wr.heap.size := by omega
            have hbr : b1 < wr.heap.size := by omega
            have hbr5 : b5 < wr.heap.size := by omega
            have hiz : (i : Int) < (p.length : Int) := by omega
            have hjz : (j : Int) < (p.length : Int) := by omega
            obtain ⟨a4, c4, rfl⟩ := Kind.slice htv
            obtain ⟨a5, c5, rfl⟩ := Kind.slice htu
            have HLow : Hid (∀ a ∈ r.body, a.name = q.head.name → y + step a ≤ x) := fun a ha e => HG.out.below i j r q x y a hr hq hx hy ha e
            have key : (((bs q.head.name).toList == n1.toList) = true ∧ (((x : Int) != (y : Int)) = false)) ∨ ((bs q.head.name).toList == n1.toList) = false := by
              rw [← hn1, bs_eqC]
              by_cases e : q.head.name = r.head.name
              · left
                refine ⟨by simpa using e, ?_⟩
                have := HG.out.alike i j r q x y hr hq hx hy e
                rw [this]; simp
              · right; simpa using e
            have hkey := hide key
            clear hcl hc7 htv htu mv key hy hq
            generalize hn2 : bs q.head.name = n2 at *
            generalize q.head.no = no2 at *
            have HW5 : Hid (∀ g, Later w4 ((wr.alloc (.cells #[.bool no2, .string n2, .slice a4 q.head.terms.length c4, .slice a5 q.body.length c5] 56)).drewN g) ∧ wr.heap.size < ((wr.alloc (.cells #[.bool no2, .string n2, .slice a4 q.head.terms.length c4, .slice a5 q.body.length c5] 56)).drewN g).heap.size ∧ ((wr.alloc (.cells #[.bool no2, .string n2, .slice a4 q.head.terms.length c4, .slice a5 q.body.length c5] 56)).drewN g).cell? ⟨wr.heap.size, 1, none⟩ = some (.string n2)) := fun g =>
              ⟨(HL.out.alloc _).drewN _, by show wr.heap.size < (wr.alloc _).heap.size; simp, by show (wr.alloc _).cell? _ = _; simp⟩
            generalize hR2 : wr.heap.size = R2 at *
            rcases unhide hkey with ⟨k1, k2⟩ | k1
            all_goals
              go_wp2
              go_quiet (fail)
              go_wp2
              clear d0 d1 d2 d3 e1 e2 z1 z3 hRl hbr hbr5 hkey hwr4
              go_loopg [67] r.body.length (fun k i3 wr3 => ∃ t : Nat, t + k = r.body.length ∧ i3 = .int .i64 t ∧ Hid (Later w4 wr3) ∧ R2 < wr3.heap.size ∧ wr3.cell? ⟨R2, 1, none⟩ = some (.string n2))
              case atStart => exact ⟨0, by omega, rfl, (HW5.out _).1, (HW5.out _).2.1, (HW5.out _).2.2⟩
              case round =>
                obtain ⟨t, ht, rfl, HL3, hR3, z2⟩ := hrel
                clear HW5 hR2
                have hwr5 := HL3.out.size
                by_cases hlt3 : t < r.body.length
                · obtain ⟨a, ha⟩ : ∃ x, r.body[t]? = some x := ⟨_, List.getElem?_eq_getElem hlt3⟩
                  obtain ⟨b8, o8, _, rfl, hb8, hbne8, ⟨av, rfl, hav⟩, hcl⟩ := Kind.sl_atB HSU.out ha
                  have hw34 := HT4.out.size
                  have mv : ∀ {c : Addr} {u : Value}, w3.cell? c = some u → c.block < w3.heap.size → c.block ≠ M → wr.cell? c = some u := fun h h1 h2 => by rw [HL3.out.cell (by omega), HT4.out.cell h1 h2]; exact h
                  have f0 : wr.cell? ⟨b8, o8 + t * 3, none⟩ = some (.bool a.no) := mv (hcl 0 _ rfl) hb8 hbne8
                  have f1 : wr.cell? ⟨b8, o8 + t * 3 + 1, none⟩ = some (.string (bs a.name)) := mv (hcl 1 _ rfl) hb8 hbne8
                  have f2 : wr.cell? ⟨b8, o8 + t * 3 + 2, none⟩ = some av := mv (hcl 2 _ rfl) hb8 hbne8
                  have e1 : wr.cell? ⟨b5, o5 + i, none⟩ = some (.int .i64 (x : Int)) := by rw [HL3.out.cell (by show b5 < _; omega)]; exact HE1.out
                  have e2 : wr.cell? ⟨b5, o5 + j, none⟩ = some (.int .i64 (y : Int)) := by rw [HL3.out.cell (by show b5 < _; omega)]; exact EY.out
                  have hbr8 : b8 < wr.heap.size := by omega
                  have hbr5 : b5 < wr.heap.size := by omega
                  have htz : (t : Int) < (r.body.length : Int) := by omega
                  obtain ⟨a6, c6, rfl⟩ := Kind.slice hav
                  have key : (((bs a.name).toList == n2.toList) = true ∧ y + step a ≤ x) ∨ ((bs a.name).toList == n2.toList) = false := by
                    rw [← hn2, bs_eqC]
                    by_cases e : a.name = q.head.name
                    · exact Or.inl ⟨by simpa using e, HLow.out a (List.mem_of_getElem? ha) e⟩
                    · right; simpa using e
                  have hkey3 := hide key
                  unfold step at hkey3
                  clear hcl hav mv key ha
                  generalize bs a.name = n3 at *
                  generalize a.no = no3 at *
                  rcases unhide hkey3 with ⟨k3, k4⟩ | k3
                  · have g1 : decide (x < y) = false := decide_eq_false (by split at k4 <;> omega)
                    have g2 : decide ((x : Int) < (y : Int)) = false := decide_eq_false (by split at k4 <;> omega)
                    cases no3
                    · clear k4 hkey3
                      go_wp2
                      go_quiet (fail)
                      go_wp2
                      go_roundg (r.body.length - (t + 1))
                      case measure => omega
                      case rel => exact ⟨t + 1, by omega, by go_num, (HL3.out.alloc _).drewN _, by show R2 < (World.alloc _ _).heap.size; simp; omega, by show (World.alloc _ _).cell? _ = _; rw [((Later.refl wr).alloc _).cell hR3]; exact z2⟩
                    · have g3 : decide (x ≤ y) = false := decide_eq_false (by simp at k4; omega)
                      have g4 : decide ((x : Int) ≤ (y : Int)) = false := decide_eq_false (by simp at k4; omega)
                      clear k4 hkey3
                      go_wp2
                      go_quiet (fail)
                      go_wp2
                      go_roundg (r.body.length - (t + 1))
                      case measure => omega
                      case rel => exact ⟨t + 1, by omega, by go_num, (HL3.out.alloc _).drewN _, by show R2 < (World.alloc _ _).heap.size; simp; omega, by show (World.alloc _ _).cell? _ = _; rw [((Later.refl wr).alloc _).cell hR3]; exact z2⟩
                  · clear hkey3
                    go_wp2
                    go_quiet (fail)
                    go_wp2
                    go_roundg (r.body.length - (t + 1))
                    case measure => omega
                    case rel => exact ⟨t + 1, by omega, by go_num, (HL3.out.alloc _).drewN _, by show R2 < (World.alloc _ _).heap.size; simp; omega, by show (World.alloc _ _).cell? _ = _; rw [((Later.refl wr).alloc _).cell hR3]; exact z2⟩
                · go_wp2
                  go_roundg (p.length - (j + 1))
                  case measure => omega
                  case rel => exact ⟨j + 1, by omega, by go_num, HL3⟩
          · go_wp2
            go_roundg (p.length - (i + 1))
            case measure => omega
            case rel =>
              refine ⟨i + 1, by omega, by go_num, HM4.out.later HL.out, HT4.out.trans (Tn.of_below HL.out.below)⟩
      · have e : i = p.length := by omega
        subst e
        have HM2 : Hid (TrueM wr M 16 (onceN l)) := by
          have := HM.out
          rw [← hlen, List.take_length] at this
          obtain ⟨D, h1, h2⟩ := this
          exact ⟨D, h1.mono (by omega), h2⟩
        have HF := hide HG.out.full
        have hln := HM2.out.len 3
        have hol : (onceN l).length ≤ 16 := by
          obtain ⟨D, h1, h2, _⟩ := HM2.out
          rw [← h2]; exact h1.size_le
        have HBr : Hid (Below w.heap.size w wr) := below_trans HB3.out (HT.out.below (n := w.heap.size) (by omega) (by omega)) (Nat.le_refl _)
        clear HM HT
        go_wp2
        go_loopg [108] (onceN l).length (fun k i wr2 => ∃ j : Nat, j + k = (onceN l).length ∧ i = .int .i64 j ∧ Hid (TrueM wr2 M 16 (onceN l)) ∧ Hid (Below w.heap.size w wr2))
        case atStart => exact ⟨0, by omega, rfl, HM2, HBr⟩
        case round =>
          obtain ⟨j, hj, rfl, HMj, HBj⟩ := hrel
          clear HM2 HBr hln
          by_cases hlt : j < (onceN l).length
          · have hlk := HMj.out.look (k := j) (wf_len (by omega))
            rw [show (onceN l).contains j = true by simpa using HF.out j hlt] at hlk
            replace hlk := hide hlk
            go_wp2_with (first
              | (at_lookup; refine wpList_run_lookup _ rfl _ _ _ _ rfl _ _ _ rfl rfl (unhide hlk) ?_)
              | go_in)
            go_roundg ((onceN l).length - (j + 1))
            case measure => omega
            case rel => exact ⟨j + 1, by omega, by go_num, HMj, HBj⟩
          · go_wp2
            go_ret
            exact ⟨rfl, HBj.out⟩
  · have F : Hid (l = []) := strataP_bad hsp h0
    have hq : (ex != 0) = true := by simpa using h0
    rw [F.out] at HS
    clear hsp h0 HV
    go_enter Try.func10, Try.ntmps10
    go_wp2_with (first
      | (go_at_call 53; refine HA.out.mono ?_; rintro e w1 ⟨rfl, hB1⟩; replace hB1 := hide hB1)
      | (go_at_call 51; refine (HS.out w1 (unhide hB1)).mono ?_; rintro e w2 ⟨u, rfl, hU, hB2⟩; obtain ⟨ua, uc, rfl⟩ := Kind.slice hU; replace hU := hide hU; replace hB2 := hide hB2))
    go_ret
    exact ⟨rfl, (unhide hB2).alloc (unhide hB2).size _⟩

end Go.Proofs.Ytehipkidohomeaa
