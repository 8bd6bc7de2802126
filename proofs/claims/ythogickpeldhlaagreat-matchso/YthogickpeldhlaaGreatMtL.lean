/- The walks of the reference's LessBinds and SameBinds (where both hold the same), and of match.All. -/
import Derived.Test.YthogickpeldhlaaGreatMtK
import Derived.Laws.StructEq
namespace Go.Proofs.YthogickpeldhlaaGreat
open Go.RowKit Go.Sort

theorem neqBind (x y : BindD) (w : World) : (binOp .neq 34 (.agg #[.string x.1, .string x.2]) (.agg #[.string y.1, .string y.2])).run Tryz.prog w = .ok (.bool (!decide (x = y))) w := by
  have e : decide (x = y) = (x.1.toList == y.1.toList && x.2.toList == y.2.toList) := by
    rw [eq_list, eq_list]
    obtain ⟨x1, x2⟩ := x
    obtain ⟨y1, y2⟩ := y
    rw [Bool.eq_iff_iff]; simp
  rw [e]
  generalize x.1 = a
  generalize x.2 = b
  generalize y.1 = c
  generalize y.2 = d
  go_simp
  by_cases h1 : a.toList = c.toList <;> by_cases h2 : b.toList = d.toList <;> simp [h1, h2]

def lessBs (l m : List BindD) : Bool := decide (cmpBs l m < 0)

theorem lessBs_step {l m : List BindD} {j : Nat} {x y : BindD} (hx : l[j]? = some x) (hy : m[j]? = some y) : lessBs (l.drop j) (m.drop j) = if x = y then lessBs (l.drop (j + 1)) (m.drop (j + 1)) else decide (cmpB x y < 0) := by
  obtain ⟨h1, e1⟩ := List.getElem?_eq_some_iff.1 hx
  obtain ⟨h2, e2⟩ := List.getElem?_eq_some_iff.1 hy
  rw [List.drop_eq_getElem_cons h1, List.drop_eq_getElem_cons h2, e1, e2]
  unfold lessBs
  show decide ((if cmpB x y ≠ 0 then cmpB x y else cmpX cmpB _ _) < 0) = _
  by_cases h : x = y
  · rw [if_pos h, if_neg (by rw [h, three_cmpB.refl]; simp)]
  · rw [if_neg h, if_pos (fun e => h (three_cmpB.zero _ _ e))]

theorem cmpB_lt (x y : BindD) : decide (cmpB x y < 0) = (Op.bytesLess x.1.toList y.1.toList || (x.1.toList == y.1.toList && Op.bytesLess x.2.toList y.2.toList)) := by
  unfold cmpB
  by_cases h : x.1.toList = y.1.toList
  · have h' : (x.1.toList == y.1.toList) = true := by simpa using h
    rw [if_neg (by rw [cmpS_eq h']; simp), cmpS_lt, h', h, bl_irrefl]; rfl
  · have h' : (x.1.toList == y.1.toList) = false := by simpa using h
    rw [if_pos (cmpS_ne h'), cmpS_lt, h']; simp

set_option maxRecDepth 100000 in
set_option maxHeartbeats 4000000 in
theorem lessBinds (u v : Value) (l m : List BindD) (w : World) (hu : bindK.sl Anyw w u l) (hv : bindK.sl Anyw w v m) :
    Calls Tryz.prog 17 #[u, v] w fun e w' => e = .returned (.bool (lessBs l m)) ∧ Later w w' := by
  obtain ⟨a, cap, rfl⟩ := Kind.slice hu
  obtain ⟨a', cap', rfl⟩ := Kind.slice hv
  have hl := hu.1.1
  have hm := hv.1.1
  have HU := hide hu
  have HV := hide hv
  clear hu hv
  generalize hR : lessBs l m = R at *
  have H0 : Hid (R = lessBs (l.drop 0) (m.drop 0)) := hR.symm
  clear hR
  go_enter Tryz.func17, Tryz.ntmps17
  go_wp2
  go_loopg [8] l.length (fun g i wr => ∃ j : Nat, j + g = l.length ∧ i = .int .i64 j ∧ Hid (R = lessBs (l.drop j) (m.drop j)) ∧ Hid (j ≤ m.length) ∧ Hid (Later w wr))
  case atStart => exact ⟨0, by omega, rfl, H0, (Nat.zero_le _ : _ ≤ _), Later.refl _⟩
  case round =>
    obtain ⟨j, hj, rfl, HE, HJ, HL⟩ := hrel
    have hjm := HJ.out
    by_cases hlt : j < l.length
    · obtain ⟨x, hx⟩ : ∃ x, l[j]? = some x := ⟨_, List.getElem?_eq_getElem hlt⟩
      obtain ⟨b1, o1, _, rfl, hb1, rfl, hc⟩ := Kind.sl_at HU.out hx
      by_cases hlm : j < m.length
      · obtain ⟨y, hy⟩ : ∃ y, m[j]? = some y := ⟨_, List.getElem?_eq_getElem hlm⟩
        obtain ⟨b2, o2, _, rfl, hb2, rfl, hc2⟩ := Kind.sl_at HV.out hy
        have d0 : wr.cell? ⟨b1, o1 + j * 2, none⟩ = some (.string x.1) := by rw [HL.out.cell hb1]; exact hc 0 _ rfl
        have d1 : wr.cell? ⟨b1, o1 + j * 2 + 1, none⟩ = some (.string x.2) := by rw [HL.out.cell hb1]; exact hc 1 _ rfl
        have d2 : wr.cell? ⟨b2, o2 + j * 2, none⟩ = some (.string y.1) := by rw [HL.out.cell hb2]; exact hc2 0 _ rfl
        have d3 : wr.cell? ⟨b2, o2 + j * 2 + 1, none⟩ = some (.string y.2) := by rw [HL.out.cell hb2]; exact hc2 1 _ rfl
        have hbr : b1 < wr.heap.size := Nat.lt_of_lt_of_le hb1 HL.out.size
        have hbr2 : b2 < wr.heap.size := Nat.lt_of_lt_of_le hb2 HL.out.size
        have E := lessBs_step hx hy
        have hq := neqBind x y
        have hjz : (j : Int) < (m.length : Int) := by omega
        have hjz2 : ¬ ((m.length : Int) ≤ (j : Int)) := by omega
        by_cases hxy : x = y
        · rw [if_pos hxy] at E
          rw [decide_eq_true hxy] at hq
          have HE1 : Hid (R = lessBs (l.drop (j + 1)) (m.drop (j + 1))) := by show _ = _; rw [HE.out, E]
          clear E HE hc hc2 hx hy hxy
          obtain ⟨x1, x2⟩ := x
          obtain ⟨y1, y2⟩ := y
          dsimp only at *
          go_wp2
          go_quiet (fail)
          go_wp2
          go_roundg (l.length - (j + 1))
          case measure => omega
          case rel => exact ⟨j + 1, by omega, by go_num, HE1, (by omega : j + 1 ≤ m.length), HL.out.drewN _⟩
        · rw [if_neg hxy, cmpB_lt] at E
          rw [decide_eq_false hxy] at hq
          obtain ⟨x1, x2⟩ := x
          obtain ⟨y1, y2⟩ := y
          dsimp only at *
          cases h1 : Op.bytesLess x1.toList y1.toList
          · cases h2 : (x1.toList == y1.toList)
            · have HE1 : Hid (R = false) := by show _ = _; rw [HE.out, E, h1, h2]; rfl
              clear E HE hc hc2 hx hy hxy
              go_wp2
              go_quiet (fail)
              go_wp2
              go_quiet (fail)
              go_wp2
              go_ret
              exact ⟨by rw [HE1.out]; rfl, (HL.out.drewN _).drewN _⟩
            · have HE1 : Hid (R = Op.bytesLess x2.toList y2.toList) := by show _ = _; rw [HE.out, E, h1, h2]; rfl
              clear E HE hc hc2 hx hy hxy
              go_wp2
              go_quiet (fail)
              go_wp2
              go_quiet (fail)
              go_wp2
              go_ret
              exact ⟨by rw [HE1.out]; rfl, (HL.out.drewN _).drewN _⟩
          · have HE1 : Hid (R = true) := by show _ = _; rw [HE.out, E, h1]; rfl
            clear E HE hc hc2 hx hy hxy
            go_wp2
            go_quiet (fail)
            go_wp2
            go_quiet (fail)
            go_wp2
            go_ret
            exact ⟨by rw [HE1.out]; rfl, (HL.out.drewN _).drewN _⟩
      · have HE1 : Hid (R = false) := by
          show _ = _
          obtain ⟨h1, e1⟩ := List.getElem?_eq_some_iff.1 hx
          rw [HE.out, List.drop_eq_getElem_cons h1, List.drop_eq_nil_of_le (by omega : m.length ≤ j)]; rfl
        have hjz : (m.length : Int) ≤ (j : Int) := by omega
        clear hc hx HE
        go_wp2
        go_ret
        exact ⟨by rw [HE1.out]; rfl, HL.out⟩
    · have e : j = l.length := by omega
      have HE1 : Hid (R = decide (l.length < m.length)) := by
        show _ = _
        rw [HE.out, List.drop_eq_nil_of_le (by omega : l.length ≤ j)]
        by_cases hlm : j < m.length
        · rw [List.drop_eq_getElem_cons hlm, decide_eq_true (by omega)]; rfl
        · rw [List.drop_eq_nil_of_le (by omega : m.length ≤ j), decide_eq_false (by omega)]; rfl
      clear HE
      go_wp2
      go_ret
      exact ⟨by rw [HE1.out]; rfl, HL.out⟩

set_option maxRecDepth 100000 in
set_option maxHeartbeats 2000000 in
theorem sameBinds (u v : Value) (ls : List (List BindD)) (w : World) (hu : listK.sl Anyw w u ls) (hv : listK.sl Anyw w v ls) :
    Calls Tryz.prog 7 #[u, v] w fun e w' => e = .returned (.bool true) ∧ Later w w' := by
  obtain ⟨a, cap, rfl⟩ := Kind.slice hu
  obtain ⟨a', cap', rfl⟩ := Kind.slice hv
  have hl := hu.1.1
  have HU := hide hu
  have HV := hide hv
  clear hu hv
  have hqq : ((ls.length : Int) != (ls.length : Int)) = false := by simp
  have mx := mixed
  go_enter Tryz.func7, Tryz.ntmps7
  go_wp2
  go_loopg [13] ls.length (fun g i wr => ∃ j : Nat, j + g = ls.length ∧ i = .int .i64 j ∧ Hid (Later w wr))
  case atStart => exact ⟨0, by omega, rfl, Later.refl _⟩
  case round =>
    obtain ⟨j, hj, rfl, HL⟩ := hrel
    by_cases hlt : j < ls.length
    · obtain ⟨l, hx⟩ : ∃ x, ls[j]? = some x := ⟨_, List.getElem?_eq_getElem hlt⟩
      obtain ⟨b1, o1, _, rfl, hb1, ⟨x, rfl, hxs⟩, hc⟩ := Kind.sl_at HU.out hx
      obtain ⟨b2, o2, _, rfl, hb2, ⟨y, rfl, hys⟩, hc2⟩ := Kind.sl_at HV.out hx
      have d0 : ∀ q os, (grow (wr.drewN q) os).cell? ⟨b1, o1 + j, none⟩ = some x := fun q os => by
        have hL2 : Later w (grow (wr.drewN q) os) := HL.out.trans ⟨q, os, rfl⟩
        rw [hL2.cell hb1]; simpa [slK] using hc 0 _ rfl
      have d1 : ∀ q os, (grow (wr.drewN q) os).cell? ⟨b2, o2 + j, none⟩ = some y := fun q os => by
        have hL2 : Later w (grow (wr.drewN q) os) := HL.out.trans ⟨q, os, rfl⟩
        rw [hL2.cell hb2]; simpa [slK] using hc2 0 _ rfl
      have hself : lessBs l l = false := by unfold lessBs; rw [three_cmpBs.refl]; rfl
      have H1 : Hid (∀ q os, Calls Tryz.prog 17 #[x, y] (grow (wr.drewN q) os) fun e w2 => e = .returned (.bool false) ∧ Later (grow (wr.drewN q) os) w2) := fun q os => by
        have hL2 : Later w (grow (wr.drewN q) os) := HL.out.trans ⟨q, os, rfl⟩
        have := lessBinds x y l l (grow (wr.drewN q) os) (Kind.sl_later hxs hL2) (Kind.sl_later hys hL2)
        rwa [hself] at this
      have H2 : Hid (∀ q os, Calls Tryz.prog 17 #[y, x] (grow (wr.drewN q) os) fun e w2 => e = .returned (.bool false) ∧ Later (grow (wr.drewN q) os) w2) := fun q os => by
        have hL2 : Later w (grow (wr.drewN q) os) := HL.out.trans ⟨q, os, rfl⟩
        have := lessBinds y x l l (grow (wr.drewN q) os) (Kind.sl_later hys hL2) (Kind.sl_later hxs hL2)
        rwa [hself] at this
      obtain ⟨xa, xc, rfl⟩ := Kind.slice hxs
      obtain ⟨ya, yc, rfl⟩ := Kind.slice hys
      have hjz : (j : Int) < (ls.length : Int) := by omega
      clear hc hc2 hx hxs hys hself
      go_wp2
      go_quiet_grown ((first | (go_at_call_of 17 (#[Value.slice xa l.length xc, Value.slice ya l.length yc]); exact Calls.grown_of (H1.out _ _)) | (go_at_call_of 17 (#[Value.slice ya l.length yc, Value.slice xa l.length xc]); exact Calls.grown_of (H2.out _ _))))
      go_wp2
      go_roundg (ls.length - (j + 1))
      case measure => omega
      case rel => exact ⟨j + 1, by omega, by go_num, HL.out.trans ⟨_, _, rfl⟩⟩
    · go_wp2
      go_ret
      exact ⟨rfl, HL.out⟩

theorem facts_nil (w : World) : Facts w (.slice none 0 0) [] := ⟨by simp, none, 0, rfl, fun h => absurd rfl h⟩

set_option maxHeartbeats 1000000 in
theorem allC (body : List AtomD) (v fv : Value) (fs : List FactD) (w : World) (hv : atomK.sl Anyw w v body) (hf : Facts w fv fs) :
    Calls Tryz.prog 8 #[v, fv] w fun e w' => ∃ v' er, e = .returned (.tuple #[v', .int .i64 er]) ∧ WithT w' v' er body fs (-1) [] ∧ Below w.heap.size w w' := by
  have HW := hide (withC body v fv (.slice none 0 0) fs [] (-1) w hv hf (facts_nil w))
  obtain ⟨a, cap, rfl⟩ := Kind.slice hv
  obtain ⟨fa, fc, rfl⟩ := sliceFacts hf
  clear hv hf
  go_enter Tryz.func8, Tryz.ntmps8
  go_wp2_with fail
  refine HW.out.mono ?_
  rintro e w1 ⟨v', er, rfl, hT, hB⟩
  have HT := hide hT
  have HB := hide hB
  clear hT hB HW
  go_wp2
  go_ret2
  exact ⟨v', er, rfl, HT.out, HB.out⟩

theorem pick_all' {fs : List FactD} : pickB fs (-1) [] = fun _ => fs := by
  funext n
  unfold pickB
  rw [if_neg (by omega)]

end Go.Proofs.YthogickpeldhlaaGreat
