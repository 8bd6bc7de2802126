/- Texts of this claim, one behind the other. -/
import Derived.Test.YtbohggoeebhdmaaGreatDoorJ24
import Derived.RegionTactic
import Derived.ChangeAlike
import Derived.Test.YtbohggoeebhdmaaGreatDoorJ19
import Derived.BigQuiet
import Derived.Test.YtbohggoeebhdmaaGreatDoorJ23
import Derived.Test.YtbohggoeebhdmaaGreatDoorRows
import Derived.WalkKit
import Derived.Laws.StructEq
/- The walk of the reference's Strata. -/
namespace Go.Proofs.YtbohggoeebhdmaaGreatDoor
open Go.RowKit Go.Sort Go.Maps

/-- What stands after the heads are gathered. -/
structure Hd (w w5 : World) (g : Nat) (v : Value) (hs : List Bs) : Prop where
  below : Below w.heap.size w w5
  row : w5.heap[w.heap.size]? = some (.cells #[.int .i64 0, .int .i64 0] 27 (0, 0))
  box : w5.cell? ⟨g, 0, none⟩ = some v
  lt : g < w5.heap.size
  lo : w.heap.size < w5.heap.size
  hs : strK.sl Anyw w5 v hs

theorem Hd.below' {w w5 w6 : World} {g : Nat} {v : Value} {hs : List Bs} (h : Hd w w5 g v hs) (k : Below w5.heap.size w5 w6) : Hd w w6 g v hs :=
  ⟨below_trans h.below k (Nat.le_of_lt h.lo), by rw [k.block _ h.lo]; exact h.row, by rw [k.cell (p := ⟨g, 0, none⟩) h.lt]; exact h.box, Nat.lt_of_lt_of_le h.lt k.size, Nat.lt_of_lt_of_le h.lo k.size, Kind.sl_below h.hs k⟩

/-- The two maps, after what was there. -/
structure St (w5 : World) (n : Nat) (s : Rel × Rel) (wr : World) : Prop where
  below : Below w5.heap.size w5 wr
  m1 : RelM wr w5.heap.size n s.1
  m2 : RelM wr (w5.heap.size + 1) n s.2

theorem St.later {w5 wr wr' : World} {n : Nat} {s : Rel × Rel} (h : St w5 n s wr) (k : Later wr wr') : St w5 n s wr' := ⟨below_trans h.below k.below h.below.size, h.m1.later k, h.m2.later k⟩
theorem St.mono {w5 wr : World} {n m : Nat} {s : Rel × Rel} (h : St w5 n s wr) (hn : n ≤ m) : St w5 m s wr := ⟨h.below, h.m1.mono hn, h.m2.mono hn⟩

/-- What lies past the maps stays. -/
def Past (w5 a b : World) : Prop := a.heap.size ≤ b.heap.size ∧ ∀ k, w5.heap.size + 2 ≤ k → k < a.heap.size → b.heap[k]? = a.heap[k]?
theorem Past.cell {w5 a b : World} (h : Past w5 a b) {x : Addr} (hx : w5.heap.size + 2 ≤ x.block) (hl : x.block < a.heap.size) : b.cell? x = a.cell? x := World.cell?_of_block (w := a) (h.2 _ hx hl)

theorem St.put1 {w5 wr : World} {n : Nat} {s : Rel × Rel} (h : St w5 n s wr) (hn : n < maxLen) {x y : Bs} (hx : x.length ≤ maxLen) (hy : y.length ≤ maxLen) :
    ∃ w', (Instr.mapUpdate 78 (.map (some w5.heap.size)) (.agg #[.string (bs x), .string (bs y)]) (.bool true)).run Tryz.prog wr = .ok () w' ∧ St w5 (n + 1) (s.1.put x y, s.2) w' ∧ Past w5 wr w' := by
  obtain ⟨w', hrun, h1, hg⟩ := h.m1.store hn hx hy
  have hb : But (fun k => k = w5.heap.size) wr w' := But.of_grown hg rfl
  have hl := h.m2.lt
  exact ⟨w', hrun, ⟨hb.below h.below (fun k e => by omega) h.below.size, h1, (h.m2.block (hb.block _ hl (by omega))).mono (by omega)⟩, hb.size, fun k h1 h2 => hb.block k h2 (by omega)⟩
theorem St.put2 {w5 wr : World} {n : Nat} {s : Rel × Rel} (h : St w5 n s wr) (hn : n < maxLen) {x y : Bs} (hx : x.length ≤ maxLen) (hy : y.length ≤ maxLen) :
    ∃ w', (Instr.mapUpdate 78 (.map (some (w5.heap.size + 1))) (.agg #[.string (bs x), .string (bs y)]) (.bool true)).run Tryz.prog wr = .ok () w' ∧ St w5 (n + 1) (s.1, s.2.put x y) w' ∧ Past w5 wr w' := by
  obtain ⟨w', hrun, h1, hg⟩ := h.m2.store hn hx hy
  have hb : But (fun k => k = w5.heap.size + 1) wr w' := But.of_grown hg rfl
  have hl := h.m1.lt
  exact ⟨w', hrun, ⟨hb.below h.below (fun k e => by omega) h.below.size, (h.m1.block (hb.block _ hl (by omega))).mono (by omega), h1⟩, hb.size, fun k h1 h2 => hb.block k h2 (by omega)⟩
theorem St.look1 {w5 wr : World} {n : Nat} {s : Rel × Rel} (h : St w5 n s wr) {x y : Bs} (hx : x.length ≤ maxLen) (hy : y.length ≤ maxLen) : (Instr.lookup 78 (.map (some w5.heap.size)) (.agg #[.string (bs x), .string (bs y)]) false).run Tryz.prog wr = .ok (.bool (s.1 x y)) wr := h.m1.look hx hy
theorem St.look2 {w5 wr : World} {n : Nat} {s : Rel × Rel} (h : St w5 n s wr) {x y : Bs} (hx : x.length ≤ maxLen) (hy : y.length ≤ maxLen) : (Instr.lookup 78 (.map (some (w5.heap.size + 1))) (.agg #[.string (bs x), .string (bs y)]) false).run Tryz.prog wr = .ok (.bool (s.2 x y)) wr := h.m2.look hx hy

theorem heads_step {p : List RuleD} {j : Nat} {r : RuleD} (h : p[j]? = some r) : heads (p.take (j + 1)) = heads (p.take j) ++ [r.head.name] := by
  rw [List.take_add_one, h]; simp [heads]

theorem edgeAll_step {p : List RuleD} {j : Nat} {r : RuleD} (h : p[j]? = some r) (hd : Bs → Bool) (s : Rel × Rel) : edgeAll hd s (p.drop j) = edgeAll hd (edgeRule hd s r) (p.drop (j + 1)) := by
  obtain ⟨h1, e1⟩ := List.getElem?_eq_some_iff.1 h
  rw [List.drop_eq_getElem_cons h1, e1]; rfl
theorem foldl_drop {α β : Type} {l : List α} {j : Nat} {x : α} (h : l[j]? = some x) (f : β → α → β) (b : β) : (l.drop j).foldl f b = (l.drop (j + 1)).foldl f (f b x) := by
  obtain ⟨h1, e1⟩ := List.getElem?_eq_some_iff.1 h
  rw [List.drop_eq_getElem_cons h1, e1]; rfl

set_option maxRecDepth 100000 in
set_option maxHeartbeats 16000000 in
theorem rStrata (p : List RuleD) (v : Value) (w : World) (hv : ruleK.sl Anyw w v p) (hk : ∀ r ∈ p, longR r) :
    Calls Tryz.prog 15 #[v] w fun e w' => ∃ u, e = .returned (.tuple #[u, .agg #[.int .i64 (strataP p).2.1, .int .i64 ((strataP p).2.2 : Nat)]]) ∧ intK.sl (From w.heap.size) w' u (strataP p).1 ∧ Below w.heap.size w w' := by
  obtain ⟨sa, cap, rfl⟩ := Kind.slice hv
  have HV := hide hv
  have hl0 := hv.1.1
  have HW : Hid (Calls Tryz.prog 9 #[.slice sa p.length cap] (w.alloc (.cells #[.int .i64 0, .int .i64 0] 27)) fun e w2 => e = .returned (.agg #[.int .i64 (wrongP p).1, .int .i64 ((wrongP p).2 : Nat)]) ∧ Hid (Below w.heap.size w w2) ∧ w2.heap[w.heap.size]? = some (.cells #[.int .i64 0, .int .i64 0] 27 (0, 0)) ∧ w.heap.size < w2.heap.size) :=
    (rWrongProgram p _ _ (Kind.sl_below hv ((Later.refl w).alloc _).below) hk).mono fun e w2 ⟨he, hb⟩ => ⟨he, below_trans ((Later.refl w).alloc _).below hb (by simp), by rw [hb.block w.heap.size (by simp), heap_alloc_new], by have := hb.size; simp at this; omega⟩
  clear hv hk
  have hmm := @run_makeMap Tryz.prog
  generalize hwp : wrongP p = wp at *
  obtain ⟨ex, ea⟩ := wp
  dsimp only at *
  by_cases h0 : ex = 0
  · subst h0
    obtain ⟨hp16, hfine⟩ := wrongP_fine (p := p) (by rw [hwp])
    have HFi := hide hfine
    have HNo : Hid (∀ a ∈ heads p, (fwP p).2 a a = true → strataP p = ([], 10, 0)) := fun a ha h => strata_no (by rw [hwp]) ha h
    have HYes : Hid ((∀ a ∈ heads p, (fwP p).2 a a = false) → strataP p = (p.map fun r => levs (hdOf (heads p)) p (p.length + 1) (fun _ => 0) r.head.name, 0, 0)) := fun h => strata_yes (by rw [hwp]) h
    have HHs : Hid (∀ s ∈ heads p, s.length ≤ maxLen) := fun s hs => by
      obtain ⟨r, hr, rfl⟩ := (mem_heads p s).1 hs
      exact (hfine r hr).1
    have hhl : (heads p).length = p.length := by simp [heads]
    clear hwp hfine
    go_enter Tryz.func15, Tryz.ntmps15
    go_wp2_with (go_at_call 9; refine HW.out.mono ?_; rintro e w2 ⟨rfl, hB2, hR2, hs2⟩; replace hR2 := hide hR2)
    have hwz := hB2.out.size
    clear HW
    go_loopg [42] p.length (fun k i wr => ∃ j : Nat, j + k = p.length ∧ i = .int .i64 j ∧ ∃ o, Hid (strK.own 9 (w2.heap.size + 2) wr o (heads (p.take j))) ∧ Hid (wr.heap[w2.heap.size + 1]? = some (.cells #[o] 52 (0, 0))) ∧ Hid (Below w.heap.size w wr) ∧ Hid (wr.heap[w.heap.size]? = some (.cells #[.int .i64 0, .int .i64 0] 27 (0, 0))) ∧ w2.heap.size + 2 ≤ wr.heap.size)
    case atStart =>
      refine ⟨0, by omega, rfl, .slice none 0 0, strK.own_nil _ _ _, ?_, ?_, ?_, by simp⟩
      · show _ = _
        have := heap_alloc_new (w2.alloc (.cells #[.int .i64 0, .int .i64 (ea : Int)] 27)) (.cells #[.slice none 0 0] 52)
        rw [World.size_alloc] at this
        exact this
      · exact (hB2.out.alloc hwz _).alloc (by simp; omega) _
      · show _ = _
        rw [Below.heap_alloc _ _ _ (by simp; omega), Below.heap_alloc _ _ _ hs2]
        exact unhide hR2
    case round =>
      obtain ⟨j, hj, rfl, o, HO, HX, HB, HR, hsz⟩ := hrel
      clear hB2 hR2
      obtain ⟨ao, co, rfl⟩ := Kind.own_slice HO.out
      have hX := HX.out
      have x0 : wr.cell? ⟨w2.heap.size + 1, 0, none⟩ = some (.slice ao (heads (p.take j)).length co) := by rw [cell_of_row _ _ _ _ _ _ hX]; rfl
      have hxl : w2.heap.size + 1 < wr.heap.size := by omega
      clear hX
      by_cases hlt : j < p.length
      · obtain ⟨r, hr⟩ : ∃ x, p[j]? = some x := ⟨_, List.getElem?_eq_getElem hlt⟩
        obtain ⟨b1, o1, _, rfl, hb1, ⟨sv, su, rfl, hsv, hsu⟩, hcl⟩ := Kind.sl_at HV.out hr
        have d0 : wr.cell? ⟨b1, o1 + j * 4, none⟩ = some (.bool r.head.no) := by rw [HB.out.cell hb1]; exact hcl 0 _ rfl
        have d1 : wr.cell? ⟨b1, o1 + j * 4 + 1, none⟩ = some (.string (bs r.head.name)) := by rw [HB.out.cell hb1]; exact hcl 1 _ rfl
        have d2 : wr.cell? ⟨b1, o1 + j * 4 + 2, none⟩ = some sv := by rw [HB.out.cell hb1]; exact hcl 2 _ rfl
        have d3 : wr.cell? ⟨b1, o1 + j * 4 + 3, none⟩ = some su := by rw [HB.out.cell hb1]; exact hcl 3 _ rfl
        have hbr : b1 < wr.heap.size := by have := HB.out.size; omega
        have hlen : (heads (p.take j)).length = j := by simp [heads]; omega
        have E := hide (heads_step hr)
        have hOA := Kind.own_turned HO.out ((Tn.refl 0 wr).alloc (.cells #[.bool r.head.no, .string (bs r.head.name), sv, su] 43)) (by omega)
        obtain ⟨v', w4, hrun, o4, g4⟩ := appendStrC hOA (x := r.head.name) (by rw [hlen]; omega) (by simp; omega)
        obtain ⟨av, cv, hv'⟩ := Kind.own_slice o4
        generalize (heads (p.take j) ++ [r.head.name]).length = nv at hv'
        subst hv'
        have hT4 : Tn (w2.heap.size + 1) w4 (w4.setCell ⟨w2.heap.size + 1, 0, none⟩ (.slice av nv cv)) := (Tn.refl (w2.heap.size + 1) w4).setCell (x := ⟨w2.heap.size + 1, 0, none⟩) (Or.inl rfl) (.slice av nv cv)
        have hs4 := g4.size
        simp only [World.size_alloc] at hs4
        have hk4 : ∀ k, k < w2.heap.size + 2 → w4.heap[k]? = wr.heap[k]? := fun k hk => by
          rw [g4.block k (by simp; omega) (fun e => by have := (Kind.own_lt hOA e.symm).1; omega), Below.heap_alloc _ _ _ (by simp; omega), Below.heap_alloc _ _ _ (by omega)]
        have HO4 : Hid (strK.own 9 (w2.heap.size + 2) (w4.setCell ⟨w2.heap.size + 1, 0, none⟩ (.slice av nv cv)) (.slice av nv cv) (heads (p.take (j + 1)))) := by show strK.own _ _ _ _ _; rw [E.out]; exact Kind.own_turned o4 hT4 (by omega)
        have hX4 : w4.heap[w2.heap.size + 1]? = some (.cells #[.slice ao (heads (p.take j)).length co] 52 (0, 0)) := by rw [hk4 _ (by omega)]; exact HX.out
        have HX4 : Hid ((w4.setCell ⟨w2.heap.size + 1, 0, none⟩ (.slice av nv cv)).heap[w2.heap.size + 1]? = some (.cells #[(.slice av nv cv)] 52 (0, 0))) := setCell_row hX4 (.slice av nv cv)
        have HB4 : Hid (Below w.heap.size w (w4.setCell ⟨w2.heap.size + 1, 0, none⟩ (.slice av nv cv))) := by
          refine Below.setCell (below_trans ((HB.out.alloc HB.out.size _).alloc (by have := HB.out.size; simp; omega) _) ⟨g4.os, g4.tape, g4.output, g4.size, fun k hk => g4.block k (by simp; omega) (fun e => ?_)⟩ (Nat.le_refl _)) (by show w.heap.size ≤ w2.heap.size + 1; omega) _
          have := (Kind.own_lt hOA e.symm).1
          omega
        have HR4 : Hid ((w4.setCell ⟨w2.heap.size + 1, 0, none⟩ (.slice av nv cv)).heap[w.heap.size]? = some (.cells #[.int .i64 0, .int .i64 0] 27 (0, 0))) := by
          show _ = _
          rw [hT4.block _ (by omega) (by omega), hk4 _ (by omega)]
          exact HR.out
        have hz4 : w2.heap.size + 2 ≤ (w4.setCell ⟨w2.heap.size + 1, 0, none⟩ (.slice av nv cv)).heap.size := by rw [size_setCell]; omega
        have y0 : w4.cell? ⟨w2.heap.size + 1, 0, none⟩ = some (.slice ao (heads (p.take j)).length co) := by rw [cell_of_row _ _ _ _ _ _ hX4]; rfl
        have y1 : w4.frozen? ⟨w2.heap.size + 1, 0, none⟩ = false := frozen_rowC 0 hX4
        simp only [World.size_alloc] at hrun
        rw [hlen] at hrun x0 y0
        replace hrun := hide hrun
        clear hlen
        obtain ⟨a2, c2, rfl⟩ := Kind.slice hsv
        obtain ⟨a3, c3, rfl⟩ := Kind.slice hsu
        clear hcl hr hsv hsu hOA o4 g4 HO HB HX HR E hT4 hk4 hX4
        generalize bs r.head.name = nm at *
        generalize r.head.no = no at *
        go_wp2_with (first
          | (at_builtin; refine wpList_append_run rfl (.tmp 46) (.tmp 50) 52 rfl _ _ _ _ rfl rfl (unhide hrun) ?_)
          | go_in)
        go_roundg (p.length - (j + 1))
        case measure => omega
        case rel => exact ⟨j + 1, by omega, by go_num, (.slice av nv cv), HO4, HX4, HB4, HR4, hz4⟩
      · have e : j = p.length := by omega
        subst e
        have hO := HO.out
        rw [List.take_length] at hO x0
        have HH : Hid (Hd w wr (w2.heap.size + 1) (.slice ao (heads p).length co) (heads p)) := ⟨HB.out, HR.out, x0, hxl, by omega, Kind.sl_any (Kind.own_sl (by first | exact hO | (rw [List.take_length] at hO; exact hO)) (by omega))⟩
        clear HO HX HB HR hO
        generalize hGg : w2.heap.size + 1 = G at *
        have hGl := HH.out.lt
        clear hsz
        have HHL : Hid ((heads p).length = p.length) := hhl
        rw [hhl] at HH x0
        clear hhl
        generalize hw5 : wr = w5 at *
        clear hw5
        have HFW : Hid (fwP p = fwK (heads p) (heads p) (edgeAll (hdOf (heads p)) (fun _ _ => false, fun _ _ => false) p)) := (rfl : _ = _)
        generalize heads p = hs at *
        generalize fwP p = FW at *
        generalize he0 : edgeAll (hdOf hs) (fun _ _ => false, fun _ _ => false) p = EA at *
        have HE0 := hide he0
        clear he0
        go_wp2
        go_loopg [58] p.length (fun k i wr => ∃ j : Nat, j + k = p.length ∧ i = .int .i64 j ∧ ∃ s, Hid (EA = edgeAll (hdOf hs) s (p.drop j)) ∧ Hid (St w5 (10 * j) s wr) ∧ w5.heap.size + 2 ≤ wr.heap.size)
        case atStart =>
          refine ⟨0, by omega, rfl, (fun _ _ => false, fun _ _ => false), HE0.out.symm, ⟨?_, ?_, ?_⟩, by simp⟩
          · exact (((Later.refl w5).alloc _).alloc _).below
          · exact (RelM.made w5).later ((Later.refl _).alloc _)
          · have := RelM.made (w5.alloc (.map #[] 0))
            rw [World.size_alloc] at this
            exact this
        case round =>
          obtain ⟨j, hj, rfl, s, HE, HS, hsz⟩ := hrel
          by_cases hlt : j < p.length
          · obtain ⟨r, hr⟩ : ∃ x, p[j]? = some x := ⟨_, List.getElem?_eq_getElem hlt⟩
            obtain ⟨b1, o1, _, rfl, hb1, ⟨sv, su, rfl, hsv, hsu⟩, hcl⟩ := Kind.sl_at HV.out hr
            have hBw : Below w.heap.size w wr := below_trans HH.out.below HS.out.below HH.out.below.size
            have d0 : wr.cell? ⟨b1, o1 + j * 4, none⟩ = some (.bool r.head.no) := by rw [hBw.cell hb1]; exact hcl 0 _ rfl
            have d1 : wr.cell? ⟨b1, o1 + j * 4 + 1, none⟩ = some (.string (bs r.head.name)) := by rw [hBw.cell hb1]; exact hcl 1 _ rfl
            have d2 : wr.cell? ⟨b1, o1 + j * 4 + 2, none⟩ = some sv := by rw [hBw.cell hb1]; exact hcl 2 _ rfl
            have d3 : wr.cell? ⟨b1, o1 + j * 4 + 3, none⟩ = some su := by rw [hBw.cell hb1]; exact hcl 3 _ rfl
            have hbr : b1 < wr.heap.size := by have := hBw.size; omega
            obtain ⟨f1, f2, f3⟩ := HFi.out r (List.mem_of_getElem? hr)
            have HSt := hide (edgeAll_step hr (hdOf hs) s)
            obtain ⟨a2, c2, rfl⟩ := Kind.slice hsv
            obtain ⟨a3, c3, rfl⟩ := Kind.slice hsu
            have HSU := hide hsu
            have HF3 := hide f3
            have hbl : r.body.length ≤ 5 := f2
            have hjp : j < 16 := by omega
            clear hcl hr hsv hsu f3 f2 hBw
            have HS1 := hide (HS.out.later ((Later.refl wr).alloc (.cells #[.bool r.head.no, .string (bs r.head.name), .slice a2 r.head.terms.length c2, .slice a3 r.body.length c3] 43)))
            have HZ1 : Hid ((wr.alloc (.cells #[.bool r.head.no, .string (bs r.head.name), .slice a2 r.head.terms.length c2, .slice a3 r.body.length c3] 43)).cell? ⟨wr.heap.size, 1, none⟩ = some (.string (bs r.head.name))) := by show _ = _; simp
            have hR1 : wr.heap.size < (wr.alloc (.cells #[.bool r.head.no, .string (bs r.head.name), .slice a2 r.head.terms.length c2, .slice a3 r.body.length c3] 43)).heap.size := by simp
            generalize hnm : bs r.head.name = nm at *
            have HNM := hide hnm
            clear hnm
            generalize r.head.no = no at *
            generalize hR : wr.heap.size = R at *
            clear HS
            go_wp2
            go_loopg [65] r.body.length (fun k i wr2 => ∃ q : Nat, q + k = r.body.length ∧ i = .int .i64 q ∧ ∃ y : Rel × Rel, Hid (edgeRule (hdOf hs) s r = (r.body.drop q).foldl (edgeAtom (hdOf hs) r.head.name) y) ∧ Hid (St w5 (10 * j + 2 * q) y wr2) ∧ R < wr2.heap.size ∧ wr2.cell? ⟨R, 1, none⟩ = some (.string nm))
            case atStart =>
              refine ⟨0, by omega, rfl, s, (rfl : _ = _), ?_, ?_, ?_⟩
              · first | exact HS1 | (subst hR; exact HS1)
              · first | exact hR1 | (subst hR; exact hR1)
              · first | exact HZ1.out | (subst hR; exact HZ1.out)
            case round =>
              obtain ⟨q, hq, rfl, y, HE2, HSy, hRs, z1⟩ := hrel
              clear HS1 HZ1 hR1 d0 d1 d2 d3
              by_cases hlq : q < r.body.length
              · obtain ⟨a, ha⟩ : ∃ x, r.body[q]? = some x := ⟨_, List.getElem?_eq_getElem hlq⟩
                obtain ⟨b2, o2, _, rfl, hb2, ⟨tv, rfl, htv⟩, hcl⟩ := Kind.sl_at HSU.out ha
                have hBw : Below w.heap.size w wr := below_trans HH.out.below HSy.out.below HH.out.below.size
                have d0 : wr.cell? ⟨b2, o2 + q * 3, none⟩ = some (.bool a.no) := by rw [hBw.cell hb2]; exact hcl 0 _ rfl
                have d1 : wr.cell? ⟨b2, o2 + q * 3 + 1, none⟩ = some (.string (bs a.name)) := by rw [hBw.cell hb2]; exact hcl 1 _ rfl
                have d2 : wr.cell? ⟨b2, o2 + q * 3 + 2, none⟩ = some tv := by rw [hBw.cell hb2]; exact hcl 2 _ rfl
                have hbr2 : b2 < wr.heap.size := by have := hBw.size; omega
                have hst := foldl_drop ha (edgeAtom (hdOf hs) r.head.name) y
                have hal := HF3.out a (List.mem_of_getElem? ha)
                obtain ⟨a4, c4, rfl⟩ := Kind.slice htv
                have HSA := hide (HSy.out.later ((Later.refl wr).alloc (.cells #[.bool a.no, .string (bs a.name), .slice a4 a.terms.length c4] 40)))
                have hHA := HH.out.below' HSA.out.below
                have HHd := hide (headC hs _ G a.name _ hHA.box hHA.hs)
                clear hHA hcl ha htv hBw
                cases hh : hdOf hs a.name
                · have E4 : Hid (edgeRule (hdOf hs) s r = (r.body.drop (q + 1)).foldl (edgeAtom (hdOf hs) r.head.name) y) := by
                    show _ = _
                    rw [HE2.out, hst]; unfold edgeAtom; rw [hh]; rfl
                  rw [hh] at HHd
                  clear hst HE2 hh
                  generalize bs a.name = na at *
                  generalize a.no = an at *
                  go_wp2_with fail
                  refine HHd.out.mono ?_
                  rintro e w' ⟨rfl, rfl⟩
                  go_wp2
                  go_roundg (r.body.length - (q + 1))
                  case measure => omega
                  case rel => exact ⟨q + 1, by omega, by go_num, y, E4, HSA.out.mono (by omega), by simp; omega, by rw [((Later.refl wr).alloc _).cell (p := ⟨R, 1, none⟩) hRs]; exact z1⟩
                · obtain ⟨w3, hup, hS3, hP3⟩ := HSA.out.put1 (by simp [maxLen]; omega) f1 hal
                  have hs5 := HSy.out.m2.lt
                  have hR2 : w5.heap.size + 2 ≤ R := by omega
                  have u1 : w3.cell? ⟨R, 1, none⟩ = some (.string nm) := by
                    rw [hP3.cell (x := ⟨R, 1, none⟩) (by show _ ≤ R; omega) (by simp; omega), ((Later.refl wr).alloc _).cell (p := ⟨R, 1, none⟩) hRs]; exact z1
                  have u2 : w3.cell? ⟨wr.heap.size, 0, none⟩ = some (.bool a.no) := by
                    rw [hP3.cell (x := ⟨wr.heap.size, 0, none⟩) (by show _ ≤ wr.heap.size; omega) (by simp)]; simp
                  have u3 : w3.cell? ⟨wr.heap.size, 1, none⟩ = some (.string (bs a.name)) := by
                    rw [hP3.cell (x := ⟨wr.heap.size, 1, none⟩) (by show _ ≤ wr.heap.size; omega) (by simp)]; simp
                  have u4 : R < w3.heap.size := by have := hP3.1; simp at this; omega
                  rw [HNM.out] at hup
                  rw [hh] at HHd
                  cases han : a.no
                  · have E4 : Hid (edgeRule (hdOf hs) s r = (r.body.drop (q + 1)).foldl (edgeAtom (hdOf hs) r.head.name) (y.1.put r.head.name a.name, y.2)) := by
                      show _ = _
                      rw [HE2.out, hst]; unfold edgeAtom; rw [hh, han]; rfl
                    have HU := hide hup
                    have HS3 := hide hS3
                    rw [han] at HHd u2 HU d0
                    clear hst HE2 hh han hP3 hS3 hup HSA HSy
                    generalize bs a.name = na at *
                    go_wp2_with fail
                    refine HHd.out.mono ?_
                    rintro e w' ⟨rfl, rfl⟩
                    go_wp2_with (first
                      | (at_mapUpdate; refine wpList_run_update _ rfl _ _ _ _ rfl _ _ _ _ rfl rfl rfl HU.out ?_)
                      | go_in)
                    go_roundg (r.body.length - (q + 1))
                    case measure => omega
                    case rel => exact ⟨q + 1, by omega, by go_num, _, E4, HS3.out.mono (by omega), u4, u1⟩
                  · have E4 : Hid (edgeRule (hdOf hs) s r = (r.body.drop (q + 1)).foldl (edgeAtom (hdOf hs) r.head.name) (y.1.put r.head.name a.name, y.2.put r.head.name a.name)) := by
                      show _ = _
                      rw [HE2.out, hst]; unfold edgeAtom; rw [hh, han]; rfl
                    obtain ⟨w4, hup4, hS4, hP4⟩ := hS3.put2 (by simp [maxLen]; omega) f1 hal
                    have v1 : w4.cell? ⟨R, 1, none⟩ = some (.string nm) := by
                      rw [hP4.cell (x := ⟨R, 1, none⟩) (by show _ ≤ R; omega) u4]; exact u1
                    have v4 : R < w4.heap.size := by have := hP4.1; omega
                    rw [HNM.out] at hup4
                    have HU := hide hup
                    have HU4 := hide hup4
                    have HS4 := hide hS4
                    rw [han] at HHd u2 HU d0
                    clear hst HE2 hh han hP3 hS3 hup hup4 hS4 hP4 HSA HSy
                    generalize bs a.name = na at *
                    go_wp2_with fail
                    refine HHd.out.mono ?_
                    rintro e w' ⟨rfl, rfl⟩
                    go_wp2_with (first
                      | (at_mapUpdate; refine wpList_run_update _ rfl _ _ _ _ rfl _ _ _ _ rfl rfl rfl HU.out ?_)
                      | (at_mapUpdate; refine wpList_run_update _ rfl _ _ _ _ rfl _ _ _ _ rfl rfl rfl HU4.out ?_)
                      | go_in)
                    go_roundg (r.body.length - (q + 1))
                    case measure => omega
                    case rel => exact ⟨q + 1, by omega, by go_num, _, E4, HS4.out.mono (by omega), v4, v1⟩
              · have E4 : Hid (EA = edgeAll (hdOf hs) y (p.drop (j + 1))) := by
                  show _ = _
                  have e3 : edgeRule (hdOf hs) s r = y := by rw [HE2.out, List.drop_eq_nil_of_le (by omega)]; rfl
                  rw [HE.out, HSt.out, e3]
                have hl6 : w5.heap.size + 2 ≤ wr.heap.size := by have := HSy.out.m2.lt; omega
                go_wp2
                go_roundg (p.length - (j + 1))
                case measure => omega
                case rel => exact ⟨j + 1, by omega, by go_num, y, E4, HSy.out.mono (by omega), hl6⟩
          · have E2 : Hid (EA = s) := by show _ = _; rw [HE.out, List.drop_eq_nil_of_le (by omega)]; rfl
            have HS2 : Hid (St w5 160 EA wr) := by show St _ _ _ _; rw [E2.out]; exact HS.out.mono (by omega)
            clear HE HS E2 HE0
            have gx := (HH.out.below' HS2.out.below).box
            have hgl := (HH.out.below' HS2.out.below).lt
            go_wp2
            go_loopg [93] p.length (fun k i wr => ∃ j : Nat, j + k = p.length ∧ i = .int .i64 j ∧ ∃ s, Hid (FW = fwK hs (hs.drop j) s) ∧ Hid (St w5 (160 + 512 * j) s wr))
            case atStart => exact ⟨0, by omega, rfl, EA, HFW, HS2⟩
            case round =>
              obtain ⟨j, hj, rfl, s, HE, HS⟩ := hrel
              clear HS2 gx hgl
              have hHw := HH.out.below' HS.out.below
              have gx := hHw.box
              have hgl := hHw.lt
              by_cases hlt : j < p.length
              · obtain ⟨kk, hkk⟩ : ∃ x, hs[j]? = some x := ⟨_, List.getElem?_eq_getElem (by have := HHL.out; omega)⟩
                obtain ⟨b1, o1, _, rfl, hb1, rfl, hc⟩ := Kind.sl_at hHw.hs hkk
                have d0 : wr.cell? ⟨b1, o1 + j, none⟩ = some (.string (bs kk)) := by simpa [strK] using hc 0 _ rfl
                have hkl := HHs.out kk (List.mem_of_getElem? hkk)
                have HST := hide (foldl_drop hkk (fun s k => fwA hs k s) s)
                clear hHw hc hkk
                have hjp : j < 16 := by omega
                generalize hbk : bs kk = bk at *
                have HBK := hide hbk
                clear hbk
                go_wp2
                go_loopg [99] p.length (fun k i wr => ∃ q : Nat, q + k = p.length ∧ i = .int .i64 q ∧ ∃ y, Hid (fwA hs kk s = (hs.drop q).foldl (fun s a => fwB hs kk a s) y) ∧ Hid (St w5 (160 + 512 * j + 32 * q) y wr))
                case atStart => exact ⟨0, by omega, rfl, s, (rfl : _ = _), HS⟩
                case round =>
                  obtain ⟨q, hq, rfl, y, HE2, HSy⟩ := hrel
                  clear HS gx hgl d0 hb1
                  have hHw := HH.out.below' HSy.out.below
                  have gx := hHw.box
                  have hgl := hHw.lt
                  by_cases hlq : q < p.length
                  · obtain ⟨aa, haa⟩ : ∃ x, hs[q]? = some x := ⟨_, List.getElem?_eq_getElem (by have := HHL.out; omega)⟩
                    obtain ⟨b2, o2, _, hbe, hb1, rfl, hc⟩ := Kind.sl_at hHw.hs haa
                    simp only [Option.some.injEq, Addr.mk.injEq, and_true] at hbe
                    obtain ⟨rfl, rfl⟩ := hbe
                    have d0 : wr.cell? ⟨b1, o1 + q, none⟩ = some (.string (bs aa)) := by simpa [strK] using hc 0 _ rfl
                    have hal := HHs.out aa (List.mem_of_getElem? haa)
                    have HST2 := hide (foldl_drop haa (fun s a => fwB hs kk a s) y)
                    clear hHw hc haa
                    generalize hba : bs aa = ba at *
                    have HBA := hide hba
                    clear hba
                    go_wp2
                    go_loopg [105] p.length (fun k i wr => ∃ t : Nat, t + k = p.length ∧ i = .int .i64 t ∧ ∃ z, Hid (fwB hs kk aa y = (hs.drop t).foldl (fun s b => fwStep kk aa b s) z) ∧ Hid (St w5 (160 + 512 * j + 32 * q + 2 * t) z wr))
                    case atStart => exact ⟨0, by omega, rfl, y, (rfl : _ = _), HSy⟩
                    case round =>
                      obtain ⟨t, ht, rfl, z, HE3, HSz⟩ := hrel
                      clear HSy gx hgl d0 hb1
                      have hHw := HH.out.below' HSz.out.below
                      by_cases hlt3 : t < p.length
                      · obtain ⟨bb, hbb⟩ : ∃ x, hs[t]? = some x := ⟨_, List.getElem?_eq_getElem (by have := HHL.out; omega)⟩
                        obtain ⟨b2, o2, _, hbe, hb1, rfl, hc⟩ := Kind.sl_at hHw.hs hbb
                        simp only [Option.some.injEq, Addr.mk.injEq, and_true] at hbe
                        obtain ⟨rfl, rfl⟩ := hbe
                        have d0 : wr.cell? ⟨b1, o1 + t, none⟩ = some (.string (bs bb)) := by simpa [strK] using hc 0 _ rfl
                        have hbl := HHs.out bb (List.mem_of_getElem? hbb)
                        have hst := foldl_drop hbb (fun s b => fwStep kk aa b s) z
                        clear hHw hc hbb
                        generalize hbz : bs bb = bz at *
                        have hW := ((Later.refl wr).alloc (.cells #[.string ba, .string bk] 79)).alloc (.cells #[.string bk, .string bz] 79)
                        have HSW := hide (HSz.out.later hW)
                        have l1 := HSW.out.look1 hal hkl
                        have l2 := HSW.out.look1 hkl hbl
                        rw [HBA.out, HBK.out] at l1
                        rw [hbz, HBK.out] at l2
                        have hm2 := HSz.out.m2.lt
                        clear hW HSz
                        cases h1 : z.1 aa kk
                        · have E4 : Hid (fwB hs kk aa y = (hs.drop (t + 1)).foldl (fun s b => fwStep kk aa b s) z) := by
                            show _ = _
                            rw [HE3.out, hst]; unfold fwStep; rw [h1]; rfl
                          rw [h1] at l1
                          clear hst HE3 h1 l2 hbz
                          go_wp2
                          go_roundg (p.length - (t + 1))
                          case measure => omega
                          case rel => exact ⟨t + 1, by omega, by go_num, z, E4, HSW.out.mono (by omega)⟩
                        · cases h2 : z.1 kk bb
                          · have E4 : Hid (fwB hs kk aa y = (hs.drop (t + 1)).foldl (fun s b => fwStep kk aa b s) z) := by
                              show _ = _
                              rw [HE3.out, hst]; unfold fwStep; rw [h1, h2]; rfl
                            rw [h1] at l1
                            rw [h2] at l2
                            clear hst HE3 h1 h2 hbz
                            go_wp2
                            go_roundg (p.length - (t + 1))
                            case measure => omega
                            case rel => exact ⟨t + 1, by omega, by go_num, z, E4, HSW.out.mono (by omega)⟩
                          · obtain ⟨w3, hup, hS3, hP3⟩ := HSW.out.put1 (by simp [maxLen]; omega) hal hbl
                            have l3 := hS3.look2 hal hkl
                            have l4 := hS3.look2 hkl hbl
                            dsimp only at l3 l4
                            have u0 : w3.cell? ⟨wr.heap.size, 0, none⟩ = some (.string ba) := by
                              rw [hP3.cell (x := ⟨wr.heap.size, 0, none⟩) (by show _ ≤ wr.heap.size; omega) (by simp; omega)]; simp
                            have u1 : w3.cell? ⟨wr.heap.size, 1, none⟩ = some (.string bk) := by
                              rw [hP3.cell (x := ⟨wr.heap.size, 1, none⟩) (by show _ ≤ wr.heap.size; omega) (by simp; omega)]; simp
                            have u2 : w3.cell? ⟨wr.heap.size + 1, 0, none⟩ = some (.string bk) := by
                              rw [hP3.cell (x := ⟨wr.heap.size + 1, 0, none⟩) (by show _ ≤ wr.heap.size + 1; omega) (by simp)]; simp
                            have u3 : w3.cell? ⟨wr.heap.size + 1, 1, none⟩ = some (.string bz) := by
                              rw [hP3.cell (x := ⟨wr.heap.size + 1, 1, none⟩) (by show _ ≤ wr.heap.size + 1; omega) (by simp)]; simp
                            rw [h1] at l1
                            rw [h2] at l2
                            rw [HBA.out, HBK.out] at l3
                            rw [hbz, HBK.out] at l4
                            rw [hbz, HBA.out] at hup
                            have HU := hide hup
                            cases h3 : (z.2 aa kk || z.2 kk bb)
                            · have E4 : Hid (fwB hs kk aa y = (hs.drop (t + 1)).foldl (fun s b => fwStep kk aa b s) (z.1.put aa bb, z.2)) := by
                                show _ = _
                                rw [HE3.out, hst]; unfold fwStep; rw [h1, h2, h3]; rfl
                              have HS3 := hide hS3
                              rw [Bool.or_eq_false_iff] at h3
                              rw [h3.1] at l3
                              rw [h3.2] at l4
                              clear hst HE3 h1 h2 h3 hbz hup hS3 hP3
                              go_wp2_with (first
                                | (at_mapUpdate; refine wpList_run_update _ rfl _ _ _ _ rfl _ _ _ _ rfl rfl rfl HU.out ?_)
                                | go_in)
                              go_roundg (p.length - (t + 1))
                              case measure => omega
                              case rel => exact ⟨t + 1, by omega, by go_num, _, E4, HS3.out.mono (by omega)⟩
                            · have E4 : Hid (fwB hs kk aa y = (hs.drop (t + 1)).foldl (fun s b => fwStep kk aa b s) (z.1.put aa bb, z.2.put aa bb)) := by
                                show _ = _
                                rw [HE3.out, hst]; unfold fwStep; rw [h1, h2, h3]; rfl
                              obtain ⟨w4, hup4, hS4, hP4⟩ := hS3.put2 (by simp [maxLen]; omega) hal hbl
                              rw [hbz, HBA.out] at hup4
                              have HU4 := hide hup4
                              have HS4 := hide hS4
                              clear hst HE3 h1 h2 hbz hup hS3 hP3 hup4 hS4 hP4
                              cases h4 : z.2 aa kk
                              · rw [h4, Bool.false_or] at h3
                                rw [h4] at l3
                                rw [h3] at l4
                                clear h3 h4
                                go_wp2_with (first
                                  | (at_mapUpdate; refine wpList_run_update _ rfl _ _ _ _ rfl _ _ _ _ rfl rfl rfl HU.out ?_)
                                  | (at_mapUpdate; refine wpList_run_update _ rfl _ _ _ _ rfl _ _ _ _ rfl rfl rfl HU4.out ?_)
                                  | go_in)
                                go_roundg (p.length - (t + 1))
                                case measure => omega
                                case rel => exact ⟨t + 1, by omega, by go_num, _, E4, HS4.out.mono (by omega)⟩
                              · rw [h4] at l3
                                clear h3 h4 l4
                                go_wp2_with (first
                                  | (at_mapUpdate; refine wpList_run_update _ rfl _ _ _ _ rfl _ _ _ _ rfl rfl rfl HU.out ?_)
                                  | (at_mapUpdate; refine wpList_run_update _ rfl _ _ _ _ rfl _ _ _ _ rfl rfl rfl HU4.out ?_)
                                  | go_in)
                                go_roundg (p.length - (t + 1))
                                case measure => omega
                                case rel => exact ⟨t + 1, by omega, by go_num, _, E4, HS4.out.mono (by omega)⟩
                      · have E4 : Hid (fwA hs kk s = (hs.drop (q + 1)).foldl (fun s a => fwB hs kk a s) z) := by
                          show _ = _
                          have e3 : fwB hs kk aa y = z := by rw [HE3.out, List.drop_eq_nil_of_le (by have := HHL.out; omega)]; rfl
                          rw [HE2.out, HST2.out]; show (hs.drop (q + 1)).foldl _ (fwB hs kk aa y) = _; rw [e3]
                        clear hHw
                        go_wp2
                        go_roundg (p.length - (q + 1))
                        case measure => omega
                        case rel => exact ⟨q + 1, by omega, by go_num, z, E4, HSz.out.mono (by omega)⟩
                  · have E4 : Hid (FW = fwK hs (hs.drop (j + 1)) y) := by
                      show _ = _
                      have e3 : fwA hs kk s = y := by rw [HE2.out, List.drop_eq_nil_of_le (by have := HHL.out; omega)]; rfl
                      have e4 : fwK hs (hs.drop j) s = (hs.drop (j + 1)).foldl (fun s k => fwA hs k s) (fwA hs kk s) := HST.out
                      rw [HE.out, e4, e3]; rfl
                    clear hHw
                    go_wp2
                    go_roundg (p.length - (j + 1))
                    case measure => omega
                    case rel => exact ⟨j + 1, by omega, by go_num, y, E4, HSy.out.mono (by omega)⟩
              · have E2 : Hid (FW = s) := by show _ = _; rw [HE.out, List.drop_eq_nil_of_le (by have := HHL.out; omega)]; rfl
                have HS7 : Hid (St w5 9000 FW wr) := by show St _ _ _ _; rw [E2.out]; exact HS.out.mono (by omega)
                clear HE HS E2 HFW hHw
                have HH7 := hide (HH.out.below' HS7.out.below)
                generalize hw7 : wr = w7 at *
                clear hw7
                go_wp2
                go_loopg [144] p.length (fun k i wr => ∃ j : Nat, j + k = p.length ∧ i = .int .i64 j ∧ Hid (∀ a ∈ hs.take j, FW.2 a a = false) ∧ wr = w7)
                case atStart => exact ⟨0, by omega, rfl, (fun a ha => by simp at ha), rfl⟩
                case round =>
                  obtain ⟨j, hj, rfl, HN, hwe⟩ := hrel
                  subst hwe
                  by_cases hlt : j < p.length
                  · obtain ⟨aa, haa⟩ : ∃ x, hs[j]? = some x := ⟨_, List.getElem?_eq_getElem (by have := HHL.out; omega)⟩
                    obtain ⟨b1, o1, _, rfl, hb1, rfl, hc⟩ := Kind.sl_at HH7.out.hs haa
                    have d0 : wr.cell? ⟨b1, o1 + j, none⟩ = some (.string (bs aa)) := by simpa [strK] using hc 0 _ rfl
                    have hal := HHs.out aa (List.mem_of_getElem? haa)
                    have l1 := HS7.out.look2 hal hal
                    clear hc
                    cases h1 : FW.2 aa aa
                    · have HN2 : Hid (∀ a ∈ hs.take (j + 1), FW.2 a a = false) := by
                        intro a ha
                        rw [List.take_add_one, haa] at ha
                        rcases List.mem_append.1 ha with h | h
                        · exact HN.out a h
                        · simp at h; rw [h]; exact h1
                      rw [h1] at l1
                      clear haa h1 HN
                      generalize bs aa = ba at *
                      go_wp2
                      go_roundg (p.length - (j + 1))
                      case measure => omega
                      case rel => exact ⟨j + 1, by omega, by go_num, HN2, rfl⟩
                    · have F2 : Hid (strataP p = ([], 10, 0)) := HNo.out aa (List.mem_of_getElem? haa) h1
                      rw [h1] at l1
                      have hR6 := HH7.out.row
                      have q0 : wr.cell? ⟨w.heap.size, 0, none⟩ = some (.int .i64 0) := (by rw [cell_of_row _ _ _ _ _ _ hR6]; rfl); have q1 : wr.cell? ⟨w.heap.size, 1, none⟩ = some (.int .i64 0) := (by rw [cell_of_row _ _ _ _ _ _ hR6]; rfl); have p0 : wr.frozen? ⟨w.heap.size, 0, none⟩ = false := frozen_rowC 0 hR6; have p1 : wr.frozen? ⟨w.heap.size, 1, none⟩ = false := frozen_rowC 1 hR6
                      clear hR6 haa h1 HN
                      generalize bs aa = ba at *
                      go_wp2
                      obtain ⟨r0, r1⟩ := fault_two HH7.out.row (.int .i64 10) (.int .i64 0)
                      refine bodyPost_ret (v := .tuple #[.slice none 0 0, .agg #[.int .i64 10, .int .i64 0]]) (by simp [results, Tryz.results15, go_sem, r0, r1]) rfl ⟨.slice none 0 0, by rw [F2.out]; rfl, by rw [F2.out]; exact intK.sl_nil _ _ _ _, ?_⟩
                      exact (HH7.out.below.setCell (Nat.le_refl _) _).setCell (Nat.le_refl _) _
                  · have F2 := hide (HYes.out fun a ha => HN.out a (by rw [List.take_of_length_le (by have := HHL.out; omega)]; exact ha))
                    clear HN HNo HYes HS7
                    generalize hw7 : wr = w7 at *
                    clear hw7
                    generalize hL : levs (hdOf hs) p (p.length + 1) (fun _ => 0) = L at *
                    have HL := hide hL
                    clear hL
                    have gx := HH7.out.box
                    have hgl := HH7.out.lt
                    go_wp2
                    go_loopg [159] (p.length + 1) (fun k i wr => ∃ t : Nat, t + k = p.length + 1 ∧ i = .int .i64 t ∧ ∃ m, Hid (L = levs (hdOf hs) p k (numOf m)) ∧ Hid (NumsM wr w7.heap.size (80 * t) m) ∧ Hid (∀ s, numOf m s ≤ 80 * t) ∧ Hid (Below w7.heap.size w7 wr))
                    case atStart => exact ⟨0, by omega, rfl, fun _ => none, HL.out.symm, NumM.made Tryz.prog 9 3 w7, (fun s => Nat.le_refl _), ((Later.refl w7).alloc _).below⟩
                    case round =>
                      obtain ⟨t, ht, rfl, m, HE, HM, HC, HB⟩ := hrel
                      clear gx hgl
                      by_cases hlt : t < p.length + 1
                      · obtain ⟨k, rfl⟩ : ∃ k', gk = k' + 1 := ⟨p.length - t, by omega⟩
                        have HE1 : Hid (L = levs (hdOf hs) p k (levAll (hdOf hs) p (numOf m))) := HE
                        have htz : (t : Int) < (p.length : Int) + 1 := by omega
                        clear HE
                        go_wp2
                        go_loopg [163] p.length (fun k i wr => ∃ j : Nat, j + k = p.length ∧ i = .int .i64 j ∧ ∃ m2, Hid (levAll (hdOf hs) p (numOf m) = (p.drop j).foldl (levRule (hdOf hs)) (numOf m2)) ∧ Hid (NumsM wr w7.heap.size (80 * t + 5 * j) m2) ∧ Hid (∀ s, numOf m2 s ≤ 80 * t + 5 * j) ∧ Hid (Below w7.heap.size w7 wr))
                        case atStart => exact ⟨0, by omega, rfl, m, (rfl : _ = _), HM, HC, HB⟩
                        case round =>
                          obtain ⟨j, hj, rfl, m2, HE2, HM2, HC2, HB2⟩ := hrel
                          clear HM HC HB
                          by_cases hltj : j < p.length
                          · obtain ⟨r, hr⟩ : ∃ x, p[j]? = some x := ⟨_, List.getElem?_eq_getElem hltj⟩
                            obtain ⟨b1, o1, _, rfl, hb1, ⟨sv, su, rfl, hsv, hsu⟩, hcl⟩ := Kind.sl_at HV.out hr
                            have hBw : Below w.heap.size w wr := below_trans HH7.out.below HB2.out HH7.out.below.size
                            have d0 : wr.cell? ⟨b1, o1 + j * 4, none⟩ = some (.bool r.head.no) := by rw [hBw.cell hb1]; exact hcl 0 _ rfl
                            have d1 : wr.cell? ⟨b1, o1 + j * 4 + 1, none⟩ = some (.string (bs r.head.name)) := by rw [hBw.cell hb1]; exact hcl 1 _ rfl
                            have d2 : wr.cell? ⟨b1, o1 + j * 4 + 2, none⟩ = some sv := by rw [hBw.cell hb1]; exact hcl 2 _ rfl
                            have d3 : wr.cell? ⟨b1, o1 + j * 4 + 3, none⟩ = some su := by rw [hBw.cell hb1]; exact hcl 3 _ rfl
                            have hbr : b1 < wr.heap.size := by have := hBw.size; omega
                            obtain ⟨f1, f2, f3⟩ := HFi.out r (List.mem_of_getElem? hr)
                            have HSt := hide (foldl_drop hr (levRule (hdOf hs)) (numOf m2))
                            obtain ⟨a2, c2, rfl⟩ := Kind.slice hsv
                            obtain ⟨a3, c3, rfl⟩ := Kind.slice hsu
                            have HSU := hide hsu
                            have HF3 := hide f3
                            have hbl : r.body.length ≤ 5 := f2
                            have hjp : j < 16 := by omega
                            clear hcl hr hsv hsu f3 f2 hBw
                            have HM3 := hide (HM2.out.later ((Later.refl wr).alloc (.cells #[.bool r.head.no, .string (bs r.head.name), .slice a2 r.head.terms.length c2, .slice a3 r.body.length c3] 43)))
                            have HB3 := hide (HB2.out.alloc HB2.out.size (.cells #[.bool r.head.no, .string (bs r.head.name), .slice a2 r.head.terms.length c2, .slice a3 r.body.length c3] 43))
                            have HZ1 : Hid ((wr.alloc (.cells #[.bool r.head.no, .string (bs r.head.name), .slice a2 r.head.terms.length c2, .slice a3 r.body.length c3] 43)).cell? ⟨wr.heap.size, 1, none⟩ = some (.string (bs r.head.name))) := by show _ = _; simp
                            have hR1 : wr.heap.size < (wr.alloc (.cells #[.bool r.head.no, .string (bs r.head.name), .slice a2 r.head.terms.length c2, .slice a3 r.body.length c3] 43)).heap.size := by simp
                            have hRM : w7.heap.size < wr.heap.size := HM2.out.lt
                            generalize hnm : bs r.head.name = nm at *
                            have HNM := hide hnm
                            clear hnm
                            generalize r.head.no = no at *
                            generalize hR : wr.heap.size = R at *
                            clear HM2 HB2
                            go_wp2
                            go_loopg [170] r.body.length (fun k i wr2 => ∃ q : Nat, q + k = r.body.length ∧ i = .int .i64 q ∧ ∃ m3, Hid (levRule (hdOf hs) (numOf m2) r = (r.body.drop q).foldl (levAtom (hdOf hs) r.head.name) (numOf m3)) ∧ Hid (NumsM wr2 w7.heap.size (80 * t + 5 * j + q) m3) ∧ Hid (∀ s, numOf m3 s ≤ 80 * t + 5 * j + q) ∧ Hid (Below w7.heap.size w7 wr2) ∧ R < wr2.heap.size ∧ wr2.cell? ⟨R, 1, none⟩ = some (.string nm))
                            case atStart =>
                              refine ⟨0, by omega, rfl, m2, (rfl : _ = _), ?_, HC2, ?_, ?_, ?_⟩
                              · first | exact HM3 | (subst hR; exact HM3)
                              · first | exact HB3 | (subst hR; exact HB3)
                              · first | exact hR1 | (subst hR; exact hR1)
                              · first | exact HZ1.out | (subst hR; exact HZ1.out)
                            case round =>
                              obtain ⟨q, hq, rfl, m3, HE3, HM4, HC4, HB4, hRs, z1⟩ := hrel
                              clear HM3 HB3 HZ1 hR1 d0 d1 d2 d3
                              by_cases hlq : q < r.body.length
                              · obtain ⟨a, ha⟩ : ∃ x, r.body[q]? = some x := ⟨_, List.getElem?_eq_getElem hlq⟩
                                obtain ⟨b2, o2, _, rfl, hb2, ⟨tv, rfl, htv⟩, hcl⟩ := Kind.sl_at HSU.out ha
                                have hBw : Below w.heap.size w wr := below_trans HH7.out.below HB4.out HH7.out.below.size
                                have d0 : wr.cell? ⟨b2, o2 + q * 3, none⟩ = some (.bool a.no) := by rw [hBw.cell hb2]; exact hcl 0 _ rfl
                                have d1 : wr.cell? ⟨b2, o2 + q * 3 + 1, none⟩ = some (.string (bs a.name)) := by rw [hBw.cell hb2]; exact hcl 1 _ rfl
                                have d2 : wr.cell? ⟨b2, o2 + q * 3 + 2, none⟩ = some tv := by rw [hBw.cell hb2]; exact hcl 2 _ rfl
                                have hbr2 : b2 < wr.heap.size := by have := hBw.size; omega
                                have hst := foldl_drop ha (levAtom (hdOf hs) r.head.name) (numOf m3)
                                have hal := HF3.out a (List.mem_of_getElem? ha)
                                obtain ⟨a4, c4, rfl⟩ := Kind.slice htv
                                have hLA := (Later.refl wr).alloc (.cells #[.bool a.no, .string (bs a.name), .slice a4 a.terms.length c4] 40)
                                have HMA := hide (HM4.out.later hLA)
                                have HBA := hide (below_trans HB4.out hLA.below HB4.out.size)
                                have hHA := HH7.out.below' HBA.out
                                have HHd := hide (headC hs _ G a.name _ hHA.box hHA.hs)
                                have l1 := NumM.look (T := 64) HMA.out Tryz.underlying9 Tryz.underlying3 Tryz.underlying64 (zeroInt _) hal
                                have l2 := NumM.look (T := 64) HMA.out Tryz.underlying9 Tryz.underlying3 Tryz.underlying64 (zeroInt _) f1
                                rw [HNM.out] at l2
                                clear hHA hcl ha htv hBw
                                have c1 := HC4.out a.name
                                have c2' := HC4.out r.head.name
                                obtain ⟨nn, hnn⟩ : ∃ nn, nn = (if a.no && hdOf hs a.name then numOf m3 a.name + 1 else numOf m3 a.name) := ⟨_, rfl⟩
                                have hnle : nn ≤ 80 * t + 5 * j + q + 1 := by rw [hnn]; split <;> omega
                                obtain ⟨w4, hup, hM5, hg5⟩ := NumM.store (T := 64) HMA.out Tryz.underlying9 Tryz.underlying3 Tryz.underlying64 (by simp [maxLen]; omega) f1 (x := max (numOf m3 r.head.name) nn) (wf_len (by omega))
                                rw [HNM.out] at hup
                                have E4 : Hid (levRule (hdOf hs) (numOf m2) r = (r.body.drop (q + 1)).foldl (levAtom (hdOf hs) r.head.name) (numOf (m3.put r.head.name (max (numOf m3 r.head.name) nn)))) := by
                                  show _ = _
                                  rw [HE3.out, hst]
                                  congr 1
                                  funext s
                                  rw [numOf_put]; unfold levAtom; rw [← hnn]
                                have HM5 := hide hM5
                                have HC5 : Hid (∀ s, numOf (m3.put r.head.name (max (numOf m3 r.head.name) nn)) s ≤ 80 * t + 5 * j + (q + 1)) := by
                                  intro s
                                  have := HC4.out s
                                  rw [numOf_put]; split <;> omega
                                have hT5 := Tn.of_grown hg5
                                have HB5 : Hid (Below w7.heap.size w7 w4) := below_trans HBA.out (hT5.below (n := w7.heap.size) (Nat.le_refl _) HBA.out.size) (Nat.le_refl _)
                                have u4 : R < w4.heap.size := by have := hT5.size; simp at this; omega
                                have u1 : w4.cell? ⟨R, 1, none⟩ = some (.string nm) := by
                                  rw [hT5.cell (x := ⟨R, 1, none⟩) (by simp; omega) (by show R ≠ _; omega), hLA.cell (p := ⟨R, 1, none⟩) hRs]; exact z1
                                generalize hn5 : m3.put r.head.name (max (numOf m3 r.head.name) nn) = m5 at *
                                clear hn5 hM5 hg5 hT5 hLA hst HE3 HM4 HC4 HB4
                                cases han : a.no
                                · have hv : nn = numOf m3 a.name := by rw [hnn, han]; rfl
                                  subst hv
                                  rw [han] at l1 l2 hup d0
                                  clear hnn han HHd
                                  generalize bs a.name = na at *
                                  generalize numOf m3 a.name = ln at *
                                  generalize numOf m3 r.head.name = lh at *
                                  by_cases hlm : lh < ln
                                  · have hmx : (((max lh ln : Nat)) : Int) = (ln : Int) := by omega
                                    have hmz : max (lh : Int) (ln : Int) = (ln : Int) := by omega
                                    rw [hmx] at hup
                                    have HU := hide hup
                                    clear hup hmx
                                    go_wp2_with (first
                                      | (at_mapUpdate; refine wpList_run_update _ rfl _ _ _ _ rfl _ _ _ _ rfl rfl rfl HU.out ?_)
                                      | go_in)
                                    go_roundg (r.body.length - (q + 1))
                                    case measure => omega
                                    case rel => exact ⟨q + 1, by omega, by go_num, m5, E4, HM5, HC5, HB5, u4, u1⟩
                                  · have hmx : (((max lh ln : Nat)) : Int) = (lh : Int) := by omega
                                    have hmz : max (lh : Int) (ln : Int) = (lh : Int) := by omega
                                    rw [hmx] at hup
                                    have HU := hide hup
                                    clear hup hmx
                                    go_wp2_with (first
                                      | (at_mapUpdate; refine wpList_run_update _ rfl _ _ _ _ rfl _ _ _ _ rfl rfl rfl HU.out ?_)
                                      | go_in)
                                    go_roundg (r.body.length - (q + 1))
                                    case measure => omega
                                    case rel => exact ⟨q + 1, by omega, by go_num, m5, E4, HM5, HC5, HB5, u4, u1⟩
                                · cases hh : hdOf hs a.name
                                  · have hv : nn = numOf m3 a.name := by rw [hnn, han, hh]; rfl
                                    subst hv
                                    rw [hh] at HHd
                                    rw [han] at l1 l2 hup d0 HHd
                                    clear hnn han hh
                                    generalize bs a.name = na at *
                                    generalize numOf m3 a.name = ln at *
                                    generalize numOf m3 r.head.name = lh at *
                                    by_cases hlm : lh < ln
                                    · have hmx : (((max lh ln : Nat)) : Int) = (ln : Int) := by omega
                                      have hmz : max (lh : Int) (ln : Int) = (ln : Int) := by omega
                                      rw [hmx] at hup
                                      have HU := hide hup
                                      clear hup hmx
                                      go_wp2_with fail
                                      refine HHd.out.mono ?_
                                      rintro e w' ⟨rfl, rfl⟩
                                      go_wp2_with (first
                                        | (at_mapUpdate; refine wpList_run_update _ rfl _ _ _ _ rfl _ _ _ _ rfl rfl rfl HU.out ?_)
                                        | go_in)
                                      go_roundg (r.body.length - (q + 1))
                                      case measure => omega
                                      case rel => exact ⟨q + 1, by omega, by go_num, m5, E4, HM5, HC5, HB5, u4, u1⟩
                                    · have hmx : (((max lh ln : Nat)) : Int) = (lh : Int) := by omega
                                      have hmz : max (lh : Int) (ln : Int) = (lh : Int) := by omega
                                      rw [hmx] at hup
                                      have HU := hide hup
                                      clear hup hmx
                                      go_wp2_with fail
                                      refine HHd.out.mono ?_
                                      rintro e w' ⟨rfl, rfl⟩
                                      go_wp2_with (first
                                        | (at_mapUpdate; refine wpList_run_update _ rfl _ _ _ _ rfl _ _ _ _ rfl rfl rfl HU.out ?_)
                                        | go_in)
                                      go_roundg (r.body.length - (q + 1))
                                      case measure => omega
                                      case rel => exact ⟨q + 1, by omega, by go_num, m5, E4, HM5, HC5, HB5, u4, u1⟩
                                  · have hv : nn = numOf m3 a.name + 1 := by rw [hnn, han, hh]; rfl
                                    subst hv
                                    rw [hh] at HHd
                                    rw [han] at l1 l2 hup d0 HHd
                                    clear hnn han hh
                                    generalize bs a.name = na at *
                                    generalize numOf m3 a.name = ln at *
                                    generalize numOf m3 r.head.name = lh at *
                                    by_cases hlm : lh < ln + 1
                                    · have hmx : (((max lh (ln + 1) : Nat)) : Int) = (ln : Int) + 1 := by omega
                                      have hmz : max (lh : Int) ((ln : Int) + 1) = (ln : Int) + 1 := by omega
                                      have hlz : (lh : Int) < (ln : Int) + 1 := by omega
                                      rw [hmx] at hup
                                      have HU := hide hup
                                      clear hup hmx
                                      go_wp2_with fail
                                      refine HHd.out.mono ?_
                                      rintro e w' ⟨rfl, rfl⟩
                                      go_wp2_with (first
                                        | (at_mapUpdate; refine wpList_run_update _ rfl _ _ _ _ rfl _ _ _ _ rfl rfl rfl HU.out ?_)
                                        | go_in)
                                      go_roundg (r.body.length - (q + 1))
                                      case measure => omega
                                      case rel => exact ⟨q + 1, by omega, by go_num, m5, E4, HM5, HC5, HB5, u4, u1⟩
                                    · have hmx : (((max lh (ln + 1) : Nat)) : Int) = (lh : Int) := by omega
                                      have hmz : max (lh : Int) ((ln : Int) + 1) = (lh : Int) := by omega
                                      have hlz : ¬ (lh : Int) < (ln : Int) + 1 := by omega
                                      rw [hmx] at hup
                                      have HU := hide hup
                                      clear hup hmx
                                      go_wp2_with fail
                                      refine HHd.out.mono ?_
                                      rintro e w' ⟨rfl, rfl⟩
                                      go_wp2_with (first
                                        | (at_mapUpdate; refine wpList_run_update _ rfl _ _ _ _ rfl _ _ _ _ rfl rfl rfl HU.out ?_)
                                        | go_in)
                                      go_roundg (r.body.length - (q + 1))
                                      case measure => omega
                                      case rel => exact ⟨q + 1, by omega, by go_num, m5, E4, HM5, HC5, HB5, u4, u1⟩
                              · have E4 : Hid (levAll (hdOf hs) p (numOf m) = (p.drop (j + 1)).foldl (levRule (hdOf hs)) (numOf m3)) := by
                                  show _ = _
                                  have e3 : levRule (hdOf hs) (numOf m2) r = numOf m3 := by rw [HE3.out, List.drop_eq_nil_of_le (by omega)]; rfl
                                  rw [HE2.out, HSt.out, e3]
                                go_wp2
                                go_roundg (p.length - (j + 1))
                                case measure => omega
                                case rel => exact ⟨j + 1, by omega, by go_num, m3, E4, HM4.out.mono (by omega), fun s => by have := HC4.out s; omega, HB4⟩
                          · have E4 : Hid (L = levs (hdOf hs) p k (numOf m2)) := by
                              show _ = _
                              have e3 : levAll (hdOf hs) p (numOf m) = numOf m2 := by rw [HE2.out, List.drop_eq_nil_of_le (by omega)]; rfl
                              rw [HE1.out, e3]
                            go_wp2
                            go_roundg k
                            case measure => omega
                            case rel => exact ⟨t + 1, by omega, by go_num, m2, E4, HM2.out.mono (by omega), fun s => by have := HC2.out s; omega, HB2⟩
                      · obtain rfl : gk = 0 := by omega
                        have htz : ¬ (t : Int) < (p.length : Int) + 1 := by omega
                        have HE0 : Hid (L = numOf m) := HE
                        have HH8 := hide (HH7.out.below' HB.out)
                        clear HE HC HB HH7
                        subst HE0
                        have HM8 := hide HM.out
                        generalize hw8 : wr = w8 at *
                        clear hw8 HM
                        go_wp2
                        go_loopg [31, 204] p.length (fun k o i wr => ∃ j : Nat, j + k = p.length ∧ i = .int .i64 j ∧ Hid (intK.own 3 w8.heap.size wr o (each m (p.take j))) ∧ Hid (Below w8.heap.size w8 wr))
                        case atStart => exact ⟨0, by omega, rfl, intK.own_nil _ _ _, Below.refl _ _⟩
                        case round =>
                          obtain ⟨j, hj, rfl, HO, HB⟩ := hrel
                          obtain ⟨ao2, co2, rfl⟩ := Kind.own_slice HO.out
                          have hwr := HB.out.size
                          have hm8 := HM8.out.lt
                          by_cases hlt : j < p.length
                          · obtain ⟨r, hr⟩ : ∃ x, p[j]? = some x := ⟨_, List.getElem?_eq_getElem hlt⟩
                            obtain ⟨b1, o1, _, rfl, hb1, ⟨sv, su, rfl, hsv, hsu⟩, hcl⟩ := Kind.sl_at HV.out hr
                            have hBw : Below w.heap.size w wr := below_trans HH8.out.below HB.out HH8.out.below.size
                            have d0 : wr.cell? ⟨b1, o1 + j * 4, none⟩ = some (.bool r.head.no) := by rw [hBw.cell hb1]; exact hcl 0 _ rfl
                            have d1 : wr.cell? ⟨b1, o1 + j * 4 + 1, none⟩ = some (.string (bs r.head.name)) := by rw [hBw.cell hb1]; exact hcl 1 _ rfl
                            have d2 : wr.cell? ⟨b1, o1 + j * 4 + 2, none⟩ = some sv := by rw [hBw.cell hb1]; exact hcl 2 _ rfl
                            have d3 : wr.cell? ⟨b1, o1 + j * 4 + 3, none⟩ = some su := by rw [hBw.cell hb1]; exact hcl 3 _ rfl
                            have hbr : b1 < wr.heap.size := by have := hBw.size; omega
                            have E := hide (each_step hr m)
                            have hlen : (each m (p.take j)).length = j := by simp [each]; omega
                            have f1 := (HFi.out r (List.mem_of_getElem? hr)).1
                            have hlk := hide (NumM.look (T := 64) ((HM8.out.below HB.out).later ((Later.refl wr).alloc (.cells #[.bool r.head.no, .string (bs r.head.name), sv, su] 43))) Tryz.underlying9 Tryz.underlying3 Tryz.underlying64 (zeroInt _) f1)
                            have hOA := Kind.own_turned HO.out ((Tn.refl w7.heap.size wr).alloc (.cells #[.bool r.head.no, .string (bs r.head.name), sv, su] 43)) hm8
                            obtain ⟨v', w4, hrun, o4, g4⟩ := appendIntC hOA (x := numOf m r.head.name) (by rw [hlen]; omega) (by simp; omega)
                            have HO4 : Hid (intK.own 3 w8.heap.size w4 v' (each m (p.take (j + 1)))) := by show intK.own _ _ _ _ _; rw [E.out]; exact o4
                            have HB4 : Hid (Below w8.heap.size w8 w4) := by
                              refine below_trans ((HB.out.alloc hwr _).alloc (by simp; omega) _) ⟨g4.os, g4.tape, g4.output, g4.size, fun k hk => g4.block k (by simp; omega) (fun e => ?_)⟩ (Nat.le_refl _)
                              have := (Kind.own_lt hOA e.symm).1
                              omega
                            rw [hlen] at hrun
                            simp only [World.size_alloc] at hrun
                            replace hrun := hide hrun
                            rw [hlen]
                            obtain ⟨a2, c2, rfl⟩ := Kind.slice hsv
                            obtain ⟨a3, c3, rfl⟩ := Kind.slice hsu
                            clear hcl hr hsv hsu hOA o4 g4 HO HB E f1 hBw
                            clear hlen
                            generalize numOf m r.head.name = nu at *
                            generalize bs r.head.name = nm at *
                            generalize r.head.no = no at *
                            go_wp2_with (first
                              | (at_lookup; refine wpList_run_lookup _ rfl _ _ _ _ rfl _ _ _ rfl rfl (unhide hlk) ?_)
                              | (at_builtin; refine wpList_append_run rfl (.tmp 208) (.tmp 214) 33 rfl _ _ _ _ rfl rfl (unhide hrun) ?_)
                              | go_in)
                            go_roundg (p.length - (j + 1))
                            case measure => omega
                            case rel => exact ⟨j + 1, by omega, by go_num, HO4, HB4⟩
                          · have e : j = p.length := by omega
                            subst e
                            have hO := HO.out
                            rw [List.take_length] at hO ⊢
                            have HU8 := hide (Kind.own_sl hO (by simp [each]; omega))
                            have HH9 := hide (HH8.out.below' HB.out)
                            have hR6 := HH9.out.row
                            have hw8 := HH8.out.lo
                            have q0 : wr.cell? ⟨w.heap.size, 0, none⟩ = some (.int .i64 0) := (by rw [cell_of_row _ _ _ _ _ _ hR6]; rfl); have q1 : wr.cell? ⟨w.heap.size, 1, none⟩ = some (.int .i64 0) := (by rw [cell_of_row _ _ _ _ _ _ hR6]; rfl); have p0 : wr.frozen? ⟨w.heap.size, 0, none⟩ = false := frozen_rowC 0 hR6; have p1 : wr.frozen? ⟨w.heap.size, 1, none⟩ = false := frozen_rowC 1 hR6
                            have F3 : Hid (strataP p = (each m p, 0, 0)) := F2.out
                            clear hR6 hO HO HB F2
                            generalize (each m p).length = ne at *
                            go_wp2
                            obtain ⟨r0, r1⟩ := fault_two HH9.out.row (.int .i64 0) (.int .i64 0)
                            refine bodyPost_ret (v := .tuple #[.slice ao2 ne co2, .agg #[.int .i64 0, .int .i64 0]]) (by simp [results, Tryz.results15, go_sem, r0, r1]) rfl ⟨.slice ao2 ne co2, by rw [F3.out]; rfl, ?_, ?_⟩
                            · rw [F3.out]
                              exact Kind.sl_mono (Kind.sl_setCell (Kind.sl_setCell HU8.out hw8 _) hw8 _) fun k _ hk => by have : w8.heap.size ≤ k := hk; show w.heap.size ≤ k; omega
                            · exact (HH9.out.below.setCell (Nat.le_refl _) _).setCell (Nat.le_refl _) _
  · have F : Hid (strataP p = ([], ex, ea)) := by show _ = _; unfold strataP; rw [hwp, if_neg h0]
    have hq : (ex != 0) = true := by simpa using h0
    clear h0 hwp HV
    go_enter Tryz.func15, Tryz.ntmps15
    go_wp2_with (go_at_call 9; refine HW.out.mono ?_; rintro e w2 ⟨rfl, hB2, hR2, hs2⟩; have q0 : w2.cell? ⟨w.heap.size, 0, none⟩ = some (.int .i64 0) := (by rw [cell_of_row _ _ _ _ _ _ hR2]; rfl); have q1 : w2.cell? ⟨w.heap.size, 1, none⟩ = some (.int .i64 0) := (by rw [cell_of_row _ _ _ _ _ _ hR2]; rfl); have p0 : w2.frozen? ⟨w.heap.size, 0, none⟩ = false := frozen_rowC 0 hR2; have p1 : w2.frozen? ⟨w.heap.size, 1, none⟩ = false := frozen_rowC 1 hR2; replace hR2 := hide hR2)
    go_region
    go_wp2
    obtain ⟨r0, r1⟩ := fault_two (unhide hR2) (.int .i64 ex) (.int .i64 (ea : Int))
    have hL := ((Later.refl ((w2.setCell ⟨w.heap.size, 0, none⟩ (.int .i64 ex)).setCell ⟨w.heap.size, 1, none⟩ (.int .i64 (ea : Int)))).alloc (.cells #[.int .i64 ex, .int .i64 (ea : Int)] 27)).drew
    rw [← hL.cell (p := ⟨w.heap.size, 0, none⟩) (by simp only [size_setCell]; exact hs2)] at r0
    rw [← hL.cell (p := ⟨w.heap.size, 1, none⟩) (by simp only [size_setCell]; exact hs2)] at r1
    refine bodyPost_ret (v := .tuple #[.slice none 0 0, .agg #[.int .i64 ex, .int .i64 (ea : Int)]]) (by simp [results, Tryz.results15, go_sem, r0, r1]) rfl ⟨.slice none 0 0, by rw [F.out], by rw [F.out]; exact intK.sl_nil _ _ _ _, ?_⟩
    exact below_trans ((hB2.out.setCell (Nat.le_refl _) _).setCell (Nat.le_refl _) _) hL.below (by simp only [size_setCell]; exact Nat.le_of_lt hs2)

end Go.Proofs.YtbohggoeebhdmaaGreatDoor

/- The walk of naive.All. -/
namespace Go.Proofs.YtbohggoeebhdmaaGreatDoor
open Go.RowKit Go.Sort Go.Maps

/-- No stratum is as high as there are rules. -/
theorem lev_small {p : List RuleD} {m : Nums} (hl : Least p m) (hs : Sol p (numOf m)) : ∀ r ∈ p, numOf m r.head.name < p.length := by
  have key : ∀ k, (∃ r ∈ p, k ≤ numOf m r.head.name) → k ≤ (p.map fun r => if numOf m r.head.name < k then 1 else 0).sum := by
    intro k
    induction k with
    | zero => intro _; exact Nat.zero_le _
    | succ k ih =>
      rintro ⟨r, hr, hk⟩
      have h1 := ih ⟨r, hr, by omega⟩
      obtain ⟨q, hq, hqk⟩ : ∃ q ∈ p, numOf m q.head.name = k := by
        refine Classical.byContradiction fun hn => ?_
        have := no_gap hl hs k (fun q hq e => hn ⟨q, hq, e⟩) r hr
        omega
      have h2 : (p.map fun r => if numOf m r.head.name < k then 1 else 0).sum < (p.map fun r => if numOf m r.head.name < k + 1 then 1 else 0).sum := by
        refine sum_lt (fun x _ => ?_) ⟨q, hq, ?_⟩
        · split
          · rw [if_pos (by omega)]; exact Nat.le_refl _
          · exact Nat.zero_le _
        · rw [if_neg (by omega), if_pos (by omega)]; exact Nat.one_pos
      omega
  intro r hr
  have h1 := key _ ⟨r, hr, Nat.le_refl _⟩
  have h2 : (p.map fun q => if numOf m q.head.name < numOf m r.head.name then 1 else 0).sum < (p.map fun _ => 1).sum := by
    refine sum_lt (fun x _ => ?_) ⟨r, hr, ?_⟩
    · split <;> omega
    · rw [if_neg (by omega)]; exact Nat.one_pos
  have h3 : (p.map fun _ => 1).sum = p.length := by
    clear h1 h2 key hr hl hs
    induction p with
    | nil => rfl
    | cons a p ih => simp only [List.map_cons, List.sum_cons, List.length_cons, ih]; omega
  omega

theorem below_drewN {n : Nat} {a b : World} (h : Below n a b) (q : Nat) : Below n a (b.drewN q) := ⟨h.os, h.tape, h.output, h.size, h.block⟩

/-- What All tells. -/
def allP (p : List RuleD) (l : List FactB) : Int × List FactB :=
  if (strataP p).2.1 ≠ 0 then ((strataP p).2.1, []) else if (factsP p l).1 ≠ 0 then ((factsP p l).1, []) else runGo p (strataP p).1 (countP (strataP p).1) 0 l

set_option maxRecDepth 100000 in
set_option maxHeartbeats 4000000 in
theorem naiveAllC (p : List RuleD) (l : List FactB) (pv fv : Value) (w : World) (hv : ruleK.sl Anyw w pv p) (hf : Facts w fv l) :
    Calls Tryz.prog 12 #[pv, fv] w fun e w' => ∃ v' er, e = .returned (.tuple #[v', .int .i64 er]) ∧ OnceT w' v' er (allP p l) ∧ Below w.heap.size w w' := by
  have HSt := hide (strataC p pv w hv)
  obtain ⟨pa, pc, rfl⟩ := Kind.slice hv
  obtain ⟨fa, fc, rfl⟩ := sliceFacts hf
  have HV := hide hv
  have HF := hide hf
  clear hv hf
  obtain ⟨ss, ex, ea, hse⟩ : ∃ ss ex ea, strataP p = (ss, ex, ea) := ⟨_, _, _, rfl⟩
  rw [hse] at HSt
  have HSE := hide hse
  clear hse
  go_enter Tryz.func12, Tryz.ntmps12
  go_wp2_with fail
  refine HSt.out.mono ?_
  rintro e w1 ⟨u, rfl, hu, hB1⟩
  dsimp only at hu ⊢
  have HU : Hid (intK.sl Anyw w1 u ss) := Kind.sl_mono hu fun _ _ _ => trivial
  obtain ⟨ua, uc, rfl⟩ := Kind.slice hu
  have HB1 := hide hB1
  clear hu hB1 HSt
  by_cases h0 : ex = 0
  · subst h0
    obtain ⟨hw0, m, hms, hdm, hlm, hsm⟩ := strataP_ok HSE.out
    have hp := rightP_iff.1 hw0
    have hsm1 : ∀ s ∈ ss, s < 1000 := fun s hs => by
      rw [hms] at hs
      obtain ⟨r, hr, rfl⟩ := List.mem_map.1 hs
      have := lev_small hlm hsm r hr
      have := hp.few
      omega
    have hcs : countP ss ≤ 1000 := countP_le hsm1
    have HMS : Hid (ss = p.map fun r => numOf m r.head.name) := hms
    have HRP := hide hp
    obtain ⟨w2, hw2⟩ : ∃ w2, w2 = w1.alloc (.cells #[.int .i64 0, .int .i64 (ea : Nat)] 27) := ⟨_, rfl⟩
    have hL2 : Later w1 w2 := by rw [hw2]; exact (Later.refl _).alloc _
    have hB2 : Below w.heap.size w w2 := below_trans HB1.out hL2.below HB1.out.size
    have HFC := hide (naiveFactsC p hp (.slice pa p.length pc) (.slice fa l.length fc) l w2 (Kind.sl_below HV.out hB2) (HF.out.below hB2))
    obtain ⟨fx, fe, hfe⟩ : ∃ fx fe, factsP p l = (fx, fe) := ⟨_, _, rfl⟩
    rw [hfe] at HFC
    have HFE := hide hfe
    have HB2 := hide hB2
    have HU2 := hide (Kind.sl_later HU.out hL2)
    have HSm := hide hsm1
    have HW2 := hide hw2
    clear hw0 hms hdm hlm hsm hp hsm1 hL2 hB2 hfe hw2 HB1 HU
    go_wp2_with fail
    rw [← HW2.out]
    refine HFC.out.mono ?_
    rintro e w3 ⟨rfl, hB3⟩
    dsimp only
    have HB3 : Hid (Below w.heap.size w w3) := below_trans HB2.out hB3 HB2.out.size
    have HU3 := hide (Kind.sl_below HU2.out hB3)
    clear hB3 HFC HW2 HB2 HU2
    by_cases h1 : fx = 0
    · subst h1
      have hgood : GoodS p l := facts_good (by rw [HFE.out])
      have HX : Hid (allP p l = runGo p ss (countP ss) 0 l) := by show _ = _; unfold allP; rw [HSE.out, HFE.out]; simp
      obtain ⟨w4, hw4⟩ : ∃ w4, w4 = w3.alloc (.cells #[.int .i64 0, .int .i64 fe] 27) := ⟨_, rfl⟩
      have hL4 : Later w3 w4 := by rw [hw4]; exact (Later.refl _).alloc _
      have hB4 : Below w.heap.size w w4 := below_trans HB3.out hL4.below HB3.out.size
      have HOw := hide (ownC (.slice fa l.length fc) l w4 (HF.out.below hB4))
      have HB4 := hide hB4
      have HU4 := hide (Kind.sl_later HU3.out hL4)
      have HG := hide hgood
      have hfew := hgood.few
      have HW4 := hide hw4
      clear hgood hL4 hB4 hw4 HB3 HU3 HSE HFE
      go_wp2_with fail
      rw [← HW4.out]
      refine HOw.out.mono ?_
      rintro e w5 ⟨v5, rfl, hO5, hL5⟩
      have HF5 : Hid (Facts w5 v5 l) := hO5.facts (by omega)
      have HB5 : Hid (Below w.heap.size w w5) := below_trans HB4.out hL5.below HB4.out.size
      have HU5 := hide (Kind.sl_later HU4.out hL5)
      have HCn := hide (countC ss (.slice ua ss.length uc) w5 HU5.out HSm.out)
      obtain ⟨a5, c5, rfl⟩ := sliceFacts HF5.out
      clear hO5 hL5 HOw HW4 HB4 HU4
      go_wp2_with fail
      refine HCn.out.mono ?_
      rintro e w6 ⟨rfl, hL6⟩
      have HF6 : Hid (Facts w6 (.slice a5 l.length c5) l) := HF5.out.later hL6
      have HB6 : Hid (Below w.heap.size w w6) := below_trans HB5.out hL6.below HB5.out.size
      have HU6 := hide (Kind.sl_later HU5.out hL6)
      have HBw6 : Hid (Below w6.heap.size w6 w6) := Below.refl _ _
      clear hL6 HCn HF5 HB5 HU5
      generalize hc : countP ss = c at *
      have HCC := hide hc
      clear hc
      go_wp2
      go_loopg [9, 34] c (fun g v9 i wr => ∃ j k : Nat, k = g ∧ j + k = c ∧ i = .int .i64 j ∧ ∃ L, Hid (Facts wr v9 L) ∧ Hid (GoodS p L) ∧ Hid (Below w6.heap.size w6 wr) ∧ Hid (allP p l = runGo p ss k j L))
      case atStart => exact ⟨0, c, rfl, by omega, rfl, l, HF6, HG, HBw6, HX⟩
      case round =>
        clear HF6 HG HBw6 HX
        obtain ⟨j, k, hkg, hj, rfl, L, HFr, HG, HBr, HX⟩ := hrel
        have hBwr : Below w.heap.size w wr := below_trans HB6.out HBr.out HB6.out.size
        by_cases hlt : j < c
        · obtain ⟨k', rfl⟩ : ∃ k', k = k' + 1 := ⟨k - 1, by omega⟩
          have hltz : (j : Int) < (c : Int) := by omega
          have hUr := Kind.sl_below HU6.out HBr.out
          obtain ⟨va, vc, hva⟩ := sliceFacts HFr.out
          subst hva
          have hOC := overC p HRP.out (fun r => numOf m r.head.name) j L (.slice pa p.length pc) (.slice ua ss.length uc) (.slice va L.length vc) wr (Kind.sl_below HV.out hBwr) (by rw [← HMS.out]; exact hUr) HFr.out HG.out
          rw [← HMS.out] at hOC
          have HOC := hide hOC
          obtain ⟨er, S, hS⟩ : ∃ er S, overGo p ss (j : Int) 201 L = (er, S) := ⟨_, _, rfl⟩
          rw [hS] at HOC
          have hX : allP p l = if er ≠ 0 then (er, []) else runGo p ss k' (j + 1) S := by rw [HX.out, runGo, hS]
          have HXX := hide hX
          have HBwr := hide hBwr
          clear hUr hOC hS hX HX hBwr
          go_wp2_with fail
          refine HOC.out.mono ?_
          rintro e w7 ⟨v7, er', rfl, ⟨her, hT1, hT2⟩, hG7, hB7⟩
          dsimp only at her hT1 hT2 hG7 ⊢
          have her' := her.symm
          clear her
          subst her'
          have HB7 : Hid (Below w.heap.size w w7) := below_trans HBwr.out hB7 HBwr.out.size
          have HB67 : Hid (Below w6.heap.size w6 w7) := below_trans HBr.out hB7 HBr.out.size
          clear HOC hB7
          by_cases he : er = 0
          · subst he
            have HF7 := hide (hT2 rfl)
            have HG7 := hide (hG7 rfl)
            have HX7 : Hid (allP p l = runGo p ss k' (j + 1) S) := by show _ = _; rw [HXX.out, if_neg (by simp)]
            obtain ⟨a7, c7, rfl⟩ := sliceFacts HF7.out
            clear hT1 hT2 hG7 HXX
            go_wp2
            go_roundg k'
            case measure => omega
            case rel => exact ⟨j + 1, k', rfl, by omega, by go_num, S, HF7, HG7, HB67, HX7⟩
          · have e2 := hT1 he
            subst e2
            have HT : Hid (∀ w', OnceT w' (.slice none 0 0) er (allP p l)) := fun w' => by rw [HXX.out, if_pos he]; exact ⟨rfl, fun _ => rfl, fun h => absurd h he⟩
            have hne : (er != 0) = true := by simpa using he
            clear hT1 hT2 hG7 HXX
            go_wp2
            exact bodyPost_ret (v := .tuple #[.slice none 0 0, .int .i64 er]) (by simp [results, Tryz.results12, go_sem]) rfl ⟨_, er, rfl, HT.out _, HB7.out⟩
        · have hk0 : k = 0 := by omega
          have HBwr := hide hBwr
          obtain ⟨va, vc, hva⟩ := sliceFacts HFr.out
          subst hva
          have HT : Hid (OnceT wr (.slice va L.length vc) 0 (allP p l)) := by
            show OnceT wr _ 0 (allP p l)
            rw [HX.out, hk0]; exact ⟨rfl, fun h => absurd rfl h, fun _ => HFr.out⟩
          clear hBwr HX
          go_wp2
          exact bodyPost_ret (v := .tuple #[.slice va L.length vc, .int .i64 0]) (by simp [results, Tryz.results12, go_sem]) rfl ⟨_, 0, rfl, HT.out, HBwr.out⟩
    · have HT : Hid (∀ w', OnceT w' (.slice none 0 0) fx (allP p l)) := fun w' => by unfold allP; rw [HSE.out, HFE.out]; simp only [ne_eq, not_true_eq_false, if_false, h1, not_false_eq_true, if_true]; exact ⟨rfl, fun _ => rfl, fun h => absurd h h1⟩
      have hne : (fx != 0) = true := by simpa using h1
      have HB4 : Hid (Below w.heap.size w (w3.alloc (.cells #[.int .i64 fx, .int .i64 fe] 27))) := below_trans HB3.out ((Later.refl _).alloc _).below HB3.out.size
      clear HSE HFE h1 HV HF HU3
      go_wp2
      go_quiet (fail)
      go_wp2
      exact bodyPost_ret (v := .tuple #[.slice none 0 0, .int .i64 fx]) (by simp [results, Tryz.results12, go_sem]) rfl ⟨_, fx, rfl, HT.out _, below_drewN HB4.out _⟩
  · have HT : Hid (∀ w', OnceT w' (.slice none 0 0) ex (allP p l)) := fun w' => by unfold allP; rw [HSE.out]; simp only [ne_eq, h0, not_false_eq_true, if_true]; exact ⟨rfl, fun _ => rfl, fun h => absurd h h0⟩
    have hne : (ex != 0) = true := by simpa using h0
    have HB4 : Hid (Below w.heap.size w (w1.alloc (.cells #[.int .i64 ex, .int .i64 (ea : Nat)] 27))) := below_trans HB1.out ((Later.refl _).alloc _).below HB1.out.size
    clear HSE h0 HV HF HU
    go_wp2
    go_quiet (fail)
    go_wp2
    exact bodyPost_ret (v := .tuple #[.slice none 0 0, .int .i64 ex]) (by simp [results, Tryz.results12, go_sem]) rfl ⟨_, ex, rfl, HT.out _, below_drewN HB4.out _⟩

end Go.Proofs.YtbohggoeebhdmaaGreatDoor

/- The reference's Rounds and All. -/
namespace Go.Proofs.YtbohggoeebhdmaaGreatDoor
open Go.RowKit Go.Sort Go.Maps

/-- What is left to come, behind so many strata and rounds. -/
def contR (p : List RuleD) (ss : List Nat) (C n k : Nat) (now : List FactB) : Int × List FactB :=
  if n < C then (if (overGo p ss n k now).1 ≠ 0 then ((overGo p ss n k now).1, []) else runGo p ss (C - n - 1) (n + 1) (overGo p ss n k now).2) else (0, now)

theorem cont_start {p : List RuleD} {ss : List Nat} {C n : Nat} {x : List FactB} (h : n ≤ C) : runGo p ss (C - n) n x = contR p ss C n 201 x := by
  unfold contR
  by_cases e : n < C
  · rw [if_pos e, show C - n = (C - n - 1) + 1 by omega]
    rfl
  · rw [if_neg e, show C - n = 0 by omega]
    rfl

theorem cont_step {p : List RuleD} {ss : List Nat} {C n k : Nat} {now : List FactB} (h : n < C) : contR p ss C n (k + 1) now =
    if (onceP p ss n now).1 ≠ 0 then ((onceP p ss n now).1, []) else if (onceP p ss n now).2.length = now.length then contR p ss C (n + 1) 201 (onceP p ss n now).2 else contR p ss C n k (onceP p ss n now).2 := by
  by_cases h1 : (onceP p ss n now).1 ≠ 0
  · rw [if_pos h1]
    unfold contR
    rw [if_pos h]
    have e : overGo p ss n (k + 1) now = ((onceP p ss n now).1, []) := by rw [overGo, if_pos h1]
    rw [e, if_pos h1]
  · rw [if_neg h1]
    by_cases h2 : (onceP p ss n now).2.length = now.length
    · rw [if_pos h2, ← cont_start (by omega)]
      have e : overGo p ss n (k + 1) now = (0, (onceP p ss n now).2) := by rw [overGo, if_neg h1, if_pos h2]
      unfold contR
      rw [if_pos h, e, if_neg (by simp), show C - (n + 1) = C - n - 1 by omega]
    · rw [if_neg h2]
      have e : overGo p ss n (k + 1) now = overGo p ss n k (onceP p ss n now).2 := by rw [overGo, if_neg h1, if_neg h2]
      unfold contR
      rw [if_pos h, if_pos h, e]

/-- What Rounds tells: its last list is what All tells. -/
def RoundsT (w : World) (v : Value) (er : Int) (a : Int × List FactB) : Prop :=
  er = a.1 ∧ (a.1 ≠ 0 → v = .slice none 0 0) ∧ (a.1 = 0 → ∃ g n cap u, v = .slice (some ⟨g, 0, none⟩) (n + 1) cap ∧ n ≤ 1000000 ∧ g < w.heap.size ∧ w.cell? ⟨g, n, none⟩ = some u ∧ Facts w u a.2)

theorem RowS.last {lo : Nat} {w : World} {v : Value} {xs : List Value} {u : Value} (h : RowS lo w v (xs ++ [u])) : ∃ g cap, v = .slice (some ⟨g, 0, none⟩) (xs.length + 1) cap ∧ lo ≤ g ∧ g < w.heap.size ∧ w.cell? ⟨g, xs.length, none⟩ = some u := by
  obtain ⟨g, cap, cur, e, h1, h2, h3, h4, h5, h6, _⟩ := h
  refine ⟨g, cap, by rw [e]; simp, h1, (Array.getElem?_eq_some_iff.1 h2).1, ?_⟩
  rw [cell_of_row _ _ _ _ _ _ h2, ← Array.getElem?_toList]
  have : (cur.toList.take (xs ++ [u]).length)[xs.length]? = some u := by rw [h6]; simp
  rw [List.getElem?_take] at this
  split at this
  · exact this
  · cases this

set_option maxRecDepth 100000 in
set_option maxHeartbeats 1000000 in
theorem rRounds (p : List RuleD) (l : List FactB) (pv fv : Value) (w : World) (hp : ruleK.sl Anyw w pv p) (hf : Facts w fv l) (hlg : ∀ r ∈ p, longR r) (hok : ∀ k, okF (l.getD k noFact)) :
    Calls Tryz.prog 42 #[pv, fv] w fun e w' => ∃ v er, e = .returned (.tuple #[v, .int .i64 er]) ∧ RoundsT w' v er (allP p l) ∧ Below w.heap.size w w' := by
  have HSt := hide (rStrata p pv w hp hlg)
  obtain ⟨pa, pc, rfl⟩ := Kind.slice hp
  obtain ⟨fa, fc, rfl⟩ := sliceFacts hf
  have HV := hide hp
  have HF := hide hf
  have HOk := hide hok
  clear hp hf hlg hok
  obtain ⟨ss, ex, ea, hse⟩ : ∃ ss ex ea, strataP p = (ss, ex, ea) := ⟨_, _, _, rfl⟩
  rw [hse] at HSt
  have HSE := hide hse
  clear hse
  go_enter Tryz.func42, Tryz.ntmps42
  go_wp2_with fail
  refine HSt.out.mono ?_
  rintro e w1 ⟨u, rfl, hu, hB1⟩
  dsimp only at hu ⊢
  have HU : Hid (intK.sl Anyw w1 u ss) := Kind.sl_any hu
  obtain ⟨ua, uc, rfl⟩ := Kind.slice hu
  have HB1 := hide hB1
  clear hu hB1 HSt
  by_cases h0 : ex = 0
  · subst h0
    obtain ⟨hw0, m, hms, hdm, hlm, hsm⟩ := strataP_ok HSE.out
    have hpR := rightP_iff.1 hw0
    have hsm1 : ∀ s ∈ ss, s < 1000 := fun s hs => by
      rw [hms] at hs
      obtain ⟨r, hr, rfl⟩ := List.mem_map.1 hs
      have := lev_small hlm hsm r hr
      have := hpR.few
      omega
    have hcs : countP ss ≤ 1000 := countP_le hsm1
    have HMS : Hid (ss = p.map fun r => numOf m r.head.name) := hms
    have HRP := hide hpR
    obtain ⟨w2, hw2⟩ : ∃ w2, w2 = w1.alloc (.cells #[.int .i64 0, .int .i64 (ea : Nat)] 27) := ⟨_, rfl⟩
    have hL2 : Later w1 w2 := by rw [hw2]; exact (Later.refl _).alloc _
    have hB2 : Below w.heap.size w w2 := below_trans HB1.out hL2.below HB1.out.size
    have HFC := hide (rFacts p l (.slice pa p.length pc) (.slice fa l.length fc) w2 (Kind.sl_below HV.out hB2) (HF.out.below hB2) hpR HOk.out)
    obtain ⟨fx, fe, hfe⟩ : ∃ fx fe, factsP p l = (fx, fe) := ⟨_, _, rfl⟩
    rw [hfe] at HFC
    have HFE := hide hfe
    have HB2 := hide hB2
    have HU2 := hide (Kind.sl_later HU.out hL2)
    have HSm := hide hsm1
    have HW2 := hide hw2
    clear hw0 hms hdm hlm hsm hpR hsm1 hL2 hB2 hfe hw2 HB1 HU
    go_wp2_with fail
    rw [← HW2.out]
    refine HFC.out.mono ?_
    rintro e w3 ⟨rfl, hB3⟩
    dsimp only
    have HB3 : Hid (Below w.heap.size w w3) := below_trans HB2.out hB3 HB2.out.size
    have HU3 := hide (Kind.sl_below HU2.out hB3)
    clear hB3 HFC HW2 HB2 HU2
    by_cases h1 : fx = 0
    · subst h1
      have hgood : GoodS p l := facts_good (by rw [HFE.out])
      have HX : Hid (allP p l = contR p ss (countP ss) 0 201 l) := by
        show _ = _
        rw [← cont_start (Nat.zero_le _), Nat.sub_zero]
        unfold allP; rw [HSE.out, HFE.out]; simp
      obtain ⟨w4, hw4⟩ : ∃ w4, w4 = w3.alloc (.cells #[.int .i64 0, .int .i64 fe] 27) := ⟨_, rfl⟩
      have hL4 : Later w3 w4 := by rw [hw4]; exact (Later.refl _).alloc _
      obtain ⟨w5, hw5⟩ : ∃ w5, w5 = w4.alloc (.cells #[.slice fa l.length fc] 24) := ⟨_, rfl⟩
      have hL5 : Later w4 w5 := by rw [hw5]; exact (Later.refl _).alloc _
      have hB5 : Below w.heap.size w w5 := below_trans HB3.out (hL4.trans hL5).below HB3.out.size
      have hr5 : w5.heap[w4.heap.size]? = some (.cells #[.slice fa l.length fc] 24 (0, 0)) := by rw [hw5]; exact heap_alloc_new w4 _
      have HR0 : Hid (RowS w.heap.size w5 (.slice (some ⟨w4.heap.size, 0, none⟩) 1 1) ([] ++ [.slice fa l.length fc])) :=
        ⟨w4.heap.size, 1, _, rfl, Nat.le_trans HB3.out.size hL4.size, hr5, by simp, by simp [maxLen], by simp, by simp, fun u hu => by simp at hu; subst hu; exact ⟨_, _, _, rfl⟩⟩
      have HF5 := hide (HF.out.below hB5)
      have HU5 := hide (Kind.sl_later HU3.out (hL4.trans hL5))
      have HB5 := hide hB5
      have hs4 : w4.heap.size = w3.heap.size + 1 := by rw [hw4]; simp
      have HG := hide hgood
      have hfew := hgood.few
      rw [hw4] at hw5
      have HW5 := hide hw5
      rw [hs4] at HR0
      clear hgood hL4 hL5 hB5 hr5 hw4 hw5 HB3 HU3 HSE HFE hs4
      generalize hc : countP ss = C at *
      have HCn := hide hc
      clear hc
      go_wp2
      rw [← HW5.out]
      go_loopg [9, 10] (C * 202 + 201) (fun g o i wr => ∃ (gg n k : Nat) (now : List FactB) (xs : List Value) (u : Value), gg = g ∧ n ≤ C ∧ i = .int .i64 n ∧ Hid (RowS w.heap.size wr o (xs ++ [u])) ∧ Hid (Facts wr u now) ∧ Hid (GoodS p now) ∧ (C - n) * 202 + (200 - now.length) ≤ gg ∧ xs.length + gg ≤ C * 202 + 201 ∧ 200 < now.length + k ∧ Hid (allP p l = contR p ss C n k now) ∧ Hid (Below w.heap.size w wr) ∧ Hid (intK.sl Anyw wr (.slice ua ss.length uc) ss))
      case atStart => exact ⟨_, 0, 201, l, [], _, rfl, by omega, rfl, HR0, HF5, HG, by omega, by simp, by omega, HX, HB5, HU5⟩
      case round =>
        clear HR0 HF5 HG HX HB5 HW5 HU5
        obtain ⟨gg, n, k, now, xs, u, hgg, hnC, rfl, HRw, HFn, HG, hgm, hxg, hfu, HX, HBr, HU⟩ := hrel
        obtain ⟨g0, cap0, hov, hg0, hg1, hcu⟩ := HRw.out.last
        subst hov
        have HCt := hide (rCount ss (.slice ua ss.length uc) wr HU.out HSm.out)
        rw [HCn.out] at HCt
        by_cases hlt : n < C
        · have hltz : (n : Int) < (C : Int) := by omega
          obtain ⟨na, nc, hnv⟩ := sliceFacts HFn.out
          subst hnv
          have hfewn := HG.out.few
          obtain ⟨k', rfl⟩ : ∃ k', k = k' + 1 := ⟨k - 1, by omega⟩
          have hst := cont_step (p := p) (ss := ss) (k := k') (now := now) hlt
          rw [← HX.out] at hst
          have HOn := hide (rOnce p ss n now (.slice pa p.length pc) (.slice ua ss.length uc) (.slice na now.length nc) wr (Kind.sl_below HV.out HBr.out) HU.out HFn.out HRP.out HG.out)
          obtain ⟨er, S, hS⟩ : ∃ er S, onceP p ss (n : Int) now = (er, S) := ⟨_, _, rfl⟩
          rw [hS] at HOn hst
          dsimp only at hst
          have HSt := hide hst
          have HGS : Hid (er = 0 → GoodS p S ∧ ∀ f ∈ now, f ∈ S) := fun he => by
            subst he
            have h := hS
            rw [HMS.out] at h
            exact once_good HRP.out _ HG.out h
          have e1 : ((xs.length : Int) + 1 - 1) = (xs.length : Int) := by omega
          have hxl : xs.length ≤ 1000000 := by omega
          clear hst hS HX
          go_wp2_with fail
          refine HCt.out.mono ?_
          rintro e w6 ⟨rfl, rfl⟩
          clear HCt
          go_wp2_with fail
          refine HOn.out.mono ?_
          rintro e w7 ⟨v7, er', rfl, ⟨her, hT1, hT2⟩, hB7⟩
          dsimp only at her hT1 hT2
          have her' := her.symm
          clear her
          subst her'
          have HBw7 := hide (below_trans HBr.out hB7 HBr.out.size)
          by_cases he : er = 0
          · subst he
            have hF7 := hT2 rfl
            obtain ⟨hG7, hsub⟩ := HGS.out rfl
            have hle := up_le HG.out.up hsub
            have hS200 := hG7.few
            have hRw7 : RowS w.heap.size w7 (.slice (some ⟨g0, 0, none⟩) (xs.length + 1) cap0) (xs ++ [.slice na now.length nc]) := HRw.out.block fun k hk _ => hB7.block k hk
            have hU7 := Kind.sl_below HU.out hB7
            obtain ⟨a7, c7, rfl⟩ := sliceFacts hF7
            obtain ⟨v8, w8, hrun, hR8, hg8⟩ := hRw7.more HBw7.out.size (u := .slice a7 S.length c7) ⟨_, _, _, rfl⟩ (by simp; omega)
            have hLa : Later w7 (w7.alloc (.cells #[.slice a7 S.length c7] 24)) := (Later.refl _).alloc _
            have hRa : RowS w.heap.size (w7.alloc (.cells #[.slice a7 S.length c7] 24)) (.slice (some ⟨g0, 0, none⟩) (xs.length + 1) cap0) (xs ++ [.slice na now.length nc]) := hRw7.block fun k hk _ => hLa.block hk
            have HF8 := hide (facts_apart hRa hg8 (hF7.later hLa))
            have HU8 := hide (ints_apart hRa hg8 (Kind.sl_later hU7 hLa))
            have HB8 : Hid (Below w.heap.size w w8) := (below_trans HBw7.out hLa.below HBw7.out.size).grown hg8 (by have := HBw7.out.size; simp; omega) (fun k e => by simp [Value.ownBlock] at e; omega)
            obtain ⟨g8, cap8, hv8, _, _, _⟩ := hR8.last
            subst hv8
            have HR8 := hide hR8
            have HG7 := hide hG7
            have HRn := hide hrun
            have hxl8 : (xs ++ [Value.slice na now.length nc]).length = xs.length + 1 := by simp
            rw [hxl8] at HRn HR8
            simp only [ne_eq, not_true_eq_false, if_false] at HSt
            clear hT1 hT2 hB7 hF7 hG7 hsub hRw7 hU7 hrun hR8 hg8 hLa hRa HOn HGS HRw HFn HG HU HBr hcu
            by_cases hl : S.length = now.length
            · have HX' : Hid (allP p l = contR p ss C (n + 1) 201 S) := by show _ = _; rw [HSt.out, if_pos hl]
              have hlz : ((S.length : Int) == (now.length : Int)) = true := by
                have : (S.length : Int) = (now.length : Int) := by omega
                simp [this]
              clear HSt hl
              go_wp2_with (at_builtin; refine wpList_append_run rfl (.tmp 62) (.tmp 64) 73 rfl _ _ _ _ rfl rfl HRn.out ?_)
              go_roundg (gg - 1)
              case measure => omega
              case rel => exact ⟨_, n + 1, 201, S, xs ++ [Value.slice na now.length nc], _, rfl, by omega, by go_num, HR8, HF8, HG7, by omega, by simp; omega, by omega, HX', HB8, HU8⟩
            · have HX' : Hid (allP p l = contR p ss C n k' S) := by show _ = _; rw [HSt.out, if_neg hl]
              have hlz : ((S.length : Int) == (now.length : Int)) = false := by
                have : ¬ (S.length : Int) = (now.length : Int) := by omega
                simpa using this
              clear HSt
              go_wp2_with (at_builtin; refine wpList_append_run rfl (.tmp 62) (.tmp 64) 73 rfl _ _ _ _ rfl rfl HRn.out ?_)
              go_roundg (gg - 1)
              case measure => omega
              case rel => exact ⟨_, n, k', S, xs ++ [Value.slice na now.length nc], _, rfl, by omega, by go_num, HR8, HF8, HG7, by omega, by simp; omega, by omega, HX', HB8, HU8⟩
          · have e2 := hT1 he
            subst e2
            have HT : Hid (∀ w', RoundsT w' (.slice none 0 0) er (allP p l)) := fun w' => by rw [HSt.out, if_pos he]; exact ⟨rfl, fun _ => rfl, fun h => absurd h he⟩
            have hne : (er != 0) = true := by simpa using he
            clear hT1 hT2 HGS HSt hB7 HOn
            go_wp2
            exact bodyPost_ret (v := .tuple #[.slice none 0 0, .int .i64 er]) (by simp [results, Tryz.results42, go_sem]) rfl ⟨_, er, rfl, HT.out _, HBw7.out⟩
        · have hltz : ¬ (n : Int) < (C : Int) := by omega
          have hx := HX.out
          unfold contR at hx
          rw [if_neg hlt] at hx
          have HT : Hid (RoundsT wr (.slice (some ⟨g0, 0, none⟩) (xs.length + 1) cap0) 0 (allP p l)) := by
            show RoundsT _ _ _ _
            rw [hx]; exact ⟨rfl, fun h => absurd rfl h, fun _ => ⟨g0, xs.length, cap0, u, rfl, by omega, hg1, hcu, HFn.out⟩⟩
          clear hx HX
          go_wp2_with fail
          refine HCt.out.mono ?_
          rintro e w6 ⟨rfl, rfl⟩
          clear HCt
          go_wp2
          exact bodyPost_ret (v := .tuple #[.slice (some ⟨g0, 0, none⟩) (xs.length + 1) cap0, .int .i64 0]) (by simp [results, Tryz.results42, go_sem]) rfl ⟨_, 0, rfl, HT.out, HBr.out⟩
    · have HT : Hid (∀ w', RoundsT w' (.slice none 0 0) fx (allP p l)) := fun w' => by unfold allP; rw [HSE.out, HFE.out]; simp only [ne_eq, not_true_eq_false, if_false, h1, not_false_eq_true, if_true]; exact ⟨rfl, fun _ => rfl, fun h => absurd h h1⟩
      have hne : (fx != 0) = true := by simpa using h1
      have HB4 : Hid (Below w.heap.size w (w3.alloc (.cells #[.int .i64 fx, .int .i64 fe] 27))) := below_trans HB3.out ((Later.refl _).alloc _).below HB3.out.size
      clear HSE HFE h1 HV HF HU3
      go_wp2
      go_quiet (fail)
      go_wp2
      exact bodyPost_ret (v := .tuple #[.slice none 0 0, .int .i64 fx]) (by simp [results, Tryz.results42, go_sem]) rfl ⟨_, fx, rfl, HT.out _, below_drewN HB4.out _⟩
  · have HT : Hid (∀ w', RoundsT w' (.slice none 0 0) ex (allP p l)) := fun w' => by unfold allP; rw [HSE.out]; simp only [ne_eq, h0, not_false_eq_true, if_true]; exact ⟨rfl, fun _ => rfl, fun h => absurd h h0⟩
    have hne : (ex != 0) = true := by simpa using h0
    have HB4 : Hid (Below w.heap.size w (w1.alloc (.cells #[.int .i64 ex, .int .i64 (ea : Nat)] 27))) := below_trans HB1.out ((Later.refl _).alloc _).below HB1.out.size
    clear HSE h0 HV HF HU
    go_wp2
    go_quiet (fail)
    go_wp2
    exact bodyPost_ret (v := .tuple #[.slice none 0 0, .int .i64 ex]) (by simp [results, Tryz.results42, go_sem]) rfl ⟨_, ex, rfl, HT.out _, below_drewN HB4.out _⟩

set_option maxRecDepth 100000 in
set_option maxHeartbeats 1000000 in
theorem rAll (p : List RuleD) (l : List FactB) (pv fv : Value) (w : World) (hp : ruleK.sl Anyw w pv p) (hf : Facts w fv l) (hlg : ∀ r ∈ p, longR r) (hok : ∀ k, okF (l.getD k noFact)) :
    Calls Tryz.prog 13 #[pv, fv] w fun e w' => ∃ v er, e = .returned (.tuple #[v, .int .i64 er]) ∧ OnceT w' v er (allP p l) ∧ Below w.heap.size w w' := by
  have HR := hide (rRounds p l pv fv w hp hf hlg hok)
  obtain ⟨pa, pc, rfl⟩ := Kind.slice hp
  obtain ⟨fa, fc, rfl⟩ := sliceFacts hf
  clear hp hf hlg hok
  obtain ⟨er, L, hA⟩ : ∃ er L, allP p l = (er, L) := ⟨_, _, rfl⟩
  rw [hA] at HR
  have HAL := hide hA
  clear hA
  go_enter Tryz.func13, Tryz.ntmps13
  go_wp2_with fail
  refine HR.out.mono ?_
  rintro e w1 ⟨v1, er', rfl, ⟨her, h1, h2⟩, hB1⟩
  dsimp only at her h1 h2
  have her' := her.symm
  clear her
  subst her'
  have HB1 := hide hB1
  clear hB1 HR
  by_cases he : er = 0
  · subst he
    obtain ⟨g, n, cap, u, rfl, hn, hg, hc, hF⟩ := h2 rfl
    have HF := hide hF
    obtain ⟨a2, c2, rfl⟩ := sliceFacts hF
    have e1 : ((n : Int) + 1 - 1) = (n : Int) := by omega
    clear h1 h2 hF
    go_wp2
    exact bodyPost_ret (v := .tuple #[.slice a2 L.length c2, .int .i64 0]) (by simp [results, Tryz.results13, go_sem]) rfl ⟨_, 0, rfl, by rw [HAL.out]; exact ⟨rfl, fun h => absurd rfl h, fun _ => HF.out⟩, HB1.out⟩
  · have e2 := h1 he
    subst e2
    have hne : (er != 0) = true := by simpa using he
    clear h1 h2
    go_wp2
    exact bodyPost_ret (v := .tuple #[.slice none 0 0, .int .i64 er]) (by simp [results, Tryz.results13, go_sem]) rfl ⟨_, er, rfl, by rw [HAL.out]; exact ⟨rfl, fun _ => rfl, fun h => absurd h he⟩, HB1.out⟩

end Go.Proofs.YtbohggoeebhdmaaGreatDoor

/- Two faults that are one are not apart. -/
namespace Go.Proofs.YtbohggoeebhdmaaGreatDoor

theorem neqFault (x y : Int) (w : World) : (binOp .neq 27 (.agg #[.int .i64 x, .int .i64 y]) (.agg #[.int .i64 x, .int .i64 y])).run Tryz.prog w = .ok (.bool false) w := by
  go_simp

end Go.Proofs.YtbohggoeebhdmaaGreatDoor
