/- The walk of CheckLess. -/
import Derived.Test.YtehipkidohomeaaAlive3
namespace Go.Proofs.Ytehipkidohomeaa
open Go.RowKit Go.Sort Go.Maps

/-- The first elements of a slice. -/
theorem Kind.sl_take {α : Type} {K : Kind α} {B : Nat → Prop} {w : World} {a : Option Addr} {n cap : Nat} {l : List α} (h : K.sl B w (.slice a n cap) l) (k : Nat) (hk : k ≤ l.length) : K.sl B w (.slice a k cap) (l.take k) := by
  obtain ⟨⟨h0, h1⟩, a', cap', e, h2⟩ := h
  simp only [Value.slice.injEq] at e
  obtain ⟨rfl, rfl, rfl⟩ := e
  have hl : (l.take k).length = k := by rw [List.length_take]; omega
  have h1' : l.length ≤ cap := h1
  refine ⟨⟨by omega, by show k ≤ cap; omega⟩, a, cap, by rw [hl], fun hne => ?_⟩
  obtain ⟨b, off, e, hB, hb, hc⟩ := h2 (by intro e; rw [e] at hne; simp at hne)
  refine ⟨b, off, e, hB, hb, fun i x hx => hc i x ?_⟩
  rw [List.getElem?_take] at hx
  split at hx
  · exact hx
  · cases hx

theorem row_alloc {a b : Value} {w w' : World} (k : Below (w.heap.size + 1) (w.alloc (.cells #[a, b] 30)) w') : w'.heap[w.heap.size]? = some (.cells #[a, b] 30 (0, 0)) := by
  rw [k.block _ (by omega), heap_alloc_new]

set_option maxRecDepth 100000 in
set_option maxHeartbeats 2000000 in
theorem lessW (v : Value) (p : List RuleD) (w : World) (m : Int) (hm : w.cell? ⟨0, 0, none⟩ = some (.int .i64 m)) (hv : ruleK.sl Anyw w v p) :
    Calls Try.prog 12 #[v] w fun e w' => e = .returned (.bool true) ∧ Below w.heap.size w w' := by
  obtain ⟨sa, cap, rfl⟩ := Kind.slice hv
  have hlc : p.length ≤ cap := hv.1.2
  have hl0 := hv.1.1
  have HA := hide (alive3 w m hm)
  have HS : Hid (∀ w1, Below w.heap.size w w1 → Calls Try.prog 51 #[.slice sa p.length cap] w1 fun e w2 => ∃ u, e = .returned (.tuple #[u, .agg #[.int .i64 (strataP p).2.1, .int .i64 ((strataP p).2.2 : Nat)]]) ∧ intK.sl Anyw w2 u (strataP p).1 ∧ Below w.heap.size w w2) := fun w1 hb =>
    (strataC p _ w1 (Kind.sl_below hv hb)).mono fun e w2 ⟨u, he, hu, hb2⟩ => ⟨u, he, Kind.sl_any hu, below_trans hb hb2 hb.size⟩
  have HV := hide hv
  clear hv hm
  generalize hsp : strataP p = sp at *
  obtain ⟨l, ex, ea⟩ := sp
  dsimp only at *
  by_cases h0 : ex = 0
  · subst h0
    by_cases hp : p = []
    · subst hp
      go_enter Try.func12, Try.ntmps12
      go_wp2_with (first
        | (go_at_call 53; refine HA.out.mono ?_; rintro e w1 ⟨rfl, hB1⟩; replace hB1 := hide hB1)
        | (go_at_call 51; refine (HS.out w1 (unhide hB1)).mono ?_; rintro e w2 ⟨u, rfl, hU, hB2⟩; obtain ⟨ua, uc, rfl⟩ := Kind.slice hU; replace hU := hide hU; replace hB2 := hide hB2))
      go_ret
      exact ⟨rfl, (unhide hB2).alloc (unhide hB2).size _⟩
    · have hlp : 0 < p.length := List.length_pos_iff.2 hp
      have hn0 : ((p.length : Int) == 0) = false := by rw [beq_eq_false_iff_ne]; omega
      obtain ⟨l', hl', hll, hle⟩ := strataP_take hsp (p.length - 1)
      have hlen : l.length = p.length := by
        obtain ⟨_, m', rfl, _⟩ := strataP_ok hsp
        simp [each]
      have hll' : l'.length = p.length - 1 := by rw [hll, List.length_take]; omega
      have HLE := hide hle
      have HS2 : Hid (∀ w1, Below w.heap.size w w1 → Calls Try.prog 51 #[.slice sa (p.length - 1) cap] w1 fun e w2 => ∃ u, e = .returned (.tuple #[u, .agg #[.int .i64 0, .int .i64 0]]) ∧ intK.sl (From w1.heap.size) w2 u l' ∧ Below w1.heap.size w1 w2) := fun w1 hb => by
        have := strataC (p.take (p.length - 1)) _ w1 (Kind.sl_take (Kind.sl_below HV.out hb) (p.length - 1) (by omega))
        rw [hl'] at this
        exact this
      clear hsp hl' hll hle hp HV
      have hls : ((p.length : Int) - 1) = ((p.length - 1 : Nat) : Int) := by omega
      go_enter Try.func12, Try.ntmps12
      go_wp2_with fail
      refine HA.out.mono ?_
      rintro e w1 ⟨rfl, hB1⟩
      have HS1 := hide (HS.out w1 hB1)
      clear hB1 HA HS
      go_wp2_with fail
      refine HS1.out.mono ?_
      rintro e w2 ⟨u, rfl, hU, hB2⟩
      have hs2 := hB2.size
      have hBA := hB2.alloc hs2 (.cells #[.int .i64 0, .int .i64 (ea : Int)] 30)
      have HS3 := hide (HS2.out _ hBA)
      have hz2 : (w2.alloc (.cells #[.int .i64 0, .int .i64 (ea : Int)] 30)).heap.size = w2.heap.size + 1 := by simp
      have HU : Hid (intK.sl (fun k => k ≠ w2.heap.size) (w2.alloc (.cells #[.int .i64 0, .int .i64 (ea : Int)] 30)) u l) := Kind.sl_neBelow hU ((Later.refl _).alloc _).below (Nat.le_refl _)
      have HBA := hide hBA
      obtain ⟨ua, uc, rfl⟩ := Kind.slice hU
      clear hU hB2 hBA HS1 HS2
      go_wp2_with fail
      refine HS3.out.mono ?_
      rintro e w3 ⟨u3, rfl, hU3, hB3⟩
      have hrow : w3.heap[w2.heap.size]? = some (.cells #[.int .i64 0, .int .i64 (ea : Int)] 30 (0, 0)) := by rw [hB3.block _ (by omega), heap_alloc_new]
      have q0 : w3.cell? ⟨w2.heap.size, 0, none⟩ = some (.int .i64 0) := by rw [cell_of_row _ _ _ _ _ _ hrow]; rfl
      have q1 : w3.cell? ⟨w2.heap.size, 1, none⟩ = some (.int .i64 (ea : Int)) := by rw [cell_of_row _ _ _ _ _ _ hrow]; rfl
      have p0 : w3.frozen? ⟨w2.heap.size, 0, none⟩ = false := frozen_rowC 0 hrow
      have p1 : w3.frozen? ⟨w2.heap.size, 1, none⟩ = false := frozen_rowC 1 hrow
      have hs3 := hB3.size
      have keep : ∀ {v : Value} {q : List Nat}, intK.sl (fun k => k ≠ w2.heap.size) w3 v q → intK.sl Anyw ((w3.setCell ⟨w2.heap.size, 0, none⟩ (.int .i64 0)).setCell ⟨w2.heap.size, 1, none⟩ (.int .i64 0)) v q := fun h =>
        Kind.sl_any (Kind.sl_kept h (by simp only [size_setCell]; exact Nat.le_refl _) fun k _ hk => by rw [heap_setCell_other _ _ _ hk, heap_setCell_other _ _ _ hk])
      have HU4 := hide (keep (Kind.sl_kept HU.out hB3.size fun k hk _ => hB3.block k hk))
      have HU5 := hide (keep (Kind.sl_mono hU3 fun k _ hk => by have : _ ≤ k := hk; omega))
      have HB4 : Hid (Below w.heap.size w ((w3.setCell ⟨w2.heap.size, 0, none⟩ (.int .i64 0)).setCell ⟨w2.heap.size, 1, none⟩ (.int .i64 0))) :=
        ((below_trans HBA.out hB3 (by omega)).setCell (p := ⟨w2.heap.size, 0, none⟩) hs2 _).setCell (p := ⟨w2.heap.size, 1, none⟩) hs2 _
      obtain ⟨ub, uc3, rfl⟩ := Kind.slice hU3
      have hcell0 : ((w3.setCell ⟨w2.heap.size, 0, none⟩ (.int .i64 0)).setCell ⟨w2.heap.size, 1, none⟩ (.int .i64 0)).cell? ⟨w2.heap.size, 0, none⟩ = some (.int .i64 0) := (fault_two hrow (.int .i64 0) (.int .i64 0)).1
      clear hU3 hB3 hrow HU HBA HS3 keep
      have hl1 : l.length ≤ 8796093022208 := by omega
      have hl2 : l'.length ≤ 8796093022208 := by omega
      go_wp2
      go_loopg [36] l'.length (fun k i wr => ∃ j : Nat, j + k = l'.length ∧ i = .int .i64 j ∧ Hid (Later ((w3.setCell ⟨w2.heap.size, 0, none⟩ (.int .i64 0)).setCell ⟨w2.heap.size, 1, none⟩ (.int .i64 0)) wr))
      case atStart => exact ⟨0, by omega, rfl, Later.refl _⟩
      case round =>
        obtain ⟨j, hj, rfl, HL⟩ := hrel
        by_cases hlt : j < l'.length
        · obtain ⟨x, hx⟩ : ∃ x, l'[j]? = some x := ⟨_, List.getElem?_eq_getElem hlt⟩
          obtain ⟨y, hy⟩ : ∃ x, l[j]? = some x := ⟨_, List.getElem?_eq_getElem (by omega)⟩
          obtain ⟨b1, o1, _, rfl, hb1, rfl, hc1⟩ := Kind.sl_at (Kind.sl_later HU5.out HL.out) hx
          obtain ⟨b2, o2, _, rfl, hb2, rfl, hc2⟩ := Kind.sl_at (Kind.sl_later HU4.out HL.out) hy
          have d1 : wr.cell? ⟨b1, o1 + j, none⟩ = some (.int .i64 (x : Int)) := by simpa [intK] using hc1 0 _ rfl
          have d2 : wr.cell? ⟨b2, o2 + j, none⟩ = some (.int .i64 (y : Int)) := by simpa [intK] using hc2 0 _ rfl
          have hxy : ¬ (y : Int) < (x : Int) := by have := HLE.out j x y hx hy; omega
          have hj1 : (j : Int) < (l'.length : Int) := by omega
          have hj2 : (j : Int) < (l.length : Int) := by omega
          clear hc1 hc2 hx hy q0 q1 p0 p1 hcell0
          go_wp2
          go_quiet (fail)
          go_wp2
          go_roundg (l'.length - (j + 1))
          case measure => omega
          case rel => exact ⟨j + 1, by omega, by go_num, HL.out.drewN _⟩
        · go_wp2
          go_ret
          exact ⟨rfl, below_trans HB4.out HL.out.below HB4.out.size⟩
  · have hq : (ex != 0) = true := by simpa using h0
    clear hsp h0 HV
    go_enter Try.func12, Try.ntmps12
    go_wp2_with (first
      | (go_at_call 53; refine HA.out.mono ?_; rintro e w1 ⟨rfl, hB1⟩; replace hB1 := hide hB1)
      | (go_at_call 51; refine (HS.out w1 (unhide hB1)).mono ?_; rintro e w2 ⟨u, rfl, hU, hB2⟩; obtain ⟨ua, uc, rfl⟩ := Kind.slice hU; replace hU := hide hU; replace hB2 := hide hB2))
    go_ret
    exact ⟨rfl, (unhide hB2).alloc (unhide hB2).size _⟩

end Go.Proofs.Ytehipkidohomeaa
