/- The document's answer: the walks of ref.Of, Both, Minus. -/
import Derived.Test.YtflldbpjhcgkbaaRefAdd
namespace Go.Proofs.Ytflldbpjhcgkbaa
open Go.RowKit Go.Sort

theorem SetOf.snoc {r r' m : List FactD} {f : FactD} (h : SetOf r m) (k : SetOf r' (r ++ [f])) : SetOf r' (m ++ [f]) :=
  ⟨k.1, fun g => by rw [k.2.1 g, List.mem_append, List.mem_append, h.2.1 g], by have := k.2.2; have := h.2.2; simp at *; omega⟩

theorem setOf_nil : SetOf [] [] := ⟨List.Pairwise.nil, fun _ => Iff.rfl, Nat.le_refl _⟩
theorem factsC_nil (w : World) : FactsC w (.slice none 0 0) [] := ⟨⟨by simp, none, 0, rfl, fun h => absurd rfl h⟩, Or.inl ⟨rfl, rfl⟩⟩

set_option maxHeartbeats 1000000 in
theorem rOf (v : Value) (l : List FactD) (w : World) (h : Facts w v l) (hn : l.length ≤ 1048576) :
    Calls Try.prog 18 #[v] w fun e w' => ∃ v' r, e = .returned v' ∧ FactsC w' v' r ∧ SetOf r l ∧ Later w w' := by
  have HF := hide h
  obtain ⟨a, cap, rfl, _, hz⟩ := h.addr
  clear h
  go_enter Try.func18, Try.ntmps18
  go_wp2
  go_loopw [3, 8] (fun o i wr => ∃ k : Nat, ∃ r, k ≤ l.length ∧ i = .int .i64 k ∧ Hid (FactsC wr o r) ∧ Hid (SetOf r (l.take k)) ∧ Later w wr) (fun _ i _ => l.length - (intOf i).toNat)
  case atStart => exact ⟨0, [], by omega, rfl, factsC_nil _, (by rw [List.take_zero]; exact setOf_nil : SetOf _ _), Later.refl _⟩
  case round =>
    obtain ⟨k, r, hk, rfl, HO, HS, hL⟩ := hrel
    by_cases hlt : k < l.length
    · rcases hz with rfl | ⟨b, off, rfl⟩
      · simp at hlt
      have hltz : (k : Int) < (l.length : Int) := by omega
      obtain ⟨hb, ax, lx, cx, g1, g2, fx⟩ := (HF.out.later hL).at hlt
      have hrl : r.length ≤ 1048576 := by have := HS.out.2.2; rw [List.length_take] at this; omega
      have HC := hide fun w' (hw : Later wr w') => rAdd u3 _ r (l.getD k noFact) w' (HO.out.later hw) (fx.later hw) HS.out.1 (by omega)
      have HT := hide (take_succ hlt)
      generalize l.getD k noFact = f at *
      obtain ⟨nk, lk⟩ := f
      clear fx
      dsimp only at *
      go_wp2_with fail
      refine (HC.out _ ((Later.refl _).alloc _)).mono ?_
      rintro e w1 ⟨v1, r1, rfl, hF1, hS1, hL1⟩
      have HF1 := hide hF1
      have HS1 := hide hS1
      clear hF1 hS1
      go_wp2
      go_roundw
      case rel => exact ⟨k + 1, r1, by omega, by go_num, HF1, (by rw [HT.out]; exact HS.out.snoc HS1.out : SetOf _ _), hL.trans (((Later.refl _).alloc _).trans hL1)⟩
      case measure => simp [intOf]; omega
    · go_wp2
      go_ret
      obtain rfl : k = l.length := by omega
      exact ⟨_, r, rfl, HO.out, by have := HS.out; rwa [List.take_length] at this, hL⟩

set_option maxHeartbeats 1000000 in
theorem rBoth (va vb : Value) (la lb : List FactD) (w : World) (ha : Facts w va la) (h : Facts w vb lb) (hna : la.length ≤ 1048576) (hnb : lb.length ≤ 1048576) :
    Calls Try.prog 20 #[va, vb] w fun e w' => ∃ v' r, e = .returned v' ∧ FactsC w' v' r ∧ SetOf r (la ++ lb) ∧ Later w w' := by
  have HF := hide h
  have hO := hide (rOf va la w ha hna)
  obtain ⟨a, cap, rfl, _, hz⟩ := h.addr
  obtain ⟨a0, cap0, rfl⟩ := sliceFacts ha
  clear h ha
  go_enter Try.func20, Try.ntmps20
  go_wp2_with fail
  refine hO.out.mono ?_
  rintro e w0 ⟨v0, r0, rfl, hF0, hS0, hL0⟩
  have HF0 := hide hF0
  have HS0 := hide hS0
  clear hF0 hS0
  go_wp2
  go_loopw [5, 12] (fun o i wr => ∃ k : Nat, ∃ r, k ≤ lb.length ∧ i = .int .i64 k ∧ Hid (FactsC wr o r) ∧ Hid (SetOf r (la ++ lb.take k)) ∧ Later w wr) (fun _ i _ => lb.length - (intOf i).toNat)
  case atStart => exact ⟨0, r0, by omega, rfl, HF0, (by rw [List.take_zero, List.append_nil]; exact HS0.out : SetOf _ _), hL0⟩
  case round =>
    obtain ⟨k, r, hk, rfl, HO, HS, hL⟩ := hrel
    by_cases hlt : k < lb.length
    · rcases hz with rfl | ⟨b, off, rfl⟩
      · simp at hlt
      have hltz : (k : Int) < (lb.length : Int) := by omega
      obtain ⟨hb, ax, lx, cx, g1, g2, fx⟩ := (HF.out.later hL).at hlt
      have hrl : r.length ≤ 2097152 := by have := HS.out.2.2; rw [List.length_append, List.length_take] at this; omega
      have HC := hide fun w' (hw : Later wr w') => rAdd u5 _ r (lb.getD k noFact) w' (HO.out.later hw) (fx.later hw) HS.out.1 (by omega)
      have HT := hide (take_succ hlt)
      generalize lb.getD k noFact = f at *
      obtain ⟨nk, lk⟩ := f
      clear fx
      dsimp only at *
      go_wp2_with fail
      refine (HC.out _ ((Later.refl _).alloc _)).mono ?_
      rintro e w1 ⟨v1, r1, rfl, hF1, hS1, hL1⟩
      have HF1 := hide hF1
      have HS1 := hide hS1
      clear hF1 hS1
      go_wp2
      go_roundw
      case rel => exact ⟨k + 1, r1, by omega, by go_num, HF1, (by rw [HT.out, ← List.append_assoc]; exact HS.out.snoc HS1.out : SetOf _ _), hL.trans (((Later.refl _).alloc _).trans hL1)⟩
      case measure => simp [intOf]; omega
    · go_wp2
      go_ret
      obtain rfl : k = lb.length := by omega
      exact ⟨_, r, rfl, HO.out, by have := HS.out; rwa [List.take_length] at this, hL⟩

set_option maxHeartbeats 1000000 in
theorem rMinus (va vb : Value) (la lb : List FactD) (w : World) (ha : Facts w va la) (hb : Facts w vb lb) :
    Calls Try.prog 26 #[va, vb] w fun e w' => ∃ v', e = .returned v' ∧ Facts w' v' (la.filter fun f => !inFrom lb f 0) ∧ Later w w' := by
  have HA := hide ha
  have HB := hide hb
  obtain ⟨a, cap, rfl, hn, hz⟩ := ha.addr
  obtain ⟨a0, cap0, rfl⟩ := sliceFacts hb
  clear ha hb
  go_enter Try.func26, Try.ntmps26
  go_wp2
  go_loopw [5, 10] (fun o i wr => ∃ k : Nat, k ≤ la.length ∧ i = .int .i64 k ∧ Hid (RowF wr w.heap.size o ((la.take k).filter fun f => !inFrom lb f 0)) ∧ Later w wr) (fun _ i _ => la.length - (intOf i).toNat)
  case atStart => exact ⟨0, by omega, rfl, (by rw [List.take_zero]; exact RowF.nil _ _ : RowF _ _ _ _), Later.refl _⟩
  case round =>
    obtain ⟨k, hk, rfl, HO, hL⟩ := hrel
    by_cases hlt : k < la.length
    · rcases hz with rfl | ⟨b, off, rfl⟩
      · simp at hlt
      have hltz : (k : Int) < (la.length : Int) := by omega
      obtain ⟨hb0, ax, lx, cx, g1, g2, fx⟩ := HA.out.at hlt
      have hb : b < wr.heap.size := Nat.lt_of_lt_of_le hb0 hL.size
      rw [← hL.cell (p := ⟨b, off + k * 2, none⟩) hb0] at g1
      rw [← hL.cell (p := ⟨b, off + k * 2 + 1, none⟩) hb0] at g2
      have HC := hide fun w' (hw : Later wr w') => rIn _ _ lb (la.getD k noFact) w' (HB.out.later (hL.trans hw)) (fx.later (hL.trans hw))
      have HT : Hid ((la.take (k + 1)).filter (fun f => !inFrom lb f 0) = (la.take k).filter (fun f => !inFrom lb f 0) ++ if inFrom lb (la.getD k noFact) 0 then [] else [la.getD k noFact]) := by
        show _ = _
        rw [take_succ hlt, List.filter_append]
        generalize la.getD k noFact = x
        cases h : inFrom lb x 0 <;> simp [h]
      have hfl : ((la.take k).filter fun f => !inFrom lb f 0).length ≤ k := Nat.le_trans (List.length_filter_le _ _) (List.length_take_le _ _)
      generalize la.getD k noFact = f at *
      obtain ⟨s, es, hs⟩ := fx
      obtain ⟨nk, lk⟩ := f
      dsimp only at *
      have es' : Value.slice ax lx cx = s := by simpa using es
      subst es'
      have HSt := hide hs
      clear hs es
      cases hin : inFrom lb (nk, lk) 0
      · rw [hin] at HC HT
        go_wp2_with fail
        refine (HC.out _ ((Later.refl _).alloc _)).mono ?_
        rintro e w1 ⟨rfl, hL1⟩
        have hLr1 : Later wr w1 := ((Later.refl _).alloc _).trans hL1
        have z0 : w1.cell? ⟨wr.heap.size, 0, none⟩ = some (.string nk) := by rw [hL1.cell (by simp)]; simp
        have z1 : w1.cell? ⟨wr.heap.size, 1, none⟩ = some (.slice ax lx cx) := by rw [hL1.cell (by simp)]; simp
        have S1 := SrcF.one (w0 := w) (f := (nk, lk)) (s := .slice ax lx cx) (heap_alloc_new w1 (.cells #[.string nk, .slice ax lx cx] 25)) HSt.out
        obtain ⟨v2, w2, run2, R2, hL2, _⟩ := (HO.out.later (hLr1.alloc (.cells #[.string nk, .slice ax lx cx] 25))).appendSrc (cap := 1) ((hL.trans hLr1).alloc _) S1 (by simp; omega)
        have RUN := hide run2
        have HR2 := hide R2
        clear run2 R2 S1
        go_wp2_with (at_builtin; refine wpList_append_run rfl (.tmp 18) (.tmp 20) 22 rfl _ _ _ _ rfl rfl RUN.out ?_)
        go_roundw
        case rel => exact ⟨k + 1, by omega, by go_num, (by rw [HT.out]; exact HR2.out : RowF _ _ _ _), hL2⟩
        case measure => simp [intOf]; omega
      · rw [hin] at HC HT
        go_wp2_with fail
        refine (HC.out _ ((Later.refl _).alloc _)).mono ?_
        rintro e w1 ⟨rfl, hL1⟩
        have hLr1 : Later wr w1 := ((Later.refl _).alloc _).trans hL1
        go_wp2
        go_roundw
        case rel => exact ⟨k + 1, by omega, by go_num, (by rw [HT.out, if_pos trivial, List.append_nil]; exact HO.out.later hLr1 : RowF _ _ _ _), hL.trans hLr1⟩
        case measure => simp [intOf]; omega
    · go_wp2
      go_ret
      obtain rfl : k = la.length := by omega
      have HO2 := HO.out
      rw [List.take_length] at HO2
      exact ⟨_, rfl, HO2.facts (Nat.le_trans (List.length_filter_le _ _) hn), hL⟩

end Go.Proofs.Ytflldbpjhcgkbaa
