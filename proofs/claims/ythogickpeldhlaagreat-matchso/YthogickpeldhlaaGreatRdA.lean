/- The walks of a reader's term, list of terms, atom. -/
import Derived.Test.YthogickpeldhlaaGreatCells
import Derived.Test.YthogickpeldhlaaGreatRdM
import Derived.Test.YthogickpeldhlaaGreatVarC
namespace Go.Proofs.YthogickpeldhlaaGreat
open Go.RowKit Go.Sort

set_option maxHeartbeats 1000000 in
theorem fitsTermC : Fits 140 fitsTerm := fun l w hl => by
  have HN := hide (fitsNamed l)
  have HV : Hid (∀ w, Calls Tryz.prog 115 #[.string (bs l)] w fun e w' => e = .returned (.bool (isVar l)) ∧ w' = w) := fun w => by
    have := variableC (bs l) w
    rw [raw_bs] at this; exact this
  have F : Hid (fitsTerm l = (isNamed l || isVar l)) := (rfl : _ = _)
  cases h1 : isNamed l <;> cases h2 : isVar l
  all_goals
    rw [h1] at HN F
    rw [h2] at HV F
    go_enter Tryz.func140, Tryz.ntmps140
    go_wp2_with (first
      | (go_at_call 79; refine (HN.out _ hl).mono ?_; rintro e w' ⟨rfl, rfl⟩)
      | (go_at_call 115; refine (HV.out _).mono ?_; rintro e w' ⟨rfl, rfl⟩))
    go_ret
    exact ⟨ret_bool (by rw [F.out]; rfl), rfl⟩

theorem enters_term1 (args : Array Value) (w : World) : (callFunc 140 args).run Tryz.prog w = .ok (.enter 140 args) w := enters_of Tryz.func140 (by kernel_rfl) rfl args w
theorem enters_named (args : Array Value) (w : World) : (callFunc 79 args).run Tryz.prog w = .ok (.enter 79 args) w := enters_of Tryz.func79 (by kernel_rfl) rfl args w

theorem listGo_yes {α : Type} {part : Bs → Res α} {n : Nat} {out : List α} {l : Bs} (ht : (took [44] l).1 = true) : listGo part (n + 1) out l = (part (took [44] l).2).next fun a r => listGo part n (out ++ [a]) r := by
  conv => lhs; unfold listGo
  exact if_pos ht

/-- An ending, taken apart. -/
theorem Ends'.split {α : Type} {p : Nat} {s : ByteArray} {w w' : World} {V : World → Value → α → Prop} {x : Res α} {e : Ending} (h : Ends' p s w V x e w') :
    Tn p w w' ∧ ((∃ a r v, x = .ok a r ∧ e = .returned v ∧ V w' v a ∧ Rd w' p s r) ∨ ∃ n r, x = .bad n r ∧ e = thrownV n s r ∧ Rd w' p s r) := by
  obtain ⟨h1, h2⟩ := h
  refine ⟨h1, ?_⟩
  cases x with
  | ok a r => obtain ⟨⟨v, e1, e2⟩, e3⟩ := h2; exact Or.inl ⟨a, r, v, rfl, e1, e2, e3⟩
  | bad n r => exact Or.inr ⟨n, r, rfl, h2.1, h2.2⟩

theorem frozen_row {w : World} {b j : Nat} {arr : Array Value} {t : TypeId} (h : w.heap[b]? = some (.cells arr t (0, 0))) : w.frozen? ⟨b, j, none⟩ = false := by
  simp [World.frozen?, h]

theorem Rd.other {w : World} {p b o : Nat} {s : ByteArray} {l : Bs} (h : Rd w p s l) (hb : b ≠ p) (h0 : b ≠ 0) (v : Value) : Rd (w.setCell ⟨b, o, none⟩ v) p s l :=
  h.turned ((Tn.refl b w).moved v o) hb h0

set_option maxHeartbeats 1000000 in
theorem termC (p : Nat) (s : ByteArray) (l : Bs) (w : World) (h : Rd w p s l) :
    Calls Tryz.prog 135 #[.pointer (some ⟨p, 0, none⟩)] w fun e w' => Ends' p s w (termK.val w.heap.size) (term l) e w' := by
  have hlt := h.lt
  have hA : Tn p w (w.alloc (.cells #[.bool false, .string { data := #[] }] 73)) := (Tn.refl p w).alloc _
  have HW := hide (wordR 140 fitsTerm fitsTermC enters_term1 p s l _ (h.turned (Tn.of_below (p := p + 1) (((Later.refl w).alloc (.cells #[.bool false, .string { data := #[] }] 73)).below)) (by omega) (by omega)))
  have HA := hide hA
  clear h hA
  go_enter Tryz.func135, Tryz.ntmps135
  go_wp2_with fail
  refine HW.out.mono ?_
  intro e w1 hE
  obtain ⟨hT, ⟨a, r, v, hx, rfl, rfl, hR⟩ | ⟨n, r, hx, rfl, hR⟩⟩ := hE.split
  · have hx' : term l = .ok (isVar a, a) r := by unfold term; rw [hx]; rfl
    have hrow : w1.heap[w.heap.size]? = some (.cells #[.bool false, .string { data := #[] }] 73 (0, 0)) := by
      rw [hT.block _ (by simp) (by omega)]; exact heap_alloc_new w _
    have z0 : w1.cell? ⟨w.heap.size, 0, none⟩ = some (.bool false) := by rw [cell_of_row _ _ _ _ _ _ hrow]; rfl
    have z1 : w1.cell? ⟨w.heap.size, 1, none⟩ = some (.string { data := #[] }) := by rw [cell_of_row _ _ _ _ _ _ hrow]; rfl
    have f0 := frozen_row (j := 0) hrow
    have f1 := frozen_row (j := 1) hrow
    have HV : Hid (Calls Tryz.prog 115 #[.string (bs a)] w1 fun e w' => e = .returned (.bool (isVar a)) ∧ w' = w1) := by
      have := variableC (bs a) w1
      rw [raw_bs] at this; exact this
    have HX := hide hx'
    have HT := hide (HA.out.trans hT)
    have HR := hide hR
    have hp0 := hR.ne
    clear hx hx' hT hR hrow hE HA
    go_wp2_with (go_at_call 115; refine HV.out.mono ?_; rintro e w' ⟨rfl, rfl⟩)
    refine bodyPost_ret (v := .agg #[.bool (isVar a), .string (bs a)]) (by simp [results, Tryz.results135, go_sem, z0, z1]) rfl ?_
    exact endsOk HX.out ((HT.out.setCell (Or.inr (Nat.le_refl _)) _).setCell (Or.inr (Nat.le_refl _)) _) ⟨_, rfl, rfl⟩ ((HR.out.other (by omega) (by omega) _).other (by omega) (by omega) _)
  · have hx' : term l = .bad n r := by unfold term; rw [hx]; rfl
    exact ⟨rfl, endsBad hx' (HA.out.trans hT) hR⟩

end Go.Proofs.YthogickpeldhlaaGreat
