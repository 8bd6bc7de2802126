/- The walks of a reader's body, rule and rules. -/
import Derived.Test.YthogickpeldhlaaGreatRdB
namespace Go.Proofs.YthogickpeldhlaaGreat
open Go.RowKit Go.Sort

set_option maxHeartbeats 1000000 in
theorem bodyC (p : Nat) (s : ByteArray) (l : Bs) (w : World) (h : Rd w p s l) :
    Calls Tryz.prog 74 #[.pointer (some ⟨p, 0, none⟩)] w fun e w' => Ends' p s w (atomK.sl (From w.heap.size)) (body l) e w' := by
  have HC := hide (listAtom p s l w h)
  have hmf : ∀ (fn : Fn) (first cap : Array Value) (w : World), (Instr.makeFunc fn first cap).run Tryz.prog w = .ok (.func fn first cap) w := fun _ _ _ _ => rfl
  clear h
  go_enter Tryz.func74, Tryz.ntmps74
  go_wp2_with fail
  refine HC.out.mono ?_
  intro e w1 hE
  obtain ⟨hT, ⟨a, r, v, hx, rfl, hV, hR⟩ | ⟨n, r, hx, rfl, hR⟩⟩ := hE.split
  · obtain ⟨a1, c1, rfl⟩ := Kind.slice hV
    have HX : Hid (body l = .ok a r) := hx
    have HT := hide hT
    have HV := hide hV
    have HR := hide hR
    clear hx hT hV hR hE
    go_wp2
    go_ret
    exact endsOk HX.out HT.out HV.out HR.out
  · exact ⟨rfl, endsBad hx hT hR⟩

theorem row4 {w : World} {b : Nat} {x y z u : Value} {t : TypeId} (h : w.heap[b]? = some (.cells #[x, y, z, u] t (0, 0))) :
    w.cell? ⟨b, 0, none⟩ = some x ∧ w.cell? ⟨b, 1, none⟩ = some y ∧ w.cell? ⟨b, 2, none⟩ = some z ∧ w.cell? ⟨b, 3, none⟩ = some u ∧ w.frozen? ⟨b, 0, none⟩ = false ∧ w.frozen? ⟨b, 1, none⟩ = false ∧ w.frozen? ⟨b, 2, none⟩ = false ∧ w.frozen? ⟨b, 3, none⟩ = false :=
  ⟨by rw [cell_of_row _ _ _ _ _ _ h]; rfl, by rw [cell_of_row _ _ _ _ _ _ h]; rfl, by rw [cell_of_row _ _ _ _ _ _ h]; rfl, by rw [cell_of_row _ _ _ _ _ _ h]; rfl, frozen_row h, frozen_row h, frozen_row h, frozen_row h⟩

/-- From lo on, but not at q. -/
abbrev But (lo q : Nat) : Nat → Prop := fun k => lo ≤ k ∧ k ≠ q
theorem Kind.sl_tn {α : Type} {K : Kind α} {p q lo : Nat} {w w' : World} {v : Value} {l : List α} (h : K.sl (But lo q) w v l) (k : Tn p w w') (hp : p < lo ∨ p = q) : K.sl (But lo q) w' v l :=
  Kind.sl_kept h k.size fun i hi hB => k.block i hi (by have := hB.1; have := hB.2; omega)
theorem Kind.sl_from {α : Type} {K : Kind α} {q lo : Nat} {w : World} {v : Value} {l : List α} (h : K.sl (But lo q) w v l) : K.sl (From lo) w v l := Kind.sl_mono h fun _ _ hB => hB.1

/-- The end of a rule: what must follow, and the result's store. -/
theorem ruleEnd {p lo b : Nat} {s : ByteArray} {l r : Bs} {w w4 : World} {a : AtomD} {bd : List AtomD} {tv bv : Value} (hX : rule l = .ok ⟨a, bd⟩ r) (hno : a.no = false) (hT : Tn p w w4) (hR : Rd w4 p s r)
    (hV : termK.sl (From lo) w4 tv a.terms) (hB : atomK.sl (From lo) w4 bv bd) (hlo : w.heap.size < lo) (hlt : p < w.heap.size) (hb : b = w.heap.size) :
    Ends' p s w (ruleK.val w.heap.size) (rule l) (.returned (.agg #[.bool false, .string (bs a.name), tv, bv])) ((((w4.setCell ⟨b, 0, none⟩ (.bool false)).setCell ⟨b, 1, none⟩ (.string (bs a.name))).setCell ⟨b, 2, none⟩ tv).setCell ⟨b, 3, none⟩ bv) := by
  subst hb
  have hTb : Tn w.heap.size w4 ((((w4.setCell ⟨w.heap.size, 0, none⟩ (.bool false)).setCell ⟨w.heap.size, 1, none⟩ (.string (bs a.name))).setCell ⟨w.heap.size, 2, none⟩ tv).setCell ⟨w.heap.size, 3, none⟩ bv) :=
    ((((Tn.refl _ w4).moved _ _).moved _ _).moved _ _).moved _ _
  have mono : ∀ k, k < ((((w4.setCell ⟨w.heap.size, 0, none⟩ (.bool false)).setCell ⟨w.heap.size, 1, none⟩ (.string (bs a.name))).setCell ⟨w.heap.size, 2, none⟩ tv).setCell ⟨w.heap.size, 3, none⟩ bv).heap.size → From lo k → From w.heap.size k :=
    fun k _ hB => by have : lo ≤ k := hB; show w.heap.size ≤ k; omega
  exact endsOk hX ((((hT.setCell (Or.inr (Nat.le_refl _)) _).setCell (Or.inr (Nat.le_refl _)) _).setCell (Or.inr (Nat.le_refl _)) _).setCell (Or.inr (Nat.le_refl _)) _)
    ⟨_, rfl, _, _, by rw [hno], Kind.sl_mono (Kind.sl_turned hV hTb hlo) mono, Kind.sl_mono (Kind.sl_turned hB hTb hlo) mono⟩ (hR.turned hTb (by omega) (by omega))

theorem atom_no {l r : Bs} {a : AtomD} (h : atom l = .ok a r) : a.no = false := by
  obtain ⟨w, r1, h1, h2⟩ := Res.next_ok h
  split at h2
  · obtain ⟨ts, r2, h4, h5⟩ := Res.next_ok h2
    rw [(mustTake_ok h5).2.1]
  · cases h2; rfl

/-- A reader, and what only it has turned, behind an append onto a row of the call's own. -/
theorem grownRd {p : Nat} {s : ByteArray} {r : Bs} {w w2 w3 w4 : World} {o : Obj} {row : Option Nat} (hg4 : (w3.alloc o).grownBy w4 row) (hrow : ∀ k, row = some k → w.heap.size ≤ k) (hT2 : Tn p w w2) (hT3 : Tn p w2 w3) (hR3 : Rd w3 p s r) (hlt : p < w.heap.size) : Rd w4 p s r ∧ Tn p w w4 := by
  have hs2 := hT2.size
  have hs3 := hT3.size
  have hblk : ∀ k, k < w3.heap.size → k < w.heap.size → w4.heap[k]? = w3.heap[k]? := fun k hk hk' =>
    (hg4.block k (by simp; omega) (fun e => by have := hrow k e.symm; omega)).trans (Below.heap_alloc w3 _ k hk)
  have hs4 : w3.heap.size ≤ w4.heap.size := by have := hg4.size; simp at this; omega
  exact ⟨⟨hR3.short, hR3.suf, by have := hR3.lt; omega, hR3.ne,
      by rw [World.cell?_of_block (w := w3) (a := ⟨p, 0, none⟩) (hblk p hR3.lt hlt)]; exact hR3.c0, by rw [World.cell?_of_block (w := w3) (a := ⟨p, 1, none⟩) (hblk p hR3.lt hlt)]; exact hR3.c1,
      by rw [World.frozen?_of_block (w := w3) (a := ⟨p, 1, none⟩) (hblk p hR3.lt hlt)]; exact hR3.fz,
      by obtain ⟨m, e⟩ := hR3.g; exact ⟨m, by rw [World.cell?_of_block (w := w3) (a := ⟨0, 0, none⟩) (hblk 0 (by have := hR3.lt; omega) (by omega))]; exact e⟩⟩,
    ⟨hg4.os.trans (hT3.os.trans hT2.os), hg4.tape.trans (hT3.tape.trans hT2.tape), hg4.output.trans (hT3.output.trans hT2.output), by omega,
      fun k hk ho => (hblk k (by omega) hk).trans ((hT3.block k (by omega) ho).trans (hT2.block k hk ho))⟩⟩

theorem rulesGo_yes {n : Nat} {out : List RuleD} {l : Bs} (h : skip l ≠ []) : rulesGo (n + 1) out l = (rule (skip l)).next fun a r => rulesGo n (out ++ [a]) r := by
  conv => lhs; unfold rulesGo
  exact if_neg h

set_option maxHeartbeats 1000000 in
theorem onlyBodyC (p : Nat) (s : ByteArray) (l : Bs) (w : World) (h : Rd w p s l) :
    Calls Tryz.prog 56 #[.pointer (some ⟨p, 0, none⟩)] w fun e w' => Ends' p s w (atomK.sl (From w.heap.size)) (onlyBody l) e w' := by
  have hlt := h.lt
  have HC := hide (bodyC p s l w h)
  clear h
  go_enter Tryz.func56, Tryz.ntmps56
  go_wp2_with fail
  refine HC.out.mono ?_
  intro e w1 hE
  obtain ⟨hT, ⟨a, r, v, hx, rfl, hV, hR⟩ | ⟨n, r, hx, rfl, hR⟩⟩ := hE.split
  · obtain ⟨a1, c1, rfl⟩ := Kind.slice hV
    have HX : Hid (onlyBody l = if skip r = [] then .ok a [] else .bad 2 (skip r)) := by show _ = _; unfold onlyBody; rw [hx]; rfl
    have HE := hide (endedC p s r w1 hR)
    have HT := hide hT
    have HV := hide hV
    clear hx hT hV hR hE HC
    go_wp2_with fail
    refine HE.out.mono ?_
    rintro e w2 ⟨rfl, hR2, hT2⟩
    have HT2 := hide (HT.out.trans hT2)
    have HV2 := hide (Kind.sl_turned HV.out hT2 hlt)
    have HM := hide (mustC p s _ (decide (skip r = [])) w2 hR2)
    by_cases ht : skip r = []
    · rw [decide_eq_true ht] at HM ⊢
      have HX2 : Hid (onlyBody l = .ok a []) := by show _ = _; rw [HX.out, if_pos ht]
      have HR2 : Hid (Rd w2 p s []) := by show Rd _ _ _ _; rw [← ht]; exact hR2
      clear ht hR2 hT2 HX HE HV HT
      go_wp2_with fail
      refine HM.out.mono ?_
      rintro e w3 ⟨rfl, rfl⟩
      go_wp2
      go_ret
      exact endsOk HX2.out HT2.out HV2.out HR2.out
    · rw [decide_eq_false ht] at HM ⊢
      have HX2 : Hid (onlyBody l = .bad 2 (skip r)) := by show _ = _; rw [HX.out, if_neg ht]
      have HR2 := hide hR2
      clear ht hR2 hT2 HX HE HV HT
      go_wp2_with fail
      refine HM.out.mono ?_
      rintro e w3 ⟨rfl, rfl⟩
      exact ⟨rfl, endsBad HX2.out HT2.out HR2.out⟩
  · have hx' : onlyBody l = .bad n r := by unfold onlyBody; rw [hx]; rfl
    exact ⟨rfl, endsBad hx' hT hR⟩

end Go.Proofs.YthogickpeldhlaaGreat
