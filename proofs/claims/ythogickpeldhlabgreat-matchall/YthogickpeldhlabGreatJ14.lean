import Derived.Test.YthogickpeldhlabGreatJ13
import Derived.Defers
import Derived.Recover
/- The walk of syntax.list at atoms. -/
namespace Go.Proofs.YthogickpeldhlabGreat
open Go.RowKit Go.Sort

theorem infoAtom : ∃ i, Tryz.prog.info? 33 = some i ∧ i.zero = some (.agg #[.bool false, .string ByteArray.empty, .slice none 0 0]) ∧ i.size = 3 ∧ i.bytes = 48 := ⟨Tryz.t33, by kernel_rfl, by kernel_rfl, by kernel_rfl, by kernel_rfl⟩

theorem appendAtom {lo : Nat} {w : World} {v : Value} {l : List AtomD} (h : atomK.own 33 lo w v l) {c : List Value} {x : AtomD} (hc : atomK.is (fun k => lo ≤ k ∧ v.ownBlock ≠ some k) w c x) (hl : l.length + 1 ≤ 1099511627776) (hlo : lo ≤ w.heap.size) :
    ∃ v' w', (Builtin.append_ #[22, 22] 22 #[v, .slice (some ⟨w.heap.size, 0, none⟩) 1 1]).run Tryz.prog (w.alloc (.cells c.toArray 33)) = .ok v' w' ∧ atomK.own 33 lo w' v' (l ++ [x]) ∧ (w.alloc (.cells c.toArray 33)).grownBy w' v.ownBlock := by
  obtain ⟨i, i1, i2, i3, i4⟩ := infoAtom
  exact Kind.own_append h Tryz.underlying22 i1 i2 i3 i4 rfl (by decide) (by decide) hc hl hlo

set_option maxHeartbeats 2000000 in
theorem listAtom (p : Nat) (s : ByteArray) (l : Bs) (w : World) (h : Rd w p s l) :
    Calls Tryz.prog 51 #[.pointer (some ⟨p, 0, none⟩), .int .i64 5, .func (.func 52) #[.pointer (some ⟨p, 0, none⟩)] #[]] w fun e w' => Ends' p s w (atomK.sl (From w.heap.size)) (listP bodyAtom 5 l) e w' := by
  have hlt := h.lt
  have HC := hide (bodyAtomC p s l w h)
  clear h
  go_enter Tryz.func51, Tryz.ntmps51
  go_wp2_with fail
  refine HC.out.mono ?_
  intro e w1 hE
  obtain ⟨hT, ⟨a, r, v, hx, rfl, ⟨c, rfl, hK⟩, hR⟩ | ⟨n, r, hx, rfl, hR⟩⟩ := hE.split
  · have HO := hide (Kind.own_one (ty := 33) hK hT.size)
    have HG : Hid (listGo bodyAtom 4 [a] r = listP bodyAtom 5 l) := by show _ = _; unfold listP; rw [hx]; rfl
    have HT := hide (hT.alloc (.cells c.toArray 33))
    have HR := hide (hR.below ((((Later.refl w1).alloc (.cells c.toArray 33))).below))
    have hlo := hT.size
    obtain ⟨tv, rfl, hts⟩ := hK
    obtain ⟨ta, tc, rfl⟩ := Kind.slice hts
    clear hts
    clear hx hT hR hE HC
    go_wp2
    go_loopg [7] 4 (fun k o wr => ∃ out l', k + out.length = 5 ∧ atomK.own 33 w.heap.size wr o out ∧ listGo bodyAtom k out l' = listP bodyAtom 5 l ∧ Rd wr p s l' ∧ Tn p w wr)
    case atStart => exact ⟨[a], r, rfl, HO.out, HG.out, HR.out, HT.out⟩
    case round =>
      obtain ⟨out, l', hk, hO, hG, hR, hT⟩ := hrel
      clear HO HG HR HT
      obtain ⟨ao, co, rfl⟩ := Kind.own_slice hO
      have HO := hide hO
      have HG := hide hG
      have HC := hide (tookC p s l' [44] wr hR)
      have HT := hide hT
      clear hO hG hR hT
      go_wp2_with fail
      refine HC.out.mono ?_
      rintro e w2 ⟨rfl, hR2, hT2⟩
      have HR2 := hide hR2
      have HT2 := hide (HT.out.trans hT2)
      have HO2 := hide (Kind.own_turned HO.out hT2 hlt)
      cases ht : (took [44] l').1
      · have HX : Hid (listP bodyAtom 5 l = .ok out (took [44] l').2) := by
          show _ = _; rw [← HG.out]; unfold listGo; rw [if_neg (by rw [ht]; simp)]
        clear ht hR2 hT2 HO HC HG HT
        go_wp2
        go_ret
        exact endsOk HX.out HT2.out (Kind.own_sl HO2.out (by omega)) HR2.out
      · cases gk with
        | zero =>
          have HX : Hid (listP bodyAtom 5 l = .bad 5 (took [44] l').2) := by
            show _ = _; rw [← HG.out]; unfold listGo; rw [if_pos ht]
          have hlen : ((out.length : Int) == 5) = true := by rw [beq_iff_eq]; omega
          have HF := hide (failC p s _ 5 w2 hR2)
          clear ht hR2 hT2 HO HC HG HT
          go_wp2_with fail
          refine HF.out.mono ?_
          rintro e w3 ⟨rfl, rfl⟩
          exact ⟨rfl, endsBad HX.out HT2.out HR2.out⟩
        | succ n =>
          have HX : Hid (listP bodyAtom 5 l = (bodyAtom (took [44] l').2).next fun a r => listGo bodyAtom n (out ++ [a]) r) := by
            show _ = _; rw [← HG.out, listGo_yes ht]
          have hlen : ((out.length : Int) == 5) = false := by rw [beq_eq_false_iff_ne]; omega
          have HP := hide (bodyAtomC p s _ w2 hR2)
          clear ht hR2 hT2 HO HC HG HT
          go_wp2_with fail
          refine HP.out.mono ?_
          intro e w3 hE
          obtain ⟨hT3, ⟨a', r', v, hx, rfl, ⟨c', rfl, hK3⟩, hR3⟩ | ⟨n', r', hx, rfl, hR3⟩⟩ := hE.split
          · have hO3 := Kind.own_turned HO2.out hT3 hlt
            have hsz2 := HT2.out.size
            obtain ⟨v', w4, hrun, hO4, hg4⟩ := appendAtom hO3 (atomK.mono hK3 fun k hk hB => ⟨by have : w2.heap.size ≤ k := hB; omega, fun e => by
              have h1 := (Kind.own_lt HO2.out e).2
              have h2 : w2.heap.size ≤ k := hB
              omega⟩) (by omega) (by have := hT3.size; omega)
            have HR4 := hide hrun
            have HO4 := hide hO4
            have HG4 : Hid (listGo bodyAtom n (out ++ [a']) r' = listP bodyAtom 5 l) := by show _ = _; rw [HX.out, hx]; rfl
            have hblk : ∀ k, k < w3.heap.size → k < w.heap.size → w4.heap[k]? = w3.heap[k]? := fun k hk hk' =>
              (hg4.block k (by simp; omega) (fun e => by have := (Kind.own_lt HO2.out e.symm).1; omega)).trans (Below.heap_alloc w3 _ k hk)
            have hs4 : w3.heap.size ≤ w4.heap.size := by have := hg4.size; simp at this; omega
            have HT4 : Hid (Tn p w w4) := ⟨hg4.os.trans (hT3.os.trans HT2.out.os), hg4.tape.trans (hT3.tape.trans HT2.out.tape), hg4.output.trans (hT3.output.trans HT2.out.output), by have := hT3.size; omega,
              fun k hk ho => (hblk k (by have := hT3.size; omega) hk).trans ((hT3.block k (by omega) ho).trans (HT2.out.block k hk ho))⟩
            have hRd : Rd w4 p s r' := ⟨hR3.short, hR3.suf, by have := hR3.lt; omega, hR3.ne,
              by rw [World.cell?_of_block (w := w3) (a := ⟨p, 0, none⟩) (hblk p hR3.lt hlt)]; exact hR3.c0, by rw [World.cell?_of_block (w := w3) (a := ⟨p, 1, none⟩) (hblk p hR3.lt hlt)]; exact hR3.c1,
              by rw [World.frozen?_of_block (w := w3) (a := ⟨p, 1, none⟩) (hblk p hR3.lt hlt)]; exact hR3.fz,
              by obtain ⟨m, e⟩ := hR3.g; exact ⟨m, by rw [World.cell?_of_block (w := w3) (a := ⟨0, 0, none⟩) (hblk 0 (by have := hR3.lt; omega) (by omega))]; exact e⟩⟩
            have HRd := hide hRd
            obtain ⟨tv3, rfl, hts3⟩ := hK3
            obtain ⟨ta3, tc3, rfl⟩ := Kind.slice hts3
            clear hts3
            clear hx hE hT3 hR3 hrun hO4 hg4 hO3 hRd hblk HR2
            go_wp2_with (at_builtin; refine wpList_append_run rfl (.tmp 21) (.tmp 24) 22 rfl _ _ _ _ rfl rfl HR4.out ?_)
            go_roundg n
            case measure => exact Nat.lt_succ_self n
            case rel => exact ⟨out ++ [a'], r', by simp; omega, HO4.out, HG4.out, HRd.out, HT4.out⟩
          · have hx' : listP bodyAtom 5 l = .bad n' r' := by rw [HX.out, hx]; rfl
            exact ⟨rfl, endsBad hx' (HT2.out.trans hT3) hR3⟩
  · have hx' : listP bodyAtom 5 l = .bad n r := by unfold listP; rw [hx]; rfl
    exact ⟨rfl, endsBad hx' hT hR⟩

end Go.Proofs.YthogickpeldhlabGreat

/- The walks of a reader's body, rule and rules. -/
namespace Go.Proofs.YthogickpeldhlabGreat
open Go.RowKit Go.Sort

set_option maxHeartbeats 1000000 in
theorem bodyC (p : Nat) (s : ByteArray) (l : Bs) (w : World) (h : Rd w p s l) :
    Calls Tryz.prog 35 #[.pointer (some ⟨p, 0, none⟩)] w fun e w' => Ends' p s w (atomK.sl (From w.heap.size)) (body l) e w' := by
  have HC := hide (listAtom p s l w h)
  have hmf : ∀ (fn : Fn) (first cap : Array Value) (w : World), (Instr.makeFunc fn first cap).run Tryz.prog w = .ok (.func fn first cap) w := fun _ _ _ _ => rfl
  clear h
  go_enter Tryz.func35, Tryz.ntmps35
  go_wp2_with fail
  refine HC.out.mono ?_
  intro e w1 hE
  obtain ⟨hT, ⟨a, r, v, hx, rfl, hV, hR⟩ | ⟨n, r, hx, rfl, hR⟩⟩ := hE.split
  · obtain ⟨a1, c1, rfl⟩ := Kind.slice hV
    have HX : Hid (body l = .ok a r) := hx
    have HT := hide hT
    have HV := hide hV
    have HR := hide hR
    clear hx hT hV hR hE
    go_wp2
    go_ret
    exact endsOk HX.out HT.out HV.out HR.out
  · exact ⟨rfl, endsBad hx hT hR⟩

theorem row4 {w : World} {b : Nat} {x y z u : Value} {t : TypeId} (h : w.heap[b]? = some (.cells #[x, y, z, u] t (0, 0))) :
    w.cell? ⟨b, 0, none⟩ = some x ∧ w.cell? ⟨b, 1, none⟩ = some y ∧ w.cell? ⟨b, 2, none⟩ = some z ∧ w.cell? ⟨b, 3, none⟩ = some u ∧ w.frozen? ⟨b, 0, none⟩ = false ∧ w.frozen? ⟨b, 1, none⟩ = false ∧ w.frozen? ⟨b, 2, none⟩ = false ∧ w.frozen? ⟨b, 3, none⟩ = false :=
  ⟨by rw [cell_of_row _ _ _ _ _ _ h]; rfl, by rw [cell_of_row _ _ _ _ _ _ h]; rfl, by rw [cell_of_row _ _ _ _ _ _ h]; rfl, by rw [cell_of_row _ _ _ _ _ _ h]; rfl, frozen_row h, frozen_row h, frozen_row h, frozen_row h⟩

/-- From lo on, but not at q. -/
abbrev But (lo q : Nat) : Nat → Prop := fun k => lo ≤ k ∧ k ≠ q
theorem Kind.sl_tn {α : Type} {K : Kind α} {p q lo : Nat} {w w' : World} {v : Value} {l : List α} (h : K.sl (But lo q) w v l) (k : Tn p w w') (hp : p < lo ∨ p = q) : K.sl (But lo q) w' v l :=
  Kind.sl_kept h k.size fun i hi hB => k.block i hi (by have := hB.1; have := hB.2; omega)
theorem Kind.sl_from {α : Type} {K : Kind α} {q lo : Nat} {w : World} {v : Value} {l : List α} (h : K.sl (But lo q) w v l) : K.sl (From lo) w v l := Kind.sl_mono h fun _ _ hB => hB.1

/-- The end of a rule: what must follow, and the result's store. -/
theorem ruleEnd {p lo b : Nat} {s : ByteArray} {l r : Bs} {w w4 : World} {a : AtomD} {bd : List AtomD} {tv bv : Value} (hX : rule l = .ok ⟨a, bd⟩ r) (hno : a.no = false) (hT : Tn p w w4) (hR : Rd w4 p s r)
    (hV : termK.sl (From lo) w4 tv a.terms) (hB : atomK.sl (From lo) w4 bv bd) (hlo : w.heap.size < lo) (hlt : p < w.heap.size) (hb : b = w.heap.size) :
    Ends' p s w (ruleK.val w.heap.size) (rule l) (.returned (.agg #[.bool false, .string (bs a.name), tv, bv])) ((((w4.setCell ⟨b, 0, none⟩ (.bool false)).setCell ⟨b, 1, none⟩ (.string (bs a.name))).setCell ⟨b, 2, none⟩ tv).setCell ⟨b, 3, none⟩ bv) := by
  subst hb
  have hTb : Tn w.heap.size w4 ((((w4.setCell ⟨w.heap.size, 0, none⟩ (.bool false)).setCell ⟨w.heap.size, 1, none⟩ (.string (bs a.name))).setCell ⟨w.heap.size, 2, none⟩ tv).setCell ⟨w.heap.size, 3, none⟩ bv) :=
    ((((Tn.refl _ w4).moved _ _).moved _ _).moved _ _).moved _ _
  have mono : ∀ k, k < ((((w4.setCell ⟨w.heap.size, 0, none⟩ (.bool false)).setCell ⟨w.heap.size, 1, none⟩ (.string (bs a.name))).setCell ⟨w.heap.size, 2, none⟩ tv).setCell ⟨w.heap.size, 3, none⟩ bv).heap.size → From lo k → From w.heap.size k :=
    fun k _ hB => by have : lo ≤ k := hB; show w.heap.size ≤ k; omega
  exact endsOk hX ((((hT.setCell (Or.inr (Nat.le_refl _)) _).setCell (Or.inr (Nat.le_refl _)) _).setCell (Or.inr (Nat.le_refl _)) _).setCell (Or.inr (Nat.le_refl _)) _)
    ⟨_, rfl, _, _, by rw [hno], Kind.sl_mono (Kind.sl_turned hV hTb hlo) mono, Kind.sl_mono (Kind.sl_turned hB hTb hlo) mono⟩ (hR.turned hTb (by omega) (by omega))

theorem atom_no {l r : Bs} {a : AtomD} (h : atom l = .ok a r) : a.no = false := by
  obtain ⟨w, r1, h1, h2⟩ := Res.next_ok h
  split at h2
  · obtain ⟨ts, r2, h4, h5⟩ := Res.next_ok h2
    rw [(mustTake_ok h5).2.1]
  · cases h2; rfl

/-- A reader, and what only it has turned, behind an append onto a row of the call's own. -/
theorem grownRd {p : Nat} {s : ByteArray} {r : Bs} {w w2 w3 w4 : World} {o : Obj} {row : Option Nat} (hg4 : (w3.alloc o).grownBy w4 row) (hrow : ∀ k, row = some k → w.heap.size ≤ k) (hT2 : Tn p w w2) (hT3 : Tn p w2 w3) (hR3 : Rd w3 p s r) (hlt : p < w.heap.size) : Rd w4 p s r ∧ Tn p w w4 := by
  have hs2 := hT2.size
  have hs3 := hT3.size
  have hblk : ∀ k, k < w3.heap.size → k < w.heap.size → w4.heap[k]? = w3.heap[k]? := fun k hk hk' =>
    (hg4.block k (by simp; omega) (fun e => by have := hrow k e.symm; omega)).trans (Below.heap_alloc w3 _ k hk)
  have hs4 : w3.heap.size ≤ w4.heap.size := by have := hg4.size; simp at this; omega
  exact ⟨⟨hR3.short, hR3.suf, by have := hR3.lt; omega, hR3.ne,
      by rw [World.cell?_of_block (w := w3) (a := ⟨p, 0, none⟩) (hblk p hR3.lt hlt)]; exact hR3.c0, by rw [World.cell?_of_block (w := w3) (a := ⟨p, 1, none⟩) (hblk p hR3.lt hlt)]; exact hR3.c1,
      by rw [World.frozen?_of_block (w := w3) (a := ⟨p, 1, none⟩) (hblk p hR3.lt hlt)]; exact hR3.fz,
      by obtain ⟨m, e⟩ := hR3.g; exact ⟨m, by rw [World.cell?_of_block (w := w3) (a := ⟨0, 0, none⟩) (hblk 0 (by have := hR3.lt; omega) (by omega))]; exact e⟩⟩,
    ⟨hg4.os.trans (hT3.os.trans hT2.os), hg4.tape.trans (hT3.tape.trans hT2.tape), hg4.output.trans (hT3.output.trans hT2.output), by omega,
      fun k hk ho => (hblk k (by omega) hk).trans ((hT3.block k (by omega) ho).trans (hT2.block k hk ho))⟩⟩

theorem rulesGo_yes {n : Nat} {out : List RuleD} {l : Bs} (h : skip l ≠ []) : rulesGo (n + 1) out l = (rule (skip l)).next fun a r => rulesGo n (out ++ [a]) r := by
  conv => lhs; unfold rulesGo
  exact if_neg h

set_option maxHeartbeats 1000000 in
theorem onlyBodyC (p : Nat) (s : ByteArray) (l : Bs) (w : World) (h : Rd w p s l) :
    Calls Tryz.prog 23 #[.pointer (some ⟨p, 0, none⟩)] w fun e w' => Ends' p s w (atomK.sl (From w.heap.size)) (onlyBody l) e w' := by
  have hlt := h.lt
  have HC := hide (bodyC p s l w h)
  clear h
  go_enter Tryz.func23, Tryz.ntmps23
  go_wp2_with fail
  refine HC.out.mono ?_
  intro e w1 hE
  obtain ⟨hT, ⟨a, r, v, hx, rfl, hV, hR⟩ | ⟨n, r, hx, rfl, hR⟩⟩ := hE.split
  · obtain ⟨a1, c1, rfl⟩ := Kind.slice hV
    have HX : Hid (onlyBody l = if skip r = [] then .ok a [] else .bad 2 (skip r)) := by show _ = _; unfold onlyBody; rw [hx]; rfl
    have HE := hide (endedC p s r w1 hR)
    have HT := hide hT
    have HV := hide hV
    clear hx hT hV hR hE HC
    go_wp2_with fail
    refine HE.out.mono ?_
    rintro e w2 ⟨rfl, hR2, hT2⟩
    have HT2 := hide (HT.out.trans hT2)
    have HV2 := hide (Kind.sl_turned HV.out hT2 hlt)
    have HM := hide (mustC p s _ (decide (skip r = [])) w2 hR2)
    by_cases ht : skip r = []
    · rw [decide_eq_true ht] at HM ⊢
      have HX2 : Hid (onlyBody l = .ok a []) := by show _ = _; rw [HX.out, if_pos ht]
      have HR2 : Hid (Rd w2 p s []) := by show Rd _ _ _ _; rw [← ht]; exact hR2
      clear ht hR2 hT2 HX HE HV HT
      go_wp2_with fail
      refine HM.out.mono ?_
      rintro e w3 ⟨rfl, rfl⟩
      go_wp2
      go_ret
      exact endsOk HX2.out HT2.out HV2.out HR2.out
    · rw [decide_eq_false ht] at HM ⊢
      have HX2 : Hid (onlyBody l = .bad 2 (skip r)) := by show _ = _; rw [HX.out, if_neg ht]
      have HR2 := hide hR2
      clear ht hR2 hT2 HX HE HV HT
      go_wp2_with fail
      refine HM.out.mono ?_
      rintro e w3 ⟨rfl, rfl⟩
      exact ⟨rfl, endsBad HX2.out HT2.out HR2.out⟩
  · have hx' : onlyBody l = .bad n r := by unfold onlyBody; rw [hx]; rfl
    exact ⟨rfl, endsBad hx' hT hR⟩

end Go.Proofs.YthogickpeldhlabGreat

/- The walks of syntax.read at rules, and of what calls it: a fault that is thrown is caught at the edge. -/
namespace Go.Proofs.YthogickpeldhlabGreat
open Go.RowKit Go.Sort

theorem assertThrown (v : Value) (w : World) : (Instr.typeAssert (.iface 83 v) 20 83 false).run Tryz.prog w = .ok v w := by
  kernel_rfl
theorem fieldThrown (x y : Int) (w : World) : (Instr.field 83 (.agg #[.int .i64 x, .int .i64 y]) 0).run Tryz.prog w = .ok (.agg #[.int .i64 x, .int .i64 y]) w := by
  kernel_rfl

/-- What a call answers beside a fault; where; that. -/
def toldRule (s : Bs) : List RuleD × Int × Nat :=
  if 3000 < s.length then ([], 4, 0) else match rulesGo 16 [] s with
    | .ok out _ => (out, 0, 0)
    | .bad n r => ([], n, s.length - r.length)

end Go.Proofs.YthogickpeldhlabGreat

/- The walks of syntax.read at atoms, and of what calls it: a fault that is thrown is caught at the edge. -/
namespace Go.Proofs.YthogickpeldhlabGreat
open Go.RowKit Go.Sort

set_option maxRecDepth 100000 in
set_option maxHeartbeats 1000000 in
theorem catchAtom (b : Nat) (x y : Int) (u0 u1 : Value) (w : World) (c0 : w.cell? ⟨b, 0, none⟩ = some u0) (c1 : w.cell? ⟨b, 1, none⟩ = some u1) (f0 : w.frozen? ⟨b, 0, none⟩ = false) (f1 : w.frozen? ⟨b, 1, none⟩ = false) :
    CallsD Tryz.prog 34 #[.pointer (some ⟨b, 0, none⟩)] (.panicking [{ v := .iface 83 (.agg #[.int .i64 x, .int .i64 y]), recovered := false }]) w fun e u' w' =>
      e = .returned (.tuple #[]) ∧ u' = .panicking [{ v := .iface 83 (.agg #[.int .i64 x, .int .i64 y]), recovered := true }] ∧ w' = (w.setCell ⟨b, 0, none⟩ (.int .i64 x)).setCell ⟨b, 1, none⟩ (.int .i64 y) := by
  have hta : ∀ (v : Value) (w : World), (Instr.typeAssert (.iface 83 v) 20 83 false).run Tryz.prog w = .ok v w := assertThrown
  have hfl := fieldThrown
  refine callsD_of_wpS Tryz.func34 rfl fun c₀ cs hu => ?_
  apply wpS_seq
  apply wpS_region
  simp [wpOpsS, go_sem, recoverD, hu, Tryz.ntmps34, Exit.thenS]
  refine wpS_of_wp ?_
  go_wp2
  simp [bodyPostS, results, Tryz.results34]

set_option maxRecDepth 100000 in
set_option maxHeartbeats 1000000 in
theorem idleAtom (b : Nat) (w : World) :
    CallsD Tryz.prog 34 #[.pointer (some ⟨b, 0, none⟩)] .returning w fun e u' w' => e = .returned (.tuple #[]) ∧ u' = .returning ∧ w' = w := by
  refine callsD_of_wpS Tryz.func34 rfl fun c₀ cs hu => ?_
  apply wpS_seq
  apply wpS_region
  simp [wpOpsS, go_sem, recoverD, hu, Tryz.ntmps34, Exit.thenS]
  refine wpS_of_wp ?_
  go_wp2
  cases c₀
  simp_all [bodyPostS, results, Tryz.results34]

/-- What a call answers beside a fault; where; that. -/
def toldAtom (s : Bs) : List AtomD × Int × Nat :=
  if 3000 < s.length then ([], 4, 0) else match onlyBody s with
    | .ok out _ => (out, 0, 0)
    | .bad n r => ([], n, s.length - r.length)

set_option maxRecDepth 100000 in
set_option maxHeartbeats 2000000 in
theorem readAtom (s : ByteArray) (w : World) (m : Int) (hm : w.cell? ⟨0, 0, none⟩ = some (.int .i64 m)) :
    Calls Tryz.prog 22 #[.string s, .func (.func 23) #[] #[]] w fun e w' => ∃ v, e = .returned (.tuple #[v, .agg #[.int .i64 (toldAtom (raw s)).2.1, .int .i64 (toldAtom (raw s)).2.2]]) ∧ atomK.sl (From w.heap.size) w' v (toldAtom (raw s)).1 ∧ Below w.heap.size w w' := by
  have hmf : ∀ (fn : Fn) (first cap : Array Value) (w : World), (Instr.makeFunc fn first cap).run Tryz.prog w = .ok (.func fn first cap) w := fun _ _ _ _ => rfl
  by_cases hs : 3000 < s.size
  · have HX : Hid (toldAtom (raw s) = ([], 4, 0)) := by show _ = _; unfold toldAtom; rw [if_pos (by rw [length_raw]; exact hs)]
    have hs' : (3000 : Int) < s.size := by omega
    go_enter_defers Tryz.func22, Tryz.ntmps22
    go_wp2
    simp only [bodyPostD]
    refine ⟨.tuple #[.slice none 0 0, .agg #[.int .i64 4, .int .i64 0]], by simp [results, Tryz.results22, go_sem], ?_⟩
    exact ⟨_, by rw [HX.out]; rfl, by rw [HX.out]; exact atomK.sl_nil _ _ _ _, ((Later.refl w).alloc _).below⟩
  · have h0 : 0 < w.heap.size := World.block_lt_of_cell? w _ hm
    have hRd : Rd ((w.alloc (.cells #[.int .i64 0, .int .i64 0] 48)).alloc (.cells #[.string s, .int .i64 0] 87)) (w.heap.size + 1) s (raw s) := by
      have hr : ((w.alloc (.cells #[.int .i64 0, .int .i64 0] 48)).alloc (.cells #[.string s, .int .i64 0] 87)).heap[w.heap.size + 1]? = some (.cells #[.string s, .int .i64 0] 87 (0, 0)) := by
        have := heap_alloc_new (w.alloc (.cells #[.int .i64 0, .int .i64 0] 48)) (.cells #[.string s, .int .i64 0] 87)
        simpa using this
      refine ⟨by omega, List.suffix_refl _, by simp, by omega, by rw [cell_of_row _ _ _ _ _ _ hr]; rfl, ?_, frozen_row hr, m, ?_⟩
      · rw [cell_of_row _ _ _ _ _ _ hr, pos, length_raw, Nat.sub_self]; rfl
      · rw [(((Later.refl w).alloc (.cells #[.int .i64 0, .int .i64 0] 48)).alloc (.cells #[.string s, .int .i64 0] 87)).cell (p := ⟨0, 0, none⟩) h0]; exact hm
    have HC := hide (onlyBodyC _ s _ _ hRd)
    have hs' : ¬ (3000 : Int) < s.size := by omega
    go_enter_defers Tryz.func22, Tryz.ntmps22
    go_wp2_with fail
    refine HC.out.mono ?_
    intro e w1 hE
    have hBB : Below w.heap.size w ((w.alloc (.cells #[.int .i64 0, .int .i64 0] 48)).alloc (.cells #[.string s, .int .i64 0] 87)) := (((Later.refl w).alloc _).alloc _).below
    have hfr : ((w.alloc (.cells #[.int .i64 0, .int .i64 0] 48)).alloc (.cells #[.string s, .int .i64 0] 87)).heap[w.heap.size]? = some (.cells #[.int .i64 0, .int .i64 0] 48 (0, 0)) := by
      rw [Below.heap_alloc _ _ _ (by simp)]; exact heap_alloc_new w _
    have hsz : ((w.alloc (.cells #[.int .i64 0, .int .i64 0] 48)).alloc (.cells #[.string s, .int .i64 0] 87)).heap.size = w.heap.size + 2 := by simp
    rw [hsz] at hE
    generalize (w.alloc (.cells #[.int .i64 0, .int .i64 0] 48)).alloc (.cells #[.string s, .int .i64 0] 87) = wb at *
    obtain ⟨hT, ⟨a, r, v, hx, rfl, hV, hR⟩ | ⟨n, r, hx, rfl, hR⟩⟩ := hE.split
    all_goals
      have hrow := hT.row hfr (b := w.heap.size) (by omega)
      have z0 : w1.cell? ⟨w.heap.size, 0, none⟩ = some (.int .i64 0) := by rw [cell_of_row _ _ _ _ _ _ hrow]; rfl
      have z1 : w1.cell? ⟨w.heap.size, 1, none⟩ = some (.int .i64 0) := by rw [cell_of_row _ _ _ _ _ _ hrow]; rfl
      have f0 := frozen_row (j := 0) hrow
      have f1 := frozen_row (j := 1) hrow
      have hB1 : Below w.heap.size w w1 := ⟨hT.os.trans hBB.os, hT.tape.trans hBB.tape, hT.output.trans hBB.output, by have := hT.size; omega, fun k hk => (hT.block k (by omega) (by omega)).trans (hBB.block k hk)⟩
    · have HX : Hid (toldAtom (raw s) = (a, 0, 0)) := by show _ = _; unfold toldAtom; rw [if_neg (by rw [length_raw]; exact hs), hx]
      have HV := hide hV
      have HB := hide hB1
      obtain ⟨av, cv, rfl⟩ := Kind.slice hV
      clear hE hT hx hR hBB hfr hRd HC hB1 hV hrow
      go_wp2
      refine leaves_cons (f := 34) (args := #[.pointer (some ⟨w.heap.size, 0, none⟩)]) (by simp) (by simp [go_sem]) ?_
      refine (idleAtom _ _).mono ?_
      rintro e u' w'' ⟨rfl, rfl, rfl⟩
      refine ⟨.tuple #[.slice av a.length cv, .agg #[.int .i64 0, .int .i64 0]], by simp [results, Tryz.results22, go_sem, z0, z1], _, by rw [HX.out]; rfl, ?_, ?_⟩
      · rw [HX.out]
        exact Kind.sl_mono (Kind.sl_turned HV.out (((Tn.refl w.heap.size w1).moved _ _).moved _ _) (by omega)) (fun k _ hB => by have : w.heap.size + 2 ≤ k := hB; show w.heap.size ≤ k; omega)
      · exact (HB.out.setCell (Nat.le_refl _) _).setCell (Nat.le_refl _) _
    · have HX : Hid (toldAtom (raw s) = ([], n, pos s r)) := by show _ = _; unfold toldAtom; rw [if_neg (by rw [length_raw]; exact hs), hx, length_raw]; rfl
      refine leaves_cons (f := 34) (args := #[.pointer (some ⟨w.heap.size, 0, none⟩)]) (by simp) (by simp [go_sem]) ?_
      refine (catchAtom _ _ _ _ _ _ z0 z1 f0 f1).mono ?_
      rintro e u' w'' ⟨rfl, rfl, rfl⟩
      refine ⟨.tuple #[.slice none 0 0, .agg #[.int .i64 n, .int .i64 (pos s r)]], by simp [results, Tryz.results22, go_sem, z0, z1], _, by rw [HX.out], ?_, ?_⟩
      · rw [HX.out]; exact atomK.sl_nil _ _ _ _
      · exact (hB1.setCell (Nat.le_refl _) _).setCell (Nat.le_refl _) _

set_option maxHeartbeats 1000000 in
theorem bodyFC (s : ByteArray) (w : World) (m : Int) (hm : w.cell? ⟨0, 0, none⟩ = some (.int .i64 m)) :
    Calls Tryz.prog 12 #[.string s] w fun e w' => ∃ v, e = .returned (.tuple #[v, .agg #[.int .i64 (toldAtom (raw s)).2.1, .int .i64 (toldAtom (raw s)).2.2]]) ∧ atomK.sl (From w.heap.size) w' v (toldAtom (raw s)).1 ∧ Below w.heap.size w w' := by
  have hb0 := World.block_lt_of_cell? w _ hm
  have hA := ((Later.refl w).alloc (.cells #[.int .i64 0, .int .i64 0] 48))
  have HC := hide (readAtom s (w.alloc (.cells #[.int .i64 0, .int .i64 0] 48)) m (by rw [hA.cell (p := ⟨0, 0, none⟩) hb0]; exact hm))
  go_enter Tryz.func12, Tryz.ntmps12
  go_wp2_with fail
  refine HC.out.mono ?_
  rintro e w1 ⟨v, rfl, hV, hB⟩
  have hrow : w1.heap[w.heap.size]? = some (.cells #[.int .i64 0, .int .i64 0] 48 (0, 0)) := by
    rw [hB.block _ (by simp)]; exact heap_alloc_new w _
  have z0 : w1.cell? ⟨w.heap.size, 0, none⟩ = some (.int .i64 0) := by rw [cell_of_row _ _ _ _ _ _ hrow]; rfl
  have z1 : w1.cell? ⟨w.heap.size, 1, none⟩ = some (.int .i64 0) := by rw [cell_of_row _ _ _ _ _ _ hrow]; rfl
  have f0 := frozen_row (j := 0) hrow
  have f1 := frozen_row (j := 1) hrow
  have HB : Hid (Below w.heap.size w w1) := ⟨hB.os.trans hA.below.os, hB.tape.trans hA.below.tape, hB.output.trans hA.below.output, by have := hB.size; simp at this; omega, fun k hk => (hB.block k (by simp; omega)).trans (hA.below.block k hk)⟩
  have HV := hide hV
  obtain ⟨av, cv, rfl⟩ := Kind.slice hV
  clear hV hB hA HC hrow hm
  generalize hy : toldAtom (raw s) = y at HV ⊢
  have HY := hide hy
  clear hy
  obtain ⟨out, n, k⟩ := y
  dsimp only at HV ⊢
  go_wp2
  refine bodyPost_ret (v := .tuple #[.slice av out.length cv, .agg #[.int .i64 n, .int .i64 k]]) (by simp [results, Tryz.results12, go_sem, z0, z1]) rfl ?_
  refine ⟨.slice av out.length cv, by rw [HY.out], ?_, (HB.out.setCell (Nat.le_refl _) _).setCell (Nat.le_refl _) _⟩
  rw [HY.out]
  exact Kind.sl_mono (Kind.sl_turned HV.out (((Tn.refl w.heap.size w1).moved _ _).moved _ _) (by simp)) (fun k _ hB => by have : (w.alloc _).heap.size ≤ k := hB; simp at this; show w.heap.size ≤ k; omega)

end Go.Proofs.YthogickpeldhlabGreat
