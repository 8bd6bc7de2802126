import Derived.Test.YthogickpeldhlabGreatJ12
import Derived.Test.YthogickpeldhlabGreatJ3
import Derived.Test.YthogickpeldhlabGreatJ9
/- The walks of syntax.text's methods that look behind blanks, and of a reader's fail and must. -/
namespace Go.Proofs.YthogickpeldhlabGreat
open Go.RowKit Go.Sort

theorem skip_suf (b : Bool) : ∀ l : Bs, skipM b l <:+ l := by
  intro l
  induction l generalizing b with
  | nil => cases b <;> exact List.suffix_refl _
  | cons c t ih =>
    cases b with
    | false =>
      simp only [skipM]
      split
      · exact (ih _).trans (List.suffix_cons _ _)
      · split
        · exact (ih _).trans (List.suffix_cons _ _)
        · exact List.suffix_refl _
    | true =>
      simp only [skipM]
      split
      · exact (ih _).trans (List.suffix_cons _ _)
      · exact (ih _).trans (List.suffix_cons _ _)

set_option maxHeartbeats 1000000 in
theorem endedC (p : Nat) (s : ByteArray) (l : Bs) (w : World) (h : Rd w p s l) :
    Calls Tryz.prog 37 #[.pointer (some ⟨p, 0, none⟩)] w fun e w' => e = .returned (.bool (decide (skip l = []))) ∧ Rd w' p s (skip l) ∧ Tn p w w' := by
  have HC := hide (skipC p s l w h)
  clear h
  go_enter Tryz.func37, Tryz.ntmps37
  go_wp2_with fail
  refine HC.out.mono ?_
  rintro e w1 ⟨rfl, hR, hT⟩
  have HR := hide hR
  have HT := hide hT
  have c0 := hR.c0; have c1 := hR.c1
  have hps := pos_le s (skip l)
  have hs := hR.short
  have HE : Hid (((pos s (skip l) : Int) == s.size) = decide (skip l = [])) := by
    show _ = _
    have hl := len_le hR.suf
    rw [Bool.eq_iff_iff, beq_iff_eq, decide_eq_true_iff]
    constructor
    · intro e
      simp only [pos] at e
      exact List.eq_nil_of_length_eq_zero (by omega)
    · intro e; rw [e]; simp [pos]
  clear hR hT
  generalize hk : pos s (skip l) = k at *
  clear hk
  go_wp2
  go_quiet (fail)
  go_wp2
  go_ret
  exact ⟨ret_bool HE.out, HR.out.drewN _, HT.out.drewN _⟩

set_option maxHeartbeats 1000000 in
theorem tookC (p : Nat) (s : ByteArray) (l g : Bs) (w : World) (h : Rd w p s l) :
    Calls Tryz.prog 66 #[.pointer (some ⟨p, 0, none⟩), .string (bs g)] w fun e w' => e = .returned (.bool (took g l).1) ∧ Rd w' p s (took g l).2 ∧ Tn p w w' := by
  have HC := hide (skipC p s l w h)
  clear h
  go_enter Tryz.func66, Tryz.ntmps66
  go_wp2_with fail
  refine HC.out.mono ?_
  rintro e w1 ⟨rfl, hR, hT⟩
  have HR := hide hR
  have HT := hide hT
  have c0 := hR.c0; have c1 := hR.c1; have fz := hR.fz
  have hps := pos_le s (skip l)
  have hs := hR.short
  have hcut := cut_bs hR.suf
  have hgz : (bs g).size = g.length := size_bs g
  have HP : Hid (∀ q, Calls Tryz.prog 94 #[.string (bs (skip l)), .string (bs g)] (w1.drewN q) fun e w' => e = .returned (.bool (g.isPrefixOf (skip l))) ∧ w' = w1.drewN q) := fun q => by
    have := Tryz.strings_HasPrefix (bs (skip l)) (bs g) (w1.drewN q)
    have e1 : (bs (skip l)).data.toList = skip l := raw_bs _
    have e2 : (bs g).data.toList = g := raw_bs _
    rw [e1, e2] at this
    exact this
  have hll := len_le hR.suf
  clear hR hT
  cases hpre : g.isPrefixOf (skip l)
  · have HE : Hid (took g l = (false, skip l)) := by show _ = _; unfold took; rw [hpre]; rfl
    rw [hpre] at HP
    clear hpre
    generalize hk : pos s (skip l) = k at *
    clear hk
    go_wp2
    go_quiet ((go_at_call 94; exact Calls.quiet_of_same (HP.out _)))
    go_wp2
    go_ret
    rw [HE.out]
    exact ⟨rfl, HR.out.drewN _, HT.out.drewN _⟩
  · have hle : g.length ≤ (skip l).length := (List.isPrefixOf_iff_prefix.1 hpre).length_le
    have HE : Hid (took g l = (true, (skip l).drop g.length)) := by show _ = _; unfold took; rw [hpre]; rfl
    have hps2 : pos s (skip l) + g.length ≤ s.size := by simp only [pos]; omega
    have HM := hide (fun q => (HR.out.drewN q).moved hle rfl)
    rw [hpre] at HP
    clear hpre
    generalize hk : pos s (skip l) = k at *
    clear hk
    go_wp2
    go_quiet ((go_at_call 94; exact Calls.quiet_of_same (HP.out _)))
    go_wp2
    go_ret
    rw [HE.out]
    exact ⟨rfl, HM.out _, (HT.out.drewN _).moved _ _⟩

set_option maxHeartbeats 1000000 in
theorem aheadC (p : Nat) (s : ByteArray) (l : Bs) (w : World) (h : Rd w p s l) :
    Calls Tryz.prog 114 #[.pointer (some ⟨p, 0, none⟩)] w fun e w' => e = .returned (.string (bs ((skip l).takeWhile isSign))) ∧ Rd w' p s (skip l) ∧ Tn p w w' := by
  have HC := hide (skipC p s l w h)
  clear h
  go_enter Tryz.func114, Tryz.ntmps114
  go_wp2_with fail
  refine HC.out.mono ?_
  rintro e w1 ⟨rfl, hR, hT⟩
  have HR := hide hR
  have HT := hide hT
  have c0 := hR.c0; have c1 := hR.c1; have fz := hR.fz
  have hps := pos_le s (skip l)
  have hs := hR.short
  have hcut := cut_bs hR.suf
  have hll := len_le hR.suf
  have HP : Hid (∀ q, Calls Tryz.prog 100 #[.string (bs (skip l))] (w1.drewN q) fun e w' => e = .returned (.string (bs ((skip l).takeWhile isSign))) ∧ w' = w1.drewN q) := fun q => by
    have := wordC (bs (skip l)) (w1.drewN q) (by rw [size_bs]; omega)
    rw [raw_bs] at this
    exact this
  clear hR hT
  generalize hk : pos s (skip l) = k at *
  clear hk
  go_wp2
  go_quiet ((go_at_call 100; exact Calls.quiet_of_same (HP.out _)))
  go_wp2
  go_ret
  exact ⟨rfl, HR.out.drewN _, HT.out.drewN _⟩

/-- What a reader's fault is thrown as. -/
def thrownV (e : Int) (s : ByteArray) (r : Bs) : Ending := .panicked [{ v := .iface 83 (.agg #[.int .i64 e, .int .i64 (pos s r)]), recovered := false }]

set_option maxHeartbeats 1000000 in
theorem failC (p : Nat) (s : ByteArray) (l : Bs) (x : Int) (w : World) (h : Rd w p s l) :
    Calls Tryz.prog 53 #[.pointer (some ⟨p, 0, none⟩), .int .i64 x] w fun e w' => e = thrownV x s l ∧ w' = w := by
  have c0 := h.c0; have c1 := h.c1
  clear h
  unfold thrownV
  go_enter Tryz.func53, Tryz.ntmps53
  go_wp2
  exact ⟨rfl, rfl, rfl⟩

set_option maxHeartbeats 1000000 in
theorem mustC (p : Nat) (s : ByteArray) (l : Bs) (b : Bool) (w : World) (h : Rd w p s l) :
    Calls Tryz.prog 36 #[.pointer (some ⟨p, 0, none⟩), .bool b] w fun e w' => e = (if b then .returned (.tuple #[]) else thrownV 2 s l) ∧ w' = w := by
  have HF := hide (failC p s l 2 w h)
  clear h
  cases b
  · go_enter Tryz.func36, Tryz.ntmps36
    go_wp2_with fail
    refine HF.out.mono ?_
    rintro e w1 ⟨rfl, rfl⟩
    exact ⟨rfl, rfl, rfl⟩
  · go_enter Tryz.func36, Tryz.ntmps36
    go_wp2
    go_end0
    exact ⟨rfl, rfl⟩

/-- How a reader's method ends: with a value of what is read, or thrown out of. -/
def Ends' {α : Type} (p : Nat) (s : ByteArray) (w : World) (V : World → Value → α → Prop) (x : Res α) (e : Ending) (w' : World) : Prop :=
  Tn p w w' ∧ match x with
    | .ok a r => (∃ v, e = .returned v ∧ V w' v a) ∧ Rd w' p s r
    | .bad n r => e = thrownV n s r ∧ Rd w' p s r

theorem endsOk {α : Type} {p : Nat} {s : ByteArray} {w w' : World} {V : World → Value → α → Prop} {x : Res α} {a : α} {r : Bs} {v : Value} (hx : x = .ok a r) (hT : Tn p w w') (hV : V w' v a) (hR : Rd w' p s r) : Ends' p s w V x (.returned v) w' := by
  subst hx; exact ⟨hT, ⟨v, rfl, hV⟩, hR⟩
theorem endsBad {α : Type} {p : Nat} {s : ByteArray} {w w' : World} {V : World → Value → α → Prop} {x : Res α} {n : Int} {r : Bs} (hx : x = .bad n r) (hT : Tn p w w') (hR : Rd w' p s r) : Ends' p s w V x (thrownV n s r) w' := by
  subst hx; exact ⟨hT, rfl, hR⟩

/-- What is asked of a function that fits words. -/
def Fits (g : Nat) (f : Bs → Bool) : Prop := ∀ l w, l.length ≤ 3000 → Calls Tryz.prog g #[.string (bs l)] w fun e w' => e = .returned (.bool (f l)) ∧ w' = w

theorem fitsNamed : Fits 69 isNamed := fun l w _ => by
  have := named (bs l) w
  rw [namedB_eq, raw_bs] at this
  exact this

theorem bs_empty : bs [] = { data := #[] } := rfl

theorem toList_none : (bs []).toList = [] := by
  unfold ByteArray.toList ByteArray.toList.loop
  rfl

set_option maxHeartbeats 400000 in
theorem cloneC (s : ByteArray) (w : World) (hs : s.size ≤ 281474976710656) : Calls Tryz.prog 115 #[.string s] w fun e w' => e = .returned (.string s) ∧ Below w.heap.size w w' := by
  have HC := hide (Tryz.stringslite_Clone s w hs)
  go_enter Tryz.func115, Tryz.ntmps115
  go_wp2_with fail
  refine HC.out.mono ?_
  rintro e w1 ⟨rfl, hB⟩
  have HB := hide hB
  clear hB
  go_wp2
  go_ret
  exact ⟨rfl, HB.out⟩

theorem emptyB (x : Bs) (h : x ≠ []) : (bs x).toList.isEmpty = false := by
  cases hx : (bs x).toList.isEmpty with
  | false => rfl
  | true =>
    exfalso
    apply h
    have e : (bs x).toList = (bs []).toList := by
      rw [List.isEmpty_iff.1 hx, toList_none]
    exact bs_inj (toList_inj e)

set_option maxHeartbeats 2000000 in
theorem wordR (g : Nat) (f : Bs → Bool) (hg : Fits g f) (eg : ∀ args w, (callFunc g args).run Tryz.prog w = .ok (.enter g args) w) (p : Nat) (s : ByteArray) (l : Bs) (w : World) (h : Rd w p s l) :
    Calls Tryz.prog 95 #[.pointer (some ⟨p, 0, none⟩), .func (.func g) #[] #[]] w fun e w' => Ends' p s w (fun _ v a => v = .string (bs a)) (word f l) e w' := by
  have HC := hide (aheadC p s l w h)
  have HG := hide hg
  clear h hg
  go_enter Tryz.func95, Tryz.ntmps95
  go_wp2_with fail
  refine HC.out.mono ?_
  rintro e w1 ⟨rfl, hR, hT⟩
  have HR := hide hR
  have HT := hide hT
  have c0 := hR.c0; have c1 := hR.c1; have fz := hR.fz
  have hps := pos_le s (skip l)
  have hs := hR.short
  have hll := len_le hR.suf
  have hle : ((skip l).takeWhile isSign).length ≤ (skip l).length := (List.takeWhile_prefix _).length_le
  have hps2 : pos s (skip l) + ((skip l).takeWhile isSign).length ≤ s.size := by simp only [pos]; omega
  have HM := hide (fun w' (h' : Rd w' p s (skip l)) => h'.moved hle rfl)
  have hz := size_bs ((skip l).takeWhile isSign)
  by_cases h0 : (skip l).takeWhile isSign = []
  · have HW : Hid (word f l = .bad 2 (skip l)) := by show _ = _; unfold word; rw [if_pos h0]
    rw [h0] at hz ⊢
    have HF := hide (mustC p s (skip l) false w1 hR)
    have he : (bs []).toList.isEmpty = true := by rw [toList_none]; rfl
    clear hR hT h0
    go_wp2_with fail
    refine HF.out.mono ?_
    rintro e w2 ⟨rfl, rfl⟩
    exact ⟨rfl, endsBad HW.out HT.out HR.out⟩
  · have he := emptyB _ h0
    have HF := hide (mustC p s (skip l) true w1 hR)
    have HFT := hide (failC p s (skip l) 7 w1 hR)
    have HB : Hid (((skip l).takeWhile isSign).length ≤ 3000) := by show _ ≤ _; omega
    have HCl := hide (fun w' => cloneC (bs ((skip l).takeWhile isSign)) w' (by rw [size_bs]; omega))
    have HW : Hid (word f l = if f ((skip l).takeWhile isSign) then .ok ((skip l).takeWhile isSign) ((skip l).drop ((skip l).takeWhile isSign).length) else .bad 7 (skip l)) := by
      show _ = _; unfold word; rw [if_neg h0]
    clear hR hT h0
    generalize (skip l).takeWhile isSign = x at *
    cases hf : f x
    · rw [hf] at HW
      go_wp2_with fail
      refine HF.out.mono ?_
      rintro e w2 ⟨rfl, rfl⟩
      go_wp2_with fail
      refine (HG.out x _ HB.out).mono ?_
      rintro e w2 ⟨rfl, rfl⟩
      rw [hf]
      go_wp2_with fail
      refine HFT.out.mono ?_
      rintro e w2 ⟨rfl, rfl⟩
      exact ⟨rfl, endsBad HW.out HT.out HR.out⟩
    · rw [hf] at HW
      go_wp2_with fail
      refine HF.out.mono ?_
      rintro e w2 ⟨rfl, rfl⟩
      go_wp2_with fail
      refine (HG.out x _ HB.out).mono ?_
      rintro e w2 ⟨rfl, rfl⟩
      rw [hf]
      have HM1 := hide (HM.out _ HR.out)
      have HT1 := hide (HT.out.moved (.int .i64 ((pos s (skip l) : Int) + x.length)) 1)
      generalize hk : pos s (skip l) = k at *
      clear hk
      go_wp2_with fail
      refine (HCl.out _).mono ?_
      rintro e w3 ⟨rfl, hB⟩
      have HB3 := hide hB
      clear hB
      go_wp2
      go_ret
      exact endsOk HW.out (HT1.out.trans (Tn.of_below HB3.out)) rfl (HM1.out.below HB3.out)

end Go.Proofs.YthogickpeldhlabGreat

/- The walks of a reader's term, list of terms, atom. -/
namespace Go.Proofs.YthogickpeldhlabGreat
open Go.RowKit Go.Sort

set_option maxHeartbeats 1000000 in
theorem fitsTermC : Fits 116 fitsTerm := fun l w hl => by
  have HN := hide (fitsNamed l)
  have HV : Hid (∀ w, Calls Tryz.prog 102 #[.string (bs l)] w fun e w' => e = .returned (.bool (isVar l)) ∧ w' = w) := fun w => by
    have := variableC (bs l) w
    rw [raw_bs] at this; exact this
  have F : Hid (fitsTerm l = (isNamed l || isVar l)) := (rfl : _ = _)
  cases h1 : isNamed l <;> cases h2 : isVar l
  all_goals
    rw [h1] at HN F
    rw [h2] at HV F
    go_enter Tryz.func116, Tryz.ntmps116
    go_wp2_with (first
      | (go_at_call 69; refine (HN.out _ hl).mono ?_; rintro e w' ⟨rfl, rfl⟩)
      | (go_at_call 102; refine (HV.out _).mono ?_; rintro e w' ⟨rfl, rfl⟩))
    go_ret
    exact ⟨ret_bool (by rw [F.out]; rfl), rfl⟩

theorem enters_term1 (args : Array Value) (w : World) : (callFunc 116 args).run Tryz.prog w = .ok (.enter 116 args) w := enters_of Tryz.func116 (by kernel_rfl) rfl args w
theorem enters_named (args : Array Value) (w : World) : (callFunc 69 args).run Tryz.prog w = .ok (.enter 69 args) w := enters_of Tryz.func69 (by kernel_rfl) rfl args w

theorem listGo_yes {α : Type} {part : Bs → Res α} {n : Nat} {out : List α} {l : Bs} (ht : (took [44] l).1 = true) : listGo part (n + 1) out l = (part (took [44] l).2).next fun a r => listGo part n (out ++ [a]) r := by
  conv => lhs; unfold listGo
  exact if_pos ht

/-- An ending, taken apart. -/
theorem Ends'.split {α : Type} {p : Nat} {s : ByteArray} {w w' : World} {V : World → Value → α → Prop} {x : Res α} {e : Ending} (h : Ends' p s w V x e w') :
    Tn p w w' ∧ ((∃ a r v, x = .ok a r ∧ e = .returned v ∧ V w' v a ∧ Rd w' p s r) ∨ ∃ n r, x = .bad n r ∧ e = thrownV n s r ∧ Rd w' p s r) := by
  obtain ⟨h1, h2⟩ := h
  refine ⟨h1, ?_⟩
  cases x with
  | ok a r => obtain ⟨⟨v, e1, e2⟩, e3⟩ := h2; exact Or.inl ⟨a, r, v, rfl, e1, e2, e3⟩
  | bad n r => exact Or.inr ⟨n, r, rfl, h2.1, h2.2⟩

theorem frozen_row {w : World} {b j : Nat} {arr : Array Value} {t : TypeId} (h : w.heap[b]? = some (.cells arr t (0, 0))) : w.frozen? ⟨b, j, none⟩ = false := by
  simp [World.frozen?, h]

theorem Rd.other {w : World} {p b o : Nat} {s : ByteArray} {l : Bs} (h : Rd w p s l) (hb : b ≠ p) (h0 : b ≠ 0) (v : Value) : Rd (w.setCell ⟨b, o, none⟩ v) p s l :=
  h.turned ((Tn.refl b w).moved v o) hb h0

set_option maxHeartbeats 1000000 in
theorem termC (p : Nat) (s : ByteArray) (l : Bs) (w : World) (h : Rd w p s l) :
    Calls Tryz.prog 97 #[.pointer (some ⟨p, 0, none⟩)] w fun e w' => Ends' p s w (termK.val w.heap.size) (term l) e w' := by
  have hlt := h.lt
  have hA : Tn p w (w.alloc (.cells #[.bool false, .string { data := #[] }] 55)) := (Tn.refl p w).alloc _
  have HW := hide (wordR 116 fitsTerm fitsTermC enters_term1 p s l _ (h.turned (Tn.of_below (p := p + 1) (((Later.refl w).alloc (.cells #[.bool false, .string { data := #[] }] 55)).below)) (by omega) (by omega)))
  have HA := hide hA
  clear h hA
  go_enter Tryz.func97, Tryz.ntmps97
  go_wp2_with fail
  refine HW.out.mono ?_
  intro e w1 hE
  obtain ⟨hT, ⟨a, r, v, hx, rfl, rfl, hR⟩ | ⟨n, r, hx, rfl, hR⟩⟩ := hE.split
  · have hx' : term l = .ok (isVar a, a) r := by unfold term; rw [hx]; rfl
    have hrow : w1.heap[w.heap.size]? = some (.cells #[.bool false, .string { data := #[] }] 55 (0, 0)) := by
      rw [hT.block _ (by simp) (by omega)]; exact heap_alloc_new w _
    have z0 : w1.cell? ⟨w.heap.size, 0, none⟩ = some (.bool false) := by rw [cell_of_row _ _ _ _ _ _ hrow]; rfl
    have z1 : w1.cell? ⟨w.heap.size, 1, none⟩ = some (.string { data := #[] }) := by rw [cell_of_row _ _ _ _ _ _ hrow]; rfl
    have f0 := frozen_row (j := 0) hrow
    have f1 := frozen_row (j := 1) hrow
    have HV : Hid (Calls Tryz.prog 102 #[.string (bs a)] w1 fun e w' => e = .returned (.bool (isVar a)) ∧ w' = w1) := by
      have := variableC (bs a) w1
      rw [raw_bs] at this; exact this
    have HX := hide hx'
    have HT := hide (HA.out.trans hT)
    have HR := hide hR
    have hp0 := hR.ne
    clear hx hx' hT hR hrow hE HA
    go_wp2_with (go_at_call 102; refine HV.out.mono ?_; rintro e w' ⟨rfl, rfl⟩)
    refine bodyPost_ret (v := .agg #[.bool (isVar a), .string (bs a)]) (by simp [results, Tryz.results97, go_sem, z0, z1]) rfl ?_
    exact endsOk HX.out ((HT.out.setCell (Or.inr (Nat.le_refl _)) _).setCell (Or.inr (Nat.le_refl _)) _) ⟨_, rfl, rfl⟩ ((HR.out.other (by omega) (by omega) _).other (by omega) (by omega) _)
  · have hx' : term l = .bad n r := by unfold term; rw [hx]; rfl
    exact ⟨rfl, endsBad hx' (HA.out.trans hT) hR⟩

end Go.Proofs.YthogickpeldhlabGreat

/- The walk of syntax.list at terms. -/
namespace Go.Proofs.YthogickpeldhlabGreat
open Go.RowKit Go.Sort

theorem infoTerm : ∃ i, Tryz.prog.info? 55 = some i ∧ i.zero = some (.agg #[.bool false, .string ByteArray.empty]) ∧ i.size = 2 ∧ i.bytes = 24 := ⟨Tryz.t55, by kernel_rfl, by kernel_rfl, by kernel_rfl, by kernel_rfl⟩

theorem appendTerm {lo : Nat} {w : World} {v : Value} {l : List TermD} (h : termK.own 55 lo w v l) {c : List Value} {x : TermD} (hc : termK.is (fun k => lo ≤ k ∧ v.ownBlock ≠ some k) w c x) (hl : l.length + 1 ≤ 1099511627776) (hlo : lo ≤ w.heap.size) :
    ∃ v' w', (Builtin.append_ #[31, 31] 31 #[v, .slice (some ⟨w.heap.size, 0, none⟩) 1 1]).run Tryz.prog (w.alloc (.cells c.toArray 55)) = .ok v' w' ∧ termK.own 55 lo w' v' (l ++ [x]) ∧ (w.alloc (.cells c.toArray 55)).grownBy w' v.ownBlock := by
  obtain ⟨i, i1, i2, i3, i4⟩ := infoTerm
  exact Kind.own_append h Tryz.underlying31 i1 i2 i3 i4 rfl (by decide) (by decide) hc hl hlo

set_option maxHeartbeats 2000000 in
theorem listTerm (p : Nat) (s : ByteArray) (l : Bs) (w : World) (h : Rd w p s l) :
    Calls Tryz.prog 96 #[.pointer (some ⟨p, 0, none⟩), .int .i64 4, .func (.func 97) #[.pointer (some ⟨p, 0, none⟩)] #[]] w fun e w' => Ends' p s w (termK.sl (From w.heap.size)) (listP term 4 l) e w' := by
  have hlt := h.lt
  have HC := hide (termC p s l w h)
  clear h
  go_enter Tryz.func96, Tryz.ntmps96
  go_wp2_with fail
  refine HC.out.mono ?_
  intro e w1 hE
  obtain ⟨hT, ⟨a, r, v, hx, rfl, ⟨c, rfl, hK⟩, hR⟩ | ⟨n, r, hx, rfl, hR⟩⟩ := hE.split
  · have HO := hide (Kind.own_one (ty := 55) hK hT.size)
    have HG : Hid (listGo term 3 [a] r = listP term 4 l) := by show _ = _; unfold listP; rw [hx]; rfl
    have HT := hide (hT.alloc (.cells c.toArray 55))
    have HR := hide (hR.below ((((Later.refl w1).alloc (.cells c.toArray 55))).below))
    have hlo := hT.size
    obtain rfl := hK
    clear hx hT hR hE HC
    go_wp2
    go_loopg [7] 3 (fun k o wr => ∃ out l', k + out.length = 4 ∧ termK.own 55 w.heap.size wr o out ∧ listGo term k out l' = listP term 4 l ∧ Rd wr p s l' ∧ Tn p w wr)
    case atStart => exact ⟨[a], r, rfl, HO.out, HG.out, HR.out, HT.out⟩
    case round =>
      obtain ⟨out, l', hk, hO, hG, hR, hT⟩ := hrel
      clear HO HG HR HT
      obtain ⟨ao, co, rfl⟩ := Kind.own_slice hO
      have HO := hide hO
      have HG := hide hG
      have HC := hide (tookC p s l' [44] wr hR)
      have HT := hide hT
      clear hO hG hR hT
      go_wp2_with fail
      refine HC.out.mono ?_
      rintro e w2 ⟨rfl, hR2, hT2⟩
      have HR2 := hide hR2
      have HT2 := hide (HT.out.trans hT2)
      have HO2 := hide (Kind.own_turned HO.out hT2 hlt)
      cases ht : (took [44] l').1
      · have HX : Hid (listP term 4 l = .ok out (took [44] l').2) := by
          show _ = _; rw [← HG.out]; unfold listGo; rw [if_neg (by rw [ht]; simp)]
        clear ht hR2 hT2 HO HC HG HT
        go_wp2
        go_ret
        exact endsOk HX.out HT2.out (Kind.own_sl HO2.out (by omega)) HR2.out
      · cases gk with
        | zero =>
          have HX : Hid (listP term 4 l = .bad 5 (took [44] l').2) := by
            show _ = _; rw [← HG.out]; unfold listGo; rw [if_pos ht]
          have hlen : ((out.length : Int) == 4) = true := by rw [beq_iff_eq]; omega
          have HF := hide (failC p s _ 5 w2 hR2)
          clear ht hR2 hT2 HO HC HG HT
          go_wp2_with fail
          refine HF.out.mono ?_
          rintro e w3 ⟨rfl, rfl⟩
          exact ⟨rfl, endsBad HX.out HT2.out HR2.out⟩
        | succ n =>
          have HX : Hid (listP term 4 l = (term (took [44] l').2).next fun a r => listGo term n (out ++ [a]) r) := by
            show _ = _; rw [← HG.out, listGo_yes ht]
          have hlen : ((out.length : Int) == 4) = false := by rw [beq_eq_false_iff_ne]; omega
          have HP := hide (termC p s _ w2 hR2)
          clear ht hR2 hT2 HO HC HG HT
          go_wp2_with fail
          refine HP.out.mono ?_
          intro e w3 hE
          obtain ⟨hT3, ⟨a', r', v, hx, rfl, ⟨c', rfl, hK3⟩, hR3⟩ | ⟨n', r', hx, rfl, hR3⟩⟩ := hE.split
          · have hO3 := Kind.own_turned HO2.out hT3 hlt
            have hsz2 := HT2.out.size
            obtain ⟨v', w4, hrun, hO4, hg4⟩ := appendTerm hO3 (termK.mono hK3 fun k hk hB => ⟨by have : w2.heap.size ≤ k := hB; omega, fun e => by
              have h1 := (Kind.own_lt HO2.out e).2
              have h2 : w2.heap.size ≤ k := hB
              omega⟩) (by omega) (by have := hT3.size; omega)
            have HR4 := hide hrun
            have HO4 := hide hO4
            have HG4 : Hid (listGo term n (out ++ [a']) r' = listP term 4 l) := by show _ = _; rw [HX.out, hx]; rfl
            have hblk : ∀ k, k < w3.heap.size → k < w.heap.size → w4.heap[k]? = w3.heap[k]? := fun k hk hk' =>
              (hg4.block k (by simp; omega) (fun e => by have := (Kind.own_lt HO2.out e.symm).1; omega)).trans (Below.heap_alloc w3 _ k hk)
            have hs4 : w3.heap.size ≤ w4.heap.size := by have := hg4.size; simp at this; omega
            have HT4 : Hid (Tn p w w4) := ⟨hg4.os.trans (hT3.os.trans HT2.out.os), hg4.tape.trans (hT3.tape.trans HT2.out.tape), hg4.output.trans (hT3.output.trans HT2.out.output), by have := hT3.size; omega,
              fun k hk ho => (hblk k (by have := hT3.size; omega) hk).trans ((hT3.block k (by omega) ho).trans (HT2.out.block k hk ho))⟩
            have hRd : Rd w4 p s r' := ⟨hR3.short, hR3.suf, by have := hR3.lt; omega, hR3.ne,
              by rw [World.cell?_of_block (w := w3) (a := ⟨p, 0, none⟩) (hblk p hR3.lt hlt)]; exact hR3.c0, by rw [World.cell?_of_block (w := w3) (a := ⟨p, 1, none⟩) (hblk p hR3.lt hlt)]; exact hR3.c1,
              by rw [World.frozen?_of_block (w := w3) (a := ⟨p, 1, none⟩) (hblk p hR3.lt hlt)]; exact hR3.fz,
              by obtain ⟨m, e⟩ := hR3.g; exact ⟨m, by rw [World.cell?_of_block (w := w3) (a := ⟨0, 0, none⟩) (hblk 0 (by have := hR3.lt; omega) (by omega))]; exact e⟩⟩
            have HRd := hide hRd
            obtain rfl := hK3
            clear hx hE hT3 hR3 hrun hO4 hg4 hO3 hRd hblk HR2
            go_wp2_with (at_builtin; refine wpList_append_run rfl (.tmp 21) (.tmp 24) 31 rfl _ _ _ _ rfl rfl HR4.out ?_)
            go_roundg n
            case measure => exact Nat.lt_succ_self n
            case rel => exact ⟨out ++ [a'], r', by simp; omega, HO4.out, HG4.out, HRd.out, HT4.out⟩
          · have hx' : listP term 4 l = .bad n' r' := by rw [HX.out, hx]; rfl
            exact ⟨rfl, endsBad hx' (HT2.out.trans hT3) hR3⟩
  · have hx' : listP term 4 l = .bad n r := by unfold listP; rw [hx]; rfl
    exact ⟨rfl, endsBad hx' hT hR⟩

end Go.Proofs.YthogickpeldhlabGreat

/- The walks of a reader's atom and bodyAtom. -/
namespace Go.Proofs.YthogickpeldhlabGreat
open Go.RowKit Go.Sort

theorem Rd.alloc {w : World} {p : Nat} {s : ByteArray} {l : Bs} (h : Rd w p s l) (o : Obj) : Rd (w.alloc o) p s l := h.below ((Later.refl w).alloc o).below

/-- A block that only others have turned around. -/
theorem Tn.row {p b : Nat} {w w' : World} {arr : Array Value} {t : TypeId} (h : Tn p w w') (hr : w.heap[b]? = some (.cells arr t (0, 0))) (hb : b ≠ p) : w'.heap[b]? = some (.cells arr t (0, 0)) := by
  rw [h.block b (Array.getElem?_eq_some_iff.1 hr).1 hb]; exact hr

theorem row3 {w : World} {b : Nat} {x y z : Value} {t : TypeId} (h : w.heap[b]? = some (.cells #[x, y, z] t (0, 0))) :
    w.cell? ⟨b, 0, none⟩ = some x ∧ w.cell? ⟨b, 1, none⟩ = some y ∧ w.cell? ⟨b, 2, none⟩ = some z ∧ w.frozen? ⟨b, 0, none⟩ = false ∧ w.frozen? ⟨b, 1, none⟩ = false ∧ w.frozen? ⟨b, 2, none⟩ = false :=
  ⟨by rw [cell_of_row _ _ _ _ _ _ h]; rfl, by rw [cell_of_row _ _ _ _ _ _ h]; rfl, by rw [cell_of_row _ _ _ _ _ _ h]; rfl, frozen_row h, frozen_row h, frozen_row h⟩

set_option maxHeartbeats 2000000 in
theorem atomC (p : Nat) (s : ByteArray) (l : Bs) (w : World) (h : Rd w p s l) :
    Calls Tryz.prog 67 #[.pointer (some ⟨p, 0, none⟩)] w fun e w' => Ends' p s w (atomK.val w.heap.size) (atom l) e w' := by
  have hlt := h.lt
  have hne := h.ne
  have hA : Tn p w (w.alloc (.cells #[.bool false, .string { data := #[] }, .slice none 0 0] 33)) := (Tn.refl p w).alloc _
  have HW := hide (wordR 69 isNamed fitsNamed enters_named p s l _ (h.alloc (.cells #[.bool false, .string { data := #[] }, .slice none 0 0] 33)))
  clear h
  go_enter Tryz.func67, Tryz.ntmps67
  go_wp2_with fail
  refine HW.out.mono ?_
  intro e w1 hE
  obtain ⟨hT, ⟨a, r, v, hx, rfl, rfl, hR⟩ | ⟨n, r, hx, rfl, hR⟩⟩ := hE.split
  · have hr1 := hT.row (heap_alloc_new w _) (b := w.heap.size) (by omega)
    have hlt1 : w.heap.size < w1.heap.size := by have := hT.size; simp at this; omega
    have hT1 := hA.trans hT
    have HTk := hide (tookC p s r [40] _ (hR.alloc (.cells #[.bool false, .string (bs a), .slice none 0 0] 33)))
    have HT1 := hide (hT1.alloc (.cells #[.bool false, .string (bs a), .slice none 0 0] 33))
    have HX : Hid (atom l = if (took [40] r).1 then (listP term 4 (took [40] r).2).next fun ts r => mustTake [41] ⟨false, a, ts⟩ r else .ok ⟨false, a, []⟩ (took [40] r).2) := by
      show _ = _; unfold atom; rw [hx]; rfl
    have hr1' := (Tn.refl p w1).alloc (.cells #[.bool false, .string (bs a), .slice none 0 0] 33) |>.row hr1 (by omega)
    have hr2 := heap_alloc_new w1 (.cells #[.bool false, .string (bs a), .slice none 0 0] 33)
    clear hx hT hR hE hA hT1 hr1 HW
    go_wp2_with fail
    refine HTk.out.mono ?_
    rintro e w2 ⟨rfl, hR2, hT2⟩
    replace hr1 := hT2.row hr1' (by omega)
    replace hr2 := hT2.row hr2 (by omega)
    have hlt2 : w1.heap.size < w2.heap.size := by have := hT2.size; simp at this; omega
    have HT2 := hide (HT1.out.trans hT2)
    have HR2 := hide hR2
    cases ht : (took [40] r).1
    · have HX2 : Hid (atom l = .ok ⟨false, a, []⟩ (took [40] r).2) := by show _ = _; rw [HX.out, if_neg (by rw [ht]; simp)]
      obtain ⟨z0, z1, z2, f0, f1, f2⟩ := row3 hr1
      obtain ⟨y0, y1, y2, _, _, _⟩ := row3 hr2
      clear ht hR2 hT2 HTk HT1 HX hr1' hr1 hr2
      go_wp2
      refine bodyPost_ret (v := .agg #[.bool false, .string (bs a), .slice none 0 0]) (by simp [results, Tryz.results67, go_sem, z0, z1, z2]) rfl ?_
      exact endsOk HX2.out (((HT2.out.setCell (Or.inr (Nat.le_refl _)) _).setCell (Or.inr (Nat.le_refl _)) _).setCell (Or.inr (Nat.le_refl _)) _) ⟨_, rfl, _, rfl, termK.sl_nil _ _ _ _⟩
        (((HR2.out.other (by omega) (by omega) _).other (by omega) (by omega) _).other (by omega) (by omega) _)
    · have HX2 : Hid (atom l = (listP term 4 (took [40] r).2).next fun ts r => mustTake [41] ⟨false, a, ts⟩ r) := by show _ = _; rw [HX.out, if_pos ht]
      have HL := hide (listTerm p s _ w2 hR2)
      clear ht hR2 hT2 HTk HT1 HX hr1'
      go_wp2_with fail
      refine HL.out.mono ?_
      intro e w3 hE3
      obtain ⟨hT3, ⟨ts, r3, v3, hx3, rfl, hV3, hR3⟩ | ⟨n, r3, hx3, rfl, hR3⟩⟩ := hE3.split
      · obtain ⟨a3, c3, rfl⟩ := Kind.slice hV3
        replace hr1 := hT3.row hr1 (by omega)
        replace hr2 := hT3.row hr2 (by omega)
        have hsz3 := hT3.size
        obtain ⟨y0, y1, y2, g0, g1, g2⟩ := row3 hr2
        obtain ⟨z0, z1, z2, f0, f1, f2⟩ := row3 hr1
        have hTs : Tn (w1.heap.size) w3 (w3.setCell ⟨w1.heap.size, 2, none⟩ (.slice a3 ts.length c3)) := (Tn.refl _ w3).moved _ _
        have HTk := hide (tookC p s r3 [41] _ (hR3.turned hTs (by omega) (by omega)))
        have HV3 : Hid (termK.sl (From w2.heap.size) (w3.setCell ⟨w1.heap.size, 2, none⟩ (.slice a3 ts.length c3)) (.slice a3 ts.length c3) ts) := Kind.sl_turned hV3 hTs (by omega)
        have HT3 := hide ((HT2.out.trans hT3).setCell (x := ⟨w1.heap.size, 2, none⟩) (Or.inr (by show w.heap.size ≤ w1.heap.size; omega)) (.slice a3 ts.length c3))
        have HX3 : Hid (atom l = mustTake [41] ⟨false, a, ts⟩ r3) := by show _ = _; rw [HX2.out, hx3]; rfl
        have hq1 := hTs.row hr1 (by omega)
        have q0 : (w3.setCell ⟨w1.heap.size, 2, none⟩ (.slice a3 ts.length c3)).cell? ⟨w1.heap.size, 0, none⟩ = some (.bool false) := by rw [World.cell?_setCell_other _ _ _ _ (by simp)]; exact y0
        have q1 : (w3.setCell ⟨w1.heap.size, 2, none⟩ (.slice a3 ts.length c3)).cell? ⟨w1.heap.size, 1, none⟩ = some (.string (bs a)) := by rw [World.cell?_setCell_other _ _ _ _ (by simp)]; exact y1
        have q2 : (w3.setCell ⟨w1.heap.size, 2, none⟩ (.slice a3 ts.length c3)).cell? ⟨w1.heap.size, 2, none⟩ = some (.slice a3 ts.length c3) := World.cell?_setCell_same _ _ _ y2
        have hsz4 : w3.heap.size = (w3.setCell ⟨w1.heap.size, 2, none⟩ (.slice a3 ts.length c3)).heap.size := (size_setCell _ _ _).symm
        clear hx3 hE3 hV3 hR3 HL HX2 hr1 hr2 z0 z1 z2 f0 f1 f2 HR2 hTs y0 y1
        go_wp2_with fail
        refine HTk.out.mono ?_
        rintro e w4 ⟨rfl, hR4, hT4⟩
        have hq1' := hT4.row hq1 (by omega)
        obtain ⟨z0, z1, z2, f0, f1, f2⟩ := row3 hq1'
        rw [← hT4.cell (x := ⟨w1.heap.size, 0, none⟩) (by show w1.heap.size < _; omega) (by show w1.heap.size ≠ p; omega)] at q0
        rw [← hT4.cell (x := ⟨w1.heap.size, 1, none⟩) (by show w1.heap.size < _; omega) (by show w1.heap.size ≠ p; omega)] at q1
        rw [← hT4.cell (x := ⟨w1.heap.size, 2, none⟩) (by show w1.heap.size < _; omega) (by show w1.heap.size ≠ p; omega)] at q2
        have HV4 := hide (Kind.sl_turned HV3.out hT4 (by omega))
        have HT4 := hide (HT3.out.trans hT4)
        have HR4 := hide hR4
        have HM := hide (mustC p s _ ((took [41] r3).1) w4 hR4)
        have hsz5 := hT4.size
        clear hR4 hT4 HTk HV3 HT3 hq1 hq1' y2
        cases ht : (took [41] r3).1
        · have HX4 : Hid (atom l = .bad 2 (took [41] r3).2) := by show _ = _; rw [HX3.out]; unfold mustTake; rw [if_neg (by rw [ht]; simp)]
          rw [ht] at HM
          clear ht HX3
          go_wp2_with fail
          refine HM.out.mono ?_
          rintro e w5 ⟨rfl, rfl⟩
          exact ⟨rfl, endsBad HX4.out HT4.out HR4.out⟩
        · have HX4 : Hid (atom l = .ok ⟨false, a, ts⟩ (took [41] r3).2) := by show _ = _; rw [HX3.out]; unfold mustTake; rw [if_pos ht]
          rw [ht] at HM
          clear ht HX3
          go_wp2_with fail
          refine HM.out.mono ?_
          rintro e w5 ⟨rfl, rfl⟩
          go_wp2
          refine bodyPost_ret (v := .agg #[.bool false, .string (bs a), .slice a3 ts.length c3]) (by simp [results, Tryz.results67, go_sem, z0, z1, z2]) rfl ?_
          have hTb : Tn w.heap.size w5 (((w5.setCell ⟨w.heap.size, 0, none⟩ (.bool false)).setCell ⟨w.heap.size, 1, none⟩ (.string (bs a))).setCell ⟨w.heap.size, 2, none⟩ (.slice a3 ts.length c3)) :=
            (((Tn.refl _ w5).moved _ _).moved _ _).moved _ _
          exact endsOk HX4.out (((HT4.out.setCell (Or.inr (Nat.le_refl _)) _).setCell (Or.inr (Nat.le_refl _)) _).setCell (Or.inr (Nat.le_refl _)) _) ⟨_, rfl, _, rfl, Kind.sl_mono (Kind.sl_turned HV4.out hTb (by omega)) (fun k _ hB => by have : w2.heap.size ≤ k := hB; show w.heap.size ≤ k; omega)⟩
            (HR4.out.turned hTb (by omega) (by omega))
      · have hx' : atom l = .bad n r3 := by rw [HX2.out, hx3]; rfl
        exact ⟨rfl, endsBad hx' (HT2.out.trans hT3) hR3⟩
  · have hx' : atom l = .bad n r := by unfold atom; rw [hx]; rfl
    exact ⟨rfl, endsBad hx' (hA.trans hT) hR⟩

set_option maxHeartbeats 2000000 in
theorem bodyAtomC (p : Nat) (s : ByteArray) (l : Bs) (w : World) (h : Rd w p s l) :
    Calls Tryz.prog 52 #[.pointer (some ⟨p, 0, none⟩)] w fun e w' => Ends' p s w (atomK.val w.heap.size) (bodyAtom l) e w' := by
  have hlt := h.lt
  have hne := h.ne
  have HA := hide ((Tn.refl p w).alloc (.cells #[.bool false, .string { data := #[] }, .slice none 0 0] 33))
  have hr1 := heap_alloc_new w (.cells #[.bool false, .string { data := #[] }, .slice none 0 0] 33)
  have HW := hide (tookC p s l [33] _ (h.alloc (.cells #[.bool false, .string { data := #[] }, .slice none 0 0] 33)))
  clear h
  go_enter Tryz.func52, Tryz.ntmps52
  go_wp2_with fail
  refine HW.out.mono ?_
  rintro e w1 ⟨rfl, hR, hT⟩
  replace hr1 := hT.row hr1 (by omega)
  have hlt1 : w.heap.size < w1.heap.size := by have := hT.size; simp at this; omega
  have HT1 := hide (HA.out.trans hT)
  have HC := hide (atomC p s _ w1 hR)
  clear hR hT HA HW
  go_wp2_with fail
  refine HC.out.mono ?_
  intro e w2 hE
  obtain ⟨hT2, ⟨a, r, v, hx, rfl, ⟨c, rfl, v2, rfl, hV⟩, hR2⟩ | ⟨n, r, hx, rfl, hR2⟩⟩ := hE.split
  · obtain ⟨a3, c3, rfl⟩ := Kind.slice hV
    replace hr1 := hT2.row hr1 (by omega)
    have hlt2 := hT2.size
    have HX : Hid (bodyAtom l = .ok { a with no := (took [33] l).1 } r) := by show _ = _; unfold bodyAtom; rw [hx]; rfl
    have HT2 := hide ((HT1.out.trans hT2).alloc (.cells #[.bool (took [33] l).1, .string (bs a.name), .slice a3 a.terms.length c3] 33))
    have HR2 := hide (hR2.alloc (.cells #[.bool (took [33] l).1, .string (bs a.name), .slice a3 a.terms.length c3] 33))
    have hTa : Tn (w2.heap.size + 1) w2 (w2.alloc (.cells #[.bool (took [33] l).1, .string (bs a.name), .slice a3 a.terms.length c3] 33)) := (Tn.refl _ w2).alloc _
    have HV : Hid (termK.sl (From w1.heap.size) (w2.alloc (.cells #[.bool (took [33] l).1, .string (bs a.name), .slice a3 a.terms.length c3] 33)) (.slice a3 a.terms.length c3) a.terms) := Kind.sl_kept hV hTa.size (fun k hk _ => hTa.block k hk (by omega))
    obtain ⟨z0, z1, z2, f0, f1, f2⟩ := row3 (hTa.row hr1 (by omega))
    clear hx hE hV hR2 HT1 HC hr1 hTa
    generalize (took [33] l).1 = b at *
    go_wp2
    refine bodyPost_ret (v := .agg #[.bool b, .string (bs a.name), .slice a3 a.terms.length c3]) (by simp [results, Tryz.results52, go_sem, z0, z1, z2]) rfl ?_
    generalize w2.alloc (.cells #[.bool b, .string (bs a.name), .slice a3 a.terms.length c3] 33) = w3 at *
    have hTb : Tn w.heap.size w3 (((w3.setCell ⟨w.heap.size, 0, none⟩ (.bool b)).setCell ⟨w.heap.size, 1, none⟩ (.string (bs a.name))).setCell ⟨w.heap.size, 2, none⟩ (.slice a3 a.terms.length c3)) :=
      (((Tn.refl _ w3).moved _ _).moved _ _).moved _ _
    exact endsOk HX.out (((HT2.out.setCell (Or.inr (Nat.le_refl _)) _).setCell (Or.inr (Nat.le_refl _)) _).setCell (Or.inr (Nat.le_refl _)) _) ⟨_, rfl, _, rfl, Kind.sl_mono (Kind.sl_turned HV.out hTb (by omega)) (fun k _ hB => by have : w1.heap.size ≤ k := hB; show w.heap.size ≤ k; omega)⟩
      (HR2.out.turned hTb (by omega) (by omega))
  · have hx' : bodyAtom l = .bad n r := by unfold bodyAtom; rw [hx]; rfl
    exact ⟨rfl, endsBad hx' (HT1.out.trans hT2) hR2⟩

end Go.Proofs.YthogickpeldhlabGreat
