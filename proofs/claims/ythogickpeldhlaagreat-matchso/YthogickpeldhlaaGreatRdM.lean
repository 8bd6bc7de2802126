/- The walks of syntax.text's methods that look behind blanks, and of a reader's fail and must. -/
import Derived.Test.YthogickpeldhlaaGreatRdW
namespace Go.Proofs.YthogickpeldhlaaGreat
open Go.RowKit Go.Sort

theorem skip_suf (b : Bool) : ∀ l : Bs, skipM b l <:+ l := by
  intro l
  induction l generalizing b with
  | nil => cases b <;> exact List.suffix_refl _
  | cons c t ih =>
    cases b with
    | false =>
      simp only [skipM]
      split
      · exact (ih _).trans (List.suffix_cons _ _)
      · split
        · exact (ih _).trans (List.suffix_cons _ _)
        · exact List.suffix_refl _
    | true =>
      simp only [skipM]
      split
      · exact (ih _).trans (List.suffix_cons _ _)
      · exact (ih _).trans (List.suffix_cons _ _)

set_option maxHeartbeats 1000000 in
theorem endedC (p : Nat) (s : ByteArray) (l : Bs) (w : World) (h : Rd w p s l) :
    Calls Tryz.prog 76 #[.pointer (some ⟨p, 0, none⟩)] w fun e w' => e = .returned (.bool (decide (skip l = []))) ∧ Rd w' p s (skip l) ∧ Tn p w w' := by
  have HC := hide (skipC p s l w h)
  clear h
  go_enter Tryz.func76, Tryz.ntmps76
  go_wp2_with fail
  refine HC.out.mono ?_
  rintro e w1 ⟨rfl, hR, hT⟩
  have HR := hide hR
  have HT := hide hT
  have c0 := hR.c0; have c1 := hR.c1
  have hps := pos_le s (skip l)
  have hs := hR.short
  have HE : Hid (((pos s (skip l) : Int) == s.size) = decide (skip l = [])) := by
    show _ = _
    have hl := len_le hR.suf
    rw [Bool.eq_iff_iff, beq_iff_eq, decide_eq_true_iff]
    constructor
    · intro e
      simp only [pos] at e
      exact List.eq_nil_of_length_eq_zero (by omega)
    · intro e; rw [e]; simp [pos]
  clear hR hT
  generalize hk : pos s (skip l) = k at *
  clear hk
  go_wp2
  go_quiet (fail)
  go_wp2
  go_ret
  exact ⟨ret_bool HE.out, HR.out.drewN _, HT.out.drewN _⟩

set_option maxHeartbeats 1000000 in
theorem tookC (p : Nat) (s : ByteArray) (l g : Bs) (w : World) (h : Rd w p s l) :
    Calls Tryz.prog 126 #[.pointer (some ⟨p, 0, none⟩), .string (bs g)] w fun e w' => e = .returned (.bool (took g l).1) ∧ Rd w' p s (took g l).2 ∧ Tn p w w' := by
  have HC := hide (skipC p s l w h)
  clear h
  go_enter Tryz.func126, Tryz.ntmps126
  go_wp2_with fail
  refine HC.out.mono ?_
  rintro e w1 ⟨rfl, hR, hT⟩
  have HR := hide hR
  have HT := hide hT
  have c0 := hR.c0; have c1 := hR.c1; have fz := hR.fz
  have hps := pos_le s (skip l)
  have hs := hR.short
  have hcut := cut_bs hR.suf
  have hgz : (bs g).size = g.length := size_bs g
  have HP : Hid (∀ q, Calls Tryz.prog 132 #[.string (bs (skip l)), .string (bs g)] (w1.drewN q) fun e w' => e = .returned (.bool (g.isPrefixOf (skip l))) ∧ w' = w1.drewN q) := fun q => by
    have := Tryz.strings_HasPrefix (bs (skip l)) (bs g) (w1.drewN q)
    have e1 : (bs (skip l)).data.toList = skip l := raw_bs _
    have e2 : (bs g).data.toList = g := raw_bs _
    rw [e1, e2] at this
    exact this
  have hll := len_le hR.suf
  clear hR hT
  cases hpre : g.isPrefixOf (skip l)
  · have HE : Hid (took g l = (false, skip l)) := by show _ = _; unfold took; rw [hpre]; rfl
    rw [hpre] at HP
    clear hpre
    generalize hk : pos s (skip l) = k at *
    clear hk
    go_wp2
    go_quiet ((go_at_call 132; exact Calls.quiet_of_same (HP.out _)))
    go_wp2
    go_ret
    rw [HE.out]
    exact ⟨rfl, HR.out.drewN _, HT.out.drewN _⟩
  · have hle : g.length ≤ (skip l).length := (List.isPrefixOf_iff_prefix.1 hpre).length_le
    have HE : Hid (took g l = (true, (skip l).drop g.length)) := by show _ = _; unfold took; rw [hpre]; rfl
    have hps2 : pos s (skip l) + g.length ≤ s.size := by simp only [pos]; omega
    have HM := hide (fun q => (HR.out.drewN q).moved hle rfl)
    rw [hpre] at HP
    clear hpre
    generalize hk : pos s (skip l) = k at *
    clear hk
    go_wp2
    go_quiet ((go_at_call 132; exact Calls.quiet_of_same (HP.out _)))
    go_wp2
    go_ret
    rw [HE.out]
    exact ⟨rfl, HM.out _, (HT.out.drewN _).moved _ _⟩

set_option maxHeartbeats 1000000 in
theorem aheadC (p : Nat) (s : ByteArray) (l : Bs) (w : World) (h : Rd w p s l) :
    Calls Tryz.prog 138 #[.pointer (some ⟨p, 0, none⟩)] w fun e w' => e = .returned (.string (bs ((skip l).takeWhile isSign))) ∧ Rd w' p s (skip l) ∧ Tn p w w' := by
  have HC := hide (skipC p s l w h)
  clear h
  go_enter Tryz.func138, Tryz.ntmps138
  go_wp2_with fail
  refine HC.out.mono ?_
  rintro e w1 ⟨rfl, hR, hT⟩
  have HR := hide hR
  have HT := hide hT
  have c0 := hR.c0; have c1 := hR.c1; have fz := hR.fz
  have hps := pos_le s (skip l)
  have hs := hR.short
  have hcut := cut_bs hR.suf
  have hll := len_le hR.suf
  have HP : Hid (∀ q, Calls Tryz.prog 113 #[.string (bs (skip l))] (w1.drewN q) fun e w' => e = .returned (.string (bs ((skip l).takeWhile isSign))) ∧ w' = w1.drewN q) := fun q => by
    have := wordC (bs (skip l)) (w1.drewN q) (by rw [size_bs]; omega)
    rw [raw_bs] at this
    exact this
  clear hR hT
  generalize hk : pos s (skip l) = k at *
  clear hk
  go_wp2
  go_quiet ((go_at_call 113; exact Calls.quiet_of_same (HP.out _)))
  go_wp2
  go_ret
  exact ⟨rfl, HR.out.drewN _, HT.out.drewN _⟩

/-- What a reader's fault is thrown as. -/
def thrownV (e : Int) (s : ByteArray) (r : Bs) : Ending := .panicked [{ v := .iface 113 (.agg #[.int .i64 e, .int .i64 (pos s r)]), recovered := false }]

set_option maxHeartbeats 1000000 in
theorem failC (p : Nat) (s : ByteArray) (l : Bs) (x : Int) (w : World) (h : Rd w p s l) :
    Calls Tryz.prog 109 #[.pointer (some ⟨p, 0, none⟩), .int .i64 x] w fun e w' => e = thrownV x s l ∧ w' = w := by
  have c0 := h.c0; have c1 := h.c1
  clear h
  unfold thrownV
  go_enter Tryz.func109, Tryz.ntmps109
  go_wp2
  exact ⟨rfl, rfl, rfl⟩

set_option maxHeartbeats 1000000 in
theorem mustC (p : Nat) (s : ByteArray) (l : Bs) (b : Bool) (w : World) (h : Rd w p s l) :
    Calls Tryz.prog 75 #[.pointer (some ⟨p, 0, none⟩), .bool b] w fun e w' => e = (if b then .returned (.tuple #[]) else thrownV 2 s l) ∧ w' = w := by
  have HF := hide (failC p s l 2 w h)
  clear h
  cases b
  · go_enter Tryz.func75, Tryz.ntmps75
    go_wp2_with fail
    refine HF.out.mono ?_
    rintro e w1 ⟨rfl, rfl⟩
    exact ⟨rfl, rfl, rfl⟩
  · go_enter Tryz.func75, Tryz.ntmps75
    go_wp2
    go_end0
    exact ⟨rfl, rfl⟩

/-- How a reader's method ends: with a value of what is read, or thrown out of. -/
def Ends' {α : Type} (p : Nat) (s : ByteArray) (w : World) (V : World → Value → α → Prop) (x : Res α) (e : Ending) (w' : World) : Prop :=
  Tn p w w' ∧ match x with
    | .ok a r => (∃ v, e = .returned v ∧ V w' v a) ∧ Rd w' p s r
    | .bad n r => e = thrownV n s r ∧ Rd w' p s r

theorem endsOk {α : Type} {p : Nat} {s : ByteArray} {w w' : World} {V : World → Value → α → Prop} {x : Res α} {a : α} {r : Bs} {v : Value} (hx : x = .ok a r) (hT : Tn p w w') (hV : V w' v a) (hR : Rd w' p s r) : Ends' p s w V x (.returned v) w' := by
  subst hx; exact ⟨hT, ⟨v, rfl, hV⟩, hR⟩
theorem endsBad {α : Type} {p : Nat} {s : ByteArray} {w w' : World} {V : World → Value → α → Prop} {x : Res α} {n : Int} {r : Bs} (hx : x = .bad n r) (hT : Tn p w w') (hR : Rd w' p s r) : Ends' p s w V x (thrownV n s r) w' := by
  subst hx; exact ⟨hT, rfl, hR⟩

/-- What is asked of a function that fits words. -/
def Fits (g : Nat) (f : Bs → Bool) : Prop := ∀ l w, l.length ≤ 3000 → Calls Tryz.prog g #[.string (bs l)] w fun e w' => e = .returned (.bool (f l)) ∧ w' = w

theorem fitsNamed : Fits 79 isNamed := fun l w _ => by
  have := named (bs l) w
  rw [namedB_eq, raw_bs] at this
  exact this

theorem bs_empty : bs [] = { data := #[] } := rfl

theorem toList_none : (bs []).toList = [] := by
  unfold ByteArray.toList ByteArray.toList.loop
  rfl

set_option maxHeartbeats 400000 in
theorem cloneC (s : ByteArray) (w : World) (hs : s.size ≤ 281474976710656) : Calls Tryz.prog 139 #[.string s] w fun e w' => e = .returned (.string s) ∧ Below w.heap.size w w' := by
  have HC := hide (Tryz.stringslite_Clone s w hs)
  go_enter Tryz.func139, Tryz.ntmps139
  go_wp2_with fail
  refine HC.out.mono ?_
  rintro e w1 ⟨rfl, hB⟩
  have HB := hide hB
  clear hB
  go_wp2
  go_ret
  exact ⟨rfl, HB.out⟩

theorem emptyB (x : Bs) (h : x ≠ []) : (bs x).toList.isEmpty = false := by
  cases hx : (bs x).toList.isEmpty with
  | false => rfl
  | true =>
    exfalso
    apply h
    have e : (bs x).toList = (bs []).toList := by
      rw [List.isEmpty_iff.1 hx, toList_none]
    exact bs_inj (toList_inj e)

set_option maxHeartbeats 2000000 in
theorem wordR (g : Nat) (f : Bs → Bool) (hg : Fits g f) (eg : ∀ args w, (callFunc g args).run Tryz.prog w = .ok (.enter g args) w) (p : Nat) (s : ByteArray) (l : Bs) (w : World) (h : Rd w p s l) :
    Calls Tryz.prog 133 #[.pointer (some ⟨p, 0, none⟩), .func (.func g) #[] #[]] w fun e w' => Ends' p s w (fun _ v a => v = .string (bs a)) (word f l) e w' := by
  have HC := hide (aheadC p s l w h)
  have HG := hide hg
  clear h hg
  go_enter Tryz.func133, Tryz.ntmps133
  go_wp2_with fail
  refine HC.out.mono ?_
  rintro e w1 ⟨rfl, hR, hT⟩
  have HR := hide hR
  have HT := hide hT
  have c0 := hR.c0; have c1 := hR.c1; have fz := hR.fz
  have hps := pos_le s (skip l)
  have hs := hR.short
  have hll := len_le hR.suf
  have hle : ((skip l).takeWhile isSign).length ≤ (skip l).length := (List.takeWhile_prefix _).length_le
  have hps2 : pos s (skip l) + ((skip l).takeWhile isSign).length ≤ s.size := by simp only [pos]; omega
  have HM := hide (fun w' (h' : Rd w' p s (skip l)) => h'.moved hle rfl)
  have hz := size_bs ((skip l).takeWhile isSign)
  by_cases h0 : (skip l).takeWhile isSign = []
  · have HW : Hid (word f l = .bad 2 (skip l)) := by show _ = _; unfold word; rw [if_pos h0]
    rw [h0] at hz ⊢
    have HF := hide (mustC p s (skip l) false w1 hR)
    have he : (bs []).toList.isEmpty = true := by rw [toList_none]; rfl
    clear hR hT h0
    go_wp2_with fail
    refine HF.out.mono ?_
    rintro e w2 ⟨rfl, rfl⟩
    exact ⟨rfl, endsBad HW.out HT.out HR.out⟩
  · have he := emptyB _ h0
    have HF := hide (mustC p s (skip l) true w1 hR)
    have HFT := hide (failC p s (skip l) 7 w1 hR)
    have HB : Hid (((skip l).takeWhile isSign).length ≤ 3000) := by show _ ≤ _; omega
    have HCl := hide (fun w' => cloneC (bs ((skip l).takeWhile isSign)) w' (by rw [size_bs]; omega))
    have HW : Hid (word f l = if f ((skip l).takeWhile isSign) then .ok ((skip l).takeWhile isSign) ((skip l).drop ((skip l).takeWhile isSign).length) else .bad 7 (skip l)) := by
      show _ = _; unfold word; rw [if_neg h0]
    clear hR hT h0
    generalize (skip l).takeWhile isSign = x at *
    cases hf : f x
    · rw [hf] at HW
      go_wp2_with fail
      refine HF.out.mono ?_
      rintro e w2 ⟨rfl, rfl⟩
      go_wp2_with fail
      refine (HG.out x _ HB.out).mono ?_
      rintro e w2 ⟨rfl, rfl⟩
      rw [hf]
      go_wp2_with fail
      refine HFT.out.mono ?_
      rintro e w2 ⟨rfl, rfl⟩
      exact ⟨rfl, endsBad HW.out HT.out HR.out⟩
    · rw [hf] at HW
      go_wp2_with fail
      refine HF.out.mono ?_
      rintro e w2 ⟨rfl, rfl⟩
      go_wp2_with fail
      refine (HG.out x _ HB.out).mono ?_
      rintro e w2 ⟨rfl, rfl⟩
      rw [hf]
      have HM1 := hide (HM.out _ HR.out)
      have HT1 := hide (HT.out.moved (.int .i64 ((pos s (skip l) : Int) + x.length)) 1)
      generalize hk : pos s (skip l) = k at *
      clear hk
      go_wp2_with fail
      refine (HCl.out _).mono ?_
      rintro e w3 ⟨rfl, hB⟩
      have HB3 := hide hB
      clear hB
      go_wp2
      go_ret
      exact endsOk HW.out (HT1.out.trans (Tn.of_below HB3.out)) rfl (HM1.out.below HB3.out)

end Go.Proofs.YthogickpeldhlaaGreat
