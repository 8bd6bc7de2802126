/- The document's answer: the walks of ref.Add, Of, Both, Minus. -/
import Derived.Test.YtflldbpjhcgkbaaRefSame
import Derived.Test.YtflldbpjhcgkbaaHeld
namespace Go.Proofs.Ytflldbpjhcgkbaa
open Go.RowKit Go.Sort

/-- One fact more, at its place: where m of the set come ahead of it. -/
theorem add_at {l : List FactD} {f : FactD} (hr : Rises l) {m : Nat} (hm : m ≤ l.length) (ha : ∀ t, t < m → cmpF (l.getD t noFact) f < 0) (hb : m < l.length → 0 ≤ cmpF (l.getD m noFact) f) (hne : m < l.length → cmpF (l.getD m noFact) f ≠ 0) :
    SetOf (l.take m ++ [f] ++ l.drop m) (l ++ [f]) := by
  have hafter : ∀ g ∈ l.drop m, cmpF f g < 0 := fun g hg => by
    obtain ⟨t, ht, rfl⟩ := List.getElem_of_mem hg
    rw [List.length_drop] at ht
    rw [List.getElem_drop]
    have h1 := hb (by omega)
    have h2 := hne (by omega)
    have h3 := three_cmpF.swap (l.getD m noFact) f
    have e : l.getD m noFact = l[m]'(by omega) := by rw [List.getD_eq_getElem?_getD, List.getElem?_eq_getElem (by omega)]; rfl
    rw [e] at h1 h2 h3
    by_cases h0 : t = 0
    · subst h0
      simp only [Nat.add_zero]
      omega
    · have h4 := List.pairwise_iff_getElem.1 hr m (m + t) (by omega) (by omega) (by omega)
      exact three_cmpF.trans _ (l[m]'(by omega)) _ (by omega) h4
  have hahead : ∀ g ∈ l.take m, cmpF g f < 0 := fun g hg => by
    obtain ⟨t, ht, _, rfl⟩ := mem_take_getD hg
    exact ha t ht
  have hsplit : l.take m ++ l.drop m = l := List.take_append_drop m l
  have hcross : ∀ a ∈ l.take m, ∀ b ∈ l.drop m, cmpF a b < 0 := fun a h1 b h2 => three_cmpF.trans a f b (hahead a h1) (hafter b h2)
  refine ⟨?_, fun g => ?_, by simp; omega⟩
  · unfold Rises
    rw [List.append_assoc, List.pairwise_append]
    refine ⟨List.Pairwise.sublist (List.take_sublist m l) hr, ?_, ?_⟩
    · rw [List.pairwise_append]
      refine ⟨List.pairwise_singleton _ _, List.Pairwise.sublist (List.drop_sublist m l) hr, fun a h1 b h2 => ?_⟩
      rw [List.mem_singleton] at h1
      subst h1
      exact hafter b h2
    · intro a h1 b h2
      rw [List.mem_append, List.mem_singleton] at h2
      rcases h2 with rfl | h2
      · exact hahead a h1
      · exact hcross a h1 b h2
  · have : g ∈ l ↔ g ∈ l.take m ∨ g ∈ l.drop m := by rw [← List.mem_append, hsplit]
    simp only [List.mem_append, List.mem_singleton, this]
    constructor
    · rintro ((h | h) | h)
      · exact Or.inl (Or.inl h)
      · exact Or.inr h
      · exact Or.inl (Or.inr h)
    · rintro ((h | h) | h)
      · exact Or.inl (Or.inl h)
      · exact Or.inr h
      · exact Or.inl (Or.inr h)

theorem sizeOfF2 : ∀ w, (Go.sizeOf 25).run Try.prog w = .ok 2 w := Try.sizeOf25

/-- A set of facts, and where a slice of it ends. -/
def FactsC (w : World) (v : Value) (l : List FactD) : Prop := Facts w v l ∧ ((v = .slice none 0 0 ∧ l = []) ∨ ∃ b off cap, v = .slice (some ⟨b, off, none⟩) l.length cap ∧ l.length ≤ cap ∧ cap ≤ 9223372036854775807)

theorem RowF.factsC {base : Nat} {w : World} {v : Value} {l : List FactD} (h : RowF w base v l) (hl : l.length ≤ 3518437208883) : FactsC w v l := by
  refine ⟨h.facts hl, ?_⟩
  obtain ⟨xs, ho, _⟩ := h
  rcases ho.2 with ⟨rfl, e⟩ | ⟨g, cap, cur, rfl, _, _, hnc, hcm, _⟩
  · exact Or.inl ⟨rfl, List.eq_nil_of_length_eq_zero e⟩
  · exact Or.inr ⟨g, 0, cap, rfl, hnc, by simpa [maxLen] using hcm⟩

theorem FactsC.later {w w' : World} {v : Value} {l : List FactD} (h : FactsC w v l) (k : Later w w') : FactsC w' v l := ⟨h.1.later k, h.2⟩

set_option maxHeartbeats 2000000 in
theorem rAdd (v t : Value) (l : List FactD) (f : FactD) (w : World) (hc : FactsC w v l) (ht : FactV w t f) (hr : Rises l) (hn : l.length ≤ 2097152) :
    Calls Try.prog 52 #[v, t] w fun e w' => ∃ v' r, e = .returned v' ∧ FactsC w' v' r ∧ SetOf r (l ++ [f]) ∧ Later w w' := by
  have mx := mixed
  have HF := hide hc.1
  have HT := hide ht
  have HR := hide hr
  have HC0 := hide hc
  obtain ⟨a, cap, rfl, hcap, hcm, hz⟩ : ∃ a cap, v = .slice a l.length cap ∧ l.length ≤ cap ∧ cap ≤ 9223372036854775807 ∧ ((a = none ∧ l = [] ∧ cap = 0) ∨ ∃ b off, a = some ⟨b, off, none⟩) := by
    rcases hc.2 with ⟨rfl, rfl⟩ | ⟨b, off, cap, rfl, h1, h2⟩
    · exact ⟨none, 0, rfl, by simp, by omega, Or.inl ⟨rfl, rfl, rfl⟩⟩
    · exact ⟨_, cap, rfl, h1, h2, Or.inr ⟨b, off, rfl⟩⟩
  obtain ⟨s2, rfl, l2, a2, c2, rfl, k2⟩ := ht
  have HS : Hid (Strs w (.slice a2 f.2.length c2) f.2) := ⟨l2, a2, c2, rfl, k2⟩
  clear hc hr k2
  have hbox : ∀ w', Later (w.alloc (.cells #[.string f.1, .slice a2 f.2.length c2] 25)) w' → w'.cell? ⟨w.heap.size, 0, none⟩ = some (.string f.1) ∧ w'.cell? ⟨w.heap.size, 1, none⟩ = some (.slice a2 f.2.length c2) := fun w' hw => ⟨by rw [hw.cell (by simp)]; simp, by rw [hw.cell (by simp)]; simp⟩
  go_enter Try.func52, Try.ntmps52
  go_wp2
  go_loopw [5] (fun i wr => ∃ k : Nat, k ≤ l.length ∧ i = .int .i64 k ∧ Later (w.alloc (.cells #[.string f.1, .slice a2 f.2.length c2] 25)) wr ∧ Hid (∀ t, t < k → cmpF (l.getD t noFact) f < 0)) (fun i _ => l.length - (intOf i).toNat)
  case atStart => exact ⟨0, by omega, rfl, Later.refl _, fun t ht => absurd ht (Nat.not_lt_zero _)⟩
  case round =>
    obtain ⟨k, hk, rfl, hL, HA⟩ := hrel
    have hL0 : Later w wr := ((Later.refl _).alloc _).trans hL
    have z0 := cell_later hL (p := ⟨w.heap.size, 0, none⟩) (v := .string f.1) (by simp) (by simp)
    have z1 := cell_later hL (p := ⟨w.heap.size, 1, none⟩) (v := .slice a2 f.2.length c2) (by simp) (by simp)
    by_cases hlt : k < l.length
    · rcases hz with ⟨rfl, rfl, rfl⟩ | ⟨b, off, rfl⟩
      · simp at hlt
      have hltz : (k : Int) < (l.length : Int) := by omega
      obtain ⟨ax, lx, cx, g1, g2, fx⟩ := (HF.out.later hL0).grown hlt
      have hC : ∀ q os, Calls Try.prog 22 #[.agg #[.string (l.getD k noFact).1, .slice ax lx cx], .agg #[.string f.1, .slice a2 f.2.length c2]] (grow (wr.drewN q) os) fun e w'' => e = .returned (.bool (lessF (l.getD k noFact) f)) ∧ Later (grow (wr.drewN q) os) w'' :=
        fun q os => rLess _ _ _ _ _ (fx.later ⟨q, os, rfl⟩) ((HT.out.later hL0).later ⟨q, os, rfl⟩)
      have hE : ∀ w', Later wr w' → Calls Try.prog 47 #[.agg #[.string (l.getD k noFact).1, .slice ax lx cx], .agg #[.string f.1, .slice a2 f.2.length c2]] w' fun e w'' => e = .returned (.bool (sameF (l.getD k noFact) f)) ∧ Later w' w'' :=
        fun w' hw => rEqual _ _ _ _ _ (fx.later hw) ((HT.out.later hL0).later hw)
      have hmeet := fun h1 h2 => add_at (f := f) HR.out (m := k) (by omega) HA.out h1 h2
      unfold lessF at hC
      unfold sameF at hE
      have HE := hide hE
      have HM := hide hmeet
      clear hE fx hmeet
      generalize hcm2 : cmpF (l.getD k noFact) f = cm at *
      have HCM := hide hcm2
      clear hcm2
      generalize hnk : (l.getD k noFact).1 = nk at *
      clear hnk
      by_cases hneg : cm < 0
      · rw [decide_eq_true hneg] at hC
        have HC := hide hC
        clear hC
        go_wp2
        go_quiet_grown ((go_at_call 22; exact Calls.grown_of (HC.out _ _)))
        go_wp2
        go_roundw
        case rel => exact ⟨k + 1, by omega, by go_num, hL.trans ⟨_, _, rfl⟩, fun t ht => by
          by_cases e : t = k
          · rw [e, HCM.out]; exact hneg
          · exact HA.out t (by omega)⟩
        case measure => simp [intOf]; omega
      · rw [decide_eq_false hneg] at hC
        have HC := hide hC
        clear hC
        go_wp2
        go_quiet_grown ((go_at_call 22; exact Calls.grown_of (HC.out _ _)))
        dsimp only
        have hL2 : Later wr (grow (wr.drewN nq) osq) := ⟨_, _, rfl⟩
        have hE2 : ∀ q os, Calls Try.prog 47 #[.agg #[.string nk, .slice ax lx cx], .agg #[.string f.1, .slice a2 f.2.length c2]] (grow ((grow (wr.drewN nq) osq).drewN q) os) fun e w'' => e = .returned (.bool (decide (cm = 0))) ∧ Later (grow ((grow (wr.drewN nq) osq).drewN q) os) w'' :=
          fun q os => HE.out _ (hL2.trans ⟨q, os, rfl⟩)
        have g1' : ∀ q os, (grow ((grow (wr.drewN nq) osq).drewN q) os).cell? ⟨b, off + k * 2, none⟩ = some (.string nk) := fun q os => by
          obtain ⟨q', os', e⟩ := hL2.trans ⟨q, os, rfl⟩; rw [e]; exact g1 q' os'
        have g2' : ∀ q os, (grow ((grow (wr.drewN nq) osq).drewN q) os).cell? ⟨b, off + k * 2 + 1, none⟩ = some (.slice ax lx cx) := fun q os => by
          obtain ⟨q', os', e⟩ := hL2.trans ⟨q, os, rfl⟩; rw [e]; exact g2 q' os'
        have z0' : ∀ q os, (grow ((grow (wr.drewN nq) osq).drewN q) os).cell? ⟨w.heap.size, 0, none⟩ = some (.string f.1) := fun q os => by
          obtain ⟨q', os', e⟩ := hL2.trans ⟨q, os, rfl⟩; rw [e]; exact z0 q' os'
        have z1' : ∀ q os, (grow ((grow (wr.drewN nq) osq).drewN q) os).cell? ⟨w.heap.size, 1, none⟩ = some (.slice a2 f.2.length c2) := fun q os => by
          obtain ⟨q', os', e⟩ := hL2.trans ⟨q, os, rfl⟩; rw [e]; exact z1 q' os'
        clear HC g1 g2 z0 z1
        generalize grow (wr.drewN nq) osq = w2 at *
        have hL02 : Later w w2 := hL0.trans hL2
        by_cases heq : cm = 0
        · rw [decide_eq_true heq] at hE2
          have HE2 := hide hE2
          clear hE2
          go_wp2
          go_quiet_grown ((go_at_call 47; exact Calls.grown_of (HE2.out _ _)))
          go_wp2
          go_ret
          have hL3 : Later w (grow (w2.drewN nq) osq) := hL02.trans ⟨_, _, rfl⟩
          refine ⟨_, l, rfl, HC0.out.later hL3, ⟨HR.out, fun g => ?_, by simp⟩, hL3⟩
          have e := three_cmpF.zero _ _ (HCM.out.trans heq)
          rw [List.mem_append, List.mem_singleton, ← e]
          refine ⟨Or.inl, fun h => h.elim id fun h => ?_⟩
          rw [h]
          have := getD_mem_take (l := l) (i := k) (k := l.length) hlt (Nat.le_refl _)
          rwa [List.take_length] at this
        · rw [decide_eq_false heq] at hE2
          have HE2 := hide hE2
          clear hE2
          go_wp2
          go_quiet_grown ((go_at_call 47; exact Calls.grown_of (HE2.out _ _)))
          dsimp only
          have hLz : Later (w.alloc (.cells #[.string f.1, .slice a2 f.2.length c2] 25)) (grow (w2.drewN nq) osq) := (hL.trans hL2).trans ⟨_, _, rfl⟩
          have hset := HM.out (fun _ => by omega) (fun _ => heq)
          clear HE2 z0' z1' g1' g2' HE HM
          generalize grow (w2.drewN nq) osq = wz at hLz ⊢
          have HSET := hide hset
          clear hset
          have hck : ¬ cap = k := by omega
          have hkc : (k : Int) ≤ (cap : Int) := by omega
          have hkl : (k : Int) ≤ (l.length : Int) := by omega
          have hTl : (l.take k).length = k := by rw [List.length_take]; omega
          have hDl : (l.drop k).length = l.length - k := List.length_drop
          have FT := hide (((HF.out.take (k := k) (by omega))).later ((Later.refl w).alloc (.cells #[.string f.1, .slice a2 f.2.length c2] 25)))
          have FD := hide (((HF.out.drop (k := k) (by omega) (cap - k))).later ((Later.refl w).alloc (.cells #[.string f.1, .slice a2 f.2.length c2] 25)))
          go_wp2
          refine wp_region_held_drew (S := fun w' => Later (w.alloc (.cells #[.string f.1, .slice a2 f.2.length c2] 25)) w') (by kernel_rfl) hLz.drew (fun hHeld => ?_)
          refine take_at (i := 1) (d := some 34) (v := ?_) rfl rfl (by kernel_rfl) (by kernel_rfl) (by kernel_rfl) (fun _ _ _ h => h) (Or.inl ⟨by rfl, ?_⟩) hHeld ?_
          rotate_left
          · intro w hSw; (try dsimp only at hSw);  go_simp; try with_reducible rfl
          simp only [Act.put, List.setIfInBounds_toArray, List.set_cons_zero, List.set_cons_succ]
          refine take_at (i := 2) (d := some 35) (v := ?_) rfl rfl (by kernel_rfl) (by kernel_rfl) (by kernel_rfl) (fun _ _ _ h => h) (Or.inl ⟨by rfl, ?_⟩) hHeld ?_
          rotate_left
          · intro w hSw; (try dsimp only at hSw);  go_simp; try with_reducible rfl
          simp only [Act.put, List.setIfInBounds_toArray, List.set_cons_zero, List.set_cons_succ]
          refine take_at (i := 3) (d := some 36) (v := ?_) rfl rfl (by kernel_rfl) (by kernel_rfl) (by kernel_rfl) (fun _ _ _ h => h) (Or.inl ⟨by rfl, ?_⟩) hHeld ?_
          rotate_left
          · intro w hSw; (try dsimp only at hSw);  go_simp; try with_reducible rfl
          simp only [Act.put, List.setIfInBounds_toArray, List.set_cons_zero, List.set_cons_succ]
          refine take_at (i := 5) (d := some 38) (v := ?_) rfl rfl (by kernel_rfl) (by kernel_rfl) (by kernel_rfl) (fun _ _ _ h => h) (Or.inl ⟨by rfl, ?_⟩) hHeld ?_
          rotate_left
          · intro w hSw; (try dsimp only at hSw); obtain ⟨q0, q1⟩ := hbox w hSw; go_simp; try with_reducible rfl
          simp only [Act.put, List.setIfInBounds_toArray, List.set_cons_zero, List.set_cons_succ]
          refine take_at (i := 8) (d := some 41) (v := ?_) rfl rfl (by kernel_rfl) (by kernel_rfl) (by kernel_rfl) (fun _ _ _ h => h) (Or.inl ⟨by rfl, ?_⟩) hHeld ?_
          rotate_left
          · intro w hSw; (try dsimp only at hSw);  go_simp; try with_reducible rfl
          simp only [Act.put, List.setIfInBounds_toArray, List.set_cons_zero, List.set_cons_succ]
          refine take_at (i := 9) (d := some 42) (v := ?_) rfl rfl (by kernel_rfl) (by kernel_rfl) (by kernel_rfl) (fun _ _ _ h => h) (Or.inl ⟨by rfl, ?_⟩) hHeld ?_
          rotate_left
          · intro w hSw; (try dsimp only at hSw);  go_simp; try with_reducible rfl
          simp only [Act.put, List.setIfInBounds_toArray, List.set_cons_zero, List.set_cons_succ]
          refine take_at (i := 10) (d := some 43) (v := ?_) rfl rfl (by kernel_rfl) (by kernel_rfl) (by kernel_rfl) (fun _ _ _ h => h) (Or.inl ⟨by rfl, ?_⟩) hHeld ?_
          rotate_left
          · intro w hSw; (try dsimp only at hSw);  go_simp; try with_reducible rfl
          simp only [Act.put, List.setIfInBounds_toArray, List.set_cons_zero, List.set_cons_succ]
          have hbz := hLz.size
          refine wpAnyH_ready (rs := [0, 6]) (by kernel_rfl) (by simp) ?_
          refine AllReadyH.cons rfl (fun K hK => ?_) (AllReadyH.cons rfl (fun K hK => ?_) AllReadyH.nil)
          · go_simp
            have R0 : RowF (wz.alloc (.cells #[] 25)).drew (w.alloc (.cells #[.string f.1, .slice a2 f.2.length c2] 25)).heap.size (.slice (some ⟨wz.heap.size, 0, none⟩) 0 0) [] := (RowF.empty hbz).later (Later.refl _).drew
            have hL1 : Later (w.alloc (.cells #[.string f.1, .slice a2 f.2.length c2] 25)) (wz.alloc (.cells #[] 25)).drew := (hLz.alloc _).drew
            have hgz : (wz.alloc (.cells #[] 25)).drew.heap.size = wz.heap.size + 1 := by simp
            refine hK.out _ _ hL1 (fun hHeld => ?_)
            clear hK K
            clear hHeld
            generalize (wz.alloc (.cells #[] 25)).drew = w1 at R0 hL1 hgz ⊢
            have hHeld := hL1
            refine wpAnyH_ready (rs := [4, 6]) (by kernel_rfl) (by simp) ?_
            obtain ⟨v4, w4, run4, R4, hL4, _⟩ := R0.append hHeld FT.out (by simp <;> omega)
            rw [hTl] at run4
            rw [List.nil_append] at R4
            refine held_append (i := 4) (d := some 37) rfl rfl rfl (.tmp 33) (.tmp 36) 22 22 rfl rfl _ _ _ _ (by simp [Act.eval]) (by simp [Act.eval]) run4 hL4 (fun hHeld => ?_) (AllReadyH.cons rfl (fun K hK => ?_) AllReadyH.nil)
            · simp only [Act.put, List.setIfInBounds_toArray, List.set_cons_zero, List.set_cons_succ]
              clear run4
              refine wpAnyH_ready (rs := [6]) (by kernel_rfl) (by simp) ?_
              refine AllReadyH.cons rfl (fun K hK => ?_) AllReadyH.nil
              go_simp
              have S6 := SrcF.one (w0 := (w.alloc (.cells #[.string f.1, .slice a2 f.2.length c2] 25))) (f := f) (s := .slice a2 f.2.length c2) (heap_alloc_new w4 (.cells #[.string f.1, .slice a2 f.2.length c2] 25)) (HS.out.later ((Later.refl w).alloc _))
              have R6 := R4.later ((Later.refl w4).alloc (.cells #[.string f.1, .slice a2 f.2.length c2] 25))
              have hL6 := hL4.alloc (.cells #[.string f.1, .slice a2 f.2.length c2] 25)
              refine hK.out _ _ hL6 (fun hHeld => ?_)
              clear hK K
              clear hHeld
              generalize w4.heap.size = g6 at S6 ⊢
              generalize w4.alloc (.cells #[.string f.1, .slice a2 f.2.length c2] 25) = w6 at S6 R6 hL6 ⊢
              have hHeld := hL6
              refine wpAnyH_ready (rs := [7]) (by kernel_rfl) (by simp) ?_
              obtain ⟨v7, w7, run7, R7, hL7, _⟩ := R6.appendSrc (cap := 1) hHeld S6 (by simp <;> omega)
              refine held_append (i := 7) (d := some 40) rfl rfl rfl (.tmp 37) (.tmp 39) 22 22 rfl rfl _ _ _ _ (by simp [Act.eval]) (by simp [Act.eval]) run7 hL7 (fun hHeld => ?_) AllReadyH.nil
              simp only [Act.put, List.setIfInBounds_toArray, List.set_cons_zero, List.set_cons_succ]
              refine wpAnyH_ready (rs := [11]) (by kernel_rfl) (by simp) ?_
              obtain ⟨v8, w8, run8, R8, hL8, _⟩ := R7.append hHeld FD.out (by simp <;> omega)
              rw [hDl] at run8
              refine held_append (i := 11) (d := some 44) rfl rfl rfl (.tmp 40) (.tmp 43) 22 22 rfl rfl _ _ _ _ (by simp [Act.eval]) (by simp [Act.eval]) run8 hL8 (fun hHeld => ?_) AllReadyH.nil
              simp only [Act.put, List.setIfInBounds_toArray, List.set_cons_zero, List.set_cons_succ]
              refine take_at (i := 12) (d := some 4) (v := ?_) rfl rfl (by kernel_rfl) (by kernel_rfl) (by kernel_rfl) (fun _ _ _ h => h) (Or.inl ⟨by rfl, ?_⟩) hHeld ?_
              rotate_left
              · intro w hSw; (try dsimp only at hSw);  go_simp; try with_reducible rfl
              simp only [Act.put, List.setIfInBounds_toArray, List.set_cons_zero, List.set_cons_succ]
              refine wpAnyH_done (by kernel_rfl) ?_ _
              go_wp2
              go_ret
              exact ⟨v8, _, rfl, R8.factsC (by simp <;> omega), HSET.out, ((Later.refl w).alloc _).trans hL8⟩
            · clear run4 R4 hL4
              go_simp
              have S6 := SrcF.one (w0 := (w.alloc (.cells #[.string f.1, .slice a2 f.2.length c2] 25))) (f := f) (s := .slice a2 f.2.length c2) (heap_alloc_new w1 (.cells #[.string f.1, .slice a2 f.2.length c2] 25)) (HS.out.later ((Later.refl w).alloc _))
              have R5 := R0.later ((Later.refl w1).alloc (.cells #[.string f.1, .slice a2 f.2.length c2] 25))
              have hL5 := hL1.alloc (.cells #[.string f.1, .slice a2 f.2.length c2] 25)
              refine hK.out _ _ hL5 (fun hHeld => ?_)
              clear hK K
              clear hHeld
              generalize w1.alloc (.cells #[.string f.1, .slice a2 f.2.length c2] 25) = w5 at S6 R5 hL5 ⊢
              have hHeld := hL5
              refine wpAnyH_ready (rs := [4]) (by kernel_rfl) (by simp) ?_
              obtain ⟨v4, w6, run4, R6, hL6, hg6, _⟩ := R5.append hHeld FT.out (by simp <;> omega)
              rw [hTl] at run4
              rw [List.nil_append] at R6
              replace S6 := S6.grown hg6 (by simp [Value.ownBlock]; omega)
              refine held_append (i := 4) (d := some 37) rfl rfl rfl (.tmp 33) (.tmp 36) 22 22 rfl rfl _ _ _ _ (by simp [Act.eval]) (by simp [Act.eval]) run4 hL6 (fun hHeld => ?_) AllReadyH.nil
              simp only [Act.put, List.setIfInBounds_toArray, List.set_cons_zero, List.set_cons_succ]
              refine wpAnyH_ready (rs := [7]) (by kernel_rfl) (by simp) ?_
              obtain ⟨v7, w7, run7, R7, hL7, _⟩ := R6.appendSrc (cap := 1) hHeld S6 (by simp <;> omega)
              refine held_append (i := 7) (d := some 40) rfl rfl rfl (.tmp 37) (.tmp 39) 22 22 rfl rfl _ _ _ _ (by simp [Act.eval]) (by simp [Act.eval]) run7 hL7 (fun hHeld => ?_) AllReadyH.nil
              simp only [Act.put, List.setIfInBounds_toArray, List.set_cons_zero, List.set_cons_succ]
              refine wpAnyH_ready (rs := [11]) (by kernel_rfl) (by simp) ?_
              obtain ⟨v8, w8, run8, R8, hL8, _⟩ := R7.append hHeld FD.out (by simp <;> omega)
              rw [hDl] at run8
              refine held_append (i := 11) (d := some 44) rfl rfl rfl (.tmp 40) (.tmp 43) 22 22 rfl rfl _ _ _ _ (by simp [Act.eval]) (by simp [Act.eval]) run8 hL8 (fun hHeld => ?_) AllReadyH.nil
              simp only [Act.put, List.setIfInBounds_toArray, List.set_cons_zero, List.set_cons_succ]
              refine take_at (i := 12) (d := some 4) (v := ?_) rfl rfl (by kernel_rfl) (by kernel_rfl) (by kernel_rfl) (fun _ _ _ h => h) (Or.inl ⟨by rfl, ?_⟩) hHeld ?_
              rotate_left
              · intro w hSw; (try dsimp only at hSw);  go_simp; try with_reducible rfl
              simp only [Act.put, List.setIfInBounds_toArray, List.set_cons_zero, List.set_cons_succ]
              refine wpAnyH_done (by kernel_rfl) ?_ _
              go_wp2
              go_ret
              exact ⟨v8, _, rfl, R8.factsC (by simp <;> omega), HSET.out, ((Later.refl w).alloc _).trans hL8⟩
          · go_simp
            have S6 : SrcF (w.alloc (.cells #[.string f.1, .slice a2 f.2.length c2] 25)) (wz.alloc (.cells #[.string f.1, .slice a2 f.2.length c2] 25)).drew ⟨wz.heap.size, 0, none⟩ [f] := SrcF.one (w0 := (w.alloc (.cells #[.string f.1, .slice a2 f.2.length c2] 25))) (f := f) (s := .slice a2 f.2.length c2) (heap_alloc_new wz (.cells #[.string f.1, .slice a2 f.2.length c2] 25)) (HS.out.later ((Later.refl w).alloc _))
            have hL3 : Later (w.alloc (.cells #[.string f.1, .slice a2 f.2.length c2] 25)) (wz.alloc (.cells #[.string f.1, .slice a2 f.2.length c2] 25)).drew := (hLz.alloc (.cells #[.string f.1, .slice a2 f.2.length c2] 25)).drew
            have hgz : (wz.alloc (.cells #[.string f.1, .slice a2 f.2.length c2] 25)).drew.heap.size = wz.heap.size + 1 := by simp
            refine hK.out _ _ hL3 (fun hHeld => ?_)
            clear hK K
            clear hHeld
            generalize (wz.alloc (.cells #[.string f.1, .slice a2 f.2.length c2] 25)).drew = w3 at S6 hL3 hgz ⊢
            have hHeld := hL3
            refine wpAnyH_ready (rs := [0]) (by kernel_rfl) (by simp) ?_
            refine AllReadyH.cons rfl (fun K hK => ?_) AllReadyH.nil
            go_simp
            have R5 := RowF.empty (w := w3) (base := (w.alloc (.cells #[.string f.1, .slice a2 f.2.length c2] 25)).heap.size) hL3.size
            replace S6 := S6.later ((Later.refl w3).alloc (.cells #[] 25))
            have hL5 := hL3.alloc (.cells #[] 25)
            refine hK.out _ _ hL5 (fun hHeld => ?_)
            clear hK K
            clear hHeld
            generalize w3.alloc (.cells #[] 25) = w5 at S6 R5 hL5 ⊢
            have hHeld := hL5
            refine wpAnyH_ready (rs := [4]) (by kernel_rfl) (by simp) ?_
            obtain ⟨v4, w6, run4, R6, hL6, hg6, _⟩ := R5.append hHeld FT.out (by simp <;> omega)
            rw [hTl] at run4
            rw [List.nil_append] at R6
            replace S6 := S6.grown hg6 (by simp [Value.ownBlock]; omega)
            refine held_append (i := 4) (d := some 37) rfl rfl rfl (.tmp 33) (.tmp 36) 22 22 rfl rfl _ _ _ _ (by simp [Act.eval]) (by simp [Act.eval]) run4 hL6 (fun hHeld => ?_) AllReadyH.nil
            simp only [Act.put, List.setIfInBounds_toArray, List.set_cons_zero, List.set_cons_succ]
            refine wpAnyH_ready (rs := [7]) (by kernel_rfl) (by simp) ?_
            obtain ⟨v7, w7, run7, R7, hL7, _⟩ := R6.appendSrc (cap := 1) hHeld S6 (by simp <;> omega)
            refine held_append (i := 7) (d := some 40) rfl rfl rfl (.tmp 37) (.tmp 39) 22 22 rfl rfl _ _ _ _ (by simp [Act.eval]) (by simp [Act.eval]) run7 hL7 (fun hHeld => ?_) AllReadyH.nil
            simp only [Act.put, List.setIfInBounds_toArray, List.set_cons_zero, List.set_cons_succ]
            refine wpAnyH_ready (rs := [11]) (by kernel_rfl) (by simp) ?_
            obtain ⟨v8, w8, run8, R8, hL8, _⟩ := R7.append hHeld FD.out (by simp <;> omega)
            rw [hDl] at run8
            refine held_append (i := 11) (d := some 44) rfl rfl rfl (.tmp 40) (.tmp 43) 22 22 rfl rfl _ _ _ _ (by simp [Act.eval]) (by simp [Act.eval]) run8 hL8 (fun hHeld => ?_) AllReadyH.nil
            simp only [Act.put, List.setIfInBounds_toArray, List.set_cons_zero, List.set_cons_succ]
            refine take_at (i := 12) (d := some 4) (v := ?_) rfl rfl (by kernel_rfl) (by kernel_rfl) (by kernel_rfl) (fun _ _ _ h => h) (Or.inl ⟨by rfl, ?_⟩) hHeld ?_
            rotate_left
            · intro w hSw; (try dsimp only at hSw);  go_simp; try with_reducible rfl
            simp only [Act.put, List.setIfInBounds_toArray, List.set_cons_zero, List.set_cons_succ]
            refine wpAnyH_done (by kernel_rfl) ?_ _
            go_wp2
            go_ret
            exact ⟨v8, _, rfl, R8.factsC (by simp <;> omega), HSET.out, ((Later.refl w).alloc _).trans hL8⟩
    · have hd : decide (k < l.length) = false := by rw [decide_eq_false_iff_not]; omega
      go_wp2
      go_quiet (fail)
      have hL5 := hL.drewN nq
      generalize wr.drewN nq = w5 at hL5 ⊢
      go_wp2
      go_quiet (fail)
      have hset := add_at (f := f) HR.out (m := k) hk HA.out (fun h => absurd h hlt) (fun h => absurd h hlt)
      have hLz := hL5.drewN nq
      generalize w5.drewN nq = wz at hLz ⊢
      have hkl : k = l.length := by omega
      clear hd hlt HA z0 z1 hL0 hL hL5
      subst hkl
      rw [List.take_length, List.drop_length] at hset
      have HSET := hide hset
      clear hset
      have hkc : (l.length : Int) ≤ (cap : Int) := by omega
      have FT := hide (HF.out.later ((Later.refl w).alloc (.cells #[.string f.1, .slice a2 f.2.length c2] 25)))
      rcases hz with ⟨rfl, rfl, rfl⟩ | ⟨b, off, rfl⟩
      · have FD : Hid (Facts (w.alloc (.cells #[.string f.1, .slice a2 f.2.length c2] 25)) (.slice none ([] : List FactD).length 0) []) := FT
        clear hkc hcap hk
        simp only [List.length_nil] at FT FD ⊢
        go_wp2
        refine wp_region_held_drew (S := fun w' => Later (w.alloc (.cells #[.string f.1, .slice a2 f.2.length c2] 25)) w') (by kernel_rfl) hLz.drew (fun hHeld => ?_)
        refine take_at (i := 1) (d := some 34) (v := ?_) rfl rfl (by kernel_rfl) (by kernel_rfl) (by kernel_rfl) (fun _ _ _ h => h) (Or.inl ⟨by rfl, ?_⟩) hHeld ?_
        rotate_left
        · intro w hSw; (try dsimp only at hSw);  go_simp; try with_reducible rfl
        simp only [Act.put, List.setIfInBounds_toArray, List.set_cons_zero, List.set_cons_succ]
        refine take_at (i := 2) (d := some 35) (v := ?_) rfl rfl (by kernel_rfl) (by kernel_rfl) (by kernel_rfl) (fun _ _ _ h => h) (Or.inl ⟨by rfl, ?_⟩) hHeld ?_
        rotate_left
        · intro w hSw; (try dsimp only at hSw);  go_simp; try with_reducible rfl
        simp only [Act.put, List.setIfInBounds_toArray, List.set_cons_zero, List.set_cons_succ]
        refine take_at (i := 3) (d := some 36) (v := ?_) rfl rfl (by kernel_rfl) (by kernel_rfl) (by kernel_rfl) (fun _ _ _ h => h) (Or.inl ⟨by rfl, ?_⟩) hHeld ?_
        rotate_left
        · intro w hSw; (try dsimp only at hSw);  go_simp; try with_reducible rfl
        simp only [Act.put, List.setIfInBounds_toArray, List.set_cons_zero, List.set_cons_succ]
        refine take_at (i := 5) (d := some 38) (v := ?_) rfl rfl (by kernel_rfl) (by kernel_rfl) (by kernel_rfl) (fun _ _ _ h => h) (Or.inl ⟨by rfl, ?_⟩) hHeld ?_
        rotate_left
        · intro w hSw; (try dsimp only at hSw); obtain ⟨q0, q1⟩ := hbox w hSw; go_simp; try with_reducible rfl
        simp only [Act.put, List.setIfInBounds_toArray, List.set_cons_zero, List.set_cons_succ]
        refine take_at (i := 8) (d := some 41) (v := ?_) rfl rfl (by kernel_rfl) (by kernel_rfl) (by kernel_rfl) (fun _ _ _ h => h) (Or.inl ⟨by rfl, ?_⟩) hHeld ?_
        rotate_left
        · intro w hSw; (try dsimp only at hSw);  go_simp; try with_reducible rfl
        simp only [Act.put, List.setIfInBounds_toArray, List.set_cons_zero, List.set_cons_succ]
        refine take_at (i := 9) (d := some 42) (v := ?_) rfl rfl (by kernel_rfl) (by kernel_rfl) (by kernel_rfl) (fun _ _ _ h => h) (Or.inl ⟨by rfl, ?_⟩) hHeld ?_
        rotate_left
        · intro w hSw; (try dsimp only at hSw);  go_simp; try with_reducible rfl
        simp only [Act.put, List.setIfInBounds_toArray, List.set_cons_zero, List.set_cons_succ]
        refine take_at (i := 10) (d := some 43) (v := ?_) rfl rfl (by kernel_rfl) (by kernel_rfl) (by kernel_rfl) (fun _ _ _ h => h) (Or.inl ⟨by rfl, ?_⟩) hHeld ?_
        rotate_left
        · intro w hSw; (try dsimp only at hSw);  go_simp; try with_reducible rfl
        simp only [Act.put, List.setIfInBounds_toArray, List.set_cons_zero, List.set_cons_succ]
        have hbz := hLz.size
        refine wpAnyH_ready (rs := [0, 6]) (by kernel_rfl) (by simp) ?_
        refine AllReadyH.cons rfl (fun K hK => ?_) (AllReadyH.cons rfl (fun K hK => ?_) AllReadyH.nil)
        · go_simp
          have R0 : RowF (wz.alloc (.cells #[] 25)).drew (w.alloc (.cells #[.string f.1, .slice a2 f.2.length c2] 25)).heap.size (.slice (some ⟨wz.heap.size, 0, none⟩) 0 0) [] := (RowF.empty hbz).later (Later.refl _).drew
          have hL1 : Later (w.alloc (.cells #[.string f.1, .slice a2 f.2.length c2] 25)) (wz.alloc (.cells #[] 25)).drew := (hLz.alloc _).drew
          have hgz : (wz.alloc (.cells #[] 25)).drew.heap.size = wz.heap.size + 1 := by simp
          refine hK.out _ _ hL1 (fun hHeld => ?_)
          clear hK K
          clear hHeld
          generalize (wz.alloc (.cells #[] 25)).drew = w1 at R0 hL1 hgz ⊢
          have hHeld := hL1
          refine wpAnyH_ready (rs := [4, 6]) (by kernel_rfl) (by simp) ?_
          obtain ⟨v4, w4, run4, R4, hL4, _⟩ := R0.append hHeld FT.out (by simp <;> omega)
          rw [List.nil_append] at R4
          refine held_append (i := 4) (d := some 37) rfl rfl rfl (.tmp 33) (.tmp 36) 22 22 rfl rfl _ _ _ _ (by simp [Act.eval]) (by simp [Act.eval]) run4 hL4 (fun hHeld => ?_) (AllReadyH.cons rfl (fun K hK => ?_) AllReadyH.nil)
          · simp only [Act.put, List.setIfInBounds_toArray, List.set_cons_zero, List.set_cons_succ]
            clear run4
            refine wpAnyH_ready (rs := [6]) (by kernel_rfl) (by simp) ?_
            refine AllReadyH.cons rfl (fun K hK => ?_) AllReadyH.nil
            go_simp
            have S6 := SrcF.one (w0 := (w.alloc (.cells #[.string f.1, .slice a2 f.2.length c2] 25))) (f := f) (s := .slice a2 f.2.length c2) (heap_alloc_new w4 (.cells #[.string f.1, .slice a2 f.2.length c2] 25)) (HS.out.later ((Later.refl w).alloc _))
            have R6 := R4.later ((Later.refl w4).alloc (.cells #[.string f.1, .slice a2 f.2.length c2] 25))
            have hL6 := hL4.alloc (.cells #[.string f.1, .slice a2 f.2.length c2] 25)
            refine hK.out _ _ hL6 (fun hHeld => ?_)
            clear hK K
            clear hHeld
            generalize w4.heap.size = g6 at S6 ⊢
            generalize w4.alloc (.cells #[.string f.1, .slice a2 f.2.length c2] 25) = w6 at S6 R6 hL6 ⊢
            have hHeld := hL6
            refine wpAnyH_ready (rs := [7]) (by kernel_rfl) (by simp) ?_
            obtain ⟨v7, w7, run7, R7, hL7, _⟩ := R6.appendSrc (cap := 1) hHeld S6 (by simp <;> omega)
            refine held_append (i := 7) (d := some 40) rfl rfl rfl (.tmp 37) (.tmp 39) 22 22 rfl rfl _ _ _ _ (by simp [Act.eval]) (by simp [Act.eval]) run7 hL7 (fun hHeld => ?_) AllReadyH.nil
            simp only [Act.put, List.setIfInBounds_toArray, List.set_cons_zero, List.set_cons_succ]
            refine wpAnyH_ready (rs := [11]) (by kernel_rfl) (by simp) ?_
            obtain ⟨v8, w8, run8, R8, hL8, _⟩ := R7.append hHeld FD.out (by simp <;> omega)
            refine held_append (i := 11) (d := some 44) rfl rfl rfl (.tmp 40) (.tmp 43) 22 22 rfl rfl _ _ _ _ (by simp [Act.eval]) (by simp [Act.eval]) run8 hL8 (fun hHeld => ?_) AllReadyH.nil
            simp only [Act.put, List.setIfInBounds_toArray, List.set_cons_zero, List.set_cons_succ]
            refine take_at (i := 12) (d := some 4) (v := ?_) rfl rfl (by kernel_rfl) (by kernel_rfl) (by kernel_rfl) (fun _ _ _ h => h) (Or.inl ⟨by rfl, ?_⟩) hHeld ?_
            rotate_left
            · intro w hSw; (try dsimp only at hSw);  go_simp; try with_reducible rfl
            simp only [Act.put, List.setIfInBounds_toArray, List.set_cons_zero, List.set_cons_succ]
            refine wpAnyH_done (by kernel_rfl) ?_ _
            go_wp2
            go_ret
            exact ⟨v8, _, rfl, R8.factsC (by simp <;> omega), HSET.out, ((Later.refl w).alloc _).trans hL8⟩
          · clear run4 R4 hL4
            go_simp
            have S6 := SrcF.one (w0 := (w.alloc (.cells #[.string f.1, .slice a2 f.2.length c2] 25))) (f := f) (s := .slice a2 f.2.length c2) (heap_alloc_new w1 (.cells #[.string f.1, .slice a2 f.2.length c2] 25)) (HS.out.later ((Later.refl w).alloc _))
            have R5 := R0.later ((Later.refl w1).alloc (.cells #[.string f.1, .slice a2 f.2.length c2] 25))
            have hL5 := hL1.alloc (.cells #[.string f.1, .slice a2 f.2.length c2] 25)
            refine hK.out _ _ hL5 (fun hHeld => ?_)
            clear hK K
            clear hHeld
            generalize w1.alloc (.cells #[.string f.1, .slice a2 f.2.length c2] 25) = w5 at S6 R5 hL5 ⊢
            have hHeld := hL5
            refine wpAnyH_ready (rs := [4]) (by kernel_rfl) (by simp) ?_
            obtain ⟨v4, w6, run4, R6, hL6, hg6, _⟩ := R5.append hHeld FT.out (by simp <;> omega)
            rw [List.nil_append] at R6
            replace S6 := S6.grown hg6 (by simp [Value.ownBlock]; omega)
            refine held_append (i := 4) (d := some 37) rfl rfl rfl (.tmp 33) (.tmp 36) 22 22 rfl rfl _ _ _ _ (by simp [Act.eval]) (by simp [Act.eval]) run4 hL6 (fun hHeld => ?_) AllReadyH.nil
            simp only [Act.put, List.setIfInBounds_toArray, List.set_cons_zero, List.set_cons_succ]
            refine wpAnyH_ready (rs := [7]) (by kernel_rfl) (by simp) ?_
            obtain ⟨v7, w7, run7, R7, hL7, _⟩ := R6.appendSrc (cap := 1) hHeld S6 (by simp <;> omega)
            refine held_append (i := 7) (d := some 40) rfl rfl rfl (.tmp 37) (.tmp 39) 22 22 rfl rfl _ _ _ _ (by simp [Act.eval]) (by simp [Act.eval]) run7 hL7 (fun hHeld => ?_) AllReadyH.nil
            simp only [Act.put, List.setIfInBounds_toArray, List.set_cons_zero, List.set_cons_succ]
            refine wpAnyH_ready (rs := [11]) (by kernel_rfl) (by simp) ?_
            obtain ⟨v8, w8, run8, R8, hL8, _⟩ := R7.append hHeld FD.out (by simp <;> omega)
            refine held_append (i := 11) (d := some 44) rfl rfl rfl (.tmp 40) (.tmp 43) 22 22 rfl rfl _ _ _ _ (by simp [Act.eval]) (by simp [Act.eval]) run8 hL8 (fun hHeld => ?_) AllReadyH.nil
            simp only [Act.put, List.setIfInBounds_toArray, List.set_cons_zero, List.set_cons_succ]
            refine take_at (i := 12) (d := some 4) (v := ?_) rfl rfl (by kernel_rfl) (by kernel_rfl) (by kernel_rfl) (fun _ _ _ h => h) (Or.inl ⟨by rfl, ?_⟩) hHeld ?_
            rotate_left
            · intro w hSw; (try dsimp only at hSw);  go_simp; try with_reducible rfl
            simp only [Act.put, List.setIfInBounds_toArray, List.set_cons_zero, List.set_cons_succ]
            refine wpAnyH_done (by kernel_rfl) ?_ _
            go_wp2
            go_ret
            exact ⟨v8, _, rfl, R8.factsC (by simp <;> omega), HSET.out, ((Later.refl w).alloc _).trans hL8⟩
        · go_simp
          have S6 : SrcF (w.alloc (.cells #[.string f.1, .slice a2 f.2.length c2] 25)) (wz.alloc (.cells #[.string f.1, .slice a2 f.2.length c2] 25)).drew ⟨wz.heap.size, 0, none⟩ [f] := SrcF.one (w0 := (w.alloc (.cells #[.string f.1, .slice a2 f.2.length c2] 25))) (f := f) (s := .slice a2 f.2.length c2) (heap_alloc_new wz (.cells #[.string f.1, .slice a2 f.2.length c2] 25)) (HS.out.later ((Later.refl w).alloc _))
          have hL3 : Later (w.alloc (.cells #[.string f.1, .slice a2 f.2.length c2] 25)) (wz.alloc (.cells #[.string f.1, .slice a2 f.2.length c2] 25)).drew := (hLz.alloc (.cells #[.string f.1, .slice a2 f.2.length c2] 25)).drew
          have hgz : (wz.alloc (.cells #[.string f.1, .slice a2 f.2.length c2] 25)).drew.heap.size = wz.heap.size + 1 := by simp
          refine hK.out _ _ hL3 (fun hHeld => ?_)
          clear hK K
          clear hHeld
          generalize (wz.alloc (.cells #[.string f.1, .slice a2 f.2.length c2] 25)).drew = w3 at S6 hL3 hgz ⊢
          have hHeld := hL3
          refine wpAnyH_ready (rs := [0]) (by kernel_rfl) (by simp) ?_
          refine AllReadyH.cons rfl (fun K hK => ?_) AllReadyH.nil
          go_simp
          have R5 := RowF.empty (w := w3) (base := (w.alloc (.cells #[.string f.1, .slice a2 f.2.length c2] 25)).heap.size) hL3.size
          replace S6 := S6.later ((Later.refl w3).alloc (.cells #[] 25))
          have hL5 := hL3.alloc (.cells #[] 25)
          refine hK.out _ _ hL5 (fun hHeld => ?_)
          clear hK K
          clear hHeld
          generalize w3.alloc (.cells #[] 25) = w5 at S6 R5 hL5 ⊢
          have hHeld := hL5
          refine wpAnyH_ready (rs := [4]) (by kernel_rfl) (by simp) ?_
          obtain ⟨v4, w6, run4, R6, hL6, hg6, _⟩ := R5.append hHeld FT.out (by simp <;> omega)
          rw [List.nil_append] at R6
          replace S6 := S6.grown hg6 (by simp [Value.ownBlock]; omega)
          refine held_append (i := 4) (d := some 37) rfl rfl rfl (.tmp 33) (.tmp 36) 22 22 rfl rfl _ _ _ _ (by simp [Act.eval]) (by simp [Act.eval]) run4 hL6 (fun hHeld => ?_) AllReadyH.nil
          simp only [Act.put, List.setIfInBounds_toArray, List.set_cons_zero, List.set_cons_succ]
          refine wpAnyH_ready (rs := [7]) (by kernel_rfl) (by simp) ?_
          obtain ⟨v7, w7, run7, R7, hL7, _⟩ := R6.appendSrc (cap := 1) hHeld S6 (by simp <;> omega)
          refine held_append (i := 7) (d := some 40) rfl rfl rfl (.tmp 37) (.tmp 39) 22 22 rfl rfl _ _ _ _ (by simp [Act.eval]) (by simp [Act.eval]) run7 hL7 (fun hHeld => ?_) AllReadyH.nil
          simp only [Act.put, List.setIfInBounds_toArray, List.set_cons_zero, List.set_cons_succ]
          refine wpAnyH_ready (rs := [11]) (by kernel_rfl) (by simp) ?_
          obtain ⟨v8, w8, run8, R8, hL8, _⟩ := R7.append hHeld FD.out (by simp <;> omega)
          refine held_append (i := 11) (d := some 44) rfl rfl rfl (.tmp 40) (.tmp 43) 22 22 rfl rfl _ _ _ _ (by simp [Act.eval]) (by simp [Act.eval]) run8 hL8 (fun hHeld => ?_) AllReadyH.nil
          simp only [Act.put, List.setIfInBounds_toArray, List.set_cons_zero, List.set_cons_succ]
          refine take_at (i := 12) (d := some 4) (v := ?_) rfl rfl (by kernel_rfl) (by kernel_rfl) (by kernel_rfl) (fun _ _ _ h => h) (Or.inl ⟨by rfl, ?_⟩) hHeld ?_
          rotate_left
          · intro w hSw; (try dsimp only at hSw);  go_simp; try with_reducible rfl
          simp only [Act.put, List.setIfInBounds_toArray, List.set_cons_zero, List.set_cons_succ]
          refine wpAnyH_done (by kernel_rfl) ?_ _
          go_wp2
          go_ret
          exact ⟨v8, _, rfl, R8.factsC (by simp <;> omega), HSET.out, ((Later.refl w).alloc _).trans hL8⟩
      · by_cases hck : cap = l.length
        · subst hck
          have FD : Hid (Facts (w.alloc (.cells #[.string f.1, .slice a2 f.2.length c2] 25)) (.slice (some ⟨b, off, none⟩) ([] : List FactD).length 0) []) := ⟨by simp, _, _, rfl, fun h => absurd rfl h⟩
          simp only [List.length_nil] at FD
          go_wp2
          refine wp_region_held_drew (S := fun w' => Later (w.alloc (.cells #[.string f.1, .slice a2 f.2.length c2] 25)) w') (by kernel_rfl) hLz.drew (fun hHeld => ?_)
          refine take_at (i := 1) (d := some 34) (v := ?_) rfl rfl (by kernel_rfl) (by kernel_rfl) (by kernel_rfl) (fun _ _ _ h => h) (Or.inl ⟨by rfl, ?_⟩) hHeld ?_
          rotate_left
          · intro w hSw; (try dsimp only at hSw);  go_simp; try with_reducible rfl
          simp only [Act.put, List.setIfInBounds_toArray, List.set_cons_zero, List.set_cons_succ]
          refine take_at (i := 2) (d := some 35) (v := ?_) rfl rfl (by kernel_rfl) (by kernel_rfl) (by kernel_rfl) (fun _ _ _ h => h) (Or.inl ⟨by rfl, ?_⟩) hHeld ?_
          rotate_left
          · intro w hSw; (try dsimp only at hSw);  go_simp; try with_reducible rfl
          simp only [Act.put, List.setIfInBounds_toArray, List.set_cons_zero, List.set_cons_succ]
          refine take_at (i := 3) (d := some 36) (v := ?_) rfl rfl (by kernel_rfl) (by kernel_rfl) (by kernel_rfl) (fun _ _ _ h => h) (Or.inl ⟨by rfl, ?_⟩) hHeld ?_
          rotate_left
          · intro w hSw; (try dsimp only at hSw);  go_simp; try with_reducible rfl
          simp only [Act.put, List.setIfInBounds_toArray, List.set_cons_zero, List.set_cons_succ]
          refine take_at (i := 5) (d := some 38) (v := ?_) rfl rfl (by kernel_rfl) (by kernel_rfl) (by kernel_rfl) (fun _ _ _ h => h) (Or.inl ⟨by rfl, ?_⟩) hHeld ?_
          rotate_left
          · intro w hSw; (try dsimp only at hSw); obtain ⟨q0, q1⟩ := hbox w hSw; go_simp; try with_reducible rfl
          simp only [Act.put, List.setIfInBounds_toArray, List.set_cons_zero, List.set_cons_succ]
          refine take_at (i := 8) (d := some 41) (v := ?_) rfl rfl (by kernel_rfl) (by kernel_rfl) (by kernel_rfl) (fun _ _ _ h => h) (Or.inl ⟨by rfl, ?_⟩) hHeld ?_
          rotate_left
          · intro w hSw; (try dsimp only at hSw);  go_simp; try with_reducible rfl
          simp only [Act.put, List.setIfInBounds_toArray, List.set_cons_zero, List.set_cons_succ]
          refine take_at (i := 9) (d := some 42) (v := ?_) rfl rfl (by kernel_rfl) (by kernel_rfl) (by kernel_rfl) (fun _ _ _ h => h) (Or.inl ⟨by rfl, ?_⟩) hHeld ?_
          rotate_left
          · intro w hSw; (try dsimp only at hSw);  go_simp; try with_reducible rfl
          simp only [Act.put, List.setIfInBounds_toArray, List.set_cons_zero, List.set_cons_succ]
          refine take_at (i := 10) (d := some 43) (v := ?_) rfl rfl (by kernel_rfl) (by kernel_rfl) (by kernel_rfl) (fun _ _ _ h => h) (Or.inl ⟨by rfl, ?_⟩) hHeld ?_
          rotate_left
          · intro w hSw; (try dsimp only at hSw);  go_simp; try with_reducible rfl
          simp only [Act.put, List.setIfInBounds_toArray, List.set_cons_zero, List.set_cons_succ]
          have hbz := hLz.size
          refine wpAnyH_ready (rs := [0, 6]) (by kernel_rfl) (by simp) ?_
          refine AllReadyH.cons rfl (fun K hK => ?_) (AllReadyH.cons rfl (fun K hK => ?_) AllReadyH.nil)
          · go_simp
            have R0 : RowF (wz.alloc (.cells #[] 25)).drew (w.alloc (.cells #[.string f.1, .slice a2 f.2.length c2] 25)).heap.size (.slice (some ⟨wz.heap.size, 0, none⟩) 0 0) [] := (RowF.empty hbz).later (Later.refl _).drew
            have hL1 : Later (w.alloc (.cells #[.string f.1, .slice a2 f.2.length c2] 25)) (wz.alloc (.cells #[] 25)).drew := (hLz.alloc _).drew
            have hgz : (wz.alloc (.cells #[] 25)).drew.heap.size = wz.heap.size + 1 := by simp
            refine hK.out _ _ hL1 (fun hHeld => ?_)
            clear hK K
            clear hHeld
            generalize (wz.alloc (.cells #[] 25)).drew = w1 at R0 hL1 hgz ⊢
            have hHeld := hL1
            refine wpAnyH_ready (rs := [4, 6]) (by kernel_rfl) (by simp) ?_
            obtain ⟨v4, w4, run4, R4, hL4, _⟩ := R0.append hHeld FT.out (by simp <;> omega)
            rw [List.nil_append] at R4
            refine held_append (i := 4) (d := some 37) rfl rfl rfl (.tmp 33) (.tmp 36) 22 22 rfl rfl _ _ _ _ (by simp [Act.eval]) (by simp [Act.eval]) run4 hL4 (fun hHeld => ?_) (AllReadyH.cons rfl (fun K hK => ?_) AllReadyH.nil)
            · simp only [Act.put, List.setIfInBounds_toArray, List.set_cons_zero, List.set_cons_succ]
              clear run4
              refine wpAnyH_ready (rs := [6]) (by kernel_rfl) (by simp) ?_
              refine AllReadyH.cons rfl (fun K hK => ?_) AllReadyH.nil
              go_simp
              have S6 := SrcF.one (w0 := (w.alloc (.cells #[.string f.1, .slice a2 f.2.length c2] 25))) (f := f) (s := .slice a2 f.2.length c2) (heap_alloc_new w4 (.cells #[.string f.1, .slice a2 f.2.length c2] 25)) (HS.out.later ((Later.refl w).alloc _))
              have R6 := R4.later ((Later.refl w4).alloc (.cells #[.string f.1, .slice a2 f.2.length c2] 25))
              have hL6 := hL4.alloc (.cells #[.string f.1, .slice a2 f.2.length c2] 25)
              refine hK.out _ _ hL6 (fun hHeld => ?_)
              clear hK K
              clear hHeld
              generalize w4.heap.size = g6 at S6 ⊢
              generalize w4.alloc (.cells #[.string f.1, .slice a2 f.2.length c2] 25) = w6 at S6 R6 hL6 ⊢
              have hHeld := hL6
              refine wpAnyH_ready (rs := [7]) (by kernel_rfl) (by simp) ?_
              obtain ⟨v7, w7, run7, R7, hL7, _⟩ := R6.appendSrc (cap := 1) hHeld S6 (by simp <;> omega)
              refine held_append (i := 7) (d := some 40) rfl rfl rfl (.tmp 37) (.tmp 39) 22 22 rfl rfl _ _ _ _ (by simp [Act.eval]) (by simp [Act.eval]) run7 hL7 (fun hHeld => ?_) AllReadyH.nil
              simp only [Act.put, List.setIfInBounds_toArray, List.set_cons_zero, List.set_cons_succ]
              refine wpAnyH_ready (rs := [11]) (by kernel_rfl) (by simp) ?_
              obtain ⟨v8, w8, run8, R8, hL8, _⟩ := R7.append hHeld FD.out (by simp <;> omega)
              refine held_append (i := 11) (d := some 44) rfl rfl rfl (.tmp 40) (.tmp 43) 22 22 rfl rfl _ _ _ _ (by simp [Act.eval]) (by simp [Act.eval]) run8 hL8 (fun hHeld => ?_) AllReadyH.nil
              simp only [Act.put, List.setIfInBounds_toArray, List.set_cons_zero, List.set_cons_succ]
              refine take_at (i := 12) (d := some 4) (v := ?_) rfl rfl (by kernel_rfl) (by kernel_rfl) (by kernel_rfl) (fun _ _ _ h => h) (Or.inl ⟨by rfl, ?_⟩) hHeld ?_
              rotate_left
              · intro w hSw; (try dsimp only at hSw);  go_simp; try with_reducible rfl
              simp only [Act.put, List.setIfInBounds_toArray, List.set_cons_zero, List.set_cons_succ]
              refine wpAnyH_done (by kernel_rfl) ?_ _
              go_wp2
              go_ret
              exact ⟨v8, _, rfl, R8.factsC (by simp <;> omega), HSET.out, ((Later.refl w).alloc _).trans hL8⟩
            · clear run4 R4 hL4
              go_simp
              have S6 := SrcF.one (w0 := (w.alloc (.cells #[.string f.1, .slice a2 f.2.length c2] 25))) (f := f) (s := .slice a2 f.2.length c2) (heap_alloc_new w1 (.cells #[.string f.1, .slice a2 f.2.length c2] 25)) (HS.out.later ((Later.refl w).alloc _))
              have R5 := R0.later ((Later.refl w1).alloc (.cells #[.string f.1, .slice a2 f.2.length c2] 25))
              have hL5 := hL1.alloc (.cells #[.string f.1, .slice a2 f.2.length c2] 25)
              refine hK.out _ _ hL5 (fun hHeld => ?_)
              clear hK K
              clear hHeld
              generalize w1.alloc (.cells #[.string f.1, .slice a2 f.2.length c2] 25) = w5 at S6 R5 hL5 ⊢
              have hHeld := hL5
              refine wpAnyH_ready (rs := [4]) (by kernel_rfl) (by simp) ?_
              obtain ⟨v4, w6, run4, R6, hL6, hg6, _⟩ := R5.append hHeld FT.out (by simp <;> omega)
              rw [List.nil_append] at R6
              replace S6 := S6.grown hg6 (by simp [Value.ownBlock]; omega)
              refine held_append (i := 4) (d := some 37) rfl rfl rfl (.tmp 33) (.tmp 36) 22 22 rfl rfl _ _ _ _ (by simp [Act.eval]) (by simp [Act.eval]) run4 hL6 (fun hHeld => ?_) AllReadyH.nil
              simp only [Act.put, List.setIfInBounds_toArray, List.set_cons_zero, List.set_cons_succ]
              refine wpAnyH_ready (rs := [7]) (by kernel_rfl) (by simp) ?_
              obtain ⟨v7, w7, run7, R7, hL7, _⟩ := R6.appendSrc (cap := 1) hHeld S6 (by simp <;> omega)
              refine held_append (i := 7) (d := some 40) rfl rfl rfl (.tmp 37) (.tmp 39) 22 22 rfl rfl _ _ _ _ (by simp [Act.eval]) (by simp [Act.eval]) run7 hL7 (fun hHeld => ?_) AllReadyH.nil
              simp only [Act.put, List.setIfInBounds_toArray, List.set_cons_zero, List.set_cons_succ]
              refine wpAnyH_ready (rs := [11]) (by kernel_rfl) (by simp) ?_
              obtain ⟨v8, w8, run8, R8, hL8, _⟩ := R7.append hHeld FD.out (by simp <;> omega)
              refine held_append (i := 11) (d := some 44) rfl rfl rfl (.tmp 40) (.tmp 43) 22 22 rfl rfl _ _ _ _ (by simp [Act.eval]) (by simp [Act.eval]) run8 hL8 (fun hHeld => ?_) AllReadyH.nil
              simp only [Act.put, List.setIfInBounds_toArray, List.set_cons_zero, List.set_cons_succ]
              refine take_at (i := 12) (d := some 4) (v := ?_) rfl rfl (by kernel_rfl) (by kernel_rfl) (by kernel_rfl) (fun _ _ _ h => h) (Or.inl ⟨by rfl, ?_⟩) hHeld ?_
              rotate_left
              · intro w hSw; (try dsimp only at hSw);  go_simp; try with_reducible rfl
              simp only [Act.put, List.setIfInBounds_toArray, List.set_cons_zero, List.set_cons_succ]
              refine wpAnyH_done (by kernel_rfl) ?_ _
              go_wp2
              go_ret
              exact ⟨v8, _, rfl, R8.factsC (by simp <;> omega), HSET.out, ((Later.refl w).alloc _).trans hL8⟩
          · go_simp
            have S6 : SrcF (w.alloc (.cells #[.string f.1, .slice a2 f.2.length c2] 25)) (wz.alloc (.cells #[.string f.1, .slice a2 f.2.length c2] 25)).drew ⟨wz.heap.size, 0, none⟩ [f] := SrcF.one (w0 := (w.alloc (.cells #[.string f.1, .slice a2 f.2.length c2] 25))) (f := f) (s := .slice a2 f.2.length c2) (heap_alloc_new wz (.cells #[.string f.1, .slice a2 f.2.length c2] 25)) (HS.out.later ((Later.refl w).alloc _))
            have hL3 : Later (w.alloc (.cells #[.string f.1, .slice a2 f.2.length c2] 25)) (wz.alloc (.cells #[.string f.1, .slice a2 f.2.length c2] 25)).drew := (hLz.alloc (.cells #[.string f.1, .slice a2 f.2.length c2] 25)).drew
            have hgz : (wz.alloc (.cells #[.string f.1, .slice a2 f.2.length c2] 25)).drew.heap.size = wz.heap.size + 1 := by simp
            refine hK.out _ _ hL3 (fun hHeld => ?_)
            clear hK K
            clear hHeld
            generalize (wz.alloc (.cells #[.string f.1, .slice a2 f.2.length c2] 25)).drew = w3 at S6 hL3 hgz ⊢
            have hHeld := hL3
            refine wpAnyH_ready (rs := [0]) (by kernel_rfl) (by simp) ?_
            refine AllReadyH.cons rfl (fun K hK => ?_) AllReadyH.nil
            go_simp
            have R5 := RowF.empty (w := w3) (base := (w.alloc (.cells #[.string f.1, .slice a2 f.2.length c2] 25)).heap.size) hL3.size
            replace S6 := S6.later ((Later.refl w3).alloc (.cells #[] 25))
            have hL5 := hL3.alloc (.cells #[] 25)
            refine hK.out _ _ hL5 (fun hHeld => ?_)
            clear hK K
            clear hHeld
            generalize w3.alloc (.cells #[] 25) = w5 at S6 R5 hL5 ⊢
            have hHeld := hL5
            refine wpAnyH_ready (rs := [4]) (by kernel_rfl) (by simp) ?_
            obtain ⟨v4, w6, run4, R6, hL6, hg6, _⟩ := R5.append hHeld FT.out (by simp <;> omega)
            rw [List.nil_append] at R6
            replace S6 := S6.grown hg6 (by simp [Value.ownBlock]; omega)
            refine held_append (i := 4) (d := some 37) rfl rfl rfl (.tmp 33) (.tmp 36) 22 22 rfl rfl _ _ _ _ (by simp [Act.eval]) (by simp [Act.eval]) run4 hL6 (fun hHeld => ?_) AllReadyH.nil
            simp only [Act.put, List.setIfInBounds_toArray, List.set_cons_zero, List.set_cons_succ]
            refine wpAnyH_ready (rs := [7]) (by kernel_rfl) (by simp) ?_
            obtain ⟨v7, w7, run7, R7, hL7, _⟩ := R6.appendSrc (cap := 1) hHeld S6 (by simp <;> omega)
            refine held_append (i := 7) (d := some 40) rfl rfl rfl (.tmp 37) (.tmp 39) 22 22 rfl rfl _ _ _ _ (by simp [Act.eval]) (by simp [Act.eval]) run7 hL7 (fun hHeld => ?_) AllReadyH.nil
            simp only [Act.put, List.setIfInBounds_toArray, List.set_cons_zero, List.set_cons_succ]
            refine wpAnyH_ready (rs := [11]) (by kernel_rfl) (by simp) ?_
            obtain ⟨v8, w8, run8, R8, hL8, _⟩ := R7.append hHeld FD.out (by simp <;> omega)
            refine held_append (i := 11) (d := some 44) rfl rfl rfl (.tmp 40) (.tmp 43) 22 22 rfl rfl _ _ _ _ (by simp [Act.eval]) (by simp [Act.eval]) run8 hL8 (fun hHeld => ?_) AllReadyH.nil
            simp only [Act.put, List.setIfInBounds_toArray, List.set_cons_zero, List.set_cons_succ]
            refine take_at (i := 12) (d := some 4) (v := ?_) rfl rfl (by kernel_rfl) (by kernel_rfl) (by kernel_rfl) (fun _ _ _ h => h) (Or.inl ⟨by rfl, ?_⟩) hHeld ?_
            rotate_left
            · intro w hSw; (try dsimp only at hSw);  go_simp; try with_reducible rfl
            simp only [Act.put, List.setIfInBounds_toArray, List.set_cons_zero, List.set_cons_succ]
            refine wpAnyH_done (by kernel_rfl) ?_ _
            go_wp2
            go_ret
            exact ⟨v8, _, rfl, R8.factsC (by simp <;> omega), HSET.out, ((Later.refl w).alloc _).trans hL8⟩
        · have FD : Hid (Facts (w.alloc (.cells #[.string f.1, .slice a2 f.2.length c2] 25)) (.slice (some ⟨b, off + l.length * 2, none⟩) ([] : List FactD).length (cap - l.length)) []) := ⟨by simp, _, _, rfl, fun h => absurd rfl h⟩
          simp only [List.length_nil] at FD
          go_wp2
          refine wp_region_held_drew (S := fun w' => Later (w.alloc (.cells #[.string f.1, .slice a2 f.2.length c2] 25)) w') (by kernel_rfl) hLz.drew (fun hHeld => ?_)
          refine take_at (i := 1) (d := some 34) (v := ?_) rfl rfl (by kernel_rfl) (by kernel_rfl) (by kernel_rfl) (fun _ _ _ h => h) (Or.inl ⟨by rfl, ?_⟩) hHeld ?_
          rotate_left
          · intro w hSw; (try dsimp only at hSw);  go_simp; try with_reducible rfl
          simp only [Act.put, List.setIfInBounds_toArray, List.set_cons_zero, List.set_cons_succ]
          refine take_at (i := 2) (d := some 35) (v := ?_) rfl rfl (by kernel_rfl) (by kernel_rfl) (by kernel_rfl) (fun _ _ _ h => h) (Or.inl ⟨by rfl, ?_⟩) hHeld ?_
          rotate_left
          · intro w hSw; (try dsimp only at hSw);  go_simp; try with_reducible rfl
          simp only [Act.put, List.setIfInBounds_toArray, List.set_cons_zero, List.set_cons_succ]
          refine take_at (i := 3) (d := some 36) (v := ?_) rfl rfl (by kernel_rfl) (by kernel_rfl) (by kernel_rfl) (fun _ _ _ h => h) (Or.inl ⟨by rfl, ?_⟩) hHeld ?_
          rotate_left
          · intro w hSw; (try dsimp only at hSw);  go_simp; try with_reducible rfl
          simp only [Act.put, List.setIfInBounds_toArray, List.set_cons_zero, List.set_cons_succ]
          refine take_at (i := 5) (d := some 38) (v := ?_) rfl rfl (by kernel_rfl) (by kernel_rfl) (by kernel_rfl) (fun _ _ _ h => h) (Or.inl ⟨by rfl, ?_⟩) hHeld ?_
          rotate_left
          · intro w hSw; (try dsimp only at hSw); obtain ⟨q0, q1⟩ := hbox w hSw; go_simp; try with_reducible rfl
          simp only [Act.put, List.setIfInBounds_toArray, List.set_cons_zero, List.set_cons_succ]
          refine take_at (i := 8) (d := some 41) (v := ?_) rfl rfl (by kernel_rfl) (by kernel_rfl) (by kernel_rfl) (fun _ _ _ h => h) (Or.inl ⟨by rfl, ?_⟩) hHeld ?_
          rotate_left
          · intro w hSw; (try dsimp only at hSw);  go_simp; try with_reducible rfl
          simp only [Act.put, List.setIfInBounds_toArray, List.set_cons_zero, List.set_cons_succ]
          refine take_at (i := 9) (d := some 42) (v := ?_) rfl rfl (by kernel_rfl) (by kernel_rfl) (by kernel_rfl) (fun _ _ _ h => h) (Or.inl ⟨by rfl, ?_⟩) hHeld ?_
          rotate_left
          · intro w hSw; (try dsimp only at hSw);  go_simp; try with_reducible rfl
          simp only [Act.put, List.setIfInBounds_toArray, List.set_cons_zero, List.set_cons_succ]
          refine take_at (i := 10) (d := some 43) (v := ?_) rfl rfl (by kernel_rfl) (by kernel_rfl) (by kernel_rfl) (fun _ _ _ h => h) (Or.inl ⟨by rfl, ?_⟩) hHeld ?_
          rotate_left
          · intro w hSw; (try dsimp only at hSw);  go_simp; try with_reducible rfl
          simp only [Act.put, List.setIfInBounds_toArray, List.set_cons_zero, List.set_cons_succ]
          have hbz := hLz.size
          refine wpAnyH_ready (rs := [0, 6]) (by kernel_rfl) (by simp) ?_
          refine AllReadyH.cons rfl (fun K hK => ?_) (AllReadyH.cons rfl (fun K hK => ?_) AllReadyH.nil)
          · go_simp
            have R0 : RowF (wz.alloc (.cells #[] 25)).drew (w.alloc (.cells #[.string f.1, .slice a2 f.2.length c2] 25)).heap.size (.slice (some ⟨wz.heap.size, 0, none⟩) 0 0) [] := (RowF.empty hbz).later (Later.refl _).drew
            have hL1 : Later (w.alloc (.cells #[.string f.1, .slice a2 f.2.length c2] 25)) (wz.alloc (.cells #[] 25)).drew := (hLz.alloc _).drew
            have hgz : (wz.alloc (.cells #[] 25)).drew.heap.size = wz.heap.size + 1 := by simp
            refine hK.out _ _ hL1 (fun hHeld => ?_)
            clear hK K
            clear hHeld
            generalize (wz.alloc (.cells #[] 25)).drew = w1 at R0 hL1 hgz ⊢
            have hHeld := hL1
            refine wpAnyH_ready (rs := [4, 6]) (by kernel_rfl) (by simp) ?_
            obtain ⟨v4, w4, run4, R4, hL4, _⟩ := R0.append hHeld FT.out (by simp <;> omega)
            rw [List.nil_append] at R4
            refine held_append (i := 4) (d := some 37) rfl rfl rfl (.tmp 33) (.tmp 36) 22 22 rfl rfl _ _ _ _ (by simp [Act.eval]) (by simp [Act.eval]) run4 hL4 (fun hHeld => ?_) (AllReadyH.cons rfl (fun K hK => ?_) AllReadyH.nil)
            · simp only [Act.put, List.setIfInBounds_toArray, List.set_cons_zero, List.set_cons_succ]
              clear run4
              refine wpAnyH_ready (rs := [6]) (by kernel_rfl) (by simp) ?_
              refine AllReadyH.cons rfl (fun K hK => ?_) AllReadyH.nil
              go_simp
              have S6 := SrcF.one (w0 := (w.alloc (.cells #[.string f.1, .slice a2 f.2.length c2] 25))) (f := f) (s := .slice a2 f.2.length c2) (heap_alloc_new w4 (.cells #[.string f.1, .slice a2 f.2.length c2] 25)) (HS.out.later ((Later.refl w).alloc _))
              have R6 := R4.later ((Later.refl w4).alloc (.cells #[.string f.1, .slice a2 f.2.length c2] 25))
              have hL6 := hL4.alloc (.cells #[.string f.1, .slice a2 f.2.length c2] 25)
              refine hK.out _ _ hL6 (fun hHeld => ?_)
              clear hK K
              clear hHeld
              generalize w4.heap.size = g6 at S6 ⊢
              generalize w4.alloc (.cells #[.string f.1, .slice a2 f.2.length c2] 25) = w6 at S6 R6 hL6 ⊢
              have hHeld := hL6
              refine wpAnyH_ready (rs := [7]) (by kernel_rfl) (by simp) ?_
              obtain ⟨v7, w7, run7, R7, hL7, _⟩ := R6.appendSrc (cap := 1) hHeld S6 (by simp <;> omega)
              refine held_append (i := 7) (d := some 40) rfl rfl rfl (.tmp 37) (.tmp 39) 22 22 rfl rfl _ _ _ _ (by simp [Act.eval]) (by simp [Act.eval]) run7 hL7 (fun hHeld => ?_) AllReadyH.nil
              simp only [Act.put, List.setIfInBounds_toArray, List.set_cons_zero, List.set_cons_succ]
              refine wpAnyH_ready (rs := [11]) (by kernel_rfl) (by simp) ?_
              obtain ⟨v8, w8, run8, R8, hL8, _⟩ := R7.append hHeld FD.out (by simp <;> omega)
              refine held_append (i := 11) (d := some 44) rfl rfl rfl (.tmp 40) (.tmp 43) 22 22 rfl rfl _ _ _ _ (by simp [Act.eval]) (by simp [Act.eval]) run8 hL8 (fun hHeld => ?_) AllReadyH.nil
              simp only [Act.put, List.setIfInBounds_toArray, List.set_cons_zero, List.set_cons_succ]
              refine take_at (i := 12) (d := some 4) (v := ?_) rfl rfl (by kernel_rfl) (by kernel_rfl) (by kernel_rfl) (fun _ _ _ h => h) (Or.inl ⟨by rfl, ?_⟩) hHeld ?_
              rotate_left
              · intro w hSw; (try dsimp only at hSw);  go_simp; try with_reducible rfl
              simp only [Act.put, List.setIfInBounds_toArray, List.set_cons_zero, List.set_cons_succ]
              refine wpAnyH_done (by kernel_rfl) ?_ _
              go_wp2
              go_ret
              exact ⟨v8, _, rfl, R8.factsC (by simp <;> omega), HSET.out, ((Later.refl w).alloc _).trans hL8⟩
            · clear run4 R4 hL4
              go_simp
              have S6 := SrcF.one (w0 := (w.alloc (.cells #[.string f.1, .slice a2 f.2.length c2] 25))) (f := f) (s := .slice a2 f.2.length c2) (heap_alloc_new w1 (.cells #[.string f.1, .slice a2 f.2.length c2] 25)) (HS.out.later ((Later.refl w).alloc _))
              have R5 := R0.later ((Later.refl w1).alloc (.cells #[.string f.1, .slice a2 f.2.length c2] 25))
              have hL5 := hL1.alloc (.cells #[.string f.1, .slice a2 f.2.length c2] 25)
              refine hK.out _ _ hL5 (fun hHeld => ?_)
              clear hK K
              clear hHeld
              generalize w1.alloc (.cells #[.string f.1, .slice a2 f.2.length c2] 25) = w5 at S6 R5 hL5 ⊢
              have hHeld := hL5
              refine wpAnyH_ready (rs := [4]) (by kernel_rfl) (by simp) ?_
              obtain ⟨v4, w6, run4, R6, hL6, hg6, _⟩ := R5.append hHeld FT.out (by simp <;> omega)
              rw [List.nil_append] at R6
              replace S6 := S6.grown hg6 (by simp [Value.ownBlock]; omega)
              refine held_append (i := 4) (d := some 37) rfl rfl rfl (.tmp 33) (.tmp 36) 22 22 rfl rfl _ _ _ _ (by simp [Act.eval]) (by simp [Act.eval]) run4 hL6 (fun hHeld => ?_) AllReadyH.nil
              simp only [Act.put, List.setIfInBounds_toArray, List.set_cons_zero, List.set_cons_succ]
              refine wpAnyH_ready (rs := [7]) (by kernel_rfl) (by simp) ?_
              obtain ⟨v7, w7, run7, R7, hL7, _⟩ := R6.appendSrc (cap := 1) hHeld S6 (by simp <;> omega)
              refine held_append (i := 7) (d := some 40) rfl rfl rfl (.tmp 37) (.tmp 39) 22 22 rfl rfl _ _ _ _ (by simp [Act.eval]) (by simp [Act.eval]) run7 hL7 (fun hHeld => ?_) AllReadyH.nil
              simp only [Act.put, List.setIfInBounds_toArray, List.set_cons_zero, List.set_cons_succ]
              refine wpAnyH_ready (rs := [11]) (by kernel_rfl) (by simp) ?_
              obtain ⟨v8, w8, run8, R8, hL8, _⟩ := R7.append hHeld FD.out (by simp <;> omega)
              refine held_append (i := 11) (d := some 44) rfl rfl rfl (.tmp 40) (.tmp 43) 22 22 rfl rfl _ _ _ _ (by simp [Act.eval]) (by simp [Act.eval]) run8 hL8 (fun hHeld => ?_) AllReadyH.nil
              simp only [Act.put, List.setIfInBounds_toArray, List.set_cons_zero, List.set_cons_succ]
              refine take_at (i := 12) (d := some 4) (v := ?_) rfl rfl (by kernel_rfl) (by kernel_rfl) (by kernel_rfl) (fun _ _ _ h => h) (Or.inl ⟨by rfl, ?_⟩) hHeld ?_
              rotate_left
              · intro w hSw; (try dsimp only at hSw);  go_simp; try with_reducible rfl
              simp only [Act.put, List.setIfInBounds_toArray, List.set_cons_zero, List.set_cons_succ]
              refine wpAnyH_done (by kernel_rfl) ?_ _
              go_wp2
              go_ret
              exact ⟨v8, _, rfl, R8.factsC (by simp <;> omega), HSET.out, ((Later.refl w).alloc _).trans hL8⟩
          · go_simp
            have S6 : SrcF (w.alloc (.cells #[.string f.1, .slice a2 f.2.length c2] 25)) (wz.alloc (.cells #[.string f.1, .slice a2 f.2.length c2] 25)).drew ⟨wz.heap.size, 0, none⟩ [f] := SrcF.one (w0 := (w.alloc (.cells #[.string f.1, .slice a2 f.2.length c2] 25))) (f := f) (s := .slice a2 f.2.length c2) (heap_alloc_new wz (.cells #[.string f.1, .slice a2 f.2.length c2] 25)) (HS.out.later ((Later.refl w).alloc _))
            have hL3 : Later (w.alloc (.cells #[.string f.1, .slice a2 f.2.length c2] 25)) (wz.alloc (.cells #[.string f.1, .slice a2 f.2.length c2] 25)).drew := (hLz.alloc (.cells #[.string f.1, .slice a2 f.2.length c2] 25)).drew
            have hgz : (wz.alloc (.cells #[.string f.1, .slice a2 f.2.length c2] 25)).drew.heap.size = wz.heap.size + 1 := by simp
            refine hK.out _ _ hL3 (fun hHeld => ?_)
            clear hK K
            clear hHeld
            generalize (wz.alloc (.cells #[.string f.1, .slice a2 f.2.length c2] 25)).drew = w3 at S6 hL3 hgz ⊢
            have hHeld := hL3
            refine wpAnyH_ready (rs := [0]) (by kernel_rfl) (by simp) ?_
            refine AllReadyH.cons rfl (fun K hK => ?_) AllReadyH.nil
            go_simp
            have R5 := RowF.empty (w := w3) (base := (w.alloc (.cells #[.string f.1, .slice a2 f.2.length c2] 25)).heap.size) hL3.size
            replace S6 := S6.later ((Later.refl w3).alloc (.cells #[] 25))
            have hL5 := hL3.alloc (.cells #[] 25)
            refine hK.out _ _ hL5 (fun hHeld => ?_)
            clear hK K
            clear hHeld
            generalize w3.alloc (.cells #[] 25) = w5 at S6 R5 hL5 ⊢
            have hHeld := hL5
            refine wpAnyH_ready (rs := [4]) (by kernel_rfl) (by simp) ?_
            obtain ⟨v4, w6, run4, R6, hL6, hg6, _⟩ := R5.append hHeld FT.out (by simp <;> omega)
            rw [List.nil_append] at R6
            replace S6 := S6.grown hg6 (by simp [Value.ownBlock]; omega)
            refine held_append (i := 4) (d := some 37) rfl rfl rfl (.tmp 33) (.tmp 36) 22 22 rfl rfl _ _ _ _ (by simp [Act.eval]) (by simp [Act.eval]) run4 hL6 (fun hHeld => ?_) AllReadyH.nil
            simp only [Act.put, List.setIfInBounds_toArray, List.set_cons_zero, List.set_cons_succ]
            refine wpAnyH_ready (rs := [7]) (by kernel_rfl) (by simp) ?_
            obtain ⟨v7, w7, run7, R7, hL7, _⟩ := R6.appendSrc (cap := 1) hHeld S6 (by simp <;> omega)
            refine held_append (i := 7) (d := some 40) rfl rfl rfl (.tmp 37) (.tmp 39) 22 22 rfl rfl _ _ _ _ (by simp [Act.eval]) (by simp [Act.eval]) run7 hL7 (fun hHeld => ?_) AllReadyH.nil
            simp only [Act.put, List.setIfInBounds_toArray, List.set_cons_zero, List.set_cons_succ]
            refine wpAnyH_ready (rs := [11]) (by kernel_rfl) (by simp) ?_
            obtain ⟨v8, w8, run8, R8, hL8, _⟩ := R7.append hHeld FD.out (by simp <;> omega)
            refine held_append (i := 11) (d := some 44) rfl rfl rfl (.tmp 40) (.tmp 43) 22 22 rfl rfl _ _ _ _ (by simp [Act.eval]) (by simp [Act.eval]) run8 hL8 (fun hHeld => ?_) AllReadyH.nil
            simp only [Act.put, List.setIfInBounds_toArray, List.set_cons_zero, List.set_cons_succ]
            refine take_at (i := 12) (d := some 4) (v := ?_) rfl rfl (by kernel_rfl) (by kernel_rfl) (by kernel_rfl) (fun _ _ _ h => h) (Or.inl ⟨by rfl, ?_⟩) hHeld ?_
            rotate_left
            · intro w hSw; (try dsimp only at hSw);  go_simp; try with_reducible rfl
            simp only [Act.put, List.setIfInBounds_toArray, List.set_cons_zero, List.set_cons_succ]
            refine wpAnyH_done (by kernel_rfl) ?_ _
            go_wp2
            go_ret
            exact ⟨v8, _, rfl, R8.factsC (by simp <;> omega), HSET.out, ((Later.refl w).alloc _).trans hL8⟩

end Go.Proofs.Ytflldbpjhcgkbaa
