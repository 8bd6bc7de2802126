/- Texts of this claim, one behind the other. -/
import Derived.Test.YtbohggoeebhdmaaGreatDoorJ10
import Derived.Test.YtbohggoeebhdmaaGreatDoorJ5
import Derived.Test.YtbohggoeebhdmaaGreatDoorJ17
/- The document's answer: the walk of ref.Same, where the two lists hold the same. -/
namespace Go.Proofs.YtbohggoeebhdmaaGreatDoor
open Go.RowKit Go.Sort

set_option maxHeartbeats 1000000 in
theorem rSame (v1 v2 : Value) (l : List FactD) (w : World) (h1 : Facts w v1 l) (h2 : Facts w v2 l) :
    Calls Tryz.prog 14 #[v1, v2] w fun e w' => e = .returned (.bool true) ∧ Later w w' := by
  have mx := mixed
  have H1 := hide h1
  have H2 := hide h2
  obtain ⟨a, cap, rfl, hn, hz⟩ := h1.addr
  obtain ⟨a2, cap2, rfl, _, hz2⟩ := h2.addr
  clear h1 h2
  go_enter Tryz.func14, Tryz.ntmps14
  go_wp2
  go_loopw [13] (fun i wr => ∃ k : Nat, k ≤ l.length ∧ i = .int .i64 k ∧ Later w wr) (fun i _ => l.length - (intOf i).toNat)
  case atStart => exact ⟨0, by omega, rfl, Later.refl _⟩
  case round =>
    obtain ⟨k, hk, rfl, hL⟩ := hrel
    by_cases hlt : k < l.length
    · rcases hz with rfl | ⟨b, off, rfl⟩
      · simp at hlt
      rcases hz2 with rfl | ⟨b2, off2, rfl⟩
      · simp at hlt
      have hltz : (k : Int) < (l.length : Int) := by omega
      obtain ⟨ax, lx, cx, g1, g2, fx⟩ := (H1.out.later hL).grown hlt
      obtain ⟨ay, ly, cy, g3, g4, fy⟩ := (H2.out.later hL).grown hlt
      have hE : ∀ q os, Calls Tryz.prog 43 #[.agg #[.string (l.getD k noFact).1, .slice ax lx cx], .agg #[.string (l.getD k noFact).1, .slice ay ly cy]] (grow (wr.drewN q) os) fun e w'' => e = .returned (.bool true) ∧ Later (grow (wr.drewN q) os) w'' :=
        fun q os => (rEqual _ _ _ _ _ (fx.later ⟨q, os, rfl⟩) (fy.later ⟨q, os, rfl⟩)).mono fun e w' ⟨he, hw⟩ => ⟨by rw [he, sameF_iff.2 rfl], hw⟩
      have HE := hide hE
      clear hE fx fy
      generalize (l.getD k noFact).1 = nk at *
      go_wp2
      go_quiet_grown ((go_at_call 43; exact Calls.grown_of (HE.out _ _)))
      go_wp2
      go_roundw
      case rel => exact ⟨k + 1, by omega, by go_num, hL.trans ⟨_, _, rfl⟩⟩
      case measure => simp [intOf]; omega
    · go_wp2
      go_ret
      exact ⟨rfl, hL⟩

end Go.Proofs.YtbohggoeebhdmaaGreatDoor

/- The document's answer: the walks of ref.Add, Of, Both, Minus. -/
namespace Go.Proofs.YtbohggoeebhdmaaGreatDoor
open Go.RowKit Go.Sort

/-- One fact more, at its place: where m of the set come ahead of it. -/
theorem add_at {l : List FactD} {f : FactD} (hr : Rises l) {m : Nat} (hm : m ≤ l.length) (ha : ∀ t, t < m → cmpF (l.getD t noFact) f < 0) (hb : m < l.length → 0 ≤ cmpF (l.getD m noFact) f) (hne : m < l.length → cmpF (l.getD m noFact) f ≠ 0) :
    SetOf (l.take m ++ [f] ++ l.drop m) (l ++ [f]) := by
  have hafter : ∀ g ∈ l.drop m, cmpF f g < 0 := fun g hg => by
    obtain ⟨t, ht, rfl⟩ := List.getElem_of_mem hg
    rw [List.length_drop] at ht
    rw [List.getElem_drop]
    have h1 := hb (by omega)
    have h2 := hne (by omega)
    have h3 := three_cmpF.swap (l.getD m noFact) f
    have e : l.getD m noFact = l[m]'(by omega) := by rw [List.getD_eq_getElem?_getD, List.getElem?_eq_getElem (by omega)]; rfl
    rw [e] at h1 h2 h3
    by_cases h0 : t = 0
    · subst h0
      simp only [Nat.add_zero]
      omega
    · have h4 := List.pairwise_iff_getElem.1 hr m (m + t) (by omega) (by omega) (by omega)
      exact three_cmpF.trans _ (l[m]'(by omega)) _ (by omega) h4
  have hahead : ∀ g ∈ l.take m, cmpF g f < 0 := fun g hg => by
    obtain ⟨t, ht, _, rfl⟩ := mem_take_getD hg
    exact ha t ht
  have hsplit : l.take m ++ l.drop m = l := List.take_append_drop m l
  have hcross : ∀ a ∈ l.take m, ∀ b ∈ l.drop m, cmpF a b < 0 := fun a h1 b h2 => three_cmpF.trans a f b (hahead a h1) (hafter b h2)
  refine ⟨?_, fun g => ?_, by simp; omega⟩
  · unfold Rises
    rw [List.append_assoc, List.pairwise_append]
    refine ⟨List.Pairwise.sublist (List.take_sublist m l) hr, ?_, ?_⟩
    · rw [List.pairwise_append]
      refine ⟨List.pairwise_singleton _ _, List.Pairwise.sublist (List.drop_sublist m l) hr, fun a h1 b h2 => ?_⟩
      rw [List.mem_singleton] at h1
      subst h1
      exact hafter b h2
    · intro a h1 b h2
      rw [List.mem_append, List.mem_singleton] at h2
      rcases h2 with rfl | h2
      · exact hahead a h1
      · exact hcross a h1 b h2
  · have : g ∈ l ↔ g ∈ l.take m ∨ g ∈ l.drop m := by rw [← List.mem_append, hsplit]
    simp only [List.mem_append, List.mem_singleton, this]
    constructor
    · rintro ((h | h) | h)
      · exact Or.inl (Or.inl h)
      · exact Or.inr h
      · exact Or.inl (Or.inr h)
    · rintro ((h | h) | h)
      · exact Or.inl (Or.inl h)
      · exact Or.inr h
      · exact Or.inl (Or.inr h)

theorem sizeOfF2 : ∀ w, (Go.sizeOf 54).run Tryz.prog w = .ok 2 w := Tryz.sizeOf54

/-- A set of facts, and where a slice of it ends. -/
def FactsC (w : World) (v : Value) (l : List FactD) : Prop := Facts w v l ∧ ((v = .slice none 0 0 ∧ l = []) ∨ ∃ b off cap, v = .slice (some ⟨b, off, none⟩) l.length cap ∧ l.length ≤ cap ∧ cap ≤ 9223372036854775807)

theorem RowF.factsC {base : Nat} {w : World} {v : Value} {l : List FactD} (h : RowF w base v l) (hl : l.length ≤ 3518437208883) : FactsC w v l := by
  refine ⟨h.facts hl, ?_⟩
  obtain ⟨xs, ho, _⟩ := h
  rcases ho.2 with ⟨rfl, e⟩ | ⟨g, cap, cur, rfl, _, _, hnc, hcm, _⟩
  · exact Or.inl ⟨rfl, List.eq_nil_of_length_eq_zero e⟩
  · exact Or.inr ⟨g, 0, cap, rfl, hnc, by simpa [maxLen] using hcm⟩

theorem FactsC.later {w w' : World} {v : Value} {l : List FactD} (h : FactsC w v l) (k : Later w w') : FactsC w' v l := ⟨h.1.later k, h.2⟩

set_option maxHeartbeats 2000000 in
theorem rAdd (v t : Value) (l : List FactD) (f : FactD) (w : World) (hc : FactsC w v l) (ht : FactV w t f) (hr : Rises l) (hn : l.length ≤ 2097152) :
    Calls Tryz.prog 80 #[v, t] w fun e w' => ∃ v' r, e = .returned v' ∧ FactsC w' v' r ∧ SetOf r (l ++ [f]) ∧ Later w w' := by
  have mx := mixed
  have HF := hide hc.1
  have HT := hide ht
  have HR := hide hr
  have HC0 := hide hc
  obtain ⟨a, cap, rfl, hcap, hcm, hz⟩ : ∃ a cap, v = .slice a l.length cap ∧ l.length ≤ cap ∧ cap ≤ 9223372036854775807 ∧ ((a = none ∧ l = [] ∧ cap = 0) ∨ ∃ b off, a = some ⟨b, off, none⟩) := by
    rcases hc.2 with ⟨rfl, rfl⟩ | ⟨b, off, cap, rfl, h1, h2⟩
    · exact ⟨none, 0, rfl, by simp, by omega, Or.inl ⟨rfl, rfl, rfl⟩⟩
    · exact ⟨_, cap, rfl, h1, h2, Or.inr ⟨b, off, rfl⟩⟩
  obtain ⟨s2, rfl, l2, a2, c2, rfl, k2⟩ := ht
  have HS : Hid (Strs w (.slice a2 f.2.length c2) f.2) := ⟨l2, a2, c2, rfl, k2⟩
  clear hc hr k2
  have hbox : ∀ w', Later (w.alloc (.cells #[.string f.1, .slice a2 f.2.length c2] 54)) w' → w'.cell? ⟨w.heap.size, 0, none⟩ = some (.string f.1) ∧ w'.cell? ⟨w.heap.size, 1, none⟩ = some (.slice a2 f.2.length c2) := fun w' hw => ⟨by rw [hw.cell (by simp)]; simp, by rw [hw.cell (by simp)]; simp⟩
  go_enter Tryz.func80, Tryz.ntmps80
  go_wp2
  go_loopw [5] (fun i wr => ∃ k : Nat, k ≤ l.length ∧ i = .int .i64 k ∧ Later (w.alloc (.cells #[.string f.1, .slice a2 f.2.length c2] 54)) wr ∧ Hid (∀ t, t < k → cmpF (l.getD t noFact) f < 0)) (fun i _ => l.length - (intOf i).toNat)
  case atStart => exact ⟨0, by omega, rfl, Later.refl _, fun t ht => absurd ht (Nat.not_lt_zero _)⟩
  case round =>
    obtain ⟨k, hk, rfl, hL, HA⟩ := hrel
    have hL0 : Later w wr := ((Later.refl _).alloc _).trans hL
    have z0 := cell_later hL (p := ⟨w.heap.size, 0, none⟩) (v := .string f.1) (by simp) (by simp)
    have z1 := cell_later hL (p := ⟨w.heap.size, 1, none⟩) (v := .slice a2 f.2.length c2) (by simp) (by simp)
    by_cases hlt : k < l.length
    · rcases hz with ⟨rfl, rfl, rfl⟩ | ⟨b, off, rfl⟩
      · simp at hlt
      have hltz : (k : Int) < (l.length : Int) := by omega
      obtain ⟨ax, lx, cx, g1, g2, fx⟩ := (HF.out.later hL0).grown hlt
      have hC : ∀ q os, Calls Tryz.prog 72 #[.agg #[.string (l.getD k noFact).1, .slice ax lx cx], .agg #[.string f.1, .slice a2 f.2.length c2]] (grow (wr.drewN q) os) fun e w'' => e = .returned (.bool (lessF (l.getD k noFact) f)) ∧ Later (grow (wr.drewN q) os) w'' :=
        fun q os => rLess _ _ _ _ _ (fx.later ⟨q, os, rfl⟩) ((HT.out.later hL0).later ⟨q, os, rfl⟩)
      have hE : ∀ w', Later wr w' → Calls Tryz.prog 43 #[.agg #[.string (l.getD k noFact).1, .slice ax lx cx], .agg #[.string f.1, .slice a2 f.2.length c2]] w' fun e w'' => e = .returned (.bool (sameF (l.getD k noFact) f)) ∧ Later w' w'' :=
        fun w' hw => rEqual _ _ _ _ _ (fx.later hw) ((HT.out.later hL0).later hw)
      have hmeet := fun h1 h2 => add_at (f := f) HR.out (m := k) (by omega) HA.out h1 h2
      unfold lessF at hC
      unfold sameF at hE
      have HE := hide hE
      have HM := hide hmeet
      clear hE fx hmeet
      generalize hcm2 : cmpF (l.getD k noFact) f = cm at *
      have HCM := hide hcm2
      clear hcm2
      generalize hnk : (l.getD k noFact).1 = nk at *
      clear hnk
      by_cases hneg : cm < 0
      · rw [decide_eq_true hneg] at hC
        have HC := hide hC
        clear hC
        go_wp2
        go_quiet_grown ((go_at_call 72; exact Calls.grown_of (HC.out _ _)))
        go_wp2
        go_roundw
        case rel => exact ⟨k + 1, by omega, by go_num, hL.trans ⟨_, _, rfl⟩, fun t ht => by
          by_cases e : t = k
          · rw [e, HCM.out]; exact hneg
          · exact HA.out t (by omega)⟩
        case measure => simp [intOf]; omega
      · rw [decide_eq_false hneg] at hC
        have HC := hide hC
        clear hC
        go_wp2
        go_quiet_grown ((go_at_call 72; exact Calls.grown_of (HC.out _ _)))
        dsimp only
        have hL2 : Later wr (grow (wr.drewN nq) osq) := ⟨_, _, rfl⟩
        have hE2 : ∀ q os, Calls Tryz.prog 43 #[.agg #[.string nk, .slice ax lx cx], .agg #[.string f.1, .slice a2 f.2.length c2]] (grow ((grow (wr.drewN nq) osq).drewN q) os) fun e w'' => e = .returned (.bool (decide (cm = 0))) ∧ Later (grow ((grow (wr.drewN nq) osq).drewN q) os) w'' :=
          fun q os => HE.out _ (hL2.trans ⟨q, os, rfl⟩)
        have g1' : ∀ q os, (grow ((grow (wr.drewN nq) osq).drewN q) os).cell? ⟨b, off + k * 2, none⟩ = some (.string nk) := fun q os => by
          obtain ⟨q', os', e⟩ := hL2.trans ⟨q, os, rfl⟩; rw [e]; exact g1 q' os'
        have g2' : ∀ q os, (grow ((grow (wr.drewN nq) osq).drewN q) os).cell? ⟨b, off + k * 2 + 1, none⟩ = some (.slice ax lx cx) := fun q os => by
          obtain ⟨q', os', e⟩ := hL2.trans ⟨q, os, rfl⟩; rw [e]; exact g2 q' os'
        have z0' : ∀ q os, (grow ((grow (wr.drewN nq) osq).drewN q) os).cell? ⟨w.heap.size, 0, none⟩ = some (.string f.1) := fun q os => by
          obtain ⟨q', os', e⟩ := hL2.trans ⟨q, os, rfl⟩; rw [e]; exact z0 q' os'
        have z1' : ∀ q os, (grow ((grow (wr.drewN nq) osq).drewN q) os).cell? ⟨w.heap.size, 1, none⟩ = some (.slice a2 f.2.length c2) := fun q os => by
          obtain ⟨q', os', e⟩ := hL2.trans ⟨q, os, rfl⟩; rw [e]; exact z1 q' os'
        clear HC g1 g2 z0 z1
        generalize grow (wr.drewN nq) osq = w2 at *
        have hL02 : Later w w2 := hL0.trans hL2
        by_cases heq : cm = 0
        · rw [decide_eq_true heq] at hE2
          have HE2 := hide hE2
          clear hE2
          go_wp2
          go_quiet_grown ((go_at_call 43; exact Calls.grown_of (HE2.out _ _)))
          go_wp2
          go_ret
          have hL3 : Later w (grow (w2.drewN nq) osq) := hL02.trans ⟨_, _, rfl⟩
          refine ⟨_, l, rfl, HC0.out.later hL3, ⟨HR.out, fun g => ?_, by simp⟩, hL3⟩
          have e := three_cmpF.zero _ _ (HCM.out.trans heq)
          rw [List.mem_append, List.mem_singleton, ← e]
          refine ⟨Or.inl, fun h => h.elim id fun h => ?_⟩
          rw [h]
          have := getD_mem_take (l := l) (i := k) (k := l.length) hlt (Nat.le_refl _)
          rwa [List.take_length] at this
        · rw [decide_eq_false heq] at hE2
          have HE2 := hide hE2
          clear hE2
          go_wp2
          go_quiet_grown ((go_at_call 43; exact Calls.grown_of (HE2.out _ _)))
          dsimp only
          have hLz : Later (w.alloc (.cells #[.string f.1, .slice a2 f.2.length c2] 54)) (grow (w2.drewN nq) osq) := (hL.trans hL2).trans ⟨_, _, rfl⟩
          have hset := HM.out (fun _ => by omega) (fun _ => heq)
          clear HE2 z0' z1' g1' g2' HE HM
          generalize grow (w2.drewN nq) osq = wz at hLz ⊢
          have HSET := hide hset
          clear hset
          have hck : ¬ cap = k := by omega
          have hkc : (k : Int) ≤ (cap : Int) := by omega
          have hkl : (k : Int) ≤ (l.length : Int) := by omega
          have hTl : (l.take k).length = k := by rw [List.length_take]; omega
          have hDl : (l.drop k).length = l.length - k := List.length_drop
          have FT := hide (((HF.out.take (k := k) (by omega))).later ((Later.refl w).alloc (.cells #[.string f.1, .slice a2 f.2.length c2] 54)))
          have FD := hide (((HF.out.drop (k := k) (by omega) (cap - k))).later ((Later.refl w).alloc (.cells #[.string f.1, .slice a2 f.2.length c2] 54)))
          go_wp2
          refine wp_region_held_drew (S := fun w' => Later (w.alloc (.cells #[.string f.1, .slice a2 f.2.length c2] 54)) w') (by kernel_rfl) hLz.drew (fun hHeld => ?_)
          refine take_at (i := 1) (d := some 34) (v := ?_) rfl rfl (by kernel_rfl) (by kernel_rfl) (by kernel_rfl) (fun _ _ _ h => h) (Or.inl ⟨by rfl, ?_⟩) hHeld ?_
          rotate_left
          · intro w hSw; (try dsimp only at hSw);  go_simp; try with_reducible rfl
          simp only [Act.put, List.setIfInBounds_toArray, List.set_cons_zero, List.set_cons_succ]
          refine take_at (i := 2) (d := some 35) (v := ?_) rfl rfl (by kernel_rfl) (by kernel_rfl) (by kernel_rfl) (fun _ _ _ h => h) (Or.inl ⟨by rfl, ?_⟩) hHeld ?_
          rotate_left
          · intro w hSw; (try dsimp only at hSw);  go_simp; try with_reducible rfl
          simp only [Act.put, List.setIfInBounds_toArray, List.set_cons_zero, List.set_cons_succ]
          refine take_at (i := 3) (d := some 36) (v := ?_) rfl rfl (by kernel_rfl) (by kernel_rfl) (by kernel_rfl) (fun _ _ _ h => h) (Or.inl ⟨by rfl, ?_⟩) hHeld ?_
          rotate_left
          · intro w hSw; (try dsimp only at hSw);  go_simp; try with_reducible rfl
          simp only [Act.put, List.setIfInBounds_toArray, List.set_cons_zero, List.set_cons_succ]
          refine take_at (i := 5) (d := some 38) (v := ?_) rfl rfl (by kernel_rfl) (by kernel_rfl) (by kernel_rfl) (fun _ _ _ h => h) (Or.inl ⟨by rfl, ?_⟩) hHeld ?_
          rotate_left
          · intro w hSw; (try dsimp only at hSw); obtain ⟨q0, q1⟩ := hbox w hSw; go_simp; try with_reducible rfl
          simp only [Act.put, List.setIfInBounds_toArray, List.set_cons_zero, List.set_cons_succ]
          refine take_at (i := 8) (d := some 41) (v := ?_) rfl rfl (by kernel_rfl) (by kernel_rfl) (by kernel_rfl) (fun _ _ _ h => h) (Or.inl ⟨by rfl, ?_⟩) hHeld ?_
          rotate_left
          · intro w hSw; (try dsimp only at hSw);  go_simp; try with_reducible rfl
          simp only [Act.put, List.setIfInBounds_toArray, List.set_cons_zero, List.set_cons_succ]
          refine take_at (i := 9) (d := some 42) (v := ?_) rfl rfl (by kernel_rfl) (by kernel_rfl) (by kernel_rfl) (fun _ _ _ h => h) (Or.inl ⟨by rfl, ?_⟩) hHeld ?_
          rotate_left
          · intro w hSw; (try dsimp only at hSw);  go_simp; try with_reducible rfl
          simp only [Act.put, List.setIfInBounds_toArray, List.set_cons_zero, List.set_cons_succ]
          refine take_at (i := 10) (d := some 43) (v := ?_) rfl rfl (by kernel_rfl) (by kernel_rfl) (by kernel_rfl) (fun _ _ _ h => h) (Or.inl ⟨by rfl, ?_⟩) hHeld ?_
          rotate_left
          · intro w hSw; (try dsimp only at hSw);  go_simp; try with_reducible rfl
          simp only [Act.put, List.setIfInBounds_toArray, List.set_cons_zero, List.set_cons_succ]
          have hbz := hLz.size
          refine wpAnyH_ready (rs := [0, 6]) (by kernel_rfl) (by simp) ?_
          refine AllReadyH.cons rfl (fun K hK => ?_) (AllReadyH.cons rfl (fun K hK => ?_) AllReadyH.nil)
          · go_simp
            have R0 : RowF (wz.alloc (.cells #[] 54)).drew (w.alloc (.cells #[.string f.1, .slice a2 f.2.length c2] 54)).heap.size (.slice (some ⟨wz.heap.size, 0, none⟩) 0 0) [] := (RowF.empty hbz).later (Later.refl _).drew
            have hL1 : Later (w.alloc (.cells #[.string f.1, .slice a2 f.2.length c2] 54)) (wz.alloc (.cells #[] 54)).drew := (hLz.alloc _).drew
            have hgz : (wz.alloc (.cells #[] 54)).drew.heap.size = wz.heap.size + 1 := by simp
            refine hK.out _ _ hL1 (fun hHeld => ?_)
            clear hK K
            clear hHeld
            generalize (wz.alloc (.cells #[] 54)).drew = w1 at R0 hL1 hgz ⊢
            have hHeld := hL1
            refine wpAnyH_ready (rs := [4, 6]) (by kernel_rfl) (by simp) ?_
            obtain ⟨v4, w4, run4, R4, hL4, _⟩ := R0.append hHeld FT.out (by simp <;> omega)
            rw [hTl] at run4
            rw [List.nil_append] at R4
            refine held_append (i := 4) (d := some 37) rfl rfl rfl (.tmp 33) (.tmp 36) 24 24 rfl rfl _ _ _ _ (by simp [Act.eval]) (by simp [Act.eval]) run4 hL4 (fun hHeld => ?_) (AllReadyH.cons rfl (fun K hK => ?_) AllReadyH.nil)
            · simp only [Act.put, List.setIfInBounds_toArray, List.set_cons_zero, List.set_cons_succ]
              clear run4
              refine wpAnyH_ready (rs := [6]) (by kernel_rfl) (by simp) ?_
              refine AllReadyH.cons rfl (fun K hK => ?_) AllReadyH.nil
              go_simp
              have S6 := SrcF.one (w0 := (w.alloc (.cells #[.string f.1, .slice a2 f.2.length c2] 54))) (f := f) (s := .slice a2 f.2.length c2) (heap_alloc_new w4 (.cells #[.string f.1, .slice a2 f.2.length c2] 54)) (HS.out.later ((Later.refl w).alloc _))
              have R6 := R4.later ((Later.refl w4).alloc (.cells #[.string f.1, .slice a2 f.2.length c2] 54))
              have hL6 := hL4.alloc (.cells #[.string f.1, .slice a2 f.2.length c2] 54)
              refine hK.out _ _ hL6 (fun hHeld => ?_)
              clear hK K
              clear hHeld
              generalize w4.heap.size = g6 at S6 ⊢
              generalize w4.alloc (.cells #[.string f.1, .slice a2 f.2.length c2] 54) = w6 at S6 R6 hL6 ⊢
              have hHeld := hL6
              refine wpAnyH_ready (rs := [7]) (by kernel_rfl) (by simp) ?_
              obtain ⟨v7, w7, run7, R7, hL7, _⟩ := R6.appendSrc (cap := 1) hHeld S6 (by simp <;> omega)
              refine held_append (i := 7) (d := some 40) rfl rfl rfl (.tmp 37) (.tmp 39) 24 24 rfl rfl _ _ _ _ (by simp [Act.eval]) (by simp [Act.eval]) run7 hL7 (fun hHeld => ?_) AllReadyH.nil
              simp only [Act.put, List.setIfInBounds_toArray, List.set_cons_zero, List.set_cons_succ]
              refine wpAnyH_ready (rs := [11]) (by kernel_rfl) (by simp) ?_
              obtain ⟨v8, w8, run8, R8, hL8, _⟩ := R7.append hHeld FD.out (by simp <;> omega)
              rw [hDl] at run8
              refine held_append (i := 11) (d := some 44) rfl rfl rfl (.tmp 40) (.tmp 43) 24 24 rfl rfl _ _ _ _ (by simp [Act.eval]) (by simp [Act.eval]) run8 hL8 (fun hHeld => ?_) AllReadyH.nil
              simp only [Act.put, List.setIfInBounds_toArray, List.set_cons_zero, List.set_cons_succ]
              refine take_at (i := 12) (d := some 4) (v := ?_) rfl rfl (by kernel_rfl) (by kernel_rfl) (by kernel_rfl) (fun _ _ _ h => h) (Or.inl ⟨by rfl, ?_⟩) hHeld ?_
              rotate_left
              · intro w hSw; (try dsimp only at hSw);  go_simp; try with_reducible rfl
              simp only [Act.put, List.setIfInBounds_toArray, List.set_cons_zero, List.set_cons_succ]
              refine wpAnyH_done (by kernel_rfl) ?_ _
              go_wp2
              go_ret
              exact ⟨v8, _, rfl, R8.factsC (by simp <;> omega), HSET.out, ((Later.refl w).alloc _).trans hL8⟩
            · clear run4 R4 hL4
              go_simp
              have S6 := SrcF.one (w0 := (w.alloc (.cells #[.string f.1, .slice a2 f.2.length c2] 54))) (f := f) (s := .slice a2 f.2.length c2) (heap_alloc_new w1 (.cells #[.string f.1, .slice a2 f.2.length c2] 54)) (HS.out.later ((Later.refl w).alloc _))
              have R5 := R0.later ((Later.refl w1).alloc (.cells #[.string f.1, .slice a2 f.2.length c2] 54))
              have hL5 := hL1.alloc (.cells #[.string f.1, .slice a2 f.2.length c2] 54)
              refine hK.out _ _ hL5 (fun hHeld => ?_)
              clear hK K
              clear hHeld
              generalize w1.alloc (.cells #[.string f.1, .slice a2 f.2.length c2] 54) = w5 at S6 R5 hL5 ⊢
              have hHeld := hL5
              refine wpAnyH_ready (rs := [4]) (by kernel_rfl) (by simp) ?_
              obtain ⟨v4, w6, run4, R6, hL6, hg6, _⟩ := R5.append hHeld FT.out (by simp <;> omega)
              rw [hTl] at run4
              rw [List.nil_append] at R6
              replace S6 := S6.grown hg6 (by simp [Value.ownBlock]; omega)
              refine held_append (i := 4) (d := some 37) rfl rfl rfl (.tmp 33) (.tmp 36) 24 24 rfl rfl _ _ _ _ (by simp [Act.eval]) (by simp [Act.eval]) run4 hL6 (fun hHeld => ?_) AllReadyH.nil
              simp only [Act.put, List.setIfInBounds_toArray, List.set_cons_zero, List.set_cons_succ]
              refine wpAnyH_ready (rs := [7]) (by kernel_rfl) (by simp) ?_
              obtain ⟨v7, w7, run7, R7, hL7, _⟩ := R6.appendSrc (cap := 1) hHeld S6 (by simp <;> omega)
              refine held_append (i := 7) (d := some 40) rfl rfl rfl (.tmp 37) (.tmp 39) 24 24 rfl rfl _ _ _ _ (by simp [Act.eval]) (by simp [Act.eval]) run7 hL7 (fun hHeld => ?_) AllReadyH.nil
              simp only [Act.put, List.setIfInBounds_toArray, List.set_cons_zero, List.set_cons_succ]
              refine wpAnyH_ready (rs := [11]) (by kernel_rfl) (by simp) ?_
              obtain ⟨v8, w8, run8, R8, hL8, _⟩ := R7.append hHeld FD.out (by simp <;> omega)
              rw [hDl] at run8
              refine held_append (i := 11) (d := some 44) rfl rfl rfl (.tmp 40) (.tmp 43) 24 24 rfl rfl _ _ _ _ (by simp [Act.eval]) (by simp [Act.eval]) run8 hL8 (fun hHeld => ?_) AllReadyH.nil
              simp only [Act.put, List.setIfInBounds_toArray, List.set_cons_zero, List.set_cons_succ]
              refine take_at (i := 12) (d := some 4) (v := ?_) rfl rfl (by kernel_rfl) (by kernel_rfl) (by kernel_rfl) (fun _ _ _ h => h) (Or.inl ⟨by rfl, ?_⟩) hHeld ?_
              rotate_left
              · intro w hSw; (try dsimp only at hSw);  go_simp; try with_reducible rfl
              simp only [Act.put, List.setIfInBounds_toArray, List.set_cons_zero, List.set_cons_succ]
              refine wpAnyH_done (by kernel_rfl) ?_ _
              go_wp2
              go_ret
              exact ⟨v8, _, rfl, R8.factsC (by simp <;> omega), HSET.out, ((Later.refl w).alloc _).trans hL8⟩
          · go_simp
            have S6 : SrcF (w.alloc (.cells #[.string f.1, .slice a2 f.2.length c2] 54)) (wz.alloc (.cells #[.string f.1, .slice a2 f.2.length c2] 54)).drew ⟨wz.heap.size, 0, none⟩ [f] := SrcF.one (w0 := (w.alloc (.cells #[.string f.1, .slice a2 f.2.length c2] 54))) (f := f) (s := .slice a2 f.2.length c2) (heap_alloc_new wz (.cells #[.string f.1, .slice a2 f.2.length c2] 54)) (HS.out.later ((Later.refl w).alloc _))
            have hL3 : Later (w.alloc (.cells #[.string f.1, .slice a2 f.2.length c2] 54)) (wz.alloc (.cells #[.string f.1, .slice a2 f.2.length c2] 54)).drew := (hLz.alloc (.cells #[.string f.1, .slice a2 f.2.length c2] 54)).drew
            have hgz : (wz.alloc (.cells #[.string f.1, .slice a2 f.2.length c2] 54)).drew.heap.size = wz.heap.size + 1 := by simp
            refine hK.out _ _ hL3 (fun hHeld => ?_)
            clear hK K
            clear hHeld
            generalize (wz.alloc (.cells #[.string f.1, .slice a2 f.2.length c2] 54)).drew = w3 at S6 hL3 hgz ⊢
            have hHeld := hL3
            refine wpAnyH_ready (rs := [0]) (by kernel_rfl) (by simp) ?_
            refine AllReadyH.cons rfl (fun K hK => ?_) AllReadyH.nil
            go_simp
            have R5 := RowF.empty (w := w3) (base := (w.alloc (.cells #[.string f.1, .slice a2 f.2.length c2] 54)).heap.size) hL3.size
            replace S6 := S6.later ((Later.refl w3).alloc (.cells #[] 54))
            have hL5 := hL3.alloc (.cells #[] 54)
            refine hK.out _ _ hL5 (fun hHeld => ?_)
            clear hK K
            clear hHeld
            generalize w3.alloc (.cells #[] 54) = w5 at S6 R5 hL5 ⊢
            have hHeld := hL5
            refine wpAnyH_ready (rs := [4]) (by kernel_rfl) (by simp) ?_
            obtain ⟨v4, w6, run4, R6, hL6, hg6, _⟩ := R5.append hHeld FT.out (by simp <;> omega)
            rw [hTl] at run4
            rw [List.nil_append] at R6
            replace S6 := S6.grown hg6 (by simp [Value.ownBlock]; omega)
            refine held_append (i := 4) (d := some 37) rfl rfl rfl (.tmp 33) (.tmp 36) 24 24 rfl rfl _ _ _ _ (by simp [Act.eval]) (by simp [Act.eval]) run4 hL6 (fun hHeld => ?_) AllReadyH.nil
            simp only [Act.put, List.setIfInBounds_toArray, List.set_cons_zero, List.set_cons_succ]
            refine wpAnyH_ready (rs := [7]) (by kernel_rfl) (by simp) ?_
            obtain ⟨v7, w7, run7, R7, hL7, _⟩ := R6.appendSrc (cap := 1) hHeld S6 (by simp <;> omega)
            refine held_append (i := 7) (d := some 40) rfl rfl rfl (.tmp 37) (.tmp 39) 24 24 rfl rfl _ _ _ _ (by simp [Act.eval]) (by simp [Act.eval]) run7 hL7 (fun hHeld => ?_) AllReadyH.nil
            simp only [Act.put, List.setIfInBounds_toArray, List.set_cons_zero, List.set_cons_succ]
            refine wpAnyH_ready (rs := [11]) (by kernel_rfl) (by simp) ?_
            obtain ⟨v8, w8, run8, R8, hL8, _⟩ := R7.append hHeld FD.out (by simp <;> omega)
            rw [hDl] at run8
            refine held_append (i := 11) (d := some 44) rfl rfl rfl (.tmp 40) (.tmp 43) 24 24 rfl rfl _ _ _ _ (by simp [Act.eval]) (by simp [Act.eval]) run8 hL8 (fun hHeld => ?_) AllReadyH.nil
            simp only [Act.put, List.setIfInBounds_toArray, List.set_cons_zero, List.set_cons_succ]
            refine take_at (i := 12) (d := some 4) (v := ?_) rfl rfl (by kernel_rfl) (by kernel_rfl) (by kernel_rfl) (fun _ _ _ h => h) (Or.inl ⟨by rfl, ?_⟩) hHeld ?_
            rotate_left
            · intro w hSw; (try dsimp only at hSw);  go_simp; try with_reducible rfl
            simp only [Act.put, List.setIfInBounds_toArray, List.set_cons_zero, List.set_cons_succ]
            refine wpAnyH_done (by kernel_rfl) ?_ _
            go_wp2
            go_ret
            exact ⟨v8, _, rfl, R8.factsC (by simp <;> omega), HSET.out, ((Later.refl w).alloc _).trans hL8⟩
    · have hd : decide (k < l.length) = false := by rw [decide_eq_false_iff_not]; omega
      go_wp2
      go_quiet (fail)
      have hL5 := hL.drewN nq
      generalize wr.drewN nq = w5 at hL5 ⊢
      go_wp2
      go_quiet (fail)
      have hset := add_at (f := f) HR.out (m := k) hk HA.out (fun h => absurd h hlt) (fun h => absurd h hlt)
      have hLz := hL5.drewN nq
      generalize w5.drewN nq = wz at hLz ⊢
      have hkl : k = l.length := by omega
      clear hd hlt HA z0 z1 hL0 hL hL5
      subst hkl
      rw [List.take_length, List.drop_length] at hset
      have HSET := hide hset
      clear hset
      have hkc : (l.length : Int) ≤ (cap : Int) := by omega
      have FT := hide (HF.out.later ((Later.refl w).alloc (.cells #[.string f.1, .slice a2 f.2.length c2] 54)))
      rcases hz with ⟨rfl, rfl, rfl⟩ | ⟨b, off, rfl⟩
      · have FD : Hid (Facts (w.alloc (.cells #[.string f.1, .slice a2 f.2.length c2] 54)) (.slice none ([] : List FactD).length 0) []) := FT
        clear hkc hcap hk
        simp only [List.length_nil] at FT FD ⊢
        go_wp2
        refine wp_region_held_drew (S := fun w' => Later (w.alloc (.cells #[.string f.1, .slice a2 f.2.length c2] 54)) w') (by kernel_rfl) hLz.drew (fun hHeld => ?_)
        refine take_at (i := 1) (d := some 34) (v := ?_) rfl rfl (by kernel_rfl) (by kernel_rfl) (by kernel_rfl) (fun _ _ _ h => h) (Or.inl ⟨by rfl, ?_⟩) hHeld ?_
        rotate_left
        · intro w hSw; (try dsimp only at hSw);  go_simp; try with_reducible rfl
        simp only [Act.put, List.setIfInBounds_toArray, List.set_cons_zero, List.set_cons_succ]
        refine take_at (i := 2) (d := some 35) (v := ?_) rfl rfl (by kernel_rfl) (by kernel_rfl) (by kernel_rfl) (fun _ _ _ h => h) (Or.inl ⟨by rfl, ?_⟩) hHeld ?_
        rotate_left
        · intro w hSw; (try dsimp only at hSw);  go_simp; try with_reducible rfl
        simp only [Act.put, List.setIfInBounds_toArray, List.set_cons_zero, List.set_cons_succ]
        refine take_at (i := 3) (d := some 36) (v := ?_) rfl rfl (by kernel_rfl) (by kernel_rfl) (by kernel_rfl) (fun _ _ _ h => h) (Or.inl ⟨by rfl, ?_⟩) hHeld ?_
        rotate_left
        · intro w hSw; (try dsimp only at hSw);  go_simp; try with_reducible rfl
        simp only [Act.put, List.setIfInBounds_toArray, List.set_cons_zero, List.set_cons_succ]
        refine take_at (i := 5) (d := some 38) (v := ?_) rfl rfl (by kernel_rfl) (by kernel_rfl) (by kernel_rfl) (fun _ _ _ h => h) (Or.inl ⟨by rfl, ?_⟩) hHeld ?_
        rotate_left
        · intro w hSw; (try dsimp only at hSw); obtain ⟨q0, q1⟩ := hbox w hSw; go_simp; try with_reducible rfl
        simp only [Act.put, List.setIfInBounds_toArray, List.set_cons_zero, List.set_cons_succ]
        refine take_at (i := 8) (d := some 41) (v := ?_) rfl rfl (by kernel_rfl) (by kernel_rfl) (by kernel_rfl) (fun _ _ _ h => h) (Or.inl ⟨by rfl, ?_⟩) hHeld ?_
        rotate_left
        · intro w hSw; (try dsimp only at hSw);  go_simp; try with_reducible rfl
        simp only [Act.put, List.setIfInBounds_toArray, List.set_cons_zero, List.set_cons_succ]
        refine take_at (i := 9) (d := some 42) (v := ?_) rfl rfl (by kernel_rfl) (by kernel_rfl) (by kernel_rfl) (fun _ _ _ h => h) (Or.inl ⟨by rfl, ?_⟩) hHeld ?_
        rotate_left
        · intro w hSw; (try dsimp only at hSw);  go_simp; try with_reducible rfl
        simp only [Act.put, List.setIfInBounds_toArray, List.set_cons_zero, List.set_cons_succ]
        refine take_at (i := 10) (d := some 43) (v := ?_) rfl rfl (by kernel_rfl) (by kernel_rfl) (by kernel_rfl) (fun _ _ _ h => h) (Or.inl ⟨by rfl, ?_⟩) hHeld ?_
        rotate_left
        · intro w hSw; (try dsimp only at hSw);  go_simp; try with_reducible rfl
        simp only [Act.put, List.setIfInBounds_toArray, List.set_cons_zero, List.set_cons_succ]
        have hbz := hLz.size
        refine wpAnyH_ready (rs := [0, 6]) (by kernel_rfl) (by simp) ?_
        refine AllReadyH.cons rfl (fun K hK => ?_) (AllReadyH.cons rfl (fun K hK => ?_) AllReadyH.nil)
        · go_simp
          have R0 : RowF (wz.alloc (.cells #[] 54)).drew (w.alloc (.cells #[.string f.1, .slice a2 f.2.length c2] 54)).heap.size (.slice (some ⟨wz.heap.size, 0, none⟩) 0 0) [] := (RowF.empty hbz).later (Later.refl _).drew
          have hL1 : Later (w.alloc (.cells #[.string f.1, .slice a2 f.2.length c2] 54)) (wz.alloc (.cells #[] 54)).drew := (hLz.alloc _).drew
          have hgz : (wz.alloc (.cells #[] 54)).drew.heap.size = wz.heap.size + 1 := by simp
          refine hK.out _ _ hL1 (fun hHeld => ?_)
          clear hK K
          clear hHeld
          generalize (wz.alloc (.cells #[] 54)).drew = w1 at R0 hL1 hgz ⊢
          have hHeld := hL1
          refine wpAnyH_ready (rs := [4, 6]) (by kernel_rfl) (by simp) ?_
          obtain ⟨v4, w4, run4, R4, hL4, _⟩ := R0.append hHeld FT.out (by simp <;> omega)
          rw [List.nil_append] at R4
          refine held_append (i := 4) (d := some 37) rfl rfl rfl (.tmp 33) (.tmp 36) 24 24 rfl rfl _ _ _ _ (by simp [Act.eval]) (by simp [Act.eval]) run4 hL4 (fun hHeld => ?_) (AllReadyH.cons rfl (fun K hK => ?_) AllReadyH.nil)
          · simp only [Act.put, List.setIfInBounds_toArray, List.set_cons_zero, List.set_cons_succ]
            clear run4
            refine wpAnyH_ready (rs := [6]) (by kernel_rfl) (by simp) ?_
            refine AllReadyH.cons rfl (fun K hK => ?_) AllReadyH.nil
            go_simp
            have S6 := SrcF.one (w0 := (w.alloc (.cells #[.string f.1, .slice a2 f.2.length c2] 54))) (f := f) (s := .slice a2 f.2.length c2) (heap_alloc_new w4 (.cells #[.string f.1, .slice a2 f.2.length c2] 54)) (HS.out.later ((Later.refl w).alloc _))
            have R6 := R4.later ((Later.refl w4).alloc (.cells #[.string f.1, .slice a2 f.2.length c2] 54))
            have hL6 := hL4.alloc (.cells #[.string f.1, .slice a2 f.2.length c2] 54)
            refine hK.out _ _ hL6 (fun hHeld => ?_)
            clear hK K
            clear hHeld
            generalize w4.heap.size = g6 at S6 ⊢
            generalize w4.alloc (.cells #[.string f.1, .slice a2 f.2.length c2] 54) = w6 at S6 R6 hL6 ⊢
            have hHeld := hL6
            refine wpAnyH_ready (rs := [7]) (by kernel_rfl) (by simp) ?_
            obtain ⟨v7, w7, run7, R7, hL7, _⟩ := R6.appendSrc (cap := 1) hHeld S6 (by simp <;> omega)
            refine held_append (i := 7) (d := some 40) rfl rfl rfl (.tmp 37) (.tmp 39) 24 24 rfl rfl _ _ _ _ (by simp [Act.eval]) (by simp [Act.eval]) run7 hL7 (fun hHeld => ?_) AllReadyH.nil
            simp only [Act.put, List.setIfInBounds_toArray, List.set_cons_zero, List.set_cons_succ]
            refine wpAnyH_ready (rs := [11]) (by kernel_rfl) (by simp) ?_
            obtain ⟨v8, w8, run8, R8, hL8, _⟩ := R7.append hHeld FD.out (by simp <;> omega)
            refine held_append (i := 11) (d := some 44) rfl rfl rfl (.tmp 40) (.tmp 43) 24 24 rfl rfl _ _ _ _ (by simp [Act.eval]) (by simp [Act.eval]) run8 hL8 (fun hHeld => ?_) AllReadyH.nil
            simp only [Act.put, List.setIfInBounds_toArray, List.set_cons_zero, List.set_cons_succ]
            refine take_at (i := 12) (d := some 4) (v := ?_) rfl rfl (by kernel_rfl) (by kernel_rfl) (by kernel_rfl) (fun _ _ _ h => h) (Or.inl ⟨by rfl, ?_⟩) hHeld ?_
            rotate_left
            · intro w hSw; (try dsimp only at hSw);  go_simp; try with_reducible rfl
            simp only [Act.put, List.setIfInBounds_toArray, List.set_cons_zero, List.set_cons_succ]
            refine wpAnyH_done (by kernel_rfl) ?_ _
            go_wp2
            go_ret
            exact ⟨v8, _, rfl, R8.factsC (by simp <;> omega), HSET.out, ((Later.refl w).alloc _).trans hL8⟩
          · clear run4 R4 hL4
            go_simp
            have S6 := SrcF.one (w0 := (w.alloc (.cells #[.string f.1, .slice a2 f.2.length c2] 54))) (f := f) (s := .slice a2 f.2.length c2) (heap_alloc_new w1 (.cells #[.string f.1, .slice a2 f.2.length c2] 54)) (HS.out.later ((Later.refl w).alloc _))
            have R5 := R0.later ((Later.refl w1).alloc (.cells #[.string f.1, .slice a2 f.2.length c2] 54))
            have hL5 := hL1.alloc (.cells #[.string f.1, .slice a2 f.2.length c2] 54)
            refine hK.out _ _ hL5 (fun hHeld => ?_)
            clear hK K
            clear hHeld
            generalize w1.alloc (.cells #[.string f.1, .slice a2 f.2.length c2] 54) = w5 at S6 R5 hL5 ⊢
            have hHeld := hL5
            refine wpAnyH_ready (rs := [4]) (by kernel_rfl) (by simp) ?_
            obtain ⟨v4, w6, run4, R6, hL6, hg6, _⟩ := R5.append hHeld FT.out (by simp <;> omega)
            rw [List.nil_append] at R6
            replace S6 := S6.grown hg6 (by simp [Value.ownBlock]; omega)
            refine held_append (i := 4) (d := some 37) rfl rfl rfl (.tmp 33) (.tmp 36) 24 24 rfl rfl _ _ _ _ (by simp [Act.eval]) (by simp [Act.eval]) run4 hL6 (fun hHeld => ?_) AllReadyH.nil
            simp only [Act.put, List.setIfInBounds_toArray, List.set_cons_zero, List.set_cons_succ]
            refine wpAnyH_ready (rs := [7]) (by kernel_rfl) (by simp) ?_
            obtain ⟨v7, w7, run7, R7, hL7, _⟩ := R6.appendSrc (cap := 1) hHeld S6 (by simp <;> omega)
            refine held_append (i := 7) (d := some 40) rfl rfl rfl (.tmp 37) (.tmp 39) 24 24 rfl rfl _ _ _ _ (by simp [Act.eval]) (by simp [Act.eval]) run7 hL7 (fun hHeld => ?_) AllReadyH.nil
            simp only [Act.put, List.setIfInBounds_toArray, List.set_cons_zero, List.set_cons_succ]
            refine wpAnyH_ready (rs := [11]) (by kernel_rfl) (by simp) ?_
            obtain ⟨v8, w8, run8, R8, hL8, _⟩ := R7.append hHeld FD.out (by simp <;> omega)
            refine held_append (i := 11) (d := some 44) rfl rfl rfl (.tmp 40) (.tmp 43) 24 24 rfl rfl _ _ _ _ (by simp [Act.eval]) (by simp [Act.eval]) run8 hL8 (fun hHeld => ?_) AllReadyH.nil
            simp only [Act.put, List.setIfInBounds_toArray, List.set_cons_zero, List.set_cons_succ]
            refine take_at (i := 12) (d := some 4) (v := ?_) rfl rfl (by kernel_rfl) (by kernel_rfl) (by kernel_rfl) (fun _ _ _ h => h) (Or.inl ⟨by rfl, ?_⟩) hHeld ?_
            rotate_left
            · intro w hSw; (try dsimp only at hSw);  go_simp; try with_reducible rfl
            simp only [Act.put, List.setIfInBounds_toArray, List.set_cons_zero, List.set_cons_succ]
            refine wpAnyH_done (by kernel_rfl) ?_ _
            go_wp2
            go_ret
            exact ⟨v8, _, rfl, R8.factsC (by simp <;> omega), HSET.out, ((Later.refl w).alloc _).trans hL8⟩
        · go_simp
          have S6 : SrcF (w.alloc (.cells #[.string f.1, .slice a2 f.2.length c2] 54)) (wz.alloc (.cells #[.string f.1, .slice a2 f.2.length c2] 54)).drew ⟨wz.heap.size, 0, none⟩ [f] := SrcF.one (w0 := (w.alloc (.cells #[.string f.1, .slice a2 f.2.length c2] 54))) (f := f) (s := .slice a2 f.2.length c2) (heap_alloc_new wz (.cells #[.string f.1, .slice a2 f.2.length c2] 54)) (HS.out.later ((Later.refl w).alloc _))
          have hL3 : Later (w.alloc (.cells #[.string f.1, .slice a2 f.2.length c2] 54)) (wz.alloc (.cells #[.string f.1, .slice a2 f.2.length c2] 54)).drew := (hLz.alloc (.cells #[.string f.1, .slice a2 f.2.length c2] 54)).drew
          have hgz : (wz.alloc (.cells #[.string f.1, .slice a2 f.2.length c2] 54)).drew.heap.size = wz.heap.size + 1 := by simp
          refine hK.out _ _ hL3 (fun hHeld => ?_)
          clear hK K
          clear hHeld
          generalize (wz.alloc (.cells #[.string f.1, .slice a2 f.2.length c2] 54)).drew = w3 at S6 hL3 hgz ⊢
          have hHeld := hL3
          refine wpAnyH_ready (rs := [0]) (by kernel_rfl) (by simp) ?_
          refine AllReadyH.cons rfl (fun K hK => ?_) AllReadyH.nil
          go_simp
          have R5 := RowF.empty (w := w3) (base := (w.alloc (.cells #[.string f.1, .slice a2 f.2.length c2] 54)).heap.size) hL3.size
          replace S6 := S6.later ((Later.refl w3).alloc (.cells #[] 54))
          have hL5 := hL3.alloc (.cells #[] 54)
          refine hK.out _ _ hL5 (fun hHeld => ?_)
          clear hK K
          clear hHeld
          generalize w3.alloc (.cells #[] 54) = w5 at S6 R5 hL5 ⊢
          have hHeld := hL5
          refine wpAnyH_ready (rs := [4]) (by kernel_rfl) (by simp) ?_
          obtain ⟨v4, w6, run4, R6, hL6, hg6, _⟩ := R5.append hHeld FT.out (by simp <;> omega)
          rw [List.nil_append] at R6
          replace S6 := S6.grown hg6 (by simp [Value.ownBlock]; omega)
          refine held_append (i := 4) (d := some 37) rfl rfl rfl (.tmp 33) (.tmp 36) 24 24 rfl rfl _ _ _ _ (by simp [Act.eval]) (by simp [Act.eval]) run4 hL6 (fun hHeld => ?_) AllReadyH.nil
          simp only [Act.put, List.setIfInBounds_toArray, List.set_cons_zero, List.set_cons_succ]
          refine wpAnyH_ready (rs := [7]) (by kernel_rfl) (by simp) ?_
          obtain ⟨v7, w7, run7, R7, hL7, _⟩ := R6.appendSrc (cap := 1) hHeld S6 (by simp <;> omega)
          refine held_append (i := 7) (d := some 40) rfl rfl rfl (.tmp 37) (.tmp 39) 24 24 rfl rfl _ _ _ _ (by simp [Act.eval]) (by simp [Act.eval]) run7 hL7 (fun hHeld => ?_) AllReadyH.nil
          simp only [Act.put, List.setIfInBounds_toArray, List.set_cons_zero, List.set_cons_succ]
          refine wpAnyH_ready (rs := [11]) (by kernel_rfl) (by simp) ?_
          obtain ⟨v8, w8, run8, R8, hL8, _⟩ := R7.append hHeld FD.out (by simp <;> omega)
          refine held_append (i := 11) (d := some 44) rfl rfl rfl (.tmp 40) (.tmp 43) 24 24 rfl rfl _ _ _ _ (by simp [Act.eval]) (by simp [Act.eval]) run8 hL8 (fun hHeld => ?_) AllReadyH.nil
          simp only [Act.put, List.setIfInBounds_toArray, List.set_cons_zero, List.set_cons_succ]
          refine take_at (i := 12) (d := some 4) (v := ?_) rfl rfl (by kernel_rfl) (by kernel_rfl) (by kernel_rfl) (fun _ _ _ h => h) (Or.inl ⟨by rfl, ?_⟩) hHeld ?_
          rotate_left
          · intro w hSw; (try dsimp only at hSw);  go_simp; try with_reducible rfl
          simp only [Act.put, List.setIfInBounds_toArray, List.set_cons_zero, List.set_cons_succ]
          refine wpAnyH_done (by kernel_rfl) ?_ _
          go_wp2
          go_ret
          exact ⟨v8, _, rfl, R8.factsC (by simp <;> omega), HSET.out, ((Later.refl w).alloc _).trans hL8⟩
      · by_cases hck : cap = l.length
        · subst hck
          have FD : Hid (Facts (w.alloc (.cells #[.string f.1, .slice a2 f.2.length c2] 54)) (.slice (some ⟨b, off, none⟩) ([] : List FactD).length 0) []) := ⟨by simp, _, _, rfl, fun h => absurd rfl h⟩
          simp only [List.length_nil] at FD
          go_wp2
          refine wp_region_held_drew (S := fun w' => Later (w.alloc (.cells #[.string f.1, .slice a2 f.2.length c2] 54)) w') (by kernel_rfl) hLz.drew (fun hHeld => ?_)
          refine take_at (i := 1) (d := some 34) (v := ?_) rfl rfl (by kernel_rfl) (by kernel_rfl) (by kernel_rfl) (fun _ _ _ h => h) (Or.inl ⟨by rfl, ?_⟩) hHeld ?_
          rotate_left
          · intro w hSw; (try dsimp only at hSw);  go_simp; try with_reducible rfl
          simp only [Act.put, List.setIfInBounds_toArray, List.set_cons_zero, List.set_cons_succ]
          refine take_at (i := 2) (d := some 35) (v := ?_) rfl rfl (by kernel_rfl) (by kernel_rfl) (by kernel_rfl) (fun _ _ _ h => h) (Or.inl ⟨by rfl, ?_⟩) hHeld ?_
          rotate_left
          · intro w hSw; (try dsimp only at hSw);  go_simp; try with_reducible rfl
          simp only [Act.put, List.setIfInBounds_toArray, List.set_cons_zero, List.set_cons_succ]
          refine take_at (i := 3) (d := some 36) (v := ?_) rfl rfl (by kernel_rfl) (by kernel_rfl) (by kernel_rfl) (fun _ _ _ h => h) (Or.inl ⟨by rfl, ?_⟩) hHeld ?_
          rotate_left
          · intro w hSw; (try dsimp only at hSw);  go_simp; try with_reducible rfl
          simp only [Act.put, List.setIfInBounds_toArray, List.set_cons_zero, List.set_cons_succ]
          refine take_at (i := 5) (d := some 38) (v := ?_) rfl rfl (by kernel_rfl) (by kernel_rfl) (by kernel_rfl) (fun _ _ _ h => h) (Or.inl ⟨by rfl, ?_⟩) hHeld ?_
          rotate_left
          · intro w hSw; (try dsimp only at hSw); obtain ⟨q0, q1⟩ := hbox w hSw; go_simp; try with_reducible rfl
          simp only [Act.put, List.setIfInBounds_toArray, List.set_cons_zero, List.set_cons_succ]
          refine take_at (i := 8) (d := some 41) (v := ?_) rfl rfl (by kernel_rfl) (by kernel_rfl) (by kernel_rfl) (fun _ _ _ h => h) (Or.inl ⟨by rfl, ?_⟩) hHeld ?_
          rotate_left
          · intro w hSw; (try dsimp only at hSw);  go_simp; try with_reducible rfl
          simp only [Act.put, List.setIfInBounds_toArray, List.set_cons_zero, List.set_cons_succ]
          refine take_at (i := 9) (d := some 42) (v := ?_) rfl rfl (by kernel_rfl) (by kernel_rfl) (by kernel_rfl) (fun _ _ _ h => h) (Or.inl ⟨by rfl, ?_⟩) hHeld ?_
          rotate_left
          · intro w hSw; (try dsimp only at hSw);  go_simp; try with_reducible rfl
          simp only [Act.put, List.setIfInBounds_toArray, List.set_cons_zero, List.set_cons_succ]
          refine take_at (i := 10) (d := some 43) (v := ?_) rfl rfl (by kernel_rfl) (by kernel_rfl) (by kernel_rfl) (fun _ _ _ h => h) (Or.inl ⟨by rfl, ?_⟩) hHeld ?_
          rotate_left
          · intro w hSw; (try dsimp only at hSw);  go_simp; try with_reducible rfl
          simp only [Act.put, List.setIfInBounds_toArray, List.set_cons_zero, List.set_cons_succ]
          have hbz := hLz.size
          refine wpAnyH_ready (rs := [0, 6]) (by kernel_rfl) (by simp) ?_
          refine AllReadyH.cons rfl (fun K hK => ?_) (AllReadyH.cons rfl (fun K hK => ?_) AllReadyH.nil)
          · go_simp
            have R0 : RowF (wz.alloc (.cells #[] 54)).drew (w.alloc (.cells #[.string f.1, .slice a2 f.2.length c2] 54)).heap.size (.slice (some ⟨wz.heap.size, 0, none⟩) 0 0) [] := (RowF.empty hbz).later (Later.refl _).drew
            have hL1 : Later (w.alloc (.cells #[.string f.1, .slice a2 f.2.length c2] 54)) (wz.alloc (.cells #[] 54)).drew := (hLz.alloc _).drew
            have hgz : (wz.alloc (.cells #[] 54)).drew.heap.size = wz.heap.size + 1 := by simp
            refine hK.out _ _ hL1 (fun hHeld => ?_)
            clear hK K
            clear hHeld
            generalize (wz.alloc (.cells #[] 54)).drew = w1 at R0 hL1 hgz ⊢
            have hHeld := hL1
            refine wpAnyH_ready (rs := [4, 6]) (by kernel_rfl) (by simp) ?_
            obtain ⟨v4, w4, run4, R4, hL4, _⟩ := R0.append hHeld FT.out (by simp <;> omega)
            rw [List.nil_append] at R4
            refine held_append (i := 4) (d := some 37) rfl rfl rfl (.tmp 33) (.tmp 36) 24 24 rfl rfl _ _ _ _ (by simp [Act.eval]) (by simp [Act.eval]) run4 hL4 (fun hHeld => ?_) (AllReadyH.cons rfl (fun K hK => ?_) AllReadyH.nil)
            · simp only [Act.put, List.setIfInBounds_toArray, List.set_cons_zero, List.set_cons_succ]
              clear run4
              refine wpAnyH_ready (rs := [6]) (by kernel_rfl) (by simp) ?_
              refine AllReadyH.cons rfl (fun K hK => ?_) AllReadyH.nil
              go_simp
              have S6 := SrcF.one (w0 := (w.alloc (.cells #[.string f.1, .slice a2 f.2.length c2] 54))) (f := f) (s := .slice a2 f.2.length c2) (heap_alloc_new w4 (.cells #[.string f.1, .slice a2 f.2.length c2] 54)) (HS.out.later ((Later.refl w).alloc _))
              have R6 := R4.later ((Later.refl w4).alloc (.cells #[.string f.1, .slice a2 f.2.length c2] 54))
              have hL6 := hL4.alloc (.cells #[.string f.1, .slice a2 f.2.length c2] 54)
              refine hK.out _ _ hL6 (fun hHeld => ?_)
              clear hK K
              clear hHeld
              generalize w4.heap.size = g6 at S6 ⊢
              generalize w4.alloc (.cells #[.string f.1, .slice a2 f.2.length c2] 54) = w6 at S6 R6 hL6 ⊢
              have hHeld := hL6
              refine wpAnyH_ready (rs := [7]) (by kernel_rfl) (by simp) ?_
              obtain ⟨v7, w7, run7, R7, hL7, _⟩ := R6.appendSrc (cap := 1) hHeld S6 (by simp <;> omega)
              refine held_append (i := 7) (d := some 40) rfl rfl rfl (.tmp 37) (.tmp 39) 24 24 rfl rfl _ _ _ _ (by simp [Act.eval]) (by simp [Act.eval]) run7 hL7 (fun hHeld => ?_) AllReadyH.nil
              simp only [Act.put, List.setIfInBounds_toArray, List.set_cons_zero, List.set_cons_succ]
              refine wpAnyH_ready (rs := [11]) (by kernel_rfl) (by simp) ?_
              obtain ⟨v8, w8, run8, R8, hL8, _⟩ := R7.append hHeld FD.out (by simp <;> omega)
              refine held_append (i := 11) (d := some 44) rfl rfl rfl (.tmp 40) (.tmp 43) 24 24 rfl rfl _ _ _ _ (by simp [Act.eval]) (by simp [Act.eval]) run8 hL8 (fun hHeld => ?_) AllReadyH.nil
              simp only [Act.put, List.setIfInBounds_toArray, List.set_cons_zero, List.set_cons_succ]
              refine take_at (i := 12) (d := some 4) (v := ?_) rfl rfl (by kernel_rfl) (by kernel_rfl) (by kernel_rfl) (fun _ _ _ h => h) (Or.inl ⟨by rfl, ?_⟩) hHeld ?_
              rotate_left
              · intro w hSw; (try dsimp only at hSw);  go_simp; try with_reducible rfl
              simp only [Act.put, List.setIfInBounds_toArray, List.set_cons_zero, List.set_cons_succ]
              refine wpAnyH_done (by kernel_rfl) ?_ _
              go_wp2
              go_ret
              exact ⟨v8, _, rfl, R8.factsC (by simp <;> omega), HSET.out, ((Later.refl w).alloc _).trans hL8⟩
            · clear run4 R4 hL4
              go_simp
              have S6 := SrcF.one (w0 := (w.alloc (.cells #[.string f.1, .slice a2 f.2.length c2] 54))) (f := f) (s := .slice a2 f.2.length c2) (heap_alloc_new w1 (.cells #[.string f.1, .slice a2 f.2.length c2] 54)) (HS.out.later ((Later.refl w).alloc _))
              have R5 := R0.later ((Later.refl w1).alloc (.cells #[.string f.1, .slice a2 f.2.length c2] 54))
              have hL5 := hL1.alloc (.cells #[.string f.1, .slice a2 f.2.length c2] 54)
              refine hK.out _ _ hL5 (fun hHeld => ?_)
              clear hK K
              clear hHeld
              generalize w1.alloc (.cells #[.string f.1, .slice a2 f.2.length c2] 54) = w5 at S6 R5 hL5 ⊢
              have hHeld := hL5
              refine wpAnyH_ready (rs := [4]) (by kernel_rfl) (by simp) ?_
              obtain ⟨v4, w6, run4, R6, hL6, hg6, _⟩ := R5.append hHeld FT.out (by simp <;> omega)
              rw [List.nil_append] at R6
              replace S6 := S6.grown hg6 (by simp [Value.ownBlock]; omega)
              refine held_append (i := 4) (d := some 37) rfl rfl rfl (.tmp 33) (.tmp 36) 24 24 rfl rfl _ _ _ _ (by simp [Act.eval]) (by simp [Act.eval]) run4 hL6 (fun hHeld => ?_) AllReadyH.nil
              simp only [Act.put, List.setIfInBounds_toArray, List.set_cons_zero, List.set_cons_succ]
              refine wpAnyH_ready (rs := [7]) (by kernel_rfl) (by simp) ?_
              obtain ⟨v7, w7, run7, R7, hL7, _⟩ := R6.appendSrc (cap := 1) hHeld S6 (by simp <;> omega)
              refine held_append (i := 7) (d := some 40) rfl rfl rfl (.tmp 37) (.tmp 39) 24 24 rfl rfl _ _ _ _ (by simp [Act.eval]) (by simp [Act.eval]) run7 hL7 (fun hHeld => ?_) AllReadyH.nil
              simp only [Act.put, List.setIfInBounds_toArray, List.set_cons_zero, List.set_cons_succ]
              refine wpAnyH_ready (rs := [11]) (by kernel_rfl) (by simp) ?_
              obtain ⟨v8, w8, run8, R8, hL8, _⟩ := R7.append hHeld FD.out (by simp <;> omega)
              refine held_append (i := 11) (d := some 44) rfl rfl rfl (.tmp 40) (.tmp 43) 24 24 rfl rfl _ _ _ _ (by simp [Act.eval]) (by simp [Act.eval]) run8 hL8 (fun hHeld => ?_) AllReadyH.nil
              simp only [Act.put, List.setIfInBounds_toArray, List.set_cons_zero, List.set_cons_succ]
              refine take_at (i := 12) (d := some 4) (v := ?_) rfl rfl (by kernel_rfl) (by kernel_rfl) (by kernel_rfl) (fun _ _ _ h => h) (Or.inl ⟨by rfl, ?_⟩) hHeld ?_
              rotate_left
              · intro w hSw; (try dsimp only at hSw);  go_simp; try with_reducible rfl
              simp only [Act.put, List.setIfInBounds_toArray, List.set_cons_zero, List.set_cons_succ]
              refine wpAnyH_done (by kernel_rfl) ?_ _
              go_wp2
              go_ret
              exact ⟨v8, _, rfl, R8.factsC (by simp <;> omega), HSET.out, ((Later.refl w).alloc _).trans hL8⟩
          · go_simp
            have S6 : SrcF (w.alloc (.cells #[.string f.1, .slice a2 f.2.length c2] 54)) (wz.alloc (.cells #[.string f.1, .slice a2 f.2.length c2] 54)).drew ⟨wz.heap.size, 0, none⟩ [f] := SrcF.one (w0 := (w.alloc (.cells #[.string f.1, .slice a2 f.2.length c2] 54))) (f := f) (s := .slice a2 f.2.length c2) (heap_alloc_new wz (.cells #[.string f.1, .slice a2 f.2.length c2] 54)) (HS.out.later ((Later.refl w).alloc _))
            have hL3 : Later (w.alloc (.cells #[.string f.1, .slice a2 f.2.length c2] 54)) (wz.alloc (.cells #[.string f.1, .slice a2 f.2.length c2] 54)).drew := (hLz.alloc (.cells #[.string f.1, .slice a2 f.2.length c2] 54)).drew
            have hgz : (wz.alloc (.cells #[.string f.1, .slice a2 f.2.length c2] 54)).drew.heap.size = wz.heap.size + 1 := by simp
            refine hK.out _ _ hL3 (fun hHeld => ?_)
            clear hK K
            clear hHeld
            generalize (wz.alloc (.cells #[.string f.1, .slice a2 f.2.length c2] 54)).drew = w3 at S6 hL3 hgz ⊢
            have hHeld := hL3
            refine wpAnyH_ready (rs := [0]) (by kernel_rfl) (by simp) ?_
            refine AllReadyH.cons rfl (fun K hK => ?_) AllReadyH.nil
            go_simp
            have R5 := RowF.empty (w := w3) (base := (w.alloc (.cells #[.string f.1, .slice a2 f.2.length c2] 54)).heap.size) hL3.size
            replace S6 := S6.later ((Later.refl w3).alloc (.cells #[] 54))
            have hL5 := hL3.alloc (.cells #[] 54)
            refine hK.out _ _ hL5 (fun hHeld => ?_)
            clear hK K
            clear hHeld
            generalize w3.alloc (.cells #[] 54) = w5 at S6 R5 hL5 ⊢
            have hHeld := hL5
            refine wpAnyH_ready (rs := [4]) (by kernel_rfl) (by simp) ?_
            obtain ⟨v4, w6, run4, R6, hL6, hg6, _⟩ := R5.append hHeld FT.out (by simp <;> omega)
            rw [List.nil_append] at R6
            replace S6 := S6.grown hg6 (by simp [Value.ownBlock]; omega)
            refine held_append (i := 4) (d := some 37) rfl rfl rfl (.tmp 33) (.tmp 36) 24 24 rfl rfl _ _ _ _ (by simp [Act.eval]) (by simp [Act.eval]) run4 hL6 (fun hHeld => ?_) AllReadyH.nil
            simp only [Act.put, List.setIfInBounds_toArray, List.set_cons_zero, List.set_cons_succ]
            refine wpAnyH_ready (rs := [7]) (by kernel_rfl) (by simp) ?_
            obtain ⟨v7, w7, run7, R7, hL7, _⟩ := R6.appendSrc (cap := 1) hHeld S6 (by simp <;> omega)
            refine held_append (i := 7) (d := some 40) rfl rfl rfl (.tmp 37) (.tmp 39) 24 24 rfl rfl _ _ _ _ (by simp [Act.eval]) (by simp [Act.eval]) run7 hL7 (fun hHeld => ?_) AllReadyH.nil
            simp only [Act.put, List.setIfInBounds_toArray, List.set_cons_zero, List.set_cons_succ]
            refine wpAnyH_ready (rs := [11]) (by kernel_rfl) (by simp) ?_
            obtain ⟨v8, w8, run8, R8, hL8, _⟩ := R7.append hHeld FD.out (by simp <;> omega)
            refine held_append (i := 11) (d := some 44) rfl rfl rfl (.tmp 40) (.tmp 43) 24 24 rfl rfl _ _ _ _ (by simp [Act.eval]) (by simp [Act.eval]) run8 hL8 (fun hHeld => ?_) AllReadyH.nil
            simp only [Act.put, List.setIfInBounds_toArray, List.set_cons_zero, List.set_cons_succ]
            refine take_at (i := 12) (d := some 4) (v := ?_) rfl rfl (by kernel_rfl) (by kernel_rfl) (by kernel_rfl) (fun _ _ _ h => h) (Or.inl ⟨by rfl, ?_⟩) hHeld ?_
            rotate_left
            · intro w hSw; (try dsimp only at hSw);  go_simp; try with_reducible rfl
            simp only [Act.put, List.setIfInBounds_toArray, List.set_cons_zero, List.set_cons_succ]
            refine wpAnyH_done (by kernel_rfl) ?_ _
            go_wp2
            go_ret
            exact ⟨v8, _, rfl, R8.factsC (by simp <;> omega), HSET.out, ((Later.refl w).alloc _).trans hL8⟩
        · have FD : Hid (Facts (w.alloc (.cells #[.string f.1, .slice a2 f.2.length c2] 54)) (.slice (some ⟨b, off + l.length * 2, none⟩) ([] : List FactD).length (cap - l.length)) []) := ⟨by simp, _, _, rfl, fun h => absurd rfl h⟩
          simp only [List.length_nil] at FD
          go_wp2
          refine wp_region_held_drew (S := fun w' => Later (w.alloc (.cells #[.string f.1, .slice a2 f.2.length c2] 54)) w') (by kernel_rfl) hLz.drew (fun hHeld => ?_)
          refine take_at (i := 1) (d := some 34) (v := ?_) rfl rfl (by kernel_rfl) (by kernel_rfl) (by kernel_rfl) (fun _ _ _ h => h) (Or.inl ⟨by rfl, ?_⟩) hHeld ?_
          rotate_left
          · intro w hSw; (try dsimp only at hSw);  go_simp; try with_reducible rfl
          simp only [Act.put, List.setIfInBounds_toArray, List.set_cons_zero, List.set_cons_succ]
          refine take_at (i := 2) (d := some 35) (v := ?_) rfl rfl (by kernel_rfl) (by kernel_rfl) (by kernel_rfl) (fun _ _ _ h => h) (Or.inl ⟨by rfl, ?_⟩) hHeld ?_
          rotate_left
          · intro w hSw; (try dsimp only at hSw);  go_simp; try with_reducible rfl
          simp only [Act.put, List.setIfInBounds_toArray, List.set_cons_zero, List.set_cons_succ]
          refine take_at (i := 3) (d := some 36) (v := ?_) rfl rfl (by kernel_rfl) (by kernel_rfl) (by kernel_rfl) (fun _ _ _ h => h) (Or.inl ⟨by rfl, ?_⟩) hHeld ?_
          rotate_left
          · intro w hSw; (try dsimp only at hSw);  go_simp; try with_reducible rfl
          simp only [Act.put, List.setIfInBounds_toArray, List.set_cons_zero, List.set_cons_succ]
          refine take_at (i := 5) (d := some 38) (v := ?_) rfl rfl (by kernel_rfl) (by kernel_rfl) (by kernel_rfl) (fun _ _ _ h => h) (Or.inl ⟨by rfl, ?_⟩) hHeld ?_
          rotate_left
          · intro w hSw; (try dsimp only at hSw); obtain ⟨q0, q1⟩ := hbox w hSw; go_simp; try with_reducible rfl
          simp only [Act.put, List.setIfInBounds_toArray, List.set_cons_zero, List.set_cons_succ]
          refine take_at (i := 8) (d := some 41) (v := ?_) rfl rfl (by kernel_rfl) (by kernel_rfl) (by kernel_rfl) (fun _ _ _ h => h) (Or.inl ⟨by rfl, ?_⟩) hHeld ?_
          rotate_left
          · intro w hSw; (try dsimp only at hSw);  go_simp; try with_reducible rfl
          simp only [Act.put, List.setIfInBounds_toArray, List.set_cons_zero, List.set_cons_succ]
          refine take_at (i := 9) (d := some 42) (v := ?_) rfl rfl (by kernel_rfl) (by kernel_rfl) (by kernel_rfl) (fun _ _ _ h => h) (Or.inl ⟨by rfl, ?_⟩) hHeld ?_
          rotate_left
          · intro w hSw; (try dsimp only at hSw);  go_simp; try with_reducible rfl
          simp only [Act.put, List.setIfInBounds_toArray, List.set_cons_zero, List.set_cons_succ]
          refine take_at (i := 10) (d := some 43) (v := ?_) rfl rfl (by kernel_rfl) (by kernel_rfl) (by kernel_rfl) (fun _ _ _ h => h) (Or.inl ⟨by rfl, ?_⟩) hHeld ?_
          rotate_left
          · intro w hSw; (try dsimp only at hSw);  go_simp; try with_reducible rfl
          simp only [Act.put, List.setIfInBounds_toArray, List.set_cons_zero, List.set_cons_succ]
          have hbz := hLz.size
          refine wpAnyH_ready (rs := [0, 6]) (by kernel_rfl) (by simp) ?_
          refine AllReadyH.cons rfl (fun K hK => ?_) (AllReadyH.cons rfl (fun K hK => ?_) AllReadyH.nil)
          · go_simp
            have R0 : RowF (wz.alloc (.cells #[] 54)).drew (w.alloc (.cells #[.string f.1, .slice a2 f.2.length c2] 54)).heap.size (.slice (some ⟨wz.heap.size, 0, none⟩) 0 0) [] := (RowF.empty hbz).later (Later.refl _).drew
            have hL1 : Later (w.alloc (.cells #[.string f.1, .slice a2 f.2.length c2] 54)) (wz.alloc (.cells #[] 54)).drew := (hLz.alloc _).drew
            have hgz : (wz.alloc (.cells #[] 54)).drew.heap.size = wz.heap.size + 1 := by simp
            refine hK.out _ _ hL1 (fun hHeld => ?_)
            clear hK K
            clear hHeld
            generalize (wz.alloc (.cells #[] 54)).drew = w1 at R0 hL1 hgz ⊢
            have hHeld := hL1
            refine wpAnyH_ready (rs := [4, 6]) (by kernel_rfl) (by simp) ?_
            obtain ⟨v4, w4, run4, R4, hL4, _⟩ := R0.append hHeld FT.out (by simp <;> omega)
            rw [List.nil_append] at R4
            refine held_append (i := 4) (d := some 37) rfl rfl rfl (.tmp 33) (.tmp 36) 24 24 rfl rfl _ _ _ _ (by simp [Act.eval]) (by simp [Act.eval]) run4 hL4 (fun hHeld => ?_) (AllReadyH.cons rfl (fun K hK => ?_) AllReadyH.nil)
            · simp only [Act.put, List.setIfInBounds_toArray, List.set_cons_zero, List.set_cons_succ]
              clear run4
              refine wpAnyH_ready (rs := [6]) (by kernel_rfl) (by simp) ?_
              refine AllReadyH.cons rfl (fun K hK => ?_) AllReadyH.nil
              go_simp
              have S6 := SrcF.one (w0 := (w.alloc (.cells #[.string f.1, .slice a2 f.2.length c2] 54))) (f := f) (s := .slice a2 f.2.length c2) (heap_alloc_new w4 (.cells #[.string f.1, .slice a2 f.2.length c2] 54)) (HS.out.later ((Later.refl w).alloc _))
              have R6 := R4.later ((Later.refl w4).alloc (.cells #[.string f.1, .slice a2 f.2.length c2] 54))
              have hL6 := hL4.alloc (.cells #[.string f.1, .slice a2 f.2.length c2] 54)
              refine hK.out _ _ hL6 (fun hHeld => ?_)
              clear hK K
              clear hHeld
              generalize w4.heap.size = g6 at S6 ⊢
              generalize w4.alloc (.cells #[.string f.1, .slice a2 f.2.length c2] 54) = w6 at S6 R6 hL6 ⊢
              have hHeld := hL6
              refine wpAnyH_ready (rs := [7]) (by kernel_rfl) (by simp) ?_
              obtain ⟨v7, w7, run7, R7, hL7, _⟩ := R6.appendSrc (cap := 1) hHeld S6 (by simp <;> omega)
              refine held_append (i := 7) (d := some 40) rfl rfl rfl (.tmp 37) (.tmp 39) 24 24 rfl rfl _ _ _ _ (by simp [Act.eval]) (by simp [Act.eval]) run7 hL7 (fun hHeld => ?_) AllReadyH.nil
              simp only [Act.put, List.setIfInBounds_toArray, List.set_cons_zero, List.set_cons_succ]
              refine wpAnyH_ready (rs := [11]) (by kernel_rfl) (by simp) ?_
              obtain ⟨v8, w8, run8, R8, hL8, _⟩ := R7.append hHeld FD.out (by simp <;> omega)
              refine held_append (i := 11) (d := some 44) rfl rfl rfl (.tmp 40) (.tmp 43) 24 24 rfl rfl _ _ _ _ (by simp [Act.eval]) (by simp [Act.eval]) run8 hL8 (fun hHeld => ?_) AllReadyH.nil
              simp only [Act.put, List.setIfInBounds_toArray, List.set_cons_zero, List.set_cons_succ]
              refine take_at (i := 12) (d := some 4) (v := ?_) rfl rfl (by kernel_rfl) (by kernel_rfl) (by kernel_rfl) (fun _ _ _ h => h) (Or.inl ⟨by rfl, ?_⟩) hHeld ?_
              rotate_left
              · intro w hSw; (try dsimp only at hSw);  go_simp; try with_reducible rfl
              simp only [Act.put, List.setIfInBounds_toArray, List.set_cons_zero, List.set_cons_succ]
              refine wpAnyH_done (by kernel_rfl) ?_ _
              go_wp2
              go_ret
              exact ⟨v8, _, rfl, R8.factsC (by simp <;> omega), HSET.out, ((Later.refl w).alloc _).trans hL8⟩
            · clear run4 R4 hL4
              go_simp
              have S6 := SrcF.one (w0 := (w.alloc (.cells #[.string f.1, .slice a2 f.2.length c2] 54))) (f := f) (s := .slice a2 f.2.length c2) (heap_alloc_new w1 (.cells #[.string f.1, .slice a2 f.2.length c2] 54)) (HS.out.later ((Later.refl w).alloc _))
              have R5 := R0.later ((Later.refl w1).alloc (.cells #[.string f.1, .slice a2 f.2.length c2] 54))
              have hL5 := hL1.alloc (.cells #[.string f.1, .slice a2 f.2.length c2] 54)
              refine hK.out _ _ hL5 (fun hHeld => ?_)
              clear hK K
              clear hHeld
              generalize w1.alloc (.cells #[.string f.1, .slice a2 f.2.length c2] 54) = w5 at S6 R5 hL5 ⊢
              have hHeld := hL5
              refine wpAnyH_ready (rs := [4]) (by kernel_rfl) (by simp) ?_
              obtain ⟨v4, w6, run4, R6, hL6, hg6, _⟩ := R5.append hHeld FT.out (by simp <;> omega)
              rw [List.nil_append] at R6
              replace S6 := S6.grown hg6 (by simp [Value.ownBlock]; omega)
              refine held_append (i := 4) (d := some 37) rfl rfl rfl (.tmp 33) (.tmp 36) 24 24 rfl rfl _ _ _ _ (by simp [Act.eval]) (by simp [Act.eval]) run4 hL6 (fun hHeld => ?_) AllReadyH.nil
              simp only [Act.put, List.setIfInBounds_toArray, List.set_cons_zero, List.set_cons_succ]
              refine wpAnyH_ready (rs := [7]) (by kernel_rfl) (by simp) ?_
              obtain ⟨v7, w7, run7, R7, hL7, _⟩ := R6.appendSrc (cap := 1) hHeld S6 (by simp <;> omega)
              refine held_append (i := 7) (d := some 40) rfl rfl rfl (.tmp 37) (.tmp 39) 24 24 rfl rfl _ _ _ _ (by simp [Act.eval]) (by simp [Act.eval]) run7 hL7 (fun hHeld => ?_) AllReadyH.nil
              simp only [Act.put, List.setIfInBounds_toArray, List.set_cons_zero, List.set_cons_succ]
              refine wpAnyH_ready (rs := [11]) (by kernel_rfl) (by simp) ?_
              obtain ⟨v8, w8, run8, R8, hL8, _⟩ := R7.append hHeld FD.out (by simp <;> omega)
              refine held_append (i := 11) (d := some 44) rfl rfl rfl (.tmp 40) (.tmp 43) 24 24 rfl rfl _ _ _ _ (by simp [Act.eval]) (by simp [Act.eval]) run8 hL8 (fun hHeld => ?_) AllReadyH.nil
              simp only [Act.put, List.setIfInBounds_toArray, List.set_cons_zero, List.set_cons_succ]
              refine take_at (i := 12) (d := some 4) (v := ?_) rfl rfl (by kernel_rfl) (by kernel_rfl) (by kernel_rfl) (fun _ _ _ h => h) (Or.inl ⟨by rfl, ?_⟩) hHeld ?_
              rotate_left
              · intro w hSw; (try dsimp only at hSw);  go_simp; try with_reducible rfl
              simp only [Act.put, List.setIfInBounds_toArray, List.set_cons_zero, List.set_cons_succ]
              refine wpAnyH_done (by kernel_rfl) ?_ _
              go_wp2
              go_ret
              exact ⟨v8, _, rfl, R8.factsC (by simp <;> omega), HSET.out, ((Later.refl w).alloc _).trans hL8⟩
          · go_simp
            have S6 : SrcF (w.alloc (.cells #[.string f.1, .slice a2 f.2.length c2] 54)) (wz.alloc (.cells #[.string f.1, .slice a2 f.2.length c2] 54)).drew ⟨wz.heap.size, 0, none⟩ [f] := SrcF.one (w0 := (w.alloc (.cells #[.string f.1, .slice a2 f.2.length c2] 54))) (f := f) (s := .slice a2 f.2.length c2) (heap_alloc_new wz (.cells #[.string f.1, .slice a2 f.2.length c2] 54)) (HS.out.later ((Later.refl w).alloc _))
            have hL3 : Later (w.alloc (.cells #[.string f.1, .slice a2 f.2.length c2] 54)) (wz.alloc (.cells #[.string f.1, .slice a2 f.2.length c2] 54)).drew := (hLz.alloc (.cells #[.string f.1, .slice a2 f.2.length c2] 54)).drew
            have hgz : (wz.alloc (.cells #[.string f.1, .slice a2 f.2.length c2] 54)).drew.heap.size = wz.heap.size + 1 := by simp
            refine hK.out _ _ hL3 (fun hHeld => ?_)
            clear hK K
            clear hHeld
            generalize (wz.alloc (.cells #[.string f.1, .slice a2 f.2.length c2] 54)).drew = w3 at S6 hL3 hgz ⊢
            have hHeld := hL3
            refine wpAnyH_ready (rs := [0]) (by kernel_rfl) (by simp) ?_
            refine AllReadyH.cons rfl (fun K hK => ?_) AllReadyH.nil
            go_simp
            have R5 := RowF.empty (w := w3) (base := (w.alloc (.cells #[.string f.1, .slice a2 f.2.length c2] 54)).heap.size) hL3.size
            replace S6 := S6.later ((Later.refl w3).alloc (.cells #[] 54))
            have hL5 := hL3.alloc (.cells #[] 54)
            refine hK.out _ _ hL5 (fun hHeld => ?_)
            clear hK K
            clear hHeld
            generalize w3.alloc (.cells #[] 54) = w5 at S6 R5 hL5 ⊢
            have hHeld := hL5
            refine wpAnyH_ready (rs := [4]) (by kernel_rfl) (by simp) ?_
            obtain ⟨v4, w6, run4, R6, hL6, hg6, _⟩ := R5.append hHeld FT.out (by simp <;> omega)
            rw [List.nil_append] at R6
            replace S6 := S6.grown hg6 (by simp [Value.ownBlock]; omega)
            refine held_append (i := 4) (d := some 37) rfl rfl rfl (.tmp 33) (.tmp 36) 24 24 rfl rfl _ _ _ _ (by simp [Act.eval]) (by simp [Act.eval]) run4 hL6 (fun hHeld => ?_) AllReadyH.nil
            simp only [Act.put, List.setIfInBounds_toArray, List.set_cons_zero, List.set_cons_succ]
            refine wpAnyH_ready (rs := [7]) (by kernel_rfl) (by simp) ?_
            obtain ⟨v7, w7, run7, R7, hL7, _⟩ := R6.appendSrc (cap := 1) hHeld S6 (by simp <;> omega)
            refine held_append (i := 7) (d := some 40) rfl rfl rfl (.tmp 37) (.tmp 39) 24 24 rfl rfl _ _ _ _ (by simp [Act.eval]) (by simp [Act.eval]) run7 hL7 (fun hHeld => ?_) AllReadyH.nil
            simp only [Act.put, List.setIfInBounds_toArray, List.set_cons_zero, List.set_cons_succ]
            refine wpAnyH_ready (rs := [11]) (by kernel_rfl) (by simp) ?_
            obtain ⟨v8, w8, run8, R8, hL8, _⟩ := R7.append hHeld FD.out (by simp <;> omega)
            refine held_append (i := 11) (d := some 44) rfl rfl rfl (.tmp 40) (.tmp 43) 24 24 rfl rfl _ _ _ _ (by simp [Act.eval]) (by simp [Act.eval]) run8 hL8 (fun hHeld => ?_) AllReadyH.nil
            simp only [Act.put, List.setIfInBounds_toArray, List.set_cons_zero, List.set_cons_succ]
            refine take_at (i := 12) (d := some 4) (v := ?_) rfl rfl (by kernel_rfl) (by kernel_rfl) (by kernel_rfl) (fun _ _ _ h => h) (Or.inl ⟨by rfl, ?_⟩) hHeld ?_
            rotate_left
            · intro w hSw; (try dsimp only at hSw);  go_simp; try with_reducible rfl
            simp only [Act.put, List.setIfInBounds_toArray, List.set_cons_zero, List.set_cons_succ]
            refine wpAnyH_done (by kernel_rfl) ?_ _
            go_wp2
            go_ret
            exact ⟨v8, _, rfl, R8.factsC (by simp <;> omega), HSET.out, ((Later.refl w).alloc _).trans hL8⟩

end Go.Proofs.YtbohggoeebhdmaaGreatDoor

/- The document's answer: the walks of ref.Of, Both, Minus. -/
namespace Go.Proofs.YtbohggoeebhdmaaGreatDoor
open Go.RowKit Go.Sort

theorem SetOf.snoc {r r' m : List FactD} {f : FactD} (h : SetOf r m) (k : SetOf r' (r ++ [f])) : SetOf r' (m ++ [f]) :=
  ⟨k.1, fun g => by rw [k.2.1 g, List.mem_append, List.mem_append, h.2.1 g], by have := k.2.2; have := h.2.2; simp at *; omega⟩

theorem setOf_nil : SetOf [] [] := ⟨List.Pairwise.nil, fun _ => Iff.rfl, Nat.le_refl _⟩
theorem factsC_nil (w : World) : FactsC w (.slice none 0 0) [] := ⟨⟨by simp, none, 0, rfl, fun h => absurd rfl h⟩, Or.inl ⟨rfl, rfl⟩⟩

set_option maxHeartbeats 1000000 in
theorem rOf (v : Value) (l : List FactD) (w : World) (h : Facts w v l) (hn : l.length ≤ 1048576) :
    Calls Tryz.prog 79 #[v] w fun e w' => ∃ v' r, e = .returned v' ∧ FactsC w' v' r ∧ SetOf r l ∧ Later w w' := by
  have HF := hide h
  obtain ⟨a, cap, rfl, _, hz⟩ := h.addr
  clear h
  go_enter Tryz.func79, Tryz.ntmps79
  go_wp2
  go_loopw [3, 8] (fun o i wr => ∃ k : Nat, ∃ r, k ≤ l.length ∧ i = .int .i64 k ∧ Hid (FactsC wr o r) ∧ Hid (SetOf r (l.take k)) ∧ Later w wr) (fun _ i _ => l.length - (intOf i).toNat)
  case atStart => exact ⟨0, [], by omega, rfl, factsC_nil _, (by rw [List.take_zero]; exact setOf_nil : SetOf _ _), Later.refl _⟩
  case round =>
    obtain ⟨k, r, hk, rfl, HO, HS, hL⟩ := hrel
    by_cases hlt : k < l.length
    · rcases hz with rfl | ⟨b, off, rfl⟩
      · simp at hlt
      have hltz : (k : Int) < (l.length : Int) := by omega
      obtain ⟨hb, ax, lx, cx, g1, g2, fx⟩ := (HF.out.later hL).at hlt
      have hrl : r.length ≤ 1048576 := by have := HS.out.2.2; rw [List.length_take] at this; omega
      have HC := hide fun w' (hw : Later wr w') => rAdd u3 _ r (l.getD k noFact) w' (HO.out.later hw) (fx.later hw) HS.out.1 (by omega)
      have HT := hide (take_succ hlt)
      generalize l.getD k noFact = f at *
      obtain ⟨nk, lk⟩ := f
      clear fx
      dsimp only at *
      go_wp2_with fail
      refine (HC.out _ ((Later.refl _).alloc _)).mono ?_
      rintro e w1 ⟨v1, r1, rfl, hF1, hS1, hL1⟩
      have HF1 := hide hF1
      have HS1 := hide hS1
      clear hF1 hS1
      go_wp2
      go_roundw
      case rel => exact ⟨k + 1, r1, by omega, by go_num, HF1, (by rw [HT.out]; exact HS.out.snoc HS1.out : SetOf _ _), hL.trans (((Later.refl _).alloc _).trans hL1)⟩
      case measure => simp [intOf]; omega
    · go_wp2
      go_ret
      obtain rfl : k = l.length := by omega
      exact ⟨_, r, rfl, HO.out, by have := HS.out; rwa [List.take_length] at this, hL⟩

set_option maxHeartbeats 1000000 in
theorem rBoth (va vb : Value) (la lb : List FactD) (w : World) (ha : Facts w va la) (h : Facts w vb lb) (hna : la.length ≤ 1048576) (hnb : lb.length ≤ 1048576) :
    Calls Tryz.prog 48 #[va, vb] w fun e w' => ∃ v' r, e = .returned v' ∧ FactsC w' v' r ∧ SetOf r (la ++ lb) ∧ Later w w' := by
  have HF := hide h
  have hO := hide (rOf va la w ha hna)
  obtain ⟨a, cap, rfl, _, hz⟩ := h.addr
  obtain ⟨a0, cap0, rfl⟩ := sliceFacts ha
  clear h ha
  go_enter Tryz.func48, Tryz.ntmps48
  go_wp2_with fail
  refine hO.out.mono ?_
  rintro e w0 ⟨v0, r0, rfl, hF0, hS0, hL0⟩
  have HF0 := hide hF0
  have HS0 := hide hS0
  clear hF0 hS0
  go_wp2
  go_loopw [5, 12] (fun o i wr => ∃ k : Nat, ∃ r, k ≤ lb.length ∧ i = .int .i64 k ∧ Hid (FactsC wr o r) ∧ Hid (SetOf r (la ++ lb.take k)) ∧ Later w wr) (fun _ i _ => lb.length - (intOf i).toNat)
  case atStart => exact ⟨0, r0, by omega, rfl, HF0, (by rw [List.take_zero, List.append_nil]; exact HS0.out : SetOf _ _), hL0⟩
  case round =>
    obtain ⟨k, r, hk, rfl, HO, HS, hL⟩ := hrel
    by_cases hlt : k < lb.length
    · rcases hz with rfl | ⟨b, off, rfl⟩
      · simp at hlt
      have hltz : (k : Int) < (lb.length : Int) := by omega
      obtain ⟨hb, ax, lx, cx, g1, g2, fx⟩ := (HF.out.later hL).at hlt
      have hrl : r.length ≤ 2097152 := by have := HS.out.2.2; rw [List.length_append, List.length_take] at this; omega
      have HC := hide fun w' (hw : Later wr w') => rAdd u5 _ r (lb.getD k noFact) w' (HO.out.later hw) (fx.later hw) HS.out.1 (by omega)
      have HT := hide (take_succ hlt)
      generalize lb.getD k noFact = f at *
      obtain ⟨nk, lk⟩ := f
      clear fx
      dsimp only at *
      go_wp2_with fail
      refine (HC.out _ ((Later.refl _).alloc _)).mono ?_
      rintro e w1 ⟨v1, r1, rfl, hF1, hS1, hL1⟩
      have HF1 := hide hF1
      have HS1 := hide hS1
      clear hF1 hS1
      go_wp2
      go_roundw
      case rel => exact ⟨k + 1, r1, by omega, by go_num, HF1, (by rw [HT.out, ← List.append_assoc]; exact HS.out.snoc HS1.out : SetOf _ _), hL.trans (((Later.refl _).alloc _).trans hL1)⟩
      case measure => simp [intOf]; omega
    · go_wp2
      go_ret
      obtain rfl : k = lb.length := by omega
      exact ⟨_, r, rfl, HO.out, by have := HS.out; rwa [List.take_length] at this, hL⟩

end Go.Proofs.YtbohggoeebhdmaaGreatDoor

/- The reference's Made and Heads. -/
namespace Go.Proofs.YtbohggoeebhdmaaGreatDoor
open Go.RowKit Go.Sort Go.Maps

theorem setF_snoc {L : List FactB} {r : List FactB} {f : FactB} (h : SetOf r (setF L ++ [f])) : r = setF (L ++ [f]) :=
  setF_of h.1 fun g => by rw [h.2.1, List.mem_append, List.mem_append, mem_setF]

set_option maxRecDepth 100000 in
set_option maxHeartbeats 1000000 in
theorem rMade (r : RuleD) (tv bv ev : Value) (L : List (List BindD)) (n : Nat) (w : World) (ht : termK.sl Anyw w tv r.head.terms) (hb : ∃ a n c, bv = .slice a n c) (hE : (envK n).sl Anyw w ev L) (hts : ∀ t ∈ r.head.terms, t.2.length ≤ maxLen) (hL : L.length ≤ 20000) :
    Calls Tryz.prog 50 #[.agg #[.bool r.head.no, .string (bs r.head.name), tv, bv], ev] w fun e w' => ∃ v', e = .returned v' ∧ FactsC w' v' (setF (L.filterMap fun l => fillB r.head l)) ∧ Later w w' := by
  obtain ⟨ta, tc, rfl⟩ := Kind.slice ht
  obtain ⟨ba, bn, bc, rfl⟩ := hb
  obtain ⟨ea, ec, rfl⟩ := Kind.slice hE
  obtain ⟨wb, hwb⟩ : ∃ wb, wb = w.alloc (.cells #[.bool r.head.no, .string (bs r.head.name), .slice ta r.head.terms.length tc, .slice ba bn bc] 43) := ⟨_, rfl⟩
  have hLb : Later w wb := by rw [hwb]; exact (Later.refl w).alloc _
  have hrb : wb.heap[w.heap.size]? = some (.cells #[.bool r.head.no, .string (bs r.head.name), .slice ta r.head.terms.length tc, .slice ba bn bc] 43 (0, 0)) := by rw [hwb]; exact heap_alloc_new w _
  have hltb : w.heap.size < wb.heap.size := (Array.getElem?_eq_some_iff.1 hrb).1
  have HT := hide (Kind.sl_later ht hLb)
  have HE := hide (Kind.sl_later hE hLb)
  have HTS := hide hts
  have HLb := hide hLb
  have HRb := hide hrb
  have HWb := hide hwb
  clear ht hE hts hLb hrb hwb
  have hex : ∃ nm no, nm = bs r.head.name ∧ no = r.head.no := ⟨_, _, rfl, rfl⟩
  obtain ⟨nm, no, hnm, hno⟩ := hex
  have HNM := hide hnm
  have HNO := hide hno
  rw [← hnm] at HRb HWb ⊢
  rw [← hno] at HRb HWb ⊢
  clear hnm hno
  go_enter Tryz.func50, Tryz.ntmps50
  go_wp2
  rw [← HWb.out]
  go_loopg [5, 12] L.length (fun g o i wr => ∃ j : Nat, j + g = L.length ∧ i = .int .i64 j ∧ Hid (FactsC wr o (setF ((L.take j).filterMap fun l => fillB r.head l))) ∧ Hid (Later wb wr))
  case atStart => exact ⟨0, by omega, rfl, (by show FactsC _ _ _; rw [List.take_zero, List.filterMap_nil, show setF [] = [] from (setF_of (s := []) List.Pairwise.nil fun f => Iff.rfl).symm]; exact factsC_nil _), Later.refl _⟩
  case round =>
    obtain ⟨j, hj, rfl, HO, HL⟩ := hrel
    obtain ⟨oa, oc, hov⟩ := sliceFacts HO.out.1
    obtain ⟨on, hon⟩ : ∃ n, n = (setF ((L.take j).filterMap fun l => fillB r.head l)).length := ⟨_, rfl⟩
    rw [← hon] at hov
    clear hon
    subst hov
    by_cases hlt : j < L.length
    · obtain ⟨l, hl⟩ : ∃ x, L[j]? = some x := ⟨_, List.getElem?_eq_getElem hlt⟩
      obtain ⟨b1, o1, _, e1, hb1, ⟨bl, rfl, _, hel⟩, hc⟩ := Kind.sl_at HE.out hl
      subst e1
      have d0 : wr.cell? ⟨b1, o1 + j, none⟩ = some (.map (some bl)) := by rw [HL.out.cell (p := ⟨b1, o1 + j, none⟩) hb1]; simpa [envK] using hc 0 _ rfl
      have hrr := (HL.out.block hltb).trans HRb.out
      have r0 : wr.cell? ⟨w.heap.size, 0, none⟩ = some (.bool no) := by rw [cell_of_row _ _ _ _ _ _ hrr]; rfl
      have r1 : wr.cell? ⟨w.heap.size, 0 + 1, none⟩ = some (.string nm) := by rw [cell_of_row _ _ _ _ _ _ hrr]; rfl
      have r2 : wr.cell? ⟨w.heap.size, 0 + 2, none⟩ = some (.slice ta r.head.terms.length tc) := by rw [cell_of_row _ _ _ _ _ _ hrr]; rfl
      have hRF := rFill4 r.head (.slice ta r.head.terms.length tc) l bl n wr (Kind.sl_later HT.out HL.out) (hel.later HL.out) HTS.out
      unfold filled at hRF
      rw [← HNM.out, ← HNO.out] at hRF
      have HRF := hide hRF
      have HTk := hide (filterMap_take (g := fun l => fillB r.head l) hl)
      have hlen : (setF ((L.take j).filterMap fun l => fillB r.head l)).length ≤ 20000 := by
        have h1 := setF_len ((L.take j).filterMap fun l => fillB r.head l)
        have h2 := List.length_filterMap_le (fun l => fillB r.head l) (L.take j)
        rw [List.length_take] at h2
        omega
      clear hc hl hel hrr hRF
      cases hfl : fillB r.head l with
      | none =>
        rw [hfl] at HRF
        have HO' : Hid (FactsC wr (.slice oa on oc) (setF ((L.take (j + 1)).filterMap fun l => fillB r.head l))) := by show FactsC _ _ _; rw [HTk.out, hfl]; simpa using HO.out
        clear hfl HTk HO
        go_wp2_with fail
        refine HRF.out.mono ?_
        rintro e w3 ⟨f3, rfl, hfv, hL3⟩
        obtain ⟨s, rfl, hs⟩ := hfv
        obtain ⟨sA', sC', rfl⟩ := sliceStr hs
        simp only [Option.isSome_none]
        have HL3 : Hid (Later wr w3) := hL3
        clear hs hL3 HRF d0 r0 r1 r2
        go_wp2
        go_roundg (L.length - (j + 1))
        case measure => omega
        case rel => exact ⟨j + 1, by omega, by go_num, HO'.out.later (HL3.out.alloc _), HL.out.trans (HL3.out.alloc _)⟩
      | some f =>
        rw [hfl] at HRF
        have HK : Hid (∀ q, SetOf q (setF ((L.take j).filterMap fun l => fillB r.head l) ++ [f]) → q = setF ((L.take (j + 1)).filterMap fun l => fillB r.head l)) := fun q hq => by
          rw [HTk.out, hfl]; exact setF_snoc hq
        clear hfl HTk
        go_wp2_with fail
        refine HRF.out.mono ?_
        rintro e w3 ⟨f3, rfl, hfv, hL3⟩
        simp only [Option.isSome_some, Option.getD_some] at hfv ⊢
        have hfv' := hfv
        obtain ⟨s, rfl, hs⟩ := hfv
        obtain ⟨sA', sC', rfl⟩ := sliceStr hs
        obtain ⟨w4, hw4⟩ : ∃ w4, w4 = w3.alloc (.cells #[.string f.1, .slice sA' f.2.length sC'] 54) := ⟨_, rfl⟩
        have hL4 : Later w3 w4 := by rw [hw4]; exact (Later.refl _).alloc _
        have HAd := hide (rAdd (.slice oa on oc) (.agg #[.string f.1, .slice sA' f.2.length sC']) _ f w4 (HO.out.later (hL3.trans hL4)) (hfv'.later hL4) (setF_up _) (by omega))
        have HL4 := hide (HL.out.trans (hL3.trans hL4))
        have HW4 := hide hw4
        clear hs hL3 hL4 hw4 hfv' HRF HO d0 r0 r1 r2
        go_wp2_with fail
        rw [← HW4.out]
        refine HAd.out.mono ?_
        rintro e w5 ⟨v5, q5, rfl, hF5, hS5, hL5⟩
        have e5 := HK.out q5 hS5
        subst e5
        have HF5 := hide hF5
        obtain ⟨a5, n5, c5, rfl⟩ : ∃ a n c, v5 = .slice a n c := by obtain ⟨a, c, e⟩ := sliceFacts hF5.1; exact ⟨a, _, c, e⟩
        have HL5 := hide (HL4.out.trans hL5)
        clear hF5 hS5 hL5 HAd HW4 HK HL4
        go_wp2
        go_roundg (L.length - (j + 1))
        case measure => omega
        case rel => exact ⟨j + 1, by omega, by go_num, HF5, HL5⟩
    · have e : L.take j = L := List.take_of_length_le (by omega)
      rw [e] at HO
      clear e
      go_wp2
      go_ret
      exact ⟨_, rfl, HO.out, HLb.out.trans HL.out⟩

/-- What the reference's Heads tells is what the program's tells. -/
theorem heads_of {r : RuleD} {fs : List FactB} {ms : List (List BindD)} (hm : metGo (fun _ => fs) 0 r.body [[]] = some ms) :
    headsP r fs = some (setF ((ms.filter fun l => !barredB (fun _ => fs) 0 r.body l).filterMap fun l => fillB r.head l)) := by
  have hk : ∀ l ∈ ms, (keysB l).Nodup := fun l hl => by
    rw [((met_mem (fun _ => fs) r.body 0 [[]] ms [] (fun x hx => by simp at hx; subst hx; rfl) hm l).1 hl).2.1]
    exact posKeys_nodup r.body
  unfold headsP allB
  rw [hm]
  dsimp only
  congr 1
  refine setF_congr fun f => ?_
  rw [List.mem_filterMap, List.mem_filterMap]
  constructor
  · rintro ⟨l, hl, hf⟩
    rw [(sortBy_perm _).mem_iff, List.mem_map] at hl
    obtain ⟨m, hm', rfl⟩ := hl
    exact ⟨m, hm', by rw [fillB_perm (sortBy_perm m).symm (hk m (List.mem_filter.1 hm').1)]; exact hf⟩
  · rintro ⟨m, hm', hf⟩
    refine ⟨sortB m, (sortBy_perm _).mem_iff.2 (List.mem_map.2 ⟨m, hm', rfl⟩), ?_⟩
    rw [← fillB_perm (sortBy_perm m).symm (hk m (List.mem_filter.1 hm').1)]; exact hf

/-- What Heads tells, as a pair. -/
def HeadsR (w : World) (v : Value) (er : Int) : Option (List FactB) → Prop
  | none => v = .slice none 0 0 ∧ er = 4
  | some x => er = 0 ∧ Facts w v x

set_option maxRecDepth 100000 in
set_option maxHeartbeats 1000000 in
theorem rHeads (r : RuleD) (tv bv fv : Value) (fs : List FactB) (w : World) (ht : termK.sl Anyw w tv r.head.terms) (hb : atomK.sl Anyw w bv r.body) (hf : Facts w fv fs) (hw : wrongBody r.body = 0) (hfs : (setFault fs).1 = 0) (hts : ∀ t ∈ r.head.terms, t.2.length ≤ maxLen) :
    Calls Tryz.prog 21 #[.agg #[.bool r.head.no, .string (bs r.head.name), tv, bv], fv] w fun e w' => ∃ v' er, e = .returned (.tuple #[v', .int .i64 er]) ∧ HeadsR w' v' er (headsP r fs) ∧ Below w.heap.size w w' := by
  obtain ⟨ta, tc, rfl⟩ := Kind.slice ht
  obtain ⟨ba, bc, rfl⟩ := Kind.slice hb
  obtain ⟨fa, fc, rfl⟩ := sliceFacts hf
  obtain ⟨wb, hwb⟩ : ∃ wb, wb = w.alloc (.cells #[.bool r.head.no, .string (bs r.head.name), .slice ta r.head.terms.length tc, .slice ba r.body.length bc] 43) := ⟨_, rfl⟩
  have hLb : Later w wb := by rw [hwb]; exact (Later.refl w).alloc _
  have hrb : wb.heap[w.heap.size]? = some (.cells #[.bool r.head.no, .string (bs r.head.name), .slice ta r.head.terms.length tc, .slice ba r.body.length bc] 43 (0, 0)) := by rw [hwb]; exact heap_alloc_new w _
  have hltb : w.heap.size < wb.heap.size := (Array.getElem?_eq_some_iff.1 hrb).1
  have hEn := rEnvs r.body fs [] (-1) (.slice ba r.body.length bc) (.slice fa fs.length fc) (.slice none 0 0) wb (Kind.sl_later hb hLb) (hf.later hLb) (facts_nil wb) hw hfs rfl
  rw [pickB_all] at hEn
  have HEn := hide hEn
  have HT := hide (Kind.sl_later ht hLb)
  have HH := hide (fun ms => heads_of (r := r) (fs := fs) (ms := ms))
  have HTS := hide hts
  have HLb := hide hLb
  have HRb := hide hrb
  have HWb := hide hwb
  have c3 : wb.cell? ⟨w.heap.size, 3, none⟩ = some (.slice ba r.body.length bc) := by rw [cell_of_row _ _ _ _ _ _ hrb]; rfl
  rw [hwb] at c3
  have hnone : metGo (fun _ => fs) 0 r.body [[]] = none → headsP r fs = none := fun h => by unfold headsP allB; rw [h]
  have HNone := hide hnone
  have hms : ∀ ms, metGo (fun _ => fs) 0 r.body [[]] = some ms → ms.length ≤ 20000 := fun ms h => meetAll_small (fun _ => fs) r.body 0 [[]] ms (by simp) h
  have HMs := hide hms
  clear ht hb hf hw hfs hts hLb hrb hwb hEn hnone hms
  go_enter Tryz.func21, Tryz.ntmps21
  go_wp2_with fail
  rw [← HWb.out]
  refine HEn.out.mono ?_
  rintro e w1 ⟨v1, er, rfl, hT, hB1⟩
  have HB1 := hide hB1
  have HBw := hide (below_trans HLb.out.below hB1 HLb.out.size)
  have hr1 := (hB1.block _ hltb).trans HRb.out
  clear hB1 HEn HWb c3
  cases hm : metGo (fun _ => fs) 0 r.body [[]] with
  | none =>
    rw [hm] at hT
    obtain ⟨rfl, rfl⟩ := hT
    have HN := hide (HNone.out hm)
    clear hm
    go_wp2
    exact bodyPost_ret (v := .tuple #[.slice none 0 0, .int .i64 4]) (by simp [results, Tryz.results21, go_sem]) rfl ⟨_, 4, rfl, by rw [HN.out]; exact ⟨rfl, rfl⟩, HBw.out⟩
  | some ms =>
    rw [hm] at hT
    obtain ⟨rfl, hsl⟩ := hT
    have HS := hide (HH.out ms hm)
    have hml := HMs.out ms hm
    have hfl : (ms.filter fun l => !barredB (fun _ => fs) 0 r.body l).length ≤ 20000 := Nat.le_trans (List.length_filter_le _ _) hml
    have d0 : w1.cell? ⟨w.heap.size, 0, none⟩ = some (.bool r.head.no) := by rw [cell_of_row _ _ _ _ _ _ hr1]; rfl
    have d1 : w1.cell? ⟨w.heap.size, 0 + 1, none⟩ = some (.string (bs r.head.name)) := by rw [cell_of_row _ _ _ _ _ _ hr1]; rfl
    have d2 : w1.cell? ⟨w.heap.size, 0 + 2, none⟩ = some (.slice ta r.head.terms.length tc) := by rw [cell_of_row _ _ _ _ _ _ hr1]; rfl
    have d3 : w1.cell? ⟨w.heap.size, 0 + 3, none⟩ = some (.slice ba r.body.length bc) := by rw [cell_of_row _ _ _ _ _ _ hr1]; rfl
    have HMd := hide (rMade r (.slice ta r.head.terms.length tc) (.slice ba r.body.length bc) v1 _ 20 w1 (Kind.sl_below HT.out HB1.out) ⟨_, _, _, rfl⟩ hsl HTS.out hfl)
    obtain ⟨a1, n1, c1, rfl⟩ : ∃ a n c, v1 = .slice a n c := by obtain ⟨a, c, e⟩ := Kind.slice hsl; exact ⟨a, _, c, e⟩
    clear hm hsl hml hfl hr1
    generalize bs r.head.name = nm at *
    generalize r.head.no = no at *
    go_wp2_with fail
    refine HMd.out.mono ?_
    rintro e w2 ⟨v2, rfl, hF2, hL2⟩
    have HF2 := hide hF2.1
    have HB2 := hide (below_trans HBw.out hL2.below HBw.out.size)
    obtain ⟨a2, n2, c2, rfl⟩ : ∃ a n c, v2 = .slice a n c := by obtain ⟨a, c, e⟩ := sliceFacts HF2.out; exact ⟨a, _, c, e⟩
    clear hF2 hL2 HMd d0 d1 d2 d3
    go_wp2
    exact bodyPost_ret (v := .tuple #[.slice a2 n2 c2, .int .i64 0]) (by simp [results, Tryz.results21, go_sem]) rfl ⟨_, 0, rfl, by rw [HS.out]; exact ⟨rfl, HF2.out⟩, HB2.out⟩

end Go.Proofs.YtbohggoeebhdmaaGreatDoor
