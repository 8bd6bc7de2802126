/- The walks of check's fit and wrongRule. -/
import Derived.Test.YthogickpeldhlaaCkD
import Derived.Test.YthogickpeldhlaaHeld
namespace Go.Proofs.Ythogickpeldhlaa
open Go.RowKit Go.Sort Go.Maps

abbrev NumsM (w : World) (b n : Nat) (m : Nums) : Prop := NumM Try.prog 9 3 w b n m

theorem Kind.sl_tnb {α : Type} {K : Kind α} {b : Nat} {w w' : World} {v : Value} {l : List α} (h : K.sl (fun k => k ≠ b) w v l) (k : Tn b w w') : K.sl (fun k => k ≠ b) w' v l := Kind.sl_kept h k.size fun i hi hB => k.block i hi hB
theorem Kind.sl_ne {α : Type} {K : Kind α} {b : Nat} {w : World} {v : Value} {l : List α} (h : K.sl Anyw w v l) (hb : w.heap.size ≤ b) : K.sl (fun k => k ≠ b) w v l := Kind.sl_mono h fun k hk _ => by omega

theorem wf_len {n : Nat} (h : n ≤ 9223372036854775807) : (Lit.int .i64 (n : Int)).wf = true := WalkArith.wf_i64 (by omega)

set_option maxRecDepth 100000 in
set_option maxHeartbeats 1000000 in
theorem fitC (b n : Nat) (m : Nums) (a : AtomD) (v : Value) (w : World) (h : NumsM w b n m) (hv : termK.sl Anyw w v a.terms) (hs : a.name.length ≤ maxLen) (hn : n < maxLen) :
    Calls Try.prog 120 #[.map (some b), .agg #[.bool a.no, .string (bs a.name), v]] w fun e w' => e = .returned (.bool (fitOne m a).1) ∧ NumsM w' b (n + 1) (fitOne m a).2 ∧ Tn b w w' := by
  obtain ⟨sa, cap, rfl⟩ := Kind.slice hv
  have hl0 := hv.1.1
  clear hv
  have h1 := h.later ((Later.refl w).alloc (.cells #[.bool a.no, .string (bs a.name), .slice sa a.terms.length cap] 54))
  have hr := NumM.lookOk (T := 108) h1 Try.underlying9 Try.underlying3 Try.underlying108 (zeroInt _) hs
  have hblt := h.lt
  cases hm : m a.name with
  | none =>
    obtain ⟨w1, hst, hm1, hg⟩ := NumM.store (T := 108) h1 Try.underlying9 Try.underlying3 Try.underlying108 hn hs (x := a.terms.length) (wf_len (by omega))
    have e0 : numOf m a.name = 0 := by unfold numOf; rw [hm]; rfl
    rw [hm, e0] at hr
    have F : Hid (fitOne m a = (true, m.put a.name a.terms.length)) := by show _ = _; unfold fitOne; rw [hm]
    have HM : Hid (NumsM w1 b (n + 1) (m.put a.name a.terms.length)) := hm1
    have HT : Hid (Tn b w w1) := (Tn.of_below (p := b) ((Later.refl w).alloc _).below).trans (Tn.of_grown hg)
    have hst' := hide hst
    clear h h1 hm1 hg hst hm e0
    generalize bs a.name = nm at *
    generalize a.no = no at *
    go_enter Try.func120, Try.ntmps120
    go_wp2_with (first
      | (at_mapUpdate; refine wpList_run_update _ rfl _ _ _ _ rfl _ _ _ _ rfl rfl rfl (unhide hst') ?_)
      | go_in)
    go_ret
    exact ⟨by rw [F.out]; rfl, by rw [F.out]; exact HM.out, HT.out⟩
  | some k =>
    have e0 : numOf m a.name = k := by unfold numOf; rw [hm]; rfl
    rw [hm, e0] at hr
    have F : Hid (fitOne m a = (decide (k = a.terms.length), m)) := by show _ = _; unfold fitOne; rw [hm]
    have HM : Hid (NumsM (w.alloc (.cells #[.bool a.no, .string (bs a.name), .slice sa a.terms.length cap] 54)) b (n + 1) m) := h1.mono (by omega)
    clear h h1 hm e0
    generalize bs a.name = nm at *
    generalize a.no = no at *
    go_enter Try.func120, Try.ntmps120
    go_wp2
    go_ret
    refine ⟨?_, by rw [F.out]; exact HM.out, Tn.of_below ((Later.refl w).alloc _).below⟩
    rw [F.out]
    refine ret_bool ?_
    rw [Bool.eq_iff_iff]
    simp
    omega

/-- A rule in a box, beside a map that may have turned. -/
structure RuleBox (b : Nat) (w : World) (c0 c1 c2 c3 : Value) (w' : World) : Prop where
  tn : Tn b w w'
  lt : w.heap.size < w'.heap.size
  z0 : w'.cell? ⟨w.heap.size, 0, none⟩ = some c0
  z1 : w'.cell? ⟨w.heap.size, 1, none⟩ = some c1
  z2 : w'.cell? ⟨w.heap.size, 2, none⟩ = some c2
  z3 : w'.cell? ⟨w.heap.size, 3, none⟩ = some c3

section
variable {b : Nat} {w w1 w2 : World} {c0 c1 c2 c3 : Value}
theorem RuleBox.made (b : Nat) (w : World) (c0 c1 c2 c3 : Value) : RuleBox b w c0 c1 c2 c3 (w.alloc (.cells #[c0, c1, c2, c3] 56)) :=
  ⟨Tn.of_below ((Later.refl w).alloc _).below, by simp, by simp, by simp, by simp, by simp⟩
theorem RuleBox.turned (h : RuleBox b w c0 c1 c2 c3 w1) (k : Tn b w1 w2) (hb : b < w.heap.size) : RuleBox b w c0 c1 c2 c3 w2 := by
  have e : ∀ i, w2.cell? ⟨w.heap.size, i, none⟩ = w1.cell? ⟨w.heap.size, i, none⟩ := fun i => k.cell (x := ⟨w.heap.size, i, none⟩) h.lt (by show w.heap.size ≠ b; omega)
  exact ⟨h.tn.trans k, Nat.lt_of_lt_of_le h.lt k.size, by rw [e]; exact h.z0, by rw [e]; exact h.z1, by rw [e]; exact h.z2, by rw [e]; exact h.z3⟩
theorem RuleBox.below (h : RuleBox b w c0 c1 c2 c3 w1) (k : Below w1.heap.size w1 w2) (hb : b < w.heap.size) : RuleBox b w c0 c1 c2 c3 w2 := h.turned (Tn.of_below k) hb
end

theorem fitAll_step {l : List AtomD} {j : Nat} {a : AtomD} (h : l[j]? = some a) (m : Nums) : fitAll m (l.drop j) = if (fitOne m a).1 then fitAll (fitOne m a).2 (l.drop (j + 1)) else (false, (fitOne m a).2) := by
  obtain ⟨h1, e1⟩ := List.getElem?_eq_some_iff.1 h
  rw [List.drop_eq_getElem_cons h1, e1]; rfl

theorem wrongAtoms_zero {l : List AtomD} (h : wrongAtoms l = 0) : ∀ a ∈ l, wrongAtom a = 0 := by
  induction l with
  | nil => intro a ha; cases ha
  | cons b l ih =>
    unfold wrongAtoms at h
    split at h
    · rename_i h0
      intro a ha
      rcases List.mem_cons.1 ha with rfl | ha
      · exact h0
      · exact ih h a ha
    · rename_i h0; exact absurd h h0
theorem wrongBody_zero {l : List AtomD} (h : wrongBody l = 0) : l.length ≤ 5 ∧ ∀ a ∈ l, wrongAtom a = 0 := by
  unfold wrongBody at h
  split at h
  · cases h
  · split at h
    · rename_i h5 h0; exact ⟨by omega, wrongAtoms_zero h0⟩
    · rename_i h5 h0; exact absurd h h0

set_option maxRecDepth 100000 in
set_option maxHeartbeats 4000000 in
theorem wrongRuleC (b n : Nat) (m : Nums) (r : RuleD) (v u : Value) (w : World) (h : NumsM w b n m) (hv0 : termK.sl (fun k => k ≠ b) w v r.head.terms) (hu0 : atomK.sl (fun k => k ≠ b) w u r.body) (hn : n ≤ 1000000) :
    Calls Try.prog 87 #[.agg #[.bool r.head.no, .string (bs r.head.name), v, u], .map (some b)] w fun e w' => e = .returned (.int .i64 (wrongRule m r).1) ∧ NumsM w' b (n + 6) (wrongRule m r).2 ∧ Tn b w w' := by
  have hbw := h.lt
  obtain ⟨va, vc, rfl⟩ := Kind.slice hv0
  obtain ⟨ua, uc, rfl⟩ := Kind.slice hu0
  have hl0 := hv0.1.1
  have hl1 := hu0.1.1
  have HV := hide hv0
  have HU := hide hu0
  clear hv0 hu0
  have HM0 : Hid (∀ w', Below w.heap.size w w' → NumsM w' b n m) := fun w' k => h.below k
  have HA : Hid (∀ w', RuleBox b w (.bool r.head.no) (.string (bs r.head.name)) (.slice va r.head.terms.length vc) (.slice ua r.body.length uc) w' → NumsM w' b n m → Calls Try.prog 93 #[.agg #[.bool r.head.no, .string (bs r.head.name), .slice va r.head.terms.length vc]] w'
      fun e w'' => e = .returned (.int .i64 (wrongAtom r.head)) ∧ RuleBox b w (.bool r.head.no) (.string (bs r.head.name)) (.slice va r.head.terms.length vc) (.slice ua r.body.length uc) w'' ∧ NumsM w'' b n m) := fun w' hR hM =>
    (wrongAtomC r.head _ w' (Kind.sl_any (Kind.sl_tnb HV.out hR.tn))).mono fun e w'' ⟨he, hL⟩ => ⟨he, hR.below hL.below hbw, hM.later hL⟩
  have HBd : Hid (∀ w', RuleBox b w (.bool r.head.no) (.string (bs r.head.name)) (.slice va r.head.terms.length vc) (.slice ua r.body.length uc) w' → NumsM w' b n m → Calls Try.prog 49 #[.slice ua r.body.length uc] w'
      fun e w'' => e = .returned (.int .i64 (wrongBody r.body)) ∧ RuleBox b w (.bool r.head.no) (.string (bs r.head.name)) (.slice va r.head.terms.length vc) (.slice ua r.body.length uc) w'' ∧ NumsM w'' b n m) := fun w' hR hM =>
    (chkBodyC r.body _ w' (Kind.sl_any (Kind.sl_tnb HU.out hR.tn))).mono fun e w'' ⟨he, hL⟩ => ⟨he, hR.below hL hbw, hM.below hL⟩
  have HR0 := hide (RuleBox.made b w (.bool r.head.no) (.string (bs r.head.name)) (.slice va r.head.terms.length vc) (.slice ua r.body.length uc))
  have HMA := hide (h.later ((Later.refl w).alloc (.cells #[.bool r.head.no, .string (bs r.head.name), .slice va r.head.terms.length vc, .slice ua r.body.length uc] 56)))
  by_cases h1 : wrongAtom r.head = 0
  · cases hno : r.head.no
    · by_cases h2 : wrongBody r.body = 0
      · obtain ⟨hl5, hfb⟩ := wrongBody_zero h2
        obtain ⟨fn, ft, fs⟩ := wrongAtom_zero h1
        have F : Hid (wrongRule m r = if (vars r.head).all (givenBy r.body) then (if (fitOne m r.head).1 then (if (fitAll (fitOne m r.head).2 r.body).1 then 0 else 8, (fitAll (fitOne m r.head).2 r.body).2) else (8, (fitOne m r.head).2)) else (9, m)) := by
          show _ = _
          unfold wrongRule
          rw [if_pos h1, hno, if_neg (by simp), if_pos h2]
        rw [hno] at HA HBd HR0 HMA
        rw [h1] at HA
        rw [h2] at HBd
        have HGB : Hid (∀ w', RuleBox b w (.bool false) (.string (bs r.head.name)) (.slice va r.head.terms.length vc) (.slice ua r.body.length uc) w' → NumsM w' b n m → Calls Try.prog 94 #[.slice ua r.body.length uc] w' fun e w'' => e = .returned (.map (some w'.heap.size)) ∧ NamesM w'' w'.heap.size 20 (givenBy r.body) ∧ RuleBox b w (.bool false) (.string (bs r.head.name)) (.slice va r.head.terms.length vc) (.slice ua r.body.length uc) w'' ∧ NumsM w'' b n m) := fun w' hR hM =>
          (givenByC r.body _ w' (Kind.sl_any (Kind.sl_tnb HU.out hR.tn)) hfb hl5).mono fun e w'' ⟨he, hN, hL⟩ => ⟨he, hN, hR.below hL hbw, hM.below hL⟩
        have HVr : Hid (∀ w' bk, NamesM w' bk 20 (givenBy r.body) → RuleBox b w (.bool false) (.string (bs r.head.name)) (.slice va r.head.terms.length vc) (.slice ua r.body.length uc) w' → NumsM w' b n m → Calls Try.prog 47 #[.agg #[.bool false, .string (bs r.head.name), .slice va r.head.terms.length vc]] w' fun e w'' => ∃ x, e = .returned x ∧ strK.sl Anyw w'' x (vars r.head) ∧ NamesM w'' bk 20 (givenBy r.body) ∧ RuleBox b w (.bool false) (.string (bs r.head.name)) (.slice va r.head.terms.length vc) (.slice ua r.body.length uc) w'' ∧ NumsM w'' b n m) := fun w' bk hN hR hM => by
          have := varsC r.head _ w' (Kind.sl_any (Kind.sl_tnb HV.out hR.tn)) (by omega) (fun t ht => short_max (fs t ht))
          rw [hno] at this
          exact this.mono fun e w'' ⟨x, he, ho, hL⟩ => ⟨x, he, Kind.sl_any (Kind.own_sl ho (by have := vars_le r.head; omega)), hN.below hL, hR.below hL hbw, hM.below hL⟩
        have HAl : Hid (∀ w' bk x, strK.sl Anyw w' x (vars r.head) → NamesM w' bk 20 (givenBy r.body) → RuleBox b w (.bool false) (.string (bs r.head.name)) (.slice va r.head.terms.length vc) (.slice ua r.body.length uc) w' → NumsM w' b n m → Calls Try.prog 95 #[.map (some bk), x] w' fun e w'' => e = .returned (.bool ((vars r.head).all (givenBy r.body))) ∧ RuleBox b w (.bool false) (.string (bs r.head.name)) (.slice va r.head.terms.length vc) (.slice ua r.body.length uc) w'' ∧ NumsM w'' b n m) := fun w' bk x hS hN hR hM =>
          (hasAllC _ _ _ x (vars r.head) w' hN hS (fun s hs => by obtain ⟨t, ht, rfl⟩ := vars_mem r.head s hs; exact short_max (fs t ht))).mono fun e w'' ⟨he, hL⟩ => ⟨he, hR.below hL.below hbw, hM.later hL⟩
        have HFt : Hid (∀ w', RuleBox b w (.bool false) (.string (bs r.head.name)) (.slice va r.head.terms.length vc) (.slice ua r.body.length uc) w' → NumsM w' b n m → Calls Try.prog 120 #[.map (some b), .agg #[.bool false, .string (bs r.head.name), .slice va r.head.terms.length vc]] w' fun e w'' => e = .returned (.bool (fitOne m r.head).1) ∧ RuleBox b w (.bool false) (.string (bs r.head.name)) (.slice va r.head.terms.length vc) (.slice ua r.body.length uc) w'' ∧ NumsM w'' b (n + 1) (fitOne m r.head).2) := fun w' hR hM => by
          have := fitC b n m r.head _ w' hM (Kind.sl_any (Kind.sl_tnb HV.out hR.tn)) (short_max fn) (by simp [maxLen]; omega)
          rw [hno] at this
          exact this.mono fun e w'' ⟨he, hN, hT⟩ => ⟨he, hR.turned hT hbw, hN⟩
        clear h1 h2 hno h HM0
        generalize hgv : givenBy r.body = gv at *
        clear hgv
        generalize hall : (vars r.head).all gv = al at *
        clear hall
        generalize bs r.head.name = nm at *
        cases al
        · have F1 : Hid (wrongRule m r = (9, m)) := F.out
          clear HV HU HFt F
          go_enter Try.func87, Try.ntmps87
          go_wp2_with (first
            | (go_at_call 93; refine (HA.out _ HR0.out HMA.out).mono ?_; rintro e w1 ⟨rfl, hR1, hM1⟩; have z0 := hR1.z0; have z3 := hR1.z3; have zl := hR1.lt; replace hR1 := hide hR1; replace hM1 := hide hM1)
            | (go_at_call 49; refine (HBd.out w1 (unhide hR1) (unhide hM1)).mono ?_; rintro e w2 ⟨rfl, hR2, hM2⟩; replace hR2 := hide hR2; replace hM2 := hide hM2))
          refine wp_region_held_drew (S := fun w' => RuleBox b w (.bool false) (.string nm) (.slice va r.head.terms.length vc) (.slice ua r.body.length uc) w' ∧ NumsM w' b n m) (by kernel_rfl) ⟨(unhide hR2).turned (Tn.refl _ _).drew hbw, (unhide hM2).block rfl⟩ (fun hHeld => ?_)
          refine take_at (i := 0) (d := some 24) (v := ?_) rfl rfl (by kernel_rfl) (by kernel_rfl) (by kernel_rfl) (fun _ _ _ h => h) (Or.inl ⟨by rfl, ?_⟩) hHeld ?_
          rotate_left
          · intro w hSw; (try dsimp only at hSw); obtain ⟨hRB, _⟩ := hSw; have z0 := hRB.z0; have z1 := hRB.z1; have z2 := hRB.z2; have z3 := hRB.z3; have zl := hRB.lt; clear hRB; go_simp; try with_reducible rfl
          simp only [Act.put, List.setIfInBounds_toArray, List.set_cons_zero, List.set_cons_succ]
          refine take_at (i := 1) (d := some 25) (v := ?_) rfl rfl (by kernel_rfl) (by kernel_rfl) (by kernel_rfl) (fun _ _ _ h => h) (Or.inl ⟨by rfl, ?_⟩) hHeld ?_
          rotate_left
          · intro w hSw; (try dsimp only at hSw); obtain ⟨hRB, _⟩ := hSw; have z0 := hRB.z0; have z1 := hRB.z1; have z2 := hRB.z2; have z3 := hRB.z3; have zl := hRB.lt; clear hRB; go_simp; try with_reducible rfl
          simp only [Act.put, List.setIfInBounds_toArray, List.set_cons_zero, List.set_cons_succ]
          refine take_at (i := 3) (d := some 27) (v := ?_) rfl rfl (by kernel_rfl) (by kernel_rfl) (by kernel_rfl) (fun _ _ _ h => h) (Or.inl ⟨by rfl, ?_⟩) hHeld ?_
          rotate_left
          · intro w hSw; (try dsimp only at hSw); obtain ⟨hRB, _⟩ := hSw; have z0 := hRB.z0; have z1 := hRB.z1; have z2 := hRB.z2; have z3 := hRB.z3; have zl := hRB.lt; clear hRB; go_simp; try with_reducible rfl
          simp only [Act.put, List.setIfInBounds_toArray, List.set_cons_zero, List.set_cons_succ]
          refine take_at (i := 4) (d := some 28) (v := ?_) rfl rfl (by kernel_rfl) (by kernel_rfl) (by kernel_rfl) (fun _ _ _ h => h) (Or.inl ⟨by rfl, ?_⟩) hHeld ?_
          rotate_left
          · intro w hSw; (try dsimp only at hSw); obtain ⟨hRB, _⟩ := hSw; have z0 := hRB.z0; have z1 := hRB.z1; have z2 := hRB.z2; have z3 := hRB.z3; have zl := hRB.lt; clear hRB; go_simp; try with_reducible rfl
          simp only [Act.put, List.setIfInBounds_toArray, List.set_cons_zero, List.set_cons_succ]
          refine wpAnyH_ready (rs := [2]) (by kernel_rfl) (by simp) ?_
          refine AllReadyH.cons rfl (fun K hK => ?_) AllReadyH.nil
          go_simp
          refine (HGB.out _ hHeld.1 hHeld.2).mono ?_
          rintro e w3 ⟨rfl, hN3, hR3, hM3⟩
          dsimp only
          refine hK.out _ _ ⟨hR3, hM3⟩ (fun hHeld => ?_)
          clear hK K
          refine wpAnyH_ready (rs := [5]) (by kernel_rfl) (by simp) ?_
          refine AllReadyH.cons rfl (fun K hK => ?_) AllReadyH.nil
          go_simp
          refine (HVr.out _ _ hN3 hHeld.1 hHeld.2).mono ?_
          rintro e w4 ⟨x4, rfl, hS4, hN4, hR4, hM4⟩
          dsimp only
          refine hK.out _ _ ⟨hR4, hM4⟩ (fun hHeld => ?_)
          clear hK K
          refine wpAnyH_ready (rs := [6]) (by kernel_rfl) (by simp) ?_
          refine AllReadyH.cons rfl (fun K hK => ?_) AllReadyH.nil
          go_simp
          refine (HAl.out _ _ _ hS4 hN4 hHeld.1 hHeld.2).mono ?_
          rintro e w5 ⟨rfl, hR5, hM5⟩
          dsimp only
          refine hK.out _ _ ⟨hR5, hM5⟩ (fun hHeld => ?_)
          clear hK K
          refine take_at (i := 7) (d := some 31) (v := ?_) rfl rfl (by kernel_rfl) (by kernel_rfl) (by kernel_rfl) (fun _ _ _ h => h) (Or.inl ⟨by rfl, ?_⟩) hHeld ?_
          rotate_left
          · intro w hSw; (try dsimp only at hSw);  go_simp; try with_reducible rfl
          simp only [Act.put, List.setIfInBounds_toArray, List.set_cons_zero, List.set_cons_succ]
          refine wpAnyH_done (by kernel_rfl) ?_ _
          go_wp2
          go_ret
          exact ⟨by rw [F1.out]; rfl, by rw [F1.out]; exact hHeld.2.mono (by omega), hHeld.1.tn⟩
        · have F1 : Hid (wrongRule m r = if (fitOne m r.head).1 then (if (fitAll (fitOne m r.head).2 r.body).1 then 0 else 8, (fitAll (fitOne m r.head).2 r.body).2) else (8, (fitOne m r.head).2)) := F.out
          clear F
          generalize fitOne m r.head = fo at *
          obtain ⟨f1, m1⟩ := fo
          dsimp only at *
          have HU1 : Hid (∀ w', Tn b w w' → atomK.sl (fun k => k ≠ b) w' (.slice ua r.body.length uc) r.body) := fun w' k => Kind.sl_tnb HU.out k
          have hnames : ∀ a ∈ r.body, a.name.length ≤ maxLen := fun a ha => short_max (wrongAtom_zero (hfb a ha)).1
          have HN := hide hnames
          clear HV HU hnames
          go_enter Try.func87, Try.ntmps87
          go_wp2_with (first
            | (go_at_call 93; refine (HA.out _ HR0.out HMA.out).mono ?_; rintro e w1 ⟨rfl, hR1, hM1⟩; have z0 := hR1.z0; have z3 := hR1.z3; have zl := hR1.lt; replace hR1 := hide hR1; replace hM1 := hide hM1)
            | (go_at_call 49; refine (HBd.out w1 (unhide hR1) (unhide hM1)).mono ?_; rintro e w2 ⟨rfl, hR2, hM2⟩; replace hR2 := hide hR2; replace hM2 := hide hM2))
          refine wp_region_held_drew (S := fun w' => RuleBox b w (.bool false) (.string nm) (.slice va r.head.terms.length vc) (.slice ua r.body.length uc) w' ∧ NumsM w' b n m) (by kernel_rfl) ⟨(unhide hR2).turned (Tn.refl _ _).drew hbw, (unhide hM2).block rfl⟩ (fun hHeld => ?_)
          refine take_at (i := 0) (d := some 24) (v := ?_) rfl rfl (by kernel_rfl) (by kernel_rfl) (by kernel_rfl) (fun _ _ _ h => h) (Or.inl ⟨by rfl, ?_⟩) hHeld ?_
          rotate_left
          · intro w hSw; (try dsimp only at hSw); obtain ⟨hRB, _⟩ := hSw; have z0 := hRB.z0; have z1 := hRB.z1; have z2 := hRB.z2; have z3 := hRB.z3; have zl := hRB.lt; clear hRB; go_simp; try with_reducible rfl
          simp only [Act.put, List.setIfInBounds_toArray, List.set_cons_zero, List.set_cons_succ]
          refine take_at (i := 1) (d := some 25) (v := ?_) rfl rfl (by kernel_rfl) (by kernel_rfl) (by kernel_rfl) (fun _ _ _ h => h) (Or.inl ⟨by rfl, ?_⟩) hHeld ?_
          rotate_left
          · intro w hSw; (try dsimp only at hSw); obtain ⟨hRB, _⟩ := hSw; have z0 := hRB.z0; have z1 := hRB.z1; have z2 := hRB.z2; have z3 := hRB.z3; have zl := hRB.lt; clear hRB; go_simp; try with_reducible rfl
          simp only [Act.put, List.setIfInBounds_toArray, List.set_cons_zero, List.set_cons_succ]
          refine take_at (i := 3) (d := some 27) (v := ?_) rfl rfl (by kernel_rfl) (by kernel_rfl) (by kernel_rfl) (fun _ _ _ h => h) (Or.inl ⟨by rfl, ?_⟩) hHeld ?_
          rotate_left
          · intro w hSw; (try dsimp only at hSw); obtain ⟨hRB, _⟩ := hSw; have z0 := hRB.z0; have z1 := hRB.z1; have z2 := hRB.z2; have z3 := hRB.z3; have zl := hRB.lt; clear hRB; go_simp; try with_reducible rfl
          simp only [Act.put, List.setIfInBounds_toArray, List.set_cons_zero, List.set_cons_succ]
          refine take_at (i := 4) (d := some 28) (v := ?_) rfl rfl (by kernel_rfl) (by kernel_rfl) (by kernel_rfl) (fun _ _ _ h => h) (Or.inl ⟨by rfl, ?_⟩) hHeld ?_
          rotate_left
          · intro w hSw; (try dsimp only at hSw); obtain ⟨hRB, _⟩ := hSw; have z0 := hRB.z0; have z1 := hRB.z1; have z2 := hRB.z2; have z3 := hRB.z3; have zl := hRB.lt; clear hRB; go_simp; try with_reducible rfl
          simp only [Act.put, List.setIfInBounds_toArray, List.set_cons_zero, List.set_cons_succ]
          refine wpAnyH_ready (rs := [2]) (by kernel_rfl) (by simp) ?_
          refine AllReadyH.cons rfl (fun K hK => ?_) AllReadyH.nil
          go_simp
          refine (HGB.out _ hHeld.1 hHeld.2).mono ?_
          rintro e w3 ⟨rfl, hN3, hR3, hM3⟩
          dsimp only
          refine hK.out _ _ ⟨hR3, hM3⟩ (fun hHeld => ?_)
          clear hK K
          refine wpAnyH_ready (rs := [5]) (by kernel_rfl) (by simp) ?_
          refine AllReadyH.cons rfl (fun K hK => ?_) AllReadyH.nil
          go_simp
          refine (HVr.out _ _ hN3 hHeld.1 hHeld.2).mono ?_
          rintro e w4 ⟨x4, rfl, hS4, hN4, hR4, hM4⟩
          dsimp only
          refine hK.out _ _ ⟨hR4, hM4⟩ (fun hHeld => ?_)
          clear hK K
          refine wpAnyH_ready (rs := [6]) (by kernel_rfl) (by simp) ?_
          refine AllReadyH.cons rfl (fun K hK => ?_) AllReadyH.nil
          go_simp
          refine (HAl.out _ _ _ hS4 hN4 hHeld.1 hHeld.2).mono ?_
          rintro e w5 ⟨rfl, hR5, hM5⟩
          dsimp only
          refine hK.out _ _ ⟨hR5, hM5⟩ (fun hHeld => ?_)
          clear hK K
          refine take_at (i := 7) (d := some 31) (v := ?_) rfl rfl (by kernel_rfl) (by kernel_rfl) (by kernel_rfl) (fun _ _ _ h => h) (Or.inl ⟨by rfl, ?_⟩) hHeld ?_
          rotate_left
          · intro w hSw; (try dsimp only at hSw);  go_simp; try with_reducible rfl
          simp only [Act.put, List.setIfInBounds_toArray, List.set_cons_zero, List.set_cons_succ]
          refine wpAnyH_done (by kernel_rfl) ?_ _
          have HC := hide (HFt.out _ hHeld.1 hHeld.2)
          have y0 := hHeld.1.z0
          have y1 := hHeld.1.z1
          have y2 := hHeld.1.z2
          have yl := hHeld.1.lt
          clear z0 z3 zl hR1 hM1 hR2 hM2 hN3 hR3 hM3 hS4 hN4 hR4 hM4 hR5 hM5 hHeld HA HBd HGB HVr HAl HR0 HMA HFt
          cases f1
          · have F2 : Hid (wrongRule m r = (8, m1)) := F1.out
            go_wp2_with (go_at_call 120; refine HC.out.mono ?_; rintro e w6 ⟨rfl, hR6, hM6⟩; replace hR6 := hide hR6; replace hM6 := hide hM6)
            go_ret
            exact ⟨by rw [F2.out]; rfl, by rw [F2.out]; exact (unhide hM6).mono (by omega), (unhide hR6).tn⟩
          · have F2 : Hid (wrongRule m r = (if (fitAll m1 r.body).1 then 0 else 8, (fitAll m1 r.body).2)) := F1.out
            clear F1
            go_wp2_with (go_at_call 120; refine HC.out.mono ?_; rintro e w6 ⟨rfl, hR6, hM6⟩; have x3 := hR6.z3; have xl := hR6.lt; have HT6 := hide hR6.tn; clear hR6; replace hM6 := hide hM6)
            go_loopg [40] r.body.length (fun k i wr => ∃ j : Nat, j + k = r.body.length ∧ i = .int .i64 j ∧ ∃ mj, Hid (fitAll m1 r.body = fitAll mj (r.body.drop j)) ∧ Hid (NumsM wr b (n + 1 + j) mj) ∧ Hid (Tn b w wr))
            case atStart => exact ⟨0, by omega, rfl, m1, (rfl : _ = _), hM6, HT6⟩
            case round =>
              obtain ⟨j, hj, rfl, mj, HE, HMj, HTj⟩ := hrel
              have hwr := HTj.out.size
              by_cases hlt : j < r.body.length
              · obtain ⟨x, hx⟩ : ∃ x, r.body[j]? = some x := ⟨_, List.getElem?_eq_getElem hlt⟩
                obtain ⟨b1, o1, _, rfl, hb1, hbne, ⟨sv, rfl, hsv⟩, hc⟩ := Kind.sl_atB (HU1.out wr HTj.out) hx
                have d0 : wr.cell? ⟨b1, o1 + j * 3, none⟩ = some (.bool x.no) := hc 0 _ rfl
                have d1 : wr.cell? ⟨b1, o1 + j * 3 + 1, none⟩ = some (.string (bs x.name)) := hc 1 _ rfl
                have d2 : wr.cell? ⟨b1, o1 + j * 3 + 2, none⟩ = some sv := hc 2 _ rfl
                have hst := fitAll_step hx mj
                have HCj : Hid (Calls Try.prog 120 #[.map (some b), .agg #[.bool x.no, .string (bs x.name), sv]] (wr.alloc (.cells #[.bool x.no, .string (bs x.name), sv] 54)) fun e w2 => e = .returned (.bool (fitOne mj x).1) ∧ Hid (NumsM w2 b (n + 1 + (j + 1)) (fitOne mj x).2) ∧ Hid (Tn b w w2)) :=
                  (fitC b (n + 1 + j) mj x sv _ (HMj.out.later ((Later.refl _).alloc _)) (Kind.sl_any (Kind.sl_below (Kind.sl_any hsv) ((Later.refl _).alloc _).below)) (HN.out x (List.mem_of_getElem? hx)) (by simp [maxLen]; omega)).mono fun e w2 ⟨he, h1, h2⟩ => ⟨he, h1, (HTj.out.alloc _).trans h2⟩
                obtain ⟨a2, c2, rfl⟩ := Kind.slice hsv
                clear hc hx hsv HMj HTj
                generalize bs x.name = nx at *
                generalize x.no = xn at *
                generalize fitOne mj x = fx at *
                obtain ⟨g1, m2⟩ := fx
                dsimp only at *
                cases g1
                · have E2 : Hid (fitAll m1 r.body = (false, m2)) := by show _ = _; rw [HE.out, hst]; rfl
                  clear hst HE
                  go_wp2_with (go_at_call 120; refine HCj.out.mono ?_; rintro e w7 ⟨rfl, hM7, hT7⟩)
                  go_ret
                  exact ⟨by rw [F2.out, E2.out]; rfl, by rw [F2.out, E2.out]; exact hM7.out.mono (by omega), hT7.out⟩
                · have E2 : Hid (fitAll m1 r.body = fitAll m2 (r.body.drop (j + 1))) := by show _ = _; rw [HE.out, hst]; rfl
                  clear hst HE
                  go_wp2_with (go_at_call 120; refine HCj.out.mono ?_; rintro e w7 ⟨rfl, hM7, hT7⟩)
                  go_roundg (r.body.length - (j + 1))
                  case measure => omega
                  case rel => exact ⟨j + 1, by omega, by go_num, m2, E2, hM7, hT7⟩
              · have E2 : Hid (fitAll m1 r.body = (true, mj)) := by show _ = _; rw [HE.out, List.drop_eq_nil_of_le (by omega)]; rfl
                go_wp2
                go_ret
                exact ⟨by rw [F2.out, E2.out]; rfl, by rw [F2.out, E2.out]; exact HMj.out.mono (by omega), HTj.out⟩
      · have F : Hid (wrongRule m r = (wrongBody r.body, m)) := by show _ = _; unfold wrongRule; rw [if_pos h1, hno, if_neg (by simp), if_neg h2]
        have hq : (wrongBody r.body != 0) = true := by simpa using h2
        rw [hno] at HA HBd HR0 HMA
        rw [h1] at HA
        clear h1 h2 hno h HM0 HV HU
        generalize bs r.head.name = nm at *
        generalize wrongBody r.body = ex at *
        go_enter Try.func87, Try.ntmps87
        go_wp2_with (first
          | (go_at_call 93; refine (HA.out _ HR0.out HMA.out).mono ?_; rintro e w1 ⟨rfl, hR1, hM1⟩; have z0 := hR1.z0; have z3 := hR1.z3; have zl := hR1.lt; replace hR1 := hide hR1; replace hM1 := hide hM1)
          | (go_at_call 49; refine (HBd.out w1 (unhide hR1) (unhide hM1)).mono ?_; rintro e w2 ⟨rfl, hR2, hM2⟩; replace hR2 := hide hR2; replace hM2 := hide hM2))
        go_ret
        exact ⟨by rw [F.out]; rfl, by rw [F.out]; exact (unhide hM2).mono (by omega), (unhide hR2).tn⟩
    · have F : Hid (wrongRule m r = (2, m)) := by show _ = _; unfold wrongRule; rw [if_pos h1, hno, if_pos rfl]
      rw [hno] at HA HR0 HMA
      rw [h1] at HA
      clear h1 hno h HM0 HV HU HBd
      generalize bs r.head.name = nm at *
      go_enter Try.func87, Try.ntmps87
      go_wp2_with (go_at_call 93; refine (HA.out _ HR0.out HMA.out).mono ?_; rintro e w1 ⟨rfl, hR1, hM1⟩; have z0 := hR1.z0; have zl := hR1.lt; replace hR1 := hide hR1; replace hM1 := hide hM1)
      go_ret
      exact ⟨by rw [F.out]; rfl, by rw [F.out]; exact (unhide hM1).mono (by omega), (unhide hR1).tn⟩
  · have F : Hid (wrongRule m r = (wrongAtom r.head, m)) := by show _ = _; unfold wrongRule; rw [if_neg h1]
    have hq : (wrongAtom r.head != 0) = true := by simpa using h1
    clear h1 h HM0 HV HU HBd
    generalize wrongAtom r.head = ex at *
    generalize bs r.head.name = nm at *
    generalize r.head.no = no at *
    go_enter Try.func87, Try.ntmps87
    go_wp2_with (go_at_call 93; refine (HA.out _ HR0.out HMA.out).mono ?_; rintro e w1 ⟨rfl, hR1, hM1⟩; replace hR1 := hide hR1; replace hM1 := hide hM1)
    go_ret
    exact ⟨by rw [F.out]; rfl, by rw [F.out]; exact (unhide hM1).mono (by omega), (unhide hR1).tn⟩

end Go.Proofs.Ythogickpeldhlaa
