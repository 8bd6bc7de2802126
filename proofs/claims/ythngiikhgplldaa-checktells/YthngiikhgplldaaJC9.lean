/- Texts of this claim, one behind the other. -/
import Derived.Test.YthngiikhgplldaaJC2
import Derived.Deep.RegionHeld
import Derived.Test.YthngiikhgplldaaJC5
import Derived.Test.YthngiikhgplldaaJC3
/- A region that draws its order, step by step: an operation that yields its value in every world that meets the condition is taken first. -/
namespace Go.Proofs.Ythngiikhgplldaa

theorem take_at {P : Program} {md : Region.Mode} {ops : Array Oper} {Q : Exit → Act → World → Prop} {S : World → Prop} {i : Nat} {oi : Oper} {d : Option Nat} {v : Value} {fuel : Nat} {listed : Array Bool} {a : Act} {w : World} (hi : ops[i]? = some oi) (hd : oi.dst = d)
    (hs : Region.noSelect ops = true) (hf : Region.free md ops listed i = true) (hr : (Region.ready md ops listed).contains i = true)
    (hQ : ∀ c a w, Q (.panic c) (a.put oi.dst v) w → Q (.panic c) a w) (hy : YieldsIf P ops S oi v a) (hS : S w)
    (h : wpAnyH P md ops Q S fuel (listed.setIfInBounds i true) (a.put d v) w) : wpAnyH P md ops Q S (fuel + 1) listed a w :=
  wpAnyH_take hi hs hf hr hQ hy hS (by rw [hd]; exact h)

/-- The same, in few words: the operation's guard says yes, or no. -/
theorem take_yes {P : Program} {md : Region.Mode} {ops : Array Oper} {Q : Exit → Act → World → Prop} {S : World → Prop} {i : Nat} {oi : Oper} {d : Option Nat} {v : Value} {fuel : Nat} {listed : Array Bool} {a : Act} {w : World} (hi : ops[i]? = some oi) (hd : oi.dst = d) (hS : S w)
    (hy : ∀ w, S w → (execOp a.eval oi).run P w = .ok (.value v) w) (h : wpAnyH P md ops Q S fuel (listed.setIfInBounds i true) (a.put d v) w) (hs : Region.noSelect ops = true := by kernel_rfl) (hf : Region.free md ops listed i = true := by kernel_rfl) (hr : (Region.ready md ops listed).contains i = true := by kernel_rfl)
    (hQ : ∀ c a w, Q (.panic c) (a.put oi.dst v) w → Q (.panic c) a w := by exact fun _ _ _ h => h) (hw : Region.wanted oi (yielded ops a.tmps) = true := by rfl) : wpAnyH P md ops Q S (fuel + 1) listed a w :=
  take_at hi hd hs hf hr hQ (Or.inl ⟨hw, hy⟩) hS h

theorem aput (a : Act) (d : Tmp) (v : Value) : a.put (some d) v = { a with tmps := a.tmps.setIfInBounds d v } := rfl

theorem aset {α : Type} (l : List α) (i : Nat) (x : α) : l.toArray.setIfInBounds i x = (l.set i x).toArray := List.setIfInBounds_toArray ..

theorem aze {α : Type} (l : List α) (x y : α) : (x :: l).set 0 y = y :: l := rfl

theorem asu {α : Type} (l : List α) (i : Nat) (x y : α) : (x :: l).set (i + 1) y = x :: l.set i y := rfl

/-- A step in fewest words: the operation i, into the slot d. -/
theorem tkY {P : Program} {md : Region.Mode} {ops : Array Oper} {Q : Exit → Act → World → Prop} {S : World → Prop} (i d : Nat) {oi : Oper} {v : Value} {fuel : Nat} {listed l' : Array Bool} {a a' : Act} {w : World} (hS : S w) (h : wpAnyH P md ops Q S fuel l' a' w)
    (hi : ops[i]? = some oi := by rfl) (hy : ∀ w, S w → (execOp a.eval oi).run P w = .ok (.value v) w := by intro w hSw; go_simp; try with_reducible rfl) (e1 : a.put (some d) v = a' := by simp only [aput, aset, aze, asu]; rfl) (e2 : listed.setIfInBounds i true = l' := by (try simp only [aset, aze, asu]); rfl) (hd : oi.dst = some d := by rfl)
    (hs : Region.noSelect ops = true := by kernel_rfl) (hf : Region.free md ops listed i = true := by kernel_rfl) (hr : (Region.ready md ops listed).contains i = true := by kernel_rfl)
    (hQ : ∀ c a w, Q (.panic c) (a.put oi.dst v) w → Q (.panic c) a w := by exact fun _ _ _ h => h) (hw : Region.wanted oi (yielded ops a.tmps) = true := by rfl) : wpAnyH P md ops Q S (fuel + 1) listed a w :=
  take_yes (d := some d) hi hd hS hy (by rw [e1, e2]; exact h) hs hf hr hQ hw

theorem tkC {P : Program} {md : Region.Mode} {ops : Array Oper} {Q : Exit → Act → World → Prop} {S : World → Prop} (i : Nat) {o : Oper} {fuel : Nat} {listed : Array Bool} {a : Act} {w : World}
    (h : ∀ K' : Act → World → Prop, Shut (∀ a w, S w → (S w → wpAnyH P md ops Q S fuel (listed.setIfInBounds i true) a w) → K' a w) → if Region.wanted o (yielded ops a.tmps) = true then Oper.wp P o a w K' Q else K' (a.put o.dst undef) w)
    (ho : ops[i]? = some o := by rfl) (hr : Region.ready md ops listed = [i] := by kernel_rfl) : wpAnyH P md ops Q S (fuel + 1) listed a w :=
  wpAnyH_ready hr (by simp) (AllReadyH.cons ho h AllReadyH.nil)

theorem SrcF.later {w0 w w' : World} {a : Addr} {m : List FactD} (h : SrcF w0 w a m) (k : Later w w') : SrcF w0 w' a m := by
  obtain ⟨ys, y1, y2, y3, y4⟩ := h
  exact ⟨ys, y1, fun j u hu => by
    have hc := y2 j u hu
    rw [k.cell (World.block_lt_of_cell? w _ hc)]; exact hc, y3, y4⟩

theorem SrcF.grown {w0 w w' : World} {g off : Nat} {m : List FactD} {row : Option Nat} (h : SrcF w0 w ⟨g, off, none⟩ m) (k : w.grownBy w' row) (hne : some g ≠ row) : SrcF w0 w' ⟨g, off, none⟩ m := by
  obtain ⟨ys, y1, y2, y3, y4⟩ := h
  exact ⟨ys, y1, fun j u hu => by
    have hc := y2 j u hu
    rw [Addr.add_lit] at hc ⊢
    exact k.cell hc hne, y3, y4⟩

end Go.Proofs.Ythngiikhgplldaa

/- The walks of check's fit and wrongRule. -/
namespace Go.Proofs.Ythngiikhgplldaa
open Go.RowKit Go.Sort Go.Maps

abbrev NumsM (w : World) (b n : Nat) (m : Nums) : Prop := NumM Try.prog 9 3 w b n m

theorem Kind.sl_tnb {α : Type} {K : Kind α} {b : Nat} {w w' : World} {v : Value} {l : List α} (h : K.sl (fun k => k ≠ b) w v l) (k : Tn b w w') : K.sl (fun k => k ≠ b) w' v l := Kind.sl_kept h k.size fun i hi hB => k.block i hi hB
theorem Kind.sl_ne {α : Type} {K : Kind α} {b : Nat} {w : World} {v : Value} {l : List α} (h : K.sl Anyw w v l) (hb : w.heap.size ≤ b) : K.sl (fun k => k ≠ b) w v l := Kind.sl_mono h fun k hk _ => by omega

theorem wf_len {n : Nat} (h : n ≤ 9223372036854775807) : (Lit.int .i64 (n : Int)).wf = true := WalkArith.wf_i64 (by omega)

set_option maxRecDepth 100000 in
set_option maxHeartbeats 1000000 in
theorem fitC (b n : Nat) (m : Nums) (a : AtomD) (v : Value) (w : World) (h : NumsM w b n m) (hv : termK.sl Anyw w v a.terms) (hs : a.name.length ≤ maxLen) (hn : n < maxLen) :
    Calls Try.prog 24 #[.map (some b), .agg #[.bool a.no, .string (bs a.name), v]] w fun e w' => e = .returned (.bool (fitOne m a).1) ∧ NumsM w' b (n + 1) (fitOne m a).2 ∧ Tn b w w' := by
  obtain ⟨sa, cap, rfl⟩ := Kind.slice hv
  have hl0 := hv.1.1
  clear hv
  have h1 := h.later ((Later.refl w).alloc (.cells #[.bool a.no, .string (bs a.name), .slice sa a.terms.length cap] 30))
  have hr := NumM.lookOk (T := 42) h1 Try.underlying9 Try.underlying3 Try.underlying42 (zeroInt _) hs
  have hblt := h.lt
  cases hm : m a.name with
  | none =>
    obtain ⟨w1, hst, hm1, hg⟩ := NumM.store (T := 42) h1 Try.underlying9 Try.underlying3 Try.underlying42 hn hs (x := a.terms.length) (wf_len (by omega))
    have e0 : numOf m a.name = 0 := by unfold numOf; rw [hm]; rfl
    rw [hm, e0] at hr
    have F : Hid (fitOne m a = (true, m.put a.name a.terms.length)) := by show _ = _; unfold fitOne; rw [hm]
    have HM : Hid (NumsM w1 b (n + 1) (m.put a.name a.terms.length)) := hm1
    have HT : Hid (Tn b w w1) := (Tn.of_below (p := b) ((Later.refl w).alloc _).below).trans (Tn.of_grown hg)
    have hst' := hide hst
    clear h h1 hm1 hg hst hm e0
    generalize bs a.name = nm at *
    generalize a.no = no at *
    go_enter Try.func24, Try.ntmps24
    go_wp2_with (first
      | (at_mapUpdate; refine wpList_run_update _ rfl _ _ _ _ rfl _ _ _ _ rfl rfl rfl (unhide hst') ?_)
      | go_in)
    go_ret
    exact ⟨by rw [F.out]; rfl, by rw [F.out]; exact HM.out, HT.out⟩
  | some k =>
    have e0 : numOf m a.name = k := by unfold numOf; rw [hm]; rfl
    rw [hm, e0] at hr
    have F : Hid (fitOne m a = (decide (k = a.terms.length), m)) := by show _ = _; unfold fitOne; rw [hm]
    have HM : Hid (NumsM (w.alloc (.cells #[.bool a.no, .string (bs a.name), .slice sa a.terms.length cap] 30)) b (n + 1) m) := h1.mono (by omega)
    clear h h1 hm e0
    generalize bs a.name = nm at *
    generalize a.no = no at *
    go_enter Try.func24, Try.ntmps24
    go_wp2
    go_ret
    refine ⟨?_, by rw [F.out]; exact HM.out, Tn.of_below ((Later.refl w).alloc _).below⟩
    rw [F.out]
    refine ret_bool ?_
    rw [Bool.eq_iff_iff]
    simp
    omega

/-- A rule in a box, beside a map that may have turned. -/
structure RuleBox (b : Nat) (w : World) (c0 c1 c2 c3 : Value) (w' : World) : Prop where
  tn : Tn b w w'
  lt : w.heap.size < w'.heap.size
  z0 : w'.cell? ⟨w.heap.size, 0, none⟩ = some c0
  z1 : w'.cell? ⟨w.heap.size, 1, none⟩ = some c1
  z2 : w'.cell? ⟨w.heap.size, 2, none⟩ = some c2
  z3 : w'.cell? ⟨w.heap.size, 3, none⟩ = some c3

section
variable {b : Nat} {w w1 w2 : World} {c0 c1 c2 c3 : Value}
theorem RuleBox.made (b : Nat) (w : World) (c0 c1 c2 c3 : Value) : RuleBox b w c0 c1 c2 c3 (w.alloc (.cells #[c0, c1, c2, c3] 33)) :=
  ⟨Tn.of_below ((Later.refl w).alloc _).below, by simp, by simp, by simp, by simp, by simp⟩
theorem RuleBox.turned (h : RuleBox b w c0 c1 c2 c3 w1) (k : Tn b w1 w2) (hb : b < w.heap.size) : RuleBox b w c0 c1 c2 c3 w2 := by
  have e : ∀ i, w2.cell? ⟨w.heap.size, i, none⟩ = w1.cell? ⟨w.heap.size, i, none⟩ := fun i => k.cell (x := ⟨w.heap.size, i, none⟩) h.lt (by show w.heap.size ≠ b; omega)
  exact ⟨h.tn.trans k, Nat.lt_of_lt_of_le h.lt k.size, by rw [e]; exact h.z0, by rw [e]; exact h.z1, by rw [e]; exact h.z2, by rw [e]; exact h.z3⟩
theorem RuleBox.below (h : RuleBox b w c0 c1 c2 c3 w1) (k : Below w1.heap.size w1 w2) (hb : b < w.heap.size) : RuleBox b w c0 c1 c2 c3 w2 := h.turned (Tn.of_below k) hb
end

theorem fitAll_step {l : List AtomD} {j : Nat} {a : AtomD} (h : l[j]? = some a) (m : Nums) : fitAll m (l.drop j) = if (fitOne m a).1 then fitAll (fitOne m a).2 (l.drop (j + 1)) else (false, (fitOne m a).2) := by
  obtain ⟨h1, e1⟩ := List.getElem?_eq_some_iff.1 h
  rw [List.drop_eq_getElem_cons h1, e1]; rfl

theorem wrongAtoms_zero {l : List AtomD} (h : wrongAtoms l = 0) : ∀ a ∈ l, wrongAtom a = 0 := by
  induction l with
  | nil => intro a ha; cases ha
  | cons b l ih =>
    unfold wrongAtoms at h
    split at h
    · rename_i h0
      intro a ha
      rcases List.mem_cons.1 ha with rfl | ha
      · exact h0
      · exact ih h a ha
    · rename_i h0; exact absurd h h0
theorem wrongBody_zero {l : List AtomD} (h : wrongBody l = 0) : l.length ≤ 5 ∧ ∀ a ∈ l, wrongAtom a = 0 := by
  unfold wrongBody at h
  split at h
  · cases h
  · split at h
    · rename_i h5 h0; exact ⟨by omega, wrongAtoms_zero h0⟩
    · rename_i h5 h0; exact absurd h h0

set_option maxRecDepth 100000 in
set_option maxHeartbeats 4000000 in
theorem wrongRuleC (b n : Nat) (m : Nums) (r : RuleD) (v u : Value) (w : World) (h : NumsM w b n m) (hv0 : termK.sl (fun k => k ≠ b) w v r.head.terms) (hu0 : atomK.sl (fun k => k ≠ b) w u r.body) (hn : n ≤ 1000000) :
    Calls Try.prog 12 #[.agg #[.bool r.head.no, .string (bs r.head.name), v, u], .map (some b)] w fun e w' => e = .returned (.int .i64 (wrongRule m r).1) ∧ NumsM w' b (n + 6) (wrongRule m r).2 ∧ Tn b w w' := by
  have hbw := h.lt
  obtain ⟨va, vc, rfl⟩ := Kind.slice hv0
  obtain ⟨ua, uc, rfl⟩ := Kind.slice hu0
  have hl0 := hv0.1.1
  have hl1 := hu0.1.1
  have HV := hide hv0
  have HU := hide hu0
  clear hv0 hu0
  have HM0 : Hid (∀ w', Below w.heap.size w w' → NumsM w' b n m) := fun w' k => h.below k
  have HA : Hid (∀ w', RuleBox b w (.bool r.head.no) (.string (bs r.head.name)) (.slice va r.head.terms.length vc) (.slice ua r.body.length uc) w' → NumsM w' b n m → Calls Try.prog 18 #[.agg #[.bool r.head.no, .string (bs r.head.name), .slice va r.head.terms.length vc]] w'
      fun e w'' => e = .returned (.int .i64 (wrongAtom r.head)) ∧ RuleBox b w (.bool r.head.no) (.string (bs r.head.name)) (.slice va r.head.terms.length vc) (.slice ua r.body.length uc) w'' ∧ NumsM w'' b n m) := fun w' hR hM =>
    (wrongAtomC r.head _ w' (Kind.sl_any (Kind.sl_tnb HV.out hR.tn))).mono fun e w'' ⟨he, hL⟩ => ⟨he, hR.below hL.below hbw, hM.later hL⟩
  have HBd : Hid (∀ w', RuleBox b w (.bool r.head.no) (.string (bs r.head.name)) (.slice va r.head.terms.length vc) (.slice ua r.body.length uc) w' → NumsM w' b n m → Calls Try.prog 8 #[.slice ua r.body.length uc] w'
      fun e w'' => e = .returned (.int .i64 (wrongBody r.body)) ∧ RuleBox b w (.bool r.head.no) (.string (bs r.head.name)) (.slice va r.head.terms.length vc) (.slice ua r.body.length uc) w'' ∧ NumsM w'' b n m) := fun w' hR hM =>
    (chkBodyC r.body _ w' (Kind.sl_any (Kind.sl_tnb HU.out hR.tn))).mono fun e w'' ⟨he, hL⟩ => ⟨he, hR.below hL hbw, hM.below hL⟩
  have HR0 := hide (RuleBox.made b w (.bool r.head.no) (.string (bs r.head.name)) (.slice va r.head.terms.length vc) (.slice ua r.body.length uc))
  have HMA := hide (h.later ((Later.refl w).alloc (.cells #[.bool r.head.no, .string (bs r.head.name), .slice va r.head.terms.length vc, .slice ua r.body.length uc] 33)))
  by_cases h1 : wrongAtom r.head = 0
  · cases hno : r.head.no
    · by_cases h2 : wrongBody r.body = 0
      · obtain ⟨hl5, hfb⟩ := wrongBody_zero h2
        obtain ⟨fn, ft, fs⟩ := wrongAtom_zero h1
        have F : Hid (wrongRule m r = if (vars r.head).all (givenBy r.body) then (if (fitOne m r.head).1 then (if (fitAll (fitOne m r.head).2 r.body).1 then 0 else 8, (fitAll (fitOne m r.head).2 r.body).2) else (8, (fitOne m r.head).2)) else (9, m)) := by
          show _ = _
          unfold wrongRule
          rw [if_pos h1, hno, if_neg (by simp), if_pos h2]
        rw [hno] at HA HBd HR0 HMA
        rw [h1] at HA
        rw [h2] at HBd
        have HGB : Hid (∀ w', RuleBox b w (.bool false) (.string (bs r.head.name)) (.slice va r.head.terms.length vc) (.slice ua r.body.length uc) w' → NumsM w' b n m → Calls Try.prog 19 #[.slice ua r.body.length uc] w' fun e w'' => e = .returned (.map (some w'.heap.size)) ∧ NamesM w'' w'.heap.size 20 (givenBy r.body) ∧ RuleBox b w (.bool false) (.string (bs r.head.name)) (.slice va r.head.terms.length vc) (.slice ua r.body.length uc) w'' ∧ NumsM w'' b n m) := fun w' hR hM =>
          (givenByC r.body _ w' (Kind.sl_any (Kind.sl_tnb HU.out hR.tn)) hfb hl5).mono fun e w'' ⟨he, hN, hL⟩ => ⟨he, hN, hR.below hL hbw, hM.below hL⟩
        have HVr : Hid (∀ w' bk, NamesM w' bk 20 (givenBy r.body) → RuleBox b w (.bool false) (.string (bs r.head.name)) (.slice va r.head.terms.length vc) (.slice ua r.body.length uc) w' → NumsM w' b n m → Calls Try.prog 6 #[.agg #[.bool false, .string (bs r.head.name), .slice va r.head.terms.length vc]] w' fun e w'' => ∃ x, e = .returned x ∧ strK.sl Anyw w'' x (vars r.head) ∧ NamesM w'' bk 20 (givenBy r.body) ∧ RuleBox b w (.bool false) (.string (bs r.head.name)) (.slice va r.head.terms.length vc) (.slice ua r.body.length uc) w'' ∧ NumsM w'' b n m) := fun w' bk hN hR hM => by
          have := varsC r.head _ w' (Kind.sl_any (Kind.sl_tnb HV.out hR.tn)) (by omega) (fun t ht => short_max (fs t ht))
          rw [hno] at this
          exact this.mono fun e w'' ⟨x, he, ho, hL⟩ => ⟨x, he, Kind.sl_any (Kind.own_sl ho (by have := vars_le r.head; omega)), hN.below hL, hR.below hL hbw, hM.below hL⟩
        have HAl : Hid (∀ w' bk x, strK.sl Anyw w' x (vars r.head) → NamesM w' bk 20 (givenBy r.body) → RuleBox b w (.bool false) (.string (bs r.head.name)) (.slice va r.head.terms.length vc) (.slice ua r.body.length uc) w' → NumsM w' b n m → Calls Try.prog 20 #[.map (some bk), x] w' fun e w'' => e = .returned (.bool ((vars r.head).all (givenBy r.body))) ∧ RuleBox b w (.bool false) (.string (bs r.head.name)) (.slice va r.head.terms.length vc) (.slice ua r.body.length uc) w'' ∧ NumsM w'' b n m) := fun w' bk x hS hN hR hM =>
          (hasAllC _ _ _ x (vars r.head) w' hN hS (fun s hs => by obtain ⟨t, ht, rfl⟩ := vars_mem r.head s hs; exact short_max (fs t ht))).mono fun e w'' ⟨he, hL⟩ => ⟨he, hR.below hL.below hbw, hM.later hL⟩
        have HFt : Hid (∀ w', RuleBox b w (.bool false) (.string (bs r.head.name)) (.slice va r.head.terms.length vc) (.slice ua r.body.length uc) w' → NumsM w' b n m → Calls Try.prog 24 #[.map (some b), .agg #[.bool false, .string (bs r.head.name), .slice va r.head.terms.length vc]] w' fun e w'' => e = .returned (.bool (fitOne m r.head).1) ∧ RuleBox b w (.bool false) (.string (bs r.head.name)) (.slice va r.head.terms.length vc) (.slice ua r.body.length uc) w'' ∧ NumsM w'' b (n + 1) (fitOne m r.head).2) := fun w' hR hM => by
          have := fitC b n m r.head _ w' hM (Kind.sl_any (Kind.sl_tnb HV.out hR.tn)) (short_max fn) (by simp [maxLen]; omega)
          rw [hno] at this
          exact this.mono fun e w'' ⟨he, hN, hT⟩ => ⟨he, hR.turned hT hbw, hN⟩
        clear h1 h2 hno h HM0
        generalize hgv : givenBy r.body = gv at *
        clear hgv
        generalize hall : (vars r.head).all gv = al at *
        clear hall
        generalize bs r.head.name = nm at *
        cases al
        · have F1 : Hid (wrongRule m r = (9, m)) := F.out
          clear HV HU HFt F
          go_enter Try.func12, Try.ntmps12
          go_wp2_with (first
            | (go_at_call 18; refine (HA.out _ HR0.out HMA.out).mono ?_; rintro e w1 ⟨rfl, hR1, hM1⟩; have z0 := hR1.z0; have z3 := hR1.z3; have zl := hR1.lt; replace hR1 := hide hR1; replace hM1 := hide hM1)
            | (go_at_call 8; refine (HBd.out w1 (unhide hR1) (unhide hM1)).mono ?_; rintro e w2 ⟨rfl, hR2, hM2⟩; replace hR2 := hide hR2; replace hM2 := hide hM2))
          refine wp_region_held_drew (S := fun w' => RuleBox b w (.bool false) (.string nm) (.slice va r.head.terms.length vc) (.slice ua r.body.length uc) w' ∧ NumsM w' b n m) (by kernel_rfl) ⟨(unhide hR2).turned (Tn.refl _ _).drew hbw, (unhide hM2).block rfl⟩ (fun hHeld => ?_)
          refine tkY 0 24 hHeld ?_ rfl fun w hSw => by obtain ⟨hRB, _⟩ := hSw; have z0 := hRB.z0; have z1 := hRB.z1; have z2 := hRB.z2; have z3 := hRB.z3; have zl := hRB.lt; clear hRB; go_simp; try with_reducible rfl
          refine tkY 1 25 hHeld ?_ rfl fun w hSw => by obtain ⟨hRB, _⟩ := hSw; have z0 := hRB.z0; have z1 := hRB.z1; have z2 := hRB.z2; have z3 := hRB.z3; have zl := hRB.lt; clear hRB; go_simp; try with_reducible rfl
          refine tkY 3 27 hHeld ?_ rfl fun w hSw => by obtain ⟨hRB, _⟩ := hSw; have z0 := hRB.z0; have z1 := hRB.z1; have z2 := hRB.z2; have z3 := hRB.z3; have zl := hRB.lt; clear hRB; go_simp; try with_reducible rfl
          refine tkY 4 28 hHeld ?_ rfl fun w hSw => by obtain ⟨hRB, _⟩ := hSw; have z0 := hRB.z0; have z1 := hRB.z1; have z2 := hRB.z2; have z3 := hRB.z3; have zl := hRB.lt; clear hRB; go_simp; try with_reducible rfl
          refine tkC 2 fun K hK => ?_
          go_simp
          refine (HGB.out _ hHeld.1 hHeld.2).mono ?_
          rintro e w3 ⟨rfl, hN3, hR3, hM3⟩
          dsimp only
          refine hK.out _ _ ⟨hR3, hM3⟩ (fun hHeld => ?_)
          clear hK K
          refine tkC 5 fun K hK => ?_
          go_simp
          refine (HVr.out _ _ hN3 hHeld.1 hHeld.2).mono ?_
          rintro e w4 ⟨x4, rfl, hS4, hN4, hR4, hM4⟩
          dsimp only
          refine hK.out _ _ ⟨hR4, hM4⟩ (fun hHeld => ?_)
          clear hK K
          refine tkC 6 fun K hK => ?_
          go_simp
          refine (HAl.out _ _ _ hS4 hN4 hHeld.1 hHeld.2).mono ?_
          rintro e w5 ⟨rfl, hR5, hM5⟩
          dsimp only
          refine hK.out _ _ ⟨hR5, hM5⟩ (fun hHeld => ?_)
          clear hK K
          refine tkY 7 31 hHeld ?_
          refine wpAnyH_done (by kernel_rfl) ?_ _
          go_wp2
          go_ret
          exact ⟨by rw [F1.out]; rfl, by rw [F1.out]; exact hHeld.2.mono (by omega), hHeld.1.tn⟩
        · have F1 : Hid (wrongRule m r = if (fitOne m r.head).1 then (if (fitAll (fitOne m r.head).2 r.body).1 then 0 else 8, (fitAll (fitOne m r.head).2 r.body).2) else (8, (fitOne m r.head).2)) := F.out
          clear F
          generalize fitOne m r.head = fo at *
          obtain ⟨f1, m1⟩ := fo
          dsimp only at *
          have HU1 : Hid (∀ w', Tn b w w' → atomK.sl (fun k => k ≠ b) w' (.slice ua r.body.length uc) r.body) := fun w' k => Kind.sl_tnb HU.out k
          have hnames : ∀ a ∈ r.body, a.name.length ≤ maxLen := fun a ha => short_max (wrongAtom_zero (hfb a ha)).1
          have HN := hide hnames
          clear HV HU hnames
          go_enter Try.func12, Try.ntmps12
          go_wp2_with (first
            | (go_at_call 18; refine (HA.out _ HR0.out HMA.out).mono ?_; rintro e w1 ⟨rfl, hR1, hM1⟩; have z0 := hR1.z0; have z3 := hR1.z3; have zl := hR1.lt; replace hR1 := hide hR1; replace hM1 := hide hM1)
            | (go_at_call 8; refine (HBd.out w1 (unhide hR1) (unhide hM1)).mono ?_; rintro e w2 ⟨rfl, hR2, hM2⟩; replace hR2 := hide hR2; replace hM2 := hide hM2))
          refine wp_region_held_drew (S := fun w' => RuleBox b w (.bool false) (.string nm) (.slice va r.head.terms.length vc) (.slice ua r.body.length uc) w' ∧ NumsM w' b n m) (by kernel_rfl) ⟨(unhide hR2).turned (Tn.refl _ _).drew hbw, (unhide hM2).block rfl⟩ (fun hHeld => ?_)
          refine tkY 0 24 hHeld ?_ rfl fun w hSw => by obtain ⟨hRB, _⟩ := hSw; have z0 := hRB.z0; have z1 := hRB.z1; have z2 := hRB.z2; have z3 := hRB.z3; have zl := hRB.lt; clear hRB; go_simp; try with_reducible rfl
          refine tkY 1 25 hHeld ?_ rfl fun w hSw => by obtain ⟨hRB, _⟩ := hSw; have z0 := hRB.z0; have z1 := hRB.z1; have z2 := hRB.z2; have z3 := hRB.z3; have zl := hRB.lt; clear hRB; go_simp; try with_reducible rfl
          refine tkY 3 27 hHeld ?_ rfl fun w hSw => by obtain ⟨hRB, _⟩ := hSw; have z0 := hRB.z0; have z1 := hRB.z1; have z2 := hRB.z2; have z3 := hRB.z3; have zl := hRB.lt; clear hRB; go_simp; try with_reducible rfl
          refine tkY 4 28 hHeld ?_ rfl fun w hSw => by obtain ⟨hRB, _⟩ := hSw; have z0 := hRB.z0; have z1 := hRB.z1; have z2 := hRB.z2; have z3 := hRB.z3; have zl := hRB.lt; clear hRB; go_simp; try with_reducible rfl
          refine tkC 2 fun K hK => ?_
          go_simp
          refine (HGB.out _ hHeld.1 hHeld.2).mono ?_
          rintro e w3 ⟨rfl, hN3, hR3, hM3⟩
          dsimp only
          refine hK.out _ _ ⟨hR3, hM3⟩ (fun hHeld => ?_)
          clear hK K
          refine tkC 5 fun K hK => ?_
          go_simp
          refine (HVr.out _ _ hN3 hHeld.1 hHeld.2).mono ?_
          rintro e w4 ⟨x4, rfl, hS4, hN4, hR4, hM4⟩
          dsimp only
          refine hK.out _ _ ⟨hR4, hM4⟩ (fun hHeld => ?_)
          clear hK K
          refine tkC 6 fun K hK => ?_
          go_simp
          refine (HAl.out _ _ _ hS4 hN4 hHeld.1 hHeld.2).mono ?_
          rintro e w5 ⟨rfl, hR5, hM5⟩
          dsimp only
          refine hK.out _ _ ⟨hR5, hM5⟩ (fun hHeld => ?_)
          clear hK K
          refine tkY 7 31 hHeld ?_
          refine wpAnyH_done (by kernel_rfl) ?_ _
          have HC := hide (HFt.out _ hHeld.1 hHeld.2)
          have y0 := hHeld.1.z0
          have y1 := hHeld.1.z1
          have y2 := hHeld.1.z2
          have yl := hHeld.1.lt
          clear z0 z3 zl hR1 hM1 hR2 hM2 hN3 hR3 hM3 hS4 hN4 hR4 hM4 hR5 hM5 hHeld HA HBd HGB HVr HAl HR0 HMA HFt
          cases f1
          · have F2 : Hid (wrongRule m r = (8, m1)) := F1.out
            go_wp2_with (go_at_call 24; refine HC.out.mono ?_; rintro e w6 ⟨rfl, hR6, hM6⟩; replace hR6 := hide hR6; replace hM6 := hide hM6)
            go_ret
            exact ⟨by rw [F2.out]; rfl, by rw [F2.out]; exact (unhide hM6).mono (by omega), (unhide hR6).tn⟩
          · have F2 : Hid (wrongRule m r = (if (fitAll m1 r.body).1 then 0 else 8, (fitAll m1 r.body).2)) := F1.out
            clear F1
            go_wp2_with (go_at_call 24; refine HC.out.mono ?_; rintro e w6 ⟨rfl, hR6, hM6⟩; have x3 := hR6.z3; have xl := hR6.lt; have HT6 := hide hR6.tn; clear hR6; replace hM6 := hide hM6)
            go_loopg [40] r.body.length (fun k i wr => ∃ j : Nat, j + k = r.body.length ∧ i = .int .i64 j ∧ ∃ mj, Hid (fitAll m1 r.body = fitAll mj (r.body.drop j)) ∧ Hid (NumsM wr b (n + 1 + j) mj) ∧ Hid (Tn b w wr))
            case atStart => exact ⟨0, by omega, rfl, m1, (rfl : _ = _), hM6, HT6⟩
            case round =>
              obtain ⟨j, hj, rfl, mj, HE, HMj, HTj⟩ := hrel
              have hwr := HTj.out.size
              by_cases hlt : j < r.body.length
              · obtain ⟨x, hx⟩ : ∃ x, r.body[j]? = some x := ⟨_, List.getElem?_eq_getElem hlt⟩
                obtain ⟨b1, o1, _, rfl, hb1, hbne, ⟨sv, rfl, hsv⟩, hc⟩ := Kind.sl_atB (HU1.out wr HTj.out) hx
                have d0 : wr.cell? ⟨b1, o1 + j * 3, none⟩ = some (.bool x.no) := hc 0 _ rfl
                have d1 : wr.cell? ⟨b1, o1 + j * 3 + 1, none⟩ = some (.string (bs x.name)) := hc 1 _ rfl
                have d2 : wr.cell? ⟨b1, o1 + j * 3 + 2, none⟩ = some sv := hc 2 _ rfl
                have hst := fitAll_step hx mj
                have HCj : Hid (Calls Try.prog 24 #[.map (some b), .agg #[.bool x.no, .string (bs x.name), sv]] (wr.alloc (.cells #[.bool x.no, .string (bs x.name), sv] 30)) fun e w2 => e = .returned (.bool (fitOne mj x).1) ∧ Hid (NumsM w2 b (n + 1 + (j + 1)) (fitOne mj x).2) ∧ Hid (Tn b w w2)) :=
                  (fitC b (n + 1 + j) mj x sv _ (HMj.out.later ((Later.refl _).alloc _)) (Kind.sl_any (Kind.sl_below (Kind.sl_any hsv) ((Later.refl _).alloc _).below)) (HN.out x (List.mem_of_getElem? hx)) (by simp [maxLen]; omega)).mono fun e w2 ⟨he, h1, h2⟩ => ⟨he, h1, (HTj.out.alloc _).trans h2⟩
                obtain ⟨a2, c2, rfl⟩ := Kind.slice hsv
                clear hc hx hsv HMj HTj
                generalize bs x.name = nx at *
                generalize x.no = xn at *
                generalize fitOne mj x = fx at *
                obtain ⟨g1, m2⟩ := fx
                dsimp only at *
                cases g1
                · have E2 : Hid (fitAll m1 r.body = (false, m2)) := by show _ = _; rw [HE.out, hst]; rfl
                  clear hst HE
                  go_wp2_with (go_at_call 24; refine HCj.out.mono ?_; rintro e w7 ⟨rfl, hM7, hT7⟩)
                  go_ret
                  exact ⟨by rw [F2.out, E2.out]; rfl, by rw [F2.out, E2.out]; exact hM7.out.mono (by omega), hT7.out⟩
                · have E2 : Hid (fitAll m1 r.body = fitAll m2 (r.body.drop (j + 1))) := by show _ = _; rw [HE.out, hst]; rfl
                  clear hst HE
                  go_wp2_with (go_at_call 24; refine HCj.out.mono ?_; rintro e w7 ⟨rfl, hM7, hT7⟩)
                  go_roundg (r.body.length - (j + 1))
                  case measure => omega
                  case rel => exact ⟨j + 1, by omega, by go_num, m2, E2, hM7, hT7⟩
              · have E2 : Hid (fitAll m1 r.body = (true, mj)) := by show _ = _; rw [HE.out, List.drop_eq_nil_of_le (by omega)]; rfl
                go_wp2
                go_ret
                exact ⟨by rw [F2.out, E2.out]; rfl, by rw [F2.out, E2.out]; exact HMj.out.mono (by omega), HTj.out⟩
      · have F : Hid (wrongRule m r = (wrongBody r.body, m)) := by show _ = _; unfold wrongRule; rw [if_pos h1, hno, if_neg (by simp), if_neg h2]
        have hq : (wrongBody r.body != 0) = true := by simpa using h2
        rw [hno] at HA HBd HR0 HMA
        rw [h1] at HA
        clear h1 h2 hno h HM0 HV HU
        generalize bs r.head.name = nm at *
        generalize wrongBody r.body = ex at *
        go_enter Try.func12, Try.ntmps12
        go_wp2_with (first
          | (go_at_call 18; refine (HA.out _ HR0.out HMA.out).mono ?_; rintro e w1 ⟨rfl, hR1, hM1⟩; have z0 := hR1.z0; have z3 := hR1.z3; have zl := hR1.lt; replace hR1 := hide hR1; replace hM1 := hide hM1)
          | (go_at_call 8; refine (HBd.out w1 (unhide hR1) (unhide hM1)).mono ?_; rintro e w2 ⟨rfl, hR2, hM2⟩; replace hR2 := hide hR2; replace hM2 := hide hM2))
        go_ret
        exact ⟨by rw [F.out]; rfl, by rw [F.out]; exact (unhide hM2).mono (by omega), (unhide hR2).tn⟩
    · have F : Hid (wrongRule m r = (2, m)) := by show _ = _; unfold wrongRule; rw [if_pos h1, hno, if_pos rfl]
      rw [hno] at HA HR0 HMA
      rw [h1] at HA
      clear h1 hno h HM0 HV HU HBd
      generalize bs r.head.name = nm at *
      go_enter Try.func12, Try.ntmps12
      go_wp2_with (go_at_call 18; refine (HA.out _ HR0.out HMA.out).mono ?_; rintro e w1 ⟨rfl, hR1, hM1⟩; have z0 := hR1.z0; have zl := hR1.lt; replace hR1 := hide hR1; replace hM1 := hide hM1)
      go_ret
      exact ⟨by rw [F.out]; rfl, by rw [F.out]; exact (unhide hM1).mono (by omega), (unhide hR1).tn⟩
  · have F : Hid (wrongRule m r = (wrongAtom r.head, m)) := by show _ = _; unfold wrongRule; rw [if_neg h1]
    have hq : (wrongAtom r.head != 0) = true := by simpa using h1
    clear h1 h HM0 HV HU HBd
    generalize wrongAtom r.head = ex at *
    generalize bs r.head.name = nm at *
    generalize r.head.no = no at *
    go_enter Try.func12, Try.ntmps12
    go_wp2_with (go_at_call 18; refine (HA.out _ HR0.out HMA.out).mono ?_; rintro e w1 ⟨rfl, hR1, hM1⟩; replace hR1 := hide hR1; replace hM1 := hide hM1)
    go_ret
    exact ⟨by rw [F.out]; rfl, by rw [F.out]; exact (unhide hM1).mono (by omega), (unhide hR1).tn⟩

end Go.Proofs.Ythngiikhgplldaa

/- The walk of check.Wrong. -/
namespace Go.Proofs.Ythngiikhgplldaa
open Go.RowKit Go.Sort Go.Maps

theorem Kind.sl_neBelow {α : Type} {K : Kind α} {b : Nat} {w w' : World} {v : Value} {l : List α} (h : K.sl Anyw w v l) (k : Below w.heap.size w w') (hb : w.heap.size ≤ b) : K.sl (fun k => k ≠ b) w' v l :=
  Kind.sl_kept (Kind.sl_ne h hb) k.size fun i hi _ => k.block i hi

theorem wrongGo_step {p : List RuleD} {j : Nat} {r : RuleD} (h : p[j]? = some r) (m : Nums) (i : Nat) : wrongGo m i (p.drop j) = if (wrongRule m r).1 = 0 then wrongGo (wrongRule m r).2 (i + 1) (p.drop (j + 1)) else ((wrongRule m r).1, i) := by
  obtain ⟨h1, e1⟩ := List.getElem?_eq_some_iff.1 h
  rw [List.drop_eq_getElem_cons h1, e1]; rfl

theorem setCell_row {w : World} {g j : Nat} {cs : Array Value} {t : TypeId} {fr : Nat × Nat} (h : w.heap[g]? = some (.cells cs t fr)) (u : Value) : (w.setCell ⟨g, j, none⟩ u).heap[g]? = some (.cells (cs.setIfInBounds j u) t fr) := by
  simp [World.setCell, Array.getElem?_modify, h]

theorem frozen_rowC {w : World} {g : Nat} (j : Nat) {cs : Array Value} {t : TypeId} (h : w.heap[g]? = some (.cells cs t (0, 0))) : w.frozen? ⟨g, j, none⟩ = false := by
  simp [World.frozen?, h]

theorem fault_two {w : World} {R : Nat} {u0 u1 : Value} {t : TypeId} {fr : Nat × Nat} (h : w.heap[R]? = some (.cells #[u0, u1] t fr)) (x y : Value) :
    ((w.setCell ⟨R, 0, none⟩ x).setCell ⟨R, 1, none⟩ y).cell? ⟨R, 0, none⟩ = some x ∧ ((w.setCell ⟨R, 0, none⟩ x).setCell ⟨R, 1, none⟩ y).cell? ⟨R, 1, none⟩ = some y := by
  have h2 := setCell_row (j := 1) (setCell_row (j := 0) h x) y
  exact ⟨by rw [cell_of_row _ _ _ _ _ _ h2]; rfl, by rw [cell_of_row _ _ _ _ _ _ h2]; rfl⟩

theorem ret_fault2 {a b c d : Int} (h1 : a = c) (h2 : b = d) : Ending.returned (.agg #[.int .i64 a, .int .i64 b]) = Ending.returned (.agg #[.int .i64 c, .int .i64 d]) := by rw [h1, h2]

set_option maxRecDepth 100000 in
set_option maxHeartbeats 4000000 in
theorem wrongC (p : List RuleD) (v : Value) (w : World) (hv : ruleK.sl Anyw w v p) :
    Calls Try.prog 4 #[v] w fun e w' => e = .returned (.agg #[.int .i64 (wrongP p).1, .int .i64 ((wrongP p).2 : Nat)]) ∧ Below w.heap.size w w' := by
  obtain ⟨sa, cap, rfl⟩ := Kind.slice hv
  have hl0 := hv.1.1
  have HV := hide hv
  clear hv
  by_cases h16 : 16 < p.length
  · have F : Hid (wrongP p = (5, 0)) := by show _ = _; unfold wrongP; rw [if_pos h16]
    go_enter Try.func4, Try.ntmps4
    go_wp2
    exact bodyPost_ret (v := .agg #[.int .i64 5, .int .i64 0]) (by simp [results, Try.results4, go_sem]) rfl ⟨by rw [F.out]; rfl, ((by repeat (first | exact Later.refl _ | assumption | refine Later.drewN ?_ _ | refine Later.drew ?_ | refine Later.alloc ?_ _ | refine Later.grow ?_ _)) : Later w _).below⟩
  · have F : Hid (wrongP p = wrongGo (fun _ => none) 0 p) := by show _ = _; unfold wrongP; rw [if_neg h16]
    have hmm := @run_makeMap Try.prog
    go_enter Try.func4, Try.ntmps4
    go_wp2
    go_loopg [14] p.length (fun k i wr => ∃ j : Nat, j + k = p.length ∧ i = .int .i64 j ∧ ∃ m, Hid (wrongP p = wrongGo m j (p.drop j)) ∧ Hid (NumsM wr (w.heap.size + 1) (6 * j) m) ∧ Hid (Below w.heap.size w wr) ∧ Hid (wr.heap[w.heap.size]? = some (.cells #[.int .i64 0, .int .i64 0] 26 (0, 0))) ∧ w.heap.size + 2 ≤ wr.heap.size)
    case atStart =>
      refine ⟨0, by omega, rfl, fun _ => none, F.out, ?_, ?_, ?_, by simp⟩
      · have := NumM.made Try.prog 9 3 (w.alloc (.cells #[.int .i64 0, .int .i64 0] 26))
        rw [World.size_alloc] at this
        exact this
      · exact (((Later.refl w).alloc _).alloc _).below
      · show _ = _
        rw [Below.heap_alloc _ _ _ (by simp), heap_alloc_new]
    case round =>
      obtain ⟨j, hj, rfl, m, HE, HM, HB, HR, hsz⟩ := hrel
      by_cases hlt : j < p.length
      · obtain ⟨r, hr⟩ : ∃ x, p[j]? = some x := ⟨_, List.getElem?_eq_getElem hlt⟩
        obtain ⟨b1, o1, _, rfl, hb1, ⟨sv, su, rfl, hsv, hsu⟩, hc⟩ := Kind.sl_at HV.out hr
        have d0 : wr.cell? ⟨b1, o1 + j * 4, none⟩ = some (.bool r.head.no) := by rw [HB.out.cell hb1]; exact hc 0 _ rfl
        have d1 : wr.cell? ⟨b1, o1 + j * 4 + 1, none⟩ = some (.string (bs r.head.name)) := by rw [HB.out.cell hb1]; exact hc 1 _ rfl
        have d2 : wr.cell? ⟨b1, o1 + j * 4 + 2, none⟩ = some sv := by rw [HB.out.cell hb1]; exact hc 2 _ rfl
        have d3 : wr.cell? ⟨b1, o1 + j * 4 + 3, none⟩ = some su := by rw [HB.out.cell hb1]; exact hc 3 _ rfl
        have hbr : b1 < wr.heap.size := by omega
        have hst := wrongGo_step hr m j
        have hB1 : Below w.heap.size w (wr.alloc (.cells #[.bool r.head.no, .string (bs r.head.name), sv, su] 33)) := HB.out.alloc HB.out.size _
        have HC : Hid (Calls Try.prog 12 #[.agg #[.bool r.head.no, .string (bs r.head.name), sv, su], .map (some (w.heap.size + 1))] (wr.alloc (.cells #[.bool r.head.no, .string (bs r.head.name), sv, su] 33)) fun e w2 => e = .returned (.int .i64 (wrongRule m r).1) ∧
            Hid (NumsM w2 (w.heap.size + 1) (6 * (j + 1)) (wrongRule m r).2) ∧ Hid (Below w.heap.size w w2) ∧ w2.heap[w.heap.size]? = some (.cells #[.int .i64 0, .int .i64 0] 26 (0, 0)) ∧ w.heap.size + 2 ≤ w2.heap.size) :=
          (wrongRuleC (w.heap.size + 1) (6 * j) m r sv su _ (HM.out.later ((Later.refl _).alloc _)) (Kind.sl_neBelow hsv hB1 (by omega)) (Kind.sl_neBelow hsu hB1 (by omega)) (by omega)).mono fun e w2 ⟨he, h1, h2⟩ =>
            ⟨he, h1, below_trans hB1 (h2.below (n := w.heap.size) (by omega) (by simp; omega)) (Nat.le_refl _), by rw [h2.block w.heap.size (by simp; omega) (by omega), Below.heap_alloc _ _ _ (by omega)]; exact HR.out, by have := h2.size; simp at this; omega⟩
        obtain ⟨a2, c2, rfl⟩ := Kind.slice hsv
        obtain ⟨a3, c3, rfl⟩ := Kind.slice hsu
        clear hc hr hsv hsu hB1 HM HB HR
        generalize wrongRule m r = wrr at *
        obtain ⟨ex, m2⟩ := wrr
        dsimp only at *
        generalize bs r.head.name = nm at *
        generalize r.head.no = no at *
        by_cases h0 : ex = 0
        · subst h0
          have E2 : Hid (wrongP p = wrongGo m2 (j + 1) (p.drop (j + 1))) := by show _ = _; rw [HE.out, hst]; rfl
          clear hst HE
          go_wp2_with (go_at_call 12; refine HC.out.mono ?_; rintro e w2 ⟨rfl, hM2, hB2, hR2, hs2⟩; replace hR2 := hide hR2)
          go_roundg (p.length - (j + 1))
          case measure => omega
          case rel => exact ⟨j + 1, by omega, by go_num, m2, E2, hM2, hB2, hR2, hs2⟩
        · have E2 : Hid (wrongP p = (ex, j)) := by show _ = _; rw [HE.out, hst, if_neg h0]
          have hq : (ex != 0) = true := by simpa using h0
          clear hst HE h0
          go_wp2_with (go_at_call 12; refine HC.out.mono ?_; rintro e w2 ⟨rfl, hM2, hB2, hR2, hs2⟩; have q0 : w2.cell? ⟨w.heap.size, 0, none⟩ = some (.int .i64 0) := (by rw [cell_of_row _ _ _ _ _ _ hR2]; rfl); have q1 : w2.cell? ⟨w.heap.size, 1, none⟩ = some (.int .i64 0) := (by rw [cell_of_row _ _ _ _ _ _ hR2]; rfl); have p0 : w2.frozen? ⟨w.heap.size, 0, none⟩ = false := frozen_rowC 0 hR2; have p1 : w2.frozen? ⟨w.heap.size, 1, none⟩ = false := frozen_rowC 1 hR2; replace hR2 := hide hR2)
          obtain ⟨r0, r1⟩ := fault_two (unhide hR2) (.int .i64 ex) (.int .i64 j)
          refine bodyPost_ret (v := .agg #[.int .i64 ex, .int .i64 j]) (by simp [results, Try.results4, go_sem, r0, r1]) rfl ⟨ret_fault2 (by rw [E2.out]) (by rw [E2.out]), ?_⟩
          exact (hB2.out.setCell (Nat.le_refl _) _).setCell (Nat.le_refl _) _
      · have E2 : Hid (wrongP p = (0, 0)) := by show _ = _; rw [HE.out, List.drop_eq_nil_of_le (by omega)]; rfl
        have hR2 := HR.out
        have q0 : wr.cell? ⟨w.heap.size, 0, none⟩ = some (.int .i64 0) := by rw [cell_of_row _ _ _ _ _ _ hR2]; rfl
        have q1 : wr.cell? ⟨w.heap.size, 1, none⟩ = some (.int .i64 0) := by rw [cell_of_row _ _ _ _ _ _ hR2]; rfl
        have p0 : wr.frozen? ⟨w.heap.size, 0, none⟩ = false := frozen_rowC 0 hR2
        have p1 : wr.frozen? ⟨w.heap.size, 1, none⟩ = false := frozen_rowC 1 hR2
        clear hR2
        go_wp2
        obtain ⟨r0, r1⟩ := fault_two HR.out (.int .i64 0) (.int .i64 0)
        refine bodyPost_ret (v := .agg #[.int .i64 0, .int .i64 0]) (by simp [results, Try.results4, go_sem, r0, r1]) rfl ⟨ret_fault2 (by rw [E2.out]) (by rw [E2.out]; rfl), ?_⟩
        exact (HB.out.setCell (Nat.le_refl _) _).setCell (Nat.le_refl _) _

end Go.Proofs.Ythngiikhgplldaa

/- Rows of atoms that a call owns, their terms from before it. Nothing of the program but types' numbers. -/
namespace Go.Proofs.Ythngiikhgplldaa
open Go.RowKit Go.Sort

theorem infoAtom4 : ∃ i, Try.prog.info? 30 = some i ∧ i.zero = some (.agg #[.bool false, .string ByteArray.empty, .slice none 0 0]) ∧ i.size = 3 ∧ i.bytes = 48 := ⟨Try.t30, by kernel_rfl, by kernel_rfl, by kernel_rfl, by kernel_rfl⟩

/-- A row of atoms of a call's own; their terms were there in w0. -/
def RowA (w0 : World) (lo : Nat) (w : World) (v : Value) (l : List AtomD) : Prop :=
  ∃ xs, w.ownsRow lo 30 3 v l.length xs ∧ ∀ i a, l[i]? = some a → ∃ c, atomK.is Anyw w0 c a ∧ ∀ j u, c[j]? = some u → xs[i * 3 + j]? = some u

theorem RowA.nil (w0 : World) (lo : Nat) (w : World) : RowA w0 lo w (.slice none 0 0) [] := ⟨[], World.ownsRow_nil w _ _ _, fun i a h => by simp at h⟩

theorem RowA.slice {w0 w : World} {lo : Nat} {v : Value} {l : List AtomD} (h : RowA w0 lo w v l) : ∃ a cap, v = .slice a l.length cap := by
  obtain ⟨xs, ho, _⟩ := h
  rcases ho.2 with ⟨rfl, e⟩ | ⟨g, cap, cur, rfl, _⟩
  · exact ⟨none, 0, by rw [e]⟩
  · exact ⟨_, cap, rfl⟩

theorem RowA.lo {w0 w : World} {lo : Nat} {v : Value} {l : List AtomD} (h : RowA w0 lo w v l) : ∀ k, v.ownBlock = some k → lo ≤ k ∧ k < w.heap.size := fun k e => by
  obtain ⟨xs, ho, _⟩ := h; exact ho.lt k e

/-- One atom more. -/
theorem RowA.more {w0 w : World} {lo : Nat} {v : Value} {l : List AtomD} (h : RowA w0 lo w v l) (hs : lo ≤ w.heap.size) {c : List Value} {a : AtomD} (hc : atomK.is Anyw w0 c a) (hl : (l.length + 1) * 48 ≤ 140737488355328) :
    ∃ v' w', (Builtin.append_ #[31, 31] 31 #[v, .slice (some ⟨w.heap.size, 0, none⟩) 1 1]).run Try.prog (w.alloc (.cells c.toArray 30)) = .ok v' w' ∧ RowA w0 lo w' v' (l ++ [a]) ∧ (w.alloc (.cells c.toArray 30)).grownBy w' v.ownBlock ∧ w.drawn ≤ w'.drawn := by
  obtain ⟨i, i1, i2, i3, i4⟩ := infoAtom4
  obtain ⟨xs, ho, hx⟩ := h
  have hcl : c.length = 3 := atomK.len hc
  have hnews : ∀ j u, c[j]? = some u → (w.alloc (.cells c.toArray 30)).cell? ((⟨w.heap.size, 0, none⟩ : Addr).add j) = some u := by
    intro j u hu
    rw [Addr.add_lit, Nat.zero_add, cell_of_row _ w.heap.size j c.toArray 30 (0, 0) (heap_alloc_new w _)]
    simpa using hu
  obtain ⟨v', w', hrun, r1, r2, r3, _⟩ := append_own (P := Try.prog) (w.alloc (.cells c.toArray 30)) lo 31 31 30 i _ 3 48 Try.underlying31 i1 i2 i3 i4 rfl (by omega) v l.length xs (ho.alloc _) ⟨w.heap.size, 0, none⟩ 1 1 c (by rw [hcl]) hnews
    (atomK.one hc) (by simp only [maxLen]; omega) hl (by simp; omega)
  refine ⟨v', w', hrun, ⟨xs ++ c, by simpa using r1, fun j y hj => ?_⟩, r2, r3⟩
  have hxl : xs.length = l.length * 3 := ho.1
  by_cases hjl : j < l.length
  · rw [List.getElem?_append_left hjl] at hj
    obtain ⟨d, d1, d2⟩ := hx j y hj
    refine ⟨d, d1, fun q u hu => ?_⟩
    have := d2 q u hu
    rw [List.getElem?_append_left (List.getElem?_eq_some_iff.1 this).1]; exact this
  · rw [List.getElem?_append_right (by omega)] at hj
    have hj' : j = l.length := by
      have := (List.getElem?_eq_some_iff.1 hj).1
      simp at this; omega
    subst hj'
    simp at hj
    subst hj
    refine ⟨c, hc, fun q u hu => ?_⟩
    rw [List.getElem?_append_right (by omega), hxl, Nat.add_sub_cancel_left]; exact hu

theorem RowA.sl {w0 w : World} {lo : Nat} {v : Value} {l : List AtomD} (h : RowA w0 lo w v l) (hb : Below w0.heap.size w0 w) (hl : l.length ≤ 8796093022208) : atomK.sl Anyw w v l := by
  obtain ⟨xs, ho, hx⟩ := h
  rcases ho.2 with ⟨rfl, e⟩ | ⟨g, cap, cur, rfl, hbg, hg, hnc, _⟩
  · have : l = [] := List.eq_nil_of_length_eq_zero e
    subst this
    exact atomK.sl_nil _ _ _ _
  · refine ⟨⟨hl, hnc⟩, _, cap, rfl, fun _ => ⟨g, 0, rfl, trivial, (Array.getElem?_eq_some_iff.1 hg).1, fun i x hi => ?_⟩⟩
    obtain ⟨c, c1, c2⟩ := hx i x hi
    refine ⟨c, atomK.kept c1 hb.size fun k hk _ => hb.block k hk, fun j u hu => ?_⟩
    have := ho.cells (g := g) rfl _ u (c2 j u hu)
    rw [Addr.add_lit] at this
    rw [Nat.add_assoc]; exact this

theorem RowA.one {w0 w : World} {lo : Nat} {c : List Value} {a : AtomD} (hc : atomK.is Anyw w0 c a) (hs : lo ≤ w.heap.size) : RowA w0 lo (w.alloc (.cells c.toArray 30)) (.slice (some ⟨w.heap.size, 0, none⟩) 1 1) [a] := by
  have hcl : c.length = 3 := atomK.len hc
  refine ⟨c, ⟨by rw [hcl]; rfl, Or.inr ⟨w.heap.size, 1, c.toArray, rfl, hs, heap_alloc_new _ _, by simp, by simp [maxLen], by simp [hcl], by show c.take 3 = c; rw [← hcl]; simp⟩⟩, fun i x hi => ?_⟩
  cases i with
  | zero =>
    simp at hi
    subst hi
    exact ⟨c, hc, fun j u hu => by rw [Nat.zero_mul, Nat.zero_add]; exact hu⟩
  | succ i => simp at hi

/-- Apart from block b, that lies behind what was there and ahead of the row. -/
theorem RowA.slB {w0 w : World} {lo b : Nat} {v : Value} {l : List AtomD} (h : RowA w0 lo w v l) (hb : Below w0.heap.size w0 w) (hl : l.length ≤ 8796093022208) (h1 : w0.heap.size ≤ b) (h2 : b < lo) : atomK.sl (fun k => k ≠ b) w v l := by
  obtain ⟨xs, ho, hx⟩ := h
  rcases ho.2 with ⟨rfl, e⟩ | ⟨g, cap, cur, rfl, hbg, hg, hnc, _⟩
  · have : l = [] := List.eq_nil_of_length_eq_zero e
    subst this
    exact atomK.sl_nil _ _ _ _
  · refine ⟨⟨hl, hnc⟩, _, cap, rfl, fun _ => ⟨g, 0, rfl, by show g ≠ b; omega, (Array.getElem?_eq_some_iff.1 hg).1, fun i x hi => ?_⟩⟩
    obtain ⟨c, c1, c2⟩ := hx i x hi
    refine ⟨c, atomK.kept (atomK.mono c1 fun k hk _ => (by omega : k ≠ b)) hb.size fun k hk _ => hb.block k hk, fun j u hu => ?_⟩
    have := ho.cells (g := g) rfl _ u (c2 j u hu)
    rw [Addr.add_lit] at this
    rw [Nat.add_assoc]; exact this

end Go.Proofs.Ythngiikhgplldaa
