/- Of the reference's Strata: its edges, plain, and its closure. -/
import Derived.Test.YthogickpeldhlaaCrG
import Derived.Test.YthogickpeldhlaaPairM
import Derived.Test.YthogickpeldhlaaChkH
import Derived.Test.YthogickpeldhlaaCkH
namespace Go.Proofs.Ythogickpeldhlaa
open Go.RowKit Go.Sort Go.Maps

def heads (p : List RuleD) : List Bs := p.map fun r => r.head.name
theorem mem_heads (p : List RuleD) (s : Bs) : s ∈ heads p ↔ isHead p s := by unfold heads isHead; rw [List.mem_map]
def hdOf (hs : List Bs) (s : Bs) : Bool := hs.contains s
theorem hdOf_iff (p : List RuleD) (s : Bs) : hdOf (heads p) s = true ↔ isHead p s := by unfold hdOf; rw [List.contains_iff_mem]; exact mem_heads p s

def edgeAtom (hd : Bs → Bool) (h : Bs) (s : Rel × Rel) (a : AtomD) : Rel × Rel := if hd a.name then (s.1.put h a.name, if a.no then s.2.put h a.name else s.2) else s
def edgeRule (hd : Bs → Bool) (s : Rel × Rel) (r : RuleD) : Rel × Rel := r.body.foldl (edgeAtom hd r.head.name) s
def edgeAll (hd : Bs → Bool) (s : Rel × Rel) (p : List RuleD) : Rel × Rel := p.foldl (edgeRule hd) s

theorem put_iff (f : Rel) (a b x y : Bs) : f.put a b x y = true ↔ f x y = true ∨ (x = a ∧ y = b) := by unfold Rel.put; simp

theorem edgeAtoms_iff (hd : Bs → Bool) (h x y : Bs) : ∀ (l : List AtomD) (s : Rel × Rel),
    ((l.foldl (edgeAtom hd h) s).1 x y = true ↔ s.1 x y = true ∨ (x = h ∧ ∃ a ∈ l, a.name = y ∧ hd y = true)) ∧ ((l.foldl (edgeAtom hd h) s).2 x y = true ↔ s.2 x y = true ∨ (x = h ∧ ∃ a ∈ l, a.name = y ∧ hd y = true ∧ a.no = true))
  | [], s => by simp
  | a :: l, s => by
    obtain ⟨i1, i2⟩ := edgeAtoms_iff hd h x y l (edgeAtom hd h s a)
    rw [List.foldl_cons, i1, i2]
    have e1 : (edgeAtom hd h s a).1 x y = true ↔ s.1 x y = true ∨ (x = h ∧ a.name = y ∧ hd y = true) := by
      unfold edgeAtom
      split
      · rename_i hh
        rw [put_iff]
        constructor
        · rintro (k | ⟨k1, k2⟩)
          · exact Or.inl k
          · exact Or.inr ⟨k1, k2.symm, by rw [k2]; exact hh⟩
        · rintro (k | ⟨k1, k2, _⟩)
          · exact Or.inl k
          · exact Or.inr ⟨k1, k2.symm⟩
      · rename_i hh
        constructor
        · exact Or.inl
        · rintro (k | ⟨_, k2, k3⟩)
          · exact k
          · rw [← k2] at k3; exact absurd k3 hh
    have e2 : (edgeAtom hd h s a).2 x y = true ↔ s.2 x y = true ∨ (x = h ∧ a.name = y ∧ hd y = true ∧ a.no = true) := by
      unfold edgeAtom
      split
      · rename_i hh
        show (if a.no then s.2.put h a.name else s.2) x y = true ↔ _
        split
        · rename_i hn
          rw [put_iff]
          constructor
          · rintro (k | ⟨k1, k2⟩)
            · exact Or.inl k
            · exact Or.inr ⟨k1, k2.symm, by rw [k2]; exact hh, hn⟩
          · rintro (k | ⟨k1, k2, _⟩)
            · exact Or.inl k
            · exact Or.inr ⟨k1, k2.symm⟩
        · rename_i hn
          constructor
          · exact Or.inl
          · rintro (k | ⟨_, _, _, k4⟩)
            · exact k
            · exact absurd k4 hn
      · rename_i hh
        constructor
        · exact Or.inl
        · rintro (k | ⟨_, k2, k3, _⟩)
          · exact k
          · rw [← k2] at k3; exact absurd k3 hh
    rw [e1, e2]
    simp only [List.mem_cons, exists_eq_or_imp]
    constructor
    · constructor
      · rintro ((k | ⟨k1, k2, k3⟩) | ⟨k1, k2⟩)
        · exact Or.inl k
        · exact Or.inr ⟨k1, Or.inl ⟨k2, k3⟩⟩
        · exact Or.inr ⟨k1, Or.inr k2⟩
      · rintro (k | ⟨k1, ⟨k2, k3⟩ | k2⟩)
        · exact Or.inl (Or.inl k)
        · exact Or.inl (Or.inr ⟨k1, k2, k3⟩)
        · exact Or.inr ⟨k1, k2⟩
    · constructor
      · rintro ((k | ⟨k1, k2, k3, k4⟩) | ⟨k1, k2⟩)
        · exact Or.inl k
        · exact Or.inr ⟨k1, Or.inl ⟨k2, k3, k4⟩⟩
        · exact Or.inr ⟨k1, Or.inr k2⟩
      · rintro (k | ⟨k1, ⟨k2, k3, k4⟩ | k2⟩)
        · exact Or.inl (Or.inl k)
        · exact Or.inl (Or.inr ⟨k1, k2, k3, k4⟩)
        · exact Or.inr ⟨k1, k2⟩

theorem edgeAll_iff (hd : Bs → Bool) (x y : Bs) : ∀ (l : List RuleD) (s : Rel × Rel),
    ((edgeAll hd s l).1 x y = true ↔ s.1 x y = true ∨ ∃ r ∈ l, x = r.head.name ∧ ∃ a ∈ r.body, a.name = y ∧ hd y = true) ∧ ((edgeAll hd s l).2 x y = true ↔ s.2 x y = true ∨ ∃ r ∈ l, x = r.head.name ∧ ∃ a ∈ r.body, a.name = y ∧ hd y = true ∧ a.no = true)
  | [], s => by simp [edgeAll]
  | r :: l, s => by
    obtain ⟨i1, i2⟩ := edgeAll_iff hd x y l (edgeRule hd s r)
    obtain ⟨j1, j2⟩ := edgeAtoms_iff hd r.head.name x y r.body s
    have e : edgeAll hd s (r :: l) = edgeAll hd (edgeRule hd s r) l := rfl
    rw [e, i1, i2]
    unfold edgeRule
    rw [j1, j2]
    simp only [List.mem_cons, exists_eq_or_imp, or_assoc]
    exact ⟨trivial, trivial⟩

theorem edges (p : List RuleD) (x y : Bs) : ((edgeAll (hdOf (heads p)) (fun _ _ => false, fun _ _ => false) p).1 x y = true ↔ ∃ e, Edge p x y e) ∧ ((edgeAll (hdOf (heads p)) (fun _ _ => false, fun _ _ => false) p).2 x y = true ↔ Edge p x y 1) := by
  obtain ⟨i1, i2⟩ := edgeAll_iff (hdOf (heads p)) x y p (fun _ _ => false, fun _ _ => false)
  rw [i1, i2, hdOf_iff]
  constructor
  · constructor
    · rintro (k | ⟨r, hr, k1, a, ha, k2, k3⟩)
      · cases k
      · exact ⟨step a, r, hr, a, ha, k1.symm, k2, k3, rfl⟩
    · rintro ⟨e, r, hr, a, ha, k1, k2, k3, _⟩
      exact Or.inr ⟨r, hr, k1.symm, a, ha, k2, k3⟩
  · constructor
    · rintro (k | ⟨r, hr, k1, a, ha, k2, k3, k4⟩)
      · cases k
      · exact ⟨r, hr, a, ha, k1.symm, k2, k3, by unfold step; rw [k4]; rfl⟩
    · rintro ⟨r, hr, a, ha, k1, k2, k3, k4⟩
      refine Or.inr ⟨r, hr, k1.symm, a, ha, k2, k3, ?_⟩
      unfold step at k4
      cases hn : a.no with
      | true => rfl
      | false => rw [hn] at k4; cases k4

/-- WHAT IT ANSWERS. -/
def fwP (p : List RuleD) : Rel × Rel := fwK (heads p) (heads p) (edgeAll (hdOf (heads p)) (fun _ _ => false, fun _ _ => false) p)
theorem strata_no {p : List RuleD} (hw : (wrongP p).1 = 0) {a : Bs} (ha : a ∈ heads p) (h : (fwP p).2 a a = true) : strataP p = ([], 10, 0) := by
  refine no_strata hw fun hs => ?_
  have := (fw_sol (hs := heads p) (fun x => mem_heads p x) (fun x y => (edges p x y).1) (fun x y => (edges p x y).2)).1 hs a ha
  unfold fwP at h
  rw [this] at h; cases h
theorem strata_yes {p : List RuleD} (hw : (wrongP p).1 = 0) (h : ∀ a ∈ heads p, (fwP p).2 a a = false) : strataP p = (p.map fun r => levs (hdOf (heads p)) p (p.length + 1) (fun _ => 0) r.head.name, 0, 0) := by
  obtain ⟨σ, hσ⟩ := (fw_sol (hs := heads p) (fun x => mem_heads p x) (fun x y => (edges p x y).1) (fun x y => (edges p x y).2)).2 h
  exact levs_strata (fun s => hdOf_iff p s) hw hσ _ fun _ => rfl

theorem hdOf_step {l : List Bs} {j : Nat} {x : Bs} (h : l[j]? = some x) (s : Bs) : hdOf (l.drop j) s = (decide (x = s) || hdOf (l.drop (j + 1)) s) := by
  obtain ⟨h1, e1⟩ := List.getElem?_eq_some_iff.1 h
  rw [List.drop_eq_getElem_cons h1, e1]
  unfold hdOf
  rw [List.contains_cons]
  by_cases e : x = s
  · subst e; simp
  · rw [decide_eq_false e, beq_eq_false_iff_ne.2 (Ne.symm e)]

set_option maxRecDepth 100000 in
set_option maxHeartbeats 1000000 in
theorem headC (hs : List Bs) (v : Value) (g : Nat) (s : Bs) (w : World) (h : w.cell? ⟨g, 0, none⟩ = some v) (hv : strK.sl Anyw w v hs) :
    Calls Try.prog 98 #[.string (bs s), .pointer (some ⟨g, 0, none⟩)] w fun x w' => x = .returned (.bool (hdOf hs s)) ∧ w' = w := by
  obtain ⟨sa, cap, rfl⟩ := Kind.slice hv
  have hl0 := hv.1.1
  have HV := hide hv
  clear hv
  have HBX : Hid (∀ u : Bs, ((bs u).toList == (bs s).toList) = decide (u = s)) := fun u => bs_eqR u s
  generalize hbs : bs s = z at *
  clear hbs
  go_enter Try.func98, Try.ntmps98
  go_wp2
  go_loopg [8] hs.length (fun k i wr => ∃ j : Nat, j + k = hs.length ∧ i = .int .i64 j ∧ Hid (hdOf hs s = hdOf (hs.drop j) s) ∧ wr = w)
  case atStart => exact ⟨0, by omega, rfl, (rfl : _ = _), rfl⟩
  case round =>
    obtain ⟨j, hj, rfl, HF, rfl⟩ := hrel
    by_cases hlt : j < hs.length
    · obtain ⟨x, hx⟩ : ∃ x, hs[j]? = some x := ⟨_, List.getElem?_eq_getElem hlt⟩
      obtain ⟨b1, o1, _, rfl, hb1, rfl, hc⟩ := Kind.sl_at HV.out hx
      have d0 : wr.cell? ⟨b1, o1 + j, none⟩ = some (.string (bs x)) := by simpa [strK] using hc 0 _ rfl
      have hE := hdOf_step hx s
      have hEq := HBX.out x
      generalize decide (x = s) = du at *
      have HE := hide hE
      clear hc hx hE
      generalize bs x = bx at *
      cases du
      · have HF2 : Hid (hdOf hs s = hdOf (hs.drop (j + 1)) s) := by show _ = _; rw [HF.out, HE.out]; rfl
        go_wp2
        go_roundg (hs.length - (j + 1))
        case measure => omega
        case rel => exact ⟨j + 1, by omega, by go_num, HF2, rfl⟩
      · have HF2 : Hid (hdOf hs s = true) := by show _ = _; rw [HF.out, HE.out]; rfl
        go_wp2
        go_ret
        exact ⟨by rw [HF2.out]; rfl, rfl⟩
    · have HF2 : Hid (hdOf hs s = false) := by show _ = _; rw [HF.out, List.drop_eq_nil_of_le (by omega)]; rfl
      go_wp2
      go_ret
      exact ⟨by rw [HF2.out]; rfl, rfl⟩

end Go.Proofs.Ythogickpeldhlaa
