/- MatchTells: Get, Fill, Meet, With and All tell what variables stand for, so that any body is so of any facts, as the document's own answer does. Whatever body, facts, number, other facts and binds are handed in, of bulk at most 1048576 together, in whatever memory: the call returns true and what was handed in reads as it did. -/
import Derived.Test.YtkijmalapjiopaaGreatRows
import Derived.Test.YtkijmalapjiopaaGreatJ17
import Derived.Test.YtkijmalapjiopaaGreatJ18
import Derived.Carry
import Derived.HandedShaped
import Derived.JoinedCond
namespace Go.Proofs.YtkijmalapjiopaaGreat
open Go.ChangeShapes Go.WideShapes Go.ChangeAt Go.RowKit

theorem mem_sum4 {α : Type} (μ : α → Nat) : ∀ (l : List α) (x : α), x ∈ l → μ x ≤ (l.map μ).sum
  | [], _, h => by cases h
  | y :: l, x, h => by
    rw [List.map_cons, List.sum_cons]
    rcases List.mem_cons.1 h with rfl | h
    · omega
    · have := mem_sum4 μ l x h; omega
theorem len_sum4 : ∀ l : List TermD, l.length ≤ (l.map muT).sum
  | [] => by simp
  | t :: l => by have := len_sum4 l; rw [List.map_cons, List.sum_cons, List.length_cons]; unfold muT; unfold muT at this; omega
theorem longA_mu4 {a : AtomD} (h : muA a ≤ 1048576) : longA a := by
  unfold muA at h
  refine ⟨by omega, fun t ht => ?_⟩
  have h1 := mem_sum4 muT a.terms t ht
  have h2 : t.2.length + 1 ≤ (a.terms.map muT).sum := h1
  show t.2.length ≤ _
  omega
theorem shortA_mu4 {a : AtomD} (h : muA a ≤ 1048576) : a.terms.length ≤ 2000000 ∧ ∀ t ∈ a.terms, t.2.length ≤ maxLen := by
  unfold muA at h
  have h0 := len_sum4 a.terms
  refine ⟨by omega, fun t ht => ?_⟩
  have h1 := mem_sum4 muT a.terms t ht
  have h2 : t.2.length + 1 ≤ (a.terms.map muT).sum := h1
  simp only [maxLen]
  omega

theorem okF_t4 {l : List FactD} (h : ∀ f ∈ l, okFt f) : ∀ k, okF (l.getD k noFact) := fun k => by
  rw [List.getD_eq_getElem?_getD]
  cases e : l[k]? with
  | none => exact ⟨by simp [noFact], fun s hs => by simp [noFact] at hs⟩
  | some f =>
    have hf := h f (List.mem_of_getElem? e)
    exact ⟨by simpa [okS, maxLen] using hf.1, fun s hs => by simpa [okS, maxLen] using hf.2 s hs⟩

theorem cellsBind4 : Tryz.prog.cellsOf 34 = 2 := by kernel_rfl
theorem bytesBind4 : Tryz.prog.bytesOf 34 = 32 := by kernel_rfl

section
variable {H : Type} {enc : TypeId × Value → H} {W : World}

def okB (b : BindD) (d : DataW H) : Prop := 1 ≤ Rows.uptoBulk d ∧ b.1.size ≤ maxLen ∧ b.2.size ≤ maxLen

set_option maxRecDepth 100000 in
theorem opensBindR : OpensR enc W 34 bindK okB := by
  intro n cs x h _
  obtain ⟨y0, y1, m, hx, hl, h0, h1⟩ := trod_struct2 Tryz.underlying34 h
  rw [cellsBind4] at hl
  match cs, hl with
  | [c0, c1], _ =>
    have e1 : Tryz.prog.cellsOf 9 = 1 := cellsStrP
    simp only [e1, List.drop_zero, List.drop_succ_cons, List.take_succ_cons, List.take_zero] at h0 h1
    obtain ⟨s, hs, hy0, hsz⟩ := DataW.trod_string Tryz.underlying9 h0
    obtain ⟨t, ht, hy1, htz⟩ := DataW.trod_string Tryz.underlying9 h1
    simp only [List.cons.injEq, and_true] at hs ht
    refine ⟨(s, t), by show [c0, c1] = _; rw [hs, ht], ?_, hsz, htz⟩
    rw [hx]
    simp only [Rows.uptoBulk]
    omega

set_option maxRecDepth 100000 in
theorem openBindsR {b0 : Nat} {v : Value} {d : DataW H} {p : List MemPlace} (hv : Value.okWide Tryz.prog W .any b0 24 v) (h : DataW.Trod enc Tryz.prog W 0 (fun _ => true) true 24 v d p) (hw : Sized 24 d) : ∃ l, bindK.sl Anyw W v l ∧ l.length ≤ Rows.uptoBulk d ∧ ∀ x ∈ l, x.1.size ≤ maxLen ∧ x.2.size ≤ maxLen := by
  obtain ⟨a0, len0, cap0, rfl⟩ := okWide_slice Tryz.underlying24 hv
  obtain ⟨fuel, hf⟩ := h
  obtain ⟨l, ds, hl, hld, hbk, hlk⟩ := openSlR Tryz.underlying24 cellsBind4 (by rw [bytesBind4]; decide) (by decide) opensBindR (x := (d, p)) (by simpa [Value.cells] using hf) hw
  have hsum := sum_bulk (μ := fun _ => 1) l ds hld fun i a d ha hd => (hlk i a d ha hd).1
  have hone : (l.map fun _ => 1).sum = l.length := by
    clear hl hld hlk hsum
    induction l with
    | nil => rfl
    | cons a l ih => rw [List.map_cons, List.sum_cons, ih, List.length_cons]; omega
  refine ⟨l, hl, by have : Rows.uptoBulkAll ds + 1 ≤ Rows.uptoBulk d := hbk; omega, fun x hx => ?_⟩
  obtain ⟨i, hi, e⟩ := List.getElem_of_mem hx
  have h1 : l[i]? = some x := by rw [List.getElem?_eq_getElem hi, e]
  exact (hlk i x _ h1 (List.getElem?_eq_getElem (by omega))).2

set_option maxRecDepth 100000 in
theorem openAtomsR {b0 : Nat} {v : Value} {d : DataW H} {p : List MemPlace} (hv : Value.okWide Tryz.prog W .any b0 22 v) (h : DataW.Trod enc Tryz.prog W 0 (fun _ => true) true 22 v d p) (hw : Sized 22 d) : ∃ l, atomK.sl Anyw W v l ∧ (l.map muA).sum ≤ Rows.uptoBulk d := by
  obtain ⟨a0, len0, cap0, rfl⟩ := okWide_slice Tryz.underlying22 hv
  obtain ⟨fuel, hf⟩ := h
  obtain ⟨l, ds, hl, hld, hbk, hlk⟩ := openSlR Tryz.underlying22 cellsAtom (by rw [bytesAtom]; decide) (by decide) opensAtomR (x := (d, p)) (by simpa [Value.cells] using hf) hw
  have hsum := sum_bulk l ds hld hlk
  exact ⟨l, hl, by have : Rows.uptoBulkAll ds + 1 ≤ Rows.uptoBulk d := hbk; omega⟩
end

set_option maxRecDepth 100000 in
theorem mtell_contract (H : Type) (enc : TypeId × Value → H) (W : World) (base : Nat) (args : Array Value) (ds gs : List (DataW H)) (before : List MemPlace)
    (hval : ∀ (j : Nat) t v, Tryz.f3.params[j]? = some t → args[j]? = some v → Value.okWide Tryz.prog W .any base t v)
    (hW : DataW.Whole enc Tryz.prog Tryz.f3.params.toList Rows.matchTellsSpec.vars false W args.toList ds gs before) (hk : Rows.uptoSmall H (ds ++ gs) = true)
    (hsz : (DataW.weightsEach Tryz.prog (Tryz.f3.params.toList ++ Rows.matchTellsSpec.plain.varTypes Tryz.prog) (ds ++ gs)).all (· ≤ reachBytes) = true) :
    Calls Tryz.prog 3 args W fun e W' => ∃ v, e = .returned v ∧ Rows.matchTellsSpec.post enc Tryz.prog Tryz.f3 false true false false W args v W' := by
  have hW' := hW
  obtain ⟨p, q, hA0, hV, rfl, hfz, hnd⟩ := hW
  have hA : DataW.TrodAll enc Tryz.prog W 0 (fun _ => true) true Tryz.f3.params.toList args.toList ds p := hA0
  rw [Tryz.params3] at hA hval hsz
  obtain ⟨v0, vs0, d0, ds0, p0, q0, hargs, rfl, rfl, h0, hr0⟩ := trodAll_cons hA
  obtain ⟨v1, vs1, d1, ds1, p1, q1, rfl, rfl, rfl, h1, hr1⟩ := trodAll_cons hr0
  obtain ⟨v2, vs2, d2, ds2, p2, q2, rfl, rfl, rfl, h2, hr2⟩ := trodAll_cons hr1
  obtain ⟨v3, vs3, d3, ds3, p3, q3, rfl, rfl, rfl, h3, hr3⟩ := trodAll_cons hr2
  obtain ⟨v4, vs4, d4, ds4, p4, q4, rfl, rfl, rfl, h4, hr4⟩ := trodAll_cons hr3
  obtain ⟨rfl, rfl, rfl⟩ := trodAll_nil hr4
  obtain rfl : args = #[v0, v1, v2, v3, v4] := by cases args; simp_all
  obtain ⟨rfl, rfl⟩ := trodVars_none hV
  clear hA0 hargs hr0 hr1 hr2 hr3 hr4
  simp only [List.append_nil] at hW' hk
  have hB : Rows.uptoBulkAll [d0, d1, d2, d3, d4] ≤ 1048576 := of_decide_eq_true hk
  simp only [Rows.uptoBulkAll] at hB
  have hlt0 : ∀ x ∈ p0, x.block < W.heap.size := fun x hx => hW'.lt x (by simp [hx])
  have hlt1 : ∀ x ∈ p1, x.block < W.heap.size := fun x hx => hW'.lt x (by simp [hx])
  have hlt3 : ∀ x ∈ p3, x.block < W.heap.size := fun x hx => hW'.lt x (by simp [hx])
  have hlt4 : ∀ x ∈ p4, x.block < W.heap.size := fun x hx => hW'.lt x (by simp [hx])
  obtain ⟨body, hb, hbs⟩ := openAtomsR (hval 0 22 v0 rfl rfl) h0 (sized_at hsz (j := 0) rfl rfl)
  obtain ⟨fs, hf, hokf⟩ := openFactsS (hval 1 23 v1 rfl rfl) h1 (sized_at hsz (j := 1) rfl rfl)
  obtain ⟨n, rfl, rfl, rfl, wn⟩ := open_int Tryz.underlying3 (hval 2 3 v2 rfl rfl) h2
  obtain ⟨os, ho, hoko⟩ := openFactsS (hval 3 23 v3 rfl rfl) h3 (sized_at hsz (j := 3) rfl rfl)
  obtain ⟨l, hl, hll, hlk⟩ := openBindsR (hval 4 24 v4 rfl rfl) h4 (sized_at hsz (j := 4) rfl rfl)
  have hr : ∀ a ∈ body, muA a ≤ 1048576 := fun a ha => by have := mem_sum4 muA body a ha; omega
  refine (matchTellsW v0 v1 v3 v4 body fs os l n W hb hf ho hl (fun a h => longA_mu4 (hr a h)) (fun a h => shortA_mu4 (hr a h)) (okF_t4 hokf) (okF_t4 hoko) (fun f hf s hs => (hokf f hf).2 s hs) (by omega) hlk).mono fun e W' ⟨he, bel⟩ => ?_
  subst he
  refine ⟨_, rfl, _, _, _, [], p0 ++ (p1 ++ ([] ++ (p3 ++ (p4 ++ [])))), [], hW', ?_, ?_, rfl, bel.frame _, fun h => by cases h⟩
  · exact trodAll_mk1 (shut_bool Tryz.underlying4 true)
  · exact trodAll_cons_mk (Below.trod laidOutP (by kernel_rfl) (of_decide_eq_true (by kernel_rfl)) h0 bel hlt0) (trodAll_cons_mk (Below.trod laidOutP (by kernel_rfl) (of_decide_eq_true (by kernel_rfl)) h1 bel hlt1) (trodAll_cons_mk (shut_int Tryz.underlying3 wn) (trodAll_cons_mk (Below.trod laidOutP (by kernel_rfl) (of_decide_eq_true (by kernel_rfl)) h3 bel hlt3) (trodAll_cons_mk (Below.trod laidOutP (by kernel_rfl) (of_decide_eq_true (by kernel_rfl)) h4 bel hlt4) trodAll_mk0))))

set_option maxRecDepth 100000 in
theorem mtell_lifted (os : Os) (started : os.Started) (H : Type) (enc : TypeId × Value → H) (F : Stop.Interp) :
    ReturnsInHanded {} Tryz.checked os 3 .any ((Rows.OpenSpec.upto Rows.matchTellsSpec).pre6 enc Tryz.prog Tryz.f3 Rows.matchTellsUptoRow.domain false) (((Rows.OpenSpec.upto Rows.matchTellsSpec).at F).post enc Tryz.prog Tryz.f3 false true false false) := by
  refine returnsInHanded_of_calls (C := Tryz.checked) ownP started (by kernel_rfl)
    (OpenSpec.witness (enc := enc) (C := Tryz.checked) (s := Rows.OpenSpec.upto Rows.matchTellsSpec) (k := Rows.uptoSmall) rfl false ⟨#[], #[.slice none 0 0, .slice none 0 0, .int .i64 0, .slice none 0 0, .slice none 0 0], []⟩ 8 (by kernel_rfl) (by kernel_rfl) (by kernel_rfl)
      (x := ([.nil, .nil, .lit (.int .i64 0), .nil, .nil], [], [])) (by kernel_rfl) rfl (by kernel_rfl)) ?_
  intro w tape i _ _ _ hok hpre _
  obtain ⟨_, _, _, fn', hfn', _, _, _, _, hval⟩ := hok
  have e : fn' = Tryz.f3 := Option.some.inj (hfn'.symm.trans Tryz.func3)
  subst e
  have hz := hpre.2
  obtain ⟨ds, gs, before, hw, hc, hkk⟩ := (OpenSpec.pre_some (s := Rows.OpenSpec.upto Rows.matchTellsSpec) (k := Rows.uptoSmall) rfl _ _ _ _).1 hpre.1
  have hw' := DataW.Whole.of_heap (w' := w.forCall tape i) (by rfl) hw
  refine (mtell_contract H enc (w.forCall tape i) w.heap.size i.args ds gs before hval hw' hkk (hz.weights hw)).mono fun e W' ⟨v, he, hp⟩ => ?_
  subst he
  exact ChangeSpec.post_blind hp

theorem mtell_holds : Rows.MatchTellsUptoSaid :=
  OpenClaim.holds_of_cond 3 Tryz.f3 rfl rfl rfl rfl rfl rfl rfl ⟨rfl, rfl, rfl, rfl, rfl⟩ rfl rfl rfl rfl rfl (by kernel_rfl) Tryz.func3 (by kernel_rfl)
    (of_decide_eq_true (by kernel_rfl)) (by unfold Func.isWrapper; first | (rw [if_pos (by decide +kernel)]; kernel_rfl) | (rw [if_neg (by decide +kernel)]; exact ⟨rfl, rfl⟩))
    (fun os started H enc _ F => mtell_lifted os started H enc F)

#print axioms mtell_holds
end Go.Proofs.YtkijmalapjiopaaGreat
