/- Lists of facts among a call's arguments, opened; what the bound on all that comes in gives. -/
import Derived.Test.YtflldbpjhcgkbaaOpen
import Derived.JoinedCond
namespace Go.Proofs.Ytflldbpjhcgkbaa
open Go.RowKit Go.Sort Go.ChangeShapes Go.WideShapes Go.ChangeAt Go.Deep

variable {H : Type} {enc : TypeId × Value → H} {W : World}

theorem bulk_one (d : DataW H) : 1 ≤ Rows.uptoBulk d := by
  cases d with
  | lit l => cases l <;> simp [Rows.uptoBulk]
  | nil => simp [Rows.uptoBulk]
  | ptr d => simp [Rows.uptoBulk]
  | slice elems spare => simp [Rows.uptoBulk]
  | agg parts => simp [Rows.uptoBulk]
  | iface t d => simp [Rows.uptoBulk]
  | map entries => simp [Rows.uptoBulk]
  | held h => simp [Rows.uptoBulk]

theorem bulk_part {d : DataW H} {l : List (DataW H)} (h : d ∈ l) : Rows.uptoBulk d ≤ Rows.uptoBulkAll l := by
  induction l with
  | nil => cases h
  | cons x r ih =>
    simp only [Rows.uptoBulkAll]
    cases List.mem_cons.1 h with
    | inl e => subst e; omega
    | inr e => have := ih e; omega

theorem bulk_length (l : List (DataW H)) : l.length ≤ Rows.uptoBulkAll l := by
  induction l with
  | nil => simp [Rows.uptoBulkAll]
  | cons x r ih => have := bulk_one x; simp only [Rows.uptoBulkAll, List.length_cons]; omega

/-- What the bound says of a fact. -/
theorem bulkFact {d : DataW H} (h : Rows.uptoBulk d ≤ 1048576) : ∀ y es sp, d = .agg [y, .slice es sp] → es.length ≤ 8796093022208 := by
  intro y es sp e
  subst e
  have := bulk_length es
  simp only [Rows.uptoBulk, Rows.uptoBulkAll] at h
  omega

theorem okF_no : okF noFact := ⟨by simp [noFact], fun s hs => by cases hs⟩

set_option maxRecDepth 100000 in
theorem openFacts {b0 : Nat} {v : Value} {d : DataW H} {p : List MemPlace} (hv : Value.okWide Try.prog W .any b0 22 v) (h : DataW.Trod enc Try.prog W 0 (fun _ => true) true 22 v d p) (hb : Rows.uptoBulk d ≤ 1048576) : ∃ l, Facts W v l ∧ l.length ≤ 1048576 ∧ ∀ k, okF (l.getD k noFact) := by
  obtain ⟨a0, len0, cap0, rfl⟩ := okWide_slice Try.underlying22 hv
  obtain ⟨fuel, hf⟩ := h
  rcases open_slice Try.underlying22 hf with ⟨hcs, _⟩ | ⟨a, len, cap, m, n, D, Pl, hcs, _, hl, hm, hmm, hx, hel⟩
  · simp [Value.cells] at hcs
    obtain ⟨rfl, rfl, rfl⟩ := hcs
    exact ⟨[], ⟨by simp, none, 0, rfl, fun e => absurd rfl e⟩, by simp, fun k => by simpa using okF_no⟩
  · simp [Value.cells] at hcs
    obtain ⟨rfl, rfl, rfl⟩ := hcs
    simp only [if_true] at hmm
    subst hmm
    rw [cellsFact] at hel
    have hd : d = .slice ((List.range len0).map D) ((List.range (m - len0)).map fun j => D (len0 + j)) := by
      have := congrArg Prod.fst hx
      simpa using this
    subst hd
    have hbulk : ∀ i, i < len0 → Rows.uptoBulk (D i) ≤ 1048576 := fun i hi => by
      have h1 := bulk_part (d := D i) (l := (List.range len0).map D) (List.mem_map.2 ⟨i, List.mem_range.2 hi, rfl⟩)
      simp only [Rows.uptoBulk] at hb
      omega
    have hlen : len0 ≤ 1048576 := by
      have h1 := bulk_length ((List.range len0).map D)
      simp only [Rows.uptoBulk] at hb
      simp at h1
      omega
    have each : ∀ i : Fin len0, ∃ f : FactD, ∃ c0 c1, W.cell? ((a.add (i.1 * 2)).add 0) = some c0 ∧ W.cell? ((a.add (i.1 * 2)).add 1) = some c1 ∧ FactV W (.agg #[c0, c1]) f ∧ okF f := fun i => by
      obtain ⟨cs', k1, k2⟩ := hel i.1 (by omega)
      obtain ⟨f, c0, c1, e, hF, hk⟩ := trodFact k2 (bulkFact (hbulk i.1 i.2))
      subst e
      obtain ⟨_, _, hcell⟩ := World.cells?_some k1
      exact ⟨f, c0, c1, by simpa using hcell 0 (by omega), by simpa using hcell 1 (by omega), hF, hk⟩
    refine ⟨List.ofFn fun i => Classical.choose (each i), ⟨by simp; omega, some a, m, by simp, fun hne => ?_⟩, by simpa using hlen, fun k => ?_⟩
    rotate_left
    · rw [List.getD_eq_getElem?_getD, List.getElem?_ofFn]
      by_cases hk : k < len0
      · rw [dif_pos hk]
        obtain ⟨c0, c1, _, _, _, hok⟩ := Classical.choose_spec (each ⟨k, hk⟩)
        exact hok
      · rw [dif_neg hk]; exact okF_no
    have h0 : 0 < len0 := by
      refine Nat.pos_of_ne_zero fun e => hne ?_
      subst e; rfl
    have hplain : ∃ b off, a = ⟨b, off, none⟩ := by
      obtain ⟨f, c0, c1, k0, _⟩ := each ⟨0, h0⟩
      refine addr_plain (W := W) (i := 0) (v := c0) ?_ rfl
      simpa [Addr.add] using k0
    obtain ⟨b, off, rfl⟩ := hplain
    have hlt : b < W.heap.size := by
      obtain ⟨f, c0, c1, k0, _⟩ := each ⟨0, h0⟩
      rw [Addr.add_lit, Addr.add_lit] at k0
      exact World.block_lt_of_cell? W _ k0
    refine ⟨b, off, rfl, hlt, fun i hi => ?_⟩
    have hi' : i < len0 := by simpa using hi
    have e : (List.ofFn fun i => Classical.choose (each i)).getD i noFact = Classical.choose (each ⟨i, hi'⟩) := by
      rw [List.getD_eq_getElem?_getD, List.getElem?_ofFn, dif_pos hi']; rfl
    rw [e]
    obtain ⟨c0, c1, k0, k1, ⟨s, es, hs⟩, _⟩ := Classical.choose_spec (each ⟨i, hi'⟩)
    rw [Addr.add_lit, Addr.add_lit] at k0 k1
    have e2 : c0 = .string (Classical.choose (each ⟨i, hi'⟩)).1 ∧ c1 = s := by simpa using es
    exact ⟨by rw [← e2.1]; exact k0, s, by rw [← e2.2]; exact k1, hs⟩

end Go.Proofs.Ytflldbpjhcgkbaa
