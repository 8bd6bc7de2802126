/- Texts of this claim, one behind the other. -/
import Derived.Test.YtkihcabplbbjcaaGreatDoorJ32
import Derived.ProofKit
import Derived.SliceStrings
import Derived.Deep.Slices
import Derived.Lib.SmallJoins
import Derived.SizedLaws
import Derived.Test.YtkihcabplbbjcaaGreatDoorRows
import Derived.JoinedCond
import Derived.Test.YtkihcabplbbjcaaGreatDoorJ5
import Derived.Test.YtkihcabplbbjcaaGreatDoorJ24
/- Facts and lists of facts among a call's arguments, opened. -/
namespace Go.Proofs.YtkihcabplbbjcaaGreatDoor
open Go.RowKit Go.Sort Go.ChangeShapes Go.WideShapes Go.ChangeAt

theorem cellsFact : Tryz.prog.cellsOf 27 = 2 := by kernel_rfl
theorem cellsStr : Tryz.prog.cellsOf 9 = 1 := by kernel_rfl
theorem cellsStrs : Tryz.prog.cellsOf 25 = 1 := by kernel_rfl
theorem ownT : ownKnob Tryz.prog.godebug = none := by kernel_rfl
theorem laidOutT : laidOutB Tryz.prog = true := by kernel_rfl

variable {H : Type} {enc : TypeId × Value → H} {W : World}

theorem addr_plain {a : Addr} {i : Nat} {v : Value} (h : W.cell? (a.add i) = some v) (hi : i = 0) : ∃ b off, a = ⟨b, off, none⟩ := by
  subst hi
  obtain ⟨b, off, spot⟩ := a
  have hspot : spot = none := by simpa [Addr.add] using World.cell?_spot h
  subst hspot
  exact ⟨b, off, rfl⟩

/-- A slice of texts, read: its texts. -/
theorem trodStrs {n : Nat} {v : Value} {x : DataW H × List MemPlace} (h : DataW.trod enc Tryz.prog W 0 (fun _ => true) true n 25 [v] = some x) (hb : ∀ es sp, x.1 = .slice es sp → es.length ≤ 8796093022208) : ∃ l, Strs W v l ∧ ∀ s ∈ l, s.size ≤ 9223372036854775807 := by
  rcases open_strings Tryz.underlying25 Tryz.underlying9 cellsStr h with ⟨hcs, hx⟩ | ⟨a, len, cap, ss, hcs, _, hl, hm, hz, hx, hcell, hws⟩
  · simp only [List.cons.injEq, and_true] at hcs
    exact ⟨[], ⟨by simp, none, 0, by simpa using hcs, fun e => absurd rfl e⟩, fun s hs => by cases hs⟩
  · simp only [List.cons.injEq, and_true] at hcs
    simp only [if_true] at hz
    have hlen : (ss.take len).length = len := by rw [List.length_take]; omega
    have hbd := hb _ _ (by rw [hx])
    rw [strs, List.length_map] at hbd
    refine ⟨ss.take len, ⟨hbd, some a, cap, by rw [hlen]; exact hcs, fun hne => ?_⟩, fun s hs => by simpa [maxLen] using hws s (List.mem_of_mem_take hs)⟩
    have h0 : 0 < len := by
      refine Nat.pos_of_ne_zero fun e => hne ?_
      rw [e]; rfl
    obtain ⟨b, off, rfl⟩ := addr_plain (hcell 0 (by omega)) rfl
    refine ⟨b, off, rfl, World.block_lt_of_cell? W _ (hcell 0 (by omega)), fun i hi => ?_⟩
    rw [hlen] at hi
    have := hcell i (by omega)
    rw [Addr.add_lit] at this
    rw [this, List.getD_eq_getElem?_getD, List.getD_eq_getElem?_getD, List.getElem?_take, if_pos hi]

set_option maxRecDepth 100000 in
/-- A fact, read. -/
theorem trodFact {n : Nat} {cs : List Value} {x : DataW H × List MemPlace} (h : DataW.trod enc Tryz.prog W 0 (fun _ => true) true n 27 cs = some x) (hb : ∀ y es sp, x.1 = .agg [y, .slice es sp] → es.length ≤ 8796093022208) : ∃ f c0 c1, cs = [c0, c1] ∧ FactV W (.agg #[c0, c1]) f ∧ okF f := by
  obtain ⟨y0, y1, m, hx, hl, h0, h1⟩ := trod_struct2 Tryz.underlying27 h
  rw [cellsFact] at hl
  match cs, hl with
  | [c0, c1], _ =>
    have e0 : Tryz.prog.cellsOf 9 = 1 := cellsStr
    have e1 : Tryz.prog.cellsOf 25 = 1 := cellsStrs
    simp only [e0, e1, List.drop_zero, List.drop_succ_cons, List.take_succ_cons, List.take_zero] at h0 h1
    obtain ⟨s, hs, hy0, hsz⟩ := DataW.trod_string Tryz.underlying9 h0
    simp only [List.cons.injEq, and_true] at hs
    obtain ⟨l, hl, hlk⟩ := trodStrs h1 (fun es sp e => hb y0.1 es sp (by rw [hx]; simp [e]))
    exact ⟨(s, l), c0, c1, rfl, ⟨c1, by rw [hs], hl⟩, by simpa [maxLen] using hsz, hlk⟩

end Go.Proofs.YtkihcabplbbjcaaGreatDoor

/- Lists of facts among a call's arguments, opened; what the bound on all that comes in gives. -/
namespace Go.Proofs.YtkihcabplbbjcaaGreatDoor
open Go.RowKit Go.Sort Go.ChangeShapes Go.WideShapes Go.ChangeAt Go.Deep

variable {H : Type} {enc : TypeId × Value → H} {W : World}

theorem bulk_one (d : DataW H) : 1 ≤ Rows.uptoBulk d := by
  cases d with
  | lit l => cases l <;> simp [Rows.uptoBulk]
  | nil => simp [Rows.uptoBulk]
  | ptr d => simp [Rows.uptoBulk]
  | slice elems spare => simp [Rows.uptoBulk]
  | agg parts => simp [Rows.uptoBulk]
  | iface t d => simp [Rows.uptoBulk]
  | map entries => simp [Rows.uptoBulk]
  | held h => simp [Rows.uptoBulk]

theorem bulk_part {d : DataW H} {l : List (DataW H)} (h : d ∈ l) : Rows.uptoBulk d ≤ Rows.uptoBulkAll l := by
  induction l with
  | nil => cases h
  | cons x r ih =>
    simp only [Rows.uptoBulkAll]
    cases List.mem_cons.1 h with
    | inl e => subst e; omega
    | inr e => have := ih e; omega

theorem bulk_length (l : List (DataW H)) : l.length ≤ Rows.uptoBulkAll l := by
  induction l with
  | nil => simp [Rows.uptoBulkAll]
  | cons x r ih => have := bulk_one x; simp only [Rows.uptoBulkAll, List.length_cons]; omega

/-- What the bound says of a fact. -/
theorem bulkFact {d : DataW H} (h : Rows.uptoBulk d ≤ 1048576) : ∀ y es sp, d = .agg [y, .slice es sp] → es.length ≤ 8796093022208 := by
  intro y es sp e
  subst e
  have := bulk_length es
  simp only [Rows.uptoBulk, Rows.uptoBulkAll] at h
  omega

theorem okF_no : okF noFact := ⟨by simp [noFact], fun s hs => by cases hs⟩

set_option maxRecDepth 100000 in
theorem openFacts {b0 : Nat} {v : Value} {d : DataW H} {p : List MemPlace} (hv : Value.okWide Tryz.prog W .any b0 24 v) (h : DataW.Trod enc Tryz.prog W 0 (fun _ => true) true 24 v d p) (hb : Rows.uptoBulk d ≤ 1048576) : ∃ l, Facts W v l ∧ l.length ≤ 1048576 ∧ ∀ k, okF (l.getD k noFact) := by
  obtain ⟨a0, len0, cap0, rfl⟩ := okWide_slice Tryz.underlying24 hv
  obtain ⟨fuel, hf⟩ := h
  rcases open_slice Tryz.underlying24 hf with ⟨hcs, _⟩ | ⟨a, len, cap, m, n, D, Pl, hcs, _, hl, hm, hmm, hx, hel⟩
  · simp [Value.cells] at hcs
    obtain ⟨rfl, rfl, rfl⟩ := hcs
    exact ⟨[], ⟨by simp, none, 0, rfl, fun e => absurd rfl e⟩, by simp, fun k => by simpa using okF_no⟩
  · simp [Value.cells] at hcs
    obtain ⟨rfl, rfl, rfl⟩ := hcs
    simp only [if_true] at hmm
    subst hmm
    rw [cellsFact] at hel
    have hd : d = .slice ((List.range len0).map D) ((List.range (m - len0)).map fun j => D (len0 + j)) := by
      have := congrArg Prod.fst hx
      simpa using this
    subst hd
    have hbulk : ∀ i, i < len0 → Rows.uptoBulk (D i) ≤ 1048576 := fun i hi => by
      have h1 := bulk_part (d := D i) (l := (List.range len0).map D) (List.mem_map.2 ⟨i, List.mem_range.2 hi, rfl⟩)
      simp only [Rows.uptoBulk] at hb
      omega
    have hlen : len0 ≤ 1048576 := by
      have h1 := bulk_length ((List.range len0).map D)
      simp only [Rows.uptoBulk] at hb
      simp at h1
      omega
    have each : ∀ i : Fin len0, ∃ f : FactD, ∃ c0 c1, W.cell? ((a.add (i.1 * 2)).add 0) = some c0 ∧ W.cell? ((a.add (i.1 * 2)).add 1) = some c1 ∧ FactV W (.agg #[c0, c1]) f ∧ okF f := fun i => by
      obtain ⟨cs', k1, k2⟩ := hel i.1 (by omega)
      obtain ⟨f, c0, c1, e, hF, hk⟩ := trodFact k2 (bulkFact (hbulk i.1 i.2))
      subst e
      obtain ⟨_, _, hcell⟩ := World.cells?_some k1
      exact ⟨f, c0, c1, by simpa using hcell 0 (by omega), by simpa using hcell 1 (by omega), hF, hk⟩
    refine ⟨List.ofFn fun i => Classical.choose (each i), ⟨by simp; omega, some a, m, by simp, fun hne => ?_⟩, by simpa using hlen, fun k => ?_⟩
    rotate_left
    · rw [List.getD_eq_getElem?_getD, List.getElem?_ofFn]
      by_cases hk : k < len0
      · rw [dif_pos hk]
        obtain ⟨c0, c1, _, _, _, hok⟩ := Classical.choose_spec (each ⟨k, hk⟩)
        exact hok
      · rw [dif_neg hk]; exact okF_no
    have h0 : 0 < len0 := by
      refine Nat.pos_of_ne_zero fun e => hne ?_
      subst e; rfl
    have hplain : ∃ b off, a = ⟨b, off, none⟩ := by
      obtain ⟨f, c0, c1, k0, _⟩ := each ⟨0, h0⟩
      refine addr_plain (W := W) (i := 0) (v := c0) ?_ rfl
      simpa [Addr.add] using k0
    obtain ⟨b, off, rfl⟩ := hplain
    have hlt : b < W.heap.size := by
      obtain ⟨f, c0, c1, k0, _⟩ := each ⟨0, h0⟩
      rw [Addr.add_lit, Addr.add_lit] at k0
      exact World.block_lt_of_cell? W _ k0
    refine ⟨b, off, rfl, hlt, fun i hi => ?_⟩
    have hi' : i < len0 := by simpa using hi
    have e : (List.ofFn fun i => Classical.choose (each i)).getD i noFact = Classical.choose (each ⟨i, hi'⟩) := by
      rw [List.getD_eq_getElem?_getD, List.getElem?_ofFn, dif_pos hi']; rfl
    rw [e]
    obtain ⟨c0, c1, k0, k1, ⟨s, es, hs⟩, _⟩ := Classical.choose_spec (each ⟨i, hi'⟩)
    rw [Addr.add_lit, Addr.add_lit] at k0 k1
    have e2 : c0 = .string (Classical.choose (each ⟨i, hi'⟩)).1 ∧ c1 = s := by simpa using es
    exact ⟨by rw [← e2.1]; exact k0, s, by rw [← e2.2]; exact k1, hs⟩

end Go.Proofs.YtkihcabplbbjcaaGreatDoor

/- Programs among a call's arguments, opened, with what the bound on all that comes in says of their text. -/
namespace Go.Proofs.YtkihcabplbbjcaaGreatDoor
open Go.RowKit Go.Sort Go.ChangeShapes Go.WideShapes Go.ChangeAt Go.Deep

variable {H : Type} {enc : TypeId × Value → H} {W : World}

/-- How a type's values are opened, beside their data. -/
def OpensR {α : Type} (enc : TypeId × Value → H) (W : World) (ty : TypeId) (K : Kind α) (ok : α → DataW H → Prop) : Prop :=
  ∀ n cs x, DataW.trod enc Tryz.prog W 0 (fun _ => true) true n ty cs = some x → Sized ty x.1 → ∃ a, K.is Anyw W cs a ∧ ok a x.1

theorem sum_bulk {α : Type} {μ : α → Nat} : ∀ (l : List α) (ds : List (DataW H)), l.length = ds.length → (∀ (i : Nat) a d, l[i]? = some a → ds[i]? = some d → μ a ≤ Rows.uptoBulk d) → (l.map μ).sum ≤ Rows.uptoBulkAll ds
  | [], [], _, _ => by simp [Rows.uptoBulkAll]
  | a :: l, d :: ds, h, hk => by
    have h1 := sum_bulk l ds (by simpa using h) (fun i a d ha hd => hk (i + 1) a d (by simpa using ha) (by simpa using hd))
    have h2 := hk 0 a d rfl rfl
    simp only [List.map_cons, List.sum_cons, Rows.uptoBulkAll]
    omega
  | [], _ :: _, h, _ => by simp at h
  | _ :: _, [], h, _ => by simp at h

def muT (t : TermD) : Nat := t.2.length + 1
def muA (a : AtomD) : Nat := a.name.length + 3 + (a.terms.map muT).sum
def muR (r : RuleD) : Nat := muA r.head + (r.body.map muA).sum

end Go.Proofs.YtkihcabplbbjcaaGreatDoor

/- A proof among a call's arguments, opened: how it lies in memory, and how much of it there is at most. -/
namespace Go.Proofs.YtkihcabplbbjcaaGreatDoor
open Go.RowKit Go.Sort Go.ChangeShapes Go.WideShapes Go.ChangeAt Go.Deep

variable {H : Type} {enc : TypeId × Value → H} {W : World}

theorem cellsProof7 : Tryz.prog.cellsOf 30 = 4 := by kernel_rfl
theorem cellsProofs7 : Tryz.prog.cellsOf 28 = 1 := by kernel_rfl
theorem cellsInt7 : Tryz.prog.cellsOf 3 = 1 := by kernel_rfl
theorem bytesProof7 : Tryz.prog.bytesOf 30 = 72 := by kernel_rfl

set_option maxRecDepth 100000 in
theorem openSlQ {α : Type} {K : Kind α} {T ty : TypeId} {ok : α → DataW H → Prop} {Q : DataW H → Prop} (hT : Tryz.prog.underlying T = some (.slice ty)) (hc : Tryz.prog.cellsOf ty = K.size) (hby : 16 ≤ Tryz.prog.bytesOf ty) (hsz : 0 < K.size) (E : ∀ n cs x, DataW.trod enc Tryz.prog W 0 (fun _ => true) true n ty cs = some x → Sized ty x.1 → Q x.1 → ∃ a, K.is Anyw W cs a ∧ ok a x.1)
    {n : Nat} {v : Value} {x : DataW H × List MemPlace} (hf : DataW.trod enc Tryz.prog W 0 (fun _ => true) true n T [v] = some x) (hw : Sized T x.1) (hQ : ∀ es sp, x.1 = .slice es sp → ∀ d ∈ es, Q d) : ∃ l ds, K.sl Anyw W v l ∧ l.length = ds.length ∧ Rows.uptoBulkAll ds + 1 ≤ Rows.uptoBulk x.1 ∧ ∀ (i : Nat) a d, l[i]? = some a → ds[i]? = some d → ok a d := by
  rcases open_slice hT hf with ⟨hcs, hx0⟩ | ⟨a, len, cap, m, k, D, Pl, hcs, _, hl, hm, hmm, hx, hel⟩
  · simp only [List.cons.injEq, and_true] at hcs
    exact ⟨[], [], by rw [hcs]; exact K.sl_nil _ _ _ _, rfl, by rw [hx0]; simp [Rows.uptoBulk, Rows.uptoBulkAll], fun i a d h => by simp at h⟩
  · simp only [List.cons.injEq, and_true] at hcs
    simp only [if_true] at hmm
    subst hmm
    rw [hc] at hel
    have hd : x.1 = .slice ((List.range len).map D) ((List.range (m - len)).map fun j => D (len + j)) := by rw [hx]
    have hw2 : (decide ((len + (m - len)) * Tryz.prog.bytesOf ty ≤ reachBytes) && ((DataW.weightsAll Tryz.prog ty ((List.range len).map D)).all (· ≤ reachBytes) && (DataW.weightsAll Tryz.prog ty ((List.range (m - len)).map fun j => D (len + j))).all (· ≤ reachBytes))) = true := by
      have := hw
      unfold Sized at this
      rw [hd, DataW.weights, hT] at this
      simpa using this
    simp only [Bool.and_eq_true] at hw2
    have hlen : len ≤ 8796093022208 := by
      have h1 : (len + (m - len)) * Tryz.prog.bytesOf ty ≤ reachBytes := of_decide_eq_true hw2.1
      have h2 : len * 16 ≤ (len + (m - len)) * Tryz.prog.bytesOf ty := Nat.mul_le_mul (by omega) hby
      unfold reachBytes at h1
      omega
    have each : ∀ i : Fin len, ∃ z : α, ∃ cs', W.cells? 0 (a.add (i.1 * K.size)) K.size = some cs' ∧ K.is Anyw W cs' z ∧ ok z (D i.1) := fun i => by
      obtain ⟨cs', k1, k2⟩ := hel i.1 (by omega)
      obtain ⟨z, hz, hk⟩ := E _ _ _ k2 (sized_all hw2.2.1 _ (List.mem_map.2 ⟨i.1, List.mem_range.2 i.2, rfl⟩)) (hQ _ _ hd _ (List.mem_map.2 ⟨i.1, List.mem_range.2 i.2, rfl⟩))
      exact ⟨z, cs', k1, hz, hk⟩
    refine ⟨List.ofFn fun i => Classical.choose (each i), (List.range len).map D, ⟨⟨by simpa using hlen, ?_⟩, some a, m, by rw [hcs]; simp, fun hne => ?_⟩, by simp, by rw [hd]; simp only [Rows.uptoBulk]; omega, fun i z d hz hdz => ?_⟩
    · rw [hcs]; show len ≤ m; omega
    rotate_left
    · have hi' : i < len := by simpa using (List.getElem?_eq_some_iff.1 hz).1
      rw [List.getElem?_ofFn, dif_pos hi'] at hz
      injection hz with hz
      subst hz
      rw [List.getElem?_map, List.getElem?_range hi'] at hdz
      simp only [Option.map_some, Option.some.injEq] at hdz
      subst hdz
      obtain ⟨_, _, _, hok⟩ := Classical.choose_spec (each ⟨i, hi'⟩)
      exact hok
    have h0 : 0 < len := by
      refine Nat.pos_of_ne_zero fun e => hne ?_
      subst e; rfl
    have first : ∀ i : Fin len, ∀ cs', W.cells? 0 (a.add (i.1 * K.size)) K.size = some cs' → ∀ j u, cs'[j]? = some u → W.cell? ((a.add (i.1 * K.size)).add j) = some u := fun i cs' k1 j u hu => by
      obtain ⟨h1, _, hcell⟩ := World.cells?_some k1
      have hj : j < cs'.length := (List.getElem?_eq_some_iff.1 hu).1
      have := hcell j (by omega)
      rw [this]; exact hu
    have hplain : ∃ b off, a = ⟨b, off, none⟩ := by
      obtain ⟨cs', k0, k1, _⟩ := Classical.choose_spec (each ⟨0, h0⟩)
      have hl := K.len k1
      have hu : cs'[0]? = some (cs'[0]'(by omega)) := List.getElem?_eq_getElem (by omega)
      have := first ⟨0, h0⟩ cs' k0 0 _ hu
      exact addr_plainP (W := W) (v := cs'[0]'(by omega)) (by simpa [Addr.add] using this)
    obtain ⟨b, off, rfl⟩ := hplain
    have hlt : b < W.heap.size := by
      obtain ⟨cs', k0, k1, _⟩ := Classical.choose_spec (each ⟨0, h0⟩)
      have hl := K.len k1
      have hu : cs'[0]? = some (cs'[0]'(by omega)) := List.getElem?_eq_getElem (by omega)
      have := first ⟨0, h0⟩ cs' k0 0 _ hu
      rw [Addr.add_lit, Addr.add_lit] at this
      exact World.block_lt_of_cell? W _ this
    refine ⟨b, off, rfl, trivial, hlt, fun i z hi => ?_⟩
    have hi' : i < len := by simpa using (List.getElem?_eq_some_iff.1 hi).1
    rw [List.getElem?_ofFn, dif_pos hi'] at hi
    injection hi with hi
    subst hi
    obtain ⟨cs', k0, k1, _⟩ := Classical.choose_spec (each ⟨i, hi'⟩)
    refine ⟨cs', k1, fun j u hu => ?_⟩
    have := first ⟨i, hi'⟩ cs' k0 j u hu
    rw [Addr.add_lit, Addr.add_lit] at this
    exact this

set_option maxRecDepth 100000 in
theorem opensProof : ∀ (m : Nat) (n : Nat) (cs : List Value) (x : DataW H × List MemPlace), DataW.trod enc Tryz.prog W 0 (fun _ => true) true n 30 cs = some x → Sized 30 x.1 → Rows.uptoBulk x.1 ≤ m → ∃ a, (prfK m).is Anyw W cs a ∧ cnt m a ≤ Rows.uptoBulk x.1
  | 0, n, cs, x, _, _, hb => by have := bulk_one x.1; omega
  | m + 1, n, cs, x, h, hw, hb => by
    obtain ⟨y0, y1, y2, k, hx, hl, h0, h1, h2⟩ := trod_struct3 Tryz.underlying30 h
    rw [cellsProof7] at hl
    match cs, hl with
    | [c0, c1, c2, c3], _ =>
      have e0 : Tryz.prog.cellsOf 27 = 2 := cellsFactP
      have e1 : Tryz.prog.cellsOf 3 = 1 := cellsInt7
      have e2 : Tryz.prog.cellsOf 28 = 1 := cellsProofs7
      simp only [e0, e1, e2, List.drop_zero, List.drop_succ_cons, List.take_succ_cons, List.take_zero] at h0 h1 h2
      rw [hx] at hb hw ⊢
      unfold Sized at hw
      rw [DataW.weights, Tryz.underlying30] at hw
      simp only [List.map_cons, List.map_nil, DataW.weightsEach, List.all_append, Bool.and_eq_true] at hw
      have hw0 : Sized 27 y0.1 := hw.1
      have hw2 : Sized 28 y2.1 := hw.2.2.1
      simp only [Rows.uptoBulk, Rows.uptoBulkAll] at hb ⊢
      obtain ⟨f, ⟨fs, hfe, hfs⟩, _⟩ := opensFact _ _ _ h0 hw0
      obtain ⟨r, hr, _⟩ := DataW.trod_int Tryz.underlying3 h1
      obtain ⟨l, ds, g1, g2, g3, g4⟩ := openSlQ (K := prfK m) (ok := fun a d => cnt m a ≤ Rows.uptoBulk d) (Q := fun d => Rows.uptoBulk d ≤ m) Tryz.underlying28 (by rw [cellsProof7, prfK_size]) (by rw [bytesProof7]; decide) (by rw [prfK_size]; decide) (fun n cs x h hw hq => opensProof m n cs x h hw hq) h2 hw2 (fun es sp he d hd => by
        have q1 := bulk_part hd
        rw [he] at hb
        simp only [Rows.uptoBulk] at hb
        omega)
      have hsum := sum_bulk (μ := cnt m) l ds g2 g4
      refine ⟨.mk f r l, ⟨fs, c3, ?_, hfs, g1⟩, ?_⟩
      · simp only [List.cons.injEq, and_true] at hfe hr
        show [c0, c1, c2, c3] = [.string f.1, fs, .int .i64 r, c3]
        rw [hfe.1, hfe.2, hr]
      · show 1 + (l.map (cnt m)).sum ≤ _
        omega

set_option maxRecDepth 100000 in
theorem openProof (M : Nat) {b0 : Nat} {v : Value} {d : DataW H} {p : List MemPlace} (hv : Value.okWide Tryz.prog W .any b0 30 v) (h : DataW.Trod enc Tryz.prog W 0 (fun _ => true) true 30 v d p) (hw : Sized 30 d) (hb : Rows.uptoBulk d ≤ M + 1) : ∃ x, PrfV M Anyw W v x ∧ cnt (M + 1) x ≤ M + 1 := by
  obtain ⟨cs, rfl, hsz⟩ := okWide_struct Tryz.underlying30 hv
  obtain ⟨fuel, hf⟩ := h
  obtain ⟨x, ⟨s, kv, e, h1, h2⟩, hc⟩ := opensProof (M + 1) fuel cs.toList (d, p) (by simpa [Value.cells] using hf) hw hb
  refine ⟨x, ⟨s, kv, ?_, h1, h2⟩, Nat.le_trans hc hb⟩
  have : cs = #[.string x.fact.1, s, .int .i64 x.rule, kv] := by
    cases cs
    simp_all
  rw [this]

end Go.Proofs.YtkihcabplbbjcaaGreatDoor
