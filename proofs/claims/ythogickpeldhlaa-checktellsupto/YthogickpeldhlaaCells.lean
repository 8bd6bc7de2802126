/- How elements lie in cells, and lists of them; rows of a call's own, appended to. Nothing of the program. -/
import Derived.Test.YthogickpeldhlaaOwn
import Derived.Test.YthogickpeldhlaaSyn
import Derived.Test.YthogickpeldhlaaTn
namespace Go.Proofs.Ythogickpeldhlaa
open Go.RowKit Go.Sort

theorem below_trans {n m : Nat} {a b c : World} (h : Below n a b) (k : Below m b c) (hm : n ≤ m := by omega) : Below n a c :=
  ⟨k.os.trans h.os, k.tape.trans h.tape, k.output.trans h.output, Nat.le_trans h.size k.size, fun i hi => (k.block i (Nat.lt_of_lt_of_le hi hm)).trans (h.block i hi)⟩

/-- How an element lies in its cells; B: where what it leads to may lie. -/
structure Kind (α : Type) where
  size : Nat
  is : (Nat → Prop) → World → List Value → α → Prop
  len : ∀ {B : Nat → Prop} {w : World} {c : List Value} {a : α}, is B w c a → c.length = size
  one : ∀ {B : Nat → Prop} {w : World} {c : List Value} {a : α}, is B w c a → ∀ u ∈ c, u.oneCell' = true
  kept : ∀ {B : Nat → Prop} {w w' : World} {c : List Value} {a : α}, is B w c a → w.heap.size ≤ w'.heap.size → (∀ k, k < w.heap.size → B k → w'.heap[k]? = w.heap[k]?) → is B w' c a
  mono : ∀ {B B' : Nat → Prop} {w : World} {c : List Value} {a : α}, is B w c a → (∀ k, k < w.heap.size → B k → B' k) → is B' w c a

variable {α : Type}

/-- No longer than its room. -/
def lenOk : Value → Prop
  | .slice _ n c => n ≤ c
  | _ => True

/-- A slice of such elements. -/
def Kind.sl (K : Kind α) (B : Nat → Prop) (w : World) (v : Value) (l : List α) : Prop :=
  (l.length ≤ 8796093022208 ∧ lenOk v) ∧ ∃ a cap, v = .slice a l.length cap ∧ (l ≠ [] → ∃ b off, a = some ⟨b, off, none⟩ ∧ B b ∧ b < w.heap.size ∧
    ∀ i x, l[i]? = some x → ∃ c, K.is B w c x ∧ ∀ j u, c[j]? = some u → w.cell? ⟨b, off + i * K.size + j, none⟩ = some u)

theorem Kind.sl_nil (K : Kind α) (B : Nat → Prop) (w : World) (a : Option Addr) (cap : Nat) : K.sl B w (.slice a 0 cap) [] := ⟨⟨by simp, Nat.zero_le _⟩, a, cap, rfl, fun h => absurd rfl h⟩

theorem Kind.sl_kept {K : Kind α} {B : Nat → Prop} {w w' : World} {v : Value} {l : List α} (h : K.sl B w v l) (hs : w.heap.size ≤ w'.heap.size) (hk : ∀ k, k < w.heap.size → B k → w'.heap[k]? = w.heap[k]?) : K.sl B w' v l := by
  obtain ⟨h0, a, cap, rfl, h1⟩ := h
  refine ⟨h0, a, cap, rfl, fun hl => ?_⟩
  obtain ⟨b, off, rfl, hB, hb, hc⟩ := h1 hl
  refine ⟨b, off, rfl, hB, Nat.lt_of_lt_of_le hb hs, fun i x hx => ?_⟩
  obtain ⟨c, c1, c2⟩ := hc i x hx
  exact ⟨c, K.kept c1 hs hk, fun j u hu => by rw [World.cell?_of_block (w := w) (hk b hb hB)]; exact c2 j u hu⟩

theorem Kind.sl_mono {K : Kind α} {B B' : Nat → Prop} {w : World} {v : Value} {l : List α} (h : K.sl B w v l) (hk : ∀ k, k < w.heap.size → B k → B' k) : K.sl B' w v l := by
  obtain ⟨h0, a, cap, rfl, h1⟩ := h
  refine ⟨h0, a, cap, rfl, fun hl => ?_⟩
  obtain ⟨b, off, rfl, hB, hb, hc⟩ := h1 hl
  refine ⟨b, off, rfl, hk b hb hB, hb, fun i x hx => ?_⟩
  obtain ⟨c, c1, c2⟩ := hc i x hx
  exact ⟨c, K.mono c1 hk, c2⟩

theorem Kind.slice {K : Kind α} {B : Nat → Prop} {w : World} {v : Value} {l : List α} (h : K.sl B w v l) : ∃ a cap, v = .slice a l.length cap := by
  obtain ⟨_, a, cap, rfl, _⟩ := h; exact ⟨a, cap, rfl⟩

/-- From lo on. -/
abbrev From (lo : Nat) : Nat → Prop := fun k => lo ≤ k

theorem Kind.sl_turned {K : Kind α} {p lo : Nat} {w w' : World} {v : Value} {l : List α} (h : K.sl (From lo) w v l) (k : Tn p w w') (hp : p < lo) : K.sl (From lo) w' v l :=
  Kind.sl_kept h k.size fun i hi hB => k.block i hi (by have : lo ≤ i := hB; omega)
theorem Kind.is_turned (K : Kind α) {p lo : Nat} {w w' : World} {c : List Value} {a : α} (h : K.is (From lo) w c a) (k : Tn p w w') (hp : p < lo) : K.is (From lo) w' c a :=
  K.kept h k.size fun i hi hB => k.block i hi (by have : lo ≤ i := hB; omega)

/-- A row of such elements that a call owns. -/
def Kind.own (K : Kind α) (ty : TypeId) (lo : Nat) (w : World) (v : Value) (l : List α) : Prop :=
  ∃ xs, w.ownsRow lo ty K.size v l.length xs ∧ ∀ i x, l[i]? = some x → ∃ c, K.is (fun k => lo ≤ k ∧ v.ownBlock ≠ some k) w c x ∧ ∀ j u, c[j]? = some u → xs[i * K.size + j]? = some u

theorem Kind.own_nil (K : Kind α) (ty : TypeId) (lo : Nat) (w : World) : K.own ty lo w (.slice none 0 0) [] := ⟨[], World.ownsRow_nil w lo ty K.size, fun i x h => by simp at h⟩

theorem Kind.own_turned {K : Kind α} {ty : TypeId} {p lo : Nat} {w w' : World} {v : Value} {l : List α} (h : K.own ty lo w v l) (k : Tn p w w') (hp : p < lo) : K.own ty lo w' v l := by
  obtain ⟨xs, ho, hx⟩ := h
  refine ⟨xs, ⟨ho.1, ?_⟩, fun i x hi => ?_⟩
  · rcases ho.2 with e | ⟨g, cap, cur, rfl, hbg, hg, r⟩
    · exact Or.inl e
    · exact Or.inr ⟨g, cap, cur, rfl, hbg, by rw [k.block g (Array.getElem?_eq_some_iff.1 hg).1 (by omega)]; exact hg, r⟩
  · obtain ⟨c, c1, c2⟩ := hx i x hi
    exact ⟨c, K.kept c1 k.size fun j hj hB => k.block j hj (by have := hB.1; omega), c2⟩

theorem Kind.own_lt {K : Kind α} {ty : TypeId} {lo : Nat} {w : World} {v : Value} {l : List α} (h : K.own ty lo w v l) {k : Nat} (hk : v.ownBlock = some k) : lo ≤ k ∧ k < w.heap.size := by
  obtain ⟨xs, ho, _⟩ := h; exact ho.lt k hk

theorem Kind.own_slice {K : Kind α} {ty : TypeId} {lo : Nat} {w : World} {v : Value} {l : List α} (h : K.own ty lo w v l) : ∃ a cap, v = .slice a l.length cap := by
  obtain ⟨xs, ho, _⟩ := h
  rcases ho.2 with ⟨rfl, e⟩ | ⟨g, cap, cur, rfl, _⟩
  · exact ⟨none, 0, by rw [e]⟩
  · exact ⟨_, cap, rfl⟩

theorem Kind.own_sl {K : Kind α} {ty : TypeId} {lo : Nat} {w : World} {v : Value} {l : List α} (h : K.own ty lo w v l) (hl : l.length ≤ 8796093022208) : K.sl (From lo) w v l := by
  obtain ⟨xs, ho, hx⟩ := h
  rcases ho.2 with ⟨rfl, e⟩ | ⟨g, cap, cur, rfl, hbg, hg, hnc, _⟩
  · have : l = [] := List.eq_nil_of_length_eq_zero e
    subst this
    exact K.sl_nil _ _ _ _
  · refine ⟨⟨hl, hnc⟩, _, cap, rfl, fun _ => ⟨g, 0, rfl, hbg, (Array.getElem?_eq_some_iff.1 hg).1, fun i x hi => ?_⟩⟩
    obtain ⟨c, c1, c2⟩ := hx i x hi
    refine ⟨c, K.mono c1 fun k _ h => h.1, fun j u hu => ?_⟩
    have := ho.cells (g := g) rfl _ u (c2 j u hu)
    rw [Addr.add_lit] at this
    rw [Nat.add_assoc]; exact this

/-- A row of one, made. -/
theorem Kind.own_one {K : Kind α} {ty : TypeId} {lo : Nat} {w : World} {c : List Value} {x : α} (hc : K.is (From lo) w c x) (hlo : lo ≤ w.heap.size) : K.own ty lo (w.alloc (.cells c.toArray ty)) (.slice (some ⟨w.heap.size, 0, none⟩) 1 1) [x] := by
  refine ⟨c, ?_, fun i y hi => ?_⟩
  · refine ⟨by rw [K.len hc]; simp, Or.inr ⟨w.heap.size, 1, c.toArray, rfl, hlo, ?_, by simp, by simp [maxLen], by simp [K.len hc], by have := K.len hc; simp [← this]⟩⟩
    exact heap_alloc_new w _
  · cases i with
    | zero =>
      simp at hi
      subst hi
      refine ⟨c, K.kept (K.mono hc fun k hk h => ⟨h, by simp [Value.ownBlock]; omega⟩) (by simp) fun k hk _ => Below.heap_alloc w _ k hk, fun j u hu => by rw [Nat.zero_mul, Nat.zero_add]; exact hu⟩
    | succ i => simp at hi

/-- append of one element more, in a block of its own. -/
theorem Kind.own_append {P : Program} {K : Kind α} {t ty : TypeId} {lo bytes : Nat} {w : World} {v : Value} {l : List α} (h : K.own ty lo w v l) {i : TypeInfo} {z : Value}
    (ht : P.underlying t = some (.slice ty)) (hi : P.info? ty = some i) (hz : i.zero = some z) (hsize : i.size = K.size) (hby : i.bytes = bytes) (hzs : z.cells.size = K.size) (hsz : 0 < K.size) (hb : bytes ≤ 100)
    {c : List Value} {x : α} (hc : K.is (fun k => lo ≤ k ∧ v.ownBlock ≠ some k) w c x) (hl : l.length + 1 ≤ 1099511627776) (hlo : lo ≤ w.heap.size) :
    ∃ v' w', (Builtin.append_ #[t, t] t #[v, .slice (some ⟨w.heap.size, 0, none⟩) 1 1]).run P (w.alloc (.cells c.toArray ty)) = .ok v' w' ∧ K.own ty lo w' v' (l ++ [x]) ∧ (w.alloc (.cells c.toArray ty)).grownBy w' v.ownBlock := by
  obtain ⟨xs, ho, hx⟩ := h
  have hcl := K.len hc
  have hnews : ∀ j u, c[j]? = some u → (w.alloc (.cells c.toArray ty)).cell? ((⟨w.heap.size, 0, none⟩ : Addr).add j) = some u := by
    intro j u hu
    rw [Addr.add_lit, Nat.zero_add, cell_of_row _ w.heap.size j c.toArray ty (0, 0) (heap_alloc_new w _)]
    simpa using hu
  obtain ⟨v', w', hrun, r1, r2, r3, r4⟩ := append_own (P := P) (w.alloc (.cells c.toArray ty)) lo t t ty i z K.size bytes ht hi hz hsize hby hzs hsz v l.length xs (ho.alloc _) ⟨w.heap.size, 0, none⟩ 1 1 c (by rw [hcl]; simp) hnews
    (K.one hc) (by simp only [maxLen]; omega) (Nat.le_trans (Nat.mul_le_mul hl hb) (by omega)) (by simp; omega)
  have hxl : xs.length = l.length * K.size := ho.1
  have own' : ∀ k, k < w.heap.size → v'.ownBlock = some k → v.ownBlock = some k := fun k hk e => by
    rcases r4 k e with e | e
    · exact e
    · simp at e; omega
  have keep : ∀ k, k < w.heap.size → (lo ≤ k ∧ v.ownBlock ≠ some k) → w'.heap[k]? = w.heap[k]? := fun k hk hB =>
    (r2.block k (by simp; omega) (fun e => hB.2 e.symm)).trans (Below.heap_alloc w _ k hk)
  have hsz' : w.heap.size ≤ w'.heap.size := Nat.le_trans (by simp) r2.size
  have move : ∀ {c : List Value} {y : α}, K.is (fun k => lo ≤ k ∧ v.ownBlock ≠ some k) w c y → K.is (fun k => lo ≤ k ∧ v'.ownBlock ≠ some k) w' c y := fun {c y} hy =>
    K.kept (K.mono hy fun k hk hB => (⟨⟨hB.1, fun e => hB.2 (own' k hk e)⟩, hB⟩ : (lo ≤ k ∧ v'.ownBlock ≠ some k) ∧ (lo ≤ k ∧ v.ownBlock ≠ some k))) hsz' (fun k hk hB => keep k hk hB.2) |> fun h => K.mono h fun _ _ hB => hB.1
  refine ⟨v', w', hrun, ⟨xs ++ c, by simpa using r1, fun j y hj => ?_⟩, r2⟩
  by_cases hjl : j < l.length
  · rw [List.getElem?_append_left hjl] at hj
    obtain ⟨d, d1, d2⟩ := hx j y hj
    refine ⟨d, move d1, fun q u hu => ?_⟩
    have := d2 q u hu
    rw [List.getElem?_append_left (List.getElem?_eq_some_iff.1 this).1]; exact this
  · rw [List.getElem?_append_right (by omega)] at hj
    have hj' : j = l.length := by
      have := (List.getElem?_eq_some_iff.1 hj).1
      simp at this; omega
    subst hj'
    simp at hj
    subst hj
    refine ⟨c, move hc, fun q u hu => ?_⟩
    rw [List.getElem?_append_right (by omega), hxl, Nat.add_sub_cancel_left]; exact hu

/-- A term lies in two cells. -/
def termK : Kind TermD where
  size := 2
  is := fun _ _ c t => c = [.bool t.1, .string (bs t.2)]
  len := fun h => by subst h; rfl
  one := fun h u hu => by subst h; simp at hu; rcases hu with rfl | rfl <;> rfl
  kept := fun h _ _ => h
  mono := fun h _ => h

/-- A text lies in one. -/
def strK : Kind Bs where
  size := 1
  is := fun _ _ c t => c = [.string (bs t)]
  len := fun h => by subst h; rfl
  one := fun h u hu => by subst h; simp at hu; subst hu; rfl
  kept := fun h _ _ => h
  mono := fun h _ => h

/-- An atom lies in three. -/
def atomK : Kind AtomD where
  size := 3
  is := fun B w c a => ∃ v, c = [.bool a.no, .string (bs a.name), v] ∧ termK.sl B w v a.terms
  len := fun ⟨v, h, _⟩ => by subst h; rfl
  one := fun ⟨v, h, hs⟩ u hu => by
    subst h
    obtain ⟨a, cap, rfl⟩ := Kind.slice hs
    simp at hu; rcases hu with rfl | rfl | rfl <;> rfl
  kept := fun ⟨v, h, hs⟩ h1 h2 => ⟨v, h, Kind.sl_kept hs h1 h2⟩
  mono := fun ⟨v, h, hs⟩ h1 => ⟨v, h, Kind.sl_mono hs h1⟩

/-- A rule lies in four. -/
def ruleK : Kind RuleD where
  size := 4
  is := fun B w c a => ∃ v u, c = [.bool a.head.no, .string (bs a.head.name), v, u] ∧ termK.sl B w v a.head.terms ∧ atomK.sl B w u a.body
  len := fun ⟨v, u, h, _, _⟩ => by subst h; rfl
  one := fun ⟨v, x, h, hs, hb⟩ u hu => by
    subst h
    obtain ⟨a, cap, rfl⟩ := Kind.slice hs
    obtain ⟨a, cap, rfl⟩ := Kind.slice hb
    simp at hu; rcases hu with rfl | rfl | rfl | rfl <;> rfl
  kept := fun ⟨v, u, h, hs, hb⟩ h1 h2 => ⟨v, u, h, Kind.sl_kept hs h1 h2, Kind.sl_kept hb h1 h2⟩
  mono := fun ⟨v, u, h, hs, hb⟩ h1 => ⟨v, u, h, Kind.sl_mono hs h1, Kind.sl_mono hb h1⟩

/-- An element as a value, what it leads to lying from lo on. -/
def Kind.val (K : Kind α) (lo : Nat) (w : World) (v : Value) (a : α) : Prop := ∃ c, v = .agg c.toArray ∧ K.is (From lo) w c a

/-- An element's cells. -/
theorem Kind.sl_at {α : Type} {K : Kind α} {B : Nat → Prop} {w : World} {a : Option Addr} {n cap i : Nat} {l : List α} {x : α} (h : K.sl B w (.slice a n cap) l) (hi : l[i]? = some x) :
    ∃ b off c, a = some ⟨b, off, none⟩ ∧ b < w.heap.size ∧ K.is B w c x ∧ ∀ j u, c[j]? = some u → w.cell? ⟨b, off + i * K.size + j, none⟩ = some u := by
  obtain ⟨_, a', cap', e, h1⟩ := h
  simp only [Value.slice.injEq] at e
  obtain ⟨rfl, _, _⟩ := e
  obtain ⟨b, off, rfl, _, hb, hc⟩ := h1 (by intro e; rw [e] at hi; simp at hi)
  obtain ⟨c, c1, c2⟩ := hc i x hi
  exact ⟨b, off, c, rfl, hb, c1, c2⟩

/-- Anywhere. -/
abbrev Anyw : Nat → Prop := fun _ => True
theorem Kind.sl_any {α : Type} {K : Kind α} {B : Nat → Prop} {w : World} {v : Value} {l : List α} (h : K.sl B w v l) : K.sl Anyw w v l := Kind.sl_mono h fun _ _ _ => trivial
theorem Kind.sl_later {α : Type} {K : Kind α} {w w' : World} {v : Value} {l : List α} (h : K.sl Anyw w v l) (k : Later w w') : K.sl Anyw w' v l := Kind.sl_kept h k.size fun _ hi _ => k.block hi
theorem Kind.sl_below {α : Type} {K : Kind α} {w w' : World} {v : Value} {l : List α} (h : K.sl Anyw w v l) (k : Below w.heap.size w w') : K.sl Anyw w' v l := Kind.sl_kept h k.size fun i hi _ => k.block i hi

end Go.Proofs.Ythogickpeldhlaa
