/- Texts of this claim, one behind the other. -/
import Derived.Test.YtkijmalapjiopaaGreatJ1
import Derived.Test.YtkijmalapjiopaaGreatJ3
import Derived.Deep.LoopGhost
import Derived.BigQuiet
import Derived.Shelf.SlSortCmp.QuietGrown
import Derived.Deep.QuietTactic
import Derived.Maps.StringElems
import Derived.Maps.Ext
import Derived.Maps.RangeWalk
import Derived.Test.YtkijmalapjiopaaGreatJ2
/- Worlds in which of what was there only one block has turned. -/
namespace Go.Proofs.YtkijmalapjiopaaGreat
open Go.RowKit Go.Sort

/-- Of what was there only block p may have turned. -/
structure Tn (p : Nat) (w w' : World) : Prop where
  os : w'.os = w.os
  tape : w'.tape = w.tape
  output : w'.output = w.output
  size : w.heap.size ≤ w'.heap.size
  block : ∀ k, k < w.heap.size → k ≠ p → w'.heap[k]? = w.heap[k]?

theorem Tn.refl (p : Nat) (w : World) : Tn p w w := ⟨rfl, rfl, rfl, Nat.le_refl _, fun _ _ _ => rfl⟩
theorem Tn.trans {p : Nat} {a b c : World} (h : Tn p a b) (k : Tn p b c) : Tn p a c :=
  ⟨k.os.trans h.os, k.tape.trans h.tape, k.output.trans h.output, Nat.le_trans h.size k.size, fun i hi ho => (k.block i (Nat.lt_of_lt_of_le hi h.size) ho).trans (h.block i hi ho)⟩
theorem Tn.of_below {p : Nat} {a b : World} (h : Below a.heap.size a b) : Tn p a b := ⟨h.os, h.tape, h.output, h.size, fun k hk _ => h.block k hk⟩
theorem Tn.below {p n : Nat} {a b : World} (h : Tn p a b) (hp : n ≤ p) (hn : n ≤ a.heap.size) : Below n a b :=
  ⟨h.os, h.tape, h.output, h.size, fun k hk => h.block k (by omega) (by omega)⟩
theorem Tn.cell {p : Nat} {a b : World} (h : Tn p a b) {x : Addr} (hx : x.block < a.heap.size) (ho : x.block ≠ p) : b.cell? x = a.cell? x := World.cell?_of_block (w := a) (h.block _ hx ho)
theorem Tn.drewN {p : Nat} {a b : World} (h : Tn p a b) (n : Nat) : Tn p a (b.drewN n) := ⟨h.os, h.tape, h.output, h.size, h.block⟩
theorem Tn.drew {p : Nat} {a b : World} (h : Tn p a b) : Tn p a b.drew := ⟨h.os, h.tape, h.output, h.size, h.block⟩
theorem Tn.alloc {p : Nat} {a b : World} (h : Tn p a b) (o : Obj) : Tn p a (b.alloc o) :=
  h.trans (Tn.of_below (((Later.refl b).alloc o).below))
theorem heap_setCell_other (w : World) (x : Addr) (v : Value) {k : Nat} (h : k ≠ x.block) : (w.setCell x v).heap[k]? = w.heap[k]? := by
  simp only [World.setCell, Array.getElem?_modify]
  rw [if_neg (fun e => h e.symm)]
theorem size_setCell (w : World) (x : Addr) (v : Value) : (w.setCell x v).heap.size = w.heap.size := by simp [World.setCell]
theorem Tn.setCell {p : Nat} {a b : World} (h : Tn p a b) {x : Addr} (hx : x.block = p ∨ a.heap.size ≤ x.block) (v : Value) : Tn p a (b.setCell x v) :=
  ⟨h.os, h.tape, h.output, by rw [size_setCell]; exact h.size, fun k hk ho => by rw [heap_setCell_other _ _ _ (by rcases hx with e | e <;> omega)]; exact h.block k hk ho⟩

end Go.Proofs.YtkijmalapjiopaaGreat

/- How elements lie in cells, and lists of them; rows of a call's own, appended to. Nothing of the program. -/
namespace Go.Proofs.YtkijmalapjiopaaGreat
open Go.RowKit Go.Sort

theorem below_trans {n m : Nat} {a b c : World} (h : Below n a b) (k : Below m b c) (hm : n ≤ m := by omega) : Below n a c :=
  ⟨k.os.trans h.os, k.tape.trans h.tape, k.output.trans h.output, Nat.le_trans h.size k.size, fun i hi => (k.block i (Nat.lt_of_lt_of_le hi hm)).trans (h.block i hi)⟩

/-- How an element lies in its cells; B: where what it leads to may lie. -/
structure Kind (α : Type) where
  size : Nat
  is : (Nat → Prop) → World → List Value → α → Prop
  len : ∀ {B : Nat → Prop} {w : World} {c : List Value} {a : α}, is B w c a → c.length = size
  one : ∀ {B : Nat → Prop} {w : World} {c : List Value} {a : α}, is B w c a → ∀ u ∈ c, u.oneCell' = true
  kept : ∀ {B : Nat → Prop} {w w' : World} {c : List Value} {a : α}, is B w c a → w.heap.size ≤ w'.heap.size → (∀ k, k < w.heap.size → B k → w'.heap[k]? = w.heap[k]?) → is B w' c a
  mono : ∀ {B B' : Nat → Prop} {w : World} {c : List Value} {a : α}, is B w c a → (∀ k, k < w.heap.size → B k → B' k) → is B' w c a

variable {α : Type}

/-- No longer than its room. -/
def lenOk : Value → Prop
  | .slice _ n c => n ≤ c
  | _ => True

/-- A slice of such elements. -/
def Kind.sl (K : Kind α) (B : Nat → Prop) (w : World) (v : Value) (l : List α) : Prop :=
  (l.length ≤ 8796093022208 ∧ lenOk v) ∧ ∃ a cap, v = .slice a l.length cap ∧ (l ≠ [] → ∃ b off, a = some ⟨b, off, none⟩ ∧ B b ∧ b < w.heap.size ∧
    ∀ i x, l[i]? = some x → ∃ c, K.is B w c x ∧ ∀ j u, c[j]? = some u → w.cell? ⟨b, off + i * K.size + j, none⟩ = some u)

theorem Kind.sl_nil (K : Kind α) (B : Nat → Prop) (w : World) (a : Option Addr) (cap : Nat) : K.sl B w (.slice a 0 cap) [] := ⟨⟨by simp, Nat.zero_le _⟩, a, cap, rfl, fun h => absurd rfl h⟩

theorem Kind.sl_kept {K : Kind α} {B : Nat → Prop} {w w' : World} {v : Value} {l : List α} (h : K.sl B w v l) (hs : w.heap.size ≤ w'.heap.size) (hk : ∀ k, k < w.heap.size → B k → w'.heap[k]? = w.heap[k]?) : K.sl B w' v l := by
  obtain ⟨h0, a, cap, rfl, h1⟩ := h
  refine ⟨h0, a, cap, rfl, fun hl => ?_⟩
  obtain ⟨b, off, rfl, hB, hb, hc⟩ := h1 hl
  refine ⟨b, off, rfl, hB, Nat.lt_of_lt_of_le hb hs, fun i x hx => ?_⟩
  obtain ⟨c, c1, c2⟩ := hc i x hx
  exact ⟨c, K.kept c1 hs hk, fun j u hu => by rw [World.cell?_of_block (w := w) (hk b hb hB)]; exact c2 j u hu⟩

theorem Kind.sl_mono {K : Kind α} {B B' : Nat → Prop} {w : World} {v : Value} {l : List α} (h : K.sl B w v l) (hk : ∀ k, k < w.heap.size → B k → B' k) : K.sl B' w v l := by
  obtain ⟨h0, a, cap, rfl, h1⟩ := h
  refine ⟨h0, a, cap, rfl, fun hl => ?_⟩
  obtain ⟨b, off, rfl, hB, hb, hc⟩ := h1 hl
  refine ⟨b, off, rfl, hk b hb hB, hb, fun i x hx => ?_⟩
  obtain ⟨c, c1, c2⟩ := hc i x hx
  exact ⟨c, K.mono c1 hk, c2⟩

theorem Kind.slice {K : Kind α} {B : Nat → Prop} {w : World} {v : Value} {l : List α} (h : K.sl B w v l) : ∃ a cap, v = .slice a l.length cap := by
  obtain ⟨_, a, cap, rfl, _⟩ := h; exact ⟨a, cap, rfl⟩

/-- From lo on. -/
abbrev From (lo : Nat) : Nat → Prop := fun k => lo ≤ k

/-- A row of such elements that a call owns. -/
def Kind.own (K : Kind α) (ty : TypeId) (lo : Nat) (w : World) (v : Value) (l : List α) : Prop :=
  ∃ xs, w.ownsRow lo ty K.size v l.length xs ∧ ∀ i x, l[i]? = some x → ∃ c, K.is (fun k => lo ≤ k ∧ v.ownBlock ≠ some k) w c x ∧ ∀ j u, c[j]? = some u → xs[i * K.size + j]? = some u

theorem Kind.own_nil (K : Kind α) (ty : TypeId) (lo : Nat) (w : World) : K.own ty lo w (.slice none 0 0) [] := ⟨[], World.ownsRow_nil w lo ty K.size, fun i x h => by simp at h⟩

theorem Kind.own_turned {K : Kind α} {ty : TypeId} {p lo : Nat} {w w' : World} {v : Value} {l : List α} (h : K.own ty lo w v l) (k : Tn p w w') (hp : p < lo) : K.own ty lo w' v l := by
  obtain ⟨xs, ho, hx⟩ := h
  refine ⟨xs, ⟨ho.1, ?_⟩, fun i x hi => ?_⟩
  · rcases ho.2 with e | ⟨g, cap, cur, rfl, hbg, hg, r⟩
    · exact Or.inl e
    · exact Or.inr ⟨g, cap, cur, rfl, hbg, by rw [k.block g (Array.getElem?_eq_some_iff.1 hg).1 (by omega)]; exact hg, r⟩
  · obtain ⟨c, c1, c2⟩ := hx i x hi
    exact ⟨c, K.kept c1 k.size fun j hj hB => k.block j hj (by have := hB.1; omega), c2⟩

theorem Kind.own_lt {K : Kind α} {ty : TypeId} {lo : Nat} {w : World} {v : Value} {l : List α} (h : K.own ty lo w v l) {k : Nat} (hk : v.ownBlock = some k) : lo ≤ k ∧ k < w.heap.size := by
  obtain ⟨xs, ho, _⟩ := h; exact ho.lt k hk

theorem Kind.own_slice {K : Kind α} {ty : TypeId} {lo : Nat} {w : World} {v : Value} {l : List α} (h : K.own ty lo w v l) : ∃ a cap, v = .slice a l.length cap := by
  obtain ⟨xs, ho, _⟩ := h
  rcases ho.2 with ⟨rfl, e⟩ | ⟨g, cap, cur, rfl, _⟩
  · exact ⟨none, 0, by rw [e]⟩
  · exact ⟨_, cap, rfl⟩

theorem Kind.own_sl {K : Kind α} {ty : TypeId} {lo : Nat} {w : World} {v : Value} {l : List α} (h : K.own ty lo w v l) (hl : l.length ≤ 8796093022208) : K.sl (From lo) w v l := by
  obtain ⟨xs, ho, hx⟩ := h
  rcases ho.2 with ⟨rfl, e⟩ | ⟨g, cap, cur, rfl, hbg, hg, hnc, _⟩
  · have : l = [] := List.eq_nil_of_length_eq_zero e
    subst this
    exact K.sl_nil _ _ _ _
  · refine ⟨⟨hl, hnc⟩, _, cap, rfl, fun _ => ⟨g, 0, rfl, hbg, (Array.getElem?_eq_some_iff.1 hg).1, fun i x hi => ?_⟩⟩
    obtain ⟨c, c1, c2⟩ := hx i x hi
    refine ⟨c, K.mono c1 fun k _ h => h.1, fun j u hu => ?_⟩
    have := ho.cells (g := g) rfl _ u (c2 j u hu)
    rw [Addr.add_lit] at this
    rw [Nat.add_assoc]; exact this

/-- A row of one, made. -/
theorem Kind.own_one {K : Kind α} {ty : TypeId} {lo : Nat} {w : World} {c : List Value} {x : α} (hc : K.is (From lo) w c x) (hlo : lo ≤ w.heap.size) : K.own ty lo (w.alloc (.cells c.toArray ty)) (.slice (some ⟨w.heap.size, 0, none⟩) 1 1) [x] := by
  refine ⟨c, ?_, fun i y hi => ?_⟩
  · refine ⟨by rw [K.len hc]; simp, Or.inr ⟨w.heap.size, 1, c.toArray, rfl, hlo, ?_, by simp, by simp [maxLen], by simp [K.len hc], by have := K.len hc; simp [← this]⟩⟩
    exact heap_alloc_new w _
  · cases i with
    | zero =>
      simp at hi
      subst hi
      refine ⟨c, K.kept (K.mono hc fun k hk h => ⟨h, by simp [Value.ownBlock]; omega⟩) (by simp) fun k hk _ => Below.heap_alloc w _ k hk, fun j u hu => by rw [Nat.zero_mul, Nat.zero_add]; exact hu⟩
    | succ i => simp at hi

/-- append of one element more, in a block of its own. -/
theorem Kind.own_append {P : Program} {K : Kind α} {t ty : TypeId} {lo bytes : Nat} {w : World} {v : Value} {l : List α} (h : K.own ty lo w v l) {i : TypeInfo} {z : Value}
    (ht : P.underlying t = some (.slice ty)) (hi : P.info? ty = some i) (hz : i.zero = some z) (hsize : i.size = K.size) (hby : i.bytes = bytes) (hzs : z.cells.size = K.size) (hsz : 0 < K.size) (hb : bytes ≤ 100)
    {c : List Value} {x : α} (hc : K.is (fun k => lo ≤ k ∧ v.ownBlock ≠ some k) w c x) (hl : l.length + 1 ≤ 1099511627776) (hlo : lo ≤ w.heap.size) :
    ∃ v' w', (Builtin.append_ #[t, t] t #[v, .slice (some ⟨w.heap.size, 0, none⟩) 1 1]).run P (w.alloc (.cells c.toArray ty)) = .ok v' w' ∧ K.own ty lo w' v' (l ++ [x]) ∧ (w.alloc (.cells c.toArray ty)).grownBy w' v.ownBlock := by
  obtain ⟨xs, ho, hx⟩ := h
  have hcl := K.len hc
  have hnews : ∀ j u, c[j]? = some u → (w.alloc (.cells c.toArray ty)).cell? ((⟨w.heap.size, 0, none⟩ : Addr).add j) = some u := by
    intro j u hu
    rw [Addr.add_lit, Nat.zero_add, cell_of_row _ w.heap.size j c.toArray ty (0, 0) (heap_alloc_new w _)]
    simpa using hu
  obtain ⟨v', w', hrun, r1, r2, r3, r4⟩ := append_own (P := P) (w.alloc (.cells c.toArray ty)) lo t t ty i z K.size bytes ht hi hz hsize hby hzs hsz v l.length xs (ho.alloc _) ⟨w.heap.size, 0, none⟩ 1 1 c (by rw [hcl]; simp) hnews
    (K.one hc) (by simp only [maxLen]; omega) (Nat.le_trans (Nat.mul_le_mul hl hb) (by omega)) (by simp; omega)
  have hxl : xs.length = l.length * K.size := ho.1
  have own' : ∀ k, k < w.heap.size → v'.ownBlock = some k → v.ownBlock = some k := fun k hk e => by
    rcases r4 k e with e | e
    · exact e
    · simp at e; omega
  have keep : ∀ k, k < w.heap.size → (lo ≤ k ∧ v.ownBlock ≠ some k) → w'.heap[k]? = w.heap[k]? := fun k hk hB =>
    (r2.block k (by simp; omega) (fun e => hB.2 e.symm)).trans (Below.heap_alloc w _ k hk)
  have hsz' : w.heap.size ≤ w'.heap.size := Nat.le_trans (by simp) r2.size
  have move : ∀ {c : List Value} {y : α}, K.is (fun k => lo ≤ k ∧ v.ownBlock ≠ some k) w c y → K.is (fun k => lo ≤ k ∧ v'.ownBlock ≠ some k) w' c y := fun {c y} hy =>
    K.kept (K.mono hy fun k hk hB => (⟨⟨hB.1, fun e => hB.2 (own' k hk e)⟩, hB⟩ : (lo ≤ k ∧ v'.ownBlock ≠ some k) ∧ (lo ≤ k ∧ v.ownBlock ≠ some k))) hsz' (fun k hk hB => keep k hk hB.2) |> fun h => K.mono h fun _ _ hB => hB.1
  refine ⟨v', w', hrun, ⟨xs ++ c, by simpa using r1, fun j y hj => ?_⟩, r2⟩
  by_cases hjl : j < l.length
  · rw [List.getElem?_append_left hjl] at hj
    obtain ⟨d, d1, d2⟩ := hx j y hj
    refine ⟨d, move d1, fun q u hu => ?_⟩
    have := d2 q u hu
    rw [List.getElem?_append_left (List.getElem?_eq_some_iff.1 this).1]; exact this
  · rw [List.getElem?_append_right (by omega)] at hj
    have hj' : j = l.length := by
      have := (List.getElem?_eq_some_iff.1 hj).1
      simp at this; omega
    subst hj'
    simp at hj
    subst hj
    refine ⟨c, move hc, fun q u hu => ?_⟩
    rw [List.getElem?_append_right (by omega), hxl, Nat.add_sub_cancel_left]; exact hu

/-- A term lies in two cells. -/
def termK : Kind TermD where
  size := 2
  is := fun _ _ c t => c = [.bool t.1, .string (bs t.2)]
  len := fun h => by subst h; rfl
  one := fun h u hu => by subst h; simp at hu; rcases hu with rfl | rfl <;> rfl
  kept := fun h _ _ => h
  mono := fun h _ => h

/-- A text lies in one. -/
def strK : Kind Bs where
  size := 1
  is := fun _ _ c t => c = [.string (bs t)]
  len := fun h => by subst h; rfl
  one := fun h u hu => by subst h; simp at hu; subst hu; rfl
  kept := fun h _ _ => h
  mono := fun h _ => h

/-- An atom lies in three. -/
def atomK : Kind AtomD where
  size := 3
  is := fun B w c a => ∃ v, c = [.bool a.no, .string (bs a.name), v] ∧ termK.sl B w v a.terms
  len := fun ⟨v, h, _⟩ => by subst h; rfl
  one := fun ⟨v, h, hs⟩ u hu => by
    subst h
    obtain ⟨a, cap, rfl⟩ := Kind.slice hs
    simp at hu; rcases hu with rfl | rfl | rfl <;> rfl
  kept := fun ⟨v, h, hs⟩ h1 h2 => ⟨v, h, Kind.sl_kept hs h1 h2⟩
  mono := fun ⟨v, h, hs⟩ h1 => ⟨v, h, Kind.sl_mono hs h1⟩

/-- A rule lies in four. -/
def ruleK : Kind RuleD where
  size := 4
  is := fun B w c a => ∃ v u, c = [.bool a.head.no, .string (bs a.head.name), v, u] ∧ termK.sl B w v a.head.terms ∧ atomK.sl B w u a.body
  len := fun ⟨v, u, h, _, _⟩ => by subst h; rfl
  one := fun ⟨v, x, h, hs, hb⟩ u hu => by
    subst h
    obtain ⟨a, cap, rfl⟩ := Kind.slice hs
    obtain ⟨a, cap, rfl⟩ := Kind.slice hb
    simp at hu; rcases hu with rfl | rfl | rfl | rfl <;> rfl
  kept := fun ⟨v, u, h, hs, hb⟩ h1 h2 => ⟨v, u, h, Kind.sl_kept hs h1 h2, Kind.sl_kept hb h1 h2⟩
  mono := fun ⟨v, u, h, hs, hb⟩ h1 => ⟨v, u, h, Kind.sl_mono hs h1, Kind.sl_mono hb h1⟩

/-- An element as a value, what it leads to lying from lo on. -/
def Kind.val (K : Kind α) (lo : Nat) (w : World) (v : Value) (a : α) : Prop := ∃ c, v = .agg c.toArray ∧ K.is (From lo) w c a

/-- An element's cells. -/
theorem Kind.sl_at {α : Type} {K : Kind α} {B : Nat → Prop} {w : World} {a : Option Addr} {n cap i : Nat} {l : List α} {x : α} (h : K.sl B w (.slice a n cap) l) (hi : l[i]? = some x) :
    ∃ b off c, a = some ⟨b, off, none⟩ ∧ b < w.heap.size ∧ K.is B w c x ∧ ∀ j u, c[j]? = some u → w.cell? ⟨b, off + i * K.size + j, none⟩ = some u := by
  obtain ⟨_, a', cap', e, h1⟩ := h
  simp only [Value.slice.injEq] at e
  obtain ⟨rfl, _, _⟩ := e
  obtain ⟨b, off, rfl, _, hb, hc⟩ := h1 (by intro e; rw [e] at hi; simp at hi)
  obtain ⟨c, c1, c2⟩ := hc i x hi
  exact ⟨b, off, c, rfl, hb, c1, c2⟩

/-- Anywhere. -/
abbrev Anyw : Nat → Prop := fun _ => True
theorem Kind.sl_any {α : Type} {K : Kind α} {B : Nat → Prop} {w : World} {v : Value} {l : List α} (h : K.sl B w v l) : K.sl Anyw w v l := Kind.sl_mono h fun _ _ _ => trivial
theorem Kind.sl_later {α : Type} {K : Kind α} {w w' : World} {v : Value} {l : List α} (h : K.sl Anyw w v l) (k : Later w w') : K.sl Anyw w' v l := Kind.sl_kept h k.size fun _ hi _ => k.block hi
theorem Kind.sl_below {α : Type} {K : Kind α} {w w' : World} {v : Value} {l : List α} (h : K.sl Anyw w v l) (k : Below w.heap.size w w') : K.sl Anyw w' v l := Kind.sl_kept h k.size fun i hi _ => k.block i hi

end Go.Proofs.YtkijmalapjiopaaGreat

/- Maps from texts to texts: what variables stand for, in the reference. -/
namespace Go.Proofs.YtkijmalapjiopaaGreat
open Go.RowKit Go.Sort Go.Maps

/-- Block b holds what a list tells of variables. -/
def EnvM (w : World) (b n : Nat) (l : List BindD) : Prop :=
  ∃ D : DataW Unit, w.ownsMap Tryz.prog 9 (plainElem Tryz.prog 9) b n D ∧ ∀ s : Bs, Maps.has D (.string s) = (getB l (bs s)).isSome ∧ ∀ t, getB l (bs s) = some t → ∀ z, D.atKey (.string s) z = .lit (.string (raw t))

theorem EnvM.made (w : World) : EnvM (w.alloc (.map #[] 0)) w.heap.size 0 [] := ⟨.map [], World.ownsMap_made _ _ _ _, fun _ => ⟨rfl, fun t h => by cases h⟩⟩
theorem EnvM.lt {w : World} {b n : Nat} {l : List BindD} (h : EnvM w b n l) : b < w.heap.size := by obtain ⟨D, h, _⟩ := h; exact h.lt
theorem EnvM.block {w w' : World} {b n : Nat} {l : List BindD} (h : EnvM w b n l) (e : w'.heap[b]? = w.heap[b]?) : EnvM w' b n l := by obtain ⟨D, h, hf⟩ := h; exact ⟨D, owns_block h e, hf⟩
theorem EnvM.later {w w' : World} {b n : Nat} {l : List BindD} (h : EnvM w b n l) (k : Later w w') : EnvM w' b n l := h.block (k.block h.lt)
theorem EnvM.below {w w' : World} {b n : Nat} {l : List BindD} (h : EnvM w b n l) (k : Below w.heap.size w w') : EnvM w' b n l := h.block (k.block b h.lt)
theorem EnvM.mono {w : World} {b n m : Nat} {l : List BindD} (h : EnvM w b n l) (hn : n ≤ m) : EnvM w b m l := by obtain ⟨D, h, hf⟩ := h; exact ⟨D, h.mono hn, hf⟩
theorem EnvM.isMap {w : World} {b n : Nat} {l : List BindD} (h : EnvM w b n l) : ∃ es c, w.heap[b]? = some (.map es c) := by
  obtain ⟨D, ⟨es, c, hb, _⟩, _⟩ := h
  exact ⟨es, c, hb⟩

theorem zeroStrE (w : World) : (zeroValue 9).run Tryz.prog w = .ok (.string ByteArray.empty) w := by kernel_rfl

set_option maxRecDepth 100000 in
theorem EnvM.look {w : World} {b n : Nat} {l : List BindD} (h : EnvM w b n l) {s : Bs} (hs : s.length ≤ maxLen) : (Instr.lookup 32 (.map (some b)) (.string (bs s)) true).run Tryz.prog w = .ok (.tuple #[.string ((getB l (bs s)).getD ByteArray.empty), .bool (getB l (bs s)).isSome]) w := by
  obtain ⟨D, hown, hf⟩ := h
  obtain ⟨h1, h2⟩ := hf s
  obtain ⟨v, ps, hrun, hv⟩ := hown.look_ok (string_keyed Tryz.underlying9) Tryz.underlying32 (zeroStrE w) (plainElem_string Tryz.underlying9 (by simp)) (key_mk Tryz.underlying9 hs)
  obtain ⟨t, rfl, hz, _⟩ := plainElem_string_inv Tryz.underlying9 hv
  simp only [Prod.mk.injEq] at hz
  rw [hrun, h1]
  cases hg : getB l (bs s) with
  | none =>
    rw [hg] at h1
    have h3 := Maps.atKey_of_not_has (D := D) (k := .string s) h1 (.lit (.string (ByteArray.empty).data.toList))
    rw [h3] at hz
    have hz := hz.1
    injection hz with hz
    injection hz with hz
    have : t = ByteArray.empty := by apply raw_inj; exact hz.symm
    rw [this]; rfl
  | some x =>
    rw [h2 x hg] at hz
    have hz := hz.1
    injection hz with hz
    injection hz with hz
    have : t = x := by apply raw_inj; exact hz.symm
    rw [this]; rfl

set_option maxRecDepth 100000 in
theorem EnvM.store {w : World} {b n : Nat} {l : List BindD} (h : EnvM w b n l) (hn : n < maxLen) {s : Bs} (hs : s.length ≤ maxLen) (hg : getB l (bs s) = none) {x : ByteArray} (hx : x.size ≤ maxLen) :
    ∃ w', (Instr.mapUpdate 32 (.map (some b)) (.string (bs s)) (.string x)).run Tryz.prog w = .ok () w' ∧ EnvM w' b (n + 1) (l ++ [(bs s, x)]) ∧ w.grownBy w' (some b) := by
  obtain ⟨D, hown, hf⟩ := h
  obtain ⟨w', hrun, r1, r2⟩ := hown.update (string_keyed Tryz.underlying9) Tryz.underlying32 hn (key_mk Tryz.underlying9 hs) (plainElem_string Tryz.underlying9 hx)
  refine ⟨w', hrun, ⟨_, r1, fun t => ?_⟩, r2⟩
  have e1 : getB (l ++ [(bs s, x)]) (bs t) = if t = s then some x else getB l (bs t) := by
    rw [getB_append]
    by_cases e : t = s
    · subst e; rw [hg, if_pos rfl]; simp [getB]
    · rw [if_neg e]
      cases getB l (bs t) with
      | some y => rfl
      | none =>
        have : bs s ≠ bs t := fun h => e (bs_inj h).symm
        simp [getB, this]
  rw [e1]
  by_cases e : t = s
  · subst e
    rw [if_pos rfl]
    exact ⟨by rw [has_put_same hown.isMap (keyS _)]; rfl, fun y hy z => by cases hy; rw [atKey_put_same hown.isMap (keyS _)]; rfl⟩
  · rw [if_neg e]
    exact ⟨by rw [has_put_other (str_ne e), (hf t).1], fun y hy z => by rw [atKey_put_other (str_ne e)]; exact (hf t).2 y hy z⟩

end Go.Proofs.YtkijmalapjiopaaGreat

/- Sorting by a three-way comparison, plain; lists of binds in their order. Nothing of the program. -/
namespace Go.Proofs.YtkijmalapjiopaaGreat

variable {α : Type} {c : α → α → Int}

theorem Three.le_trans (h : Three c) {a b d : α} (h1 : c a b ≤ 0) (h2 : c b d ≤ 0) : c a d ≤ 0 := by
  by_cases e1 : c a b = 0
  · rw [h.zero _ _ e1]; exact h2
  · by_cases e2 : c b d = 0
    · rw [← h.zero _ _ e2]; exact h1
    · have := h.trans a b d (by omega) (by omega)
      omega

theorem Three.anti (h : Three c) {a b : α} (h1 : c a b ≤ 0) (h2 : c b a ≤ 0) : a = b := h.zero a b (by have := h.swap a b; omega)

theorem rise_ext (h : Three c) : ∀ {s t : List α}, s.Pairwise (fun a b => c a b < 0) → t.Pairwise (fun a b => c a b < 0) → (∀ x, x ∈ s ↔ x ∈ t) → s = t
  | [], [], _, _, _ => rfl
  | [], b :: t, _, _, e => absurd ((e b).2 List.mem_cons_self) (by simp)
  | a :: s, [], _, _, e => absurd ((e a).1 List.mem_cons_self) (by simp)
  | a :: s, b :: t, hs, ht, e => by
    have hs' := List.pairwise_cons.1 hs
    have ht' := List.pairwise_cons.1 ht
    have hab : a = b := by
      rcases List.mem_cons.1 ((e a).1 List.mem_cons_self) with h1 | h1
      · exact h1
      · rcases List.mem_cons.1 ((e b).2 List.mem_cons_self) with h2 | h2
        · exact h2.symm
        · have x1 := ht'.1 a h1
          have x2 := hs'.1 b h2
          have := h.swap a b
          omega
    subst hab
    have irr : c a a = 0 := h.refl a
    rw [rise_ext h hs'.2 ht'.2 fun x => ⟨fun hx => ?_, fun hx => ?_⟩]
    · rcases List.mem_cons.1 ((e x).1 (List.mem_cons_of_mem _ hx)) with h1 | h1
      · subst h1; have := hs'.1 x hx; omega
      · exact h1
    · rcases List.mem_cons.1 ((e x).2 (List.mem_cons_of_mem _ hx)) with h1 | h1
      · subst h1; have := ht'.1 x hx; omega
      · exact h1

theorem sorted_unique (h : Three c) : ∀ {l m : List α}, l.Perm m → l.Pairwise (fun a b => c a b ≤ 0) → m.Pairwise (fun a b => c a b ≤ 0) → l = m
  | [], m, hp, _, _ => hp.nil_eq
  | a :: l, [], hp, _, _ => by simpa using hp.length_eq
  | a :: l, b :: m, hp, hl, hm => by
    have hl' := List.pairwise_cons.1 hl
    have hm' := List.pairwise_cons.1 hm
    have hab : a = b := by
      rcases List.mem_cons.1 (hp.mem_iff.1 List.mem_cons_self) with h1 | h1
      · exact h1
      · rcases List.mem_cons.1 (hp.mem_iff.2 (List.mem_cons_self (a := b) (l := m))) with h2 | h2
        · exact h2.symm
        · exact h.anti (hl'.1 b h2) (hm'.1 a h1)
    subst hab
    rw [sorted_unique h (List.Perm.cons_inv hp) hl'.2 hm'.2]

/-- Sorted. -/
def sortBy (c : α → α → Int) (l : List α) : List α := l.mergeSort fun a b => decide (c a b ≤ 0)

theorem sortBy_perm (l : List α) : (sortBy c l).Perm l := List.mergeSort_perm _ _
theorem sortBy_sorted (h : Three c) (l : List α) : (sortBy c l).Pairwise fun a b => c a b ≤ 0 := by
  have := List.pairwise_mergeSort (le := fun a b => decide (c a b ≤ 0)) (fun a b d h1 h2 => by
    simp only [decide_eq_true_eq] at *
    exact h.le_trans h1 h2) (fun a b => by
    simp only [Bool.or_eq_true, decide_eq_true_eq]
    have := h.swap a b
    omega) l
  exact this.imp fun h => by simpa using h

theorem sortBy_of (h : Three c) {l m : List α} (hp : m.Perm l) (hs : m.Pairwise fun a b => c a b ≤ 0) : m = sortBy c l :=
  sorted_unique h (hp.trans (sortBy_perm l).symm) hs (sortBy_sorted h l)

theorem strict_of (h : Three c) {l : List α} (hs : l.Pairwise fun a b => c a b ≤ 0) (hn : l.Nodup) : l.Pairwise fun a b => c a b < 0 :=
  (hs.and hn).imp fun {a b} ⟨h1, h2⟩ => by
    rcases Int.lt_or_eq_of_le h1 with h3 | h3
    · exact h3
    · exact absurd (h.zero _ _ h3) h2

theorem strict_nodup (h : Three c) {l : List α} (hs : l.Pairwise fun a b => c a b < 0) : l.Nodup := hs.imp fun {a b} h1 e => by
  subst e
  rw [h.refl] at h1
  omega

/-- One list against another, element by element; who ends first comes first. -/
def cmpX (c : α → α → Int) : List α → List α → Int
  | [], [] => 0
  | [], _ :: _ => -1
  | _ :: _, [] => 1
  | a :: x, b :: y => if c a b ≠ 0 then c a b else cmpX c x y

theorem cmpX_swap (h : Three c) : ∀ x y, cmpX c y x = - cmpX c x y
  | [], [] => rfl
  | [], _ :: _ => rfl
  | _ :: _, [] => rfl
  | a :: x, b :: y => by
    have := h.swap a b
    simp only [cmpX]
    by_cases e : c a b = 0
    · rw [if_neg (by omega), if_neg (by omega)]; exact cmpX_swap h x y
    · rw [if_pos (by omega), if_pos e]; omega

theorem cmpX_zero (h : Three c) : ∀ x y, cmpX c x y = 0 → x = y
  | [], [], _ => rfl
  | [], _ :: _, e => by simp [cmpX] at e
  | _ :: _, [], e => by simp [cmpX] at e
  | a :: x, b :: y, e => by
    simp only [cmpX] at e
    by_cases e' : c a b = 0
    · rw [if_neg (by omega)] at e
      rw [h.zero _ _ e', cmpX_zero h x y e]
    · rw [if_pos e'] at e; exact absurd e e'

theorem cmpX_trans (h : Three c) : ∀ x y z, cmpX c x y < 0 → cmpX c y z < 0 → cmpX c x z < 0
  | [], [], z, h1, _ => by simp [cmpX] at h1
  | [], _ :: _, [], _, h2 => by simp [cmpX] at h2
  | [], _ :: _, _ :: _, _, _ => by simp [cmpX]
  | _ :: _, [], _, h1, _ => by simp [cmpX] at h1
  | _ :: _, _ :: _, [], _, h2 => by simp [cmpX] at h2
  | a :: x, b :: y, d :: z, h1, h2 => by
    simp only [cmpX] at h1 h2 ⊢
    by_cases e1 : c a b = 0
    · rw [if_neg (by omega)] at h1
      have := h.zero _ _ e1
      subst this
      by_cases e2 : c a d = 0
      · rw [if_neg (by omega)] at h2 ⊢; exact cmpX_trans h x y z h1 h2
      · rw [if_pos e2] at h2 ⊢; exact h2
    · rw [if_pos e1] at h1
      by_cases e2 : c b d = 0
      · have := h.zero _ _ e2
        subst this
        rw [if_pos e1]; exact h1
      · rw [if_pos e2] at h2
        have := h.trans a b d h1 h2
        rw [if_pos (by omega)]; exact this

theorem three_cmpX (h : Three c) : Three (cmpX c) := ⟨fun a b => cmpX_swap h a b, cmpX_zero h, cmpX_trans h⟩

/-- Binds, by what varies, then by what it stands for. -/
def cmpB (a b : BindD) : Int := if cmpS a.1 b.1 ≠ 0 then cmpS a.1 b.1 else cmpS a.2 b.2

theorem three_cmpB : Three cmpB where
  swap a b := by
    have h1 := three_cmpS.swap a.1 b.1
    have h2 := three_cmpS.swap a.2 b.2
    unfold cmpB
    by_cases e : cmpS a.1 b.1 = 0
    · rw [if_neg (by omega), if_neg (by omega)]; exact h2
    · rw [if_pos (by omega), if_pos e]; exact h1
  zero a b h := by
    unfold cmpB at h
    by_cases e : cmpS a.1 b.1 = 0
    · rw [if_neg (by omega)] at h
      have := three_cmpS.zero _ _ e
      have := three_cmpS.zero _ _ h
      obtain ⟨a1, a2⟩ := a
      obtain ⟨b1, b2⟩ := b
      simp_all
    · rw [if_pos e] at h; exact absurd h e
  trans a b d h k := by
    unfold cmpB at *
    by_cases e1 : cmpS a.1 b.1 = 0
    · rw [if_neg (by omega)] at h
      rw [three_cmpS.zero _ _ e1]
      by_cases e2 : cmpS b.1 d.1 = 0
      · rw [if_neg (by omega)] at k ⊢; exact three_cmpS.trans _ _ _ h k
      · rw [if_pos e2] at k ⊢; exact k
    · rw [if_pos e1] at h
      by_cases e2 : cmpS b.1 d.1 = 0
      · rw [← three_cmpS.zero _ _ e2, if_pos e1]; exact h
      · rw [if_pos e2] at k
        have := three_cmpS.trans _ _ _ h k
        rw [if_pos (by omega)]; exact this

abbrev cmpBs : List BindD → List BindD → Int := cmpX cmpB
theorem three_cmpBs : Three cmpBs := three_cmpX three_cmpB
abbrev sortB (l : List BindD) : List BindD := sortBy cmpB l

/-- A body's lists: none, if they are too many on the way. -/
def allB (pick : Nat → List FactB) (body : List AtomD) : Option (List (List BindD)) := match metGo pick 0 body [[]] with
  | none => none
  | some ms => some (sortBy cmpBs ((ms.filter fun l => !barredB pick 0 body l).map sortB))

/-- The variables of those that are not Not. -/
def posVars (K : List Bs) (ats : List AtomD) : List Bs := ats.foldl (fun K a => if a.no then K else varsGo K a.terms) K

theorem posVars_cons (K : List Bs) (a : AtomD) (ats : List AtomD) : posVars K (a :: ats) = posVars (if a.no then K else varsGo K a.terms) ats := rfl

theorem posVars_pre : ∀ (ats : List AtomD) (K : List Bs), ∃ r, posVars K ats = K ++ r
  | [], K => ⟨[], by simp [posVars]⟩
  | a :: ats, K => by
    rw [posVars_cons]
    split
    · exact posVars_pre ats K
    · obtain ⟨r1, h1⟩ := varsGo_pre a.terms K
      obtain ⟨r2, h2⟩ := posVars_pre ats (varsGo K a.terms)
      exact ⟨r1 ++ r2, by rw [h2, h1, List.append_assoc]⟩

theorem posVars_nodup : ∀ (ats : List AtomD) {K : List Bs}, K.Nodup → (posVars K ats).Nodup
  | [], _, h => h
  | a :: ats, K, h => by
    rw [posVars_cons]
    split
    · exact posVars_nodup ats h
    · exact posVars_nodup ats (varsGo_nodup _ h)

theorem mem_posVars : ∀ (ats : List AtomD) {K : List Bs} {v : Bs}, v ∈ posVars K ats ↔ v ∈ K ∨ ∃ a ∈ ats, a.no = false ∧ ∃ t ∈ a.terms, t.1 = true ∧ t.2 = v
  | [], K, v => by simp [posVars]
  | a :: ats, K, v => by
    rw [posVars_cons, mem_posVars ats]
    cases ha : a.no
    · simp only [Bool.false_eq_true, if_false, mem_varsGo, List.mem_cons, exists_eq_or_imp, ha, true_and, or_assoc]
    · simp [ha]

theorem mem_meetAllB {a : AtomD} {fs : List FactB} {ls : List (List BindD)} {m : List BindD} : m ∈ meetAllB a fs ls ↔ ∃ l ∈ ls, ∃ f ∈ fs, meetB a f l = some m := by
  simp [meetAllB, List.mem_flatMap, List.mem_filterMap]

theorem keys_take {m : List BindD} {K r : List Bs} (h : keysB m = (K ++ r).map bs) : keysB (m.take K.length) = K.map bs := by
  unfold keysB at *
  rw [List.map_take, h, List.map_append, List.take_append_of_le_length (by simp), List.take_of_length_le (by simp)]

theorem met_mem (pick : Nat → List FactB) : ∀ (ats : List AtomD) (n : Nat) (ls ms : List (List BindD)) (K : List Bs), (∀ l ∈ ls, keysB l = K.map bs) → metGo pick n ats ls = some ms →
    ∀ m, m ∈ ms ↔ (∃ l ∈ ls, ∃ r, m = l ++ r) ∧ keysB m = (posVars K ats).map bs ∧ ∀ i a, ats[i]? = some a → a.no = false → ∃ f ∈ pick (n + i), fillB a m = some f
  | [], n, ls, ms, K, hK, h, m => by
    cases h
    constructor
    · intro hm
      exact ⟨⟨m, hm, [], by simp⟩, hK m hm, fun i a h => by simp at h⟩
    · rintro ⟨⟨l, hl, r, e⟩, hk, _⟩
      have h1 := hK l hl
      have : r = [] := by
        have h2 : (keysB m).length = (keysB l).length := by rw [hk, h1]; simp [posVars]
        rw [e] at h2
        simp [keysB] at h2
        exact h2
      rw [e, this]
      simpa using hl
  | a :: ats, n, ls, ms, K, hK, h, m => by
    simp only [metGo] at h
    rw [posVars_cons]
    have shift : (∀ i b, (a :: ats)[i]? = some b → b.no = false → ∃ f ∈ pick (n + i), fillB b m = some f) ↔ ((a.no = false → ∃ f ∈ pick n, fillB a m = some f) ∧ ∀ i b, ats[i]? = some b → b.no = false → ∃ f ∈ pick (n + 1 + i), fillB b m = some f) := by
      constructor
      · intro H
        refine ⟨H 0 a rfl, fun i b hb => ?_⟩
        have := H (i + 1) b (by simpa using hb)
        rwa [show n + (i + 1) = n + 1 + i by omega] at this
      · rintro ⟨H0, H1⟩ i b hb
        cases i with
        | zero => simp at hb; subst hb; exact H0
        | succ i => have := H1 i b (by simpa using hb); rwa [show n + 1 + i = n + (i + 1) by omega] at this
    rw [shift]
    cases ha : a.no
    · rw [ha] at h
      simp only [Bool.false_eq_true, if_false, true_imp_iff] at h ⊢
      split at h
      · cases h
      · have hK' : ∀ l ∈ meetAllB a (pick n) ls, keysB l = (varsGo K a.terms).map bs := fun l hl => by
          obtain ⟨l0, hl0, f, _, hm⟩ := mem_meetAllB.1 hl
          exact (meetB_ok (hK l0 hl0) hm).2.1
        rw [met_mem pick ats (n + 1) _ ms _ hK' h m]
        constructor
        · rintro ⟨⟨l', hl', r, e⟩, hk, hr⟩
          obtain ⟨l, hl, f, hf, hm⟩ := mem_meetAllB.1 hl'
          obtain ⟨⟨r0, e0⟩, _, hfill⟩ := meetB_ok (hK l hl) hm
          exact ⟨⟨l, hl, r0 ++ r, by rw [e, e0, List.append_assoc]⟩, hk, ⟨f, hf, by rw [e]; exact fillB_append hfill⟩, hr⟩
        · rintro ⟨⟨l, hl, r, e⟩, hk, ⟨f, hf, hfill⟩, hr⟩
          obtain ⟨q, hq⟩ := posVars_pre ats (varsGo K a.terms)
          rw [hq] at hk
          have hk1 := keys_take hk
          obtain ⟨m1, hm1⟩ : ∃ m1, m1 = m.take (varsGo K a.terms).length := ⟨_, rfl⟩
          rw [← hm1] at hk1
          have hsplit : m = m1 ++ m.drop (varsGo K a.terms).length := by rw [hm1]; exact (List.take_append_drop _ _).symm
          obtain ⟨r0, hr0⟩ := varsGo_pre a.terms K
          have hll : l.length = K.length := by
            have := congrArg List.length (hK l hl)
            simpa [keysB] using this
          have hpre : m1 = l ++ r.take (r0.length) := by
            rw [hm1, e, hr0, List.length_append, ← hll, List.take_length_add_append]
          have hf1 : fillB a m1 = some f := by
            rw [← hfill]
            refine fillB_congr fun t ht htv => ?_
            have hmem : bs t.2 ∈ keysB m1 := by
              rw [hk1]
              exact mem_map_bs.2 ((mem_varsGo _).2 (Or.inr ⟨t, ht, htv, rfl⟩))
            obtain ⟨s, hs⟩ := getB_isSome hmem
            rw [hsplit, getB_append, hs]
          refine ⟨⟨m1, mem_meetAllB.2 ⟨l, hl, f, hf, meetB_of (hK l hl) hpre hk1 hf1⟩, _, hsplit⟩, by rw [hq]; exact hk, hr⟩
    · rw [ha] at h
      simp only [if_true, Bool.true_eq_false, false_imp_iff, true_and] at h ⊢
      exact met_mem pick ats (n + 1) ls ms K hK h m

theorem met_nodup (pick : Nat → List FactB) (hp : ∀ i, (pick i).Nodup) : ∀ (ats : List AtomD) (n : Nat) (ls ms : List (List BindD)) (K : List Bs), (∀ l ∈ ls, keysB l = K.map bs) → ls.Nodup → metGo pick n ats ls = some ms → ms.Nodup
  | [], _, _, _, _, _, hn, h => by cases h; exact hn
  | a :: ats, n, ls, ms, K, hK, hn, h => by
    simp only [metGo] at h
    split at h
    · exact met_nodup pick hp ats (n + 1) ls ms K hK hn h
    · split at h
      · cases h
      · refine met_nodup pick hp ats (n + 1) _ ms (varsGo K a.terms) (fun l hl => ?_) ?_ h
        · obtain ⟨l0, hl0, f, _, hm⟩ := mem_meetAllB.1 hl
          exact (meetB_ok (hK l0 hl0) hm).2.1
        · unfold meetAllB
          rw [List.Nodup, List.pairwise_flatMap]
          refine ⟨fun l hl => ?_, ?_⟩
          · rw [List.pairwise_filterMap]
            refine (hp n).imp fun {f g} hfg x hx y hy e => ?_
            subst e
            have h1 := (meetB_ok (hK l hl) hx).2.2
            rw [(meetB_ok (hK l hl) hy).2.2] at h1
            exact hfg (Option.some.inj h1).symm
          · refine (List.Pairwise.and_mem.1 hn).imp fun {l l'} h3 x hx y hy e => ?_
            obtain ⟨hl, hl', hne⟩ := h3
            subst e
            obtain ⟨f, _, hx⟩ := List.mem_filterMap.1 hx
            obtain ⟨g, _, hy⟩ := List.mem_filterMap.1 hy
            obtain ⟨⟨r, e1⟩, _⟩ := meetB_ok (hK l hl) hx
            obtain ⟨⟨r', e2⟩, _⟩ := meetB_ok (hK l' hl') hy
            have hlen : l.length = l'.length := by
              have := congrArg List.length ((hK l hl).trans (hK l' hl').symm)
              simpa [keysB] using this
            exact hne (List.append_inj (e1.symm.trans e2) hlen).1

/-- Of which facts an atom is met. -/
def pickB (fs : List FactB) (at_ : Int) (os : List FactB) : Nat → List FactB := fun n => if (n : Int) = at_ then os else fs

end Go.Proofs.YtkijmalapjiopaaGreat
