/- Texts of this claim, one behind the other. -/
import Derived.Test.YthngiikhgplldaaJC1
import Derived.Test.YthngiikhgplldaaJC2
import Derived.Deep.LoopGhost
import Derived.BigQuiet
import Derived.Shelf.SlSortCmp.QuietGrown
import Derived.Deep.QuietTactic
/- What texts are rules: the document's answer, on lists of bytes; one text behind another. Nothing of the program. -/
namespace Go.Proofs.Ythngiikhgplldaa

/-- Where a text goes on behind blanks and notes ('true': a note has begun). -/
def skipM : Bool → Bs → Bs
  | _, [] => []
  | false, c :: t => if c = 32 ∨ c = 10 then skipM false t else if c = 37 then skipM true t else c :: t
  | true, c :: t => if c = 10 then skipM false t else skipM true t

abbrev skip (l : Bs) : Bs := skipM false l

/-- What was read, and what follows; or what is wrong, and what follows there. -/
inductive Res (α : Type) where
  | ok (a : α) (r : Bs)
  | bad (e : Int) (r : Bs)

def Res.next {α β : Type} (x : Res α) (f : α → Bs → Res β) : Res β :=
  match x with
  | .ok a r => f a r
  | .bad e r => .bad e r

def took (g l : Bs) : Bool × Bs := if g.isPrefixOf (skip l) then (true, (skip l).drop g.length) else (false, skip l)

/-- A word that fits. -/
def word (fits : Bs → Bool) (l : Bs) : Res Bs :=
  if (skip l).takeWhile isSign = [] then .bad 2 (skip l)
  else if fits ((skip l).takeWhile isSign) then .ok ((skip l).takeWhile isSign) ((skip l).drop ((skip l).takeWhile isSign).length)
  else .bad 7 (skip l)

/-- Parts with ',' between: n more at most. -/
def listGo {α : Type} (part : Bs → Res α) : Nat → List α → Bs → Res (List α)
  | n, out, l => if (took [44] l).1 then
      match n with
      | 0 => .bad 5 (took [44] l).2
      | n + 1 => (part (took [44] l).2).next fun a r => listGo part n (out ++ [a]) r
    else .ok out (took [44] l).2

def listP {α : Type} (part : Bs → Res α) (most : Nat) (l : Bs) : Res (List α) := (part l).next fun a r => listGo part (most - 1) [a] r

def mustTake {α : Type} (g : Bs) (a : α) (l : Bs) : Res α := if (took g l).1 then .ok a (took g l).2 else .bad 2 (took g l).2

abbrev TermD := Bool × Bs
structure AtomD where
  no : Bool
  name : Bs
  terms : List TermD
deriving DecidableEq
structure RuleD where
  head : AtomD
  body : List AtomD
deriving DecidableEq

def fitsTerm (w : Bs) : Bool := isNamed w || isVar w
def term (l : Bs) : Res TermD := (word fitsTerm l).next fun w r => .ok (isVar w, w) r
def atom (l : Bs) : Res AtomD := (word isNamed l).next fun w r =>
  if (took [40] r).1 then (listP term 4 (took [40] r).2).next fun ts r => mustTake [41] ⟨false, w, ts⟩ r else .ok ⟨false, w, []⟩ (took [40] r).2
def bodyAtom (l : Bs) : Res AtomD := (atom (took [33] l).2).next fun a r => .ok { a with no := (took [33] l).1 } r
def body (l : Bs) : Res (List AtomD) := listP bodyAtom 5 l
def rule (l : Bs) : Res RuleD := (atom l).next fun a r =>
  if (took [58, 45] r).1 then (body (took [58, 45] r).2).next fun b r => mustTake [46] ⟨a, b⟩ r else mustTake [46] ⟨a, []⟩ (took [58, 45] r).2
def rulesGo : Nat → List RuleD → Bs → Res (List RuleD)
  | n, out, l => if skip l = [] then .ok out [] else
    match n with
    | 0 => .bad 5 (skip l)
    | n + 1 => (rule (skip l)).next fun a r => rulesGo n (out ++ [a]) r
def onlyBody (l : Bs) : Res (List AtomD) := (body l).next fun b r => if skip r = [] then .ok b [] else .bad 2 (skip r)

/-- What is read with something behind it is read with a line feed behind that. -/
def Local {α : Type} (P : Bs → Res α) : Prop := ∀ l a r t, P l = .ok a r → r ≠ [] → P (l ++ 10 :: t) = .ok a (r ++ 10 :: t)
/-- Of nothing nothing remains. -/
def Ends {α : Type} (P : Bs → Res α) : Prop := ∀ a r, P [] = .ok a r → r = []

end Go.Proofs.Ythngiikhgplldaa

/- Worlds in which of what was there only one block has turned. -/
namespace Go.Proofs.Ythngiikhgplldaa
open Go.RowKit Go.Sort

/-- Of what was there only block p may have turned. -/
structure Tn (p : Nat) (w w' : World) : Prop where
  os : w'.os = w.os
  tape : w'.tape = w.tape
  output : w'.output = w.output
  size : w.heap.size ≤ w'.heap.size
  block : ∀ k, k < w.heap.size → k ≠ p → w'.heap[k]? = w.heap[k]?

theorem Tn.refl (p : Nat) (w : World) : Tn p w w := ⟨rfl, rfl, rfl, Nat.le_refl _, fun _ _ _ => rfl⟩
theorem Tn.trans {p : Nat} {a b c : World} (h : Tn p a b) (k : Tn p b c) : Tn p a c :=
  ⟨k.os.trans h.os, k.tape.trans h.tape, k.output.trans h.output, Nat.le_trans h.size k.size, fun i hi ho => (k.block i (Nat.lt_of_lt_of_le hi h.size) ho).trans (h.block i hi ho)⟩
theorem Tn.of_below {p : Nat} {a b : World} (h : Below a.heap.size a b) : Tn p a b := ⟨h.os, h.tape, h.output, h.size, fun k hk _ => h.block k hk⟩
theorem Tn.below {p n : Nat} {a b : World} (h : Tn p a b) (hp : n ≤ p) (hn : n ≤ a.heap.size) : Below n a b :=
  ⟨h.os, h.tape, h.output, h.size, fun k hk => h.block k (by omega) (by omega)⟩
theorem Tn.cell {p : Nat} {a b : World} (h : Tn p a b) {x : Addr} (hx : x.block < a.heap.size) (ho : x.block ≠ p) : b.cell? x = a.cell? x := World.cell?_of_block (w := a) (h.block _ hx ho)
theorem Tn.drewN {p : Nat} {a b : World} (h : Tn p a b) (n : Nat) : Tn p a (b.drewN n) := ⟨h.os, h.tape, h.output, h.size, h.block⟩
theorem Tn.drew {p : Nat} {a b : World} (h : Tn p a b) : Tn p a b.drew := ⟨h.os, h.tape, h.output, h.size, h.block⟩
theorem Tn.alloc {p : Nat} {a b : World} (h : Tn p a b) (o : Obj) : Tn p a (b.alloc o) :=
  h.trans (Tn.of_below (((Later.refl b).alloc o).below))
theorem heap_setCell_other (w : World) (x : Addr) (v : Value) {k : Nat} (h : k ≠ x.block) : (w.setCell x v).heap[k]? = w.heap[k]? := by
  simp only [World.setCell, Array.getElem?_modify]
  rw [if_neg (fun e => h e.symm)]
theorem size_setCell (w : World) (x : Addr) (v : Value) : (w.setCell x v).heap.size = w.heap.size := by simp [World.setCell]
theorem Tn.setCell {p : Nat} {a b : World} (h : Tn p a b) {x : Addr} (hx : x.block = p ∨ a.heap.size ≤ x.block) (v : Value) : Tn p a (b.setCell x v) :=
  ⟨h.os, h.tape, h.output, by rw [size_setCell]; exact h.size, fun k hk ho => by rw [heap_setCell_other _ _ _ (by rcases hx with e | e <;> omega)]; exact h.block k hk ho⟩

end Go.Proofs.Ythngiikhgplldaa

/- How elements lie in cells, and lists of them; rows of a call's own, appended to. Nothing of the program. -/
namespace Go.Proofs.Ythngiikhgplldaa
open Go.RowKit Go.Sort

theorem below_trans {n m : Nat} {a b c : World} (h : Below n a b) (k : Below m b c) (hm : n ≤ m := by omega) : Below n a c :=
  ⟨k.os.trans h.os, k.tape.trans h.tape, k.output.trans h.output, Nat.le_trans h.size k.size, fun i hi => (k.block i (Nat.lt_of_lt_of_le hi hm)).trans (h.block i hi)⟩

/-- How an element lies in its cells; B: where what it leads to may lie. -/
structure Kind (α : Type) where
  size : Nat
  is : (Nat → Prop) → World → List Value → α → Prop
  len : ∀ {B : Nat → Prop} {w : World} {c : List Value} {a : α}, is B w c a → c.length = size
  one : ∀ {B : Nat → Prop} {w : World} {c : List Value} {a : α}, is B w c a → ∀ u ∈ c, u.oneCell' = true
  kept : ∀ {B : Nat → Prop} {w w' : World} {c : List Value} {a : α}, is B w c a → w.heap.size ≤ w'.heap.size → (∀ k, k < w.heap.size → B k → w'.heap[k]? = w.heap[k]?) → is B w' c a
  mono : ∀ {B B' : Nat → Prop} {w : World} {c : List Value} {a : α}, is B w c a → (∀ k, k < w.heap.size → B k → B' k) → is B' w c a

variable {α : Type}

/-- No longer than its room. -/
def lenOk : Value → Prop
  | .slice _ n c => n ≤ c
  | _ => True

/-- A slice of such elements. -/
def Kind.sl (K : Kind α) (B : Nat → Prop) (w : World) (v : Value) (l : List α) : Prop :=
  (l.length ≤ 8796093022208 ∧ lenOk v) ∧ ∃ a cap, v = .slice a l.length cap ∧ (l ≠ [] → ∃ b off, a = some ⟨b, off, none⟩ ∧ B b ∧ b < w.heap.size ∧
    ∀ i x, l[i]? = some x → ∃ c, K.is B w c x ∧ ∀ j u, c[j]? = some u → w.cell? ⟨b, off + i * K.size + j, none⟩ = some u)

theorem Kind.sl_nil (K : Kind α) (B : Nat → Prop) (w : World) (a : Option Addr) (cap : Nat) : K.sl B w (.slice a 0 cap) [] := ⟨⟨by simp, Nat.zero_le _⟩, a, cap, rfl, fun h => absurd rfl h⟩

theorem Kind.sl_kept {K : Kind α} {B : Nat → Prop} {w w' : World} {v : Value} {l : List α} (h : K.sl B w v l) (hs : w.heap.size ≤ w'.heap.size) (hk : ∀ k, k < w.heap.size → B k → w'.heap[k]? = w.heap[k]?) : K.sl B w' v l := by
  obtain ⟨h0, a, cap, rfl, h1⟩ := h
  refine ⟨h0, a, cap, rfl, fun hl => ?_⟩
  obtain ⟨b, off, rfl, hB, hb, hc⟩ := h1 hl
  refine ⟨b, off, rfl, hB, Nat.lt_of_lt_of_le hb hs, fun i x hx => ?_⟩
  obtain ⟨c, c1, c2⟩ := hc i x hx
  exact ⟨c, K.kept c1 hs hk, fun j u hu => by rw [World.cell?_of_block (w := w) (hk b hb hB)]; exact c2 j u hu⟩

theorem Kind.sl_mono {K : Kind α} {B B' : Nat → Prop} {w : World} {v : Value} {l : List α} (h : K.sl B w v l) (hk : ∀ k, k < w.heap.size → B k → B' k) : K.sl B' w v l := by
  obtain ⟨h0, a, cap, rfl, h1⟩ := h
  refine ⟨h0, a, cap, rfl, fun hl => ?_⟩
  obtain ⟨b, off, rfl, hB, hb, hc⟩ := h1 hl
  refine ⟨b, off, rfl, hk b hb hB, hb, fun i x hx => ?_⟩
  obtain ⟨c, c1, c2⟩ := hc i x hx
  exact ⟨c, K.mono c1 hk, c2⟩

theorem Kind.slice {K : Kind α} {B : Nat → Prop} {w : World} {v : Value} {l : List α} (h : K.sl B w v l) : ∃ a cap, v = .slice a l.length cap := by
  obtain ⟨_, a, cap, rfl, _⟩ := h; exact ⟨a, cap, rfl⟩

/-- From lo on. -/
abbrev From (lo : Nat) : Nat → Prop := fun k => lo ≤ k

/-- A row of such elements that a call owns. -/
def Kind.own (K : Kind α) (ty : TypeId) (lo : Nat) (w : World) (v : Value) (l : List α) : Prop :=
  ∃ xs, w.ownsRow lo ty K.size v l.length xs ∧ ∀ i x, l[i]? = some x → ∃ c, K.is (fun k => lo ≤ k ∧ v.ownBlock ≠ some k) w c x ∧ ∀ j u, c[j]? = some u → xs[i * K.size + j]? = some u

theorem Kind.own_nil (K : Kind α) (ty : TypeId) (lo : Nat) (w : World) : K.own ty lo w (.slice none 0 0) [] := ⟨[], World.ownsRow_nil w lo ty K.size, fun i x h => by simp at h⟩

theorem Kind.own_turned {K : Kind α} {ty : TypeId} {p lo : Nat} {w w' : World} {v : Value} {l : List α} (h : K.own ty lo w v l) (k : Tn p w w') (hp : p < lo) : K.own ty lo w' v l := by
  obtain ⟨xs, ho, hx⟩ := h
  refine ⟨xs, ⟨ho.1, ?_⟩, fun i x hi => ?_⟩
  · rcases ho.2 with e | ⟨g, cap, cur, rfl, hbg, hg, r⟩
    · exact Or.inl e
    · exact Or.inr ⟨g, cap, cur, rfl, hbg, by rw [k.block g (Array.getElem?_eq_some_iff.1 hg).1 (by omega)]; exact hg, r⟩
  · obtain ⟨c, c1, c2⟩ := hx i x hi
    exact ⟨c, K.kept c1 k.size fun j hj hB => k.block j hj (by have := hB.1; omega), c2⟩

theorem Kind.own_lt {K : Kind α} {ty : TypeId} {lo : Nat} {w : World} {v : Value} {l : List α} (h : K.own ty lo w v l) {k : Nat} (hk : v.ownBlock = some k) : lo ≤ k ∧ k < w.heap.size := by
  obtain ⟨xs, ho, _⟩ := h; exact ho.lt k hk

theorem Kind.own_slice {K : Kind α} {ty : TypeId} {lo : Nat} {w : World} {v : Value} {l : List α} (h : K.own ty lo w v l) : ∃ a cap, v = .slice a l.length cap := by
  obtain ⟨xs, ho, _⟩ := h
  rcases ho.2 with ⟨rfl, e⟩ | ⟨g, cap, cur, rfl, _⟩
  · exact ⟨none, 0, by rw [e]⟩
  · exact ⟨_, cap, rfl⟩

theorem Kind.own_sl {K : Kind α} {ty : TypeId} {lo : Nat} {w : World} {v : Value} {l : List α} (h : K.own ty lo w v l) (hl : l.length ≤ 8796093022208) : K.sl (From lo) w v l := by
  obtain ⟨xs, ho, hx⟩ := h
  rcases ho.2 with ⟨rfl, e⟩ | ⟨g, cap, cur, rfl, hbg, hg, hnc, _⟩
  · have : l = [] := List.eq_nil_of_length_eq_zero e
    subst this
    exact K.sl_nil _ _ _ _
  · refine ⟨⟨hl, hnc⟩, _, cap, rfl, fun _ => ⟨g, 0, rfl, hbg, (Array.getElem?_eq_some_iff.1 hg).1, fun i x hi => ?_⟩⟩
    obtain ⟨c, c1, c2⟩ := hx i x hi
    refine ⟨c, K.mono c1 fun k _ h => h.1, fun j u hu => ?_⟩
    have := ho.cells (g := g) rfl _ u (c2 j u hu)
    rw [Addr.add_lit] at this
    rw [Nat.add_assoc]; exact this

/-- A row of one, made. -/
theorem Kind.own_one {K : Kind α} {ty : TypeId} {lo : Nat} {w : World} {c : List Value} {x : α} (hc : K.is (From lo) w c x) (hlo : lo ≤ w.heap.size) : K.own ty lo (w.alloc (.cells c.toArray ty)) (.slice (some ⟨w.heap.size, 0, none⟩) 1 1) [x] := by
  refine ⟨c, ?_, fun i y hi => ?_⟩
  · refine ⟨by rw [K.len hc]; simp, Or.inr ⟨w.heap.size, 1, c.toArray, rfl, hlo, ?_, by simp, by simp [maxLen], by simp [K.len hc], by have := K.len hc; simp [← this]⟩⟩
    exact heap_alloc_new w _
  · cases i with
    | zero =>
      simp at hi
      subst hi
      refine ⟨c, K.kept (K.mono hc fun k hk h => ⟨h, by simp [Value.ownBlock]; omega⟩) (by simp) fun k hk _ => Below.heap_alloc w _ k hk, fun j u hu => by rw [Nat.zero_mul, Nat.zero_add]; exact hu⟩
    | succ i => simp at hi

/-- append of one element more, in a block of its own. -/
theorem Kind.own_appendB {P : Program} {K : Kind α} {t ty : TypeId} {lo bytes : Nat} {w : World} {v : Value} {l : List α} (h : K.own ty lo w v l) {i : TypeInfo} {z : Value}
    (ht : P.underlying t = some (.slice ty)) (hi : P.info? ty = some i) (hz : i.zero = some z) (hsize : i.size = K.size) (hby : i.bytes = bytes) (hzs : z.cells.size = K.size) (hsz : 0 < K.size)
    {c : List Value} {x : α} (hc : K.is (fun k => lo ≤ k ∧ v.ownBlock ≠ some k) w c x) (hl : l.length + 1 ≤ maxLen) (hB : (l.length + 1) * bytes ≤ 140737488355328) (hlo : lo ≤ w.heap.size) :
    ∃ v' w', (Builtin.append_ #[t, t] t #[v, .slice (some ⟨w.heap.size, 0, none⟩) 1 1]).run P (w.alloc (.cells c.toArray ty)) = .ok v' w' ∧ K.own ty lo w' v' (l ++ [x]) ∧ (w.alloc (.cells c.toArray ty)).grownBy w' v.ownBlock := by
  obtain ⟨xs, ho, hx⟩ := h
  have hcl := K.len hc
  have hnews : ∀ j u, c[j]? = some u → (w.alloc (.cells c.toArray ty)).cell? ((⟨w.heap.size, 0, none⟩ : Addr).add j) = some u := by
    intro j u hu
    rw [Addr.add_lit, Nat.zero_add, cell_of_row _ w.heap.size j c.toArray ty (0, 0) (heap_alloc_new w _)]
    simpa using hu
  obtain ⟨v', w', hrun, r1, r2, r3, r4⟩ := append_own (P := P) (w.alloc (.cells c.toArray ty)) lo t t ty i z K.size bytes ht hi hz hsize hby hzs hsz v l.length xs (ho.alloc _) ⟨w.heap.size, 0, none⟩ 1 1 c (by rw [hcl]; simp) hnews
    (K.one hc) hl hB (by simp; omega)
  have hxl : xs.length = l.length * K.size := ho.1
  have own' : ∀ k, k < w.heap.size → v'.ownBlock = some k → v.ownBlock = some k := fun k hk e => by
    rcases r4 k e with e | e
    · exact e
    · simp at e; omega
  have keep : ∀ k, k < w.heap.size → (lo ≤ k ∧ v.ownBlock ≠ some k) → w'.heap[k]? = w.heap[k]? := fun k hk hB =>
    (r2.block k (by simp; omega) (fun e => hB.2 e.symm)).trans (Below.heap_alloc w _ k hk)
  have hsz' : w.heap.size ≤ w'.heap.size := Nat.le_trans (by simp) r2.size
  have move : ∀ {c : List Value} {y : α}, K.is (fun k => lo ≤ k ∧ v.ownBlock ≠ some k) w c y → K.is (fun k => lo ≤ k ∧ v'.ownBlock ≠ some k) w' c y := fun {c y} hy =>
    K.kept (K.mono hy fun k hk hB => (⟨⟨hB.1, fun e => hB.2 (own' k hk e)⟩, hB⟩ : (lo ≤ k ∧ v'.ownBlock ≠ some k) ∧ (lo ≤ k ∧ v.ownBlock ≠ some k))) hsz' (fun k hk hB => keep k hk hB.2) |> fun h => K.mono h fun _ _ hB => hB.1
  refine ⟨v', w', hrun, ⟨xs ++ c, by simpa using r1, fun j y hj => ?_⟩, r2⟩
  by_cases hjl : j < l.length
  · rw [List.getElem?_append_left hjl] at hj
    obtain ⟨d, d1, d2⟩ := hx j y hj
    refine ⟨d, move d1, fun q u hu => ?_⟩
    have := d2 q u hu
    rw [List.getElem?_append_left (List.getElem?_eq_some_iff.1 this).1]; exact this
  · rw [List.getElem?_append_right (by omega)] at hj
    have hj' : j = l.length := by
      have := (List.getElem?_eq_some_iff.1 hj).1
      simp at this; omega
    subst hj'
    simp at hj
    subst hj
    refine ⟨c, move hc, fun q u hu => ?_⟩
    rw [List.getElem?_append_right (by omega), hxl, Nat.add_sub_cancel_left]; exact hu

theorem Kind.own_append {P : Program} {K : Kind α} {t ty : TypeId} {lo bytes : Nat} {w : World} {v : Value} {l : List α} (h : K.own ty lo w v l) {i : TypeInfo} {z : Value}
    (ht : P.underlying t = some (.slice ty)) (hi : P.info? ty = some i) (hz : i.zero = some z) (hsize : i.size = K.size) (hby : i.bytes = bytes) (hzs : z.cells.size = K.size) (hsz : 0 < K.size) (hb : bytes ≤ 100)
    {c : List Value} {x : α} (hc : K.is (fun k => lo ≤ k ∧ v.ownBlock ≠ some k) w c x) (hl : l.length + 1 ≤ 1099511627776) (hlo : lo ≤ w.heap.size) :
    ∃ v' w', (Builtin.append_ #[t, t] t #[v, .slice (some ⟨w.heap.size, 0, none⟩) 1 1]).run P (w.alloc (.cells c.toArray ty)) = .ok v' w' ∧ K.own ty lo w' v' (l ++ [x]) ∧ (w.alloc (.cells c.toArray ty)).grownBy w' v.ownBlock :=
  Kind.own_appendB h ht hi hz hsize hby hzs hsz hc (by simp only [maxLen]; omega) (Nat.le_trans (Nat.mul_le_mul hl hb) (by omega)) hlo

/-- A term lies in two cells. -/
def termK : Kind TermD where
  size := 2
  is := fun _ _ c t => c = [.bool t.1, .string (bs t.2)]
  len := fun h => by subst h; rfl
  one := fun h u hu => by subst h; simp at hu; rcases hu with rfl | rfl <;> rfl
  kept := fun h _ _ => h
  mono := fun h _ => h

/-- A text lies in one. -/
def strK : Kind Bs where
  size := 1
  is := fun _ _ c t => c = [.string (bs t)]
  len := fun h => by subst h; rfl
  one := fun h u hu => by subst h; simp at hu; subst hu; rfl
  kept := fun h _ _ => h
  mono := fun h _ => h

/-- An atom lies in three. -/
def atomK : Kind AtomD where
  size := 3
  is := fun B w c a => ∃ v, c = [.bool a.no, .string (bs a.name), v] ∧ termK.sl B w v a.terms
  len := fun ⟨v, h, _⟩ => by subst h; rfl
  one := fun ⟨v, h, hs⟩ u hu => by
    subst h
    obtain ⟨a, cap, rfl⟩ := Kind.slice hs
    simp at hu; rcases hu with rfl | rfl | rfl <;> rfl
  kept := fun ⟨v, h, hs⟩ h1 h2 => ⟨v, h, Kind.sl_kept hs h1 h2⟩
  mono := fun ⟨v, h, hs⟩ h1 => ⟨v, h, Kind.sl_mono hs h1⟩

/-- A rule lies in four. -/
def ruleK : Kind RuleD where
  size := 4
  is := fun B w c a => ∃ v u, c = [.bool a.head.no, .string (bs a.head.name), v, u] ∧ termK.sl B w v a.head.terms ∧ atomK.sl B w u a.body
  len := fun ⟨v, u, h, _, _⟩ => by subst h; rfl
  one := fun ⟨v, x, h, hs, hb⟩ u hu => by
    subst h
    obtain ⟨a, cap, rfl⟩ := Kind.slice hs
    obtain ⟨a, cap, rfl⟩ := Kind.slice hb
    simp at hu; rcases hu with rfl | rfl | rfl | rfl <;> rfl
  kept := fun ⟨v, u, h, hs, hb⟩ h1 h2 => ⟨v, u, h, Kind.sl_kept hs h1 h2, Kind.sl_kept hb h1 h2⟩
  mono := fun ⟨v, u, h, hs, hb⟩ h1 => ⟨v, u, h, Kind.sl_mono hs h1, Kind.sl_mono hb h1⟩

/-- An element as a value, what it leads to lying from lo on. -/
def Kind.val (K : Kind α) (lo : Nat) (w : World) (v : Value) (a : α) : Prop := ∃ c, v = .agg c.toArray ∧ K.is (From lo) w c a

/-- An element's cells. -/
theorem Kind.sl_at {α : Type} {K : Kind α} {B : Nat → Prop} {w : World} {a : Option Addr} {n cap i : Nat} {l : List α} {x : α} (h : K.sl B w (.slice a n cap) l) (hi : l[i]? = some x) :
    ∃ b off c, a = some ⟨b, off, none⟩ ∧ b < w.heap.size ∧ K.is B w c x ∧ ∀ j u, c[j]? = some u → w.cell? ⟨b, off + i * K.size + j, none⟩ = some u := by
  obtain ⟨_, a', cap', e, h1⟩ := h
  simp only [Value.slice.injEq] at e
  obtain ⟨rfl, _, _⟩ := e
  obtain ⟨b, off, rfl, _, hb, hc⟩ := h1 (by intro e; rw [e] at hi; simp at hi)
  obtain ⟨c, c1, c2⟩ := hc i x hi
  exact ⟨b, off, c, rfl, hb, c1, c2⟩

/-- Anywhere. -/
abbrev Anyw : Nat → Prop := fun _ => True
theorem Kind.sl_any {α : Type} {K : Kind α} {B : Nat → Prop} {w : World} {v : Value} {l : List α} (h : K.sl B w v l) : K.sl Anyw w v l := Kind.sl_mono h fun _ _ _ => trivial
theorem Kind.sl_later {α : Type} {K : Kind α} {w w' : World} {v : Value} {l : List α} (h : K.sl Anyw w v l) (k : Later w w') : K.sl Anyw w' v l := Kind.sl_kept h k.size fun _ hi _ => k.block hi
theorem Kind.sl_below {α : Type} {K : Kind α} {w w' : World} {v : Value} {l : List α} (h : K.sl Anyw w v l) (k : Below w.heap.size w w') : K.sl Anyw w' v l := Kind.sl_kept h k.size fun i hi _ => k.block i hi

end Go.Proofs.Ythngiikhgplldaa

/- What is wrong with programs, and their strata: the document's answer, on plain data. Nothing of the program. -/
namespace Go.Proofs.Ythngiikhgplldaa

/-- One more, if it is not there. -/
def addNew (l : List Bs) (s : Bs) : List Bs := if l.contains s then l else l ++ [s]
def varsGo (l : List Bs) (ts : List TermD) : List Bs := ts.foldl (fun l t => if t.1 then addNew l t.2 else l) l
/-- An atom's variables. -/
def vars (a : AtomD) : List Bs := varsGo [] a.terms
def wrongTerm (t : TermD) : Bool := if t.1 then !isVar t.2 else !isNamed t.2
def wrongAtom (a : AtomD) : Int := if isNamed a.name = false then 7 else if 4 < a.terms.length then 5 else if a.terms.any wrongTerm then 7 else 0
/-- What atoms that are so give. -/
def givenBy (l : List AtomD) (s : Bs) : Bool := l.any fun a => !a.no && (vars a).contains s
def wrongAtoms : List AtomD → Int
  | [] => 0
  | a :: l => if wrongAtom a = 0 then wrongAtoms l else wrongAtom a
def wrongBody (l : List AtomD) : Int := if 5 < l.length then 5 else if wrongAtoms l = 0 then (if l.all (fun a => (vars a).all (givenBy l)) then 0 else 9) else wrongAtoms l

/-- A name's number, where it has one. -/
abbrev Nums := Bs → Option Nat
def Nums.put (m : Nums) (s : Bs) (n : Nat) : Nums := fun t => if t = s then some n else m t
def fitOne (m : Nums) (a : AtomD) : Bool × Nums := match m a.name with
  | none => (true, m.put a.name a.terms.length)
  | some n => (decide (n = a.terms.length), m)
def fitAll : Nums → List AtomD → Bool × Nums
  | m, [] => (true, m)
  | m, a :: l => if (fitOne m a).1 then fitAll (fitOne m a).2 l else (false, (fitOne m a).2)
/-- What is wrong with a rule, behind others. -/
def wrongRule (m : Nums) (r : RuleD) : Int × Nums :=
  if wrongAtom r.head = 0 then
    if r.head.no then (2, m) else
    if wrongBody r.body = 0 then
      if (vars r.head).all (givenBy r.body) then
        if (fitOne m r.head).1 then (if (fitAll (fitOne m r.head).2 r.body).1 then 0 else 8, (fitAll (fitOne m r.head).2 r.body).2) else (8, (fitOne m r.head).2)
      else (9, m)
    else (wrongBody r.body, m)
  else (wrongAtom r.head, m)
def wrongGo : Nums → Nat → List RuleD → Int × Nat
  | _, _, [] => (0, 0)
  | m, i, r :: l => if (wrongRule m r).1 = 0 then wrongGo (wrongRule m r).2 (i + 1) l else ((wrongRule m r).1, i)
/-- What is wrong with a program, and at which rule. -/
def wrongP (p : List RuleD) : Int × Nat := if 16 < p.length then (5, 0) else wrongGo (fun _ => none) 0 p

/-- The least that a head may have in whose body an atom stands. -/
def behind (m : Nums) (a : AtomD) : Nat := match m a.name with
  | none => 0
  | some n => if a.no then n + 1 else n
def numOf (m : Nums) (s : Bs) : Nat := (m s).getD 0
def liftAtom (h : Bs) (x : Nums × Bool) (a : AtomD) : Nums × Bool := if numOf x.1 h < behind x.1 a then (x.1.put h (behind x.1 a), true) else x
def liftRule (x : Nums × Bool) (r : RuleD) : Nums × Bool := r.body.foldl (liftAtom r.head.name) x
def liftAll (x : Nums × Bool) (p : List RuleD) : Nums × Bool := p.foldl liftRule x
def startGo (m : Nums) (p : List RuleD) : Nums := p.foldl (fun m r => m.put r.head.name 0) m
def start (p : List RuleD) : Nums := startGo (fun _ => none) p
def strataGo (p : List RuleD) : Nat → Nums → Option Nums
  | 0, _ => none
  | n + 1, m => if (liftAll (m, false) p).2 then strataGo p n (liftAll (m, false) p).1 else some (liftAll (m, false) p).1
def each (m : Nums) (p : List RuleD) : List Nat := p.map fun r => numOf m r.head.name
/-- A program's strata, and what is wrong. -/
def strataP (p : List RuleD) : List Nat × Int × Nat :=
  if (wrongP p).1 = 0 then match strataGo p (p.length + 1) (start p) with
    | some m => (each m p, 0, 0)
    | none => ([], 10, 0)
  else ([], wrongP p)

/-! ### numbers that hold -/
def isHead (p : List RuleD) (s : Bs) : Prop := ∃ r ∈ p, r.head.name = s
def step (a : AtomD) : Nat := if a.no then 1 else 0
/-- With these numbers all is as it must be. -/
def Sol (p : List RuleD) (σ : Bs → Nat) : Prop := ∀ r ∈ p, ∀ a ∈ r.body, isHead p a.name → σ a.name + step a ≤ σ r.head.name

/-- Just heads have numbers. -/
def Doms (p : List RuleD) (m : Nums) : Prop := ∀ s, (m s).isSome ↔ isHead p s
/-- No number is greater than what holds. -/
def Least (p : List RuleD) (m : Nums) : Prop := ∀ σ, Sol p σ → ∀ s, numOf m s ≤ σ s

theorem behind_eq {p : List RuleD} {m : Nums} (hd : Doms p m) (a : AtomD) (h : isHead p a.name) : behind m a = numOf m a.name + step a := by
  unfold behind numOf step
  have := (hd a.name).2 h
  obtain ⟨n, hn⟩ := Option.isSome_iff_exists.1 this
  rw [hn]
  cases a.no <;> simp
theorem behind_none {p : List RuleD} {m : Nums} (hd : Doms p m) (a : AtomD) (h : ¬ isHead p a.name) : behind m a = 0 := by
  unfold behind
  have : m a.name = none := by
    cases e : m a.name with
    | none => rfl
    | some n => exact absurd ((hd a.name).1 (by rw [e]; rfl)) h
  rw [this]

theorem numOf_put (m : Nums) (s t : Bs) (n : Nat) : numOf (m.put s n) t = if t = s then n else numOf m t := by
  unfold numOf Nums.put
  by_cases h : t = s <;> simp [h]

theorem Doms.put {p : List RuleD} {m : Nums} (hd : Doms p m) {s : Bs} (hs : isHead p s) (n : Nat) : Doms p (m.put s n) := by
  intro t
  unfold Nums.put
  by_cases h : t = s
  · subst h; simp [hs]
  · rw [if_neg h]; exact hd t

/-- What lifting keeps. -/
theorem liftAtom_kept {p : List RuleD} {r : RuleD} (hr : r ∈ p) {x : Nums × Bool} (hd : Doms p x.1) (hl : Least p x.1) {a : AtomD} (ha : a ∈ r.body) :
    Doms p (liftAtom r.head.name x a).1 ∧ Least p (liftAtom r.head.name x a).1 ∧ ∀ s, numOf x.1 s ≤ numOf (liftAtom r.head.name x a).1 s := by
  unfold liftAtom
  split
  · rename_i hlt
    refine ⟨hd.put ⟨r, hr, rfl⟩ _, fun σ hσ s => ?_, fun s => ?_⟩
    · show numOf (x.1.put _ _) s ≤ _
      rw [numOf_put]
      split
      · rename_i h
        subst h
        by_cases hh : isHead p a.name
        · rw [behind_eq hd a hh]
          have h1 := hσ r hr a ha hh
          have h2 := hl σ hσ a.name
          omega
        · rw [behind_none hd a hh]; omega
      · exact hl σ hσ s
    · show _ ≤ numOf (x.1.put _ _) s
      rw [numOf_put]
      split
      · rename_i h; subst h; omega
      · exact Nat.le_refl _
  · exact ⟨hd, hl, fun _ => Nat.le_refl _⟩

theorem liftRule_kept {p : List RuleD} {r : RuleD} (hr : r ∈ p) (l : List AtomD) : ∀ {x : Nums × Bool}, Doms p x.1 → Least p x.1 → (∀ a ∈ l, a ∈ r.body) →
    Doms p (l.foldl (liftAtom r.head.name) x).1 ∧ Least p (l.foldl (liftAtom r.head.name) x).1 ∧ ∀ s, numOf x.1 s ≤ numOf (l.foldl (liftAtom r.head.name) x).1 s := by
  induction l with
  | nil => intro x hd hl _; exact ⟨hd, hl, fun _ => Nat.le_refl _⟩
  | cons a l ih =>
    intro x hd hl ha
    obtain ⟨d1, l1, u1⟩ := liftAtom_kept hr hd hl (ha a (by simp))
    obtain ⟨d2, l2, u2⟩ := ih d1 l1 (fun b hb => ha b (by simp [hb]))
    exact ⟨d2, l2, fun s => Nat.le_trans (u1 s) (u2 s)⟩

theorem liftAll_kept {p : List RuleD} (l : List RuleD) : ∀ {x : Nums × Bool}, Doms p x.1 → Least p x.1 → (∀ r ∈ l, r ∈ p) →
    Doms p (liftAll x l).1 ∧ Least p (liftAll x l).1 ∧ ∀ s, numOf x.1 s ≤ numOf (liftAll x l).1 s := by
  induction l with
  | nil => intro x hd hl _; exact ⟨hd, hl, fun _ => Nat.le_refl _⟩
  | cons r l ih =>
    intro x hd hl hr
    obtain ⟨d1, l1, u1⟩ := liftRule_kept (hr r (by simp)) r.body hd hl (fun a h => h)
    obtain ⟨d2, l2, u2⟩ := ih d1 l1 (fun b hb => hr b (by simp [hb]))
    exact ⟨d2, l2, fun s => Nat.le_trans (u1 s) (u2 s)⟩

/-- What was lifted stays so. -/
theorem liftAtom_true (h : Bs) (x : Nums × Bool) (a : AtomD) (hx : x.2 = true) : (liftAtom h x a).2 = true := by unfold liftAtom; split <;> simp [hx]
theorem foldAtom_true (h : Bs) (l : List AtomD) : ∀ x : Nums × Bool, x.2 = true → (l.foldl (liftAtom h) x).2 = true := by
  induction l with
  | nil => intro x hx; exact hx
  | cons a l ih => intro x hx; exact ih _ (liftAtom_true h x a hx)
theorem liftAll_true (l : List RuleD) : ∀ x : Nums × Bool, x.2 = true → (liftAll x l).2 = true := by
  induction l with
  | nil => intro x hx; exact hx
  | cons r l ih => intro x hx; exact ih _ (foldAtom_true _ _ x hx)

/-- Where nothing is lifted, all is as it must be. -/
theorem foldAtom_rest (h : Bs) (l : List AtomD) : ∀ m : Nums, (l.foldl (liftAtom h) (m, false)).2 = false → l.foldl (liftAtom h) (m, false) = (m, false) ∧ ∀ a ∈ l, behind m a ≤ numOf m h := by
  induction l with
  | nil => intro m _; exact ⟨rfl, by simp⟩
  | cons a l ih =>
    intro m hm
    rw [List.foldl_cons] at hm ⊢
    by_cases hlt : numOf m h < behind m a
    · have : (liftAtom h (m, false) a).2 = true := by unfold liftAtom; rw [if_pos hlt]
      rw [foldAtom_true h l _ this] at hm; cases hm
    · have e : liftAtom h (m, false) a = (m, false) := by unfold liftAtom; rw [if_neg hlt]
      rw [e] at hm ⊢
      obtain ⟨h1, h2⟩ := ih m hm
      refine ⟨h1, fun b hb => ?_⟩
      rcases List.mem_cons.1 hb with rfl | hb
      · omega
      · exact h2 b hb
theorem liftAll_rest (l : List RuleD) : ∀ m : Nums, (liftAll (m, false) l).2 = false → liftAll (m, false) l = (m, false) ∧ ∀ r ∈ l, ∀ a ∈ r.body, behind m a ≤ numOf m r.head.name := by
  induction l with
  | nil => intro m _; exact ⟨rfl, by simp⟩
  | cons r l ih =>
    intro m hm
    unfold liftAll at hm ⊢
    rw [List.foldl_cons] at hm ⊢
    have h0 : (liftRule (m, false) r).2 = false := by
      cases hc : (liftRule (m, false) r).2 with
      | false => rfl
      | true => have := liftAll_true l _ hc; unfold liftAll at this; rw [this] at hm; cases hm
    obtain ⟨e, h1⟩ := foldAtom_rest _ _ m h0
    have e' : liftRule (m, false) r = (m, false) := e
    rw [e'] at hm ⊢
    obtain ⟨h2, h3⟩ := ih m hm
    refine ⟨h2, fun q hq => ?_⟩
    rcases List.mem_cons.1 hq with rfl | hq
    · exact h1
    · exact h3 q hq

/-- Where all is as it must be, nothing is lifted. -/
theorem liftAll_still (l : List RuleD) (m : Nums) (h : ∀ r ∈ l, ∀ a ∈ r.body, behind m a ≤ numOf m r.head.name) : ∀ b, liftAll (m, b) l = (m, b) := by
  induction l with
  | nil => intro b; rfl
  | cons r l ih =>
    intro b
    have hr : liftRule (m, b) r = (m, b) := by
      have : ∀ q : List AtomD, (∀ a ∈ q, behind m a ≤ numOf m r.head.name) → q.foldl (liftAtom r.head.name) (m, b) = (m, b) := by
        intro q
        induction q with
        | nil => intro _; rfl
        | cons a q iq =>
          intro hq
          rw [List.foldl_cons]
          have : liftAtom r.head.name (m, b) a = (m, b) := by unfold liftAtom; rw [if_neg (by have := hq a (by simp); show ¬ numOf m _ < behind m a; omega)]
          rw [this]; exact iq fun c hc => hq c (by simp [hc])
      exact this r.body (h r (by simp))
    show liftAll (liftRule (m, b) r) l = (m, b)
    rw [hr]; exact ih (fun q hq => h q (by simp [hq])) b

/-! ### at the beginning -/
theorem startGo_dom (l : List RuleD) : ∀ (m : Nums) (s : Bs), (startGo m l s).isSome ↔ ((m s).isSome ∨ isHead l s) := by
  induction l with
  | nil => intro m s; simp [startGo, isHead]
  | cons r l ih =>
    intro m s
    show (startGo (m.put r.head.name 0) l s).isSome ↔ _
    rw [ih]
    unfold Nums.put isHead
    by_cases h : s = r.head.name
    · subst h; simp
    · have h' : ¬ r.head.name = s := fun e => h e.symm
      simp [h, h']
theorem startGo_zero (l : List RuleD) : ∀ (m : Nums), (∀ s, numOf m s = 0) → ∀ s, numOf (startGo m l) s = 0 := by
  induction l with
  | nil => intro m h; exact h
  | cons r l ih =>
    intro m h
    exact ih _ fun s => by rw [numOf_put]; split <;> simp [h]
theorem start_dom (p : List RuleD) : Doms p (start p) := fun s => by unfold start; rw [startGo_dom]; simp
theorem start_zero (p : List RuleD) (s : Bs) : numOf (start p) s = 0 := startGo_zero p _ (fun _ => rfl) s
theorem start_least (p : List RuleD) : Least p (start p) := fun σ _ s => by rw [start_zero]; exact Nat.zero_le _

/-- What strataGo tells holds, and is the least. -/
theorem strataGo_some {p : List RuleD} : ∀ (n : Nat) (m m' : Nums), Doms p m → Least p m → strataGo p n m = some m' → Doms p m' ∧ Least p m' ∧ ∀ r ∈ p, ∀ a ∈ r.body, behind m' a ≤ numOf m' r.head.name := by
  intro n
  induction n with
  | zero => intro m m' _ _ h; cases h
  | succ n ih =>
    intro m m' hd hl h
    unfold strataGo at h
    split at h
    · obtain ⟨d1, l1, _⟩ := liftAll_kept p hd hl (x := (m, false)) (fun _ h => h)
      exact ih _ _ d1 l1 h
    · rename_i hf
      obtain ⟨e, h1⟩ := liftAll_rest p m (by simpa using hf)
      rw [e] at h
      cases h
      exact ⟨hd, hl, h1⟩

theorem sol_of {p : List RuleD} {m : Nums} (hd : Doms p m) (h : ∀ r ∈ p, ∀ a ∈ r.body, behind m a ≤ numOf m r.head.name) : Sol p (numOf m) := fun r hr a ha hh => by
  rw [← behind_eq hd a hh]; exact h r hr a ha

/-! ### where there are numbers that hold they are found -/
/-- Of all numbers that hold, some whose sum is the least. -/
theorem least_sol {p : List RuleD} {σ : Bs → Nat} (h : Sol p σ) : ∃ τ, Sol p τ ∧ ∀ τ', Sol p τ' → (p.map fun r => τ r.head.name).sum ≤ (p.map fun r => τ' r.head.name).sum := by
  have : ∀ n σ, Sol p σ → (p.map fun r => σ r.head.name).sum = n → ∃ τ, Sol p τ ∧ ∀ τ', Sol p τ' → (p.map fun r => τ r.head.name).sum ≤ (p.map fun r => τ' r.head.name).sum := by
    intro n
    induction n using Nat.strongRecOn with
    | ind n ih =>
      intro σ hσ hn
      by_cases hx : ∃ τ', Sol p τ' ∧ (p.map fun r => τ' r.head.name).sum < n
      · obtain ⟨τ', h1, h2⟩ := hx
        exact ih _ h2 τ' h1 rfl
      · refine ⟨σ, hσ, fun τ' h' => ?_⟩
        rw [hn]
        exact Nat.le_of_not_lt fun hlt => hx ⟨τ', h', hlt⟩
  exact this _ σ h rfl

theorem sum_le {p : List RuleD} {f g : RuleD → Nat} (h : ∀ r ∈ p, f r ≤ g r) : (p.map f).sum ≤ (p.map g).sum := by
  induction p with
  | nil => simp
  | cons a p ih =>
    have := ih fun r hr => h r (by simp [hr])
    have := h a (by simp)
    simp; omega
theorem sum_lt {p : List RuleD} {f g : RuleD → Nat} (h : ∀ r ∈ p, f r ≤ g r) (hx : ∃ r ∈ p, f r < g r) : (p.map f).sum < (p.map g).sum := by
  induction p with
  | nil => obtain ⟨r, hr, _⟩ := hx; simp at hr
  | cons a p ih =>
    have h1 := sum_le fun r hr => h r (List.mem_cons_of_mem a hr)
    have h2 := h a (by simp)
    obtain ⟨r, hr, hlt⟩ := hx
    rcases List.mem_cons.1 hr with rfl | hr
    · simp; omega
    · have := ih (fun r hr => h r (by simp [hr])) ⟨r, hr, hlt⟩
      simp; omega

/-- Some head that is not where it must be hangs on what is. -/
theorem next_settled {p : List RuleD} {τ : Bs → Nat} (hτ : Sol p τ) (hmin : ∀ τ', Sol p τ' → (p.map fun r => τ r.head.name).sum ≤ (p.map fun r => τ' r.head.name).sum) {m : Nums} (hl : Least p m)
    (hu : ∃ r ∈ p, numOf m r.head.name ≠ τ r.head.name) : ∃ r ∈ p, ∃ a ∈ r.body, numOf m r.head.name ≠ τ r.head.name ∧ isHead p a.name ∧ numOf m a.name = τ a.name ∧ τ a.name + step a = τ r.head.name := by
  refine Classical.byContradiction fun hno => ?_
  have hle : ∀ s, numOf m s ≤ τ s := hl τ hτ
  have hσ : Sol p (fun s => if numOf m s = τ s then τ s else τ s - 1) := by
    intro r hr a ha hh
    have h1 := hτ r hr a ha hh
    have h2 := hle r.head.name
    have h3 := hle a.name
    show (if numOf m a.name = τ a.name then _ else _) + _ ≤ (if numOf m r.head.name = τ r.head.name then _ else _)
    by_cases e2 : numOf m r.head.name = τ r.head.name
    · rw [if_pos e2]; split <;> omega
    · rw [if_neg e2]
      by_cases e3 : numOf m a.name = τ a.name
      · rw [if_pos e3]
        have : ¬ τ a.name + step a = τ r.head.name := fun e => hno ⟨r, hr, a, ha, e2, hh, e3, e⟩
        omega
      · rw [if_neg e3]; omega
  obtain ⟨r, hr, hne⟩ := hu
  have := hmin _ hσ
  have hlt : (p.map fun r => (fun s => if numOf m s = τ s then τ s else τ s - 1) r.head.name).sum < (p.map fun r => τ r.head.name).sum := by
    refine sum_lt (fun q _ => ?_) ⟨r, hr, ?_⟩
    · show (if _ then _ else _) ≤ _
      split
      · exact Nat.le_refl _
      · exact Nat.sub_le _ _
    · show (if _ then _ else _) < _
      have := hle r.head.name
      rw [if_neg hne]; omega
  exact absurd hlt (Nat.not_lt.2 this)

/-- A round of lifting lifts a head at least to what its body's atoms ask of it as they were. -/
theorem foldAtom_lifts {p : List RuleD} {r : RuleD} (hr : r ∈ p) (l : List AtomD) : ∀ {x : Nums × Bool}, Doms p x.1 → Least p x.1 → (∀ a ∈ l, a ∈ r.body) → ∀ a ∈ l, isHead p a.name → numOf x.1 a.name + step a ≤ numOf (l.foldl (liftAtom r.head.name) x).1 r.head.name := by
  induction l with
  | nil => intro x _ _ _ a ha; simp at ha
  | cons b l ih =>
    intro x hd hl hb a ha hh
    obtain ⟨d1, l1, u1⟩ := liftAtom_kept hr hd hl (hb b (by simp))
    obtain ⟨d2, l2, u2⟩ := liftRule_kept hr l d1 l1 (fun c hc => hb c (by simp [hc]))
    rcases List.mem_cons.1 ha with rfl | ha
    · refine Nat.le_trans ?_ (u2 r.head.name)
      rw [← behind_eq hd a hh]
      unfold liftAtom
      split
      · show _ ≤ numOf (x.1.put _ _) _; rw [numOf_put, if_pos rfl]; exact Nat.le_refl _
      · omega
    · have := ih d1 l1 (fun c hc => hb c (by simp [hc])) a ha hh
      have h2 := u1 a.name
      exact Nat.le_trans (Nat.add_le_add_right h2 _) this
theorem liftAll_lifts {p : List RuleD} (l : List RuleD) : ∀ {x : Nums × Bool}, Doms p x.1 → Least p x.1 → (∀ r ∈ l, r ∈ p) → ∀ r ∈ l, ∀ a ∈ r.body, isHead p a.name → numOf x.1 a.name + step a ≤ numOf (liftAll x l).1 r.head.name := by
  induction l with
  | nil => intro x _ _ _ r hr; simp at hr
  | cons q l ih =>
    intro x hd hl hq r hr a ha hh
    obtain ⟨d1, l1, u1⟩ := liftRule_kept (hq q (by simp)) q.body hd hl (fun c hc => hc)
    obtain ⟨d2, l2, u2⟩ := liftAll_kept l d1 l1 (fun c hc => hq c (by simp [hc]))
    rcases List.mem_cons.1 hr with rfl | hr
    · exact Nat.le_trans (foldAtom_lifts (hq r (by simp)) r.body hd hl (fun c hc => hc) a ha hh) (u2 _)
    · exact Nat.le_trans (Nat.add_le_add_right (u1 a.name) _) (ih d1 l1 (fun c hc => hq c (by simp [hc])) r hr a ha hh)

/-- How many heads are where they must be. -/
def settled (p : List RuleD) (τ : Bs → Nat) (m : Nums) : Nat := (p.map fun r => if numOf m r.head.name = τ r.head.name then 1 else 0).sum

theorem settled_le (p : List RuleD) (τ : Bs → Nat) (m : Nums) : settled p τ m ≤ p.length := by
  unfold settled
  induction p with
  | nil => simp
  | cons r p ih => simp only [List.map_cons, List.sum_cons, List.length_cons]; split <;> omega
theorem settled_all {p : List RuleD} {τ : Bs → Nat} {m : Nums} (h : p.length ≤ settled p τ m) : ∀ r ∈ p, numOf m r.head.name = τ r.head.name := by
  induction p with
  | nil => intro r hr; simp at hr
  | cons q p ih =>
    have h1 := settled_le p τ m
    unfold settled at h h1 ih
    simp only [List.map_cons, List.sum_cons, List.length_cons] at h
    intro r hr
    split at h
    · rename_i hq
      rcases List.mem_cons.1 hr with rfl | hr
      · exact hq
      · exact ih (by omega) r hr
    · omega

theorem settled_grows {p : List RuleD} {τ : Bs → Nat} (hτ : Sol p τ) (hmin : ∀ τ', Sol p τ' → (p.map fun r => τ r.head.name).sum ≤ (p.map fun r => τ' r.head.name).sum) {m : Nums} (hd : Doms p m) (hl : Least p m)
    (hu : ∃ r ∈ p, numOf m r.head.name ≠ τ r.head.name) (b : Bool) : settled p τ m + 1 ≤ settled p τ (liftAll (m, b) p).1 := by
  obtain ⟨r, hr, a, ha, h1, h2, h3, h4⟩ := next_settled hτ hmin hl hu
  obtain ⟨d1, l1, u1⟩ := liftAll_kept p hd hl (x := (m, b)) (fun _ h => h)
  have h5 := liftAll_lifts p hd hl (x := (m, b)) (fun _ h => h) r hr a ha h2
  unfold settled
  refine Nat.succ_le_of_lt (sum_lt (fun q hq => ?_) ⟨r, hr, ?_⟩)
  · have e1 := u1 q.head.name
    have e2 := l1 τ hτ q.head.name
    have e3 : numOf (m, b).1 q.head.name = numOf m q.head.name := rfl
    split
    · rw [if_pos (by omega)]; exact Nat.le_refl _
    · split <;> omega
  · have e2 := l1 τ hτ r.head.name
    have e3 : numOf (m, b).1 a.name = numOf m a.name := rfl
    rw [if_neg h1, if_pos (by omega)]; omega

theorem strataGo_ends {p : List RuleD} {τ : Bs → Nat} (hτ : Sol p τ) (hmin : ∀ τ', Sol p τ' → (p.map fun r => τ r.head.name).sum ≤ (p.map fun r => τ' r.head.name).sum) :
    ∀ (n : Nat) (m : Nums), Doms p m → Least p m → p.length < n + settled p τ m → ∃ m', strataGo p n m = some m' := by
  intro n
  induction n with
  | zero => intro m _ _ h; have := settled_le p τ m; omega
  | succ n ih =>
    intro m hd hl hn
    unfold strataGo
    by_cases hu : ∃ r ∈ p, numOf m r.head.name ≠ τ r.head.name
    · have hg := settled_grows hτ hmin hd hl hu false
      obtain ⟨d1, l1, u1⟩ := liftAll_kept p hd hl (x := (m, false)) (fun _ h => h)
      split
      · exact ih _ d1 l1 (by omega)
      · exact ⟨_, rfl⟩
    · have hall : ∀ r ∈ p, numOf m r.head.name = τ r.head.name := fun r hr => Classical.byContradiction fun h => hu ⟨r, hr, h⟩
      have hst : liftAll (m, false) p = (m, false) := by
        refine liftAll_still p m (fun r hr a ha => ?_) false
        by_cases hh : isHead p a.name
        · rw [behind_eq hd a hh, hall r hr]
          obtain ⟨q, hq, e⟩ := hh
          have h1 := hτ r hr a ha ⟨q, hq, e⟩
          have h2 := hall q hq
          rw [e] at h2
          omega
        · rw [behind_none hd a hh]; exact Nat.zero_le _
      rw [hst]
      exact ⟨_, rfl⟩

end Go.Proofs.Ythngiikhgplldaa
