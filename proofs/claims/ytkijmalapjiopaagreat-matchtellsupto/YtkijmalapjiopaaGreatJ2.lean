/- Texts of this claim, one behind the other. -/
import Derived.Test.YtkijmalapjiopaaGreatJ1
import Derived.Maps.OwnSet
import Derived.Maps.OwnOps
import Derived.StringKeys
import Derived.Test.YtkijmalapjiopaaGreatChecked
import Derived.WalkKit
import Derived.WalkSpells
import Derived.WalkLawsBesides
/- What is wrong with programs, and their strata: the document's answer, on plain data. Nothing of the program. -/
namespace Go.Proofs.YtkijmalapjiopaaGreat

/-- One more, if it is not there. -/
def addNew (l : List Bs) (s : Bs) : List Bs := if l.contains s then l else l ++ [s]
def varsGo (l : List Bs) (ts : List TermD) : List Bs := ts.foldl (fun l t => if t.1 then addNew l t.2 else l) l
/-- An atom's variables. -/
def vars (a : AtomD) : List Bs := varsGo [] a.terms
def wrongTerm (t : TermD) : Bool := if t.1 then !isVar t.2 else !isNamed t.2
def wrongAtom (a : AtomD) : Int := if isNamed a.name = false then 7 else if 4 < a.terms.length then 5 else if a.terms.any wrongTerm then 7 else 0
/-- What atoms that are so give. -/
def givenBy (l : List AtomD) (s : Bs) : Bool := l.any fun a => !a.no && (vars a).contains s
def wrongAtoms : List AtomD → Int
  | [] => 0
  | a :: l => if wrongAtom a = 0 then wrongAtoms l else wrongAtom a
def wrongBody (l : List AtomD) : Int := if 5 < l.length then 5 else if wrongAtoms l = 0 then (if l.all (fun a => (vars a).all (givenBy l)) then 0 else 9) else wrongAtoms l

/-- A name's number, where it has one. -/
abbrev Nums := Bs → Option Nat
def Nums.put (m : Nums) (s : Bs) (n : Nat) : Nums := fun t => if t = s then some n else m t
def fitOne (m : Nums) (a : AtomD) : Bool × Nums := match m a.name with
  | none => (true, m.put a.name a.terms.length)
  | some n => (decide (n = a.terms.length), m)
def fitAll : Nums → List AtomD → Bool × Nums
  | m, [] => (true, m)
  | m, a :: l => if (fitOne m a).1 then fitAll (fitOne m a).2 l else (false, (fitOne m a).2)
/-- What is wrong with a rule, behind others. -/
def wrongRule (m : Nums) (r : RuleD) : Int × Nums :=
  if wrongAtom r.head = 0 then
    if r.head.no then (2, m) else
    if wrongBody r.body = 0 then
      if (vars r.head).all (givenBy r.body) then
        if (fitOne m r.head).1 then (if (fitAll (fitOne m r.head).2 r.body).1 then 0 else 8, (fitAll (fitOne m r.head).2 r.body).2) else (8, (fitOne m r.head).2)
      else (9, m)
    else (wrongBody r.body, m)
  else (wrongAtom r.head, m)
def wrongGo : Nums → Nat → List RuleD → Int × Nat
  | _, _, [] => (0, 0)
  | m, i, r :: l => if (wrongRule m r).1 = 0 then wrongGo (wrongRule m r).2 (i + 1) l else ((wrongRule m r).1, i)
/-- What is wrong with a program, and at which rule. -/
def wrongP (p : List RuleD) : Int × Nat := if 16 < p.length then (5, 0) else wrongGo (fun _ => none) 0 p

/-- The least that a head may have in whose body an atom stands. -/
def behind (m : Nums) (a : AtomD) : Nat := match m a.name with
  | none => 0
  | some n => if a.no then n + 1 else n
def numOf (m : Nums) (s : Bs) : Nat := (m s).getD 0
def liftAtom (h : Bs) (x : Nums × Bool) (a : AtomD) : Nums × Bool := if numOf x.1 h < behind x.1 a then (x.1.put h (behind x.1 a), true) else x
def liftRule (x : Nums × Bool) (r : RuleD) : Nums × Bool := r.body.foldl (liftAtom r.head.name) x
def liftAll (x : Nums × Bool) (p : List RuleD) : Nums × Bool := p.foldl liftRule x
def startGo (m : Nums) (p : List RuleD) : Nums := p.foldl (fun m r => m.put r.head.name 0) m
def start (p : List RuleD) : Nums := startGo (fun _ => none) p
def strataGo (p : List RuleD) : Nat → Nums → Option Nums
  | 0, _ => none
  | n + 1, m => if (liftAll (m, false) p).2 then strataGo p n (liftAll (m, false) p).1 else some (liftAll (m, false) p).1
def each (m : Nums) (p : List RuleD) : List Nat := p.map fun r => numOf m r.head.name
/-- A program's strata, and what is wrong. -/
def strataP (p : List RuleD) : List Nat × Int × Nat :=
  if (wrongP p).1 = 0 then match strataGo p (p.length + 1) (start p) with
    | some m => (each m p, 0, 0)
    | none => ([], 10, 0)
  else ([], wrongP p)

/-! ### numbers that hold -/
def isHead (p : List RuleD) (s : Bs) : Prop := ∃ r ∈ p, r.head.name = s
def step (a : AtomD) : Nat := if a.no then 1 else 0
/-- With these numbers all is as it must be. -/
def Sol (p : List RuleD) (σ : Bs → Nat) : Prop := ∀ r ∈ p, ∀ a ∈ r.body, isHead p a.name → σ a.name + step a ≤ σ r.head.name

/-- Just heads have numbers. -/
def Doms (p : List RuleD) (m : Nums) : Prop := ∀ s, (m s).isSome ↔ isHead p s
/-- No number is greater than what holds. -/
def Least (p : List RuleD) (m : Nums) : Prop := ∀ σ, Sol p σ → ∀ s, numOf m s ≤ σ s

theorem numOf_put (m : Nums) (s t : Bs) (n : Nat) : numOf (m.put s n) t = if t = s then n else numOf m t := by
  unfold numOf Nums.put
  by_cases h : t = s <;> simp [h]

theorem Doms.put {p : List RuleD} {m : Nums} (hd : Doms p m) {s : Bs} (hs : isHead p s) (n : Nat) : Doms p (m.put s n) := by
  intro t
  unfold Nums.put
  by_cases h : t = s
  · subst h; simp [hs]
  · rw [if_neg h]; exact hd t

/-- How many heads are where they must be. -/
def settled (p : List RuleD) (τ : Bs → Nat) (m : Nums) : Nat := (p.map fun r => if numOf m r.head.name = τ r.head.name then 1 else 0).sum

end Go.Proofs.YtkijmalapjiopaaGreat

/- Maps of texts that a call makes: sets of texts, and texts' numbers. Nothing of the program. -/
namespace Go.Proofs.YtkijmalapjiopaaGreat
open Go.RowKit Go.Sort Go.Maps

theorem owns_block {H : Type} {P : Program} {k : TypeId} {R : Value → Option (DataW H × List MemPlace)} {w w' : World} {b n : Nat} {D : DataW H} (h : w.ownsMap P k R b n D) (e : w'.heap[b]? = w.heap[b]?) : w'.ownsMap P k R b n D := by
  obtain ⟨es, clock, hb, F, hs, hD⟩ := h
  exact ⟨es, clock, e.trans hb, F, hs, hD⟩

theorem key_mk {P : Program} {K : TypeId} (hk : P.underlying K = some .string) {s : Bs} (hs : s.length ≤ maxLen) : keyOf P K (.string (bs s)) = some (.string s) := by
  have := WideMaps.keyOf_string_mk (P := P) (k := K) hk (s := bs s) (by rw [size_bs]; exact hs)
  rw [this]; rfl

theorem keyS (s : Bs) : WideAt.IsKeyLit (.string s) := trivial
theorem str_ne {s t : Bs} (h : t ≠ s) : Lit.string t ≠ Lit.string s := fun e => h (by injection e)

/-- Block b is a set of texts: those of which f says so. -/
def SetM (P : Program) (K : TypeId) (w : World) (b n : Nat) (f : Bs → Bool) : Prop := ∃ D : DataW Unit, w.ownsMap P K unitElem b n D ∧ ∀ s, Maps.has D (.string s) = f s

theorem SetM.made (P : Program) (K : TypeId) (w : World) : SetM P K (w.alloc (.map #[] 0)) w.heap.size 0 (fun _ => false) := ⟨.map [], World.ownsMap_made _ _ _ _, fun _ => rfl⟩

section
variable {P : Program} {K : TypeId} {w w' : World} {b n : Nat} {f : Bs → Bool}
theorem SetM.lt (h : SetM P K w b n f) : b < w.heap.size := by obtain ⟨D, h, _⟩ := h; exact h.lt
theorem SetM.block (h : SetM P K w b n f) (e : w'.heap[b]? = w.heap[b]?) : SetM P K w' b n f := by obtain ⟨D, h, hf⟩ := h; exact ⟨D, owns_block h e, hf⟩
theorem SetM.later (h : SetM P K w b n f) (k : Later w w') : SetM P K w' b n f := h.block (k.block h.lt)
theorem SetM.below (h : SetM P K w b n f) (k : Below w.heap.size w w') : SetM P K w' b n f := h.block (k.block b h.lt)
theorem SetM.grown {row : Option Nat} (h : SetM P K w b n f) (k : w.grownBy w' row) (hne : some b ≠ row) : SetM P K w' b n f := h.block (k.block b h.lt hne)
theorem SetM.mono (h : SetM P K w b n f) {n' : Nat} (hn : n ≤ n') : SetM P K w b n' f := by obtain ⟨D, h, hf⟩ := h; exact ⟨D, h.mono hn, hf⟩
theorem SetM.congr {g : Bs → Bool} (h : SetM P K w b n f) (e : ∀ s, f s = g s) : SetM P K w b n g := by obtain ⟨D, h, hf⟩ := h; exact ⟨D, h, fun s => (hf s).trans (e s)⟩
end

/-- Block b holds numbers of texts. -/
def NumM (P : Program) (K E : TypeId) (w : World) (b n : Nat) (m : Nums) : Prop := ∃ D : DataW Unit, w.ownsMap P K (plainElem P E) b n D ∧ ∀ s, Maps.has D (.string s) = (m s).isSome ∧ D.atKey (.string s) (.lit (.int .i64 0)) = .lit (.int .i64 (numOf m s))

theorem NumM.made (P : Program) (K E : TypeId) (w : World) : NumM P K E (w.alloc (.map #[] 0)) w.heap.size 0 (fun _ => none) := ⟨.map [], World.ownsMap_made _ _ _ _, fun _ => ⟨rfl, rfl⟩⟩

section
variable {P : Program} {K E : TypeId} {w w' : World} {b n : Nat} {m : Nums}
theorem NumM.lt (h : NumM P K E w b n m) : b < w.heap.size := by obtain ⟨D, h, _⟩ := h; exact h.lt
theorem NumM.block (h : NumM P K E w b n m) (e : w'.heap[b]? = w.heap[b]?) : NumM P K E w' b n m := by obtain ⟨D, h, hf⟩ := h; exact ⟨D, owns_block h e, hf⟩
theorem NumM.later (h : NumM P K E w b n m) (k : Later w w') : NumM P K E w' b n m := h.block (k.block h.lt)
theorem NumM.below (h : NumM P K E w b n m) (k : Below w.heap.size w w') : NumM P K E w' b n m := h.block (k.block b h.lt)
theorem NumM.grown {row : Option Nat} (h : NumM P K E w b n m) (k : w.grownBy w' row) (hne : some b ≠ row) : NumM P K E w' b n m := h.block (k.block b h.lt hne)
theorem NumM.mono (h : NumM P K E w b n m) {n' : Nat} (hn : n ≤ n') : NumM P K E w b n' m := by obtain ⟨D, h, hf⟩ := h; exact ⟨D, h.mono hn, hf⟩
end

/-! ### the runs -/
section
variable {P : Program} {K E T : TypeId} {w : World} {b n : Nat}
theorem SetM.has {f : Bs → Bool} (h : SetM P K w b n f) (hk : P.underlying K = some .string) (ht : P.underlying T = some (.map K E)) (hz : (zeroValue E).run P w = .ok (.agg #[]) w) {s : Bs} (hs : s.length ≤ maxLen) :
    (Instr.lookup T (.map (some b)) (.string (bs s)) true).run P w = .ok (.tuple #[.agg #[], .bool (f s)]) w := by
  obtain ⟨D, hown, hf⟩ := h
  obtain ⟨v, ps, hrun, hv⟩ := hown.look_ok (string_keyed hk) ht hz (zd := .agg []) (zp := []) unitElem_mk (key_mk hk hs)
  obtain ⟨rfl, _⟩ := unitElem_inv hv
  rw [hrun, hf]

theorem SetM.add {f : Bs → Bool} (h : SetM P K w b n f) (hk : P.underlying K = some .string) (ht : P.underlying T = some (.map K E)) (hn : n < maxLen) {s : Bs} (hs : s.length ≤ maxLen) :
    ∃ w', (Instr.mapUpdate T (.map (some b)) (.string (bs s)) (.agg #[])).run P w = .ok () w' ∧ SetM P K w' b (n + 1) (fun t => f t || decide (t = s)) ∧ w.grownBy w' (some b) := by
  obtain ⟨D, hown, hf⟩ := h
  obtain ⟨w', hrun, r1, r2⟩ := hown.update (string_keyed hk) ht hn (key_mk hk hs) (d := .agg []) (ps := []) unitElem_mk
  refine ⟨w', hrun, ⟨_, r1, fun t => ?_⟩, r2⟩
  by_cases e : t = s
  · subst e
    rw [has_put_same hown.isMap (keyS _)]; simp
  · rw [has_put_other (str_ne e), hf]; simp [e]

theorem NumM.look {m : Nums} (h : NumM P K E w b n m) (hk : P.underlying K = some .string) (he : P.underlying E = some (.int .i64)) (ht : P.underlying T = some (.map K E)) (hz : (zeroValue E).run P w = .ok (.int .i64 0) w) {s : Bs} (hs : s.length ≤ maxLen) :
    (Instr.lookup T (.map (some b)) (.string (bs s)) false).run P w = .ok (.int .i64 (numOf m s)) w := by
  obtain ⟨D, hown, hf⟩ := h
  obtain ⟨c, hrun, hat, _⟩ := hown.lookup_int (string_keyed hk) ht he hz (key_mk hk hs)
  rw [(hf s).2] at hat
  injection hat with hat
  injection hat with _ hat
  rw [hrun, hat]

theorem NumM.store {m : Nums} (h : NumM P K E w b n m) (hk : P.underlying K = some .string) (he : P.underlying E = some (.int .i64)) (ht : P.underlying T = some (.map K E)) (hn : n < maxLen) {s : Bs} (hs : s.length ≤ maxLen) {x : Nat} (hx : (Lit.int .i64 (x : Int)).wf = true) :
    ∃ w', (Instr.mapUpdate T (.map (some b)) (.string (bs s)) (.int .i64 (x : Int))).run P w = .ok () w' ∧ NumM P K E w' b (n + 1) (m.put s x) ∧ w.grownBy w' (some b) := by
  obtain ⟨D, hown, hf⟩ := h
  obtain ⟨w', hrun, r1, r2⟩ := hown.update (string_keyed hk) ht hn (key_mk hk hs) (plainElem_int he hx)
  refine ⟨w', hrun, ⟨_, r1, fun t => ?_⟩, r2⟩
  by_cases e : t = s
  · subst e
    refine ⟨by rw [has_put_same hown.isMap (keyS _)]; simp [Nums.put], ?_⟩
    rw [atKey_put_same hown.isMap (keyS _), numOf_put, if_pos rfl]
  · refine ⟨by rw [has_put_other (str_ne e), (hf t).1]; simp [Nums.put, e], ?_⟩
    rw [atKey_put_other (str_ne e), (hf t).2, numOf_put, if_neg e]
end

/-! ### at the operation, for the walk -/
section
variable {P : Program} (w : World) {ops : Array Oper} {rest : List Oper} {o : Oper} {a : Act} {Q : Exit → Act → World → Prop}
theorem wpList_run_lookup (hg : o.guard = none) (m x : Operand) (t : TypeId) (c : Bool) (hop : o.op = Op.lookup t m x c) (vm vx v : Value) (hm : a.eval m = vm) (hx : a.eval x = vx) (hrun : (Instr.lookup t vm vx c).run P w = .ok v w)
    (hK : wpList P ops Q rest (a.put o.dst v) w) : wpList P ops Q (o :: rest) a w := by
  refine wpList_plain hg fun K' hK' => ?_
  unfold Oper.wp
  simp [execOp, hop, hm, hx, hrun, Result.andThen]
  exact hK' _ _ hK
theorem wpList_run_update (hg : o.guard = none) (m x v : Operand) (t : TypeId) (hop : o.op = Op.mapUpdate t m x v) (vm vx vv : Value) (w' : World) (hm : a.eval m = vm) (hx : a.eval x = vx) (hv : a.eval v = vv) (hrun : (Instr.mapUpdate t vm vx vv).run P w = .ok () w')
    (hK : wpList P ops Q rest (a.put o.dst undef) w') : wpList P ops Q (o :: rest) a w := by
  refine wpList_plain hg fun K' hK' => ?_
  unfold Oper.wp
  simp [execOp, hop, hm, hx, hv, hrun, Result.andThen]
  exact hK' _ _ hK
end

end Go.Proofs.YtkijmalapjiopaaGreat

/- What variables stand for: the document's answer of chapter 4, plain: lists of binds, an atom filled, met, a body's lists. Nothing of the program. -/
namespace Go.Proofs.YtkijmalapjiopaaGreat

/-- A variable, and what it stands for. -/
abbrev BindD := ByteArray × ByteArray

def getB : List BindD → ByteArray → Option ByteArray
  | [], _ => none
  | b :: l, v => if b.1 = v then some b.2 else getB l v

def keysB (l : List BindD) : List ByteArray := l.map (·.1)

theorem getB_append (l m : List BindD) (v : ByteArray) : getB (l ++ m) v = match getB l v with | some s => some s | none => getB m v := by
  induction l with
  | nil => rfl
  | cons b l ih =>
    simp only [List.cons_append, getB]
    split
    · rfl
    · exact ih

theorem getB_none {l : List BindD} {v : ByteArray} : getB l v = none ↔ v ∉ keysB l := by
  induction l with
  | nil => simp [getB, keysB]
  | cons b l ih =>
    simp only [getB, keysB, List.map_cons, List.mem_cons, not_or]
    split
    · rename_i h; simp [h]
    · rename_i h
      rw [ih]
      exact ⟨fun h' => ⟨fun e => h e.symm, h'⟩, fun h' => h'.2⟩

theorem getB_mem {l : List BindD} {v s : ByteArray} (h : getB l v = some s) : (v, s) ∈ l := by
  induction l with
  | nil => cases h
  | cons b l ih =>
    simp only [getB] at h
    split at h
    · rename_i e
      cases h
      subst e
      exact List.mem_cons_self
    · exact List.mem_cons_of_mem _ (ih h)

theorem getB_of_mem {l : List BindD} (hn : (keysB l).Nodup) {v s : ByteArray} (h : (v, s) ∈ l) : getB l v = some s := by
  induction l with
  | nil => cases h
  | cons b l ih =>
    have hn' : b.1 ∉ keysB l ∧ (keysB l).Nodup := List.nodup_cons.1 hn
    rcases List.mem_cons.1 h with e | h
    · subst e; simp [getB]
    · have : b.1 ≠ v := fun e => hn'.1 (by rw [e]; exact List.mem_map.2 ⟨_, h, rfl⟩)
      simp only [getB, if_neg this]
      exact ih hn'.2 h

theorem getB_isSome {l : List BindD} {v : ByteArray} (h : v ∈ keysB l) : ∃ s, getB l v = some s := by
  cases e : getB l v with
  | none => exact absurd h (getB_none.1 e)
  | some s => exact ⟨s, rfl⟩

theorem getB_perm {l m : List BindD} (h : l.Perm m) (hn : (keysB l).Nodup) (v : ByteArray) : getB l v = getB m v := by
  have hm : (keysB m).Nodup := (h.map _).nodup_iff.1 hn
  cases e : getB l v with
  | none => exact (getB_none.2 fun hv => getB_none.1 e ((h.map _).mem_iff.2 hv)).symm
  | some s => exact (getB_of_mem hm (h.mem_iff.1 (getB_mem e))).symm

/-- What a term is, or stands for. -/
def worthB (l : List BindD) (t : TermD) : Option ByteArray := if t.1 then getB l (bs t.2) else some (bs t.2)

def fillArgs (l : List BindD) : List TermD → Option (List ByteArray)
  | [] => some []
  | t :: ts => match worthB l t with
    | none => none
    | some s => match fillArgs l ts with
      | none => none
      | some r => some (s :: r)

abbrev FactB := ByteArray × List ByteArray

def fillB (a : AtomD) (l : List BindD) : Option FactB := match fillArgs l a.terms with
  | none => none
  | some r => some (bs a.name, r)

/-- l, and what is put behind it, term by term. -/
def meetGo (l : List BindD) : List TermD → List ByteArray → Option (List BindD)
  | [], _ => some l
  | _ :: _, [] => none
  | t :: ts, x :: xs => match worthB l t with
    | none => meetGo (l ++ [(bs t.2, x)]) ts xs
    | some s => if s = x then meetGo l ts xs else none

def meetB (a : AtomD) (f : FactB) (l : List BindD) : Option (List BindD) :=
  if bs a.name = f.1 ∧ a.terms.length = f.2.length then meetGo l a.terms f.2 else none

/-- Each list that Meet tells, of each list so far, and each fact. -/
def meetAllB (a : AtomD) (fs : List FactB) (ls : List (List BindD)) : List (List BindD) := ls.flatMap fun l => fs.filterMap fun f => meetB a f l

def metGo (pick : Nat → List FactB) : Nat → List AtomD → List (List BindD) → Option (List (List BindD))
  | _, [], ls => some ls
  | n, a :: ats, ls => if a.no then metGo pick (n + 1) ats ls
    else if 20000 < (meetAllB a (pick n) ls).length then none
    else metGo pick (n + 1) ats (meetAllB a (pick n) ls)

def inB (l : List FactB) (f : FactB) : Bool := l.any fun x => decide (x = f)
theorem inB_iff {l : List FactB} {f : FactB} : inB l f = true ↔ f ∈ l := by
  unfold inB
  rw [List.any_eq_true]
  exact ⟨fun ⟨x, hx, e⟩ => by rw [decide_eq_true_eq] at e; rw [← e]; exact hx, fun h => ⟨f, h, by simp⟩⟩

/-- Something that must not be so is so. -/
def barredB (pick : Nat → List FactB) : Nat → List AtomD → List BindD → Bool
  | _, [], _ => false
  | n, a :: ats, l => (a.no && (match fillB a l with | some f => inB (pick n) f | none => false)) || barredB pick (n + 1) ats l

/-! Filled. -/

theorem worthB_append {l m : List BindD} {t : TermD} {s : ByteArray} (h : worthB l t = some s) : worthB (l ++ m) t = some s := by
  unfold worthB at *
  split
  · rename_i ht
    rw [if_pos ht] at h
    rw [getB_append, h]
  · rename_i ht
    rw [if_neg ht] at h
    exact h

theorem fillArgs_append {l m : List BindD} : ∀ {ts : List TermD} {r : List ByteArray}, fillArgs l ts = some r → fillArgs (l ++ m) ts = some r
  | [], r, h => h
  | t :: ts, r, h => by
    simp only [fillArgs] at h ⊢
    cases e : worthB l t with
    | none => rw [e] at h; cases h
    | some s =>
      rw [e] at h
      rw [worthB_append e]
      dsimp only at h ⊢
      cases e2 : fillArgs l ts with
      | none => rw [e2] at h; cases h
      | some q =>
        rw [e2] at h
        rw [fillArgs_append e2]
        exact h

theorem fillB_append {l m : List BindD} {a : AtomD} {f : FactB} (h : fillB a l = some f) : fillB a (l ++ m) = some f := by
  unfold fillB at *
  cases e : fillArgs l a.terms with
  | none => rw [e] at h; cases h
  | some r => rw [e] at h; rw [fillArgs_append e]; exact h

theorem fillArgs_congr {l m : List BindD} : ∀ {ts : List TermD}, (∀ t ∈ ts, t.1 = true → getB l (bs t.2) = getB m (bs t.2)) → fillArgs l ts = fillArgs m ts
  | [], _ => rfl
  | t :: ts, h => by
    have e1 : worthB l t = worthB m t := by
      unfold worthB
      split
      · rename_i ht; exact h t List.mem_cons_self ht
      · rfl
    simp only [fillArgs]
    rw [e1, fillArgs_congr (ts := ts) fun t ht => h t (List.mem_cons_of_mem _ ht)]

theorem fillB_congr {l m : List BindD} {a : AtomD} (h : ∀ t ∈ a.terms, t.1 = true → getB l (bs t.2) = getB m (bs t.2)) : fillB a l = fillB a m := by
  unfold fillB
  rw [fillArgs_congr h]

theorem fillArgs_some {l : List BindD} : ∀ {ts : List TermD}, (∀ t ∈ ts, t.1 = true → bs t.2 ∈ keysB l) → ∃ r, fillArgs l ts = some r
  | [], _ => ⟨[], rfl⟩
  | t :: ts, h => by
    obtain ⟨r, hr⟩ := fillArgs_some (ts := ts) fun t ht => h t (List.mem_cons_of_mem _ ht)
    have : ∃ s, worthB l t = some s := by
      unfold worthB
      split
      · rename_i ht; exact getB_isSome (h t List.mem_cons_self ht)
      · exact ⟨_, rfl⟩
    obtain ⟨s, hs⟩ := this
    exact ⟨s :: r, by simp only [fillArgs, hs, hr]⟩

theorem fillB_some {l : List BindD} {a : AtomD} (h : ∀ t ∈ a.terms, t.1 = true → bs t.2 ∈ keysB l) : ∃ f, fillB a l = some f := by
  obtain ⟨r, hr⟩ := fillArgs_some h
  exact ⟨(bs a.name, r), by unfold fillB; rw [hr]⟩

theorem fillArgs_len {l : List BindD} : ∀ {ts : List TermD} {r : List ByteArray}, fillArgs l ts = some r → r.length = ts.length
  | [], r, h => by cases h; rfl
  | t :: ts, r, h => by
    simp only [fillArgs] at h
    cases e : worthB l t with
    | none => rw [e] at h; cases h
    | some s =>
      rw [e] at h
      dsimp only at h
      cases e2 : fillArgs l ts with
      | none => rw [e2] at h; cases h
      | some q => rw [e2] at h; cases h; simp [fillArgs_len e2]

/-! Variables so far. -/

theorem addNew_pre (K : List Bs) (s : Bs) : ∃ r, addNew K s = K ++ r := by
  unfold addNew
  split
  · exact ⟨[], by simp⟩
  · exact ⟨[s], rfl⟩

theorem varsGo_cons (K : List Bs) (t : TermD) (ts : List TermD) : varsGo K (t :: ts) = varsGo (if t.1 then addNew K t.2 else K) ts := rfl

theorem varsGo_pre : ∀ (ts : List TermD) (K : List Bs), ∃ r, varsGo K ts = K ++ r
  | [], K => ⟨[], by simp [varsGo]⟩
  | t :: ts, K => by
    rw [varsGo_cons]
    split
    · obtain ⟨r1, h1⟩ := addNew_pre K t.2
      obtain ⟨r2, h2⟩ := varsGo_pre ts (addNew K t.2)
      exact ⟨r1 ++ r2, by rw [h2, h1, List.append_assoc]⟩
    · exact varsGo_pre ts K

theorem addNew_nodup {K : List Bs} (h : K.Nodup) (s : Bs) : (addNew K s).Nodup := by
  unfold addNew
  split
  · exact h
  · rename_i hc
    rw [List.nodup_append]
    refine ⟨h, by simp, fun a ha b hb => ?_⟩
    simp at hb
    subst hb
    intro e
    subst e
    simp at hc
    exact hc ha

theorem varsGo_nodup : ∀ (ts : List TermD) {K : List Bs}, K.Nodup → (varsGo K ts).Nodup
  | [], _, h => h
  | t :: ts, K, h => by
    rw [varsGo_cons]
    split
    · exact varsGo_nodup ts (addNew_nodup h _)
    · exact varsGo_nodup ts h

theorem mem_addNew {K : List Bs} {s v : Bs} : v ∈ addNew K s ↔ v ∈ K ∨ v = s := by
  unfold addNew
  split
  · rename_i h
    simp at h
    exact ⟨Or.inl, fun h' => h'.elim id fun e => by rw [e]; exact h⟩
  · simp

theorem mem_varsGo : ∀ (ts : List TermD) {K : List Bs} {v : Bs}, v ∈ varsGo K ts ↔ v ∈ K ∨ ∃ t ∈ ts, t.1 = true ∧ t.2 = v
  | [], K, v => by simp [varsGo]
  | t :: ts, K, v => by
    rw [varsGo_cons, mem_varsGo ts]
    cases ht : t.1
    · simp [ht]
    · simp only [if_true, mem_addNew, List.mem_cons, exists_eq_or_imp, ht, true_and]
      constructor
      · rintro ((h | h) | h)
        · exact Or.inl h
        · exact Or.inr (Or.inl h.symm)
        · exact Or.inr (Or.inr h)
      · rintro (h | h | h)
        · exact Or.inl (Or.inl h)
        · exact Or.inl (Or.inr h.symm)
        · exact Or.inr h

theorem mem_map_bs {K : List Bs} {v : Bs} : bs v ∈ K.map bs ↔ v ∈ K := by
  constructor
  · intro h
    obtain ⟨x, hx, e⟩ := List.mem_map.1 h
    rw [← bs_inj e]; exact hx
  · exact fun h => List.mem_map.2 ⟨_, h, rfl⟩

theorem nodup_map_bs {K : List Bs} (h : K.Nodup) : (K.map bs).Nodup := by
  rw [List.Nodup, List.pairwise_map]
  exact h.imp fun hne e => hne (bs_inj e)

/-! Met. -/

theorem meetGo_ok : ∀ (ts : List TermD) (xs : List ByteArray) (l m : List BindD) (K : List Bs), ts.length = xs.length → keysB l = K.map bs → meetGo l ts xs = some m →
    (∃ r, m = l ++ r) ∧ keysB m = (varsGo K ts).map bs ∧ fillArgs m ts = some xs
  | [], [], l, m, K, _, hk, h => by
    cases h
    exact ⟨⟨[], by simp⟩, hk, rfl⟩
  | [], _ :: _, _, _, _, hl, _, _ => by simp at hl
  | _ :: _, [], _, _, _, hl, _, _ => by simp at hl
  | t :: ts, x :: xs, l, m, K, hl, hk, h => by
    have hl' : ts.length = xs.length := by simpa using hl
    simp only [meetGo] at h
    cases e : worthB l t with
    | none =>
      rw [e] at h
      dsimp only at h
      have ht : t.1 = true := by
        unfold worthB at e
        split at e
        · assumption
        · cases e
      have hg : getB l (bs t.2) = none := by unfold worthB at e; rwa [if_pos ht] at e
      have hnk : t.2 ∉ K := fun hm => getB_none.1 hg (by rw [hk]; exact mem_map_bs.2 hm)
      have ha : addNew K t.2 = K ++ [t.2] := by unfold addNew; rw [if_neg (by simpa using hnk)]
      obtain ⟨⟨r, hr⟩, h2, h3⟩ := meetGo_ok ts xs (l ++ [(bs t.2, x)]) m (K ++ [t.2]) hl' (by simp [keysB] at hk ⊢; exact hk) h
      refine ⟨⟨(bs t.2, x) :: r, by rw [hr]; simp⟩, by rw [varsGo_cons, if_pos ht, ha]; exact h2, ?_⟩
      simp only [fillArgs]
      have hw : worthB m t = some x := by
        rw [hr]
        refine worthB_append ?_
        unfold worthB
        rw [if_pos ht, getB_append, hg]
        simp [getB]
      rw [hw, h3]
    | some s =>
      rw [e] at h
      dsimp only at h
      split at h
      · rename_i hs
        subst hs
        have hK : (if t.1 = true then addNew K t.2 else K) = K := by
          split
          · rename_i ht
            unfold worthB at e
            rw [if_pos ht] at e
            unfold addNew
            rw [if_pos]
            have : bs t.2 ∈ keysB l := Classical.byContradiction fun hk => by rw [getB_none.2 hk] at e; cases e
            rw [hk] at this
            simpa using mem_map_bs.1 this
          · rfl
        obtain ⟨⟨r, hr⟩, h2, h3⟩ := meetGo_ok ts xs l m K hl' hk h
        refine ⟨⟨r, hr⟩, by rw [varsGo_cons, hK]; exact h2, ?_⟩
        simp only [fillArgs]
        rw [show worthB m t = some s by rw [hr]; exact worthB_append e, h3]
      · cases h

theorem meetGo_of : ∀ (ts : List TermD) (xs : List ByteArray) (l m r : List BindD) (K : List Bs), keysB l = K.map bs → m = l ++ r → keysB m = (varsGo K ts).map bs → fillArgs m ts = some xs → meetGo l ts xs = some m
  | [], xs, l, m, r, K, hk, hm, hv, _ => by
    have e : r = [] := by
      have h1 : (keysB m).length = (keysB l).length := by rw [hv, hk]; simp [varsGo]
      rw [hm] at h1
      simp [keysB] at h1
      exact h1
    rw [hm, e]
    simp [meetGo]
  | t :: ts, xs, l, m, r, K, hk, hm, hv, hf => by
    simp only [fillArgs] at hf
    cases e : worthB m t with
    | none => rw [e] at hf; cases hf
    | some s =>
      rw [e] at hf
      dsimp only at hf
      cases e2 : fillArgs m ts with
      | none => rw [e2] at hf; cases hf
      | some q =>
        rw [e2] at hf
        cases hf
        rw [varsGo_cons] at hv
        simp only [meetGo]
        cases e3 : worthB l t with
        | some s' =>
          have := worthB_append (m := r) e3
          rw [← hm, e] at this
          cases this
          dsimp only
          rw [if_pos rfl]
          have hK : (if t.1 = true then addNew K t.2 else K) = K := by
            split
            · rename_i ht
              unfold worthB at e3
              rw [if_pos ht] at e3
              unfold addNew
              rw [if_pos]
              have : bs t.2 ∈ keysB l := Classical.byContradiction fun hk => by rw [getB_none.2 hk] at e3; cases e3
              rw [hk] at this
              simpa using mem_map_bs.1 this
            · rfl
          rw [hK] at hv
          exact meetGo_of ts q l m r K hk hm hv e2
        | none =>
          dsimp only
          have ht : t.1 = true := by
            unfold worthB at e3
            split at e3
            · assumption
            · cases e3
          have hg : getB l (bs t.2) = none := by unfold worthB at e3; rwa [if_pos ht] at e3
          have hnk : t.2 ∉ K := fun hm => getB_none.1 hg (by rw [hk]; exact mem_map_bs.2 hm)
          have ha : addNew K t.2 = K ++ [t.2] := by unfold addNew; rw [if_neg (by simpa using hnk)]
          rw [if_pos ht, ha] at hv
          obtain ⟨q', hq'⟩ := varsGo_pre ts (K ++ [t.2])
          have hkr : keysB r = bs t.2 :: q'.map bs := by
            have h1 := hv
            rw [hq', hm] at h1
            simp only [keysB, List.map_append] at h1 hk ⊢
            rw [hk, List.append_assoc] at h1
            simpa using List.append_cancel_left h1
          cases r with
          | nil => simp [keysB] at hkr
          | cons b r' =>
            have hb : b.1 = bs t.2 := by simp [keysB] at hkr; exact hkr.1
            have hbs : b.2 = s := by
              unfold worthB at e
              rw [if_pos ht, hm, getB_append, hg] at e
              simp only [getB, hb, if_true] at e
              exact Option.some.inj e
            have hbe : b = (bs t.2, s) := by rw [← hb, ← hbs]
            subst hbe
            exact meetGo_of ts q (l ++ [(bs t.2, s)]) m r' (K ++ [t.2]) (by simp [keysB] at hk ⊢; exact hk) (by rw [hm]; simp) hv e2

theorem meetB_ok {a : AtomD} {f : FactB} {l m : List BindD} {K : List Bs} (hk : keysB l = K.map bs) (h : meetB a f l = some m) : (∃ r, m = l ++ r) ∧ keysB m = (varsGo K a.terms).map bs ∧ fillB a m = some f := by
  unfold meetB at h
  split at h
  · rename_i hc
    obtain ⟨h1, h2, h3⟩ := meetGo_ok a.terms f.2 l m K hc.2 hk h
    exact ⟨h1, h2, by unfold fillB; rw [h3, hc.1]⟩
  · cases h

theorem meetB_of {a : AtomD} {f : FactB} {l m r : List BindD} {K : List Bs} (hk : keysB l = K.map bs) (hm : m = l ++ r) (hv : keysB m = (varsGo K a.terms).map bs) (hf : fillB a m = some f) : meetB a f l = some m := by
  unfold fillB at hf
  cases e : fillArgs m a.terms with
  | none => rw [e] at hf; cases hf
  | some x =>
    rw [e] at hf
    cases hf
    unfold meetB
    rw [if_pos ⟨rfl, (fillArgs_len e).symm⟩]
    exact meetGo_of a.terms x l m r K hk hm hv e

end Go.Proofs.YtkijmalapjiopaaGreat

/- The walks of cmp.Compare at texts and whole numbers, slices.Compare at texts, and fact.Compare. -/
namespace Go.Proofs.YtkijmalapjiopaaGreat
open Go.RowKit Go.Sort

set_option maxHeartbeats 400000 in
theorem isNaNS (x : ByteArray) (w : World) : Calls Tryz.prog 87 #[.string x] w fun e w' => e = .returned (.bool false) ∧ w' = w := by
  go_enter Tryz.func87, Tryz.ntmps87
  go_wp2
  go_ret
  exact ⟨by simp, rfl⟩

set_option maxHeartbeats 400000 in
theorem isNaNI (x : Int) (w : World) : Calls Tryz.prog 103 #[.int .i64 x] w fun e w' => e = .returned (.bool false) ∧ w' = w := by
  go_enter Tryz.func103, Tryz.ntmps103
  go_wp2
  go_ret
  exact ⟨by simp, rfl⟩

set_option maxHeartbeats 400000 in
theorem compareS (x y : ByteArray) (w : World) : Calls Tryz.prog 61 #[.string x, .string y] w fun e w' => e = .returned (.int .i64 (cmpS x y)) ∧ w' = w := by
  unfold cmpS
  cases h : Op.bytesLess x.toList y.toList
  · cases h2 : (x.toList == y.toList)
    · go_enter Tryz.func61, Tryz.ntmps61
      go_wp2_with (go_at_call 87; refine (isNaNS _ _).mono ?_; rintro e w' ⟨rfl, rfl⟩)
      go_ret
      exact ⟨by simp, rfl⟩
    · go_enter Tryz.func61, Tryz.ntmps61
      go_wp2_with (go_at_call 87; refine (isNaNS _ _).mono ?_; rintro e w' ⟨rfl, rfl⟩)
      go_ret
      exact ⟨by simp, rfl⟩
  · go_enter Tryz.func61, Tryz.ntmps61
    go_wp2_with (go_at_call 87; refine (isNaNS _ _).mono ?_; rintro e w' ⟨rfl, rfl⟩)
    go_ret
    exact ⟨by simp, rfl⟩

set_option maxHeartbeats 400000 in
theorem compareI (x y : Int) (w : World) : Calls Tryz.prog 73 #[.int .i64 x, .int .i64 y] w fun e w' => e = .returned (.int .i64 (cmpI x y)) ∧ w' = w := by
  unfold cmpI
  by_cases h : x < y
  · go_enter Tryz.func73, Tryz.ntmps73
    go_wp2_with (go_at_call 103; refine (isNaNI _ _).mono ?_; rintro e w' ⟨rfl, rfl⟩)
    go_ret
    exact ⟨by simp, rfl⟩
  · by_cases h2 : y < x
    · go_enter Tryz.func73, Tryz.ntmps73
      go_wp2_with (go_at_call 103; refine (isNaNI _ _).mono ?_; rintro e w' ⟨rfl, rfl⟩)
      go_ret
      exact ⟨by simp, rfl⟩
    · go_enter Tryz.func73, Tryz.ntmps73
      go_wp2_with (go_at_call 103; refine (isNaNI _ _).mono ?_; rintro e w' ⟨rfl, rfl⟩)
      go_ret
      exact ⟨by simp, rfl⟩

set_option maxHeartbeats 400000 in
/-- slices.Compare at texts, the first list empty. -/
theorem sCompare_nil (a : Option Addr) (cap : Nat) (b : Option Addr) (n capb : Nat) (w : World) (hn : n ≤ 9223372036854775807) :
    Calls Tryz.prog 74 #[.slice a 0 cap, .slice b n capb] w fun e w' => e = .returned (.int .i64 (if 0 < n then -1 else 0)) ∧ w' = w := by
  by_cases h : 0 < n
  · rw [if_pos h]
    have h' : (0 : Int) < (n : Int) := by omega
    go_enter Tryz.func74, Tryz.ntmps74
    go_wp2
    refine wp_loop_rounds 1 ?_; rw [rounds_succ]
    go_wp2
    go_ret
    exact ⟨rfl, rfl⟩
  · rw [if_neg h]
    obtain rfl : n = 0 := by omega
    go_enter Tryz.func74, Tryz.ntmps74
    go_wp2
    refine wp_loop_rounds 1 ?_; rw [rounds_succ]
    go_wp2
    go_ret
    exact ⟨rfl, rfl⟩

set_option maxHeartbeats 400000 in
/-- slices.Compare at texts, the second list empty, the first one not. -/
theorem sCompare_nil' (b off n cap : Nat) (a2 : Option Addr) (cap2 : Nat) (s0 : ByteArray) (w : World) (h0 : 0 < n) (hn : n ≤ 9223372036854775807) (hc : w.cell? ⟨b, off, none⟩ = some (.string s0)) :
    Calls Tryz.prog 74 #[.slice (some ⟨b, off, none⟩) n cap, .slice a2 0 cap2] w fun e w' => e = .returned (.int .i64 1) ∧ w' = w := by
  have h' : (0 : Int) < (n : Int) := by omega
  go_enter Tryz.func74, Tryz.ntmps74
  go_wp2
  refine wp_loop_rounds 1 ?_; rw [rounds_succ]
  go_wp2
  go_ret
  exact ⟨rfl, rfl⟩

set_option maxHeartbeats 1000000 in
/-- slices.Compare at texts, neither list empty. -/
theorem sCompare_both (b off cap b2 off2 cap2 : Nat) (x y : List ByteArray) (w : World) (hx : x.length ≤ 9223372036854775807) (_hy : y.length ≤ 9223372036854775807)
    (hc : ∀ i, i < x.length → w.cell? ⟨b, off + i, none⟩ = some (.string (x.getD i ByteArray.empty))) (hd : ∀ i, i < y.length → w.cell? ⟨b2, off2 + i, none⟩ = some (.string (y.getD i ByteArray.empty))) :
    Calls Tryz.prog 74 #[.slice (some ⟨b, off, none⟩) x.length cap, .slice (some ⟨b2, off2, none⟩) y.length cap2] w fun e w' => e = .returned (.int .i64 (cmpL x y)) ∧ w' = w := by
  have HC : Hid _ := hc
  have HD : Hid _ := hd
  clear hc hd
  go_enter Tryz.func74, Tryz.ntmps74
  go_wp2
  go_loop [11] (fun i => ∃ k : Nat, k ≤ x.length ∧ k ≤ y.length ∧ i = .int .i64 k ∧ Hid (cmpL x y = cmpL (x.drop k) (y.drop k))) (fun i => x.length - (intOf i).toNat)
  case atStart => exact ⟨0, Nat.zero_le _, Nat.zero_le _, rfl, (by simp : cmpL x y = cmpL (x.drop 0) (y.drop 0))⟩
  case round =>
    obtain ⟨k, hk, hk2, rfl, HE⟩ := hrel
    by_cases hlt : k < x.length
    · have h1 := HC.out k hlt
      by_cases hlt2 : k < y.length
      · have h2 := HD.out k hlt2
        have e := cmpL_drop x y k hlt hlt2
        generalize x.getD k ByteArray.empty = sx at *
        generalize y.getD k ByteArray.empty = sy at *
        have E : Hid _ := e
        clear e
        by_cases hz : cmpS sx sy = 0
        · go_wp2_with (go_at_call 61; refine (compareS _ _ _).mono ?_; rintro e w' ⟨rfl, rfl⟩; rw [hz])
          go_round
          case rel =>
            refine ⟨k + 1, by omega, by omega, by go_num, ?_⟩
            show cmpL x y = _
            rw [HE.out, E.out, if_neg (by omega)]
          case measure => simp [intOf]; omega
        · have hz' : (cmpS sx sy == 0) = false := by simpa using hz
          have F : Hid (cmpL x y = cmpS sx sy) := by show _ = _; rw [HE.out, E.out, if_pos hz]
          generalize hr : cmpS sx sy = r at *
          have R : Hid _ := hr
          clear hr
          go_wp2_with (go_at_call 61; refine (compareS _ _ _).mono ?_; rintro e w' ⟨rfl, rfl⟩; rw [R.out])
          go_ret
          exact ⟨ret_int F.out.symm, rfl⟩
      · have F : Hid (cmpL x y = 1) := by show _ = _; rw [HE.out, cmpL_drop_end' x y k hlt (by omega)]
        go_wp2
        go_ret
        exact ⟨ret_int F.out.symm, rfl⟩
    · have F : Hid (cmpL x y = if k < y.length then -1 else 0) := by show _ = _; rw [HE.out, cmpL_drop_end x y k (by omega)]
      obtain rfl : k = x.length := by omega
      by_cases hy2 : x.length < y.length
      · go_wp2
        go_ret
        exact ⟨ret_int (by rw [F.out, if_pos hy2]), rfl⟩
      · go_wp2
        go_ret
        exact ⟨ret_int (by rw [F.out, if_neg hy2]), rfl⟩

/-- slices.Compare at texts, whatever the lists. -/
theorem sCompare (v1 v2 : Value) (x y : List ByteArray) (w : World) (h1 : Strs w v1 x) (h2 : Strs w v2 y) :
    Calls Tryz.prog 74 #[v1, v2] w fun e w' => e = .returned (.int .i64 (cmpL x y)) ∧ w' = w := by
  obtain ⟨l1, a1, c1, rfl, r1⟩ := h1
  obtain ⟨l2, a2, c2, rfl, r2⟩ := h2
  cases x with
  | nil =>
    have e : cmpL [] y = if 0 < y.length then -1 else 0 := by cases y <;> simp [cmpL]
    rw [e]
    exact sCompare_nil a1 c1 a2 y.length c2 w (by omega)
  | cons p x =>
    obtain ⟨b, off, rfl, _, hc⟩ := r1 (by simp)
    cases y with
    | nil => exact sCompare_nil' b off _ c1 a2 c2 p w (by simp) (by omega) (by simpa using hc 0 (by simp))
    | cons q y =>
      obtain ⟨b2, off2, rfl, _, hd⟩ := r2 (by simp)
      exact sCompare_both b off c1 b2 off2 c2 (p :: x) (q :: y) w (by omega) (by omega) hc hd

set_option maxHeartbeats 1000000 in
/-- fact.Compare: what the order says; two boxes are laid. -/
theorem compareF (v1 v2 : Value) (f g : FactD) (w : World) (h1 : FactV w v1 f) (h2 : FactV w v2 g) :
    Calls Tryz.prog 56 #[v1, v2] w fun e w' => e = .returned (.int .i64 (cmpF f g)) ∧ Later w w' := by
  obtain ⟨s1, rfl, k1⟩ := h1
  obtain ⟨s2, rfl, k2⟩ := h2
  have l1 := k1.1; have l2 := k2.1
  have hL : Hid (∀ w', Later w w' → Calls Tryz.prog 74 #[s1, s2] w' fun e w'' => e = .returned (.int .i64 (cmpL f.2 g.2)) ∧ w'' = w') := fun w' hw => sCompare s1 s2 _ _ w' (k1.later hw) (k2.later hw)
  obtain ⟨a1, c1, rfl⟩ := sliceStr k1
  obtain ⟨a2, c2, rfl⟩ := sliceStr k2
  clear k1 k2
  obtain ⟨n1, x⟩ := f
  obtain ⟨n2, y⟩ := g
  unfold cmpF
  dsimp only at *
  by_cases hz : cmpS n1 n2 = 0
  · by_cases hi : cmpI x.length y.length = 0
    · rw [if_neg (by omega), if_neg (by omega)]
      go_enter Tryz.func56, Tryz.ntmps56
      go_wp2_with (first
        | (go_at_call 61; refine (compareS _ _ _).mono ?_; rintro e w' ⟨rfl, rfl⟩; rw [hz])
        | (go_at_call 73; refine (compareI _ _ _).mono ?_; rintro e w' ⟨rfl, rfl⟩; rw [hi])
        | (go_at_call 74; refine (hL.out _ (((Later.refl _).alloc _).alloc _)).mono ?_; rintro e w' ⟨rfl, rfl⟩))
      go_ret
      exact ⟨rfl, ((Later.refl _).alloc _).alloc _⟩
    · rw [if_neg (by omega), if_pos hi]
      have hi' : (cmpI x.length y.length == 0) = false := by simpa using hi
      generalize hr : cmpI x.length y.length = r at *
      have R : Hid _ := hr
      clear hr
      go_enter Tryz.func56, Tryz.ntmps56
      go_wp2_with (first
        | (go_at_call 61; refine (compareS _ _ _).mono ?_; rintro e w' ⟨rfl, rfl⟩; rw [hz])
        | (go_at_call 73; refine (compareI _ _ _).mono ?_; rintro e w' ⟨rfl, rfl⟩; rw [R.out]))
      go_ret
      exact ⟨rfl, ((Later.refl _).alloc _).alloc _⟩
  · rw [if_pos hz]
    have hz' : (cmpS n1 n2 == 0) = false := by simpa using hz
    generalize hr : cmpS n1 n2 = r at *
    have R : Hid _ := hr
    clear hr
    go_enter Tryz.func56, Tryz.ntmps56
    go_wp2_with (go_at_call 61; refine (compareS _ _ _).mono ?_; rintro e w' ⟨rfl, rfl⟩; rw [R.out])
    go_ret
    exact ⟨rfl, ((Later.refl _).alloc _).alloc _⟩

end Go.Proofs.YtkijmalapjiopaaGreat
