/- Texts of this claim, one behind the other. -/
import Derived.Test.YtilkggldmgeagaaGreatDoorJ1
import Derived.Sort.Grow
import Derived.Deep.Draws
import Derived.Maps.OwnSet
import Derived.Maps.OwnOps
import Derived.StringKeys
/- Worlds that have only grown; how texts and facts lie in memory. Nothing of the program. -/
namespace Go.Proofs.YtilkggldmgeagaaGreatDoor
open Go.RowKit Go.Sort

theorem hide {p : Prop} (h : p) : Hid p := h
theorem unhide {p : Prop} (h : Hid p) : p := h
theorem ret_int {k : IntKind} {a b : Int} (h : a = b) : Ending.returned (.int k a) = .returned (.int k b) := by rw [h]
theorem ret_bool {a b : Bool} (h : a = b) : Ending.returned (.bool a) = .returned (.bool b) := by rw [h]

def Later (w w' : World) : Prop := ∃ q os, w' = grow (w.drewN q) os

theorem Later.refl (w : World) : Later w w := ⟨0, #[], by rw [grow_empty]; rfl⟩
theorem Later.trans {a b c : World} (h : Later a b) (k : Later b c) : Later a c := by
  obtain ⟨q, os, rfl⟩ := h; obtain ⟨r, ps, rfl⟩ := k
  exact ⟨q + r, os ++ ps, by show grow (grow ((a.drewN q).drewN r) os) ps = _; rw [grow_grow, World.drewN_drewN]⟩
theorem Later.alloc {a b : World} (h : Later a b) (o : Obj) : Later a (b.alloc o) := h.trans ⟨0, #[o], by rw [alloc_eq_grow]; rfl⟩
theorem Later.drew {a b : World} (h : Later a b) : Later a b.drew := h.trans ⟨1, #[], by rw [grow_empty]; rfl⟩
theorem Later.drewN {a b : World} (h : Later a b) (n : Nat) : Later a (b.drewN n) := h.trans ⟨n, #[], by rw [grow_empty]⟩
theorem Later.grow {a b : World} (h : Later a b) (os : Array Obj) : Later a (Go.Sort.grow b os) := h.trans ⟨0, os, rfl⟩
theorem Later.size {a b : World} (h : Later a b) : a.heap.size ≤ b.heap.size := by
  obtain ⟨q, os, rfl⟩ := h; rw [size_grow]; exact Nat.le_add_right _ _
theorem Later.block {a b : World} (h : Later a b) {k : Nat} (hk : k < a.heap.size) : b.heap[k]? = a.heap[k]? := by
  obtain ⟨q, os, rfl⟩ := h; exact heap_grow_old (a.drewN q) os hk
theorem Later.cell {a b : World} (h : Later a b) {p : Addr} (hp : p.block < a.heap.size) : b.cell? p = a.cell? p := World.cell?_of_block (w := a) (h.block hp)
theorem Later.frozen {a b : World} (h : Later a b) {p : Addr} (hp : p.block < a.heap.size) : b.frozen? p = a.frozen? p := World.frozen?_of_block (w := a) (h.block hp)
theorem Later.below {a b : World} (h : Later a b) : Below a.heap.size a b := by
  obtain ⟨q, os, rfl⟩ := h
  exact ⟨rfl, rfl, rfl, by rw [size_grow]; exact Nat.le_add_right _ _, fun k hk => heap_grow_old (a.drewN q) os hk⟩
theorem Later.drawn {a b : World} (h : Later a b) : a.drawn ≤ b.drawn := by
  obtain ⟨q, os, rfl⟩ := h; exact Nat.le_add_right _ _
theorem Later.of_below {a b : World} (h : Below a.heap.size a b) (hd : a.drawn ≤ b.drawn) : Later a b := by
  refine ⟨b.drawn - a.drawn, b.heap.extract a.heap.size b.heap.size, ?_⟩
  have hheap : b.heap = a.heap ++ b.heap.extract a.heap.size b.heap.size := by
    apply Array.ext_getElem?
    intro i
    rw [Array.getElem?_append]
    split
    · rename_i hi; exact h.block i hi
    · rename_i hi
      rw [Array.getElem?_extract]
      have := h.size
      by_cases hb : i < b.heap.size
      · rw [if_pos (by omega)]; congr 1; omega
      · rw [if_neg (by omega), Array.getElem?_eq_none (by omega)]
  obtain ⟨bh, bt, bd, bo, bp⟩ := b
  obtain ⟨ah, at', ad, ao, ap⟩ := a
  have e1 := h.os; have e2 := h.tape; have e3 := h.output
  simp only at e1 e2 e3 hheap hd
  subst e1 e2 e3
  show World.mk bh bt bd bo bp = World.mk (ah ++ bh.extract ah.size bh.size) bt (ad + (bd - ad)) bo bp
  rw [show ad + (bd - ad) = bd by omega, ← hheap]
theorem Later.setCell {a b : World} (h : Later a b) {p : Addr} (hp : a.heap.size ≤ p.block) (v : Value) : Later a (b.setCell p v) :=
  Later.of_below (h.below.setCell hp v) h.drawn

def Strs (w : World) (v : Value) (l : List ByteArray) : Prop :=
  l.length ≤ 8796093022208 ∧ ∃ a cap, v = .slice a l.length cap ∧ (l ≠ [] → ∃ b off, a = some ⟨b, off, none⟩ ∧ b < w.heap.size ∧ ∀ i, i < l.length → w.cell? ⟨b, off + i, none⟩ = some (.string (l.getD i ByteArray.empty)))

theorem Strs.later {w w' : World} {v : Value} {l : List ByteArray} (h : Strs w v l) (k : Later w w') : Strs w' v l := by
  obtain ⟨h0, a, cap, rfl, h1⟩ := h
  refine ⟨h0, a, cap, rfl, fun hl => ?_⟩
  obtain ⟨b, off, rfl, hb, hc⟩ := h1 hl
  exact ⟨b, off, rfl, Nat.lt_of_lt_of_le hb k.size, fun i hi => by rw [k.cell (p := ⟨b, off + i, none⟩) hb]; exact hc i hi⟩

def FactV (w : World) (v : Value) (f : FactD) : Prop := ∃ s, v = .agg #[.string f.1, s] ∧ Strs w s f.2

theorem FactV.later {w w' : World} {v : Value} {f : FactD} (h : FactV w v f) (k : Later w w') : FactV w' v f := by
  obtain ⟨s, rfl, h1⟩ := h; exact ⟨s, rfl, h1.later k⟩

def noFact : FactD := (ByteArray.empty, [])

def Facts (w : World) (v : Value) (l : List FactD) : Prop :=
  l.length ≤ 3518437208883 ∧ ∃ a cap, v = .slice a l.length cap ∧ (l ≠ [] → ∃ b off, a = some ⟨b, off, none⟩ ∧ b < w.heap.size ∧ ∀ i, i < l.length → w.cell? ⟨b, off + i * 2, none⟩ = some (.string (l.getD i noFact).1) ∧ ∃ s, w.cell? ⟨b, off + i * 2 + 1, none⟩ = some s ∧ Strs w s (l.getD i noFact).2)

theorem Facts.later {w w' : World} {v : Value} {l : List FactD} (h : Facts w v l) (k : Later w w') : Facts w' v l := by
  obtain ⟨h0, a, cap, rfl, h1⟩ := h
  refine ⟨h0, a, cap, rfl, fun hl => ?_⟩
  obtain ⟨b, off, rfl, hb, hc⟩ := h1 hl
  refine ⟨b, off, rfl, Nat.lt_of_lt_of_le hb k.size, fun i hi => ?_⟩
  obtain ⟨c1, s, c2, c3⟩ := hc i hi
  exact ⟨by rw [k.cell (p := ⟨b, off + i * 2, none⟩) hb]; exact c1, s, by rw [k.cell (p := ⟨b, off + i * 2 + 1, none⟩) hb]; exact c2, c3.later k⟩

theorem sliceFacts {w : World} {v : Value} {l : List FactD} (h : Facts w v l) : ∃ a cap, v = .slice a l.length cap := by
  obtain ⟨_, a, cap, rfl, _⟩ := h; exact ⟨a, cap, rfl⟩

theorem sliceStr {w : World} {v : Value} {l : List ByteArray} (h : Strs w v l) : ∃ a cap, v = .slice a l.length cap := by
  obtain ⟨_, a, cap, rfl, _⟩ := h; exact ⟨a, cap, rfl⟩

theorem cmpL_drop (x y : List ByteArray) (i : Nat) (hx : i < x.length) (hy : i < y.length) :
    cmpL (x.drop i) (y.drop i) = if cmpS (x.getD i ByteArray.empty) (y.getD i ByteArray.empty) ≠ 0 then cmpS (x.getD i ByteArray.empty) (y.getD i ByteArray.empty) else cmpL (x.drop (i + 1)) (y.drop (i + 1)) := by
  rw [List.drop_eq_getElem_cons hx, List.drop_eq_getElem_cons hy, cmpL]
  simp [List.getD_eq_getElem?_getD, hx, hy]

theorem cmpL_drop_end (x y : List ByteArray) (i : Nat) (hx : x.length ≤ i) : cmpL (x.drop i) (y.drop i) = if i < y.length then -1 else 0 := by
  rw [List.drop_eq_nil_of_le hx]
  by_cases hy : i < y.length
  · rw [List.drop_eq_getElem_cons hy, if_pos hy]; rfl
  · rw [List.drop_eq_nil_of_le (by omega), if_neg hy]; rfl

theorem cmpL_drop_end' (x y : List ByteArray) (i : Nat) (hx : i < x.length) (hy : y.length ≤ i) : cmpL (x.drop i) (y.drop i) = 1 := by
  rw [List.drop_eq_nil_of_le hy, List.drop_eq_getElem_cons hx]; rfl

end Go.Proofs.YtilkggldmgeagaaGreatDoor

/- What texts are rules: the document's answer, on lists of bytes; one text behind another. Nothing of the program. -/
namespace Go.Proofs.YtilkggldmgeagaaGreatDoor

def skipM : Bool → Bs → Bs
  | _, [] => []
  | false, c :: t => if c = 32 ∨ c = 10 then skipM false t else if c = 37 then skipM true t else c :: t
  | true, c :: t => if c = 10 then skipM false t else skipM true t

abbrev skip (l : Bs) : Bs := skipM false l

inductive Res (α : Type) where
  | ok (a : α) (r : Bs)
  | bad (e : Int) (r : Bs)

def Res.next {α β : Type} (x : Res α) (f : α → Bs → Res β) : Res β :=
  match x with
  | .ok a r => f a r
  | .bad e r => .bad e r

def took (g l : Bs) : Bool × Bs := if g.isPrefixOf (skip l) then (true, (skip l).drop g.length) else (false, skip l)

def word (fits : Bs → Bool) (l : Bs) : Res Bs :=
  if (skip l).takeWhile isSign = [] then .bad 2 (skip l)
  else if fits ((skip l).takeWhile isSign) then .ok ((skip l).takeWhile isSign) ((skip l).drop ((skip l).takeWhile isSign).length)
  else .bad 7 (skip l)

def listGo {α : Type} (part : Bs → Res α) : Nat → List α → Bs → Res (List α)
  | n, out, l => if (took [44] l).1 then
      match n with
      | 0 => .bad 5 (took [44] l).2
      | n + 1 => (part (took [44] l).2).next fun a r => listGo part n (out ++ [a]) r
    else .ok out (took [44] l).2

def listP {α : Type} (part : Bs → Res α) (most : Nat) (l : Bs) : Res (List α) := (part l).next fun a r => listGo part (most - 1) [a] r

def mustTake {α : Type} (g : Bs) (a : α) (l : Bs) : Res α := if (took g l).1 then .ok a (took g l).2 else .bad 2 (took g l).2

abbrev TermD := Bool × Bs
structure AtomD where
  no : Bool
  name : Bs
  terms : List TermD
deriving DecidableEq
structure RuleD where
  head : AtomD
  body : List AtomD
deriving DecidableEq

def fitsTerm (w : Bs) : Bool := isNamed w || isVar w
def term (l : Bs) : Res TermD := (word fitsTerm l).next fun w r => .ok (isVar w, w) r
def atom (l : Bs) : Res AtomD := (word isNamed l).next fun w r =>
  if (took [40] r).1 then (listP term 4 (took [40] r).2).next fun ts r => mustTake [41] ⟨false, w, ts⟩ r else .ok ⟨false, w, []⟩ (took [40] r).2
def bodyAtom (l : Bs) : Res AtomD := (atom (took [33] l).2).next fun a r => .ok { a with no := (took [33] l).1 } r
def body (l : Bs) : Res (List AtomD) := listP bodyAtom 5 l
def rule (l : Bs) : Res RuleD := (atom l).next fun a r =>
  if (took [58, 45] r).1 then (body (took [58, 45] r).2).next fun b r => mustTake [46] ⟨a, b⟩ r else mustTake [46] ⟨a, []⟩ (took [58, 45] r).2
def rulesGo : Nat → List RuleD → Bs → Res (List RuleD)
  | n, out, l => if skip l = [] then .ok out [] else
    match n with
    | 0 => .bad 5 (skip l)
    | n + 1 => (rule (skip l)).next fun a r => rulesGo n (out ++ [a]) r
def onlyBody (l : Bs) : Res (List AtomD) := (body l).next fun b r => if skip r = [] then .ok b [] else .bad 2 (skip r)

theorem Res.next_ok {α β : Type} {x : Res α} {f : α → Bs → Res β} {b : β} {r : Bs} (h : x.next f = .ok b r) : ∃ a r', x = .ok a r' ∧ f a r' = .ok b r := by
  cases x with
  | ok a r' => exact ⟨a, r', rfl, h⟩
  | bad e r' => cases h

def Local {α : Type} (P : Bs → Res α) : Prop := ∀ l a r t, P l = .ok a r → r ≠ [] → P (l ++ 10 :: t) = .ok a (r ++ 10 :: t)
def Ends {α : Type} (P : Bs → Res α) : Prop := ∀ a r, P [] = .ok a r → r = []

end Go.Proofs.YtilkggldmgeagaaGreatDoor

/- What is wrong with programs, and their strata: the document's answer, on plain data. Nothing of the program. -/
namespace Go.Proofs.YtilkggldmgeagaaGreatDoor

def addNew (l : List Bs) (s : Bs) : List Bs := if l.contains s then l else l ++ [s]
def varsGo (l : List Bs) (ts : List TermD) : List Bs := ts.foldl (fun l t => if t.1 then addNew l t.2 else l) l
def vars (a : AtomD) : List Bs := varsGo [] a.terms
def wrongTerm (t : TermD) : Bool := if t.1 then !isVar t.2 else !isNamed t.2
def wrongAtom (a : AtomD) : Int := if isNamed a.name = false then 7 else if 4 < a.terms.length then 5 else if a.terms.any wrongTerm then 7 else 0
def givenBy (l : List AtomD) (s : Bs) : Bool := l.any fun a => !a.no && (vars a).contains s
def wrongAtoms : List AtomD → Int
  | [] => 0
  | a :: l => if wrongAtom a = 0 then wrongAtoms l else wrongAtom a
def wrongBody (l : List AtomD) : Int := if 5 < l.length then 5 else if wrongAtoms l = 0 then (if l.all (fun a => (vars a).all (givenBy l)) then 0 else 9) else wrongAtoms l

abbrev Nums := Bs → Option Nat
def Nums.put (m : Nums) (s : Bs) (n : Nat) : Nums := fun t => if t = s then some n else m t
def fitOne (m : Nums) (a : AtomD) : Bool × Nums := match m a.name with
  | none => (true, m.put a.name a.terms.length)
  | some n => (decide (n = a.terms.length), m)
def fitAll : Nums → List AtomD → Bool × Nums
  | m, [] => (true, m)
  | m, a :: l => if (fitOne m a).1 then fitAll (fitOne m a).2 l else (false, (fitOne m a).2)
def wrongRule (m : Nums) (r : RuleD) : Int × Nums :=
  if wrongAtom r.head = 0 then
    if r.head.no then (2, m) else
    if wrongBody r.body = 0 then
      if (vars r.head).all (givenBy r.body) then
        if (fitOne m r.head).1 then (if (fitAll (fitOne m r.head).2 r.body).1 then 0 else 8, (fitAll (fitOne m r.head).2 r.body).2) else (8, (fitOne m r.head).2)
      else (9, m)
    else (wrongBody r.body, m)
  else (wrongAtom r.head, m)
def wrongGo : Nums → Nat → List RuleD → Int × Nat
  | _, _, [] => (0, 0)
  | m, i, r :: l => if (wrongRule m r).1 = 0 then wrongGo (wrongRule m r).2 (i + 1) l else ((wrongRule m r).1, i)
def wrongP (p : List RuleD) : Int × Nat := if 16 < p.length then (5, 0) else wrongGo (fun _ => none) 0 p

def behind (m : Nums) (a : AtomD) : Nat := match m a.name with
  | none => 0
  | some n => if a.no then n + 1 else n
def numOf (m : Nums) (s : Bs) : Nat := (m s).getD 0
def liftAtom (h : Bs) (x : Nums × Bool) (a : AtomD) : Nums × Bool := if numOf x.1 h < behind x.1 a then (x.1.put h (behind x.1 a), true) else x
def liftRule (x : Nums × Bool) (r : RuleD) : Nums × Bool := r.body.foldl (liftAtom r.head.name) x
def liftAll (x : Nums × Bool) (p : List RuleD) : Nums × Bool := p.foldl liftRule x
def startGo (m : Nums) (p : List RuleD) : Nums := p.foldl (fun m r => m.put r.head.name 0) m
def start (p : List RuleD) : Nums := startGo (fun _ => none) p
def strataGo (p : List RuleD) : Nat → Nums → Option Nums
  | 0, _ => none
  | n + 1, m => if (liftAll (m, false) p).2 then strataGo p n (liftAll (m, false) p).1 else some (liftAll (m, false) p).1
def each (m : Nums) (p : List RuleD) : List Nat := p.map fun r => numOf m r.head.name
def strataP (p : List RuleD) : List Nat × Int × Nat :=
  if (wrongP p).1 = 0 then match strataGo p (p.length + 1) (start p) with
    | some m => (each m p, 0, 0)
    | none => ([], 10, 0)
  else ([], wrongP p)

def isHead (p : List RuleD) (s : Bs) : Prop := ∃ r ∈ p, r.head.name = s
def step (a : AtomD) : Nat := if a.no then 1 else 0
def Sol (p : List RuleD) (σ : Bs → Nat) : Prop := ∀ r ∈ p, ∀ a ∈ r.body, isHead p a.name → σ a.name + step a ≤ σ r.head.name

def Doms (p : List RuleD) (m : Nums) : Prop := ∀ s, (m s).isSome ↔ isHead p s
def Least (p : List RuleD) (m : Nums) : Prop := ∀ σ, Sol p σ → ∀ s, numOf m s ≤ σ s

theorem behind_eq {p : List RuleD} {m : Nums} (hd : Doms p m) (a : AtomD) (h : isHead p a.name) : behind m a = numOf m a.name + step a := by
  unfold behind numOf step
  have := (hd a.name).2 h
  obtain ⟨n, hn⟩ := Option.isSome_iff_exists.1 this
  rw [hn]
  cases a.no <;> simp
theorem behind_none {p : List RuleD} {m : Nums} (hd : Doms p m) (a : AtomD) (h : ¬ isHead p a.name) : behind m a = 0 := by
  unfold behind
  have : m a.name = none := by
    cases e : m a.name with
    | none => rfl
    | some n => exact absurd ((hd a.name).1 (by rw [e]; rfl)) h
  rw [this]

theorem numOf_put (m : Nums) (s t : Bs) (n : Nat) : numOf (m.put s n) t = if t = s then n else numOf m t := by
  unfold numOf Nums.put
  by_cases h : t = s <;> simp [h]

theorem Doms.put {p : List RuleD} {m : Nums} (hd : Doms p m) {s : Bs} (hs : isHead p s) (n : Nat) : Doms p (m.put s n) := by
  intro t
  unfold Nums.put
  by_cases h : t = s
  · subst h; simp [hs]
  · rw [if_neg h]; exact hd t

theorem liftAtom_kept {p : List RuleD} {r : RuleD} (hr : r ∈ p) {x : Nums × Bool} (hd : Doms p x.1) (hl : Least p x.1) {a : AtomD} (ha : a ∈ r.body) :
    Doms p (liftAtom r.head.name x a).1 ∧ Least p (liftAtom r.head.name x a).1 ∧ ∀ s, numOf x.1 s ≤ numOf (liftAtom r.head.name x a).1 s := by
  unfold liftAtom
  split
  · rename_i hlt
    refine ⟨hd.put ⟨r, hr, rfl⟩ _, fun σ hσ s => ?_, fun s => ?_⟩
    · show numOf (x.1.put _ _) s ≤ _
      rw [numOf_put]
      split
      · rename_i h
        subst h
        by_cases hh : isHead p a.name
        · rw [behind_eq hd a hh]
          have h1 := hσ r hr a ha hh
          have h2 := hl σ hσ a.name
          omega
        · rw [behind_none hd a hh]; omega
      · exact hl σ hσ s
    · show _ ≤ numOf (x.1.put _ _) s
      rw [numOf_put]
      split
      · rename_i h; subst h; omega
      · exact Nat.le_refl _
  · exact ⟨hd, hl, fun _ => Nat.le_refl _⟩

theorem liftRule_kept {p : List RuleD} {r : RuleD} (hr : r ∈ p) (l : List AtomD) : ∀ {x : Nums × Bool}, Doms p x.1 → Least p x.1 → (∀ a ∈ l, a ∈ r.body) →
    Doms p (l.foldl (liftAtom r.head.name) x).1 ∧ Least p (l.foldl (liftAtom r.head.name) x).1 ∧ ∀ s, numOf x.1 s ≤ numOf (l.foldl (liftAtom r.head.name) x).1 s := by
  induction l with
  | nil => intro x hd hl _; exact ⟨hd, hl, fun _ => Nat.le_refl _⟩
  | cons a l ih =>
    intro x hd hl ha
    obtain ⟨d1, l1, u1⟩ := liftAtom_kept hr hd hl (ha a (by simp))
    obtain ⟨d2, l2, u2⟩ := ih d1 l1 (fun b hb => ha b (by simp [hb]))
    exact ⟨d2, l2, fun s => Nat.le_trans (u1 s) (u2 s)⟩

theorem liftAll_kept {p : List RuleD} (l : List RuleD) : ∀ {x : Nums × Bool}, Doms p x.1 → Least p x.1 → (∀ r ∈ l, r ∈ p) →
    Doms p (liftAll x l).1 ∧ Least p (liftAll x l).1 ∧ ∀ s, numOf x.1 s ≤ numOf (liftAll x l).1 s := by
  induction l with
  | nil => intro x hd hl _; exact ⟨hd, hl, fun _ => Nat.le_refl _⟩
  | cons r l ih =>
    intro x hd hl hr
    obtain ⟨d1, l1, u1⟩ := liftRule_kept (hr r (by simp)) r.body hd hl (fun a h => h)
    obtain ⟨d2, l2, u2⟩ := ih d1 l1 (fun b hb => hr b (by simp [hb]))
    exact ⟨d2, l2, fun s => Nat.le_trans (u1 s) (u2 s)⟩

theorem liftAtom_true (h : Bs) (x : Nums × Bool) (a : AtomD) (hx : x.2 = true) : (liftAtom h x a).2 = true := by unfold liftAtom; split <;> simp [hx]
theorem foldAtom_true (h : Bs) (l : List AtomD) : ∀ x : Nums × Bool, x.2 = true → (l.foldl (liftAtom h) x).2 = true := by
  induction l with
  | nil => intro x hx; exact hx
  | cons a l ih => intro x hx; exact ih _ (liftAtom_true h x a hx)
theorem liftAll_true (l : List RuleD) : ∀ x : Nums × Bool, x.2 = true → (liftAll x l).2 = true := by
  induction l with
  | nil => intro x hx; exact hx
  | cons r l ih => intro x hx; exact ih _ (foldAtom_true _ _ x hx)

theorem foldAtom_rest (h : Bs) (l : List AtomD) : ∀ m : Nums, (l.foldl (liftAtom h) (m, false)).2 = false → l.foldl (liftAtom h) (m, false) = (m, false) ∧ ∀ a ∈ l, behind m a ≤ numOf m h := by
  induction l with
  | nil => intro m _; exact ⟨rfl, by simp⟩
  | cons a l ih =>
    intro m hm
    rw [List.foldl_cons] at hm ⊢
    by_cases hlt : numOf m h < behind m a
    · have : (liftAtom h (m, false) a).2 = true := by unfold liftAtom; rw [if_pos hlt]
      rw [foldAtom_true h l _ this] at hm; cases hm
    · have e : liftAtom h (m, false) a = (m, false) := by unfold liftAtom; rw [if_neg hlt]
      rw [e] at hm ⊢
      obtain ⟨h1, h2⟩ := ih m hm
      refine ⟨h1, fun b hb => ?_⟩
      rcases List.mem_cons.1 hb with rfl | hb
      · omega
      · exact h2 b hb
theorem liftAll_rest (l : List RuleD) : ∀ m : Nums, (liftAll (m, false) l).2 = false → liftAll (m, false) l = (m, false) ∧ ∀ r ∈ l, ∀ a ∈ r.body, behind m a ≤ numOf m r.head.name := by
  induction l with
  | nil => intro m _; exact ⟨rfl, by simp⟩
  | cons r l ih =>
    intro m hm
    unfold liftAll at hm ⊢
    rw [List.foldl_cons] at hm ⊢
    have h0 : (liftRule (m, false) r).2 = false := by
      cases hc : (liftRule (m, false) r).2 with
      | false => rfl
      | true => have := liftAll_true l _ hc; unfold liftAll at this; rw [this] at hm; cases hm
    obtain ⟨e, h1⟩ := foldAtom_rest _ _ m h0
    have e' : liftRule (m, false) r = (m, false) := e
    rw [e'] at hm ⊢
    obtain ⟨h2, h3⟩ := ih m hm
    refine ⟨h2, fun q hq => ?_⟩
    rcases List.mem_cons.1 hq with rfl | hq
    · exact h1
    · exact h3 q hq

theorem liftAll_still (l : List RuleD) (m : Nums) (h : ∀ r ∈ l, ∀ a ∈ r.body, behind m a ≤ numOf m r.head.name) : ∀ b, liftAll (m, b) l = (m, b) := by
  induction l with
  | nil => intro b; rfl
  | cons r l ih =>
    intro b
    have hr : liftRule (m, b) r = (m, b) := by
      have : ∀ q : List AtomD, (∀ a ∈ q, behind m a ≤ numOf m r.head.name) → q.foldl (liftAtom r.head.name) (m, b) = (m, b) := by
        intro q
        induction q with
        | nil => intro _; rfl
        | cons a q iq =>
          intro hq
          rw [List.foldl_cons]
          have : liftAtom r.head.name (m, b) a = (m, b) := by unfold liftAtom; rw [if_neg (by have := hq a (by simp); show ¬ numOf m _ < behind m a; omega)]
          rw [this]; exact iq fun c hc => hq c (by simp [hc])
      exact this r.body (h r (by simp))
    show liftAll (liftRule (m, b) r) l = (m, b)
    rw [hr]; exact ih (fun q hq => h q (by simp [hq])) b

theorem startGo_dom (l : List RuleD) : ∀ (m : Nums) (s : Bs), (startGo m l s).isSome ↔ ((m s).isSome ∨ isHead l s) := by
  induction l with
  | nil => intro m s; simp [startGo, isHead]
  | cons r l ih =>
    intro m s
    show (startGo (m.put r.head.name 0) l s).isSome ↔ _
    rw [ih]
    unfold Nums.put isHead
    by_cases h : s = r.head.name
    · subst h; simp
    · have h' : ¬ r.head.name = s := fun e => h e.symm
      simp [h, h']
theorem startGo_zero (l : List RuleD) : ∀ (m : Nums), (∀ s, numOf m s = 0) → ∀ s, numOf (startGo m l) s = 0 := by
  induction l with
  | nil => intro m h; exact h
  | cons r l ih =>
    intro m h
    exact ih _ fun s => by rw [numOf_put]; split <;> simp [h]
theorem start_dom (p : List RuleD) : Doms p (start p) := fun s => by unfold start; rw [startGo_dom]; simp
theorem start_zero (p : List RuleD) (s : Bs) : numOf (start p) s = 0 := startGo_zero p _ (fun _ => rfl) s
theorem start_least (p : List RuleD) : Least p (start p) := fun σ _ s => by rw [start_zero]; exact Nat.zero_le _

theorem strataGo_some {p : List RuleD} : ∀ (n : Nat) (m m' : Nums), Doms p m → Least p m → strataGo p n m = some m' → Doms p m' ∧ Least p m' ∧ ∀ r ∈ p, ∀ a ∈ r.body, behind m' a ≤ numOf m' r.head.name := by
  intro n
  induction n with
  | zero => intro m m' _ _ h; cases h
  | succ n ih =>
    intro m m' hd hl h
    unfold strataGo at h
    split at h
    · obtain ⟨d1, l1, _⟩ := liftAll_kept p hd hl (x := (m, false)) (fun _ h => h)
      exact ih _ _ d1 l1 h
    · rename_i hf
      obtain ⟨e, h1⟩ := liftAll_rest p m (by simpa using hf)
      rw [e] at h
      cases h
      exact ⟨hd, hl, h1⟩

theorem sol_of {p : List RuleD} {m : Nums} (hd : Doms p m) (h : ∀ r ∈ p, ∀ a ∈ r.body, behind m a ≤ numOf m r.head.name) : Sol p (numOf m) := fun r hr a ha hh => by
  rw [← behind_eq hd a hh]; exact h r hr a ha

theorem strataP_ok {p : List RuleD} {l : List Nat} {k : Nat} (h : strataP p = (l, 0, k)) : (wrongP p).1 = 0 ∧ ∃ m, l = each m p ∧ Doms p m ∧ Least p m ∧ Sol p (numOf m) := by
  unfold strataP at h
  split at h
  · rename_i h0
    split at h
    · rename_i m hm
      obtain ⟨d, le, s⟩ := strataGo_some _ _ _ (start_dom p) (start_least p) hm
      simp at h
      exact ⟨h0, m, h.1.symm, d, le, sol_of d s⟩
    · simp at h
  · rename_i h0
    rw [Prod.mk.injEq] at h
    exact absurd (congrArg Prod.fst h.2) h0

theorem no_gap {p : List RuleD} {m : Nums} (hl : Least p m) (hs : Sol p (numOf m)) (k : Nat) (hk : ∀ r ∈ p, numOf m r.head.name ≠ k) : ∀ r ∈ p, numOf m r.head.name < k := by
  intro r hr
  have hσ : Sol p (fun s => if numOf m s > k then numOf m s - 1 else numOf m s) := by
    intro q hq a ha hh
    have h1 := hs q hq a ha hh
    have h2 := hk q hq
    obtain ⟨q', hq', e'⟩ := hh
    have h3 := hk q' hq'
    rw [e'] at h3
    have h4 : step a ≤ 1 := by unfold step; split <;> omega
    show (if numOf m a.name > k then _ else _) + _ ≤ (if numOf m q.head.name > k then _ else _)
    split <;> split <;> omega
  have h1 : numOf m r.head.name ≤ (if numOf m r.head.name > k then numOf m r.head.name - 1 else numOf m r.head.name) := hl _ hσ r.head.name
  have h2 := hk r hr
  split at h1 <;> omega

theorem least_sol {p : List RuleD} {σ : Bs → Nat} (h : Sol p σ) : ∃ τ, Sol p τ ∧ ∀ τ', Sol p τ' → (p.map fun r => τ r.head.name).sum ≤ (p.map fun r => τ' r.head.name).sum := by
  have : ∀ n σ, Sol p σ → (p.map fun r => σ r.head.name).sum = n → ∃ τ, Sol p τ ∧ ∀ τ', Sol p τ' → (p.map fun r => τ r.head.name).sum ≤ (p.map fun r => τ' r.head.name).sum := by
    intro n
    induction n using Nat.strongRecOn with
    | ind n ih =>
      intro σ hσ hn
      by_cases hx : ∃ τ', Sol p τ' ∧ (p.map fun r => τ' r.head.name).sum < n
      · obtain ⟨τ', h1, h2⟩ := hx
        exact ih _ h2 τ' h1 rfl
      · refine ⟨σ, hσ, fun τ' h' => ?_⟩
        rw [hn]
        exact Nat.le_of_not_lt fun hlt => hx ⟨τ', h', hlt⟩
  exact this _ σ h rfl

theorem sum_le {p : List RuleD} {f g : RuleD → Nat} (h : ∀ r ∈ p, f r ≤ g r) : (p.map f).sum ≤ (p.map g).sum := by
  induction p with
  | nil => simp
  | cons a p ih =>
    have := ih fun r hr => h r (by simp [hr])
    have := h a (by simp)
    simp; omega
theorem sum_lt {p : List RuleD} {f g : RuleD → Nat} (h : ∀ r ∈ p, f r ≤ g r) (hx : ∃ r ∈ p, f r < g r) : (p.map f).sum < (p.map g).sum := by
  induction p with
  | nil => obtain ⟨r, hr, _⟩ := hx; simp at hr
  | cons a p ih =>
    have h1 := sum_le fun r hr => h r (List.mem_cons_of_mem a hr)
    have h2 := h a (by simp)
    obtain ⟨r, hr, hlt⟩ := hx
    rcases List.mem_cons.1 hr with rfl | hr
    · simp; omega
    · have := ih (fun r hr => h r (by simp [hr])) ⟨r, hr, hlt⟩
      simp; omega

theorem next_settled {p : List RuleD} {τ : Bs → Nat} (hτ : Sol p τ) (hmin : ∀ τ', Sol p τ' → (p.map fun r => τ r.head.name).sum ≤ (p.map fun r => τ' r.head.name).sum) {m : Nums} (hl : Least p m)
    (hu : ∃ r ∈ p, numOf m r.head.name ≠ τ r.head.name) : ∃ r ∈ p, ∃ a ∈ r.body, numOf m r.head.name ≠ τ r.head.name ∧ isHead p a.name ∧ numOf m a.name = τ a.name ∧ τ a.name + step a = τ r.head.name := by
  refine Classical.byContradiction fun hno => ?_
  have hle : ∀ s, numOf m s ≤ τ s := hl τ hτ
  have hσ : Sol p (fun s => if numOf m s = τ s then τ s else τ s - 1) := by
    intro r hr a ha hh
    have h1 := hτ r hr a ha hh
    have h2 := hle r.head.name
    have h3 := hle a.name
    show (if numOf m a.name = τ a.name then _ else _) + _ ≤ (if numOf m r.head.name = τ r.head.name then _ else _)
    by_cases e2 : numOf m r.head.name = τ r.head.name
    · rw [if_pos e2]; split <;> omega
    · rw [if_neg e2]
      by_cases e3 : numOf m a.name = τ a.name
      · rw [if_pos e3]
        have : ¬ τ a.name + step a = τ r.head.name := fun e => hno ⟨r, hr, a, ha, e2, hh, e3, e⟩
        omega
      · rw [if_neg e3]; omega
  obtain ⟨r, hr, hne⟩ := hu
  have := hmin _ hσ
  have hlt : (p.map fun r => (fun s => if numOf m s = τ s then τ s else τ s - 1) r.head.name).sum < (p.map fun r => τ r.head.name).sum := by
    refine sum_lt (fun q _ => ?_) ⟨r, hr, ?_⟩
    · show (if _ then _ else _) ≤ _
      split
      · exact Nat.le_refl _
      · exact Nat.sub_le _ _
    · show (if _ then _ else _) < _
      have := hle r.head.name
      rw [if_neg hne]; omega
  exact absurd hlt (Nat.not_lt.2 this)

theorem foldAtom_lifts {p : List RuleD} {r : RuleD} (hr : r ∈ p) (l : List AtomD) : ∀ {x : Nums × Bool}, Doms p x.1 → Least p x.1 → (∀ a ∈ l, a ∈ r.body) → ∀ a ∈ l, isHead p a.name → numOf x.1 a.name + step a ≤ numOf (l.foldl (liftAtom r.head.name) x).1 r.head.name := by
  induction l with
  | nil => intro x _ _ _ a ha; simp at ha
  | cons b l ih =>
    intro x hd hl hb a ha hh
    obtain ⟨d1, l1, u1⟩ := liftAtom_kept hr hd hl (hb b (by simp))
    obtain ⟨d2, l2, u2⟩ := liftRule_kept hr l d1 l1 (fun c hc => hb c (by simp [hc]))
    rcases List.mem_cons.1 ha with rfl | ha
    · refine Nat.le_trans ?_ (u2 r.head.name)
      rw [← behind_eq hd a hh]
      unfold liftAtom
      split
      · show _ ≤ numOf (x.1.put _ _) _; rw [numOf_put, if_pos rfl]; exact Nat.le_refl _
      · omega
    · have := ih d1 l1 (fun c hc => hb c (by simp [hc])) a ha hh
      have h2 := u1 a.name
      exact Nat.le_trans (Nat.add_le_add_right h2 _) this
theorem liftAll_lifts {p : List RuleD} (l : List RuleD) : ∀ {x : Nums × Bool}, Doms p x.1 → Least p x.1 → (∀ r ∈ l, r ∈ p) → ∀ r ∈ l, ∀ a ∈ r.body, isHead p a.name → numOf x.1 a.name + step a ≤ numOf (liftAll x l).1 r.head.name := by
  induction l with
  | nil => intro x _ _ _ r hr; simp at hr
  | cons q l ih =>
    intro x hd hl hq r hr a ha hh
    obtain ⟨d1, l1, u1⟩ := liftRule_kept (hq q (by simp)) q.body hd hl (fun c hc => hc)
    obtain ⟨d2, l2, u2⟩ := liftAll_kept l d1 l1 (fun c hc => hq c (by simp [hc]))
    rcases List.mem_cons.1 hr with rfl | hr
    · exact Nat.le_trans (foldAtom_lifts (hq r (by simp)) r.body hd hl (fun c hc => hc) a ha hh) (u2 _)
    · exact Nat.le_trans (Nat.add_le_add_right (u1 a.name) _) (ih d1 l1 (fun c hc => hq c (by simp [hc])) r hr a ha hh)

def settled (p : List RuleD) (τ : Bs → Nat) (m : Nums) : Nat := (p.map fun r => if numOf m r.head.name = τ r.head.name then 1 else 0).sum

theorem settled_le (p : List RuleD) (τ : Bs → Nat) (m : Nums) : settled p τ m ≤ p.length := by
  unfold settled
  induction p with
  | nil => simp
  | cons r p ih => simp only [List.map_cons, List.sum_cons, List.length_cons]; split <;> omega
theorem settled_all {p : List RuleD} {τ : Bs → Nat} {m : Nums} (h : p.length ≤ settled p τ m) : ∀ r ∈ p, numOf m r.head.name = τ r.head.name := by
  induction p with
  | nil => intro r hr; simp at hr
  | cons q p ih =>
    have h1 := settled_le p τ m
    unfold settled at h h1 ih
    simp only [List.map_cons, List.sum_cons, List.length_cons] at h
    intro r hr
    split at h
    · rename_i hq
      rcases List.mem_cons.1 hr with rfl | hr
      · exact hq
      · exact ih (by omega) r hr
    · omega

theorem settled_grows {p : List RuleD} {τ : Bs → Nat} (hτ : Sol p τ) (hmin : ∀ τ', Sol p τ' → (p.map fun r => τ r.head.name).sum ≤ (p.map fun r => τ' r.head.name).sum) {m : Nums} (hd : Doms p m) (hl : Least p m)
    (hu : ∃ r ∈ p, numOf m r.head.name ≠ τ r.head.name) (b : Bool) : settled p τ m + 1 ≤ settled p τ (liftAll (m, b) p).1 := by
  obtain ⟨r, hr, a, ha, h1, h2, h3, h4⟩ := next_settled hτ hmin hl hu
  obtain ⟨d1, l1, u1⟩ := liftAll_kept p hd hl (x := (m, b)) (fun _ h => h)
  have h5 := liftAll_lifts p hd hl (x := (m, b)) (fun _ h => h) r hr a ha h2
  unfold settled
  refine Nat.succ_le_of_lt (sum_lt (fun q hq => ?_) ⟨r, hr, ?_⟩)
  · have e1 := u1 q.head.name
    have e2 := l1 τ hτ q.head.name
    have e3 : numOf (m, b).1 q.head.name = numOf m q.head.name := rfl
    split
    · rw [if_pos (by omega)]; exact Nat.le_refl _
    · split <;> omega
  · have e2 := l1 τ hτ r.head.name
    have e3 : numOf (m, b).1 a.name = numOf m a.name := rfl
    rw [if_neg h1, if_pos (by omega)]; omega

theorem strataGo_ends {p : List RuleD} {τ : Bs → Nat} (hτ : Sol p τ) (hmin : ∀ τ', Sol p τ' → (p.map fun r => τ r.head.name).sum ≤ (p.map fun r => τ' r.head.name).sum) :
    ∀ (n : Nat) (m : Nums), Doms p m → Least p m → p.length < n + settled p τ m → ∃ m', strataGo p n m = some m' := by
  intro n
  induction n with
  | zero => intro m _ _ h; have := settled_le p τ m; omega
  | succ n ih =>
    intro m hd hl hn
    unfold strataGo
    by_cases hu : ∃ r ∈ p, numOf m r.head.name ≠ τ r.head.name
    · have hg := settled_grows hτ hmin hd hl hu false
      obtain ⟨d1, l1, u1⟩ := liftAll_kept p hd hl (x := (m, false)) (fun _ h => h)
      split
      · exact ih _ d1 l1 (by omega)
      · exact ⟨_, rfl⟩
    · have hall : ∀ r ∈ p, numOf m r.head.name = τ r.head.name := fun r hr => Classical.byContradiction fun h => hu ⟨r, hr, h⟩
      have hst : liftAll (m, false) p = (m, false) := by
        refine liftAll_still p m (fun r hr a ha => ?_) false
        by_cases hh : isHead p a.name
        · rw [behind_eq hd a hh, hall r hr]
          obtain ⟨q, hq, e⟩ := hh
          have h1 := hτ r hr a ha ⟨q, hq, e⟩
          have h2 := hall q hq
          rw [e] at h2
          omega
        · rw [behind_none hd a hh]; exact Nat.zero_le _
      rw [hst]
      exact ⟨_, rfl⟩

end Go.Proofs.YtilkggldmgeagaaGreatDoor

/- Maps of texts that a call makes: sets of texts, and texts' numbers. Nothing of the program. -/
namespace Go.Proofs.YtilkggldmgeagaaGreatDoor
open Go.RowKit Go.Sort Go.Maps

theorem owns_block {H : Type} {P : Program} {k : TypeId} {R : Value → Option (DataW H × List MemPlace)} {w w' : World} {b n : Nat} {D : DataW H} (h : w.ownsMap P k R b n D) (e : w'.heap[b]? = w.heap[b]?) : w'.ownsMap P k R b n D := by
  obtain ⟨es, clock, hb, F, hs, hD⟩ := h
  exact ⟨es, clock, e.trans hb, F, hs, hD⟩

theorem key_mk {P : Program} {K : TypeId} (hk : P.underlying K = some .string) {s : Bs} (hs : s.length ≤ maxLen) : keyOf P K (.string (bs s)) = some (.string s) := by
  have := WideMaps.keyOf_string_mk (P := P) (k := K) hk (s := bs s) (by rw [size_bs]; exact hs)
  rw [this]; rfl

theorem keyS (s : Bs) : WideAt.IsKeyLit (.string s) := trivial
theorem str_ne {s t : Bs} (h : t ≠ s) : Lit.string t ≠ Lit.string s := fun e => h (by injection e)

def SetM (P : Program) (K : TypeId) (w : World) (b n : Nat) (f : Bs → Bool) : Prop := ∃ D : DataW Unit, w.ownsMap P K unitElem b n D ∧ ∀ s, Maps.has D (.string s) = f s

theorem SetM.made (P : Program) (K : TypeId) (w : World) : SetM P K (w.alloc (.map #[] 0)) w.heap.size 0 (fun _ => false) := ⟨.map [], World.ownsMap_made _ _ _ _, fun _ => rfl⟩

section
variable {P : Program} {K : TypeId} {w w' : World} {b n : Nat} {f : Bs → Bool}
theorem SetM.lt (h : SetM P K w b n f) : b < w.heap.size := by obtain ⟨D, h, _⟩ := h; exact h.lt
theorem SetM.block (h : SetM P K w b n f) (e : w'.heap[b]? = w.heap[b]?) : SetM P K w' b n f := by obtain ⟨D, h, hf⟩ := h; exact ⟨D, owns_block h e, hf⟩
theorem SetM.later (h : SetM P K w b n f) (k : Later w w') : SetM P K w' b n f := h.block (k.block h.lt)
theorem SetM.below (h : SetM P K w b n f) (k : Below w.heap.size w w') : SetM P K w' b n f := h.block (k.block b h.lt)
theorem SetM.grown {row : Option Nat} (h : SetM P K w b n f) (k : w.grownBy w' row) (hne : some b ≠ row) : SetM P K w' b n f := h.block (k.block b h.lt hne)
theorem SetM.mono (h : SetM P K w b n f) {n' : Nat} (hn : n ≤ n') : SetM P K w b n' f := by obtain ⟨D, h, hf⟩ := h; exact ⟨D, h.mono hn, hf⟩
theorem SetM.congr {g : Bs → Bool} (h : SetM P K w b n f) (e : ∀ s, f s = g s) : SetM P K w b n g := by obtain ⟨D, h, hf⟩ := h; exact ⟨D, h, fun s => (hf s).trans (e s)⟩
end

def NumM (P : Program) (K E : TypeId) (w : World) (b n : Nat) (m : Nums) : Prop := ∃ D : DataW Unit, w.ownsMap P K (plainElem P E) b n D ∧ ∀ s, Maps.has D (.string s) = (m s).isSome ∧ D.atKey (.string s) (.lit (.int .i64 0)) = .lit (.int .i64 (numOf m s))

theorem NumM.made (P : Program) (K E : TypeId) (w : World) : NumM P K E (w.alloc (.map #[] 0)) w.heap.size 0 (fun _ => none) := ⟨.map [], World.ownsMap_made _ _ _ _, fun _ => ⟨rfl, rfl⟩⟩

section
variable {P : Program} {K E : TypeId} {w w' : World} {b n : Nat} {m : Nums}
theorem NumM.lt (h : NumM P K E w b n m) : b < w.heap.size := by obtain ⟨D, h, _⟩ := h; exact h.lt
theorem NumM.block (h : NumM P K E w b n m) (e : w'.heap[b]? = w.heap[b]?) : NumM P K E w' b n m := by obtain ⟨D, h, hf⟩ := h; exact ⟨D, owns_block h e, hf⟩
theorem NumM.later (h : NumM P K E w b n m) (k : Later w w') : NumM P K E w' b n m := h.block (k.block h.lt)
theorem NumM.below (h : NumM P K E w b n m) (k : Below w.heap.size w w') : NumM P K E w' b n m := h.block (k.block b h.lt)
theorem NumM.grown {row : Option Nat} (h : NumM P K E w b n m) (k : w.grownBy w' row) (hne : some b ≠ row) : NumM P K E w' b n m := h.block (k.block b h.lt hne)
theorem NumM.mono (h : NumM P K E w b n m) {n' : Nat} (hn : n ≤ n') : NumM P K E w b n' m := by obtain ⟨D, h, hf⟩ := h; exact ⟨D, h.mono hn, hf⟩
end

section
variable {P : Program} {K E T : TypeId} {w : World} {b n : Nat}
theorem SetM.has {f : Bs → Bool} (h : SetM P K w b n f) (hk : P.underlying K = some .string) (ht : P.underlying T = some (.map K E)) (hz : (zeroValue E).run P w = .ok (.agg #[]) w) {s : Bs} (hs : s.length ≤ maxLen) :
    (Instr.lookup T (.map (some b)) (.string (bs s)) true).run P w = .ok (.tuple #[.agg #[], .bool (f s)]) w := by
  obtain ⟨D, hown, hf⟩ := h
  obtain ⟨v, ps, hrun, hv⟩ := hown.look_ok (string_keyed hk) ht hz (zd := .agg []) (zp := []) unitElem_mk (key_mk hk hs)
  obtain ⟨rfl, _⟩ := unitElem_inv hv
  rw [hrun, hf]

theorem SetM.add {f : Bs → Bool} (h : SetM P K w b n f) (hk : P.underlying K = some .string) (ht : P.underlying T = some (.map K E)) (hn : n < maxLen) {s : Bs} (hs : s.length ≤ maxLen) :
    ∃ w', (Instr.mapUpdate T (.map (some b)) (.string (bs s)) (.agg #[])).run P w = .ok () w' ∧ SetM P K w' b (n + 1) (fun t => f t || decide (t = s)) ∧ w.grownBy w' (some b) := by
  obtain ⟨D, hown, hf⟩ := h
  obtain ⟨w', hrun, r1, r2⟩ := hown.update (string_keyed hk) ht hn (key_mk hk hs) (d := .agg []) (ps := []) unitElem_mk
  refine ⟨w', hrun, ⟨_, r1, fun t => ?_⟩, r2⟩
  by_cases e : t = s
  · subst e
    rw [has_put_same hown.isMap (keyS _)]; simp
  · rw [has_put_other (str_ne e), hf]; simp [e]

theorem NumM.look {m : Nums} (h : NumM P K E w b n m) (hk : P.underlying K = some .string) (he : P.underlying E = some (.int .i64)) (ht : P.underlying T = some (.map K E)) (hz : (zeroValue E).run P w = .ok (.int .i64 0) w) {s : Bs} (hs : s.length ≤ maxLen) :
    (Instr.lookup T (.map (some b)) (.string (bs s)) false).run P w = .ok (.int .i64 (numOf m s)) w := by
  obtain ⟨D, hown, hf⟩ := h
  obtain ⟨c, hrun, hat, _⟩ := hown.lookup_int (string_keyed hk) ht he hz (key_mk hk hs)
  rw [(hf s).2] at hat
  injection hat with hat
  injection hat with _ hat
  rw [hrun, hat]

theorem NumM.lookOk {m : Nums} (h : NumM P K E w b n m) (hk : P.underlying K = some .string) (he : P.underlying E = some (.int .i64)) (ht : P.underlying T = some (.map K E)) (hz : (zeroValue E).run P w = .ok (.int .i64 0) w) {s : Bs} (hs : s.length ≤ maxLen) :
    (Instr.lookup T (.map (some b)) (.string (bs s)) true).run P w = .ok (.tuple #[.int .i64 (numOf m s), .bool (m s).isSome]) w := by
  obtain ⟨D, hown, hf⟩ := h
  obtain ⟨v, ps, hrun, hv⟩ := hown.look_ok (string_keyed hk) ht hz (plainElem_int he (by decide)) (key_mk hk hs)
  rw [(hf s).2] at hv
  obtain ⟨c, rfl, hc, _⟩ := plainElem_int_inv he hv
  simp only [Prod.mk.injEq] at hc
  have hc := hc.1
  injection hc with hc
  injection hc with _ hc
  rw [hrun, (hf s).1, ← hc]

theorem NumM.store {m : Nums} (h : NumM P K E w b n m) (hk : P.underlying K = some .string) (he : P.underlying E = some (.int .i64)) (ht : P.underlying T = some (.map K E)) (hn : n < maxLen) {s : Bs} (hs : s.length ≤ maxLen) {x : Nat} (hx : (Lit.int .i64 (x : Int)).wf = true) :
    ∃ w', (Instr.mapUpdate T (.map (some b)) (.string (bs s)) (.int .i64 (x : Int))).run P w = .ok () w' ∧ NumM P K E w' b (n + 1) (m.put s x) ∧ w.grownBy w' (some b) := by
  obtain ⟨D, hown, hf⟩ := h
  obtain ⟨w', hrun, r1, r2⟩ := hown.update (string_keyed hk) ht hn (key_mk hk hs) (plainElem_int he hx)
  refine ⟨w', hrun, ⟨_, r1, fun t => ?_⟩, r2⟩
  by_cases e : t = s
  · subst e
    refine ⟨by rw [has_put_same hown.isMap (keyS _)]; simp [Nums.put], ?_⟩
    rw [atKey_put_same hown.isMap (keyS _), numOf_put, if_pos rfl]
  · refine ⟨by rw [has_put_other (str_ne e), (hf t).1]; simp [Nums.put, e], ?_⟩
    rw [atKey_put_other (str_ne e), (hf t).2, numOf_put, if_neg e]
end

section
variable {P : Program} (w : World) {ops : Array Oper} {rest : List Oper} {o : Oper} {a : Act} {Q : Exit → Act → World → Prop}
theorem wpList_run_lookup (hg : o.guard = none) (m x : Operand) (t : TypeId) (c : Bool) (hop : o.op = Op.lookup t m x c) (vm vx v : Value) (hm : a.eval m = vm) (hx : a.eval x = vx) (hrun : (Instr.lookup t vm vx c).run P w = .ok v w)
    (hK : wpList P ops Q rest (a.put o.dst v) w) : wpList P ops Q (o :: rest) a w := by
  refine wpList_plain hg fun K' hK' => ?_
  unfold Oper.wp
  simp [execOp, hop, hm, hx, hrun, Result.andThen]
  exact hK' _ _ hK
theorem wpList_run_update (hg : o.guard = none) (m x v : Operand) (t : TypeId) (hop : o.op = Op.mapUpdate t m x v) (vm vx vv : Value) (w' : World) (hm : a.eval m = vm) (hx : a.eval x = vx) (hv : a.eval v = vv) (hrun : (Instr.mapUpdate t vm vx vv).run P w = .ok () w')
    (hK : wpList P ops Q rest (a.put o.dst undef) w') : wpList P ops Q (o :: rest) a w := by
  refine wpList_plain hg fun K' hK' => ?_
  unfold Oper.wp
  simp [execOp, hop, hm, hx, hv, hrun, Result.andThen]
  exact hK' _ _ hK
end

end Go.Proofs.YtilkggldmgeagaaGreatDoor
