/- Texts of this claim, one behind the other. -/
import Derived.WalkKit
import Derived.Lib.Strings
import Derived.Sort.Grow
import Derived.Deep.Draws
import Derived.Test.YthngiikhgplldaaChecked
import Derived.WalkSpells
import Derived.WalkLawsBesides
/- The order of facts, in plain Lean: names, then how many arguments, then these in turn; sets of facts as lists that rise. Nothing of the program. -/
namespace Go.Proofs.Ythngiikhgplldaa
open Go.RowKit

/-- A three-way comparison that is a total order (0: the same). -/
structure Three {α : Type} (c : α → α → Int) : Prop where
  swap : ∀ a b, c b a = - c a b
  zero : ∀ a b, c a b = 0 → a = b
  trans : ∀ a b d, c a b < 0 → c b d < 0 → c a d < 0

theorem Three.refl {α : Type} {c : α → α → Int} (h : Three c) (a : α) : c a a = 0 := by
  have := h.swap a a; omega

/-- Texts, byte by byte. -/
def cmpS (a b : ByteArray) : Int := if Op.bytesLess a.toList b.toList then -1 else if a.toList == b.toList then 0 else 1

theorem toList_inj {a b : ByteArray} (h : a.toList = b.toList) : a = b := by
  rw [Lib.toList_data, Lib.toList_data] at h
  have : a.data = b.data := Array.toList_inj.1 h
  cases a; cases b; simp_all

/-- Whole numbers. -/
def cmpI (a b : Int) : Int := if a < b then -1 else if b < a then 1 else 0

/-- Lists of texts, one behind the other; the shorter first. -/
def cmpL : List ByteArray → List ByteArray → Int
  | [], [] => 0
  | [], _ :: _ => -1
  | _ :: _, [] => 1
  | a :: x, b :: y => if cmpS a b ≠ 0 then cmpS a b else cmpL x y

/-- A fact: its name, and what it is said of. -/
abbrev FactD : Type := ByteArray × List ByteArray

def cmpF (f g : FactD) : Int :=
  if cmpS f.1 g.1 ≠ 0 then cmpS f.1 g.1 else if cmpI f.2.length g.2.length ≠ 0 then cmpI f.2.length g.2.length else cmpL f.2 g.2

end Go.Proofs.Ythngiikhgplldaa

/- Bytes, names, variables: plain. Nothing of the program. -/
namespace Go.Proofs.Ythngiikhgplldaa

/-- A small letter, or a digit. -/
def smallB (x : Int) : Bool := decide (97 ≤ x ∧ x ≤ 122) || decide (48 ≤ x ∧ x ≤ 57)
/-- A sign of a word. -/
def signB (x : Int) : Bool := smallB x || decide (65 ≤ x ∧ x ≤ 90) || decide (x = 95)
/-- A great letter. -/
def greatB (x : Int) : Bool := decide (65 ≤ x ∧ x ≤ 90)

abbrev Bs := List UInt8
/-- A text of these bytes. -/
def bs (l : Bs) : ByteArray := ⟨l.toArray⟩
/-- A text's bytes. -/
def raw (s : ByteArray) : Bs := s.data.toList

theorem bs_raw (s : ByteArray) : bs (raw s) = s := by cases s; simp [bs, raw]
theorem raw_bs (l : Bs) : raw (bs l) = l := by simp [bs, raw]
theorem size_bs (l : Bs) : (bs l).size = l.length := by simp [bs, ByteArray.size]
theorem length_raw (s : ByteArray) : (raw s).length = s.size := Array.length_toList
theorem bs_inj {a b : Bs} (h : bs a = bs b) : a = b := by rw [← raw_bs a, h, raw_bs]
theorem raw_inj {a b : ByteArray} (h : raw a = raw b) : a = b := by rw [← bs_raw a, h, bs_raw]

def isSign (c : UInt8) : Bool := signB c.toNat
def isNamed (l : Bs) : Bool := decide (l.length ≤ 12) && (match l with | [] => false | c :: _ => smallB c.toNat) && l.all isSign
def isVar (l : Bs) : Bool := decide (l.length ≤ 12) && (match l with | [] => false | c :: _ => greatB c.toNat) && l.all isSign

end Go.Proofs.Ythngiikhgplldaa

/- Worlds that have only grown; how texts and facts lie in memory. Nothing of the program. -/
namespace Go.Proofs.Ythngiikhgplldaa
open Go.RowKit Go.Sort

theorem hide {p : Prop} (h : p) : Hid p := h
theorem unhide {p : Prop} (h : Hid p) : p := h
theorem ret_int {k : IntKind} {a b : Int} (h : a = b) : Ending.returned (.int k a) = .returned (.int k b) := by rw [h]
theorem ret_bool {a b : Bool} (h : a = b) : Ending.returned (.bool a) = .returned (.bool b) := by rw [h]

/-- w' is w with some draws and some new blocks: nothing that was there has turned. -/
def Later (w w' : World) : Prop := ∃ q os, w' = grow (w.drewN q) os

theorem Later.refl (w : World) : Later w w := ⟨0, #[], by rw [grow_empty]; rfl⟩
theorem Later.trans {a b c : World} (h : Later a b) (k : Later b c) : Later a c := by
  obtain ⟨q, os, rfl⟩ := h; obtain ⟨r, ps, rfl⟩ := k
  exact ⟨q + r, os ++ ps, by show grow (grow ((a.drewN q).drewN r) os) ps = _; rw [grow_grow, World.drewN_drewN]⟩
theorem Later.alloc {a b : World} (h : Later a b) (o : Obj) : Later a (b.alloc o) := h.trans ⟨0, #[o], by rw [alloc_eq_grow]; rfl⟩
theorem Later.drew {a b : World} (h : Later a b) : Later a b.drew := h.trans ⟨1, #[], by rw [grow_empty]; rfl⟩
theorem Later.drewN {a b : World} (h : Later a b) (n : Nat) : Later a (b.drewN n) := h.trans ⟨n, #[], by rw [grow_empty]⟩
theorem Later.grow {a b : World} (h : Later a b) (os : Array Obj) : Later a (Go.Sort.grow b os) := h.trans ⟨0, os, rfl⟩
theorem Later.size {a b : World} (h : Later a b) : a.heap.size ≤ b.heap.size := by
  obtain ⟨q, os, rfl⟩ := h; rw [size_grow]; exact Nat.le_add_right _ _
theorem Later.block {a b : World} (h : Later a b) {k : Nat} (hk : k < a.heap.size) : b.heap[k]? = a.heap[k]? := by
  obtain ⟨q, os, rfl⟩ := h; exact heap_grow_old (a.drewN q) os hk
theorem Later.cell {a b : World} (h : Later a b) {p : Addr} (hp : p.block < a.heap.size) : b.cell? p = a.cell? p := World.cell?_of_block (w := a) (h.block hp)
theorem Later.frozen {a b : World} (h : Later a b) {p : Addr} (hp : p.block < a.heap.size) : b.frozen? p = a.frozen? p := World.frozen?_of_block (w := a) (h.block hp)
theorem Later.below {a b : World} (h : Later a b) : Below a.heap.size a b := by
  obtain ⟨q, os, rfl⟩ := h
  exact ⟨rfl, rfl, rfl, by rw [size_grow]; exact Nat.le_add_right _ _, fun k hk => heap_grow_old (a.drewN q) os hk⟩
theorem Later.drawn {a b : World} (h : Later a b) : a.drawn ≤ b.drawn := by
  obtain ⟨q, os, rfl⟩ := h; exact Nat.le_add_right _ _
theorem Later.of_below {a b : World} (h : Below a.heap.size a b) (hd : a.drawn ≤ b.drawn) : Later a b := by
  refine ⟨b.drawn - a.drawn, b.heap.extract a.heap.size b.heap.size, ?_⟩
  have hheap : b.heap = a.heap ++ b.heap.extract a.heap.size b.heap.size := by
    apply Array.ext_getElem?
    intro i
    rw [Array.getElem?_append]
    split
    · rename_i hi; exact h.block i hi
    · rename_i hi
      rw [Array.getElem?_extract]
      have := h.size
      by_cases hb : i < b.heap.size
      · rw [if_pos (by omega)]; congr 1; omega
      · rw [if_neg (by omega), Array.getElem?_eq_none (by omega)]
  obtain ⟨bh, bt, bd, bo, bp⟩ := b
  obtain ⟨ah, at', ad, ao, ap⟩ := a
  have e1 := h.os; have e2 := h.tape; have e3 := h.output
  simp only at e1 e2 e3 hheap hd
  subst e1 e2 e3
  show World.mk bh bt bd bo bp = World.mk (ah ++ bh.extract ah.size bh.size) bt (ad + (bd - ad)) bo bp
  rw [show ad + (bd - ad) = bd by omega, ← hheap]
theorem Later.setCell {a b : World} (h : Later a b) {p : Addr} (hp : a.heap.size ≤ p.block) (v : Value) : Later a (b.setCell p v) :=
  Later.of_below (h.below.setCell hp v) h.drawn

/-- The texts that a slice of texts holds. -/
def Strs (w : World) (v : Value) (l : List ByteArray) : Prop :=
  l.length ≤ 8796093022208 ∧ ∃ a cap, v = .slice a l.length cap ∧ (l ≠ [] → ∃ b off, a = some ⟨b, off, none⟩ ∧ b < w.heap.size ∧ ∀ i, i < l.length → w.cell? ⟨b, off + i, none⟩ = some (.string (l.getD i ByteArray.empty)))

theorem Strs.later {w w' : World} {v : Value} {l : List ByteArray} (h : Strs w v l) (k : Later w w') : Strs w' v l := by
  obtain ⟨h0, a, cap, rfl, h1⟩ := h
  refine ⟨h0, a, cap, rfl, fun hl => ?_⟩
  obtain ⟨b, off, rfl, hb, hc⟩ := h1 hl
  exact ⟨b, off, rfl, Nat.lt_of_lt_of_le hb k.size, fun i hi => by rw [k.cell (p := ⟨b, off + i, none⟩) hb]; exact hc i hi⟩

/-- A fact, as a value. -/
def FactV (w : World) (v : Value) (f : FactD) : Prop := ∃ s, v = .agg #[.string f.1, s] ∧ Strs w s f.2

theorem FactV.later {w w' : World} {v : Value} {f : FactD} (h : FactV w v f) (k : Later w w') : FactV w' v f := by
  obtain ⟨s, rfl, h1⟩ := h; exact ⟨s, rfl, h1.later k⟩

/-- No fact at all, for what lies beyond a list's end. -/
def noFact : FactD := (ByteArray.empty, [])

/-- The facts that a slice of facts holds. -/
def Facts (w : World) (v : Value) (l : List FactD) : Prop :=
  l.length ≤ 3518437208883 ∧ ∃ a cap, v = .slice a l.length cap ∧ (l ≠ [] → ∃ b off, a = some ⟨b, off, none⟩ ∧ b < w.heap.size ∧ ∀ i, i < l.length → w.cell? ⟨b, off + i * 2, none⟩ = some (.string (l.getD i noFact).1) ∧ ∃ s, w.cell? ⟨b, off + i * 2 + 1, none⟩ = some s ∧ Strs w s (l.getD i noFact).2)

theorem Facts.later {w w' : World} {v : Value} {l : List FactD} (h : Facts w v l) (k : Later w w') : Facts w' v l := by
  obtain ⟨h0, a, cap, rfl, h1⟩ := h
  refine ⟨h0, a, cap, rfl, fun hl => ?_⟩
  obtain ⟨b, off, rfl, hb, hc⟩ := h1 hl
  refine ⟨b, off, rfl, Nat.lt_of_lt_of_le hb k.size, fun i hi => ?_⟩
  obtain ⟨c1, s, c2, c3⟩ := hc i hi
  exact ⟨by rw [k.cell (p := ⟨b, off + i * 2, none⟩) hb]; exact c1, s, by rw [k.cell (p := ⟨b, off + i * 2 + 1, none⟩) hb]; exact c2, c3.later k⟩

theorem sliceStr {w : World} {v : Value} {l : List ByteArray} (h : Strs w v l) : ∃ a cap, v = .slice a l.length cap := by
  obtain ⟨_, a, cap, rfl, _⟩ := h; exact ⟨a, cap, rfl⟩

end Go.Proofs.Ythngiikhgplldaa

/- The walks of cmp.Compare at texts and whole numbers, slices.Compare at texts, and fact.Compare. -/
namespace Go.Proofs.Ythngiikhgplldaa
open Go.RowKit Go.Sort

end Go.Proofs.Ythngiikhgplldaa
