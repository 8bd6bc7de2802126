/- A reader of a text in memory, and the worlds in which only it has turned. -/
import Derived.Test.YtflldbpjhcgkbaaSyn
import Derived.Test.YtflldbpjhcgkbaaNames
import Derived.Test.YtflldbpjhcgkbaaStrLay
import Derived.Deep.LoopGhost
import Derived.BigQuiet
import Derived.Shelf.SlSortCmp.QuietGrown
import Derived.Deep.QuietTactic
namespace Go.Proofs.Ytflldbpjhcgkbaa
open Go.RowKit Go.Sort

/-- Of what was there only block p may have turned. -/
structure Tn (p : Nat) (w w' : World) : Prop where
  os : w'.os = w.os
  tape : w'.tape = w.tape
  output : w'.output = w.output
  size : w.heap.size ≤ w'.heap.size
  block : ∀ k, k < w.heap.size → k ≠ p → w'.heap[k]? = w.heap[k]?

theorem Tn.refl (p : Nat) (w : World) : Tn p w w := ⟨rfl, rfl, rfl, Nat.le_refl _, fun _ _ _ => rfl⟩
theorem Tn.trans {p : Nat} {a b c : World} (h : Tn p a b) (k : Tn p b c) : Tn p a c :=
  ⟨k.os.trans h.os, k.tape.trans h.tape, k.output.trans h.output, Nat.le_trans h.size k.size, fun i hi ho => (k.block i (Nat.lt_of_lt_of_le hi h.size) ho).trans (h.block i hi ho)⟩
theorem Tn.of_below {p : Nat} {a b : World} (h : Below a.heap.size a b) : Tn p a b := ⟨h.os, h.tape, h.output, h.size, fun k hk _ => h.block k hk⟩
theorem Tn.below {p n : Nat} {a b : World} (h : Tn p a b) (hp : n ≤ p) (hn : n ≤ a.heap.size) : Below n a b :=
  ⟨h.os, h.tape, h.output, h.size, fun k hk => h.block k (by omega) (by omega)⟩
theorem Tn.cell {p : Nat} {a b : World} (h : Tn p a b) {x : Addr} (hx : x.block < a.heap.size) (ho : x.block ≠ p) : b.cell? x = a.cell? x := World.cell?_of_block (w := a) (h.block _ hx ho)
theorem Tn.drewN {p : Nat} {a b : World} (h : Tn p a b) (n : Nat) : Tn p a (b.drewN n) := ⟨h.os, h.tape, h.output, h.size, h.block⟩
theorem Tn.drew {p : Nat} {a b : World} (h : Tn p a b) : Tn p a b.drew := ⟨h.os, h.tape, h.output, h.size, h.block⟩
theorem Tn.alloc {p : Nat} {a b : World} (h : Tn p a b) (o : Obj) : Tn p a (b.alloc o) :=
  h.trans (Tn.of_below (((Later.refl b).alloc o).below))
theorem heap_setCell_other (w : World) (x : Addr) (v : Value) {k : Nat} (h : k ≠ x.block) : (w.setCell x v).heap[k]? = w.heap[k]? := by
  simp only [World.setCell, Array.getElem?_modify]
  rw [if_neg (fun e => h e.symm)]
theorem size_setCell (w : World) (x : Addr) (v : Value) : (w.setCell x v).heap.size = w.heap.size := by simp [World.setCell]
theorem Tn.setCell {p : Nat} {a b : World} (h : Tn p a b) {x : Addr} (hx : x.block = p ∨ a.heap.size ≤ x.block) (v : Value) : Tn p a (b.setCell x v) :=
  ⟨h.os, h.tape, h.output, by rw [size_setCell]; exact h.size, fun k hk ho => by rw [heap_setCell_other _ _ _ (by rcases hx with e | e <;> omega)]; exact h.block k hk ho⟩

/-- Where a text stands that this follows of. -/
def pos (s : ByteArray) (l : Bs) : Nat := s.size - l.length

/-- A reader at block p: its text is s, and l follows. -/
structure Rd (w : World) (p : Nat) (s : ByteArray) (l : Bs) : Prop where
  short : s.size ≤ 3000
  suf : l <:+ raw s
  lt : p < w.heap.size
  ne : p ≠ 0
  c0 : w.cell? ⟨p, 0, none⟩ = some (.string s)
  c1 : w.cell? ⟨p, 1, none⟩ = some (.int .i64 (pos s l))
  fz : w.frozen? ⟨p, 1, none⟩ = false
  g : ∃ m, w.cell? ⟨0, 0, none⟩ = some (.int .i64 m)

theorem drop_pos {s : ByteArray} {l : Bs} (h : l <:+ raw s) : (raw s).drop (pos s l) = l := by
  obtain ⟨t, e⟩ := h
  have : (raw s).length = t.length + l.length := by rw [← e, List.length_append]
  rw [length_raw] at this
  rw [← e, pos, this, Nat.add_sub_cancel, List.drop_left]

theorem pos_le (s : ByteArray) (l : Bs) : pos s l ≤ s.size := Nat.sub_le _ _
theorem len_le {s : ByteArray} {l : Bs} (h : l <:+ raw s) : l.length ≤ s.size := by rw [← length_raw]; exact h.length_le
theorem pos_add {s : ByteArray} {l : Bs} (h : l <:+ raw s) {n : Nat} (hn : n ≤ l.length) : pos s (l.drop n) = pos s l + n := by
  have := len_le h
  simp only [pos, List.length_drop]; omega
theorem suf_drop {s : ByteArray} {l : Bs} (h : l <:+ raw s) (n : Nat) : l.drop n <:+ raw s := (List.drop_suffix n l).trans h
theorem cut_bs {s : ByteArray} {l : Bs} (h : l <:+ raw s) : s.extract (pos s l) s.size = bs l := by
  apply raw_inj
  rw [raw_bs]
  have e := drop_pos h
  unfold raw at e ⊢
  rw [ByteArray.data_extract]
  simp only [Array.toList_extract, List.extract_eq_take_drop]
  rw [e, List.take_of_length_le]
  simp only [pos]; have := len_le h; omega

theorem Rd.turned {w w' : World} {p q : Nat} {s : ByteArray} {l : Bs} (h : Rd w p s l) (k : Tn q w w') (hq : q ≠ p) (h0 : q ≠ 0) : Rd w' p s l :=
  ⟨h.short, h.suf, Nat.lt_of_lt_of_le h.lt k.size, h.ne, by rw [k.cell (x := ⟨p, 0, none⟩) h.lt (fun e => hq e.symm)]; exact h.c0, by rw [k.cell (x := ⟨p, 1, none⟩) h.lt (fun e => hq e.symm)]; exact h.c1,
    by rw [World.frozen?_of_block (w := w) (a := ⟨p, 1, none⟩) (k.block p h.lt (fun e => hq e.symm))]; exact h.fz,
    by obtain ⟨m, e⟩ := h.g; exact ⟨m, by rw [k.cell (x := ⟨0, 0, none⟩) (by have := h.lt; show 0 < w.heap.size; omega) (fun e => h0 e.symm)]; exact e⟩⟩

theorem Rd.below {w w' : World} {p : Nat} {s : ByteArray} {l : Bs} (h : Rd w p s l) (k : Below w.heap.size w w') : Rd w' p s l :=
  h.turned (Tn.of_below (p := p + 1) k) (by omega) (by omega)

theorem Rd.set {w : World} {p : Nat} {s : ByteArray} {l : Bs} (h : Rd w p s l) {r : Bs} (hr : r <:+ raw s) : Rd (w.setCell ⟨p, 1, none⟩ (.int .i64 (pos s r))) p s r := by
  have hc := h.c1
  refine ⟨h.short, hr, by rw [size_setCell]; exact h.lt, h.ne, ?_, ?_, ?_, ?_⟩
  · rw [World.cell?_setCell_other _ _ _ _ (by simp)]; exact h.c0
  · exact World.cell?_setCell_same _ _ _ hc
  · rw [World.frozen?_setCell]; exact h.fz
  · obtain ⟨m, e⟩ := h.g
    exact ⟨m, by rw [World.cell?_setCell_other _ _ _ _ (by intro e; simp at e)]; exact e⟩

theorem Rd.drewN {w : World} {p : Nat} {s : ByteArray} {l : Bs} (h : Rd w p s l) (q : Nat) : Rd (w.drewN q) p s l := ⟨h.short, h.suf, h.lt, h.ne, h.c0, h.c1, h.fz, h.g⟩
theorem Rd.moved {w : World} {p : Nat} {s : ByteArray} {l : Bs} (h : Rd w p s l) {n : Nat} (hn : n ≤ l.length) {x : Int} (hx : x = (pos s l : Int) + n) : Rd (w.setCell ⟨p, 1, none⟩ (.int .i64 x)) p s (l.drop n) := by
  have := h.set (suf_drop h.suf n)
  rw [pos_add h.suf hn] at this
  rw [hx]
  exact this

theorem Tn.moved {w w' : World} {p : Nat} (h : Tn p w w') (v : Value) (o : Nat) : Tn p w (w'.setCell ⟨p, o, none⟩ v) := h.setCell (Or.inl rfl) v

end Go.Proofs.Ytflldbpjhcgkbaa
