/- A reader of a text in memory, and the worlds in which only it has turned. -/
import Derived.Test.YthogickpeldhlaaGreatTn
import Derived.Test.YthogickpeldhlaaGreatStrLay
namespace Go.Proofs.YthogickpeldhlaaGreat
open Go.RowKit Go.Sort

/-- Where a text stands that this follows of. -/
def pos (s : ByteArray) (l : Bs) : Nat := s.size - l.length

/-- A reader at block p: its text is s, and l follows. -/
structure Rd (w : World) (p : Nat) (s : ByteArray) (l : Bs) : Prop where
  short : s.size ≤ 3000
  suf : l <:+ raw s
  lt : p < w.heap.size
  ne : p ≠ 0
  c0 : w.cell? ⟨p, 0, none⟩ = some (.string s)
  c1 : w.cell? ⟨p, 1, none⟩ = some (.int .i64 (pos s l))
  fz : w.frozen? ⟨p, 1, none⟩ = false
  g : ∃ m, w.cell? ⟨0, 0, none⟩ = some (.int .i64 m)

theorem drop_pos {s : ByteArray} {l : Bs} (h : l <:+ raw s) : (raw s).drop (pos s l) = l := by
  obtain ⟨t, e⟩ := h
  have : (raw s).length = t.length + l.length := by rw [← e, List.length_append]
  rw [length_raw] at this
  rw [← e, pos, this, Nat.add_sub_cancel, List.drop_left]

theorem pos_le (s : ByteArray) (l : Bs) : pos s l ≤ s.size := Nat.sub_le _ _
theorem len_le {s : ByteArray} {l : Bs} (h : l <:+ raw s) : l.length ≤ s.size := by rw [← length_raw]; exact h.length_le
theorem pos_add {s : ByteArray} {l : Bs} (h : l <:+ raw s) {n : Nat} (hn : n ≤ l.length) : pos s (l.drop n) = pos s l + n := by
  have := len_le h
  simp only [pos, List.length_drop]; omega
theorem suf_drop {s : ByteArray} {l : Bs} (h : l <:+ raw s) (n : Nat) : l.drop n <:+ raw s := (List.drop_suffix n l).trans h
theorem cut_bs {s : ByteArray} {l : Bs} (h : l <:+ raw s) : s.extract (pos s l) s.size = bs l := by
  apply raw_inj
  rw [raw_bs]
  have e := drop_pos h
  unfold raw at e ⊢
  rw [ByteArray.data_extract]
  simp only [Array.toList_extract, List.extract_eq_take_drop]
  rw [e, List.take_of_length_le]
  simp only [pos]; have := len_le h; omega

theorem Rd.turned {w w' : World} {p q : Nat} {s : ByteArray} {l : Bs} (h : Rd w p s l) (k : Tn q w w') (hq : q ≠ p) (h0 : q ≠ 0) : Rd w' p s l :=
  ⟨h.short, h.suf, Nat.lt_of_lt_of_le h.lt k.size, h.ne, by rw [k.cell (x := ⟨p, 0, none⟩) h.lt (fun e => hq e.symm)]; exact h.c0, by rw [k.cell (x := ⟨p, 1, none⟩) h.lt (fun e => hq e.symm)]; exact h.c1,
    by rw [World.frozen?_of_block (w := w) (a := ⟨p, 1, none⟩) (k.block p h.lt (fun e => hq e.symm))]; exact h.fz,
    by obtain ⟨m, e⟩ := h.g; exact ⟨m, by rw [k.cell (x := ⟨0, 0, none⟩) (by have := h.lt; show 0 < w.heap.size; omega) (fun e => h0 e.symm)]; exact e⟩⟩

theorem Rd.below {w w' : World} {p : Nat} {s : ByteArray} {l : Bs} (h : Rd w p s l) (k : Below w.heap.size w w') : Rd w' p s l :=
  h.turned (Tn.of_below (p := p + 1) k) (by omega) (by omega)

theorem Rd.set {w : World} {p : Nat} {s : ByteArray} {l : Bs} (h : Rd w p s l) {r : Bs} (hr : r <:+ raw s) : Rd (w.setCell ⟨p, 1, none⟩ (.int .i64 (pos s r))) p s r := by
  have hc := h.c1
  refine ⟨h.short, hr, by rw [size_setCell]; exact h.lt, h.ne, ?_, ?_, ?_, ?_⟩
  · rw [World.cell?_setCell_other _ _ _ _ (by simp)]; exact h.c0
  · exact World.cell?_setCell_same _ _ _ hc
  · rw [World.frozen?_setCell]; exact h.fz
  · obtain ⟨m, e⟩ := h.g
    exact ⟨m, by rw [World.cell?_setCell_other _ _ _ _ (by intro e; simp at e)]; exact e⟩

theorem Rd.drewN {w : World} {p : Nat} {s : ByteArray} {l : Bs} (h : Rd w p s l) (q : Nat) : Rd (w.drewN q) p s l := ⟨h.short, h.suf, h.lt, h.ne, h.c0, h.c1, h.fz, h.g⟩
theorem Rd.moved {w : World} {p : Nat} {s : ByteArray} {l : Bs} (h : Rd w p s l) {n : Nat} (hn : n ≤ l.length) {x : Int} (hx : x = (pos s l : Int) + n) : Rd (w.setCell ⟨p, 1, none⟩ (.int .i64 x)) p s (l.drop n) := by
  have := h.set (suf_drop h.suf n)
  rw [pos_add h.suf hn] at this
  rw [hx]
  exact this

theorem Tn.moved {w w' : World} {p : Nat} (h : Tn p w w') (v : Value) (o : Nat) : Tn p w (w'.setCell ⟨p, o, none⟩ v) := h.setCell (Or.inl rfl) v

end Go.Proofs.YthogickpeldhlaaGreat
