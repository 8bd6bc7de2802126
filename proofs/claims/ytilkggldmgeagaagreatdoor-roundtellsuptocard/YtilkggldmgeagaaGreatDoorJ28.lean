/- Texts of this claim, one behind the other. -/
import Derived.Test.YtilkggldmgeagaaGreatDoorJ26
import Derived.Test.YtilkggldmgeagaaGreatDoorJ27
import Derived.Test.YtilkggldmgeagaaGreatDoorJ17
import Derived.RegionTactic
import Derived.ChangeAlike
import Derived.Test.YtilkggldmgeagaaGreatDoorJ20
import Derived.Test.YtilkggldmgeagaaGreatDoorJ23
/- Of the reference's Strata: its edges, plain, and its closure. -/
namespace Go.Proofs.YtilkggldmgeagaaGreatDoor
open Go.RowKit Go.Sort Go.Maps

def heads (p : List RuleD) : List Bs := p.map fun r => r.head.name
theorem mem_heads (p : List RuleD) (s : Bs) : s ∈ heads p ↔ isHead p s := by unfold heads isHead; rw [List.mem_map]
def hdOf (hs : List Bs) (s : Bs) : Bool := hs.contains s
theorem hdOf_iff (p : List RuleD) (s : Bs) : hdOf (heads p) s = true ↔ isHead p s := by unfold hdOf; rw [List.contains_iff_mem]; exact mem_heads p s

def edgeAtom (hd : Bs → Bool) (h : Bs) (s : Rel × Rel) (a : AtomD) : Rel × Rel := if hd a.name then (s.1.put h a.name, if a.no then s.2.put h a.name else s.2) else s
def edgeRule (hd : Bs → Bool) (s : Rel × Rel) (r : RuleD) : Rel × Rel := r.body.foldl (edgeAtom hd r.head.name) s
def edgeAll (hd : Bs → Bool) (s : Rel × Rel) (p : List RuleD) : Rel × Rel := p.foldl (edgeRule hd) s

theorem put_iff (f : Rel) (a b x y : Bs) : f.put a b x y = true ↔ f x y = true ∨ (x = a ∧ y = b) := by unfold Rel.put; simp

theorem edgeAtoms_iff (hd : Bs → Bool) (h x y : Bs) : ∀ (l : List AtomD) (s : Rel × Rel),
    ((l.foldl (edgeAtom hd h) s).1 x y = true ↔ s.1 x y = true ∨ (x = h ∧ ∃ a ∈ l, a.name = y ∧ hd y = true)) ∧ ((l.foldl (edgeAtom hd h) s).2 x y = true ↔ s.2 x y = true ∨ (x = h ∧ ∃ a ∈ l, a.name = y ∧ hd y = true ∧ a.no = true))
  | [], s => by simp
  | a :: l, s => by
    obtain ⟨i1, i2⟩ := edgeAtoms_iff hd h x y l (edgeAtom hd h s a)
    rw [List.foldl_cons, i1, i2]
    have e1 : (edgeAtom hd h s a).1 x y = true ↔ s.1 x y = true ∨ (x = h ∧ a.name = y ∧ hd y = true) := by
      unfold edgeAtom
      split
      · rename_i hh
        rw [put_iff]
        constructor
        · rintro (k | ⟨k1, k2⟩)
          · exact Or.inl k
          · exact Or.inr ⟨k1, k2.symm, by rw [k2]; exact hh⟩
        · rintro (k | ⟨k1, k2, _⟩)
          · exact Or.inl k
          · exact Or.inr ⟨k1, k2.symm⟩
      · rename_i hh
        constructor
        · exact Or.inl
        · rintro (k | ⟨_, k2, k3⟩)
          · exact k
          · rw [← k2] at k3; exact absurd k3 hh
    have e2 : (edgeAtom hd h s a).2 x y = true ↔ s.2 x y = true ∨ (x = h ∧ a.name = y ∧ hd y = true ∧ a.no = true) := by
      unfold edgeAtom
      split
      · rename_i hh
        show (if a.no then s.2.put h a.name else s.2) x y = true ↔ _
        split
        · rename_i hn
          rw [put_iff]
          constructor
          · rintro (k | ⟨k1, k2⟩)
            · exact Or.inl k
            · exact Or.inr ⟨k1, k2.symm, by rw [k2]; exact hh, hn⟩
          · rintro (k | ⟨k1, k2, _⟩)
            · exact Or.inl k
            · exact Or.inr ⟨k1, k2.symm⟩
        · rename_i hn
          constructor
          · exact Or.inl
          · rintro (k | ⟨_, _, _, k4⟩)
            · exact k
            · exact absurd k4 hn
      · rename_i hh
        constructor
        · exact Or.inl
        · rintro (k | ⟨_, k2, k3, _⟩)
          · exact k
          · rw [← k2] at k3; exact absurd k3 hh
    rw [e1, e2]
    simp only [List.mem_cons, exists_eq_or_imp]
    constructor
    · constructor
      · rintro ((k | ⟨k1, k2, k3⟩) | ⟨k1, k2⟩)
        · exact Or.inl k
        · exact Or.inr ⟨k1, Or.inl ⟨k2, k3⟩⟩
        · exact Or.inr ⟨k1, Or.inr k2⟩
      · rintro (k | ⟨k1, ⟨k2, k3⟩ | k2⟩)
        · exact Or.inl (Or.inl k)
        · exact Or.inl (Or.inr ⟨k1, k2, k3⟩)
        · exact Or.inr ⟨k1, k2⟩
    · constructor
      · rintro ((k | ⟨k1, k2, k3, k4⟩) | ⟨k1, k2⟩)
        · exact Or.inl k
        · exact Or.inr ⟨k1, Or.inl ⟨k2, k3, k4⟩⟩
        · exact Or.inr ⟨k1, Or.inr k2⟩
      · rintro (k | ⟨k1, ⟨k2, k3, k4⟩ | k2⟩)
        · exact Or.inl (Or.inl k)
        · exact Or.inl (Or.inr ⟨k1, k2, k3, k4⟩)
        · exact Or.inr ⟨k1, k2⟩

theorem edgeAll_iff (hd : Bs → Bool) (x y : Bs) : ∀ (l : List RuleD) (s : Rel × Rel),
    ((edgeAll hd s l).1 x y = true ↔ s.1 x y = true ∨ ∃ r ∈ l, x = r.head.name ∧ ∃ a ∈ r.body, a.name = y ∧ hd y = true) ∧ ((edgeAll hd s l).2 x y = true ↔ s.2 x y = true ∨ ∃ r ∈ l, x = r.head.name ∧ ∃ a ∈ r.body, a.name = y ∧ hd y = true ∧ a.no = true)
  | [], s => by simp [edgeAll]
  | r :: l, s => by
    obtain ⟨i1, i2⟩ := edgeAll_iff hd x y l (edgeRule hd s r)
    obtain ⟨j1, j2⟩ := edgeAtoms_iff hd r.head.name x y r.body s
    have e : edgeAll hd s (r :: l) = edgeAll hd (edgeRule hd s r) l := rfl
    rw [e, i1, i2]
    unfold edgeRule
    rw [j1, j2]
    simp only [List.mem_cons, exists_eq_or_imp, or_assoc]
    exact ⟨trivial, trivial⟩

theorem edges (p : List RuleD) (x y : Bs) : ((edgeAll (hdOf (heads p)) (fun _ _ => false, fun _ _ => false) p).1 x y = true ↔ ∃ e, Edge p x y e) ∧ ((edgeAll (hdOf (heads p)) (fun _ _ => false, fun _ _ => false) p).2 x y = true ↔ Edge p x y 1) := by
  obtain ⟨i1, i2⟩ := edgeAll_iff (hdOf (heads p)) x y p (fun _ _ => false, fun _ _ => false)
  rw [i1, i2, hdOf_iff]
  constructor
  · constructor
    · rintro (k | ⟨r, hr, k1, a, ha, k2, k3⟩)
      · cases k
      · exact ⟨step a, r, hr, a, ha, k1.symm, k2, k3, rfl⟩
    · rintro ⟨e, r, hr, a, ha, k1, k2, k3, _⟩
      exact Or.inr ⟨r, hr, k1.symm, a, ha, k2, k3⟩
  · constructor
    · rintro (k | ⟨r, hr, k1, a, ha, k2, k3, k4⟩)
      · cases k
      · exact ⟨r, hr, a, ha, k1.symm, k2, k3, by unfold step; rw [k4]; rfl⟩
    · rintro ⟨r, hr, a, ha, k1, k2, k3, k4⟩
      refine Or.inr ⟨r, hr, k1.symm, a, ha, k2, k3, ?_⟩
      unfold step at k4
      cases hn : a.no with
      | true => rfl
      | false => rw [hn] at k4; cases k4

def fwP (p : List RuleD) : Rel × Rel := fwK (heads p) (heads p) (edgeAll (hdOf (heads p)) (fun _ _ => false, fun _ _ => false) p)
theorem strata_no {p : List RuleD} (hw : (wrongP p).1 = 0) {a : Bs} (ha : a ∈ heads p) (h : (fwP p).2 a a = true) : strataP p = ([], 10, 0) := by
  refine no_strata hw fun hs => ?_
  have := (fw_sol (hs := heads p) (fun x => mem_heads p x) (fun x y => (edges p x y).1) (fun x y => (edges p x y).2)).1 hs a ha
  unfold fwP at h
  rw [this] at h; cases h
theorem strata_yes {p : List RuleD} (hw : (wrongP p).1 = 0) (h : ∀ a ∈ heads p, (fwP p).2 a a = false) : strataP p = (p.map fun r => levs (hdOf (heads p)) p (p.length + 1) (fun _ => 0) r.head.name, 0, 0) := by
  obtain ⟨σ, hσ⟩ := (fw_sol (hs := heads p) (fun x => mem_heads p x) (fun x y => (edges p x y).1) (fun x y => (edges p x y).2)).2 h
  exact levs_strata (fun s => hdOf_iff p s) hw hσ _ fun _ => rfl

theorem hdOf_step {l : List Bs} {j : Nat} {x : Bs} (h : l[j]? = some x) (s : Bs) : hdOf (l.drop j) s = (decide (x = s) || hdOf (l.drop (j + 1)) s) := by
  obtain ⟨h1, e1⟩ := List.getElem?_eq_some_iff.1 h
  rw [List.drop_eq_getElem_cons h1, e1]
  unfold hdOf
  rw [List.contains_cons]
  by_cases e : x = s
  · subst e; simp
  · rw [decide_eq_false e, beq_eq_false_iff_ne.2 (Ne.symm e)]

set_option maxRecDepth 100000 in
set_option maxHeartbeats 1000000 in
theorem headC (hs : List Bs) (v : Value) (g : Nat) (s : Bs) (w : World) (h : w.cell? ⟨g, 0, none⟩ = some v) (hv : strK.sl Anyw w v hs) :
    Calls Tryz.prog 36 #[.string (bs s), .pointer (some ⟨g, 0, none⟩)] w fun x w' => x = .returned (.bool (hdOf hs s)) ∧ w' = w := by
  obtain ⟨sa, cap, rfl⟩ := Kind.slice hv
  have hl0 := hv.1.1
  have HV := hide hv
  clear hv
  have HBX : Hid (∀ u : Bs, ((bs u).toList == (bs s).toList) = decide (u = s)) := fun u => bs_eqR u s
  generalize hbs : bs s = z at *
  clear hbs
  go_enter Tryz.func36, Tryz.ntmps36
  go_wp2
  go_loopg [8] hs.length (fun k i wr => ∃ j : Nat, j + k = hs.length ∧ i = .int .i64 j ∧ Hid (hdOf hs s = hdOf (hs.drop j) s) ∧ wr = w)
  case atStart => exact ⟨0, by omega, rfl, (rfl : _ = _), rfl⟩
  case round =>
    obtain ⟨j, hj, rfl, HF, rfl⟩ := hrel
    by_cases hlt : j < hs.length
    · obtain ⟨x, hx⟩ : ∃ x, hs[j]? = some x := ⟨_, List.getElem?_eq_getElem hlt⟩
      obtain ⟨b1, o1, _, rfl, hb1, rfl, hc⟩ := Kind.sl_at HV.out hx
      have d0 : wr.cell? ⟨b1, o1 + j, none⟩ = some (.string (bs x)) := by simpa [strK] using hc 0 _ rfl
      have hE := hdOf_step hx s
      have hEq := HBX.out x
      generalize decide (x = s) = du at *
      have HE := hide hE
      clear hc hx hE
      generalize bs x = bx at *
      cases du
      · have HF2 : Hid (hdOf hs s = hdOf (hs.drop (j + 1)) s) := by show _ = _; rw [HF.out, HE.out]; rfl
        go_wp2
        go_roundg (hs.length - (j + 1))
        case measure => omega
        case rel => exact ⟨j + 1, by omega, by go_num, HF2, rfl⟩
      · have HF2 : Hid (hdOf hs s = true) := by show _ = _; rw [HF.out, HE.out]; rfl
        go_wp2
        go_ret
        exact ⟨by rw [HF2.out]; rfl, rfl⟩
    · have HF2 : Hid (hdOf hs s = false) := by show _ = _; rw [HF.out, List.drop_eq_nil_of_le (by omega)]; rfl
      go_wp2
      go_ret
      exact ⟨by rw [HF2.out]; rfl, rfl⟩

end Go.Proofs.YtilkggldmgeagaaGreatDoor

/- The walk of the reference's Strata. -/
namespace Go.Proofs.YtilkggldmgeagaaGreatDoor
open Go.RowKit Go.Sort Go.Maps

structure Hd (w w5 : World) (g : Nat) (v : Value) (hs : List Bs) : Prop where
  below : Below w.heap.size w w5
  row : w5.heap[w.heap.size]? = some (.cells #[.int .i64 0, .int .i64 0] 41 (0, 0))
  box : w5.cell? ⟨g, 0, none⟩ = some v
  lt : g < w5.heap.size
  lo : w.heap.size < w5.heap.size
  hs : strK.sl Anyw w5 v hs

theorem Hd.below' {w w5 w6 : World} {g : Nat} {v : Value} {hs : List Bs} (h : Hd w w5 g v hs) (k : Below w5.heap.size w5 w6) : Hd w w6 g v hs :=
  ⟨below_trans h.below k (Nat.le_of_lt h.lo), by rw [k.block _ h.lo]; exact h.row, by rw [k.cell (p := ⟨g, 0, none⟩) h.lt]; exact h.box, Nat.lt_of_lt_of_le h.lt k.size, Nat.lt_of_lt_of_le h.lo k.size, Kind.sl_below h.hs k⟩

structure St (w5 : World) (n : Nat) (s : Rel × Rel) (wr : World) : Prop where
  below : Below w5.heap.size w5 wr
  m1 : RelM wr w5.heap.size n s.1
  m2 : RelM wr (w5.heap.size + 1) n s.2

theorem St.later {w5 wr wr' : World} {n : Nat} {s : Rel × Rel} (h : St w5 n s wr) (k : Later wr wr') : St w5 n s wr' := ⟨below_trans h.below k.below h.below.size, h.m1.later k, h.m2.later k⟩
theorem St.mono {w5 wr : World} {n m : Nat} {s : Rel × Rel} (h : St w5 n s wr) (hn : n ≤ m) : St w5 m s wr := ⟨h.below, h.m1.mono hn, h.m2.mono hn⟩

def Past (w5 a b : World) : Prop := a.heap.size ≤ b.heap.size ∧ ∀ k, w5.heap.size + 2 ≤ k → k < a.heap.size → b.heap[k]? = a.heap[k]?
theorem Past.cell {w5 a b : World} (h : Past w5 a b) {x : Addr} (hx : w5.heap.size + 2 ≤ x.block) (hl : x.block < a.heap.size) : b.cell? x = a.cell? x := World.cell?_of_block (w := a) (h.2 _ hx hl)

theorem St.put1 {w5 wr : World} {n : Nat} {s : Rel × Rel} (h : St w5 n s wr) (hn : n < maxLen) {x y : Bs} (hx : x.length ≤ maxLen) (hy : y.length ≤ maxLen) :
    ∃ w', (Instr.mapUpdate 70 (.map (some w5.heap.size)) (.agg #[.string (bs x), .string (bs y)]) (.bool true)).run Tryz.prog wr = .ok () w' ∧ St w5 (n + 1) (s.1.put x y, s.2) w' ∧ Past w5 wr w' := by
  obtain ⟨w', hrun, h1, hg⟩ := h.m1.store hn hx hy
  have hb : But (fun k => k = w5.heap.size) wr w' := But.of_grown hg rfl
  have hl := h.m2.lt
  exact ⟨w', hrun, ⟨hb.below h.below (fun k e => by omega) h.below.size, h1, (h.m2.block (hb.block _ hl (by omega))).mono (by omega)⟩, hb.size, fun k h1 h2 => hb.block k h2 (by omega)⟩
theorem St.put2 {w5 wr : World} {n : Nat} {s : Rel × Rel} (h : St w5 n s wr) (hn : n < maxLen) {x y : Bs} (hx : x.length ≤ maxLen) (hy : y.length ≤ maxLen) :
    ∃ w', (Instr.mapUpdate 70 (.map (some (w5.heap.size + 1))) (.agg #[.string (bs x), .string (bs y)]) (.bool true)).run Tryz.prog wr = .ok () w' ∧ St w5 (n + 1) (s.1, s.2.put x y) w' ∧ Past w5 wr w' := by
  obtain ⟨w', hrun, h1, hg⟩ := h.m2.store hn hx hy
  have hb : But (fun k => k = w5.heap.size + 1) wr w' := But.of_grown hg rfl
  have hl := h.m1.lt
  exact ⟨w', hrun, ⟨hb.below h.below (fun k e => by omega) h.below.size, (h.m1.block (hb.block _ hl (by omega))).mono (by omega), h1⟩, hb.size, fun k h1 h2 => hb.block k h2 (by omega)⟩
theorem St.look1 {w5 wr : World} {n : Nat} {s : Rel × Rel} (h : St w5 n s wr) {x y : Bs} (hx : x.length ≤ maxLen) (hy : y.length ≤ maxLen) : (Instr.lookup 70 (.map (some w5.heap.size)) (.agg #[.string (bs x), .string (bs y)]) false).run Tryz.prog wr = .ok (.bool (s.1 x y)) wr := h.m1.look hx hy
theorem St.look2 {w5 wr : World} {n : Nat} {s : Rel × Rel} (h : St w5 n s wr) {x y : Bs} (hx : x.length ≤ maxLen) (hy : y.length ≤ maxLen) : (Instr.lookup 70 (.map (some (w5.heap.size + 1))) (.agg #[.string (bs x), .string (bs y)]) false).run Tryz.prog wr = .ok (.bool (s.2 x y)) wr := h.m2.look hx hy

theorem heads_step {p : List RuleD} {j : Nat} {r : RuleD} (h : p[j]? = some r) : heads (p.take (j + 1)) = heads (p.take j) ++ [r.head.name] := by
  rw [List.take_add_one, h]; simp [heads]

theorem edgeAll_step {p : List RuleD} {j : Nat} {r : RuleD} (h : p[j]? = some r) (hd : Bs → Bool) (s : Rel × Rel) : edgeAll hd s (p.drop j) = edgeAll hd (edgeRule hd s r) (p.drop (j + 1)) := by
  obtain ⟨h1, e1⟩ := List.getElem?_eq_some_iff.1 h
  rw [List.drop_eq_getElem_cons h1, e1]; rfl
theorem foldl_drop {α β : Type} {l : List α} {j : Nat} {x : α} (h : l[j]? = some x) (f : β → α → β) (b : β) : (l.drop j).foldl f b = (l.drop (j + 1)).foldl f (f b x) := by
  obtain ⟨h1, e1⟩ := List.getElem?_eq_some_iff.1 h
  rw [List.drop_eq_getElem_cons h1, e1]; rfl

set_option maxRecDepth 100000 in
set_option maxHeartbeats 16000000 in
theorem rStrata (p : List RuleD) (v : Value) (w : World) (hv : ruleK.sl Anyw w v p) (hk : ∀ r ∈ p, longR r) :
    Calls Tryz.prog 16 #[v] w fun e w' => ∃ u, e = .returned (.tuple #[u, .agg #[.int .i64 (strataP p).2.1, .int .i64 ((strataP p).2.2 : Nat)]]) ∧ intK.sl (From w.heap.size) w' u (strataP p).1 ∧ Below w.heap.size w w' := by
  obtain ⟨sa, cap, rfl⟩ := Kind.slice hv
  have HV := hide hv
  have hl0 := hv.1.1
  have HW : Hid (Calls Tryz.prog 35 #[.slice sa p.length cap] (w.alloc (.cells #[.int .i64 0, .int .i64 0] 41)) fun e w2 => e = .returned (.agg #[.int .i64 (wrongP p).1, .int .i64 ((wrongP p).2 : Nat)]) ∧ Hid (Below w.heap.size w w2) ∧ w2.heap[w.heap.size]? = some (.cells #[.int .i64 0, .int .i64 0] 41 (0, 0)) ∧ w.heap.size < w2.heap.size) :=
    (rWrongProgram p _ _ (Kind.sl_below hv ((Later.refl w).alloc _).below) hk).mono fun e w2 ⟨he, hb⟩ => ⟨he, below_trans ((Later.refl w).alloc _).below hb (by simp), by rw [hb.block w.heap.size (by simp), heap_alloc_new], by have := hb.size; simp at this; omega⟩
  clear hv hk
  have hmm := @run_makeMap Tryz.prog
  generalize hwp : wrongP p = wp at *
  obtain ⟨ex, ea⟩ := wp
  dsimp only at *
  by_cases h0 : ex = 0
  · subst h0
    obtain ⟨hp16, hfine⟩ := wrongP_fine (p := p) (by rw [hwp])
    have HFi := hide hfine
    have HNo : Hid (∀ a ∈ heads p, (fwP p).2 a a = true → strataP p = ([], 10, 0)) := fun a ha h => strata_no (by rw [hwp]) ha h
    have HYes : Hid ((∀ a ∈ heads p, (fwP p).2 a a = false) → strataP p = (p.map fun r => levs (hdOf (heads p)) p (p.length + 1) (fun _ => 0) r.head.name, 0, 0)) := fun h => strata_yes (by rw [hwp]) h
    have HHs : Hid (∀ s ∈ heads p, s.length ≤ maxLen) := fun s hs => by
      obtain ⟨r, hr, rfl⟩ := (mem_heads p s).1 hs
      exact (hfine r hr).1
    have hhl : (heads p).length = p.length := by simp [heads]
    clear hwp hfine
    go_enter Tryz.func16, Tryz.ntmps16
    go_wp2_with (go_at_call 35; refine HW.out.mono ?_; rintro e w2 ⟨rfl, hB2, hR2, hs2⟩; replace hR2 := hide hR2)
    have hwz := hB2.out.size
    clear HW
    go_loopg [42] p.length (fun k i wr => ∃ j : Nat, j + k = p.length ∧ i = .int .i64 j ∧ ∃ o, Hid (strK.own 9 (w2.heap.size + 2) wr o (heads (p.take j))) ∧ Hid (wr.heap[w2.heap.size + 1]? = some (.cells #[o] 48 (0, 0))) ∧ Hid (Below w.heap.size w wr) ∧ Hid (wr.heap[w.heap.size]? = some (.cells #[.int .i64 0, .int .i64 0] 41 (0, 0))) ∧ w2.heap.size + 2 ≤ wr.heap.size)
    case atStart =>
      refine ⟨0, by omega, rfl, .slice none 0 0, strK.own_nil _ _ _, ?_, ?_, ?_, by simp⟩
      · show _ = _
        have := heap_alloc_new (w2.alloc (.cells #[.int .i64 0, .int .i64 (ea : Int)] 41)) (.cells #[.slice none 0 0] 48)
        rw [World.size_alloc] at this
        exact this
      · exact (hB2.out.alloc hwz _).alloc (by simp; omega) _
      · show _ = _
        rw [Below.heap_alloc _ _ _ (by simp; omega), Below.heap_alloc _ _ _ hs2]
        exact unhide hR2
    case round =>
      obtain ⟨j, hj, rfl, o, HO, HX, HB, HR, hsz⟩ := hrel
      clear hB2 hR2
      obtain ⟨ao, co, rfl⟩ := Kind.own_slice HO.out
      have hX := HX.out
      have x0 : wr.cell? ⟨w2.heap.size + 1, 0, none⟩ = some (.slice ao (heads (p.take j)).length co) := by rw [cell_of_row _ _ _ _ _ _ hX]; rfl
      have hxl : w2.heap.size + 1 < wr.heap.size := by omega
      clear hX
      by_cases hlt : j < p.length
      · obtain ⟨r, hr⟩ : ∃ x, p[j]? = some x := ⟨_, List.getElem?_eq_getElem hlt⟩
        obtain ⟨b1, o1, _, rfl, hb1, ⟨sv, su, rfl, hsv, hsu⟩, hcl⟩ := Kind.sl_at HV.out hr
        have d0 : wr.cell? ⟨b1, o1 + j * 4, none⟩ = some (.bool r.head.no) := by rw [HB.out.cell hb1]; exact hcl 0 _ rfl
        have d1 : wr.cell? ⟨b1, o1 + j * 4 + 1, none⟩ = some (.string (bs r.head.name)) := by rw [HB.out.cell hb1]; exact hcl 1 _ rfl
        have d2 : wr.cell? ⟨b1, o1 + j * 4 + 2, none⟩ = some sv := by rw [HB.out.cell hb1]; exact hcl 2 _ rfl
        have d3 : wr.cell? ⟨b1, o1 + j * 4 + 3, none⟩ = some su := by rw [HB.out.cell hb1]; exact hcl 3 _ rfl
        have hbr : b1 < wr.heap.size := by have := HB.out.size; omega
        have hlen : (heads (p.take j)).length = j := by simp [heads]; omega
        have E := hide (heads_step hr)
        have hOA := Kind.own_turned HO.out ((Tn.refl 0 wr).alloc (.cells #[.bool r.head.no, .string (bs r.head.name), sv, su] 57)) (by omega)
        obtain ⟨v', w4, hrun, o4, g4⟩ := appendStrC hOA (x := r.head.name) (by rw [hlen]; omega) (by simp; omega)
        obtain ⟨av, cv, hv'⟩ := Kind.own_slice o4
        generalize (heads (p.take j) ++ [r.head.name]).length = nv at hv'
        subst hv'
        have hT4 : Tn (w2.heap.size + 1) w4 (w4.setCell ⟨w2.heap.size + 1, 0, none⟩ (.slice av nv cv)) := (Tn.refl (w2.heap.size + 1) w4).setCell (x := ⟨w2.heap.size + 1, 0, none⟩) (Or.inl rfl) (.slice av nv cv)
        have hs4 := g4.size
        simp only [World.size_alloc] at hs4
        have hk4 : ∀ k, k < w2.heap.size + 2 → w4.heap[k]? = wr.heap[k]? := fun k hk => by
          rw [g4.block k (by simp; omega) (fun e => by have := (Kind.own_lt hOA e.symm).1; omega), Below.heap_alloc _ _ _ (by simp; omega), Below.heap_alloc _ _ _ (by omega)]
        have HO4 : Hid (strK.own 9 (w2.heap.size + 2) (w4.setCell ⟨w2.heap.size + 1, 0, none⟩ (.slice av nv cv)) (.slice av nv cv) (heads (p.take (j + 1)))) := by show strK.own _ _ _ _ _; rw [E.out]; exact Kind.own_turned o4 hT4 (by omega)
        have hX4 : w4.heap[w2.heap.size + 1]? = some (.cells #[.slice ao (heads (p.take j)).length co] 48 (0, 0)) := by rw [hk4 _ (by omega)]; exact HX.out
        have HX4 : Hid ((w4.setCell ⟨w2.heap.size + 1, 0, none⟩ (.slice av nv cv)).heap[w2.heap.size + 1]? = some (.cells #[(.slice av nv cv)] 48 (0, 0))) := setCell_row hX4 (.slice av nv cv)
        have HB4 : Hid (Below w.heap.size w (w4.setCell ⟨w2.heap.size + 1, 0, none⟩ (.slice av nv cv))) := by
          refine Below.setCell (below_trans ((HB.out.alloc HB.out.size _).alloc (by have := HB.out.size; simp; omega) _) ⟨g4.os, g4.tape, g4.output, g4.size, fun k hk => g4.block k (by simp; omega) (fun e => ?_)⟩ (Nat.le_refl _)) (by show w.heap.size ≤ w2.heap.size + 1; omega) _
          have := (Kind.own_lt hOA e.symm).1
          omega
        have HR4 : Hid ((w4.setCell ⟨w2.heap.size + 1, 0, none⟩ (.slice av nv cv)).heap[w.heap.size]? = some (.cells #[.int .i64 0, .int .i64 0] 41 (0, 0))) := by
          show _ = _
          rw [hT4.block _ (by omega) (by omega), hk4 _ (by omega)]
          exact HR.out
        have hz4 : w2.heap.size + 2 ≤ (w4.setCell ⟨w2.heap.size + 1, 0, none⟩ (.slice av nv cv)).heap.size := by rw [size_setCell]; omega
        have y0 : w4.cell? ⟨w2.heap.size + 1, 0, none⟩ = some (.slice ao (heads (p.take j)).length co) := by rw [cell_of_row _ _ _ _ _ _ hX4]; rfl
        have y1 : w4.frozen? ⟨w2.heap.size + 1, 0, none⟩ = false := frozen_rowC 0 hX4
        simp only [World.size_alloc] at hrun
        rw [hlen] at hrun x0 y0
        replace hrun := hide hrun
        clear hlen
        obtain ⟨a2, c2, rfl⟩ := Kind.slice hsv
        obtain ⟨a3, c3, rfl⟩ := Kind.slice hsu
        clear hcl hr hsv hsu hOA o4 g4 HO HB HX HR E hT4 hk4 hX4
        generalize bs r.head.name = nm at *
        generalize r.head.no = no at *
        go_wp2_with (first
          | (at_builtin; refine wpList_append_run rfl (.tmp 46) (.tmp 50) 48 rfl _ _ _ _ rfl rfl (unhide hrun) ?_)
          | go_in)
        go_roundg (p.length - (j + 1))
        case measure => omega
        case rel => exact ⟨j + 1, by omega, by go_num, (.slice av nv cv), HO4, HX4, HB4, HR4, hz4⟩
      · have e : j = p.length := by omega
        subst e
        have hO := HO.out
        rw [List.take_length] at hO x0
        have HH : Hid (Hd w wr (w2.heap.size + 1) (.slice ao (heads p).length co) (heads p)) := ⟨HB.out, HR.out, x0, hxl, by omega, Kind.sl_any (Kind.own_sl (by first | exact hO | (rw [List.take_length] at hO; exact hO)) (by omega))⟩
        clear HO HX HB HR hO
        generalize hGg : w2.heap.size + 1 = G at *
        have hGl := HH.out.lt
        clear hsz
        have HHL : Hid ((heads p).length = p.length) := hhl
        rw [hhl] at HH x0
        clear hhl
        generalize hw5 : wr = w5 at *
        clear hw5
        have HFW : Hid (fwP p = fwK (heads p) (heads p) (edgeAll (hdOf (heads p)) (fun _ _ => false, fun _ _ => false) p)) := (rfl : _ = _)
        generalize heads p = hs at *
        generalize fwP p = FW at *
        generalize he0 : edgeAll (hdOf hs) (fun _ _ => false, fun _ _ => false) p = EA at *
        have HE0 := hide he0
        clear he0
        go_wp2
        go_loopg [58] p.length (fun k i wr => ∃ j : Nat, j + k = p.length ∧ i = .int .i64 j ∧ ∃ s, Hid (EA = edgeAll (hdOf hs) s (p.drop j)) ∧ Hid (St w5 (10 * j) s wr) ∧ w5.heap.size + 2 ≤ wr.heap.size)
        case atStart =>
          refine ⟨0, by omega, rfl, (fun _ _ => false, fun _ _ => false), HE0.out.symm, ⟨?_, ?_, ?_⟩, by simp⟩
          · exact (((Later.refl w5).alloc _).alloc _).below
          · exact (RelM.made w5).later ((Later.refl _).alloc _)
          · have := RelM.made (w5.alloc (.map #[] 0))
            rw [World.size_alloc] at this
            exact this
        case round =>
          obtain ⟨j, hj, rfl, s, HE, HS, hsz⟩ := hrel
          by_cases hlt : j < p.length
          · obtain ⟨r, hr⟩ : ∃ x, p[j]? = some x := ⟨_, List.getElem?_eq_getElem hlt⟩
            obtain ⟨b1, o1, _, rfl, hb1, ⟨sv, su, rfl, hsv, hsu⟩, hcl⟩ := Kind.sl_at HV.out hr
            have hBw : Below w.heap.size w wr := below_trans HH.out.below HS.out.below HH.out.below.size
            have d0 : wr.cell? ⟨b1, o1 + j * 4, none⟩ = some (.bool r.head.no) := by rw [hBw.cell hb1]; exact hcl 0 _ rfl
            have d1 : wr.cell? ⟨b1, o1 + j * 4 + 1, none⟩ = some (.string (bs r.head.name)) := by rw [hBw.cell hb1]; exact hcl 1 _ rfl
            have d2 : wr.cell? ⟨b1, o1 + j * 4 + 2, none⟩ = some sv := by rw [hBw.cell hb1]; exact hcl 2 _ rfl
            have d3 : wr.cell? ⟨b1, o1 + j * 4 + 3, none⟩ = some su := by rw [hBw.cell hb1]; exact hcl 3 _ rfl
            have hbr : b1 < wr.heap.size := by have := hBw.size; omega
            obtain ⟨f1, f2, f3⟩ := HFi.out r (List.mem_of_getElem? hr)
            have HSt := hide (edgeAll_step hr (hdOf hs) s)
            obtain ⟨a2, c2, rfl⟩ := Kind.slice hsv
            obtain ⟨a3, c3, rfl⟩ := Kind.slice hsu
            have HSU := hide hsu
            have HF3 := hide f3
            have hbl : r.body.length ≤ 5 := f2
            have hjp : j < 16 := by omega
            clear hcl hr hsv hsu f3 f2 hBw
            have HS1 := hide (HS.out.later ((Later.refl wr).alloc (.cells #[.bool r.head.no, .string (bs r.head.name), .slice a2 r.head.terms.length c2, .slice a3 r.body.length c3] 57)))
            have HZ1 : Hid ((wr.alloc (.cells #[.bool r.head.no, .string (bs r.head.name), .slice a2 r.head.terms.length c2, .slice a3 r.body.length c3] 57)).cell? ⟨wr.heap.size, 1, none⟩ = some (.string (bs r.head.name))) := by show _ = _; simp
            have hR1 : wr.heap.size < (wr.alloc (.cells #[.bool r.head.no, .string (bs r.head.name), .slice a2 r.head.terms.length c2, .slice a3 r.body.length c3] 57)).heap.size := by simp
            generalize hnm : bs r.head.name = nm at *
            have HNM := hide hnm
            clear hnm
            generalize r.head.no = no at *
            generalize hR : wr.heap.size = R at *
            clear HS
            go_wp2
            go_loopg [65] r.body.length (fun k i wr2 => ∃ q : Nat, q + k = r.body.length ∧ i = .int .i64 q ∧ ∃ y : Rel × Rel, Hid (edgeRule (hdOf hs) s r = (r.body.drop q).foldl (edgeAtom (hdOf hs) r.head.name) y) ∧ Hid (St w5 (10 * j + 2 * q) y wr2) ∧ R < wr2.heap.size ∧ wr2.cell? ⟨R, 1, none⟩ = some (.string nm))
            case atStart =>
              refine ⟨0, by omega, rfl, s, (rfl : _ = _), ?_, ?_, ?_⟩
              · first | exact HS1 | (subst hR; exact HS1)
              · first | exact hR1 | (subst hR; exact hR1)
              · first | exact HZ1.out | (subst hR; exact HZ1.out)
            case round =>
              obtain ⟨q, hq, rfl, y, HE2, HSy, hRs, z1⟩ := hrel
              clear HS1 HZ1 hR1 d0 d1 d2 d3
              by_cases hlq : q < r.body.length
              · obtain ⟨a, ha⟩ : ∃ x, r.body[q]? = some x := ⟨_, List.getElem?_eq_getElem hlq⟩
                obtain ⟨b2, o2, _, rfl, hb2, ⟨tv, rfl, htv⟩, hcl⟩ := Kind.sl_at HSU.out ha
                have hBw : Below w.heap.size w wr := below_trans HH.out.below HSy.out.below HH.out.below.size
                have d0 : wr.cell? ⟨b2, o2 + q * 3, none⟩ = some (.bool a.no) := by rw [hBw.cell hb2]; exact hcl 0 _ rfl
                have d1 : wr.cell? ⟨b2, o2 + q * 3 + 1, none⟩ = some (.string (bs a.name)) := by rw [hBw.cell hb2]; exact hcl 1 _ rfl
                have d2 : wr.cell? ⟨b2, o2 + q * 3 + 2, none⟩ = some tv := by rw [hBw.cell hb2]; exact hcl 2 _ rfl
                have hbr2 : b2 < wr.heap.size := by have := hBw.size; omega
                have hst := foldl_drop ha (edgeAtom (hdOf hs) r.head.name) y
                have hal := HF3.out a (List.mem_of_getElem? ha)
                obtain ⟨a4, c4, rfl⟩ := Kind.slice htv
                have HSA := hide (HSy.out.later ((Later.refl wr).alloc (.cells #[.bool a.no, .string (bs a.name), .slice a4 a.terms.length c4] 54)))
                have hHA := HH.out.below' HSA.out.below
                have HHd := hide (headC hs _ G a.name _ hHA.box hHA.hs)
                clear hHA hcl ha htv hBw
                cases hh : hdOf hs a.name
                · have E4 : Hid (edgeRule (hdOf hs) s r = (r.body.drop (q + 1)).foldl (edgeAtom (hdOf hs) r.head.name) y) := by
                    show _ = _
                    rw [HE2.out, hst]; unfold edgeAtom; rw [hh]; rfl
                  rw [hh] at HHd
                  clear hst HE2 hh
                  generalize bs a.name = na at *
                  generalize a.no = an at *
                  go_wp2_with fail
                  refine HHd.out.mono ?_
                  rintro e w' ⟨rfl, rfl⟩
                  go_wp2
                  go_roundg (r.body.length - (q + 1))
                  case measure => omega
                  case rel => exact ⟨q + 1, by omega, by go_num, y, E4, HSA.out.mono (by omega), by simp; omega, by rw [((Later.refl wr).alloc _).cell (p := ⟨R, 1, none⟩) hRs]; exact z1⟩
                · obtain ⟨w3, hup, hS3, hP3⟩ := HSA.out.put1 (by simp [maxLen]; omega) f1 hal
                  have hs5 := HSy.out.m2.lt
                  have hR2 : w5.heap.size + 2 ≤ R := by omega
                  have kz1 : w3.cell? ⟨R, 1, none⟩ = some (.string nm) := by
                    rw [hP3.cell (x := ⟨R, 1, none⟩) (by show _ ≤ R; omega) (by simp; omega), ((Later.refl wr).alloc _).cell (p := ⟨R, 1, none⟩) hRs]; exact z1
                  have kz2 : w3.cell? ⟨wr.heap.size, 0, none⟩ = some (.bool a.no) := by
                    rw [hP3.cell (x := ⟨wr.heap.size, 0, none⟩) (by show _ ≤ wr.heap.size; omega) (by simp)]; simp
                  have kz3 : w3.cell? ⟨wr.heap.size, 1, none⟩ = some (.string (bs a.name)) := by
                    rw [hP3.cell (x := ⟨wr.heap.size, 1, none⟩) (by show _ ≤ wr.heap.size; omega) (by simp)]; simp
                  have kz4 : R < w3.heap.size := by have := hP3.1; simp at this; omega
                  rw [HNM.out] at hup
                  rw [hh] at HHd
                  cases han : a.no
                  · have E4 : Hid (edgeRule (hdOf hs) s r = (r.body.drop (q + 1)).foldl (edgeAtom (hdOf hs) r.head.name) (y.1.put r.head.name a.name, y.2)) := by
                      show _ = _
                      rw [HE2.out, hst]; unfold edgeAtom; rw [hh, han]; rfl
                    have HU := hide hup
                    have HS3 := hide hS3
                    rw [han] at HHd kz2 HU d0
                    clear hst HE2 hh han hP3 hS3 hup HSA HSy
                    generalize bs a.name = na at *
                    go_wp2_with fail
                    refine HHd.out.mono ?_
                    rintro e w' ⟨rfl, rfl⟩
                    go_wp2_with (first
                      | (at_mapUpdate; refine wpList_run_update _ rfl _ _ _ _ rfl _ _ _ _ rfl rfl rfl HU.out ?_)
                      | go_in)
                    go_roundg (r.body.length - (q + 1))
                    case measure => omega
                    case rel => exact ⟨q + 1, by omega, by go_num, _, E4, HS3.out.mono (by omega), kz4, kz1⟩
                  · have E4 : Hid (edgeRule (hdOf hs) s r = (r.body.drop (q + 1)).foldl (edgeAtom (hdOf hs) r.head.name) (y.1.put r.head.name a.name, y.2.put r.head.name a.name)) := by
                      show _ = _
                      rw [HE2.out, hst]; unfold edgeAtom; rw [hh, han]; rfl
                    obtain ⟨w4, hup4, hS4, hP4⟩ := hS3.put2 (by simp [maxLen]; omega) f1 hal
                    have v1 : w4.cell? ⟨R, 1, none⟩ = some (.string nm) := by
                      rw [hP4.cell (x := ⟨R, 1, none⟩) (by show _ ≤ R; omega) kz4]; exact kz1
                    have v4 : R < w4.heap.size := by have := hP4.1; omega
                    rw [HNM.out] at hup4
                    have HU := hide hup
                    have HU4 := hide hup4
                    have HS4 := hide hS4
                    rw [han] at HHd kz2 HU d0
                    clear hst HE2 hh han hP3 hS3 hup hup4 hS4 hP4 HSA HSy
                    generalize bs a.name = na at *
                    go_wp2_with fail
                    refine HHd.out.mono ?_
                    rintro e w' ⟨rfl, rfl⟩
                    go_wp2_with (first
                      | (at_mapUpdate; refine wpList_run_update _ rfl _ _ _ _ rfl _ _ _ _ rfl rfl rfl HU.out ?_)
                      | (at_mapUpdate; refine wpList_run_update _ rfl _ _ _ _ rfl _ _ _ _ rfl rfl rfl HU4.out ?_)
                      | go_in)
                    go_roundg (r.body.length - (q + 1))
                    case measure => omega
                    case rel => exact ⟨q + 1, by omega, by go_num, _, E4, HS4.out.mono (by omega), v4, v1⟩
              · have E4 : Hid (EA = edgeAll (hdOf hs) y (p.drop (j + 1))) := by
                  show _ = _
                  have e3 : edgeRule (hdOf hs) s r = y := by rw [HE2.out, List.drop_eq_nil_of_le (by omega)]; rfl
                  rw [HE.out, HSt.out, e3]
                have hl6 : w5.heap.size + 2 ≤ wr.heap.size := by have := HSy.out.m2.lt; omega
                go_wp2
                go_roundg (p.length - (j + 1))
                case measure => omega
                case rel => exact ⟨j + 1, by omega, by go_num, y, E4, HSy.out.mono (by omega), hl6⟩
          · have E2 : Hid (EA = s) := by show _ = _; rw [HE.out, List.drop_eq_nil_of_le (by omega)]; rfl
            have HS2 : Hid (St w5 160 EA wr) := by show St _ _ _ _; rw [E2.out]; exact HS.out.mono (by omega)
            clear HE HS E2 HE0
            have gx := (HH.out.below' HS2.out.below).box
            have hgl := (HH.out.below' HS2.out.below).lt
            go_wp2
            go_loopg [93] p.length (fun k i wr => ∃ j : Nat, j + k = p.length ∧ i = .int .i64 j ∧ ∃ s, Hid (FW = fwK hs (hs.drop j) s) ∧ Hid (St w5 (160 + 512 * j) s wr))
            case atStart => exact ⟨0, by omega, rfl, EA, HFW, HS2⟩
            case round =>
              obtain ⟨j, hj, rfl, s, HE, HS⟩ := hrel
              clear HS2 gx hgl
              have hHw := HH.out.below' HS.out.below
              have gx := hHw.box
              have hgl := hHw.lt
              by_cases hlt : j < p.length
              · obtain ⟨kk, hkk⟩ : ∃ x, hs[j]? = some x := ⟨_, List.getElem?_eq_getElem (by have := HHL.out; omega)⟩
                obtain ⟨b1, o1, _, rfl, hb1, rfl, hc⟩ := Kind.sl_at hHw.hs hkk
                have d0 : wr.cell? ⟨b1, o1 + j, none⟩ = some (.string (bs kk)) := by simpa [strK] using hc 0 _ rfl
                have hkl := HHs.out kk (List.mem_of_getElem? hkk)
                have HST := hide (foldl_drop hkk (fun s k => fwA hs k s) s)
                clear hHw hc hkk
                have hjp : j < 16 := by omega
                generalize hbk : bs kk = bk at *
                have HBK := hide hbk
                clear hbk
                go_wp2
                go_loopg [99] p.length (fun k i wr => ∃ q : Nat, q + k = p.length ∧ i = .int .i64 q ∧ ∃ y, Hid (fwA hs kk s = (hs.drop q).foldl (fun s a => fwB hs kk a s) y) ∧ Hid (St w5 (160 + 512 * j + 32 * q) y wr))
                case atStart => exact ⟨0, by omega, rfl, s, (rfl : _ = _), HS⟩
                case round =>
                  obtain ⟨q, hq, rfl, y, HE2, HSy⟩ := hrel
                  clear HS gx hgl d0 hb1
                  have hHw := HH.out.below' HSy.out.below
                  have gx := hHw.box
                  have hgl := hHw.lt
                  by_cases hlq : q < p.length
                  · obtain ⟨aa, haa⟩ : ∃ x, hs[q]? = some x := ⟨_, List.getElem?_eq_getElem (by have := HHL.out; omega)⟩
                    obtain ⟨b2, o2, _, hbe, hb1, rfl, hc⟩ := Kind.sl_at hHw.hs haa
                    simp only [Option.some.injEq, Addr.mk.injEq, and_true] at hbe
                    obtain ⟨rfl, rfl⟩ := hbe
                    have d0 : wr.cell? ⟨b1, o1 + q, none⟩ = some (.string (bs aa)) := by simpa [strK] using hc 0 _ rfl
                    have hal := HHs.out aa (List.mem_of_getElem? haa)
                    have HST2 := hide (foldl_drop haa (fun s a => fwB hs kk a s) y)
                    clear hHw hc haa
                    generalize hba : bs aa = ba at *
                    have HBA := hide hba
                    clear hba
                    go_wp2
                    go_loopg [105] p.length (fun k i wr => ∃ t : Nat, t + k = p.length ∧ i = .int .i64 t ∧ ∃ z, Hid (fwB hs kk aa y = (hs.drop t).foldl (fun s b => fwStep kk aa b s) z) ∧ Hid (St w5 (160 + 512 * j + 32 * q + 2 * t) z wr))
                    case atStart => exact ⟨0, by omega, rfl, y, (rfl : _ = _), HSy⟩
                    case round =>
                      obtain ⟨t, ht, rfl, z, HE3, HSz⟩ := hrel
                      clear HSy gx hgl d0 hb1
                      have hHw := HH.out.below' HSz.out.below
                      by_cases hlt3 : t < p.length
                      · obtain ⟨bb, hbb⟩ : ∃ x, hs[t]? = some x := ⟨_, List.getElem?_eq_getElem (by have := HHL.out; omega)⟩
                        obtain ⟨b2, o2, _, hbe, hb1, rfl, hc⟩ := Kind.sl_at hHw.hs hbb
                        simp only [Option.some.injEq, Addr.mk.injEq, and_true] at hbe
                        obtain ⟨rfl, rfl⟩ := hbe
                        have d0 : wr.cell? ⟨b1, o1 + t, none⟩ = some (.string (bs bb)) := by simpa [strK] using hc 0 _ rfl
                        have hbl := HHs.out bb (List.mem_of_getElem? hbb)
                        have hst := foldl_drop hbb (fun s b => fwStep kk aa b s) z
                        clear hHw hc hbb
                        generalize hbz : bs bb = bz at *
                        have hW := ((Later.refl wr).alloc (.cells #[.string ba, .string bk] 71)).alloc (.cells #[.string bk, .string bz] 71)
                        have HSW := hide (HSz.out.later hW)
                        have l1 := HSW.out.look1 hal hkl
                        have l2 := HSW.out.look1 hkl hbl
                        rw [HBA.out, HBK.out] at l1
                        rw [hbz, HBK.out] at l2
                        have hm2 := HSz.out.m2.lt
                        clear hW HSz
                        cases h1 : z.1 aa kk
                        · have E4 : Hid (fwB hs kk aa y = (hs.drop (t + 1)).foldl (fun s b => fwStep kk aa b s) z) := by
                            show _ = _
                            rw [HE3.out, hst]; unfold fwStep; rw [h1]; rfl
                          rw [h1] at l1
                          clear hst HE3 h1 l2 hbz
                          go_wp2
                          go_roundg (p.length - (t + 1))
                          case measure => omega
                          case rel => exact ⟨t + 1, by omega, by go_num, z, E4, HSW.out.mono (by omega)⟩
                        · cases h2 : z.1 kk bb
                          · have E4 : Hid (fwB hs kk aa y = (hs.drop (t + 1)).foldl (fun s b => fwStep kk aa b s) z) := by
                              show _ = _
                              rw [HE3.out, hst]; unfold fwStep; rw [h1, h2]; rfl
                            rw [h1] at l1
                            rw [h2] at l2
                            clear hst HE3 h1 h2 hbz
                            go_wp2
                            go_roundg (p.length - (t + 1))
                            case measure => omega
                            case rel => exact ⟨t + 1, by omega, by go_num, z, E4, HSW.out.mono (by omega)⟩
                          · obtain ⟨w3, hup, hS3, hP3⟩ := HSW.out.put1 (by simp [maxLen]; omega) hal hbl
                            have l3 := hS3.look2 hal hkl
                            have l4 := hS3.look2 hkl hbl
                            dsimp only at l3 l4
                            have kz0 : w3.cell? ⟨wr.heap.size, 0, none⟩ = some (.string ba) := by
                              rw [hP3.cell (x := ⟨wr.heap.size, 0, none⟩) (by show _ ≤ wr.heap.size; omega) (by simp; omega)]; simp
                            have kz1 : w3.cell? ⟨wr.heap.size, 1, none⟩ = some (.string bk) := by
                              rw [hP3.cell (x := ⟨wr.heap.size, 1, none⟩) (by show _ ≤ wr.heap.size; omega) (by simp; omega)]; simp
                            have kz2 : w3.cell? ⟨wr.heap.size + 1, 0, none⟩ = some (.string bk) := by
                              rw [hP3.cell (x := ⟨wr.heap.size + 1, 0, none⟩) (by show _ ≤ wr.heap.size + 1; omega) (by simp)]; simp
                            have kz3 : w3.cell? ⟨wr.heap.size + 1, 1, none⟩ = some (.string bz) := by
                              rw [hP3.cell (x := ⟨wr.heap.size + 1, 1, none⟩) (by show _ ≤ wr.heap.size + 1; omega) (by simp)]; simp
                            rw [h1] at l1
                            rw [h2] at l2
                            rw [HBA.out, HBK.out] at l3
                            rw [hbz, HBK.out] at l4
                            rw [hbz, HBA.out] at hup
                            have HU := hide hup
                            cases h3 : (z.2 aa kk || z.2 kk bb)
                            · have E4 : Hid (fwB hs kk aa y = (hs.drop (t + 1)).foldl (fun s b => fwStep kk aa b s) (z.1.put aa bb, z.2)) := by
                                show _ = _
                                rw [HE3.out, hst]; unfold fwStep; rw [h1, h2, h3]; rfl
                              have HS3 := hide hS3
                              rw [Bool.or_eq_false_iff] at h3
                              rw [h3.1] at l3
                              rw [h3.2] at l4
                              clear hst HE3 h1 h2 h3 hbz hup hS3 hP3
                              go_wp2_with (first
                                | (at_mapUpdate; refine wpList_run_update _ rfl _ _ _ _ rfl _ _ _ _ rfl rfl rfl HU.out ?_)
                                | go_in)
                              go_roundg (p.length - (t + 1))
                              case measure => omega
                              case rel => exact ⟨t + 1, by omega, by go_num, _, E4, HS3.out.mono (by omega)⟩
                            · have E4 : Hid (fwB hs kk aa y = (hs.drop (t + 1)).foldl (fun s b => fwStep kk aa b s) (z.1.put aa bb, z.2.put aa bb)) := by
                                show _ = _
                                rw [HE3.out, hst]; unfold fwStep; rw [h1, h2, h3]; rfl
                              obtain ⟨w4, hup4, hS4, hP4⟩ := hS3.put2 (by simp [maxLen]; omega) hal hbl
                              rw [hbz, HBA.out] at hup4
                              have HU4 := hide hup4
                              have HS4 := hide hS4
                              clear hst HE3 h1 h2 hbz hup hS3 hP3 hup4 hS4 hP4
                              cases h4 : z.2 aa kk
                              · rw [h4, Bool.false_or] at h3
                                rw [h4] at l3
                                rw [h3] at l4
                                clear h3 h4
                                go_wp2_with (first
                                  | (at_mapUpdate; refine wpList_run_update _ rfl _ _ _ _ rfl _ _ _ _ rfl rfl rfl HU.out ?_)
                                  | (at_mapUpdate; refine wpList_run_update _ rfl _ _ _ _ rfl _ _ _ _ rfl rfl rfl HU4.out ?_)
                                  | go_in)
                                go_roundg (p.length - (t + 1))
                                case measure => omega
                                case rel => exact ⟨t + 1, by omega, by go_num, _, E4, HS4.out.mono (by omega)⟩
                              · rw [h4] at l3
                                clear h3 h4 l4
                                go_wp2_with (first
                                  | (at_mapUpdate; refine wpList_run_update _ rfl _ _ _ _ rfl _ _ _ _ rfl rfl rfl HU.out ?_)
                                  | (at_mapUpdate; refine wpList_run_update _ rfl _ _ _ _ rfl _ _ _ _ rfl rfl rfl HU4.out ?_)
                                  | go_in)
                                go_roundg (p.length - (t + 1))
                                case measure => omega
                                case rel => exact ⟨t + 1, by omega, by go_num, _, E4, HS4.out.mono (by omega)⟩
                      · have E4 : Hid (fwA hs kk s = (hs.drop (q + 1)).foldl (fun s a => fwB hs kk a s) z) := by
                          show _ = _
                          have e3 : fwB hs kk aa y = z := by rw [HE3.out, List.drop_eq_nil_of_le (by have := HHL.out; omega)]; rfl
                          rw [HE2.out, HST2.out]; show (hs.drop (q + 1)).foldl _ (fwB hs kk aa y) = _; rw [e3]
                        clear hHw
                        go_wp2
                        go_roundg (p.length - (q + 1))
                        case measure => omega
                        case rel => exact ⟨q + 1, by omega, by go_num, z, E4, HSz.out.mono (by omega)⟩
                  · have E4 : Hid (FW = fwK hs (hs.drop (j + 1)) y) := by
                      show _ = _
                      have e3 : fwA hs kk s = y := by rw [HE2.out, List.drop_eq_nil_of_le (by have := HHL.out; omega)]; rfl
                      have e4 : fwK hs (hs.drop j) s = (hs.drop (j + 1)).foldl (fun s k => fwA hs k s) (fwA hs kk s) := HST.out
                      rw [HE.out, e4, e3]; rfl
                    clear hHw
                    go_wp2
                    go_roundg (p.length - (j + 1))
                    case measure => omega
                    case rel => exact ⟨j + 1, by omega, by go_num, y, E4, HSy.out.mono (by omega)⟩
              · have E2 : Hid (FW = s) := by show _ = _; rw [HE.out, List.drop_eq_nil_of_le (by have := HHL.out; omega)]; rfl
                have HS7 : Hid (St w5 9000 FW wr) := by show St _ _ _ _; rw [E2.out]; exact HS.out.mono (by omega)
                clear HE HS E2 HFW hHw
                have HH7 := hide (HH.out.below' HS7.out.below)
                generalize hw7 : wr = w7 at *
                clear hw7
                go_wp2
                go_loopg [144] p.length (fun k i wr => ∃ j : Nat, j + k = p.length ∧ i = .int .i64 j ∧ Hid (∀ a ∈ hs.take j, FW.2 a a = false) ∧ wr = w7)
                case atStart => exact ⟨0, by omega, rfl, (fun a ha => by simp at ha), rfl⟩
                case round =>
                  obtain ⟨j, hj, rfl, HN, hwe⟩ := hrel
                  subst hwe
                  by_cases hlt : j < p.length
                  · obtain ⟨aa, haa⟩ : ∃ x, hs[j]? = some x := ⟨_, List.getElem?_eq_getElem (by have := HHL.out; omega)⟩
                    obtain ⟨b1, o1, _, rfl, hb1, rfl, hc⟩ := Kind.sl_at HH7.out.hs haa
                    have d0 : wr.cell? ⟨b1, o1 + j, none⟩ = some (.string (bs aa)) := by simpa [strK] using hc 0 _ rfl
                    have hal := HHs.out aa (List.mem_of_getElem? haa)
                    have l1 := HS7.out.look2 hal hal
                    clear hc
                    cases h1 : FW.2 aa aa
                    · have HN2 : Hid (∀ a ∈ hs.take (j + 1), FW.2 a a = false) := by
                        intro a ha
                        rw [List.take_add_one, haa] at ha
                        rcases List.mem_append.1 ha with h | h
                        · exact HN.out a h
                        · simp at h; rw [h]; exact h1
                      rw [h1] at l1
                      clear haa h1 HN
                      generalize bs aa = ba at *
                      go_wp2
                      go_roundg (p.length - (j + 1))
                      case measure => omega
                      case rel => exact ⟨j + 1, by omega, by go_num, HN2, rfl⟩
                    · have F2 : Hid (strataP p = ([], 10, 0)) := HNo.out aa (List.mem_of_getElem? haa) h1
                      rw [h1] at l1
                      have hR6 := HH7.out.row
                      have q0 : wr.cell? ⟨w.heap.size, 0, none⟩ = some (.int .i64 0) := (by rw [cell_of_row _ _ _ _ _ _ hR6]; rfl); have q1 : wr.cell? ⟨w.heap.size, 1, none⟩ = some (.int .i64 0) := (by rw [cell_of_row _ _ _ _ _ _ hR6]; rfl); have p0 : wr.frozen? ⟨w.heap.size, 0, none⟩ = false := frozen_rowC 0 hR6; have p1 : wr.frozen? ⟨w.heap.size, 1, none⟩ = false := frozen_rowC 1 hR6
                      clear hR6 haa h1 HN
                      generalize bs aa = ba at *
                      go_wp2
                      obtain ⟨r0, r1⟩ := fault_two HH7.out.row (.int .i64 10) (.int .i64 0)
                      refine bodyPost_ret (v := .tuple #[.slice none 0 0, .agg #[.int .i64 10, .int .i64 0]]) (by simp [results, Tryz.results16, go_sem, r0, r1]) rfl ⟨.slice none 0 0, by rw [F2.out]; rfl, by rw [F2.out]; exact intK.sl_nil _ _ _ _, ?_⟩
                      exact (HH7.out.below.setCell (Nat.le_refl _) _).setCell (Nat.le_refl _) _
                  · have F2 := hide (HYes.out fun a ha => HN.out a (by rw [List.take_of_length_le (by have := HHL.out; omega)]; exact ha))
                    clear HN HNo HYes HS7
                    generalize hw7 : wr = w7 at *
                    clear hw7
                    generalize hL : levs (hdOf hs) p (p.length + 1) (fun _ => 0) = L at *
                    have HL := hide hL
                    clear hL
                    have gx := HH7.out.box
                    have hgl := HH7.out.lt
                    go_wp2
                    go_loopg [159] (p.length + 1) (fun k i wr => ∃ t : Nat, t + k = p.length + 1 ∧ i = .int .i64 t ∧ ∃ m, Hid (L = levs (hdOf hs) p k (numOf m)) ∧ Hid (NumsM wr w7.heap.size (80 * t) m) ∧ Hid (∀ s, numOf m s ≤ 80 * t) ∧ Hid (Below w7.heap.size w7 wr))
                    case atStart => exact ⟨0, by omega, rfl, fun _ => none, HL.out.symm, NumM.made Tryz.prog 9 3 w7, (fun s => Nat.le_refl _), ((Later.refl w7).alloc _).below⟩
                    case round =>
                      obtain ⟨t, ht, rfl, m, HE, HM, HC, HB⟩ := hrel
                      clear gx hgl
                      by_cases hlt : t < p.length + 1
                      · obtain ⟨k, rfl⟩ : ∃ k', gk = k' + 1 := ⟨p.length - t, by omega⟩
                        have HE1 : Hid (L = levs (hdOf hs) p k (levAll (hdOf hs) p (numOf m))) := HE
                        have htz : (t : Int) < (p.length : Int) + 1 := by omega
                        clear HE
                        go_wp2
                        go_loopg [163] p.length (fun k i wr => ∃ j : Nat, j + k = p.length ∧ i = .int .i64 j ∧ ∃ m2, Hid (levAll (hdOf hs) p (numOf m) = (p.drop j).foldl (levRule (hdOf hs)) (numOf m2)) ∧ Hid (NumsM wr w7.heap.size (80 * t + 5 * j) m2) ∧ Hid (∀ s, numOf m2 s ≤ 80 * t + 5 * j) ∧ Hid (Below w7.heap.size w7 wr))
                        case atStart => exact ⟨0, by omega, rfl, m, (rfl : _ = _), HM, HC, HB⟩
                        case round =>
                          obtain ⟨j, hj, rfl, m2, HE2, HM2, HC2, HB2⟩ := hrel
                          clear HM HC HB
                          by_cases hltj : j < p.length
                          · obtain ⟨r, hr⟩ : ∃ x, p[j]? = some x := ⟨_, List.getElem?_eq_getElem hltj⟩
                            obtain ⟨b1, o1, _, rfl, hb1, ⟨sv, su, rfl, hsv, hsu⟩, hcl⟩ := Kind.sl_at HV.out hr
                            have hBw : Below w.heap.size w wr := below_trans HH7.out.below HB2.out HH7.out.below.size
                            have d0 : wr.cell? ⟨b1, o1 + j * 4, none⟩ = some (.bool r.head.no) := by rw [hBw.cell hb1]; exact hcl 0 _ rfl
                            have d1 : wr.cell? ⟨b1, o1 + j * 4 + 1, none⟩ = some (.string (bs r.head.name)) := by rw [hBw.cell hb1]; exact hcl 1 _ rfl
                            have d2 : wr.cell? ⟨b1, o1 + j * 4 + 2, none⟩ = some sv := by rw [hBw.cell hb1]; exact hcl 2 _ rfl
                            have d3 : wr.cell? ⟨b1, o1 + j * 4 + 3, none⟩ = some su := by rw [hBw.cell hb1]; exact hcl 3 _ rfl
                            have hbr : b1 < wr.heap.size := by have := hBw.size; omega
                            obtain ⟨f1, f2, f3⟩ := HFi.out r (List.mem_of_getElem? hr)
                            have HSt := hide (foldl_drop hr (levRule (hdOf hs)) (numOf m2))
                            obtain ⟨a2, c2, rfl⟩ := Kind.slice hsv
                            obtain ⟨a3, c3, rfl⟩ := Kind.slice hsu
                            have HSU := hide hsu
                            have HF3 := hide f3
                            have hbl : r.body.length ≤ 5 := f2
                            have hjp : j < 16 := by omega
                            clear hcl hr hsv hsu f3 f2 hBw
                            have HM3 := hide (HM2.out.later ((Later.refl wr).alloc (.cells #[.bool r.head.no, .string (bs r.head.name), .slice a2 r.head.terms.length c2, .slice a3 r.body.length c3] 57)))
                            have HB3 := hide (HB2.out.alloc HB2.out.size (.cells #[.bool r.head.no, .string (bs r.head.name), .slice a2 r.head.terms.length c2, .slice a3 r.body.length c3] 57))
                            have HZ1 : Hid ((wr.alloc (.cells #[.bool r.head.no, .string (bs r.head.name), .slice a2 r.head.terms.length c2, .slice a3 r.body.length c3] 57)).cell? ⟨wr.heap.size, 1, none⟩ = some (.string (bs r.head.name))) := by show _ = _; simp
                            have hR1 : wr.heap.size < (wr.alloc (.cells #[.bool r.head.no, .string (bs r.head.name), .slice a2 r.head.terms.length c2, .slice a3 r.body.length c3] 57)).heap.size := by simp
                            have hRM : w7.heap.size < wr.heap.size := HM2.out.lt
                            generalize hnm : bs r.head.name = nm at *
                            have HNM := hide hnm
                            clear hnm
                            generalize r.head.no = no at *
                            generalize hR : wr.heap.size = R at *
                            clear HM2 HB2
                            go_wp2
                            go_loopg [170] r.body.length (fun k i wr2 => ∃ q : Nat, q + k = r.body.length ∧ i = .int .i64 q ∧ ∃ m3, Hid (levRule (hdOf hs) (numOf m2) r = (r.body.drop q).foldl (levAtom (hdOf hs) r.head.name) (numOf m3)) ∧ Hid (NumsM wr2 w7.heap.size (80 * t + 5 * j + q) m3) ∧ Hid (∀ s, numOf m3 s ≤ 80 * t + 5 * j + q) ∧ Hid (Below w7.heap.size w7 wr2) ∧ R < wr2.heap.size ∧ wr2.cell? ⟨R, 1, none⟩ = some (.string nm))
                            case atStart =>
                              refine ⟨0, by omega, rfl, m2, (rfl : _ = _), ?_, HC2, ?_, ?_, ?_⟩
                              · first | exact HM3 | (subst hR; exact HM3)
                              · first | exact HB3 | (subst hR; exact HB3)
                              · first | exact hR1 | (subst hR; exact hR1)
                              · first | exact HZ1.out | (subst hR; exact HZ1.out)
                            case round =>
                              obtain ⟨q, hq, rfl, m3, HE3, HM4, HC4, HB4, hRs, z1⟩ := hrel
                              clear HM3 HB3 HZ1 hR1 d0 d1 d2 d3
                              by_cases hlq : q < r.body.length
                              · obtain ⟨a, ha⟩ : ∃ x, r.body[q]? = some x := ⟨_, List.getElem?_eq_getElem hlq⟩
                                obtain ⟨b2, o2, _, rfl, hb2, ⟨tv, rfl, htv⟩, hcl⟩ := Kind.sl_at HSU.out ha
                                have hBw : Below w.heap.size w wr := below_trans HH7.out.below HB4.out HH7.out.below.size
                                have d0 : wr.cell? ⟨b2, o2 + q * 3, none⟩ = some (.bool a.no) := by rw [hBw.cell hb2]; exact hcl 0 _ rfl
                                have d1 : wr.cell? ⟨b2, o2 + q * 3 + 1, none⟩ = some (.string (bs a.name)) := by rw [hBw.cell hb2]; exact hcl 1 _ rfl
                                have d2 : wr.cell? ⟨b2, o2 + q * 3 + 2, none⟩ = some tv := by rw [hBw.cell hb2]; exact hcl 2 _ rfl
                                have hbr2 : b2 < wr.heap.size := by have := hBw.size; omega
                                have hst := foldl_drop ha (levAtom (hdOf hs) r.head.name) (numOf m3)
                                have hal := HF3.out a (List.mem_of_getElem? ha)
                                obtain ⟨a4, c4, rfl⟩ := Kind.slice htv
                                have hLA := (Later.refl wr).alloc (.cells #[.bool a.no, .string (bs a.name), .slice a4 a.terms.length c4] 54)
                                have HMA := hide (HM4.out.later hLA)
                                have HBA := hide (below_trans HB4.out hLA.below HB4.out.size)
                                have hHA := HH7.out.below' HBA.out
                                have HHd := hide (headC hs _ G a.name _ hHA.box hHA.hs)
                                have l1 := NumM.look (T := 72) HMA.out Tryz.underlying9 Tryz.underlying3 Tryz.underlying72 (zeroInt _) hal
                                have l2 := NumM.look (T := 72) HMA.out Tryz.underlying9 Tryz.underlying3 Tryz.underlying72 (zeroInt _) f1
                                rw [HNM.out] at l2
                                clear hHA hcl ha htv hBw
                                have c1 := HC4.out a.name
                                have c2' := HC4.out r.head.name
                                obtain ⟨nn, hnn⟩ : ∃ nn, nn = (if a.no && hdOf hs a.name then numOf m3 a.name + 1 else numOf m3 a.name) := ⟨_, rfl⟩
                                have hnle : nn ≤ 80 * t + 5 * j + q + 1 := by rw [hnn]; split <;> omega
                                obtain ⟨w4, hup, hM5, hg5⟩ := NumM.store (T := 72) HMA.out Tryz.underlying9 Tryz.underlying3 Tryz.underlying72 (by simp [maxLen]; omega) f1 (x := max (numOf m3 r.head.name) nn) (wf_len (by omega))
                                rw [HNM.out] at hup
                                have E4 : Hid (levRule (hdOf hs) (numOf m2) r = (r.body.drop (q + 1)).foldl (levAtom (hdOf hs) r.head.name) (numOf (m3.put r.head.name (max (numOf m3 r.head.name) nn)))) := by
                                  show _ = _
                                  rw [HE3.out, hst]
                                  congr 1
                                  funext s
                                  rw [numOf_put]; unfold levAtom; rw [← hnn]
                                have HM5 := hide hM5
                                have HC5 : Hid (∀ s, numOf (m3.put r.head.name (max (numOf m3 r.head.name) nn)) s ≤ 80 * t + 5 * j + (q + 1)) := by
                                  intro s
                                  have := HC4.out s
                                  rw [numOf_put]; split <;> omega
                                have hT5 := Tn.of_grown hg5
                                have HB5 : Hid (Below w7.heap.size w7 w4) := below_trans HBA.out (hT5.below (n := w7.heap.size) (Nat.le_refl _) HBA.out.size) (Nat.le_refl _)
                                have kz4 : R < w4.heap.size := by have := hT5.size; simp at this; omega
                                have kz1 : w4.cell? ⟨R, 1, none⟩ = some (.string nm) := by
                                  rw [hT5.cell (x := ⟨R, 1, none⟩) (by simp; omega) (by show R ≠ _; omega), hLA.cell (p := ⟨R, 1, none⟩) hRs]; exact z1
                                generalize hn5 : m3.put r.head.name (max (numOf m3 r.head.name) nn) = m5 at *
                                clear hn5 hM5 hg5 hT5 hLA hst HE3 HM4 HC4 HB4
                                cases han : a.no
                                · have hv : nn = numOf m3 a.name := by rw [hnn, han]; rfl
                                  subst hv
                                  rw [han] at l1 l2 hup d0
                                  clear hnn han HHd
                                  generalize bs a.name = na at *
                                  generalize numOf m3 a.name = ln at *
                                  generalize numOf m3 r.head.name = lh at *
                                  by_cases hlm : lh < ln
                                  · have hmx : (((max lh ln : Nat)) : Int) = (ln : Int) := by omega
                                    have hmz : max (lh : Int) (ln : Int) = (ln : Int) := by omega
                                    rw [hmx] at hup
                                    have HU := hide hup
                                    clear hup hmx
                                    go_wp2_with (first
                                      | (at_mapUpdate; refine wpList_run_update _ rfl _ _ _ _ rfl _ _ _ _ rfl rfl rfl HU.out ?_)
                                      | go_in)
                                    go_roundg (r.body.length - (q + 1))
                                    case measure => omega
                                    case rel => exact ⟨q + 1, by omega, by go_num, m5, E4, HM5, HC5, HB5, kz4, kz1⟩
                                  · have hmx : (((max lh ln : Nat)) : Int) = (lh : Int) := by omega
                                    have hmz : max (lh : Int) (ln : Int) = (lh : Int) := by omega
                                    rw [hmx] at hup
                                    have HU := hide hup
                                    clear hup hmx
                                    go_wp2_with (first
                                      | (at_mapUpdate; refine wpList_run_update _ rfl _ _ _ _ rfl _ _ _ _ rfl rfl rfl HU.out ?_)
                                      | go_in)
                                    go_roundg (r.body.length - (q + 1))
                                    case measure => omega
                                    case rel => exact ⟨q + 1, by omega, by go_num, m5, E4, HM5, HC5, HB5, kz4, kz1⟩
                                · cases hh : hdOf hs a.name
                                  · have hv : nn = numOf m3 a.name := by rw [hnn, han, hh]; rfl
                                    subst hv
                                    rw [hh] at HHd
                                    rw [han] at l1 l2 hup d0 HHd
                                    clear hnn han hh
                                    generalize bs a.name = na at *
                                    generalize numOf m3 a.name = ln at *
                                    generalize numOf m3 r.head.name = lh at *
                                    by_cases hlm : lh < ln
                                    · have hmx : (((max lh ln : Nat)) : Int) = (ln : Int) := by omega
                                      have hmz : max (lh : Int) (ln : Int) = (ln : Int) := by omega
                                      rw [hmx] at hup
                                      have HU := hide hup
                                      clear hup hmx
                                      go_wp2_with fail
                                      refine HHd.out.mono ?_
                                      rintro e w' ⟨rfl, rfl⟩
                                      go_wp2_with (first
                                        | (at_mapUpdate; refine wpList_run_update _ rfl _ _ _ _ rfl _ _ _ _ rfl rfl rfl HU.out ?_)
                                        | go_in)
                                      go_roundg (r.body.length - (q + 1))
                                      case measure => omega
                                      case rel => exact ⟨q + 1, by omega, by go_num, m5, E4, HM5, HC5, HB5, kz4, kz1⟩
                                    · have hmx : (((max lh ln : Nat)) : Int) = (lh : Int) := by omega
                                      have hmz : max (lh : Int) (ln : Int) = (lh : Int) := by omega
                                      rw [hmx] at hup
                                      have HU := hide hup
                                      clear hup hmx
                                      go_wp2_with fail
                                      refine HHd.out.mono ?_
                                      rintro e w' ⟨rfl, rfl⟩
                                      go_wp2_with (first
                                        | (at_mapUpdate; refine wpList_run_update _ rfl _ _ _ _ rfl _ _ _ _ rfl rfl rfl HU.out ?_)
                                        | go_in)
                                      go_roundg (r.body.length - (q + 1))
                                      case measure => omega
                                      case rel => exact ⟨q + 1, by omega, by go_num, m5, E4, HM5, HC5, HB5, kz4, kz1⟩
                                  · have hv : nn = numOf m3 a.name + 1 := by rw [hnn, han, hh]; rfl
                                    subst hv
                                    rw [hh] at HHd
                                    rw [han] at l1 l2 hup d0 HHd
                                    clear hnn han hh
                                    generalize bs a.name = na at *
                                    generalize numOf m3 a.name = ln at *
                                    generalize numOf m3 r.head.name = lh at *
                                    by_cases hlm : lh < ln + 1
                                    · have hmx : (((max lh (ln + 1) : Nat)) : Int) = (ln : Int) + 1 := by omega
                                      have hmz : max (lh : Int) ((ln : Int) + 1) = (ln : Int) + 1 := by omega
                                      have hlz : (lh : Int) < (ln : Int) + 1 := by omega
                                      rw [hmx] at hup
                                      have HU := hide hup
                                      clear hup hmx
                                      go_wp2_with fail
                                      refine HHd.out.mono ?_
                                      rintro e w' ⟨rfl, rfl⟩
                                      go_wp2_with (first
                                        | (at_mapUpdate; refine wpList_run_update _ rfl _ _ _ _ rfl _ _ _ _ rfl rfl rfl HU.out ?_)
                                        | go_in)
                                      go_roundg (r.body.length - (q + 1))
                                      case measure => omega
                                      case rel => exact ⟨q + 1, by omega, by go_num, m5, E4, HM5, HC5, HB5, kz4, kz1⟩
                                    · have hmx : (((max lh (ln + 1) : Nat)) : Int) = (lh : Int) := by omega
                                      have hmz : max (lh : Int) ((ln : Int) + 1) = (lh : Int) := by omega
                                      have hlz : ¬ (lh : Int) < (ln : Int) + 1 := by omega
                                      rw [hmx] at hup
                                      have HU := hide hup
                                      clear hup hmx
                                      go_wp2_with fail
                                      refine HHd.out.mono ?_
                                      rintro e w' ⟨rfl, rfl⟩
                                      go_wp2_with (first
                                        | (at_mapUpdate; refine wpList_run_update _ rfl _ _ _ _ rfl _ _ _ _ rfl rfl rfl HU.out ?_)
                                        | go_in)
                                      go_roundg (r.body.length - (q + 1))
                                      case measure => omega
                                      case rel => exact ⟨q + 1, by omega, by go_num, m5, E4, HM5, HC5, HB5, kz4, kz1⟩
                              · have E4 : Hid (levAll (hdOf hs) p (numOf m) = (p.drop (j + 1)).foldl (levRule (hdOf hs)) (numOf m3)) := by
                                  show _ = _
                                  have e3 : levRule (hdOf hs) (numOf m2) r = numOf m3 := by rw [HE3.out, List.drop_eq_nil_of_le (by omega)]; rfl
                                  rw [HE2.out, HSt.out, e3]
                                go_wp2
                                go_roundg (p.length - (j + 1))
                                case measure => omega
                                case rel => exact ⟨j + 1, by omega, by go_num, m3, E4, HM4.out.mono (by omega), fun s => by have := HC4.out s; omega, HB4⟩
                          · have E4 : Hid (L = levs (hdOf hs) p k (numOf m2)) := by
                              show _ = _
                              have e3 : levAll (hdOf hs) p (numOf m) = numOf m2 := by rw [HE2.out, List.drop_eq_nil_of_le (by omega)]; rfl
                              rw [HE1.out, e3]
                            go_wp2
                            go_roundg k
                            case measure => omega
                            case rel => exact ⟨t + 1, by omega, by go_num, m2, E4, HM2.out.mono (by omega), fun s => by have := HC2.out s; omega, HB2⟩
                      · obtain rfl : gk = 0 := by omega
                        have htz : ¬ (t : Int) < (p.length : Int) + 1 := by omega
                        have HE0 : Hid (L = numOf m) := HE
                        have HH8 := hide (HH7.out.below' HB.out)
                        clear HE HC HB HH7
                        subst HE0
                        have HM8 := hide HM.out
                        generalize hw8 : wr = w8 at *
                        clear hw8 HM
                        go_wp2
                        go_loopg [31, 204] p.length (fun k o i wr => ∃ j : Nat, j + k = p.length ∧ i = .int .i64 j ∧ Hid (intK.own 3 w8.heap.size wr o (each m (p.take j))) ∧ Hid (Below w8.heap.size w8 wr))
                        case atStart => exact ⟨0, by omega, rfl, intK.own_nil _ _ _, Below.refl _ _⟩
                        case round =>
                          obtain ⟨j, hj, rfl, HO, HB⟩ := hrel
                          obtain ⟨ao2, co2, rfl⟩ := Kind.own_slice HO.out
                          have hwr := HB.out.size
                          have hm8 := HM8.out.lt
                          by_cases hlt : j < p.length
                          · obtain ⟨r, hr⟩ : ∃ x, p[j]? = some x := ⟨_, List.getElem?_eq_getElem hlt⟩
                            obtain ⟨b1, o1, _, rfl, hb1, ⟨sv, su, rfl, hsv, hsu⟩, hcl⟩ := Kind.sl_at HV.out hr
                            have hBw : Below w.heap.size w wr := below_trans HH8.out.below HB.out HH8.out.below.size
                            have d0 : wr.cell? ⟨b1, o1 + j * 4, none⟩ = some (.bool r.head.no) := by rw [hBw.cell hb1]; exact hcl 0 _ rfl
                            have d1 : wr.cell? ⟨b1, o1 + j * 4 + 1, none⟩ = some (.string (bs r.head.name)) := by rw [hBw.cell hb1]; exact hcl 1 _ rfl
                            have d2 : wr.cell? ⟨b1, o1 + j * 4 + 2, none⟩ = some sv := by rw [hBw.cell hb1]; exact hcl 2 _ rfl
                            have d3 : wr.cell? ⟨b1, o1 + j * 4 + 3, none⟩ = some su := by rw [hBw.cell hb1]; exact hcl 3 _ rfl
                            have hbr : b1 < wr.heap.size := by have := hBw.size; omega
                            have E := hide (each_step hr m)
                            have hlen : (each m (p.take j)).length = j := by simp [each]; omega
                            have f1 := (HFi.out r (List.mem_of_getElem? hr)).1
                            have hlk := hide (NumM.look (T := 72) ((HM8.out.below HB.out).later ((Later.refl wr).alloc (.cells #[.bool r.head.no, .string (bs r.head.name), sv, su] 57))) Tryz.underlying9 Tryz.underlying3 Tryz.underlying72 (zeroInt _) f1)
                            have hOA := Kind.own_turned HO.out ((Tn.refl w7.heap.size wr).alloc (.cells #[.bool r.head.no, .string (bs r.head.name), sv, su] 57)) hm8
                            obtain ⟨v', w4, hrun, o4, g4⟩ := appendIntC hOA (x := numOf m r.head.name) (by rw [hlen]; omega) (by simp; omega)
                            have HO4 : Hid (intK.own 3 w8.heap.size w4 v' (each m (p.take (j + 1)))) := by show intK.own _ _ _ _ _; rw [E.out]; exact o4
                            have HB4 : Hid (Below w8.heap.size w8 w4) := by
                              refine below_trans ((HB.out.alloc hwr _).alloc (by simp; omega) _) ⟨g4.os, g4.tape, g4.output, g4.size, fun k hk => g4.block k (by simp; omega) (fun e => ?_)⟩ (Nat.le_refl _)
                              have := (Kind.own_lt hOA e.symm).1
                              omega
                            rw [hlen] at hrun
                            simp only [World.size_alloc] at hrun
                            replace hrun := hide hrun
                            rw [hlen]
                            obtain ⟨a2, c2, rfl⟩ := Kind.slice hsv
                            obtain ⟨a3, c3, rfl⟩ := Kind.slice hsu
                            clear hcl hr hsv hsu hOA o4 g4 HO HB E f1 hBw
                            clear hlen
                            generalize numOf m r.head.name = nu at *
                            generalize bs r.head.name = nm at *
                            generalize r.head.no = no at *
                            go_wp2_with (first
                              | (at_lookup; refine wpList_run_lookup _ rfl _ _ _ _ rfl _ _ _ rfl rfl (unhide hlk) ?_)
                              | (at_builtin; refine wpList_append_run rfl (.tmp 208) (.tmp 214) 35 rfl _ _ _ _ rfl rfl (unhide hrun) ?_)
                              | go_in)
                            go_roundg (p.length - (j + 1))
                            case measure => omega
                            case rel => exact ⟨j + 1, by omega, by go_num, HO4, HB4⟩
                          · have e : j = p.length := by omega
                            subst e
                            have hO := HO.out
                            rw [List.take_length] at hO ⊢
                            have HU8 := hide (Kind.own_sl hO (by simp [each]; omega))
                            have HH9 := hide (HH8.out.below' HB.out)
                            have hR6 := HH9.out.row
                            have hw8 := HH8.out.lo
                            have q0 : wr.cell? ⟨w.heap.size, 0, none⟩ = some (.int .i64 0) := (by rw [cell_of_row _ _ _ _ _ _ hR6]; rfl); have q1 : wr.cell? ⟨w.heap.size, 1, none⟩ = some (.int .i64 0) := (by rw [cell_of_row _ _ _ _ _ _ hR6]; rfl); have p0 : wr.frozen? ⟨w.heap.size, 0, none⟩ = false := frozen_rowC 0 hR6; have p1 : wr.frozen? ⟨w.heap.size, 1, none⟩ = false := frozen_rowC 1 hR6
                            have F3 : Hid (strataP p = (each m p, 0, 0)) := F2.out
                            clear hR6 hO HO HB F2
                            generalize (each m p).length = ne at *
                            go_wp2
                            obtain ⟨r0, r1⟩ := fault_two HH9.out.row (.int .i64 0) (.int .i64 0)
                            refine bodyPost_ret (v := .tuple #[.slice ao2 ne co2, .agg #[.int .i64 0, .int .i64 0]]) (by simp [results, Tryz.results16, go_sem, r0, r1]) rfl ⟨.slice ao2 ne co2, by rw [F3.out]; rfl, ?_, ?_⟩
                            · rw [F3.out]
                              exact Kind.sl_mono (Kind.sl_setCell (Kind.sl_setCell HU8.out hw8 _) hw8 _) fun k _ hk => by have : w8.heap.size ≤ k := hk; show w.heap.size ≤ k; omega
                            · exact (HH9.out.below.setCell (Nat.le_refl _) _).setCell (Nat.le_refl _) _
  · have F : Hid (strataP p = ([], ex, ea)) := by show _ = _; unfold strataP; rw [hwp, if_neg h0]
    have hq : (ex != 0) = true := by simpa using h0
    clear h0 hwp HV
    go_enter Tryz.func16, Tryz.ntmps16
    go_wp2_with (go_at_call 35; refine HW.out.mono ?_; rintro e w2 ⟨rfl, hB2, hR2, hs2⟩; have q0 : w2.cell? ⟨w.heap.size, 0, none⟩ = some (.int .i64 0) := (by rw [cell_of_row _ _ _ _ _ _ hR2]; rfl); have q1 : w2.cell? ⟨w.heap.size, 1, none⟩ = some (.int .i64 0) := (by rw [cell_of_row _ _ _ _ _ _ hR2]; rfl); have p0 : w2.frozen? ⟨w.heap.size, 0, none⟩ = false := frozen_rowC 0 hR2; have p1 : w2.frozen? ⟨w.heap.size, 1, none⟩ = false := frozen_rowC 1 hR2; replace hR2 := hide hR2)
    go_region
    go_wp2
    obtain ⟨r0, r1⟩ := fault_two (unhide hR2) (.int .i64 ex) (.int .i64 (ea : Int))
    have hL := ((Later.refl ((w2.setCell ⟨w.heap.size, 0, none⟩ (.int .i64 ex)).setCell ⟨w.heap.size, 1, none⟩ (.int .i64 (ea : Int)))).alloc (.cells #[.int .i64 ex, .int .i64 (ea : Int)] 41)).drew
    rw [← hL.cell (p := ⟨w.heap.size, 0, none⟩) (by simp only [size_setCell]; exact hs2)] at r0
    rw [← hL.cell (p := ⟨w.heap.size, 1, none⟩) (by simp only [size_setCell]; exact hs2)] at r1
    refine bodyPost_ret (v := .tuple #[.slice none 0 0, .agg #[.int .i64 ex, .int .i64 (ea : Int)]]) (by simp [results, Tryz.results16, go_sem, r0, r1]) rfl ⟨.slice none 0 0, by rw [F.out], by rw [F.out]; exact intK.sl_nil _ _ _ _, ?_⟩
    exact below_trans ((hB2.out.setCell (Nat.le_refl _) _).setCell (Nat.le_refl _) _) hL.below (by simp only [size_setCell]; exact Nat.le_of_lt hs2)

end Go.Proofs.YtilkggldmgeagaaGreatDoor

/- The reference's Begin; facts lie apart from a run's box. -/
namespace Go.Proofs.YtilkggldmgeagaaGreatDoor
open Go.RowKit Go.Sort Go.Maps

def NoText (w : World) (b : Nat) : Prop := ∀ (off : Nat) (s : ByteArray), w.cell? ⟨b, off, none⟩ ≠ some (.string s)

theorem run_noText {w : World} {b n n' : Nat} {a a' : Option Addr} {c c' : Nat} {x y : Int} {d : Bool} {t : TypeId} {fr : Nat × Nat} (h : w.heap[b]? = some (.cells #[.slice a n c, .slice a' n' c', .int .i64 x, .int .i64 y, .bool d] t fr)) : NoText w b := fun off s e => by
  rw [cell_of_row _ _ _ _ _ _ h] at e
  rcases off with _ | _ | _ | _ | _ | off <;> simp at e

theorem facts_box {w w' : World} {b : Nat} (h : NoText w b) (hg : Tn b w w') {u : Value} {l : List FactD} (hf : Facts w u l) : Facts w' u l := by
  have key : ∀ {q off : Nat} {s : ByteArray}, w.cell? ⟨q, off, none⟩ = some (.string s) → w'.heap[q]? = w.heap[q]? := fun {q off s} hc =>
    hg.block q (World.block_lt_of_cell? w _ hc) (fun e => by subst e; exact h _ _ hc)
  have cell_of : ∀ {q off : Nat}, w'.heap[q]? = w.heap[q]? → w'.cell? ⟨q, off, none⟩ = w.cell? ⟨q, off, none⟩ := fun {q off} e => by
    unfold World.cell?; dsimp only; rw [e]
  have strs : ∀ {q : Value} {r : List ByteArray}, Strs w q r → Strs w' q r := fun {q r} hs => by
    obtain ⟨h0, a, cap, rfl, h1⟩ := hs
    refine ⟨h0, a, cap, rfl, fun hl => ?_⟩
    obtain ⟨b, off, rfl, hb, hc⟩ := h1 hl
    refine ⟨b, off, rfl, Nat.lt_of_lt_of_le hb hg.size, fun i hi => ?_⟩
    rw [cell_of (key (hc i hi))]; exact hc i hi
  obtain ⟨h0, a, cap, rfl, h1⟩ := hf
  refine ⟨h0, a, cap, rfl, fun hl => ?_⟩
  obtain ⟨b, off, rfl, hb, hc⟩ := h1 hl
  refine ⟨b, off, rfl, Nat.lt_of_lt_of_le hb hg.size, fun i hi => ?_⟩
  obtain ⟨c1, s, c2, c3⟩ := hc i hi
  exact ⟨by rw [cell_of (key c1)]; exact c1, s, by rw [cell_of (key c1)]; exact c2, strs c3⟩

def RefT (w : World) (v : Value) (er : Int) (x : Int × RunD) : Prop := er = x.1 ∧ RunV w v x.2

theorem RunV.none (w : World) : RunV w (.agg #[.slice none 0 0, .slice none 0 0, .int .i64 0, .int .i64 0, .bool false]) noRun := ⟨_, _, rfl, facts_nil w, facts_nil w⟩

set_option maxRecDepth 100000 in
set_option maxHeartbeats 4000000 in
theorem rBegin (p : List RuleD) (l : List FactB) (pv fv : Value) (w : World) (hv : ruleK.sl Anyw w pv p) (hf : Facts w fv l) (hlg : ∀ r ∈ p, longR r) (hok : ∀ k, okF (l.getD k noFact)) :
    Calls Tryz.prog 5 #[pv, fv] w fun e w' => ∃ v' er, e = .returned (.tuple #[v', .int .i64 er]) ∧ RefT w' v' er (beginP p l) ∧ Below w.heap.size w w' := by
  obtain ⟨pa, pc, rfl⟩ := Kind.slice hv
  obtain ⟨fa, fc, rfl⟩ := sliceFacts hf
  obtain ⟨wb, hwb⟩ : ∃ wb, wb = w.alloc (.cells #[.slice none 0 0, .slice none 0 0, .int .i64 0, .int .i64 0, .bool false] 26) := ⟨_, rfl⟩
  have hLb : Later w wb := by rw [hwb]; exact (Later.refl w).alloc _
  have hzb : wb.heap.size = w.heap.size + 1 := by rw [hwb]; simp
  have hrs : wb.heap[w.heap.size]? = some (.cells #[.slice none 0 0, .slice none 0 0, .int .i64 0, .int .i64 0, .bool false] 26 (0, 0)) := by rw [hwb]; exact heap_alloc_new w _
  have HSt := hide (rStrata p (.slice pa p.length pc) wb (Kind.sl_later hv hLb) hlg)
  have HV := hide hv
  have HF := hide hf
  have HOk := hide hok
  have HLb := hide hLb
  have HRs := hide hrs
  have HWb := hide hwb
  obtain ⟨ss, ex, ea, hse⟩ : ∃ ss ex ea, strataP p = (ss, ex, ea) := ⟨_, _, _, rfl⟩
  rw [hse] at HSt
  have HSE := hide hse
  clear hv hf hLb hrs hwb hse hok hlg
  go_enter Tryz.func5, Tryz.ntmps5
  go_wp2_with fail
  rw [← HWb.out]
  refine HSt.out.mono ?_
  rintro e w1 ⟨u, rfl, hu, hB1⟩
  dsimp only at hu ⊢
  have HU : Hid (intK.sl Anyw w1 u ss) := Kind.sl_any hu
  obtain ⟨ua, uc, rfl⟩ := Kind.slice hu
  have HB1 : Hid (Below w.heap.size w w1) := below_trans HLb.out.below hB1 HLb.out.size
  have hr1 : w1.heap[w.heap.size]? = some (.cells #[.slice none 0 0, .slice none 0 0, .int .i64 0, .int .i64 0, .bool false] 26 (0, 0)) := by rw [hB1.block _ (by omega)]; exact HRs.out
  have hz1 : w.heap.size + 1 ≤ w1.heap.size := by have := hB1.size; omega
  have HR1 := hide hr1
  clear hu hB1 HSt HWb HRs
  by_cases h0 : ex = 0
  · subst h0
    obtain ⟨hw0, m, hms, hdm, hlm, hsm⟩ := strataP_ok HSE.out
    have hp := rightP_iff.1 hw0
    have hsm1 : ∀ s ∈ ss, s < 1000 := fun s hs => by
      rw [hms] at hs
      obtain ⟨r, hr, rfl⟩ := List.mem_map.1 hs
      have := lev_small hlm hsm r hr
      have := hp.few
      omega
    obtain ⟨w2, hw2⟩ : ∃ w2, w2 = w1.alloc (.cells #[.int .i64 0, .int .i64 (ea : Nat)] 41) := ⟨_, rfl⟩
    have hL2 : Later w1 w2 := by rw [hw2]; exact (Later.refl _).alloc _
    have hB2 : Below w.heap.size w w2 := below_trans HB1.out hL2.below HB1.out.size
    have HFC := hide (rFacts p l (.slice pa p.length pc) (.slice fa l.length fc) w2 (Kind.sl_below HV.out hB2) (HF.out.below hB2) hp HOk.out)
    obtain ⟨fx, fe, hfe⟩ : ∃ fx fe, factsP p l = (fx, fe) := ⟨_, _, rfl⟩
    rw [hfe] at HFC
    have HX0 : Hid (beginP p l = if fx ≠ 0 then (fx, noRun) else (0, ⟨l, l, 0, 0, decide (countP ss = 0)⟩)) := by
      show _ = _
      have e : forE p l = fx := by unfold forE; rw [HSE.out, hfe]; simp
      unfold beginP runOf; rw [e, HSE.out]
    have HB2 := hide hB2
    have HU2 := hide (Kind.sl_later HU.out hL2)
    have HR2 : Hid (w2.heap[w.heap.size]? = some (.cells #[.slice none 0 0, .slice none 0 0, .int .i64 0, .int .i64 0, .bool false] 26 (0, 0))) := by show _ = _; rw [hL2.block (by omega)]; exact hr1
    have hz2 : w.heap.size + 1 ≤ w2.heap.size := by have := hL2.size; omega
    have HW2 := hide hw2
    have HSm := hide hsm1
    clear hw0 hms hdm hlm hsm hp hL2 hB2 hfe hw2 HB1 HU hr1 HR1 HSE hsm1
    go_wp2_with fail
    rw [← HW2.out]
    refine HFC.out.mono ?_
    rintro e w3 ⟨rfl, hB3⟩
    dsimp only
    have HB3 : Hid (Below w.heap.size w w3) := below_trans HB2.out hB3 HB2.out.size
    have HU3 := hide (Kind.sl_below HU2.out hB3)
    have hr3 : w3.heap[w.heap.size]? = some (.cells #[.slice none 0 0, .slice none 0 0, .int .i64 0, .int .i64 0, .bool false] 26 (0, 0)) := by rw [hB3.block _ (by omega)]; exact HR2.out
    have hz3 : w.heap.size + 1 ≤ w3.heap.size := by have := hB3.size; omega
    have HR3 := hide hr3
    clear hB3 HFC HW2 HB2 HU2 HR2
    by_cases h1 : fx = 0
    · subst h1
      have HX : Hid (beginP p l = (0, ⟨l, l, 0, 0, decide (countP ss = 0)⟩)) := by show _ = _; rw [HX0.out]; simp
      obtain ⟨w4, hw4⟩ : ∃ w4, w4 = w3.alloc (.cells #[.int .i64 0, .int .i64 fe] 41) := ⟨_, rfl⟩
      have hL4 : Later w3 w4 := by rw [hw4]; exact (Later.refl _).alloc _
      have HCn := hide (rCount ss (.slice ua ss.length uc) w4 (Kind.sl_later HU3.out hL4) HSm.out)
      have HB4 : Hid (Below w.heap.size w w4) := below_trans HB3.out hL4.below HB3.out.size
      have HR4 : Hid (w4.heap[w.heap.size]? = some (.cells #[.slice none 0 0, .slice none 0 0, .int .i64 0, .int .i64 0, .bool false] 26 (0, 0))) := by show _ = _; rw [hL4.block (by omega)]; exact hr3
      have HW4 := hide hw4
      have hcs : countP ss ≤ 1000 := countP_le HSm.out
      clear hw4 hL4 hr3 HR3 HB3 HU3 HX0
      go_wp2_with fail
      rw [← HW4.out]
      refine HCn.out.mono ?_
      rintro e w5 ⟨rfl, h5⟩
      obtain rfl : w4 = w5 := h5.symm
      clear h5 HCn HW4
      obtain ⟨q0, q1, q2, q3, q4, ⟨f0, f1, f2, f3, f4⟩, _⟩ := row5 HR4.out
      have HEq : Hid ((((countP ss : Nat) : Int) == 0) = decide (countP ss = 0)) := by
        show _ = _
        by_cases h : countP ss = 0
        · simp [h]
        · simp [h]
      have HF4 := hide (HF.out.below HB4.out)
      have HNt := hide (run_noText HR4.out)
      generalize countP ss = cc at *
      go_wp2
      obtain ⟨r0, r1, r2, r3, r4⟩ := set5 HR4.out (.slice fa l.length fc) (.slice fa l.length fc) (.int .i64 0) (.int .i64 0) (.bool ((cc : Int) == 0))
      have hFp := facts_box HNt.out (put5_tn w4 w.heap.size (.slice fa l.length fc) (.slice fa l.length fc) (.int .i64 0) (.int .i64 0) (.bool ((cc : Int) == 0))) HF4.out
      exact bodyPost_ret (v := .tuple #[.agg #[.slice fa l.length fc, .slice fa l.length fc, .int .i64 0, .int .i64 0, .bool ((cc : Int) == 0)], .int .i64 0]) (by simp [results, Tryz.results5, go_sem, r0, r1, r2, r3, r4]) rfl
        ⟨_, 0, rfl, by rw [HX.out]; exact ⟨rfl, _, _, by rw [HEq.out], hFp, hFp⟩, Below.put5 HB4.out (Nat.le_refl _)⟩
    · have HX : Hid (beginP p l = (fx, noRun)) := by show _ = _; rw [HX0.out, if_pos h1]
      have hne : (fx != 0) = true := by simpa using h1
      obtain ⟨q0, q1, q2, q3, q4, ⟨f0, f1, f2, f3, f4⟩, _⟩ := row5 hr3
      clear h1 hr3 HX0 HU3
      go_wp2
      go_region
      go_wp2
      have hzp : (put5 w3 w.heap.size (.slice none 0 0) (.slice none 0 0) (.int .i64 0) (.int .i64 0) (.bool false)).heap.size = w3.heap.size := by unfold put5; simp only [size_setCell]
      have hrow : ((put5 w3 w.heap.size (.slice none 0 0) (.slice none 0 0) (.int .i64 0) (.int .i64 0) (.bool false)).alloc (.cells #[.int .i64 fx, .int .i64 fe] 41)).heap[w.heap.size]? = some (.cells #[.slice none 0 0, .slice none 0 0, .int .i64 0, .int .i64 0, .bool false] 26 (0, 0)) := by rw [Below.heap_alloc _ _ _ (by omega)]; exact set_five HR3.out _ _ _ _ _
      obtain ⟨r0, r1, r2, r3, r4, _, _⟩ := row5 hrow
      have HBx : Hid (Below w.heap.size w ((put5 w3 w.heap.size (.slice none 0 0) (.slice none 0 0) (.int .i64 0) (.int .i64 0) (.bool false)).alloc (.cells #[.int .i64 fx, .int .i64 fe] 41))) := below_trans (Below.put5 HB3.out (Nat.le_refl _)) ((Later.refl _).alloc _).below (by rw [hzp]; omega)
      unfold put5 at r0 r1 r2 r3 r4
      refine bodyPost_ret (v := .tuple #[.agg #[.slice none 0 0, .slice none 0 0, .int .i64 0, .int .i64 0, .bool false], .int .i64 fx]) (by simp [results, Tryz.results5, go_sem, r0, r1, r2, r3, r4]) rfl ⟨_, fx, rfl, by rw [HX.out]; exact ⟨rfl, RunV.none _⟩, ?_⟩
      exact HBx.out.drew
  · have HX : Hid (beginP p l = (ex, noRun)) := by
      show _ = _
      have e : forE p l = ex := by unfold forE; rw [HSE.out]; simp [h0]
      unfold beginP; rw [e, if_pos h0]
    have hne : (ex != 0) = true := by simpa using h0
    obtain ⟨q0, q1, q2, q3, q4, ⟨f0, f1, f2, f3, f4⟩, _⟩ := row5 hr1
    clear h0 hr1 HSE
    go_wp2
    go_region
    go_wp2
    have hzp : (put5 w1 w.heap.size (.slice none 0 0) (.slice none 0 0) (.int .i64 0) (.int .i64 0) (.bool false)).heap.size = w1.heap.size := by unfold put5; simp only [size_setCell]
    have hrow : ((put5 w1 w.heap.size (.slice none 0 0) (.slice none 0 0) (.int .i64 0) (.int .i64 0) (.bool false)).alloc (.cells #[.int .i64 ex, .int .i64 (ea : Nat)] 41)).heap[w.heap.size]? = some (.cells #[.slice none 0 0, .slice none 0 0, .int .i64 0, .int .i64 0, .bool false] 26 (0, 0)) := by rw [Below.heap_alloc _ _ _ (by omega)]; exact set_five HR1.out _ _ _ _ _
    obtain ⟨r0, r1, r2, r3, r4, _, _⟩ := row5 hrow
    have HBx : Hid (Below w.heap.size w ((put5 w1 w.heap.size (.slice none 0 0) (.slice none 0 0) (.int .i64 0) (.int .i64 0) (.bool false)).alloc (.cells #[.int .i64 ex, .int .i64 (ea : Nat)] 41))) := below_trans (Below.put5 HB1.out (Nat.le_refl _)) ((Later.refl _).alloc _).below (by rw [hzp]; omega)
    unfold put5 at r0 r1 r2 r3 r4
    refine bodyPost_ret (v := .tuple #[.agg #[.slice none 0 0, .slice none 0 0, .int .i64 0, .int .i64 0, .bool false], .int .i64 ex]) (by simp [results, Tryz.results5, go_sem, r0, r1, r2, r3, r4]) rfl ⟨_, ex, rfl, by rw [HX.out]; exact ⟨rfl, RunV.none _⟩, ?_⟩
    exact HBx.out.drew

end Go.Proofs.YtilkggldmgeagaaGreatDoor

/- The reference's WrongRun (written by mksb.py). -/
namespace Go.Proofs.YtilkggldmgeagaaGreatDoor
open Go.RowKit Go.Sort Go.Maps

set_option maxRecDepth 100000 in
set_option maxHeartbeats 8000000 in
theorem rWrongRun (p : List RuleD) (r : RunD) (pv kv nv : Value) (w : World) (hv : ruleK.sl Anyw w pv p) (hk : Facts w kv r.known) (hn : Facts w nv r.fresh) (hlg : ∀ r ∈ p, longR r) (hok : ∀ k, okF (r.known.getD k noFact)) (hon : ∀ k, okF (r.fresh.getD k noFact)) :
    Calls Tryz.prog 8 #[pv, .agg #[kv, nv, .int .i64 r.level, .int .i64 r.rounds, .bool r.done]] w fun e w' => e = .returned (.int .i64 (wrongRunP p r)) ∧ Below w.heap.size w w' := by
  obtain ⟨K, N, lev, rn, dn⟩ := r
  dsimp only at *
  obtain ⟨pa, pc, rfl⟩ := Kind.slice hv
  obtain ⟨ka, kc, rfl⟩ := sliceFacts hk
  obtain ⟨na, nc, rfl⟩ := sliceFacts hn
  obtain ⟨wb, hwb⟩ : ∃ wb, wb = w.alloc (.cells #[.slice ka K.length kc, .slice na N.length nc, .int .i64 lev, .int .i64 rn, .bool dn] 26) := ⟨_, rfl⟩
  have hLb : Later w wb := by rw [hwb]; exact (Later.refl w).alloc _
  have hzb : wb.heap.size = w.heap.size + 1 := by rw [hwb]; simp
  have hrb : wb.heap[w.heap.size]? = some (.cells #[.slice ka K.length kc, .slice na N.length nc, .int .i64 lev, .int .i64 rn, .bool dn] 26 (0, 0)) := by rw [hwb]; exact heap_alloc_new w _
  have HRow : Hid (∀ w', Below wb.heap.size wb w' → w'.heap[w.heap.size]? = some (.cells #[.slice ka K.length kc, .slice na N.length nc, .int .i64 lev, .int .i64 rn, .bool dn] 26 (0, 0))) := fun w' h => (h.block _ (by omega)).trans hrb
  have HSt := hide (rStrata p (.slice pa p.length pc) wb (Kind.sl_later hv hLb) hlg)
  have HV := hide (Kind.sl_later hv hLb)
  have HK := hide (hk.later hLb)
  have HN := hide (hn.later hLb)
  have HOk := hide hok
  have HOn := hide hon
  have HLb := hide hLb
  have HWb := hide hwb
  obtain ⟨ss, ex, ea, hse⟩ : ∃ ss ex ea, strataP p = (ss, ex, ea) := ⟨_, _, _, rfl⟩
  rw [hse] at HSt
  have HSE := hide hse
  have HX : Hid (wrongRunP p ⟨K, N, lev, rn, dn⟩ = if forE p K ≠ 0 then forE p K else if (setFault N).1 ≠ 0 then (setFault N).1 else if okN (countP (strataP p).1) ⟨K, N, lev, rn, dn⟩ = false then 3 else if (N.filter fun f => !inB K f) ≠ [] then 8 else 0) := (rfl : _ = _)
  clear hv hk hn hLb hrb hwb hse hok hon hlg
  generalize wrongRunP p ⟨K, N, lev, rn, dn⟩ = R at *
  go_enter Tryz.func8, Tryz.ntmps8
  go_wp2_with fail
  rw [← HWb.out]
  refine HSt.out.mono ?_
  rintro e w1 ⟨u, rfl, hu, hB1⟩
  dsimp only at hu ⊢
  have HU : Hid (intK.sl Anyw w1 u ss) := Kind.sl_any hu
  obtain ⟨ua, uc, rfl⟩ := Kind.slice hu
  have HB1 := hide hB1
  clear hu hB1 HSt HWb
  by_cases h0 : ex = 0
  · subst h0
    obtain ⟨hw0, m, hms, hdm, hlm, hsm⟩ := strataP_ok HSE.out
    have hp := rightP_iff.1 hw0
    have hsm1 : ∀ s ∈ ss, s < 1000 := fun s hs => by
      rw [hms] at hs
      obtain ⟨r, hr, rfl⟩ := List.mem_map.1 hs
      have := lev_small hlm hsm r hr
      have := hp.few
      omega
    obtain ⟨w2, hw2⟩ : ∃ w2, w2 = w1.alloc (.cells #[.int .i64 0, .int .i64 (ea : Nat)] 41) := ⟨_, rfl⟩
    have hL2 : Later w1 w2 := by rw [hw2]; exact (Later.refl _).alloc _
    have hB2 : Below wb.heap.size wb w2 := below_trans HB1.out hL2.below HB1.out.size
    have HFC := hide (rFacts p K (.slice pa p.length pc) (.slice ka K.length kc) w2 (Kind.sl_below HV.out hB2) (HK.out.below hB2) hp HOk.out)
    obtain ⟨fx, fe, hfe⟩ : ∃ fx fe, factsP p K = (fx, fe) := ⟨_, _, rfl⟩
    rw [hfe] at HFC
    have HX0 : Hid (R = if fx ≠ 0 then fx else if (setFault N).1 ≠ 0 then (setFault N).1 else if okN (countP ss) ⟨K, N, lev, rn, dn⟩ = false then 3 else if (N.filter fun f => !inB K f) ≠ [] then 8 else 0) := by
      show _ = _
      have e : forE p K = fx := by unfold forE; rw [HSE.out, hfe]; simp
      rw [HX.out, e, HSE.out]
    have HB2 := hide hB2
    have HU2 := hide (Kind.sl_later HU.out hL2)
    have HW2 := hide hw2
    have HSm := hide hsm1
    obtain ⟨b0, b1, b2, b3, b4, _, _⟩ := row5 (HRow.out _ hB2)
    rw [hw2] at b0 b1 b2 b3 b4
    clear hw0 hms hdm hlm hsm hp hL2 hB2 hfe hw2 HB1 HU HSE hsm1 HX
    go_wp2_with fail
    rw [← HW2.out]
    refine HFC.out.mono ?_
    rintro e w3 ⟨rfl, hB3⟩
    dsimp only
    clear b0 b1 b2 b3 b4
    obtain ⟨w4, hw4⟩ : ∃ w4, w4 = w3.alloc (.cells #[.int .i64 fx, .int .i64 fe] 41) := ⟨_, rfl⟩
    have hL4 : Later w3 w4 := by rw [hw4]; exact (Later.refl _).alloc _
    have hB4 : Below wb.heap.size wb w4 := below_trans (below_trans HB2.out hB3 HB2.out.size) hL4.below (Nat.le_trans HB2.out.size hB3.size)
    have HB4 := hide hB4
    have HU4 := hide (Kind.sl_later (Kind.sl_below HU2.out hB3) hL4)
    have HBw4 : Hid (Below w.heap.size w w4) := below_trans HLb.out.below hB4 (by omega)
    clear HFC HW2 HB2 HU2
    by_cases h1 : fx = 0
    · subst h1
      have HX1 : Hid (R = if (setFault N).1 ≠ 0 then (setFault N).1 else if okN (countP ss) ⟨K, N, lev, rn, dn⟩ = false then 3 else if (N.filter fun f => !inB K f) ≠ [] then 8 else 0) := by show _ = _; rw [HX0.out]; simp
      have HSet := hide (rSetC (.slice na N.length nc) N w4 (HN.out.below hB4) HOn.out)
      obtain ⟨sx, sy, hse⟩ : ∃ sx sy, setFault N = (sx, sy) := ⟨_, _, rfl⟩
      rw [hse] at HSet HX1
      obtain ⟨b0, b1, b2, b3, b4, _, _⟩ := row5 (HRow.out _ hB4)
      rw [hw4] at b0 b1 b2 b3 b4
      have HW4 := hide hw4
      clear hse HX0 hL4 hB3 hB4 hw4
      go_wp2_with fail
      rw [← HW4.out]
      refine HSet.out.mono ?_
      rintro e w5 ⟨rfl, hL5⟩
      dsimp only at HX1 ⊢
      clear b0 b1 b2 b3 b4 HSet HW4
      obtain ⟨w6, hw6⟩ : ∃ w6, w6 = w5.alloc (.cells #[.int .i64 sx, .int .i64 sy] 41) := ⟨_, rfl⟩
      have hL6 : Later w5 w6 := by rw [hw6]; exact (Later.refl _).alloc _
      have hB6 : Below wb.heap.size wb w6 := below_trans (below_trans HB4.out hL5.below HB4.out.size) hL6.below (Nat.le_trans HB4.out.size hL5.size)
      have HU6 := hide (Kind.sl_later (Kind.sl_later HU4.out hL5) hL6)
      have HBw6 : Hid (Below w.heap.size w w6) := below_trans HLb.out.below hB6 (by omega)
      by_cases h2 : sx = 0
      · subst h2
        have hX2 : R = if okN (countP ss) ⟨K, N, lev, rn, dn⟩ = false then 3 else if (N.filter fun f => !inB K f) ≠ [] then 8 else 0 := by rw [HX1.out]; simp
        unfold okN at hX2
        dsimp only at hX2
        have HX2 := hide hX2
        have HS : Hid (∀ w', Below w6.heap.size w6 w' → w'.cell? ⟨w.heap.size, 0, none⟩ = some (.slice ka K.length kc) ∧ w'.cell? ⟨w.heap.size, 1, none⟩ = some (.slice na N.length nc) ∧ w'.cell? ⟨w.heap.size, 2, none⟩ = some (.int .i64 lev) ∧ w'.cell? ⟨w.heap.size, 3, none⟩ = some (.int .i64 rn) ∧ w'.cell? ⟨w.heap.size, 4, none⟩ = some (.bool dn)) := fun w' h => by
          obtain ⟨a0, a1, a2, a3, a4, _, _⟩ := row5 (HRow.out _ (below_trans hB6 h hB6.size))
          exact ⟨a0, a1, a2, a3, a4⟩
        have HCn : Hid (∀ w', Below w6.heap.size w6 w' → Calls Tryz.prog 18 #[.slice ua ss.length uc] w' fun e w'' => e = .returned (.int .i64 (countP ss : Nat)) ∧ Below w6.heap.size w6 w'') := fun w' h =>
          (rCount ss (.slice ua ss.length uc) w' (Kind.sl_below HU6.out h) HSm.out).mono fun e w'' ⟨he, hw⟩ => ⟨he, by rw [hw]; exact h⟩
        have HK6 := hide (HK.out.below hB6)
        have HN6 := hide (HN.out.below hB6)
        have HW6 := hide hw6
        have hcs : countP ss ≤ 1000 := countP_le HSm.out
        clear hX2 HX1 hL5 hL6 hB6 hw6 HB4 HU4 HBw4 HRow HV HK HN HOk HOn HLb HSm
        by_cases c1 : rn < 0
        · have d1 : decide (rn < 0) = true := by simpa using c1
          have HX3 : Hid (R = 3) := by show _ = _; rw [HX2.out, if_pos (by simp; omega)]
          clear HX2
          go_wp2
          rw [← HW6.out]
          clear HW6
          refine wp_region_held_drew (S := fun w' => Below w6.heap.size w6 w') (by kernel_rfl) (Below.refl _ _).drew (fun hHeld => ?_)
          refine take_yes (i := 0) (d := some 38) (v := ?_) rfl rfl hHeld ?_ ?_; rotate_left; focus intro w hSw; (try dsimp only at hSw);  go_simp; try with_reducible rfl
          simp only [aput, aset, aze, asu]
          refine take_yes (i := 1) (d := some 39) (v := ?_) rfl rfl hHeld ?_ ?_; rotate_left; focus intro w hSw; (try dsimp only at hSw); obtain ⟨p0, p1, p2, p3, p4⟩ := HS.out _ hSw; go_simp; try with_reducible rfl
          simp only [aput, aset, aze, asu]
          refine take_yes (i := 2) (d := some 40) (v := ?_) rfl rfl hHeld ?_ ?_; rotate_left; focus intro w hSw; (try dsimp only at hSw);  go_simp; try with_reducible rfl
          simp only [aput, aset, aze, asu]
          refine take_yes (i := 3) (d := some 41) (v := ?_) rfl rfl hHeld ?_ ?_; rotate_left; focus intro w hSw; (try dsimp only at hSw);  go_simp; try with_reducible rfl
          simp only [aput, aset, aze, asu]
          refine take_no (i := 4) (d := some 42) rfl rfl hHeld ?_; simp only [aput, aset, aze, asu]
          refine take_no (i := 5) (d := some 43) rfl rfl hHeld ?_; simp only [aput, aset, aze, asu]
          refine take_no (i := 6) (d := some 44) rfl rfl hHeld ?_; simp only [aput, aset, aze, asu]
          refine take_yes (i := 7) (d := some 45) (v := ?_) rfl rfl hHeld ?_ ?_; rotate_left; focus intro w hSw; (try dsimp only at hSw);  go_simp; try with_reducible rfl
          simp only [aput, aset, aze, asu]
          refine take_yes (i := 8) (d := some 46) (v := ?_) rfl rfl hHeld ?_ ?_; rotate_left; focus intro w hSw; (try dsimp only at hSw);  go_simp; try with_reducible rfl
          simp only [aput, aset, aze, asu]
          refine take_no (i := 9) (d := some 47) rfl rfl hHeld ?_; simp only [aput, aset, aze, asu]
          refine take_no (i := 10) (d := some 48) rfl rfl hHeld ?_; simp only [aput, aset, aze, asu]
          refine take_no (i := 11) (d := some 49) rfl rfl hHeld ?_; simp only [aput, aset, aze, asu]
          refine take_yes (i := 12) (d := some 50) (v := ?_) rfl rfl hHeld ?_ ?_; rotate_left; focus intro w hSw; (try dsimp only at hSw);  go_simp; try with_reducible rfl
          simp only [aput, aset, aze, asu]
          refine take_yes (i := 13) (d := some 51) (v := ?_) rfl rfl hHeld ?_ ?_; rotate_left; focus intro w hSw; (try dsimp only at hSw);  go_simp; try with_reducible rfl
          simp only [aput, aset, aze, asu]
          refine take_no (i := 14) (d := some 52) rfl rfl hHeld ?_; simp only [aput, aset, aze, asu]
          refine take_no (i := 15) (d := some 53) rfl rfl hHeld ?_; simp only [aput, aset, aze, asu]
          refine take_no (i := 16) (d := some 54) rfl rfl hHeld ?_; simp only [aput, aset, aze, asu]
          refine take_no (i := 17) (d := some 55) rfl rfl hHeld ?_; simp only [aput, aset, aze, asu]
          refine take_no (i := 18) (d := some 56) rfl rfl hHeld ?_; simp only [aput, aset, aze, asu]
          refine take_yes (i := 19) (d := some 57) (v := ?_) rfl rfl hHeld ?_ ?_; rotate_left; focus intro w hSw; (try dsimp only at hSw);  go_simp; try with_reducible rfl
          simp only [aput, aset, aze, asu]
          refine take_yes (i := 20) (d := some 58) (v := ?_) rfl rfl hHeld ?_ ?_; rotate_left; focus intro w hSw; (try dsimp only at hSw);  go_simp; try with_reducible rfl
          simp only [aput, aset, aze, asu]
          refine take_no (i := 21) (d := some 59) rfl rfl hHeld ?_; simp only [aput, aset, aze, asu]
          refine take_no (i := 22) (d := some 60) rfl rfl hHeld ?_; simp only [aput, aset, aze, asu]
          refine take_no (i := 23) (d := some 61) rfl rfl hHeld ?_; simp only [aput, aset, aze, asu]
          refine take_no (i := 24) (d := some 62) rfl rfl hHeld ?_; simp only [aput, aset, aze, asu]
          refine take_no (i := 25) (d := some 63) rfl rfl hHeld ?_; simp only [aput, aset, aze, asu]
          refine take_no (i := 26) (d := some 64) rfl rfl hHeld ?_; simp only [aput, aset, aze, asu]
          refine take_no (i := 27) (d := some 65) rfl rfl hHeld ?_; simp only [aput, aset, aze, asu]
          refine take_no (i := 28) (d := some 66) rfl rfl hHeld ?_; simp only [aput, aset, aze, asu]
          refine take_yes (i := 29) (d := some 67) (v := ?_) rfl rfl hHeld ?_ ?_; rotate_left; focus intro w hSw; (try dsimp only at hSw);  go_simp; try with_reducible rfl
          simp only [aput, aset, aze, asu]
          refine wpAnyH_done (by kernel_rfl) ?_ _
          have HBx : Hid (Below w.heap.size w _) := below_trans HBw6.out hHeld HBw6.out.size
          clear hHeld
          go_wp2
          go_ret
          exact ⟨by rw [HX3.out]; rfl, HBx.out⟩
        · have d1 : decide (rn < 0) = false := by simpa using c1
          by_cases c2 : 1000 < rn
          · have d2 : decide (1000 < rn) = true := by simpa using c2
            have HX3 : Hid (R = 3) := by show _ = _; rw [HX2.out, if_pos (by simp; omega)]
            clear HX2
            go_wp2
            rw [← HW6.out]
            clear HW6
            refine wp_region_held_drew (S := fun w' => Below w6.heap.size w6 w') (by kernel_rfl) (Below.refl _ _).drew (fun hHeld => ?_)
            refine take_yes (i := 0) (d := some 38) (v := ?_) rfl rfl hHeld ?_ ?_; rotate_left; focus intro w hSw; (try dsimp only at hSw);  go_simp; try with_reducible rfl
            simp only [aput, aset, aze, asu]
            refine take_yes (i := 1) (d := some 39) (v := ?_) rfl rfl hHeld ?_ ?_; rotate_left; focus intro w hSw; (try dsimp only at hSw); obtain ⟨p0, p1, p2, p3, p4⟩ := HS.out _ hSw; go_simp; try with_reducible rfl
            simp only [aput, aset, aze, asu]
            refine take_yes (i := 2) (d := some 40) (v := ?_) rfl rfl hHeld ?_ ?_; rotate_left; focus intro w hSw; (try dsimp only at hSw);  go_simp; try with_reducible rfl
            simp only [aput, aset, aze, asu]
            refine take_yes (i := 3) (d := some 41) (v := ?_) rfl rfl hHeld ?_ ?_; rotate_left; focus intro w hSw; (try dsimp only at hSw);  go_simp; try with_reducible rfl
            simp only [aput, aset, aze, asu]
            refine take_yes (i := 4) (d := some 42) (v := ?_) rfl rfl hHeld ?_ ?_; rotate_left; focus intro w hSw; (try dsimp only at hSw);  go_simp; try with_reducible rfl
            simp only [aput, aset, aze, asu]
            refine take_yes (i := 5) (d := some 43) (v := ?_) rfl rfl hHeld ?_ ?_; rotate_left; focus intro w hSw; (try dsimp only at hSw); obtain ⟨p0, p1, p2, p3, p4⟩ := HS.out _ hSw; go_simp; try with_reducible rfl
            simp only [aput, aset, aze, asu]
            refine take_yes (i := 6) (d := some 44) (v := ?_) rfl rfl hHeld ?_ ?_; rotate_left; focus intro w hSw; (try dsimp only at hSw);  go_simp; try with_reducible rfl
            simp only [aput, aset, aze, asu]
            refine take_yes (i := 7) (d := some 45) (v := ?_) rfl rfl hHeld ?_ ?_; rotate_left; focus intro w hSw; (try dsimp only at hSw);  go_simp; try with_reducible rfl
            simp only [aput, aset, aze, asu]
            refine take_yes (i := 8) (d := some 46) (v := ?_) rfl rfl hHeld ?_ ?_; rotate_left; focus intro w hSw; (try dsimp only at hSw);  go_simp; try with_reducible rfl
            simp only [aput, aset, aze, asu]
            refine take_no (i := 9) (d := some 47) rfl rfl hHeld ?_; simp only [aput, aset, aze, asu]
            refine take_no (i := 10) (d := some 48) rfl rfl hHeld ?_; simp only [aput, aset, aze, asu]
            refine take_no (i := 11) (d := some 49) rfl rfl hHeld ?_; simp only [aput, aset, aze, asu]
            refine take_yes (i := 12) (d := some 50) (v := ?_) rfl rfl hHeld ?_ ?_; rotate_left; focus intro w hSw; (try dsimp only at hSw);  go_simp; try with_reducible rfl
            simp only [aput, aset, aze, asu]
            refine take_yes (i := 13) (d := some 51) (v := ?_) rfl rfl hHeld ?_ ?_; rotate_left; focus intro w hSw; (try dsimp only at hSw);  go_simp; try with_reducible rfl
            simp only [aput, aset, aze, asu]
            refine take_no (i := 14) (d := some 52) rfl rfl hHeld ?_; simp only [aput, aset, aze, asu]
            refine take_no (i := 15) (d := some 53) rfl rfl hHeld ?_; simp only [aput, aset, aze, asu]
            refine take_no (i := 16) (d := some 54) rfl rfl hHeld ?_; simp only [aput, aset, aze, asu]
            refine take_no (i := 17) (d := some 55) rfl rfl hHeld ?_; simp only [aput, aset, aze, asu]
            refine take_no (i := 18) (d := some 56) rfl rfl hHeld ?_; simp only [aput, aset, aze, asu]
            refine take_yes (i := 19) (d := some 57) (v := ?_) rfl rfl hHeld ?_ ?_; rotate_left; focus intro w hSw; (try dsimp only at hSw);  go_simp; try with_reducible rfl
            simp only [aput, aset, aze, asu]
            refine take_yes (i := 20) (d := some 58) (v := ?_) rfl rfl hHeld ?_ ?_; rotate_left; focus intro w hSw; (try dsimp only at hSw);  go_simp; try with_reducible rfl
            simp only [aput, aset, aze, asu]
            refine take_no (i := 21) (d := some 59) rfl rfl hHeld ?_; simp only [aput, aset, aze, asu]
            refine take_no (i := 22) (d := some 60) rfl rfl hHeld ?_; simp only [aput, aset, aze, asu]
            refine take_no (i := 23) (d := some 61) rfl rfl hHeld ?_; simp only [aput, aset, aze, asu]
            refine take_no (i := 24) (d := some 62) rfl rfl hHeld ?_; simp only [aput, aset, aze, asu]
            refine take_no (i := 25) (d := some 63) rfl rfl hHeld ?_; simp only [aput, aset, aze, asu]
            refine take_no (i := 26) (d := some 64) rfl rfl hHeld ?_; simp only [aput, aset, aze, asu]
            refine take_no (i := 27) (d := some 65) rfl rfl hHeld ?_; simp only [aput, aset, aze, asu]
            refine take_no (i := 28) (d := some 66) rfl rfl hHeld ?_; simp only [aput, aset, aze, asu]
            refine take_yes (i := 29) (d := some 67) (v := ?_) rfl rfl hHeld ?_ ?_; rotate_left; focus intro w hSw; (try dsimp only at hSw);  go_simp; try with_reducible rfl
            simp only [aput, aset, aze, asu]
            refine wpAnyH_done (by kernel_rfl) ?_ _
            have HBx : Hid (Below w.heap.size w _) := below_trans HBw6.out hHeld HBw6.out.size
            clear hHeld
            go_wp2
            go_ret
            exact ⟨by rw [HX3.out]; rfl, HBx.out⟩
          · have d2 : decide (1000 < rn) = false := by simpa using c2
            by_cases c3 : lev < 0
            · have d3 : decide (lev < 0) = true := by simpa using c3
              have HX3 : Hid (R = 3) := by show _ = _; rw [HX2.out, if_pos (by simp; omega)]
              clear HX2
              go_wp2
              rw [← HW6.out]
              clear HW6
              refine wp_region_held_drew (S := fun w' => Below w6.heap.size w6 w') (by kernel_rfl) (Below.refl _ _).drew (fun hHeld => ?_)
              refine take_yes (i := 0) (d := some 38) (v := ?_) rfl rfl hHeld ?_ ?_; rotate_left; focus intro w hSw; (try dsimp only at hSw);  go_simp; try with_reducible rfl
              simp only [aput, aset, aze, asu]
              refine take_yes (i := 1) (d := some 39) (v := ?_) rfl rfl hHeld ?_ ?_; rotate_left; focus intro w hSw; (try dsimp only at hSw); obtain ⟨p0, p1, p2, p3, p4⟩ := HS.out _ hSw; go_simp; try with_reducible rfl
              simp only [aput, aset, aze, asu]
              refine take_yes (i := 2) (d := some 40) (v := ?_) rfl rfl hHeld ?_ ?_; rotate_left; focus intro w hSw; (try dsimp only at hSw);  go_simp; try with_reducible rfl
              simp only [aput, aset, aze, asu]
              refine take_yes (i := 3) (d := some 41) (v := ?_) rfl rfl hHeld ?_ ?_; rotate_left; focus intro w hSw; (try dsimp only at hSw);  go_simp; try with_reducible rfl
              simp only [aput, aset, aze, asu]
              refine take_yes (i := 4) (d := some 42) (v := ?_) rfl rfl hHeld ?_ ?_; rotate_left; focus intro w hSw; (try dsimp only at hSw);  go_simp; try with_reducible rfl
              simp only [aput, aset, aze, asu]
              refine take_yes (i := 5) (d := some 43) (v := ?_) rfl rfl hHeld ?_ ?_; rotate_left; focus intro w hSw; (try dsimp only at hSw); obtain ⟨p0, p1, p2, p3, p4⟩ := HS.out _ hSw; go_simp; try with_reducible rfl
              simp only [aput, aset, aze, asu]
              refine take_yes (i := 6) (d := some 44) (v := ?_) rfl rfl hHeld ?_ ?_; rotate_left; focus intro w hSw; (try dsimp only at hSw);  go_simp; try with_reducible rfl
              simp only [aput, aset, aze, asu]
              refine take_yes (i := 7) (d := some 45) (v := ?_) rfl rfl hHeld ?_ ?_; rotate_left; focus intro w hSw; (try dsimp only at hSw);  go_simp; try with_reducible rfl
              simp only [aput, aset, aze, asu]
              refine take_yes (i := 8) (d := some 46) (v := ?_) rfl rfl hHeld ?_ ?_; rotate_left; focus intro w hSw; (try dsimp only at hSw);  go_simp; try with_reducible rfl
              simp only [aput, aset, aze, asu]
              refine take_yes (i := 9) (d := some 47) (v := ?_) rfl rfl hHeld ?_ ?_; rotate_left; focus intro w hSw; (try dsimp only at hSw);  go_simp; try with_reducible rfl
              simp only [aput, aset, aze, asu]
              refine take_yes (i := 10) (d := some 48) (v := ?_) rfl rfl hHeld ?_ ?_; rotate_left; focus intro w hSw; (try dsimp only at hSw); obtain ⟨p0, p1, p2, p3, p4⟩ := HS.out _ hSw; go_simp; try with_reducible rfl
              simp only [aput, aset, aze, asu]
              refine take_yes (i := 11) (d := some 49) (v := ?_) rfl rfl hHeld ?_ ?_; rotate_left; focus intro w hSw; (try dsimp only at hSw);  go_simp; try with_reducible rfl
              simp only [aput, aset, aze, asu]
              refine take_yes (i := 12) (d := some 50) (v := ?_) rfl rfl hHeld ?_ ?_; rotate_left; focus intro w hSw; (try dsimp only at hSw);  go_simp; try with_reducible rfl
              simp only [aput, aset, aze, asu]
              refine take_yes (i := 13) (d := some 51) (v := ?_) rfl rfl hHeld ?_ ?_; rotate_left; focus intro w hSw; (try dsimp only at hSw);  go_simp; try with_reducible rfl
              simp only [aput, aset, aze, asu]
              refine take_no (i := 14) (d := some 52) rfl rfl hHeld ?_; simp only [aput, aset, aze, asu]
              refine take_no (i := 15) (d := some 53) rfl rfl hHeld ?_; simp only [aput, aset, aze, asu]
              refine take_no (i := 16) (d := some 54) rfl rfl hHeld ?_; simp only [aput, aset, aze, asu]
              refine take_no (i := 17) (d := some 55) rfl rfl hHeld ?_; simp only [aput, aset, aze, asu]
              refine take_no (i := 18) (d := some 56) rfl rfl hHeld ?_; simp only [aput, aset, aze, asu]
              refine take_yes (i := 19) (d := some 57) (v := ?_) rfl rfl hHeld ?_ ?_; rotate_left; focus intro w hSw; (try dsimp only at hSw);  go_simp; try with_reducible rfl
              simp only [aput, aset, aze, asu]
              refine take_yes (i := 20) (d := some 58) (v := ?_) rfl rfl hHeld ?_ ?_; rotate_left; focus intro w hSw; (try dsimp only at hSw);  go_simp; try with_reducible rfl
              simp only [aput, aset, aze, asu]
              refine take_no (i := 21) (d := some 59) rfl rfl hHeld ?_; simp only [aput, aset, aze, asu]
              refine take_no (i := 22) (d := some 60) rfl rfl hHeld ?_; simp only [aput, aset, aze, asu]
              refine take_no (i := 23) (d := some 61) rfl rfl hHeld ?_; simp only [aput, aset, aze, asu]
              refine take_no (i := 24) (d := some 62) rfl rfl hHeld ?_; simp only [aput, aset, aze, asu]
              refine take_no (i := 25) (d := some 63) rfl rfl hHeld ?_; simp only [aput, aset, aze, asu]
              refine take_no (i := 26) (d := some 64) rfl rfl hHeld ?_; simp only [aput, aset, aze, asu]
              refine take_no (i := 27) (d := some 65) rfl rfl hHeld ?_; simp only [aput, aset, aze, asu]
              refine take_no (i := 28) (d := some 66) rfl rfl hHeld ?_; simp only [aput, aset, aze, asu]
              refine take_yes (i := 29) (d := some 67) (v := ?_) rfl rfl hHeld ?_ ?_; rotate_left; focus intro w hSw; (try dsimp only at hSw);  go_simp; try with_reducible rfl
              simp only [aput, aset, aze, asu]
              refine wpAnyH_done (by kernel_rfl) ?_ _
              have HBx : Hid (Below w.heap.size w _) := below_trans HBw6.out hHeld HBw6.out.size
              clear hHeld
              go_wp2
              go_ret
              exact ⟨by rw [HX3.out]; rfl, HBx.out⟩
            · have d3 : decide (lev < 0) = false := by simpa using c3
              generalize hcc : countP ss = cc at *
              clear hcc
              by_cases c4 : (cc : Int) < lev
              · have d4 : decide ((cc : Int) < lev) = true := by simpa using c4
                have HX3 : Hid (R = 3) := by show _ = _; rw [HX2.out, if_pos (by simp; omega)]
                clear HX2
                go_wp2
                rw [← HW6.out]
                clear HW6
                refine wp_region_held_drew (S := fun w' => Below w6.heap.size w6 w') (by kernel_rfl) (Below.refl _ _).drew (fun hHeld => ?_)
                refine take_yes (i := 0) (d := some 38) (v := ?_) rfl rfl hHeld ?_ ?_; rotate_left; focus intro w hSw; (try dsimp only at hSw);  go_simp; try with_reducible rfl
                simp only [aput, aset, aze, asu]
                refine take_yes (i := 1) (d := some 39) (v := ?_) rfl rfl hHeld ?_ ?_; rotate_left; focus intro w hSw; (try dsimp only at hSw); obtain ⟨p0, p1, p2, p3, p4⟩ := HS.out _ hSw; go_simp; try with_reducible rfl
                simp only [aput, aset, aze, asu]
                refine take_yes (i := 2) (d := some 40) (v := ?_) rfl rfl hHeld ?_ ?_; rotate_left; focus intro w hSw; (try dsimp only at hSw);  go_simp; try with_reducible rfl
                simp only [aput, aset, aze, asu]
                refine take_yes (i := 3) (d := some 41) (v := ?_) rfl rfl hHeld ?_ ?_; rotate_left; focus intro w hSw; (try dsimp only at hSw);  go_simp; try with_reducible rfl
                simp only [aput, aset, aze, asu]
                refine take_yes (i := 4) (d := some 42) (v := ?_) rfl rfl hHeld ?_ ?_; rotate_left; focus intro w hSw; (try dsimp only at hSw);  go_simp; try with_reducible rfl
                simp only [aput, aset, aze, asu]
                refine take_yes (i := 5) (d := some 43) (v := ?_) rfl rfl hHeld ?_ ?_; rotate_left; focus intro w hSw; (try dsimp only at hSw); obtain ⟨p0, p1, p2, p3, p4⟩ := HS.out _ hSw; go_simp; try with_reducible rfl
                simp only [aput, aset, aze, asu]
                refine take_yes (i := 6) (d := some 44) (v := ?_) rfl rfl hHeld ?_ ?_; rotate_left; focus intro w hSw; (try dsimp only at hSw);  go_simp; try with_reducible rfl
                simp only [aput, aset, aze, asu]
                refine take_yes (i := 7) (d := some 45) (v := ?_) rfl rfl hHeld ?_ ?_; rotate_left; focus intro w hSw; (try dsimp only at hSw);  go_simp; try with_reducible rfl
                simp only [aput, aset, aze, asu]
                refine take_yes (i := 8) (d := some 46) (v := ?_) rfl rfl hHeld ?_ ?_; rotate_left; focus intro w hSw; (try dsimp only at hSw);  go_simp; try with_reducible rfl
                simp only [aput, aset, aze, asu]
                refine take_yes (i := 9) (d := some 47) (v := ?_) rfl rfl hHeld ?_ ?_; rotate_left; focus intro w hSw; (try dsimp only at hSw);  go_simp; try with_reducible rfl
                simp only [aput, aset, aze, asu]
                refine take_yes (i := 10) (d := some 48) (v := ?_) rfl rfl hHeld ?_ ?_; rotate_left; focus intro w hSw; (try dsimp only at hSw); obtain ⟨p0, p1, p2, p3, p4⟩ := HS.out _ hSw; go_simp; try with_reducible rfl
                simp only [aput, aset, aze, asu]
                refine take_yes (i := 11) (d := some 49) (v := ?_) rfl rfl hHeld ?_ ?_; rotate_left; focus intro w hSw; (try dsimp only at hSw);  go_simp; try with_reducible rfl
                simp only [aput, aset, aze, asu]
                refine take_yes (i := 12) (d := some 50) (v := ?_) rfl rfl hHeld ?_ ?_; rotate_left; focus intro w hSw; (try dsimp only at hSw);  go_simp; try with_reducible rfl
                simp only [aput, aset, aze, asu]
                refine take_yes (i := 13) (d := some 51) (v := ?_) rfl rfl hHeld ?_ ?_; rotate_left; focus intro w hSw; (try dsimp only at hSw);  go_simp; try with_reducible rfl
                simp only [aput, aset, aze, asu]
                refine take_yes (i := 14) (d := some 52) (v := ?_) rfl rfl hHeld ?_ ?_; rotate_left; focus intro w hSw; (try dsimp only at hSw);  go_simp; try with_reducible rfl
                simp only [aput, aset, aze, asu]
                refine take_yes (i := 15) (d := some 53) (v := ?_) rfl rfl hHeld ?_ ?_; rotate_left; focus intro w hSw; (try dsimp only at hSw); obtain ⟨p0, p1, p2, p3, p4⟩ := HS.out _ hSw; go_simp; try with_reducible rfl
                simp only [aput, aset, aze, asu]
                refine take_yes (i := 16) (d := some 54) (v := ?_) rfl rfl hHeld ?_ ?_; rotate_left; focus intro w hSw; (try dsimp only at hSw);  go_simp; try with_reducible rfl
                simp only [aput, aset, aze, asu]
                refine wpAnyH_ready (rs := [17]) (by kernel_rfl) (by simp) ?_
                refine AllReadyH.cons rfl (fun K hK => ?_) AllReadyH.nil
                go_simp
                refine (HCn.out _ hHeld).mono ?_
                rintro e wc ⟨rfl, hBc⟩
                refine hK.out _ _ hBc (fun hHeld => ?_)
                clear hK K
                clear hHeld
                have hHeld := hBc
                clear hBc
                refine take_yes (i := 18) (d := some 56) (v := ?_) rfl rfl hHeld ?_ ?_; rotate_left; focus intro w hSw; (try dsimp only at hSw);  go_simp; try with_reducible rfl
                simp only [aput, aset, aze, asu]
                refine take_yes (i := 19) (d := some 57) (v := ?_) rfl rfl hHeld ?_ ?_; rotate_left; focus intro w hSw; (try dsimp only at hSw);  go_simp; try with_reducible rfl
                simp only [aput, aset, aze, asu]
                refine take_yes (i := 20) (d := some 58) (v := ?_) rfl rfl hHeld ?_ ?_; rotate_left; focus intro w hSw; (try dsimp only at hSw);  go_simp; try with_reducible rfl
                simp only [aput, aset, aze, asu]
                refine take_no (i := 21) (d := some 59) rfl rfl hHeld ?_; simp only [aput, aset, aze, asu]
                refine take_no (i := 22) (d := some 60) rfl rfl hHeld ?_; simp only [aput, aset, aze, asu]
                refine take_no (i := 23) (d := some 61) rfl rfl hHeld ?_; simp only [aput, aset, aze, asu]
                refine take_no (i := 24) (d := some 62) rfl rfl hHeld ?_; simp only [aput, aset, aze, asu]
                refine take_no (i := 25) (d := some 63) rfl rfl hHeld ?_; simp only [aput, aset, aze, asu]
                refine take_no (i := 26) (d := some 64) rfl rfl hHeld ?_; simp only [aput, aset, aze, asu]
                refine take_no (i := 27) (d := some 65) rfl rfl hHeld ?_; simp only [aput, aset, aze, asu]
                refine take_no (i := 28) (d := some 66) rfl rfl hHeld ?_; simp only [aput, aset, aze, asu]
                refine take_yes (i := 29) (d := some 67) (v := ?_) rfl rfl hHeld ?_ ?_; rotate_left; focus intro w hSw; (try dsimp only at hSw);  go_simp; try with_reducible rfl
                simp only [aput, aset, aze, asu]
                refine wpAnyH_done (by kernel_rfl) ?_ _
                have HBx : Hid (Below w.heap.size w _) := below_trans HBw6.out hHeld HBw6.out.size
                clear hHeld
                go_wp2
                go_ret
                exact ⟨by rw [HX3.out]; rfl, HBx.out⟩
              · have d4 : decide ((cc : Int) < lev) = false := by simpa using c4
                have HX4 : Hid (R = if (dn != (lev == (cc : Int))) = true then 3 else if (N.filter fun f => !inB K f) ≠ [] then 8 else 0) := by
                  show _ = _
                  rw [HX2.out]
                  have e1 : (decide (0 ≤ rn) && decide (rn ≤ 1000)) = true := by simp; omega
                  have e2 : (decide (0 ≤ lev) && decide (lev ≤ (cc : Int))) = true := by simp; omega
                  rw [e1, e2]
                  cases (dn != (lev == (cc : Int))) <;> rfl
                clear HX2
                generalize hC : (dn != (lev == (cc : Int))) = C at *
                have hC2 : (!(dn == (lev == (cc : Int)))) = C := hC
                clear hC
                cases C with
                | true =>
                  have HX3 : Hid (R = 3) := by show _ = _; rw [HX4.out]; rfl
                  clear HX4
                  go_wp2
                  rw [← HW6.out]
                  clear HW6
                  refine wp_region_held_drew (S := fun w' => Below w6.heap.size w6 w') (by kernel_rfl) (Below.refl _ _).drew (fun hHeld => ?_)
                  refine take_yes (i := 0) (d := some 38) (v := ?_) rfl rfl hHeld ?_ ?_; rotate_left; focus intro w hSw; (try dsimp only at hSw);  go_simp; try with_reducible rfl
                  simp only [aput, aset, aze, asu]
                  refine take_yes (i := 1) (d := some 39) (v := ?_) rfl rfl hHeld ?_ ?_; rotate_left; focus intro w hSw; (try dsimp only at hSw); obtain ⟨p0, p1, p2, p3, p4⟩ := HS.out _ hSw; go_simp; try with_reducible rfl
                  simp only [aput, aset, aze, asu]
                  refine take_yes (i := 2) (d := some 40) (v := ?_) rfl rfl hHeld ?_ ?_; rotate_left; focus intro w hSw; (try dsimp only at hSw);  go_simp; try with_reducible rfl
                  simp only [aput, aset, aze, asu]
                  refine take_yes (i := 3) (d := some 41) (v := ?_) rfl rfl hHeld ?_ ?_; rotate_left; focus intro w hSw; (try dsimp only at hSw);  go_simp; try with_reducible rfl
                  simp only [aput, aset, aze, asu]
                  refine take_yes (i := 4) (d := some 42) (v := ?_) rfl rfl hHeld ?_ ?_; rotate_left; focus intro w hSw; (try dsimp only at hSw);  go_simp; try with_reducible rfl
                  simp only [aput, aset, aze, asu]
                  refine take_yes (i := 5) (d := some 43) (v := ?_) rfl rfl hHeld ?_ ?_; rotate_left; focus intro w hSw; (try dsimp only at hSw); obtain ⟨p0, p1, p2, p3, p4⟩ := HS.out _ hSw; go_simp; try with_reducible rfl
                  simp only [aput, aset, aze, asu]
                  refine take_yes (i := 6) (d := some 44) (v := ?_) rfl rfl hHeld ?_ ?_; rotate_left; focus intro w hSw; (try dsimp only at hSw);  go_simp; try with_reducible rfl
                  simp only [aput, aset, aze, asu]
                  refine take_yes (i := 7) (d := some 45) (v := ?_) rfl rfl hHeld ?_ ?_; rotate_left; focus intro w hSw; (try dsimp only at hSw);  go_simp; try with_reducible rfl
                  simp only [aput, aset, aze, asu]
                  refine take_yes (i := 8) (d := some 46) (v := ?_) rfl rfl hHeld ?_ ?_; rotate_left; focus intro w hSw; (try dsimp only at hSw);  go_simp; try with_reducible rfl
                  simp only [aput, aset, aze, asu]
                  refine take_yes (i := 9) (d := some 47) (v := ?_) rfl rfl hHeld ?_ ?_; rotate_left; focus intro w hSw; (try dsimp only at hSw);  go_simp; try with_reducible rfl
                  simp only [aput, aset, aze, asu]
                  refine take_yes (i := 10) (d := some 48) (v := ?_) rfl rfl hHeld ?_ ?_; rotate_left; focus intro w hSw; (try dsimp only at hSw); obtain ⟨p0, p1, p2, p3, p4⟩ := HS.out _ hSw; go_simp; try with_reducible rfl
                  simp only [aput, aset, aze, asu]
                  refine take_yes (i := 11) (d := some 49) (v := ?_) rfl rfl hHeld ?_ ?_; rotate_left; focus intro w hSw; (try dsimp only at hSw);  go_simp; try with_reducible rfl
                  simp only [aput, aset, aze, asu]
                  refine take_yes (i := 12) (d := some 50) (v := ?_) rfl rfl hHeld ?_ ?_; rotate_left; focus intro w hSw; (try dsimp only at hSw);  go_simp; try with_reducible rfl
                  simp only [aput, aset, aze, asu]
                  refine take_yes (i := 13) (d := some 51) (v := ?_) rfl rfl hHeld ?_ ?_; rotate_left; focus intro w hSw; (try dsimp only at hSw);  go_simp; try with_reducible rfl
                  simp only [aput, aset, aze, asu]
                  refine take_yes (i := 14) (d := some 52) (v := ?_) rfl rfl hHeld ?_ ?_; rotate_left; focus intro w hSw; (try dsimp only at hSw);  go_simp; try with_reducible rfl
                  simp only [aput, aset, aze, asu]
                  refine take_yes (i := 15) (d := some 53) (v := ?_) rfl rfl hHeld ?_ ?_; rotate_left; focus intro w hSw; (try dsimp only at hSw); obtain ⟨p0, p1, p2, p3, p4⟩ := HS.out _ hSw; go_simp; try with_reducible rfl
                  simp only [aput, aset, aze, asu]
                  refine take_yes (i := 16) (d := some 54) (v := ?_) rfl rfl hHeld ?_ ?_; rotate_left; focus intro w hSw; (try dsimp only at hSw);  go_simp; try with_reducible rfl
                  simp only [aput, aset, aze, asu]
                  refine wpAnyH_ready (rs := [17]) (by kernel_rfl) (by simp) ?_
                  refine AllReadyH.cons rfl (fun K hK => ?_) AllReadyH.nil
                  go_simp
                  refine (HCn.out _ hHeld).mono ?_
                  rintro e wc ⟨rfl, hBc⟩
                  refine hK.out _ _ hBc (fun hHeld => ?_)
                  clear hK K
                  clear hHeld
                  have hHeld := hBc
                  clear hBc
                  refine take_yes (i := 18) (d := some 56) (v := ?_) rfl rfl hHeld ?_ ?_; rotate_left; focus intro w hSw; (try dsimp only at hSw);  go_simp; try with_reducible rfl
                  simp only [aput, aset, aze, asu]
                  refine take_yes (i := 19) (d := some 57) (v := ?_) rfl rfl hHeld ?_ ?_; rotate_left; focus intro w hSw; (try dsimp only at hSw);  go_simp; try with_reducible rfl
                  simp only [aput, aset, aze, asu]
                  refine take_yes (i := 20) (d := some 58) (v := ?_) rfl rfl hHeld ?_ ?_; rotate_left; focus intro w hSw; (try dsimp only at hSw);  go_simp; try with_reducible rfl
                  simp only [aput, aset, aze, asu]
                  refine take_yes (i := 21) (d := some 59) (v := ?_) rfl rfl hHeld ?_ ?_; rotate_left; focus intro w hSw; (try dsimp only at hSw);  go_simp; try with_reducible rfl
                  simp only [aput, aset, aze, asu]
                  refine take_yes (i := 22) (d := some 60) (v := ?_) rfl rfl hHeld ?_ ?_; rotate_left; focus intro w hSw; (try dsimp only at hSw); obtain ⟨p0, p1, p2, p3, p4⟩ := HS.out _ hSw; go_simp; try with_reducible rfl
                  simp only [aput, aset, aze, asu]
                  refine take_yes (i := 23) (d := some 61) (v := ?_) rfl rfl hHeld ?_ ?_; rotate_left; focus intro w hSw; (try dsimp only at hSw);  go_simp; try with_reducible rfl
                  simp only [aput, aset, aze, asu]
                  refine take_yes (i := 24) (d := some 62) (v := ?_) rfl rfl hHeld ?_ ?_; rotate_left; focus intro w hSw; (try dsimp only at hSw); obtain ⟨p0, p1, p2, p3, p4⟩ := HS.out _ hSw; go_simp; try with_reducible rfl
                  simp only [aput, aset, aze, asu]
                  refine take_yes (i := 25) (d := some 63) (v := ?_) rfl rfl hHeld ?_ ?_; rotate_left; focus intro w hSw; (try dsimp only at hSw);  go_simp; try with_reducible rfl
                  simp only [aput, aset, aze, asu]
                  refine wpAnyH_ready (rs := [26]) (by kernel_rfl) (by simp) ?_
                  refine AllReadyH.cons rfl (fun K hK => ?_) AllReadyH.nil
                  go_simp
                  refine (HCn.out _ hHeld).mono ?_
                  rintro e wc ⟨rfl, hBc⟩
                  refine hK.out _ _ hBc (fun hHeld => ?_)
                  clear hK K
                  clear hHeld
                  have hHeld := hBc
                  clear hBc
                  refine take_yes (i := 27) (d := some 65) (v := ?_) rfl rfl hHeld ?_ ?_; rotate_left; focus intro w hSw; (try dsimp only at hSw);  go_simp; try with_reducible rfl
                  simp only [aput, aset, aze, asu]
                  refine take_yes (i := 28) (d := some 66) (v := ?_) rfl rfl hHeld ?_ ?_; rotate_left; focus intro w hSw; (try dsimp only at hSw);  go_simp; try with_reducible rfl
                  simp only [aput, aset, aze, asu]
                  refine take_yes (i := 29) (d := some 67) (v := ?_) rfl rfl hHeld ?_ ?_; rotate_left; focus intro w hSw; (try dsimp only at hSw);  go_simp; try with_reducible rfl
                  simp only [aput, aset, aze, asu]
                  refine wpAnyH_done (by kernel_rfl) ?_ _
                  have HBx : Hid (Below w.heap.size w _) := below_trans HBw6.out hHeld HBw6.out.size
                  clear hHeld
                  go_wp2
                  go_ret
                  exact ⟨by rw [HX3.out]; rfl, HBx.out⟩
                | false =>
                  have HX5 : Hid (R = if (N.filter fun f => !inB K f) ≠ [] then 8 else 0) := by show _ = _; rw [HX4.out]; rfl
                  clear HX4
                  go_wp2
                  rw [← HW6.out]
                  clear HW6
                  refine wp_region_held_drew (S := fun w' => Below w6.heap.size w6 w') (by kernel_rfl) (Below.refl _ _).drew (fun hHeld => ?_)
                  refine take_yes (i := 0) (d := some 38) (v := ?_) rfl rfl hHeld ?_ ?_; rotate_left; focus intro w hSw; (try dsimp only at hSw);  go_simp; try with_reducible rfl
                  simp only [aput, aset, aze, asu]
                  refine take_yes (i := 1) (d := some 39) (v := ?_) rfl rfl hHeld ?_ ?_; rotate_left; focus intro w hSw; (try dsimp only at hSw); obtain ⟨p0, p1, p2, p3, p4⟩ := HS.out _ hSw; go_simp; try with_reducible rfl
                  simp only [aput, aset, aze, asu]
                  refine take_yes (i := 2) (d := some 40) (v := ?_) rfl rfl hHeld ?_ ?_; rotate_left; focus intro w hSw; (try dsimp only at hSw);  go_simp; try with_reducible rfl
                  simp only [aput, aset, aze, asu]
                  refine take_yes (i := 3) (d := some 41) (v := ?_) rfl rfl hHeld ?_ ?_; rotate_left; focus intro w hSw; (try dsimp only at hSw);  go_simp; try with_reducible rfl
                  simp only [aput, aset, aze, asu]
                  refine take_yes (i := 4) (d := some 42) (v := ?_) rfl rfl hHeld ?_ ?_; rotate_left; focus intro w hSw; (try dsimp only at hSw);  go_simp; try with_reducible rfl
                  simp only [aput, aset, aze, asu]
                  refine take_yes (i := 5) (d := some 43) (v := ?_) rfl rfl hHeld ?_ ?_; rotate_left; focus intro w hSw; (try dsimp only at hSw); obtain ⟨p0, p1, p2, p3, p4⟩ := HS.out _ hSw; go_simp; try with_reducible rfl
                  simp only [aput, aset, aze, asu]
                  refine take_yes (i := 6) (d := some 44) (v := ?_) rfl rfl hHeld ?_ ?_; rotate_left; focus intro w hSw; (try dsimp only at hSw);  go_simp; try with_reducible rfl
                  simp only [aput, aset, aze, asu]
                  refine take_yes (i := 7) (d := some 45) (v := ?_) rfl rfl hHeld ?_ ?_; rotate_left; focus intro w hSw; (try dsimp only at hSw);  go_simp; try with_reducible rfl
                  simp only [aput, aset, aze, asu]
                  refine take_yes (i := 8) (d := some 46) (v := ?_) rfl rfl hHeld ?_ ?_; rotate_left; focus intro w hSw; (try dsimp only at hSw);  go_simp; try with_reducible rfl
                  simp only [aput, aset, aze, asu]
                  refine take_yes (i := 9) (d := some 47) (v := ?_) rfl rfl hHeld ?_ ?_; rotate_left; focus intro w hSw; (try dsimp only at hSw);  go_simp; try with_reducible rfl
                  simp only [aput, aset, aze, asu]
                  refine take_yes (i := 10) (d := some 48) (v := ?_) rfl rfl hHeld ?_ ?_; rotate_left; focus intro w hSw; (try dsimp only at hSw); obtain ⟨p0, p1, p2, p3, p4⟩ := HS.out _ hSw; go_simp; try with_reducible rfl
                  simp only [aput, aset, aze, asu]
                  refine take_yes (i := 11) (d := some 49) (v := ?_) rfl rfl hHeld ?_ ?_; rotate_left; focus intro w hSw; (try dsimp only at hSw);  go_simp; try with_reducible rfl
                  simp only [aput, aset, aze, asu]
                  refine take_yes (i := 12) (d := some 50) (v := ?_) rfl rfl hHeld ?_ ?_; rotate_left; focus intro w hSw; (try dsimp only at hSw);  go_simp; try with_reducible rfl
                  simp only [aput, aset, aze, asu]
                  refine take_yes (i := 13) (d := some 51) (v := ?_) rfl rfl hHeld ?_ ?_; rotate_left; focus intro w hSw; (try dsimp only at hSw);  go_simp; try with_reducible rfl
                  simp only [aput, aset, aze, asu]
                  refine take_yes (i := 14) (d := some 52) (v := ?_) rfl rfl hHeld ?_ ?_; rotate_left; focus intro w hSw; (try dsimp only at hSw);  go_simp; try with_reducible rfl
                  simp only [aput, aset, aze, asu]
                  refine take_yes (i := 15) (d := some 53) (v := ?_) rfl rfl hHeld ?_ ?_; rotate_left; focus intro w hSw; (try dsimp only at hSw); obtain ⟨p0, p1, p2, p3, p4⟩ := HS.out _ hSw; go_simp; try with_reducible rfl
                  simp only [aput, aset, aze, asu]
                  refine take_yes (i := 16) (d := some 54) (v := ?_) rfl rfl hHeld ?_ ?_; rotate_left; focus intro w hSw; (try dsimp only at hSw);  go_simp; try with_reducible rfl
                  simp only [aput, aset, aze, asu]
                  refine wpAnyH_ready (rs := [17]) (by kernel_rfl) (by simp) ?_
                  refine AllReadyH.cons rfl (fun K hK => ?_) AllReadyH.nil
                  go_simp
                  refine (HCn.out _ hHeld).mono ?_
                  rintro e wc ⟨rfl, hBc⟩
                  refine hK.out _ _ hBc (fun hHeld => ?_)
                  clear hK K
                  clear hHeld
                  have hHeld := hBc
                  clear hBc
                  refine take_yes (i := 18) (d := some 56) (v := ?_) rfl rfl hHeld ?_ ?_; rotate_left; focus intro w hSw; (try dsimp only at hSw);  go_simp; try with_reducible rfl
                  simp only [aput, aset, aze, asu]
                  refine take_yes (i := 19) (d := some 57) (v := ?_) rfl rfl hHeld ?_ ?_; rotate_left; focus intro w hSw; (try dsimp only at hSw);  go_simp; try with_reducible rfl
                  simp only [aput, aset, aze, asu]
                  refine take_yes (i := 20) (d := some 58) (v := ?_) rfl rfl hHeld ?_ ?_; rotate_left; focus intro w hSw; (try dsimp only at hSw);  go_simp; try with_reducible rfl
                  simp only [aput, aset, aze, asu]
                  refine take_yes (i := 21) (d := some 59) (v := ?_) rfl rfl hHeld ?_ ?_; rotate_left; focus intro w hSw; (try dsimp only at hSw);  go_simp; try with_reducible rfl
                  simp only [aput, aset, aze, asu]
                  refine take_yes (i := 22) (d := some 60) (v := ?_) rfl rfl hHeld ?_ ?_; rotate_left; focus intro w hSw; (try dsimp only at hSw); obtain ⟨p0, p1, p2, p3, p4⟩ := HS.out _ hSw; go_simp; try with_reducible rfl
                  simp only [aput, aset, aze, asu]
                  refine take_yes (i := 23) (d := some 61) (v := ?_) rfl rfl hHeld ?_ ?_; rotate_left; focus intro w hSw; (try dsimp only at hSw);  go_simp; try with_reducible rfl
                  simp only [aput, aset, aze, asu]
                  refine take_yes (i := 24) (d := some 62) (v := ?_) rfl rfl hHeld ?_ ?_; rotate_left; focus intro w hSw; (try dsimp only at hSw); obtain ⟨p0, p1, p2, p3, p4⟩ := HS.out _ hSw; go_simp; try with_reducible rfl
                  simp only [aput, aset, aze, asu]
                  refine take_yes (i := 25) (d := some 63) (v := ?_) rfl rfl hHeld ?_ ?_; rotate_left; focus intro w hSw; (try dsimp only at hSw);  go_simp; try with_reducible rfl
                  simp only [aput, aset, aze, asu]
                  refine wpAnyH_ready (rs := [26]) (by kernel_rfl) (by simp) ?_
                  refine AllReadyH.cons rfl (fun K hK => ?_) AllReadyH.nil
                  go_simp
                  refine (HCn.out _ hHeld).mono ?_
                  rintro e wc ⟨rfl, hBc⟩
                  refine hK.out _ _ hBc (fun hHeld => ?_)
                  clear hK K
                  clear hHeld
                  have hHeld := hBc
                  clear hBc
                  refine take_yes (i := 27) (d := some 65) (v := ?_) rfl rfl hHeld ?_ ?_; rotate_left; focus intro w hSw; (try dsimp only at hSw);  go_simp; try with_reducible rfl
                  simp only [aput, aset, aze, asu]
                  refine take_yes (i := 28) (d := some 66) (v := ?_) rfl rfl hHeld ?_ ?_; rotate_left; focus intro w hSw; (try dsimp only at hSw);  go_simp; try with_reducible rfl
                  simp only [aput, aset, aze, asu]
                  refine take_yes (i := 29) (d := some 67) (v := ?_) rfl rfl hHeld ?_ ?_; rotate_left; focus intro w hSw; (try dsimp only at hSw);  go_simp; try with_reducible rfl
                  simp only [aput, aset, aze, asu]
                  refine wpAnyH_done (by kernel_rfl) ?_ _
                  have HBx : Hid (Below w.heap.size w _) := below_trans HBw6.out hHeld HBw6.out.size
                  have HH := hide hHeld
                  obtain ⟨p0, p1, p2, p3, p4⟩ := HS.out _ hHeld
                  obtain ⟨na', nc', e1, hNl, hz⟩ := HN6.out.addr
                  simp only [Value.slice.injEq] at e1
                  obtain ⟨rfl, _, rfl⟩ := e1
                  clear hHeld HCn HBx
                  go_wp2
                  go_loopg [71] N.length (fun g i wr => ∃ j : Nat, j + g = N.length ∧ i = .int .i64 j ∧ Hid (Below w6.heap.size w6 wr) ∧ Hid ((N.filter fun f => !inB K f) = (N.drop j).filter fun f => !inB K f))
                  case atStart => exact ⟨0, by omega, rfl, HH, (rfl : _ = _)⟩
                  case round =>
                    clear HH p0 p1 p2 p3 p4
                    obtain ⟨j, hj, rfl, HB, HF⟩ := hrel
                    obtain ⟨p0, p1, p2, p3, p4⟩ := HS.out _ HB.out
                    have HBx : Hid (Below w.heap.size w wr) := below_trans HBw6.out HB.out HBw6.out.size
                    by_cases hlt : j < N.length
                    · rcases hz with rfl | ⟨b, off, rfl⟩
                      · simp at hlt
                      have hltz : (j : Int) < (N.length : Int) := by omega
                      obtain ⟨hb, ax, lx, cx, g1, g2, fx⟩ := (HN6.out.below HB.out).at hlt
                      have hgd : N[j]? = some (N.getD j noFact) := by rw [List.getD_eq_getElem?_getD, List.getElem?_eq_getElem hlt]; rfl
                      have hdr : (N.drop j).filter (fun f => !inB K f) = if inB K (N.getD j noFact) then (N.drop (j + 1)).filter (fun f => !inB K f) else N.getD j noFact :: (N.drop (j + 1)).filter (fun f => !inB K f) := by
                        obtain ⟨h1, e1⟩ := List.getElem?_eq_some_iff.1 hgd
                        rw [List.drop_eq_getElem_cons h1, e1, List.filter_cons]
                        cases inB K (N.getD j noFact) <;> rfl
                      obtain ⟨w8, hw8⟩ : ∃ w8, w8 = wr.alloc (.cells #[.string (N.getD j noFact).1, .slice ax lx cx] 50) := ⟨_, rfl⟩
                      have hL8 : Later wr w8 := by rw [hw8]; exact (Later.refl _).alloc _
                      have hB8 : Below w6.heap.size w6 w8 := below_trans HB.out hL8.below HB.out.size
                      have hIn := rIn _ _ K (N.getD j noFact) w8 (HK6.out.below hB8) (fx.later hL8)
                      rw [in_eq] at hIn
                      have HIn := hide hIn
                      have HB8 := hide hB8
                      have HW8 := hide hw8
                      obtain ⟨s0, _, _, _, _⟩ := HS.out _ hB8
                      rw [hw8] at s0
                      cases hib : inB K (N.getD j noFact) with
                      | true =>
                        rw [hib] at HIn
                        have HF' : Hid ((N.filter fun f => !inB K f) = (N.drop (j + 1)).filter fun f => !inB K f) := by show _ = _; rw [HF.out, hdr, hib]; rfl
                        clear hib hdr hgd fx hIn hB8 hL8 hw8
                        generalize (N.getD j noFact).1 = nm at *
                        go_wp2_with fail
                        rw [← HW8.out]
                        refine HIn.out.mono ?_
                        rintro e w9 ⟨rfl, hL9⟩
                        have HB9 : Hid (Below w6.heap.size w6 w9) := below_trans HB8.out hL9.below HB8.out.size
                        clear hL9 HIn HW8
                        go_wp2
                        go_roundg (N.length - (j + 1))
                        case measure => omega
                        case rel => exact ⟨j + 1, by omega, by go_num, HB9, HF'⟩
                      | false =>
                        rw [hib] at HIn
                        have HX3 : Hid (R = 8) := by show _ = _; rw [HX5.out, HF.out, hdr, hib]; rfl
                        clear hib hdr hgd fx hIn hB8 hL8 hw8
                        generalize (N.getD j noFact).1 = nm at *
                        go_wp2_with fail
                        rw [← HW8.out]
                        refine HIn.out.mono ?_
                        rintro e w9 ⟨rfl, hL9⟩
                        have HB9 : Hid (Below w.heap.size w w9) := below_trans HBw6.out (below_trans HB8.out hL9.below HB8.out.size) HBw6.out.size
                        clear hL9 HIn HW8
                        go_wp2
                        go_ret
                        exact ⟨by rw [HX3.out]; rfl, HB9.out⟩
                    · have HX3 : Hid (R = 0) := by show _ = _; rw [HX5.out, HF.out, List.drop_eq_nil_of_le (by omega)]; rfl
                      go_wp2
                      go_ret
                      exact ⟨by rw [HX3.out]; rfl, HBx.out⟩
      · have HX2 : Hid (R = sx) := by show _ = _; rw [HX1.out, if_pos h2]
        have hne : (sx != 0) = true := by simpa using h2
        rw [hw6] at HBw6
        clear h2 hw6 hL6 hL5 hB6
        go_wp2
        go_ret
        exact ⟨by rw [HX2.out]; rfl, HBw6.out⟩
    · have HX1 : Hid (R = fx) := by show _ = _; rw [HX0.out, if_pos h1]
      have hne : (fx != 0) = true := by simpa using h1
      rw [hw4] at HBw4
      clear h1 hw4 hL4 hB4
      go_wp2
      go_ret
      exact ⟨by rw [HX1.out]; rfl, HBw4.out⟩
  · have HX1 : Hid (R = ex) := by
      show _ = _
      have e : forE p K = ex := by unfold forE; rw [HSE.out]; simp [h0]
      rw [HX.out, e, if_pos h0]
    have hne : (ex != 0) = true := by simpa using h0
    have HBw : Hid (Below w.heap.size w (w1.alloc (.cells #[.int .i64 ex, .int .i64 (ea : Nat)] 41))) := below_trans HLb.out.below (below_trans HB1.out ((Later.refl _).alloc _).below HB1.out.size) (by omega)
    clear h0 HX HSE
    go_wp2
    go_ret
    exact ⟨by rw [HX1.out]; rfl, HBw.out⟩

end Go.Proofs.YtilkggldmgeagaaGreatDoor
