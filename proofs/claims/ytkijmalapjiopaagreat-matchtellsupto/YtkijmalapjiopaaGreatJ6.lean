/- Texts of this claim, one behind the other. -/
import Derived.Test.YtkijmalapjiopaaGreatJ3
import Derived.Shelf.Abstract
import Derived.Test.YtkijmalapjiopaaGreatJ5
import Derived.Test.YtkijmalapjiopaaGreatJ4
import Derived.Sort.KeysCollected
/- The walk of fact.keep, whatever the closure that is asked, and whatever it keeps to itself. -/
namespace Go.Proofs.YtkijmalapjiopaaGreat
open Go.RowKit Go.Sort

/-- The first k facts, those of them that p takes. -/
def pick (p : Nat → Bool) (l : List FactD) : Nat → List FactD
  | 0 => []
  | k + 1 => if p k then pick p l k ++ [l.getD k noFact] else pick p l k

/-- What is asked of a closure: in every round it tells p k; it turns nothing but its own blocks (from lo up to hi), and its own state goes on. -/
structure Asked (g : Nat) (cb : Array Value) (lo hi : Nat) (w0 : World) (l : List FactD) (p : Nat → Bool) (S : Nat → World → Prop) : Prop where
  ask : ∀ k w' v, k < l.length → Later w0 w' → hi ≤ w'.heap.size → S k w' → FactV w0 v (l.getD k noFact) →
    Calls Tryz.prog g (#[v] ++ cb) w' fun e w'' => e = .returned (.bool (p k)) ∧ Only lo hi w' w'' ∧ S (k + 1) w''
  kept : ∀ k w' w'', S k w' → (∀ j, j < hi → w''.heap[j]? = w'.heap[j]?) → w'.heap.size ≤ w''.heap.size → S k w''

end Go.Proofs.YtkijmalapjiopaaGreat

/- Sets of facts, in plain Lean: lists that rise, each fact once. -/
namespace Go.Proofs.YtkijmalapjiopaaGreat
open Go.RowKit Go.Sort

/-- Rising, each once. -/
def Rises (s : List FactD) : Prop := s.Pairwise fun a b => cmpF a b < 0

theorem lt_irrefl {a : FactD} (h : cmpF a a < 0) : False := by rw [three_cmpF.refl] at h; omega

theorem lt_asym {a b : FactD} (h : cmpF a b < 0) (k : cmpF b a < 0) : False := lt_irrefl (three_cmpF.trans a b a h k)

/-- A set is told by what is in it. -/
theorem Rises.ext : ∀ {s t : List FactD}, Rises s → Rises t → (∀ f, f ∈ s ↔ f ∈ t) → s = t
  | [], [], _, _, _ => rfl
  | [], b :: t, _, _, h => by have := (h b).2 (List.mem_cons_self ..); cases this
  | a :: s, [], _, _, h => by have := (h a).1 (List.mem_cons_self ..); cases this
  | a :: s, b :: t, hs, ht, h => by
    have hs' := List.pairwise_cons.1 hs
    have ht' := List.pairwise_cons.1 ht
    have e : a = b := by
      rcases List.mem_cons.1 ((h a).1 (List.mem_cons_self ..)) with e | e
      · exact e
      · rcases List.mem_cons.1 ((h b).2 (List.mem_cons_self ..)) with e' | e'
        · exact e'.symm
        · exact absurd (ht'.1 a e) fun k => lt_asym k (hs'.1 b e')
    subst e
    rw [Rises.ext hs'.2 ht'.2 fun f => ⟨fun hf => ?_, fun hf => ?_⟩]
    · rcases List.mem_cons.1 ((h f).1 (List.mem_cons_of_mem _ hf)) with e | e
      · subst e; exact absurd (hs'.1 f hf) lt_irrefl
      · exact e
    · rcases List.mem_cons.1 ((h f).2 (List.mem_cons_of_mem _ hf)) with e | e
      · subst e; exact absurd (ht'.1 f hf) lt_irrefl
      · exact e

/-- s is the set of l's facts. -/
def SetOf (s l : List FactD) : Prop := Rises s ∧ (∀ f, f ∈ s ↔ f ∈ l) ∧ s.length ≤ l.length

/-- Is a fact another one than the one ahead? -/
def newP (l : List FactD) (k : Nat) : Bool := decide (k = 0) || !decide (cmpF (l.getD (k - 1) noFact) (l.getD k noFact) = 0)

end Go.Proofs.YtkijmalapjiopaaGreat

/- The walk of match.Fill. -/
namespace Go.Proofs.YtkijmalapjiopaaGreat
open Go.RowKit Go.Sort

/-- A text, as it is, lies in one cell. -/
def bsK : Kind ByteArray where
  size := 1
  is := fun _ _ c t => c = [.string t]
  len := fun h => by subst h; rfl
  one := fun h u hu => by subst h; simp at hu; subst hu; rfl
  kept := fun h _ _ => h
  mono := fun h _ => h

/-- append of one element more, in a block of its own: with draws, and where the row lies then. -/
theorem Kind.own_more {α : Type} {P : Program} {K : Kind α} {t ty : TypeId} {lo bytes : Nat} {w : World} {v : Value} {l : List α} (h : K.own ty lo w v l) {i : TypeInfo} {z : Value}
    (ht : P.underlying t = some (.slice ty)) (hi : P.info? ty = some i) (hz : i.zero = some z) (hsize : i.size = K.size) (hby : i.bytes = bytes) (hzs : z.cells.size = K.size) (hsz : 0 < K.size)
    {c : List Value} {x : α} (hc : K.is (fun k => lo ≤ k ∧ v.ownBlock ≠ some k) w c x) (hl : (l.length + 1) * bytes ≤ 140737488355328) (hl2 : l.length + 1 ≤ maxLen) (hlo : lo ≤ w.heap.size) :
    ∃ v' w', (Builtin.append_ #[t, t] t #[v, .slice (some ⟨w.heap.size, 0, none⟩) 1 1]).run P (w.alloc (.cells c.toArray ty)) = .ok v' w' ∧ K.own ty lo w' v' (l ++ [x]) ∧ (w.alloc (.cells c.toArray ty)).grownBy w' v.ownBlock ∧ w.drawn ≤ w'.drawn ∧
      ∀ k, v'.ownBlock = some k → v.ownBlock = some k ∨ w.heap.size < k := by
  obtain ⟨xs, ho, hx⟩ := h
  have hcl := K.len hc
  have hnews : ∀ j u, c[j]? = some u → (w.alloc (.cells c.toArray ty)).cell? ((⟨w.heap.size, 0, none⟩ : Addr).add j) = some u := by
    intro j u hu
    rw [Addr.add_lit, Nat.zero_add, cell_of_row _ w.heap.size j c.toArray ty (0, 0) (heap_alloc_new w _)]
    simpa using hu
  obtain ⟨v', w', hrun, r1, r2, r3, r4⟩ := append_own (P := P) (w.alloc (.cells c.toArray ty)) lo t t ty i z K.size bytes ht hi hz hsize hby hzs hsz v l.length xs (ho.alloc _) ⟨w.heap.size, 0, none⟩ 1 1 c (by rw [hcl]; simp) hnews
    (K.one hc) hl2 hl (by simp; omega)
  have hxl : xs.length = l.length * K.size := ho.1
  have own' : ∀ k, v'.ownBlock = some k → v.ownBlock = some k ∨ w.heap.size < k := fun k e => by
    rcases r4 k e with e | e
    · exact Or.inl e
    · simp at e; exact Or.inr (by omega)
  have keep : ∀ k, k < w.heap.size → (lo ≤ k ∧ v.ownBlock ≠ some k) → w'.heap[k]? = w.heap[k]? := fun k hk hB =>
    (r2.block k (by simp; omega) (fun e => hB.2 e.symm)).trans (Below.heap_alloc w _ k hk)
  have hsz' : w.heap.size ≤ w'.heap.size := Nat.le_trans (by simp) r2.size
  have move : ∀ {c : List Value} {y : α}, K.is (fun k => lo ≤ k ∧ v.ownBlock ≠ some k) w c y → K.is (fun k => lo ≤ k ∧ v'.ownBlock ≠ some k) w' c y := fun {c y} hy =>
    K.kept (K.mono hy fun k hk hB => (⟨⟨hB.1, fun e => by rcases own' k e with e | e; exact hB.2 e; omega⟩, hB⟩ : (lo ≤ k ∧ v'.ownBlock ≠ some k) ∧ (lo ≤ k ∧ v.ownBlock ≠ some k))) hsz' (fun k hk hB => keep k hk hB.2) |> fun h => K.mono h fun _ _ hB => hB.1
  refine ⟨v', w', hrun, ⟨xs ++ c, by simpa using r1, fun j y hj => ?_⟩, r2, r3, own'⟩
  by_cases hjl : j < l.length
  · rw [List.getElem?_append_left hjl] at hj
    obtain ⟨d, d1, d2⟩ := hx j y hj
    refine ⟨d, move d1, fun q u hu => ?_⟩
    have := d2 q u hu
    rw [List.getElem?_append_left (List.getElem?_eq_some_iff.1 this).1]; exact this
  · rw [List.getElem?_append_right (by omega)] at hj
    have hj' : j = l.length := by
      have := (List.getElem?_eq_some_iff.1 hj).1
      simp at this; omega
    subst hj'
    simp at hj
    subst hj
    refine ⟨c, move hc, fun q u hu => ?_⟩
    rw [List.getElem?_append_right (by omega), hxl, Nat.add_sub_cancel_left]; exact hu

/-- A world behind such an append. -/
theorem Later.more {w0 w w' : World} {v : Value} {o : Obj} (h : Later w0 w) (hg : (w.alloc o).grownBy w' v.ownBlock) (hd : w.drawn ≤ w'.drawn) (hv : ∀ k, v.ownBlock = some k → w0.heap.size ≤ k) : Later w0 w' :=
  Later.of_below ((h.alloc o).below.grown hg (h.alloc o).size hv) (Nat.le_trans h.drawn hd)

theorem bsK_strs {lo : Nat} {w : World} {v : Value} {l : List ByteArray} (h : bsK.own 9 lo w v l) (hl : l.length ≤ 8796093022208) : Strs w v l := by
  obtain ⟨⟨h0, _⟩, a, cap, rfl, h1⟩ := Kind.own_sl h hl
  refine ⟨h0, a, cap, rfl, fun hne => ?_⟩
  obtain ⟨b, off, rfl, _, hb, hc⟩ := h1 hne
  refine ⟨b, off, rfl, hb, fun i hi => ?_⟩
  obtain ⟨c, rfl, c2⟩ := hc i _ (List.getElem?_eq_getElem hi)
  have := c2 0 _ rfl
  rw [List.getD_eq_getElem?_getD, List.getElem?_eq_getElem hi]
  simpa [bsK] using this

theorem appendArg {lo : Nat} {w : World} {v : Value} {l : List ByteArray} (h : bsK.own 9 lo w v l) (x : ByteArray) (hl : l.length + 1 ≤ 8796093022208) (hlo : lo ≤ w.heap.size) :
    ∃ v' w', (Builtin.append_ #[39, 39] 39 #[v, .slice (some ⟨w.heap.size, 0, none⟩) 1 1]).run Tryz.prog (w.alloc (.cells #[.string x] 9)) = .ok v' w' ∧ bsK.own 9 lo w' v' (l ++ [x]) ∧ (w.alloc (.cells #[.string x] 9)).grownBy w' v.ownBlock ∧ w.drawn ≤ w'.drawn ∧
      ∀ k, v'.ownBlock = some k → v.ownBlock = some k ∨ w.heap.size < k := by
  obtain ⟨i, i1, i2, i3, i4⟩ := infoStr
  exact Kind.own_more h Tryz.underlying39 i1 i2 i3 i4 rfl (by decide) (c := [.string x]) rfl (by omega) (by simp [maxLen]; omega) hlo

theorem enters_fill1 : ∀ args w, (callFunc 27 args).run Tryz.prog w = .ok (.enter 27 args) w := enters_of Tryz.func27 (by kernel_rfl) rfl

set_option maxHeartbeats 400000 in
theorem tellsFill (c : Nat) (u : Value) (l : List BindD) (w0 : World) (hc : w0.cell? ⟨c, 0, none⟩ = some u) (hb : c < w0.heap.size) (hu : bindK.sl Anyw w0 u l) : Tells 27 #[.pointer (some ⟨c, 0, none⟩)] l w0 := by
  intro w v hL
  have HG := hide (getC u l v w (Kind.sl_later hu hL))
  have hc' : w.cell? ⟨c, 0, none⟩ = some u := by rw [hL.cell hb]; exact hc
  have hb' : c < w.heap.size := Nat.lt_of_lt_of_le hb hL.size
  obtain ⟨a, cap, rfl⟩ := Kind.slice hu
  clear hu hc hb hL
  unfold toldV at HG ⊢
  generalize (getB l v).getD ByteArray.empty = s at *
  generalize (getB l v).isSome = b at *
  show Calls _ _ #[.string v, .pointer (some ⟨c, 0, none⟩)] _ _
  go_enter Tryz.func27, Tryz.ntmps27
  go_wp2_with (go_at_call 13; refine HG.out.mono ?_; rintro e w2 ⟨rfl, hL2⟩; replace hL2 := hide hL2)
  go_ret2
  exact ⟨rfl, unhide hL2⟩

theorem fillArgs_step {l : List BindD} {ts : List TermD} {j : Nat} {t : TermD} {r : List ByteArray} (h : ts[j]? = some t) (hr : fillArgs l (ts.take j) = some r) :
    fillArgs l (ts.take (j + 1)) = (worthB l t).map fun s => r ++ [s] := by
  have gen : ∀ (q : List TermD) (r : List ByteArray), fillArgs l q = some r → fillArgs l (q ++ [t]) = (worthB l t).map fun s => r ++ [s] := by
    intro q
    induction q with
    | nil =>
      intro r hr
      cases hr
      simp only [List.nil_append, fillArgs]
      cases worthB l t <;> rfl
    | cons x q ih =>
      intro r hr
      simp only [List.cons_append, fillArgs] at hr ⊢
      cases e : worthB l x with
      | none => rw [e] at hr; cases hr
      | some s =>
        rw [e] at hr
        dsimp only at hr ⊢
        cases e2 : fillArgs l q with
        | none => rw [e2] at hr; cases hr
        | some r' =>
          rw [e2] at hr
          cases hr
          rw [ih r' e2]
          cases worthB l t <;> rfl
  rw [List.take_add_one, h]
  exact gen _ r hr

theorem fillArgs_none {l : List BindD} : ∀ {ts q : List TermD}, fillArgs l ts = none → fillArgs l (ts ++ q) = none
  | [], _, h => by cases h
  | t :: ts, q, h => by
    simp only [List.cons_append, fillArgs] at h ⊢
    cases e : worthB l t with
    | none => rfl
    | some s =>
      rw [e] at h
      dsimp only at h ⊢
      cases e2 : fillArgs l ts with
      | none => rw [fillArgs_none e2]
      | some r => rw [e2] at h; cases h

theorem fillArgs_stop {l : List BindD} {ts : List TermD} {j : Nat} (h : fillArgs l (ts.take j) = none) : fillArgs l ts = none := by
  have := fillArgs_none (q := ts.drop j) h
  rwa [List.take_append_drop] at this

/-- What Fill tells. -/
def filled (a : AtomD) (l : List BindD) : FactD := (fillB a l).getD noFact

theorem heap_at (w : World) (o : Obj) (k : Nat) : (w.alloc o).heap[k]? = if k = w.heap.size then some o else w.heap[k]? := by
  split
  · rename_i h; subst h; exact heap_alloc_new w o
  · rename_i h
    by_cases hk : k < w.heap.size
    · exact Below.heap_alloc w o k hk
    · rw [Array.getElem?_eq_none (by simp; omega), Array.getElem?_eq_none (by omega)]

/-- A block of one cell, of two. -/
theorem row1 {w : World} {R : Nat} {u0 : Value} {t : TypeId} (h : w.heap[R]? = some (.cells #[u0] t (0, 0))) : w.cell? ⟨R, 0, none⟩ = some u0 ∧ w.frozen? ⟨R, 0, none⟩ = false ∧ R < w.heap.size :=
  ⟨by rw [cell_of_row _ _ _ _ _ _ h]; rfl, by simp [World.frozen?, h], (Array.getElem?_eq_some_iff.1 h).1⟩
theorem row2 {w : World} {R : Nat} {u0 u1 : Value} {t : TypeId} (h : w.heap[R]? = some (.cells #[u0, u1] t (0, 0))) : w.cell? ⟨R, 0, none⟩ = some u0 ∧ w.cell? ⟨R, 1, none⟩ = some u1 ∧ w.frozen? ⟨R, 0, none⟩ = false ∧ w.frozen? ⟨R, 1, none⟩ = false ∧ R < w.heap.size :=
  ⟨by rw [cell_of_row _ _ _ _ _ _ h]; rfl, by rw [cell_of_row _ _ _ _ _ _ h]; rfl, by simp [World.frozen?, h], by simp [World.frozen?, h], (Array.getElem?_eq_some_iff.1 h).1⟩
theorem set_at {w : World} {g j : Nat} {cs : Array Value} {t : TypeId} {fr : Nat × Nat} (h : w.heap[g]? = some (.cells cs t fr)) (u : Value) : (w.setCell ⟨g, j, none⟩ u).heap[g]? = some (.cells (cs.setIfInBounds j u) t fr) := by
  simp [World.setCell, Array.getElem?_modify, h]
theorem set_two {w : World} {R : Nat} {u0 u1 : Value} {t : TypeId} {fr : Nat × Nat} (h : w.heap[R]? = some (.cells #[u0, u1] t fr)) (x y : Value) :
    ((w.setCell ⟨R, 0, none⟩ x).setCell ⟨R, 1, none⟩ y).cell? ⟨R, 0, none⟩ = some x ∧ ((w.setCell ⟨R, 0, none⟩ x).setCell ⟨R, 1, none⟩ y).cell? ⟨R, 1, none⟩ = some y := by
  have h2 := set_at (j := 1) (set_at (j := 0) h x) y
  exact ⟨by rw [cell_of_row _ _ _ _ _ _ h2]; rfl, by rw [cell_of_row _ _ _ _ _ _ h2]; rfl⟩

theorem factV_kept {w w' : World} {n : ByteArray} {s : Value} {r : List ByteArray} {lo : Nat} (h : bsK.own 9 lo w s r) (hl : r.length ≤ 8796093022208) (hk : ∀ k, lo ≤ k → w'.heap[k]? = w.heap[k]?) (hs : w.heap.size ≤ w'.heap.size) : FactV w' (.agg #[.string n, s]) (n, r) :=
  ⟨s, rfl, bsK_strs (Kind.own_kept h hs fun k _ hlo => hk k hlo) hl⟩

/-- A fact whose arguments lie in a block that was not there. -/
def FarV (w w' : World) (v : Value) : Prop := ∃ n s, v = .agg #[n, s] ∧ ∀ k, s.ownBlock = some k → w.heap.size ≤ k ∧ k < w'.heap.size

set_option maxRecDepth 100000 in
set_option maxHeartbeats 2000000 in
theorem fillL (a : AtomD) (tv u : Value) (l : List BindD) (w : World) (ht : termK.sl Anyw w tv a.terms) (hu : bindK.sl Anyw w u l) :
    Calls Tryz.prog 8 #[.agg #[.bool a.no, .string (bs a.name), tv], u] w fun e w' => ∃ v, e = .returned (.tuple #[v, .bool (fillB a l).isSome]) ∧ FactV w' v (filled a l) ∧ Later w w' ∧ FarV w w' v := by
  obtain ⟨sa, cap, rfl⟩ := Kind.slice ht
  obtain ⟨sb, capb, rfl⟩ := Kind.slice hu
  have HT := hide ht
  have HU := hide hu
  have hn := ht.1.1
  clear ht hu
  obtain ⟨no, name, ts⟩ := a
  dsimp only at *
  have F : Hid (∀ r, fillArgs l ts = r → fillB ⟨no, name, ts⟩ l = r.map fun x => (bs name, x)) := fun r h => by unfold fillB; rw [h]; cases r <;> rfl
  unfold filled
  generalize hfb : fillB ⟨no, name, ts⟩ l = fb at *
  clear hfb
  generalize bs name = nm at *
  go_enter Tryz.func8, Tryz.ntmps8
  go_wp2
  go_loopg [19] ts.length (fun g i wr => ∃ j : Nat, j + g = ts.length ∧ i = .int .i64 j ∧ ∃ r o, Hid (fillArgs l (ts.take j) = some r) ∧ Hid (bsK.own 9 (w.heap.size + 4) wr o r) ∧ Hid (r.length = j) ∧ Hid (Later w wr) ∧ w.heap.size + 4 ≤ wr.heap.size ∧
    Hid (wr.heap[w.heap.size + 1]? = some (.cells #[.slice sb l.length capb] 24 (0, 0))) ∧ Hid (wr.heap[w.heap.size + 2]? = some (.cells #[.string { data := #[] }, .slice none 0 0] 41 (0, 0))) ∧ Hid (wr.heap[w.heap.size + 3]? = some (.cells #[.string nm, o] 41 (0, 0))))
  case atStart =>
    refine ⟨0, by omega, rfl, [], .slice none 0 0, (rfl : _ = _), bsK.own_nil _ _ _, (rfl : _ = _), ((by repeat (first | exact Later.refl _ | assumption | refine Later.drewN ?_ _ | refine Later.drew ?_ | refine Later.alloc ?_ _ | refine Later.grow ?_ _)) : Later _ _), by simp, ?_, ?_, ?_⟩
    all_goals
      show _ = _
      simp only [heap_at, World.size_alloc]
      repeat (first | rw [if_pos trivial] | rw [if_pos (by omega)] | rw [if_neg (by omega)])
  case round =>
    obtain ⟨j, hj, rfl, r, o, HR, HO, hrl, HL, hsz, H1, H2, H3⟩ := hrel
    obtain ⟨ao, co, rfl⟩ := Kind.own_slice HO.out
    by_cases hlt : j < ts.length
    · obtain ⟨x, hx⟩ : ∃ x, ts[j]? = some x := ⟨_, List.getElem?_eq_getElem hlt⟩
      obtain ⟨b1, o1, _, rfl, hb1, rfl, hc⟩ := Kind.sl_at HT.out hx
      have d0 : wr.cell? ⟨b1, o1 + j * 2, none⟩ = some (.bool x.1) := by rw [HL.out.cell hb1]; exact hc 0 _ rfl
      have d1 : wr.cell? ⟨b1, o1 + j * 2 + 1, none⟩ = some (.string (bs x.2)) := by rw [HL.out.cell hb1]; exact hc 1 _ rfl
      have hbr : b1 < wr.heap.size := by omega
      have HS := hide (fillArgs_step hx HR.out)
      obtain ⟨wt, hwt⟩ : ∃ wt, wt = wr.alloc (.cells #[.bool x.1, .string (bs x.2)] 70) := ⟨_, rfl⟩
      have hLt : Later w wt := by rw [hwt]; exact HL.out.alloc _
      have hst : wt.heap.size = wr.heap.size + 1 := by rw [hwt]; simp
      have hbl : ∀ k, k < wr.heap.size → wt.heap[k]? = wr.heap[k]? := fun k hk => by rw [hwt]; exact Below.heap_alloc _ _ _ hk
      have K1 := row1 ((hbl _ (by omega)).trans H1.out)
      have HW : Hid (Calls Tryz.prog 28 #[.agg #[.bool x.1, .string (bs x.2)], .func (.func 27) #[] #[.pointer (some ⟨w.heap.size + 1, 0, none⟩)]] wt fun e w2 => e = .returned (toldV (worthB l x)) ∧ Later wt w2) :=
        worthC _ _ enters_fill1 x l wt wt (tellsFill (w.heap.size + 1) _ l wt K1.1 K1.2.2 (Kind.sl_later HU.out hLt)) (Later.refl _)
      rw [hwt] at HW
      have HWT := hide hwt
      clear hc hx K1 hwt
      obtain ⟨x1, x2⟩ := x
      dsimp only at *
      cases hw : worthB l (x1, x2) with
      | none =>
        rw [hw] at HW HS
        have HF : Hid (fb = none) := F.out none (fillArgs_stop HS.out)
        have hw0 : toldV none = .tuple #[.string ByteArray.empty, .bool false] := rfl
        rw [hw0] at HW
        clear hw hw0 HS
        generalize bs x2 = kx at *
        go_wp2_with fail
        refine HW.out.mono ?_
        rintro e w2 ⟨rfl, hL2⟩
        rw [← HWT.out] at hL2
        have hb2 : ∀ k, k < wr.heap.size → w2.heap[k]? = wr.heap[k]? := fun k hk => (hL2.block (by omega)).trans (hbl k hk)
        have Z2 := hide ((hb2 _ (by omega)).trans H2.out)
        obtain ⟨q0, q1, p0, p1, q2⟩ := row2 Z2.out
        have HL2 := hide (hLt.trans hL2)
        clear hL2 hb2 HW
        go_wp2
        obtain ⟨r0, r1⟩ := set_two Z2.out (.string { data := #[] }) (.slice none 0 0)
        refine bodyPost_ret (v := .tuple #[.agg #[.string { data := #[] }, .slice none 0 0], .bool false]) (by simp [results, Tryz.results8, go_sem, r0, r1]) rfl ⟨_, by rw [HF.out]; rfl, ?_, ?_, _, _, rfl, fun k e => by simp [Value.ownBlock] at e⟩
        · rw [HF.out]
          exact ⟨_, rfl, by simp [noFact], none, 0, rfl, fun h => absurd rfl h⟩
        · exact (HL2.out.setCell (by show w.heap.size ≤ w.heap.size + 2; omega) _).setCell (by show w.heap.size ≤ w.heap.size + 2; omega) _
      | some s =>
        rw [hw] at HW HS
        have HS1 : Hid (fillArgs l (ts.take (j + 1)) = some (r ++ [s])) := HS.out
        have hw0 : toldV (some s) = .tuple #[.string s, .bool true] := rfl
        rw [hw0] at HW
        clear hw hw0 HS
        generalize bs x2 = kx at *
        go_wp2_with fail
        refine HW.out.mono ?_
        rintro e w2 ⟨rfl, hL2⟩
        rw [← HWT.out] at hL2
        have hb2 : ∀ k, k < wr.heap.size → w2.heap[k]? = wr.heap[k]? := fun k hk => (hL2.block (by omega)).trans (hbl k hk)
        have hs2 : wr.heap.size < w2.heap.size := by have := hL2.size; omega
        obtain ⟨q0, q1, p0, p1, q2⟩ := row2 ((hb2 _ (by omega)).trans H3.out)
        obtain ⟨v', w4, hrun, hO4, hg4, hd4, hv4⟩ := appendArg (Kind.own_kept HO.out (Nat.le_of_lt hs2) fun k hk _ => hb2 k hk) s (by have := hrl.out; omega) (by omega)
        have hlo : ∀ k, (Value.slice ao r.length co).ownBlock = some k → w.heap.size + 4 ≤ k := fun k e => (Kind.own_lt HO.out e).1
        have hb4 : ∀ k, k < w.heap.size + 4 → w4.heap[k]? = wr.heap[k]? := fun k hk => by
          rw [hg4.block k (by simp; omega) (fun e => by have := hlo k e.symm; omega), Below.heap_alloc _ _ _ (by omega)]
          exact hb2 k (by omega)
        have hs4 : w2.heap.size < w4.heap.size := by have := hg4.size; simp at this; omega
        have HL4 := hide ((hLt.trans hL2).more hg4 hd4 fun k e => by have := hlo k e; omega)
        have Z3 := hide ((hb4 _ (by omega)).trans H3.out)
        obtain ⟨_, y1, _, t1, y2⟩ := row2 Z3.out
        have Z1 := hide ((hb4 _ (by omega)).trans H1.out)
        have Z2 := hide ((hb4 _ (by omega)).trans H2.out)
        obtain ⟨a4, n4, c4, rfl⟩ : ∃ a n c, v' = .slice a n c := by obtain ⟨a, c, e⟩ := Kind.own_slice hO4; exact ⟨a, _, c, e⟩
        have HR4 := hide hrun
        have HO4 := hide hO4
        clear hL2 hb2 HW hrun hO4 hg4 hd4 hv4 hb4
        go_wp2_with (at_builtin; refine wpList_append_run rfl (.tmp 33) (.tmp 35) 39 rfl _ _ _ _ rfl rfl HR4.out ?_)
        go_roundg (ts.length - (j + 1))
        case measure => omega
        case rel =>
          refine ⟨j + 1, by omega, by go_num, r ++ [s], .slice a4 n4 c4, HS1, ?_, (by simp [hrl.out] : (r ++ [s]).length = j + 1), ?_, ?_, ?_, ?_, ?_⟩
          · exact Kind.own_kept HO4.out (by simp [World.setCell]) fun k _ hk => Below.heap_setCell _ _ _ _ (by show k ≠ w.heap.size + 3; omega)
          · exact (Later.setCell HL4.out (p := ⟨w.heap.size + 1 + 1 + 1, 1, none⟩) (by show w.heap.size ≤ w.heap.size + 3; omega) _ : Later _ _)
          · simp [World.setCell]; omega
          · show _ = _
            rw [Below.heap_setCell _ _ _ _ (by show w.heap.size + 1 ≠ w.heap.size + 3; omega)]; exact Z1.out
          · show _ = _
            rw [Below.heap_setCell _ _ _ _ (by show w.heap.size + 2 ≠ w.heap.size + 3; omega)]; exact Z2.out
          · show _ = _
            rw [set_at Z3.out]; rfl
    · have e : j = ts.length := by omega
      subst e
      have HR1 : Hid (fb = some (nm, r)) := by
        have := HR.out
        rw [List.take_length] at this
        exact F.out _ this
      obtain ⟨q0, q1, p0, p1, q2⟩ := row2 H2.out
      obtain ⟨y0, y1, t0, t1, y2⟩ := row2 H3.out
      go_wp2
      obtain ⟨r0, r1⟩ := set_two (R := w.heap.size + 1 + 1) H2.out (.string nm) (.slice ao r.length co)
      refine bodyPost_ret (v := .tuple #[.agg #[.string nm, .slice ao r.length co], .bool true]) (by simp [results, Tryz.results8, go_sem, r0, r1]) rfl ⟨_, by rw [HR1.out]; rfl, ?_, ?_, _, _, rfl, fun k e => ?_⟩
      · rw [HR1.out]
        refine factV_kept HO.out (by have := hrl.out; omega) (fun k hk => ?_) (by simp [World.setCell])
        rw [Below.heap_setCell _ _ _ _ (by show k ≠ w.heap.size + 2; omega), Below.heap_setCell _ _ _ _ (by show k ≠ w.heap.size + 2; omega)]
      · exact (HL.out.setCell (by show w.heap.size ≤ w.heap.size + 2; omega) _).setCell (by show w.heap.size ≤ w.heap.size + 2; omega) _
      · have := Kind.own_lt HO.out e
        rw [size_setCell, size_setCell]
        omega

theorem fillC (a : AtomD) (tv u : Value) (l : List BindD) (w : World) (ht : termK.sl Anyw w tv a.terms) (hu : bindK.sl Anyw w u l) :
    Calls Tryz.prog 8 #[.agg #[.bool a.no, .string (bs a.name), tv], u] w fun e w' => ∃ v, e = .returned (.tuple #[v, .bool (fillB a l).isSome]) ∧ FactV w' v (filled a l) ∧ Later w w' :=
  (fillL a tv u l w ht hu).mono fun _ _ ⟨v, h1, h2, h3, _⟩ => ⟨v, h1, h2, h3⟩

end Go.Proofs.YtkijmalapjiopaaGreat

/- The reference's Try: an atom tried on a fact. -/
namespace Go.Proofs.YtkijmalapjiopaaGreat
open Go.RowKit Go.Sort Go.Maps

/-- What Try answers. -/
def TryT (w : World) (lo n : Nat) (e : Ending) : Option (List BindD) → Prop
  | none => e = .returned (.map none)
  | some l => ∃ b, e = .returned (.map (some b)) ∧ lo ≤ b ∧ EnvM w b n l

theorem tryGo_step {l : List BindD} {ts : List TermD} {xs : List ByteArray} {j : Nat} {t : TermD} {x : ByteArray} (ht : ts[j]? = some t) (hx : xs[j]? = some x) :
    meetGo l (ts.drop j) (xs.drop j) = match worthB l t with
      | none => meetGo (l ++ [(bs t.2, x)]) (ts.drop (j + 1)) (xs.drop (j + 1))
      | some s => if s = x then meetGo l (ts.drop (j + 1)) (xs.drop (j + 1)) else none := by
  have h1 : ts.drop j = t :: ts.drop (j + 1) := by
    obtain ⟨h, e⟩ := List.getElem?_eq_some_iff.1 ht
    rw [List.drop_eq_getElem_cons h, e]
  have h2 : xs.drop j = x :: xs.drop (j + 1) := by
    obtain ⟨h, e⟩ := List.getElem?_eq_some_iff.1 hx
    rw [List.drop_eq_getElem_cons h, e]
  rw [h1, h2]
  rfl

set_option maxRecDepth 100000 in
set_option maxHeartbeats 4000000 in
theorem rTry (a : AtomD) (f : FactB) (l : List BindD) (b n q : Nat) (tv fv : Value) (w : World) (ht : termK.sl Anyw w tv a.terms) (hf : FactV w fv f) (he : EnvM w b n l) (h4 : a.terms.length ≤ q) (hn : n + q ≤ 10000000) (hts : ∀ t ∈ a.terms, t.2.length ≤ maxLen) (hfs : ∀ s ∈ f.2, s.size ≤ maxLen) :
    Calls Tryz.prog 12 #[.agg #[.bool a.no, .string (bs a.name), tv], fv, .map (some b)] w fun e w' => TryT w' w.heap.size (n + q) e (meetB a f l) ∧ Below w.heap.size w w' := by
  obtain ⟨sf, rfl, hsf⟩ := hf
  obtain ⟨ta, tc, rfl⟩ := Kind.slice ht
  obtain ⟨fa, fc, rfl⟩ := sliceStr hsf
  obtain ⟨no, name, ts⟩ := a
  obtain ⟨fn, args⟩ := f
  dsimp only at *
  have hargs0 := hsf.1
  have HT := hide ht
  have HSF := hide hsf
  have HE := hide he
  have HTS := hide hts
  have HFS := hide hfs
  clear ht hsf he hts hfs
  obtain ⟨nm, hnm⟩ : ∃ nm, nm = bs name := ⟨_, rfl⟩
  rw [← hnm]
  by_cases hname : nm = fn
  · by_cases hlen : ts.length = args.length
    · have HM : Hid (meetB ⟨no, name, ts⟩ (fn, args) l = meetGo l (ts.drop 0) (args.drop 0)) := by
        show _ = _
        unfold meetB
        rw [if_pos ⟨by rw [← hnm]; exact hname, hlen⟩]
        rfl
      generalize meetB ⟨no, name, ts⟩ (fn, args) l = res at *
      clear hnm
      subst hname
      have hmm := @run_makeMap Tryz.prog
      obtain ⟨D0, hown, hD0⟩ := HE.out
      have hsz0 := hown.size_le
      have hbl := hown.lt
      obtain ⟨w2, hw2⟩ : ∃ w2, w2 = (w.alloc (.cells #[.bool no, .string nm, .slice ta ts.length tc] 38)).alloc (.cells #[.string nm, .slice fa args.length fc] 41) := ⟨_, rfl⟩
      have hL2 : Later w w2 := by rw [hw2]; exact ((Later.refl w).alloc _).alloc _
      have hs2 : w2.heap.size = w.heap.size + 2 := by rw [hw2]; simp
      have hown2 : (w2.alloc (.map #[] 0)).ownsMap Tryz.prog 9 (plainElem Tryz.prog 9) b n D0 := (owns_block hown (hL2.block hbl)).alloc _
      have hR0 : (w2.alloc (.map #[] 0)).heap[w.heap.size]? = some (.cells #[.bool no, .string nm, .slice ta ts.length tc] 38 (0, 0)) := by
        rw [hw2]; simp only [heap_at, World.size_alloc]
        repeat (first | rw [if_pos trivial] | rw [if_pos (by omega)] | rw [if_neg (by omega)])
      have hR1 : (w2.alloc (.map #[] 0)).heap[w.heap.size + 1]? = some (.cells #[.string nm, .slice fa args.length fc] 41 (0, 0)) := by
        rw [hw2]; simp only [heap_at, World.size_alloc]
        repeat (first | rw [if_pos trivial] | rw [if_pos (by omega)] | rw [if_neg (by omega)])
      have hMd : (w2.alloc (.map #[] 0)).ownsMap Tryz.prog 9 (plainElem Tryz.prog 9) (w.heap.size + 2) 0 (.map [] : DataW Unit) := by rw [← hs2]; exact World.ownsMap_made _ _ _ _
      have hL3 : Later w (w2.alloc (.map #[] 0)) := hL2.alloc _
      have e1 : (w2.alloc (.map #[] 0)).heap.size = w.heap.size + 3 := by simp [hs2]
      obtain ⟨w3, hw3⟩ : ∃ w3, w3 = w2.alloc (.map #[] 0) := ⟨_, rfl⟩
      rw [← hw3] at hown2 hR0 hR1 hMd hL3 e1
      rw [hw2] at hw3
      have HGet : Hid (∀ j, j < args.length → ∃ t, ts[j]? = some t) := fun j hj => ⟨_, List.getElem?_eq_getElem (by omega)⟩
      have h4a : args.length ≤ q := by omega
      have HDrop : Hid (ts.drop args.length = []) := List.drop_eq_nil_of_le (by omega)
      rw [hlen] at *
      have HW3 := hide hw3
      have HL3 := hide hL3.below
      have HOwn := hide hown
      have HOwn2 := hide hown2
      have HMd := hide hMd
      have HD0 := hide hD0
      have HR0 := hide hR0
      have HR1 := hide hR1
      clear hw2 hL2 hown hown2 hD0 hR0 hR1 hMd hL3 hw3 hs2
      have hKs := string_keyed (P := Tryz.prog) Tryz.underlying9
      go_enter Tryz.func12, Tryz.ntmps12
      go_wp2_with (first
        | (at_range; rw [← HW3.out]; refine wpList_range_own _ rfl _ 32 rfl 9 9 hKs Tryz.underlying32 _ b n _ rfl HOwn2.out ?_; intro w0 hrg0 hg0 hs0)
        | go_in)
      try go_frame
      rw [e1] at hrg0 hs0
      go_loopw [32] (fun _ wr => ∃ (left : Lit → Bool) (cnt : Nat) (Dout : DataW Unit), wr.ranges Tryz.prog 9 (plainElem Tryz.prog 9) b (w.heap.size + 3) n D0 left cnt ∧ cnt ≤ Maps.size D0 ∧
          wr.ownsMap Tryz.prog 9 (plainElem Tryz.prog 9) (w.heap.size + 2) (Maps.size D0 - cnt) Dout ∧ Agree Dout D0 left ∧ Below w.heap.size w wr ∧
          wr.heap[w.heap.size]? = some (.cells #[.bool no, .string nm, .slice ta args.length tc] 38 (0, 0)) ∧ wr.heap[w.heap.size + 1]? = some (.cells #[.string nm, .slice fa args.length fc] 41 (0, 0)) ∧ w.heap.size + 3 < wr.heap.size)
        (fun _ wr => wr.rangeLeft b (w.heap.size + 3))
      case atStart =>
        refine ⟨_, _, .map [], hrg0, Nat.le_refl _, (HMd.out.kept hg0 (by simp)).mono (Nat.zero_le _), agree_start D0, HL3.out.grown hg0 (by omega) (fun j hj => by cases hj), ?_, ?_, by omega⟩
        · rw [hg0.block _ (by omega) (by simp)]; exact HR0.out
        · rw [hg0.block _ (by omega) (by simp)]; exact HR1.out
      case round =>
        clear hrg0 hg0 hs0
        obtain ⟨left, cnt, Dout, hrg, hcs, hout, hA, hnx, hr0, hr1, hsz⟩ := hrel
        go_wp2_with (first
          | (at_next; refine wpList_next_ranges _ rfl _ rfl 9 hKs (plainElem Tryz.prog 9) encStr Value.string (fun key kl hk => by obtain ⟨x, hx, _⟩ := Maps.keyOf_str Tryz.underlying9 hk; exact ⟨x, hx⟩) (fun v y hv => by obtain ⟨c, rfl, _⟩ := plainElem_string_inv Tryz.underlying9 hv; exact ⟨c, rfl⟩) b (w.heap.size + 3) n _ _ _ rfl hrg ?_ ?_)
          | go_in)
        · intro hc0 hl0
          subst hc0
          have e := agree_end hA hl0 (hout.canon hKs) (HOwn.out.canon hKs)
          subst e
          have HEn : Hid (EnvM wr (w.heap.size + 2) (n + 0) l) := ⟨Dout, hout.mono (by omega), HD0.out⟩
          have HBn := hide hnx
          have HR0 := hide hr0
          have HR1 := hide hr1
          have c2 : wr.cell? ⟨w.heap.size, 2, none⟩ = some (.slice ta args.length tc) := by rw [cell_of_row _ _ _ _ _ _ hr0]; rfl
          clear hrg hcs hout hA hnx hr0 hr1 HOwn HOwn2 HMd HD0 hsz0 HE hbl HL3 HW3 e1
          have hltA : ((0 : Nat) : Int) ≤ (args.length : Int) := by omega
          go_wp2
          go_loopg [43] args.length (fun g i wr2 => ∃ j : Nat, j + g = args.length ∧ i = .int .i64 j ∧ ∃ lj, Hid (EnvM wr2 (w.heap.size + 2) (n + j) lj) ∧ Hid (res = meetGo lj (ts.drop j) (args.drop j)) ∧ Hid (Below w.heap.size w wr2) ∧
            Hid (wr2.heap[w.heap.size + 1]? = some (.cells #[.string nm, .slice fa args.length fc] 41 (0, 0))) ∧ w.heap.size + 3 < wr2.heap.size)
          case atStart => exact ⟨0, by omega, rfl, l, HEn, HM, HBn, HR1, hsz⟩
          case round =>
            clear HEn HBn HR0 HR1 HM c2 hsz
            rename_i wo
            obtain ⟨j, hj, rfl, lj, HEn, HM, HBn, HR1, hsz⟩ := hrel
            by_cases hlt : j < args.length
            · obtain ⟨t, htj⟩ := HGet.out j hlt
              obtain ⟨x, hxj⟩ : ∃ x, args[j]? = some x := ⟨_, List.getElem?_eq_getElem hlt⟩
              obtain ⟨b1, o1, _, rfl, hb1, rfl, hc⟩ := Kind.sl_at HT.out htj
              obtain ⟨_, a3, cap3, ea, hc3⟩ := HSF.out
              injection ea with e1' e2' e3'
              subst e1'
              subst e3'
              obtain ⟨b3, o3, rfl, hb3, hc3⟩ := hc3 (by intro e; rw [e] at hlt; simp at hlt)
              have d0 : wr.cell? ⟨b1, o1 + j * 2, none⟩ = some (.bool t.1) := by rw [HBn.out.cell (p := ⟨b1, o1 + j * 2, none⟩) hb1]; exact hc 0 _ rfl
              have d1 : wr.cell? ⟨b1, o1 + j * 2 + 1, none⟩ = some (.string (bs t.2)) := by rw [HBn.out.cell (p := ⟨b1, o1 + j * 2 + 1, none⟩) hb1]; exact hc 1 _ rfl
              have d3 : wr.cell? ⟨b3, o3 + j, none⟩ = some (.string x) := by
                rw [HBn.out.cell (p := ⟨b3, o3 + j, none⟩) hb3, hc3 j hlt, List.getD_eq_getElem?_getD, hxj]; rfl
              have f1 : wr.cell? ⟨w.heap.size + 1, 1, none⟩ = some (.slice (some ⟨b3, o3, none⟩) args.length fc) := by rw [cell_of_row _ _ _ _ _ _ HR1.out]; rfl
              have hstep := tryGo_step (l := lj) htj hxj
              have HTl := HTS.out t (List.mem_of_getElem? htj)
              have HXl := HFS.out x (List.mem_of_getElem? hxj)
              have hbr1 : b1 < wr.heap.size := by omega
              have hbr3 : b3 < wr.heap.size := by omega
              have hbr4 : w.heap.size + 1 < wr.heap.size := by omega
              obtain ⟨wt, hwt⟩ : ∃ wt, wt = wr.alloc (.cells #[.bool t.1, .string (bs t.2)] 70) := ⟨_, rfl⟩
              have hLt : Later wr wt := by rw [hwt]; exact (Later.refl _).alloc _
              have hEt := HEn.out.later hLt
              have hBt : Below w.heap.size w wt := below_trans HBn.out hLt.below HBn.out.size
              have hRt := (hLt.block (Array.getElem?_eq_some_iff.1 HR1.out).1).trans HR1.out
              have hst : wt.heap.size = wr.heap.size + 1 := by rw [hwt]; simp
              clear hc hc3 htj hxj
              obtain ⟨t1, t2⟩ := t
              dsimp only at *
              cases t1
              · have hw : worthB lj (false, t2) = some (bs t2) := by simp [worthB]
                rw [hw] at hstep
                dsimp only at hstep
                by_cases hx : bs t2 = x
                · rw [if_pos hx, ← HM.out] at hstep
                  have HM' := hide hstep
                  have HE' := hide (hEt.mono (Nat.le_succ _))
                  have HB' := hide hBt
                  have HR' := hide hRt
                  rw [hwt] at HE' HB' HR'
                  rw [← hx] at d3
                  clear hstep hw hx hEt hBt hRt hwt hLt HEn HM HTl HXl
                  generalize bs t2 = tk at *
                  go_wp2
                  go_roundg (args.length - (j + 1))
                  case measure => omega
                  case rel => exact ⟨j + 1, by omega, by go_num, lj, HE', HM', HB', HR', by simp; omega⟩
                · rw [if_neg hx, ← HM.out] at hstep
                  have HB' := hide hBt
                  rw [hwt] at HB'
                  have hne : ((bs t2).toList == x.toList) = false := by rw [eq_list]; simp [hx]
                  have HN := hide hstep
                  clear hstep hw hEt hBt hRt hwt hLt HEn HTl HXl HM hx
                  generalize bs t2 = tk at *
                  go_wp2
                  go_ret
                  refine ⟨?_, HB'.out⟩
                  rw [HN.out]
                  exact rfl
              · have hlk := hEt.look (s := t2) HTl
                have hw : worthB lj (true, t2) = getB lj (bs t2) := by simp [worthB]
                rw [hw] at hstep
                cases hg : getB lj (bs t2) with
                | some y =>
                  rw [hg] at hstep hlk
                  dsimp only [Option.getD_some, Option.isSome_some] at hstep hlk
                  by_cases hx : y = x
                  · rw [if_pos hx, ← HM.out] at hstep
                    subst hx
                    have HM' := hide hstep
                    have HE' := hide (hEt.mono (Nat.le_succ _))
                    have HB' := hide hBt
                    have HR' := hide hRt
                    have HLk := hide hlk
                    rw [hwt] at HE' HB' HR' HLk
                    clear hstep hw hg hEt hBt hRt hwt hLt HEn HM HTl HXl hlk
                    generalize bs t2 = tk at *
                    go_wp2_with (at_lookup; refine wpList_run_lookup _ rfl _ _ _ _ rfl _ _ _ rfl rfl HLk.out ?_)
                    go_roundg (args.length - (j + 1))
                    case measure => omega
                    case rel => exact ⟨j + 1, by omega, by go_num, lj, HE', HM', HB', HR', by simp; omega⟩
                  · rw [if_neg hx, ← HM.out] at hstep
                    have HN := hide hstep
                    have HB' := hide hBt
                    have HLk := hide hlk
                    rw [hwt] at HB' HLk
                    have hne : (y.toList == x.toList) = false := by rw [eq_list]; simp [hx]
                    clear hstep hw hg hEt hBt hRt hwt hLt HEn HM HTl HXl hlk hx
                    generalize bs t2 = tk at *
                    go_wp2_with (at_lookup; refine wpList_run_lookup _ rfl _ _ _ _ rfl _ _ _ rfl rfl HLk.out ?_)
                    go_ret
                    refine ⟨?_, HB'.out⟩
                    rw [HN.out]
                    exact rfl
                | none =>
                  obtain ⟨w6, hup, hE6, hg6⟩ := hEt.store (by unfold maxLen; omega) HTl hg HXl
                  rw [hg] at hstep hlk
                  dsimp only [Option.getD_none, Option.isSome_none] at hstep hlk
                  rw [← HM.out] at hstep
                  have HM' := hide hstep
                  have HE' := hide hE6
                  have hB6 : Below w.heap.size w w6 := hBt.grown hg6 hBt.size (fun j hj => by cases hj; omega)
                  have hR6 : w6.heap[w.heap.size + 1]? = some (.cells #[.string nm, .slice (some ⟨b3, o3, none⟩) args.length fc] 41 (0, 0)) := by
                    rw [hg6.block _ (by omega) (fun e => by have := Option.some.inj e; omega)]; exact hRt
                  have hs6 : wt.heap.size ≤ w6.heap.size := hg6.size
                  have f6 : w6.cell? ⟨w.heap.size + 1, 1, none⟩ = some (.slice (some ⟨b3, o3, none⟩) args.length fc) := by rw [cell_of_row _ _ _ _ _ _ hR6]; rfl
                  have d6 : w6.cell? ⟨b3, o3 + j, none⟩ = some (.string x) := by
                    rw [hB6.cell (p := ⟨b3, o3 + j, none⟩) hb3, ← HBn.out.cell (p := ⟨b3, o3 + j, none⟩) hb3]; exact d3
                  have HB' := hide hB6
                  have HR' := hide hR6
                  have HLk := hide hlk
                  have HUp := hide hup
                  rw [hwt] at HLk HUp
                  have hsz6 : w.heap.size + 3 < w6.heap.size := by omega
                  clear hstep hw hg hEt hBt hRt hwt hLt HEn HM HTl HXl hlk hup hE6 hg6 hB6 hR6 hs6 hst
                  generalize bs t2 = tk at *
                  go_wp2_with (first
                    | (at_lookup; refine wpList_run_lookup _ rfl _ _ _ _ rfl _ _ _ rfl rfl HLk.out ?_)
                    | (at_mapUpdate; refine wpList_run_update _ rfl _ _ _ _ rfl _ _ _ _ rfl rfl rfl HUp.out ?_))
                  go_roundg (args.length - (j + 1))
                  case measure => omega
                  case rel => exact ⟨j + 1, by omega, by go_num, _, HE', HM', HB', HR', hsz6⟩
            · have hj' : j = args.length := by omega
              subst hj'
              have hm := HM.out
              rw [HDrop.out] at hm
              have HR : Hid (res = some lj) := hm
              have HE' := hide (HEn.out.mono (m := n + q) (by omega))
              clear hm HM HEn
              go_wp2
              go_ret
              refine ⟨?_, HBn.out⟩
              rw [HR.out]
              exact ⟨_, rfl, by omega, HE'.out⟩
        · intro x c kl yd yp w4 cnt4 hkey hlk hv hat hrg4 hlt4 hg4 hs4 hen
          obtain ⟨x', ex, rfl, _⟩ := Maps.keyOf_str Tryz.underlying9 hkey
          obtain rfl : x = x' := encStr_inj ex
          clear ex
          have hout4 := hout.kept hg4 (by simp)
          go_wp2_with (first
            | (at_mapUpdate; refine wpList_mapUpdate_own _ rfl _ _ _ 32 rfl 9 9 hKs Tryz.underlying32 _ (w.heap.size + 2) _ _ rfl hout4 (by unfold maxLen; omega) _ _ _ rfl rfl hkey _ _ hv ?_; intro w5 hout5 hg5; go_frame)
            | go_in)
          have hrg5 := hrg4.kept hg5 (fun e => by have := Option.some.inj e; omega) (fun e => by have := Option.some.inj e; omega)
          go_roundw
          case rel =>
            refine ⟨_, cnt4, _, hrg5, by omega, hout5.mono (by omega), agree_step hA hout.isMap trivial hat,
              (hnx.grown hg4 hnx.size (fun j hj => by cases hj; omega)).grown hg5 (by have := hnx.size; omega) (fun j hj => by cases hj; omega), ?_, ?_, by have := hg5.size; omega⟩
            · rw [hg5.block _ (by omega) (fun e => by have := Option.some.inj e; omega), hg4.block _ (by omega) (fun e => by have := Option.some.inj e; omega)]; exact hr0
            · rw [hg5.block _ (by omega) (fun e => by have := Option.some.inj e; omega), hg4.block _ (by omega) (fun e => by have := Option.some.inj e; omega)]; exact hr1
          case measure => rw [hrg5.left_eq, hrg.left_eq]; exact hlt4
    · have HM : Hid (meetB ⟨no, name, ts⟩ (fn, args) l = none) := by
        show _ = _
        unfold meetB
        rw [if_neg (fun h => hlen h.2)]
      generalize meetB ⟨no, name, ts⟩ (fn, args) l = res at *
      clear hnm
      subst hname
      have hne : ((ts.length : Int) != (args.length : Int)) = true := by
        have : ¬ (ts.length : Int) = (args.length : Int) := by omega
        simpa using this
      clear hlen HE HTS HFS HT HSF
      go_enter Tryz.func12, Tryz.ntmps12
      go_wp2
      go_ret
      refine ⟨?_, ((by repeat (first | exact Later.refl _ | assumption | refine Later.drewN ?_ _ | refine Later.drew ?_ | refine Later.alloc ?_ _ | refine Later.grow ?_ _)) : Later _ _).below⟩
      rw [HM.out]
      exact rfl
  · have HM : Hid (meetB ⟨no, name, ts⟩ (fn, args) l = none) := by
      show _ = _
      unfold meetB
      rw [if_neg (fun h => hname (by rw [hnm]; exact h.1))]
    generalize meetB ⟨no, name, ts⟩ (fn, args) l = res at *
    clear hnm
    have hne : (nm.toList == fn.toList) = false := by rw [eq_list]; simp [hname]
    clear hname HE HTS HFS HT HSF
    go_enter Tryz.func12, Tryz.ntmps12
    go_wp2
    go_ret
    refine ⟨?_, ((by repeat (first | exact Later.refl _ | assumption | refine Later.drewN ?_ _ | refine Later.drew ?_ | refine Later.alloc ?_ _ | refine Later.grow ?_ _)) : Later _ _).below⟩
    rw [HM.out]
    exact rfl

end Go.Proofs.YtkijmalapjiopaaGreat
