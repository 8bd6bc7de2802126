/- slices.SortFunc at binds, and at lists of binds. -/
import Derived.Test.YthogickpeldhlaaGreatMtE
namespace Go.Proofs.YthogickpeldhlaaGreat
open Go.RowKit Go.Sort Go.Shelf

theorem swo_of {α : Type} {c : α → α → Int} (h : Three c) : SWO (ltOf c) where
  irrefl x := by unfold ltOf; rw [h.refl]; rfl
  trans x y z h1 h2 := by
    unfold ltOf at *
    rw [decide_eq_true_eq] at *
    exact h.trans _ _ _ h1 h2
  ntrans x y z h1 h2 := by
    unfold ltOf at *
    rw [decide_eq_false_iff_not] at *
    have e1 := h.swap x y
    have e2 := h.swap y z
    have e3 := h.swap x z
    have := h.le_trans (a := z) (b := y) (d := x) (by omega) (by omega)
    omega

theorem perm_in {α : Type} {inst : Inhabited α} {d d' : Array α} (h : PermIn 0 d.size d d') : d'.toList.Perm d.toList := by
  obtain ⟨h1, _, h3⟩ := h
  have e : d'.extract 0 d.size = d' := by rw [← h1]; simp
  rw [e] at h3
  simpa using h3

theorem sorted_in {α : Type} {inst : Inhabited α} {c : α → α → Int} (hc : Three c) {n : Nat} {d : Array α} (hn : d.size = n) (h : SortedIn (ltOf c) 0 n d) : d.toList.Pairwise fun a b => c a b ≤ 0 := by
  rw [List.pairwise_iff_getElem]
  intro i j hi hj hij
  have := h i j (Nat.zero_le _) hij (by simp at hj; omega)
  have e1 : d[i]! = d.toList[i] := by rw [getElem!_pos d i (by simpa using hi)]; simp
  have e2 : d[j]! = d.toList[j] := by rw [getElem!_pos d j (by simpa using hj)]; simp
  rw [e1, e2] at this
  unfold ltOf at this
  rw [decide_eq_false_iff_not] at this
  have := hc.swap d.toList[i] d.toList[j]
  omega

instance : Inhabited BindD := ⟨(ByteArray.empty, ByteArray.empty)⟩

theorem isAggB : ∀ w, (isAgg 34).run Tryz.prog w = .ok true w := Tryz.isAgg34
theorem sizeOfB : ∀ w, (Go.sizeOf 34).run Tryz.prog w = .ok 2 w := Tryz.sizeOf34

/-- Only one block has turned, if any. -/
structure OnlyB (p : Option Nat) (w w' : World) : Prop where
  os : w'.os = w.os
  tape : w'.tape = w.tape
  output : w'.output = w.output
  drawn : w.drawn ≤ w'.drawn
  size : w.heap.size ≤ w'.heap.size
  block : ∀ k, k < w.heap.size → p ≠ some k → w'.heap[k]? = w.heap[k]?

theorem OnlyB.refl (p : Option Nat) (w : World) : OnlyB p w w := ⟨rfl, rfl, rfl, Nat.le_refl _, Nat.le_refl _, fun _ _ _ => rfl⟩
theorem OnlyB.of_later {p : Option Nat} {w w' : World} (h : Later w w') : OnlyB p w w' := ⟨h.below.os, h.below.tape, h.below.output, h.drawn, h.size, fun _ hk _ => h.block hk⟩
theorem OnlyB.trans {p : Option Nat} {a b c : World} (h : OnlyB p a b) (k : OnlyB p b c) : OnlyB p a c :=
  ⟨k.os.trans h.os, k.tape.trans h.tape, k.output.trans h.output, Nat.le_trans h.drawn k.drawn, Nat.le_trans h.size k.size, fun i hi ho => (k.block i (Nat.lt_of_lt_of_le hi h.size) ho).trans (h.block i hi ho)⟩
theorem OnlyB.later {p : Option Nat} {w0 a b : World} (h : OnlyB p a b) (h0 : Later w0 a) (hp : ∀ k, p = some k → w0.heap.size ≤ k) : Later w0 b :=
  Later.of_below ⟨h.os.trans h0.below.os, h.tape.trans h0.below.tape, h.output.trans h0.below.output, Nat.le_trans h0.size h.size, fun k hk =>
    (h.block k (Nat.lt_of_lt_of_le hk h0.size) (fun e => by have := hp k e; omega)).trans (h0.block hk)⟩ (Nat.le_trans h0.drawn h.drawn)

theorem frozen_rw {w : World} {g : Nat} (j : Nat) {cs : Array Value} {t : TypeId} (h : w.heap[g]? = some (.cells cs t (0, 0))) : w.frozen? ⟨g, j, none⟩ = false := by
  simp [World.frozen?, h]

theorem holdsB {ty : TypeId} {lo g n cap : Nat} {w : World} {l : List BindD} (h : bindK.own ty lo w (.slice (some ⟨g, 0, none⟩) n cap) l) : HoldsK encB 2 w g 0 l.toArray := by
  have ho := own_cells h
  rcases ho.2 with ⟨e, _⟩ | ⟨g', cap', cur, e, hb, hg, _⟩
  · cases e
  · simp only [Value.slice.injEq, Option.some.injEq, Addr.mk.injEq] at e
    obtain ⟨⟨rfl, _⟩, rfl, rfl⟩ := e
    intro j hj
    rw [size_flatK] at hj
    simp only [List.size_toArray] at hj
    have hj2 : j / 2 < l.length := by omega
    rw [get_flatK _ _ _ _ (by simpa using hj)]
    refine ⟨?_, frozen_rw _ hg⟩
    have e1 := cellsB_at l (j / 2) (j % 2) (Nat.mod_lt _ (by omega))
    rw [List.getElem?_eq_getElem hj2, show j / 2 * 2 + j % 2 = j by omega] at e1
    have e2 : l.toArray[j / 2]! = l[j / 2] := by rw [getElem!_pos _ _ (by simpa using hj2)]; simp
    rw [e2]
    have hm : j % 2 < 2 := Nat.mod_lt _ (by omega)
    have e3 : (encB l[j / 2])[j % 2]? = some ((encB l[j / 2])[j % 2]!) := by
      rw [getElem!_pos _ _ (by simpa [encB] using hm), List.getElem?_eq_getElem]
    have := ho.cells (g := g) rfl j _ (e1.trans e3)
    rwa [Addr.add_lit] at this

/-- slices.SortFunc at binds, by match.compare: in its block. -/
theorem sortBC (lo : Nat) (v : Value) (l : List BindD) (w : World) (h : bindK.own 34 lo w v l) (hl : l.length ≤ 4398046511104) :
    Calls Tryz.prog 44 #[v, .func (.func 45) #[] #[]] w fun e w' => e = .returned (.tuple #[]) ∧ bindK.sl (ofBlock v) w' v (sortB l) ∧ OnlyB v.ownBlock w w' := by
  have hlen : (sortB l).length = l.length := (sortBy_perm l).length_eq
  rcases (own_cells h).2 with ⟨rfl, e⟩ | ⟨g, cap, cur, rfl, hbg, hg, hnc, _⟩
  · have : l = [] := List.eq_nil_of_length_eq_zero e
    subst this
    have e0 : sortB [] = [] := List.eq_nil_of_length_eq_zero hlen
    exact (AnyF.slices_SortFunc_none Tryz.sortBinds none 0 _ w).mono fun e w' ⟨he, hw⟩ => ⟨he, by rw [e0]; exact bindK.sl_nil _ _ _ _, by rw [hw]; exact OnlyB.refl _ _⟩
  · have hgl : g < w.heap.size := (Array.getElem?_eq_some_iff.1 hg).1
    have hc := AnyQ.slices_SortFunc Tryz.sortBinds 2 isAggB sizeOfB encB (fun _ => rfl) (fun x v hv => by
      simp [encB] at hv
      rcases hv with rfl | rfl <;> rfl) cmpB (swo_of three_cmpB) 45 #[] g 0 cap l.toArray w enters_compare (fun m os dk hd x y => (compareB x y _).mono fun e w' ⟨he, hw⟩ => ⟨he, hw⟩) (holdsB h) hgl (by simp; omega)
    have hsz : l.toArray.size = l.length := by simp
    rw [hsz] at hc
    refine hc.mono ?_
    rintro e w' ⟨he, d', n, os, hp, hs, rfl⟩
    have hd' : d'.size = l.toArray.size := hp.1
    have hkk : ∀ k, k < w.heap.size → k ≠ g → (sortWorldK encB 2 w g 0 n d' os).heap[k]? = w.heap[k]? := fun k hk hne => by
      unfold sortWorldK
      rw [heap_grow_old _ _ (by rw [size_putRowK]; exact hk)]
      simp only [putRowK, putRow, mapBlock]
      rw [Array.getElem?_modify, if_neg (fun e => hne e.symm)]
      rfl
    have hss : w.heap.size ≤ (sortWorldK encB 2 w g 0 n d' os).heap.size := by
      unfold sortWorldK
      rw [size_grow, size_putRowK]
      exact Nat.le_add_right _ _
    have hpl : d'.toList.Perm l := by have := perm_in (d := l.toArray) (d' := d') (by rw [hsz]; exact hp); simpa using this
    have e : sortB l = d'.toList := (sortBy_of three_cmpB hpl (sorted_in three_cmpB (by rw [hd', hsz]) hs)).symm
    refine ⟨he, ?_, ⟨rfl, rfl, rfl, Nat.le_add_right _ _, hss, fun k hk ho => hkk k hk (fun e => ho (by rw [e]; rfl))⟩⟩
    have H := holdsK_sortWorldK_c encB 2 w g 0 l.toArray d' n os (holdsB h) hgl hd'
    refine ⟨⟨by rw [hlen]; omega, hnc⟩, some ⟨g, 0, none⟩, cap, by rw [hlen], fun _ => ⟨g, 0, rfl, rfl, Nat.lt_of_lt_of_le hgl hss, fun i x hi => ⟨_, rfl, fun j u hu => ?_⟩⟩⟩
    rw [e] at hi
    have hil : i < d'.size := by simpa using (List.getElem?_eq_some_iff.1 hi).1
    have hj : j < 2 := (List.getElem?_eq_some_iff.1 hu).1
    have hcell := (H.cell (i := i) (c := j) hil hj).1
    have e2 : d'[i]! = x := by
      rw [getElem!_pos d' i hil]
      have := (List.getElem?_eq_some_iff.1 hi).2
      simpa using this
    rw [e2] at hcell
    have e3 : (encB x)[j]! = u := by
      rw [getElem!_pos _ _ (by simpa [encB] using hj)]
      exact (List.getElem?_eq_some_iff.1 hu).2
    rw [e3] at hcell
    exact hcell

/-- A list of a row, in the sort's own words. -/
structure ElemL (w : World) (blk : Nat) : Type where
  a : Option Addr
  cap : Nat
  l : List BindD
  h : bindK.sl (fun k => k ≠ blk) w (.slice a l.length cap) l

def ElemL.enc {w : World} {blk : Nat} (x : ElemL w blk) : Value := .slice x.a x.l.length x.cap
def ElemL.no (w : World) (blk : Nat) : ElemL w blk := ⟨none, 0, [], bindK.sl_nil _ _ _ _⟩
def ElemL.cmp {w : World} {blk : Nat} (x y : ElemL w blk) : Int := cmpBs x.l y.l

theorem ElemL.swo (w : World) (blk : Nat) : SWO (ltOf (ElemL.cmp (w := w) (blk := blk))) where
  irrefl x := (swo_of three_cmpBs).irrefl x.l
  trans x y z := (swo_of three_cmpBs).trans x.l y.l z.l
  ntrans x y z := (swo_of three_cmpBs).ntrans x.l y.l z.l

theorem heap_sortL {α : Type} (inst : Inhabited α) (enc : α → Value) (w : World) (blk off m : Nat) (d : Array α) (os : Array Obj) (k : Nat) (hk : k < w.heap.size) (hne : k ≠ blk) : (@sortWorld α inst enc w blk off m d os).heap[k]? = w.heap[k]? := by
  unfold sortWorld
  rw [heap_grow_old _ _ (by simp only [putRow, mapBlock, Array.size_modify]; exact hk)]
  simp only [putRow, mapBlock]
  rw [Array.getElem?_modify, if_neg (fun e => hne e.symm)]
  rfl

theorem size_sortL {α : Type} (inst : Inhabited α) (enc : α → Value) (w : World) (blk off m : Nat) (d : Array α) (os : Array Obj) : w.heap.size ≤ (@sortWorld α inst enc w blk off m d os).heap.size := by
  unfold sortWorld
  rw [size_grow]
  simp only [putRow, mapBlock, Array.size_modify]
  exact Nat.le_add_right _ _

theorem ElemL.sl {w W : World} {blk : Nat} (x : ElemL w blk) (hs : w.heap.size ≤ W.heap.size) (hk : ∀ k, k < w.heap.size → k ≠ blk → W.heap[k]? = w.heap[k]?) : bindK.sl (fun k => k ≠ blk) W x.enc x.l :=
  Kind.sl_kept x.h hs hk

theorem lays1 (w : World) (blk off size : Nat) : @CmpLays1 (ElemL w blk) ⟨ElemL.no w blk⟩ Tryz.prog 47 #[] ElemL.enc ElemL.cmp blk off size w := by
  intro m os dk hd x y
  have hs := size_sortL ⟨ElemL.no w blk⟩ ElemL.enc w blk off m dk os
  have hk := heap_sortL ⟨ElemL.no w blk⟩ ElemL.enc w blk off m dk os
  exact (risen1 _ _ x.l y.l _ (Kind.sl_any (x.sl hs hk)) (Kind.sl_any (y.sl hs hk))).mono fun e w' ⟨he, hw⟩ => ⟨he, hw⟩

/-- slices.SortFunc at lists of binds, by match.risen's closure: a row of lists that lie apart from it. -/
theorem sortLC (lo : Nat) (tyS : TypeId) (v : Value) (ps : List (Value × List BindD)) (w : World) (ho : w.ownsRow lo tyS 1 v ps.length (ps.map (·.1))) (hp : ∀ p ∈ ps, bindK.sl (fun k => v.ownBlock ≠ some k) w p.1 p.2) (hl : ps.length ≤ 4398046511104) :
    Calls Tryz.prog 46 #[v, .func (.func 47) #[] #[]] w fun e w' => e = .returned (.tuple #[]) ∧ listK.sl (From 0) w' v (sortBy cmpBs (ps.map (·.2))) ∧ OnlyB v.ownBlock w w' := by
  have hlen : (sortBy cmpBs (ps.map (·.2))).length = ps.length := by rw [(sortBy_perm (c := cmpBs) (ps.map (·.2))).length_eq]; simp
  rcases ho.2 with ⟨rfl, e⟩ | ⟨g, cap, cur, rfl, hbg, hg, hnc, _⟩
  · have : ps = [] := List.eq_nil_of_length_eq_zero e
    subst this
    have e0 : sortBy cmpBs (([] : List (Value × List BindD)).map (·.2)) = [] := List.eq_nil_of_length_eq_zero hlen
    exact (AnyF.slices_SortFunc_none { Tryz.sortLists with } none 0 _ w).mono fun e w' ⟨he, hw⟩ => ⟨he, by rw [e0]; exact listK.sl_nil _ _ _ _, by rw [hw]; exact OnlyB.refl _ _⟩
  · have hgl : g < w.heap.size := (Array.getElem?_eq_some_iff.1 hg).1
    have hel : ∀ i : Fin ps.length, ∃ x : ElemL w g, x.l = (ps[i.1]'i.2).2 ∧ x.enc = (ps[i.1]'i.2).1 := fun i => by
      have h1 := hp _ (List.getElem_mem i.2)
      obtain ⟨a, c, e⟩ := Kind.slice h1
      refine ⟨⟨a, c, (ps[i.1]'i.2).2, ?_⟩, rfl, e.symm⟩
      rw [← e]
      exact Kind.sl_mono h1 fun k _ hk e' => hk (by rw [e']; rfl)
    letI : Inhabited (ElemL w g) := ⟨ElemL.no w g⟩
    obtain ⟨d, hd⟩ : ∃ d : Array (ElemL w g), d = Array.ofFn fun i => Classical.choose (hel i) := ⟨_, rfl⟩
    have hds : d.size = ps.length := by rw [hd]; simp
    have hdl : d.toList.map ElemL.l = ps.map (·.2) := by
      apply List.ext_getElem
      · simp [hds]
      · intro i h1 h2
        have hi : i < ps.length := by simpa using h2
        simp only [List.getElem_map, Array.getElem_toList]
        have := (Classical.choose_spec (hel ⟨i, hi⟩)).1
        rw [← this]
        congr 1
        simp only [hd, Array.getElem_ofFn]
    have hH : Holds ElemL.enc w g 0 d := by
      intro j hj
      have hj' : j < ps.length := by omega
      refine ⟨?_, frozen_rw _ hg⟩
      have e1 : d[j]! = Classical.choose (hel ⟨j, hj'⟩) := by
        rw [getElem!_pos d j hj]
        simp only [hd, Array.getElem_ofFn]
      rw [e1, (Classical.choose_spec (hel ⟨j, hj'⟩)).2]
      have := ho.cells (g := g) rfl j _ (by rw [List.getElem?_map, List.getElem?_eq_getElem hj']; rfl)
      rwa [Addr.add_lit] at this
    have hc := Any.slices_SortFunc Tryz.sortLists ElemL.enc (fun _ => rfl) ElemL.cmp (ElemL.swo w g) 47 #[] g 0 cap d w enters_risen1 (lays1 w g 0 d.size) hH hgl (by omega)
    rw [hds] at hc
    refine hc.mono ?_
    rintro e w' ⟨he, d', n, os, hpm, hs, rfl⟩
    have hd' : d'.size = d.size := hpm.1
    have hkk := heap_sortL ⟨ElemL.no w g⟩ ElemL.enc w g 0 n d' os
    have hss := size_sortL ⟨ElemL.no w g⟩ ElemL.enc w g 0 n d' os
    have hpl : (d'.toList.map ElemL.l).Perm (ps.map (·.2)) := by
      rw [← hdl]
      exact (perm_in (d := d) (d' := d') (by rw [hds]; exact hpm)).map _
    have hso : (d'.toList.map ElemL.l).Pairwise fun a b => cmpBs a b ≤ 0 := by
      rw [List.pairwise_map, List.pairwise_iff_getElem]
      intro i j hi hj hij
      have := hs i j (Nat.zero_le _) hij (by simp at hj; omega)
      have e1 : d'[i]! = d'.toList[i] := by rw [getElem!_pos d' i (by simpa using hi)]; simp
      have e2 : d'[j]! = d'.toList[j] := by rw [getElem!_pos d' j (by simpa using hj)]; simp
      rw [e1, e2] at this
      unfold ltOf ElemL.cmp at this
      rw [decide_eq_false_iff_not] at this
      have := three_cmpBs.swap d'.toList[i].l d'.toList[j].l
      omega
    have e : sortBy cmpBs (ps.map (·.2)) = d'.toList.map ElemL.l := (sortBy_of three_cmpBs hpl hso).symm
    refine ⟨he, ?_, ⟨rfl, rfl, rfl, Nat.le_add_right _ _, hss, fun k hk ho => hkk k hk (fun e => ho (by rw [e]; rfl))⟩⟩
    have H := holds_sortWorld ElemL.enc w g 0 n d d' os hgl hH hd'
    refine ⟨⟨by rw [hlen]; omega, hnc⟩, some ⟨g, 0, none⟩, cap, by rw [hlen], fun _ => ⟨g, 0, rfl, Nat.zero_le _, Nat.lt_of_lt_of_le hgl hss, fun i x hi => ?_⟩⟩
    rw [e, List.getElem?_map] at hi
    cases hx : d'.toList[i]? with
    | none => rw [hx] at hi; cases hi
    | some y =>
      rw [hx] at hi
      cases hi
      have hil : i < d'.size := by simpa using (List.getElem?_eq_some_iff.1 hx).1
      refine ⟨[y.enc], ⟨y.enc, rfl, Kind.sl_mono (y.sl hss hkk) fun _ _ _ => Nat.zero_le _⟩, fun j u hu => ?_⟩
      cases j with
      | succ j => simp at hu
      | zero =>
        simp at hu
        subst hu
        have hcell := (H i hil).1
        have e2 : d'[i]! = y := by
          rw [getElem!_pos d' i hil]
          have := (List.getElem?_eq_some_iff.1 hx).2
          simpa using this
        rw [e2] at hcell
        show World.cell? _ ⟨g, 0 + i * 1 + 0, none⟩ = _
        rw [Nat.mul_one, Nat.add_zero]; exact hcell

end Go.Proofs.YthogickpeldhlaaGreat
