/- Texts of this claim, one behind the other. -/
import Derived.Test.YtbohggoeebhdmaaGreatDoorRows
import Derived.Test.YtbohggoeebhdmaaGreatDoorJ23
import Derived.JoinedCond
import Derived.Test.YtbohggoeebhdmaaGreatDoorJ6
import Derived.Lib.ItoaLen
import Derived.Lib.AppendIntMem
import Derived.Test.YtbohggoeebhdmaaGreatDoorJ12
import Derived.Test.YtbohggoeebhdmaaGreatDoorJ15
/- Lists of facts among a call's arguments, opened; what the bound on all that comes in gives. -/
namespace Go.Proofs.YtbohggoeebhdmaaGreatDoor
open Go.RowKit Go.Sort Go.ChangeShapes Go.WideShapes Go.ChangeAt Go.Deep

variable {H : Type} {enc : TypeId × Value → H} {W : World}

theorem bulk_one (d : DataW H) : 1 ≤ Rows.uptoBulk d := by
  cases d with
  | lit l => cases l <;> simp [Rows.uptoBulk]
  | nil => simp [Rows.uptoBulk]
  | ptr d => simp [Rows.uptoBulk]
  | slice elems spare => simp [Rows.uptoBulk]
  | agg parts => simp [Rows.uptoBulk]
  | iface t d => simp [Rows.uptoBulk]
  | map entries => simp [Rows.uptoBulk]
  | held h => simp [Rows.uptoBulk]

theorem bulk_part {d : DataW H} {l : List (DataW H)} (h : d ∈ l) : Rows.uptoBulk d ≤ Rows.uptoBulkAll l := by
  induction l with
  | nil => cases h
  | cons x r ih =>
    simp only [Rows.uptoBulkAll]
    cases List.mem_cons.1 h with
    | inl e => subst e; omega
    | inr e => have := ih e; omega

theorem bulk_length (l : List (DataW H)) : l.length ≤ Rows.uptoBulkAll l := by
  induction l with
  | nil => simp [Rows.uptoBulkAll]
  | cons x r ih => have := bulk_one x; simp only [Rows.uptoBulkAll, List.length_cons]; omega

/-- What the bound says of a fact. -/
theorem bulkFact {d : DataW H} (h : Rows.uptoBulk d ≤ 1048576) : ∀ y es sp, d = .agg [y, .slice es sp] → es.length ≤ 8796093022208 := by
  intro y es sp e
  subst e
  have := bulk_length es
  simp only [Rows.uptoBulk, Rows.uptoBulkAll] at h
  omega

theorem okF_no : okF noFact := ⟨by simp [noFact], fun s hs => by cases hs⟩

set_option maxRecDepth 100000 in
theorem openFacts {b0 : Nat} {v : Value} {d : DataW H} {p : List MemPlace} (hv : Value.okWide Tryz.prog W .any b0 24 v) (h : DataW.Trod enc Tryz.prog W 0 (fun _ => true) true 24 v d p) (hb : Rows.uptoBulk d ≤ 1048576) : ∃ l, Facts W v l ∧ l.length ≤ 1048576 ∧ ∀ k, okF (l.getD k noFact) := by
  obtain ⟨a0, len0, cap0, rfl⟩ := okWide_slice Tryz.underlying24 hv
  obtain ⟨fuel, hf⟩ := h
  rcases open_slice Tryz.underlying24 hf with ⟨hcs, _⟩ | ⟨a, len, cap, m, n, D, Pl, hcs, _, hl, hm, hmm, hx, hel⟩
  · simp [Value.cells] at hcs
    obtain ⟨rfl, rfl, rfl⟩ := hcs
    exact ⟨[], ⟨by simp, none, 0, rfl, fun e => absurd rfl e⟩, by simp, fun k => by simpa using okF_no⟩
  · simp [Value.cells] at hcs
    obtain ⟨rfl, rfl, rfl⟩ := hcs
    simp only [if_true] at hmm
    subst hmm
    rw [cellsFact] at hel
    have hd : d = .slice ((List.range len0).map D) ((List.range (m - len0)).map fun j => D (len0 + j)) := by
      have := congrArg Prod.fst hx
      simpa using this
    subst hd
    have hbulk : ∀ i, i < len0 → Rows.uptoBulk (D i) ≤ 1048576 := fun i hi => by
      have h1 := bulk_part (d := D i) (l := (List.range len0).map D) (List.mem_map.2 ⟨i, List.mem_range.2 hi, rfl⟩)
      simp only [Rows.uptoBulk] at hb
      omega
    have hlen : len0 ≤ 1048576 := by
      have h1 := bulk_length ((List.range len0).map D)
      simp only [Rows.uptoBulk] at hb
      simp at h1
      omega
    have each : ∀ i : Fin len0, ∃ f : FactD, ∃ c0 c1, W.cell? ((a.add (i.1 * 2)).add 0) = some c0 ∧ W.cell? ((a.add (i.1 * 2)).add 1) = some c1 ∧ FactV W (.agg #[c0, c1]) f ∧ okF f := fun i => by
      obtain ⟨cs', k1, k2⟩ := hel i.1 (by omega)
      obtain ⟨f, c0, c1, e, hF, hk⟩ := trodFact k2 (bulkFact (hbulk i.1 i.2))
      subst e
      obtain ⟨_, _, hcell⟩ := World.cells?_some k1
      exact ⟨f, c0, c1, by simpa using hcell 0 (by omega), by simpa using hcell 1 (by omega), hF, hk⟩
    refine ⟨List.ofFn fun i => Classical.choose (each i), ⟨by simp; omega, some a, m, by simp, fun hne => ?_⟩, by simpa using hlen, fun k => ?_⟩
    rotate_left
    · rw [List.getD_eq_getElem?_getD, List.getElem?_ofFn]
      by_cases hk : k < len0
      · rw [dif_pos hk]
        obtain ⟨c0, c1, _, _, _, hok⟩ := Classical.choose_spec (each ⟨k, hk⟩)
        exact hok
      · rw [dif_neg hk]; exact okF_no
    have h0 : 0 < len0 := by
      refine Nat.pos_of_ne_zero fun e => hne ?_
      subst e; rfl
    have hplain : ∃ b off, a = ⟨b, off, none⟩ := by
      obtain ⟨f, c0, c1, k0, _⟩ := each ⟨0, h0⟩
      refine addr_plain (W := W) (i := 0) (v := c0) ?_ rfl
      simpa [Addr.add] using k0
    obtain ⟨b, off, rfl⟩ := hplain
    have hlt : b < W.heap.size := by
      obtain ⟨f, c0, c1, k0, _⟩ := each ⟨0, h0⟩
      rw [Addr.add_lit, Addr.add_lit] at k0
      exact World.block_lt_of_cell? W _ k0
    refine ⟨b, off, rfl, hlt, fun i hi => ?_⟩
    have hi' : i < len0 := by simpa using hi
    have e : (List.ofFn fun i => Classical.choose (each i)).getD i noFact = Classical.choose (each ⟨i, hi'⟩) := by
      rw [List.getD_eq_getElem?_getD, List.getElem?_ofFn, dif_pos hi']; rfl
    rw [e]
    obtain ⟨c0, c1, k0, k1, ⟨s, es, hs⟩, _⟩ := Classical.choose_spec (each ⟨i, hi'⟩)
    rw [Addr.add_lit, Addr.add_lit] at k0 k1
    have e2 : c0 = .string (Classical.choose (each ⟨i, hi'⟩)).1 ∧ c1 = s := by simpa using es
    exact ⟨by rw [← e2.1]; exact k0, s, by rw [← e2.2]; exact k1, hs⟩

end Go.Proofs.YtbohggoeebhdmaaGreatDoor

/- What tells a fact apart, however long its texts are (to two millions of bytes, and as many arguments): the table of powers of ten being as it is laid. -/
namespace Go.Proofs.YtbohggoeebhdmaaGreatDoor
open Go.RowKit Go.Sort Go.Shelf

/-- The table of powers of ten is as it is laid. -/
def TabN (w : World) : Prop := Lib.TabIs Tryz.prog w "internal/strconv.uint64pow10" .u64 Lib.pow10Tab
theorem TabN.below {w w' : World} (h : TabN w) (hb : Below w.heap.size w w') : TabN w' := Lib.tabBelow_of_tabIs h w' hb
theorem TabN.later {w w' : World} (h : TabN w) (hb : Later w w') : TabN w' := h.below hb.below

theorem BldN.below {B : Nat} {l : Bs} {w w' : World} (h : BldN B l w) (hb : Below w.heap.size w w') : BldN B l w' := by
  have key : ∀ {p : Value}, Lib.BuilderAtF 156 5 B B p (Lib.byteCells l) w → Lib.BuilderAtF 156 5 B B p (Lib.byteCells l) w' := fun {p} h => by
    have hlt := h.lt
    obtain ⟨hB, v, hv, hown, hne⟩ := h
    exact ⟨hB, v, (hb.block B hlt).trans hv, hown.kept (row := none) ⟨hb.os, hb.tape, hb.output, hb.size, fun k hk _ => hb.block k hk⟩ (Classical.em _), hne⟩
  exact h.elim (fun x => .inl (key x)) (fun x => .inr (key x))
theorem BldN.later {B : Nat} {l : Bs} {w w' : World} (h : BldN B l w) (hb : Later w w') : BldN B l w' := h.below hb.below

theorem digits_len {n : Nat} (h : n ≤ 2097152) : (Lib.decDigits n).length ≤ 21 := by
  have := Lib.itoa_length_le (n : Int) (by omega) (by omega)
  rw [Lib.itoa_nonneg] at this; exact this

theorem itoaN (n : Nat) (h : n ≤ 2097152) (w : World) (hT : TabN w) : Calls Tryz.prog 118 #[.int .i64 (n : Nat)] w fun e w' => e = .returned (.string (bs (Lib.decDigits n))) ∧ Later w w' := by
  refine (Tryz.strconv_Itoa (n : Int) (by omega) (by omega) w hT).mono ?_
  rintro e w' ⟨rfl, k, os, rfl⟩
  rw [Lib.itoa_nonneg]
  exact ⟨rfl, ((Later.refl w).drewN k).grow os⟩

set_option maxHeartbeats 1000000 in
theorem apart1L (B : Nat) (l s : Bs) (w : World) (h : BldN B l w) (hT : TabN w) (hs : s.length ≤ 2097152) (hl : l.length ≤ 100000000000000) :
    Calls Tryz.prog 116 #[.string (bs s), .pointer (some ⟨B, 0, none⟩)] w fun e w' => (∃ v, e = .returned v) ∧ BldN B (l ++ partK s) w' ∧ Below B w w' ∧ Lib.OthersKept 5 (some B) w w' := by
  have hd : (Lib.decDigits s.length).length ≤ 21 := digits_len hs
  have HI : Hid (Calls Tryz.prog 118 #[.int .i64 (s.length : Nat)] w fun e w' => e = .returned (.string (bs (Lib.decDigits s.length))) ∧ Later w w') := itoaN s.length hs w hT
  have hz : (bs s).size = s.length := size_bs s
  go_enter Tryz.func116, Tryz.ntmps116
  go_wp2_with fail
  refine HI.out.mono ?_
  rintro e w1 ⟨rfl, hL1⟩
  have H1 := hide (writeS B l (Lib.decDigits s.length) w1 (h.later hL1) (by omega))
  have Hb1 := hide (hL1.below.mono (Nat.le_of_lt h.lt))
  have Ho1 : Hid (Lib.OthersKept 5 (some B) w w1) := fun k o hk _ _ => (hL1.block (Array.getElem?_eq_some_iff.1 hk).1).trans hk
  clear hL1 HI
  go_wp2_with fail
  refine H1.out.mono ?_
  rintro e w2 ⟨rfl, hB2, hb2, ho2⟩
  have H2 := hide (writeB B _ 32 w2 hB2 (by rw [List.length_append]; omega))
  have Hb2 := hide hb2
  have Ho2 := hide ho2
  clear hB2 hb2 ho2
  go_wp2_with fail
  refine H2.out.mono ?_
  rintro e w3 ⟨rfl, hB3, hb3, ho3⟩
  have H3 := hide (writeS B _ s w3 hB3 (by rw [List.length_append, List.length_append, List.length_singleton]; omega))
  have Hb3 := hide hb3
  have Ho3 := hide ho3
  clear hB3 hb3 ho3
  go_wp2_with fail
  refine H3.out.mono ?_
  rintro e w4 ⟨rfl, hB4, hb4, ho4⟩
  have HB4 := hide hB4
  have Hb4 := hide hb4
  have Ho4 := hide ho4
  clear hB4 hb4 ho4
  go_wp2
  go_end0
  refine ⟨⟨_, rfl⟩, ?_, ((Hb1.out.trans Hb2.out).trans Hb3.out).trans Hb4.out, ((Ho1.out.trans Ho2.out).trans Ho3.out).trans Ho4.out⟩
  have e : l ++ partK s = l ++ Lib.decDigits s.length ++ [32] ++ s := by simp [partK]
  rw [e]; exact HB4.out

/-- A fact of texts and arguments that are not too long, nor too many. -/
def LongF (f : FactB) : Prop := f.1.size ≤ 2097152 ∧ f.2.length ≤ 2097152 ∧ ∀ s ∈ f.2, s.size ≤ 2097152

theorem partK_lenL {s : Bs} (h : s.length ≤ 2097152) : (partK s).length ≤ 2097180 := by
  have hd := digits_len h
  unfold partK
  rw [List.length_append, List.length_cons]; omega
theorem partsK_lenL : ∀ {l : List ByteArray}, (∀ s ∈ l, s.size ≤ 2097152) → (partsK l).length ≤ 2097180 * l.length
  | [], _ => by simp [partsK]
  | s :: l, h => by
    have h1 := partsK_lenL (l := l) fun t ht => h t (by simp [ht])
    have h2 := partK_lenL (s := raw s) (by rw [length_raw]; exact h s (by simp))
    simp only [partsK, List.length_append, List.length_cons]; omega
theorem keyF_lenL {f : FactB} (h : LongF f) : (keyF f).length ≤ 100000000000000 := by
  have := partsK_lenL (l := f.1 :: f.2) (fun s hs => (List.mem_cons.1 hs).elim (fun e => e ▸ h.1) (h.2.2 s))
  have := h.2.1
  simp only [List.length_cons] at *
  unfold keyF; omega

set_option maxHeartbeats 1000000 in
theorem apartL (v : Value) (f : FactB) (w : World) (hv : FactV w v f) (hT : TabN w) (hs : LongF f) :
    Calls Tryz.prog 76 #[v] w fun e w' => e = .returned (.string (bs (keyF f))) ∧ Below w.heap.size w w' := by
  obtain ⟨u, rfl, hu⟩ := hv
  obtain ⟨n, args⟩ := f
  obtain ⟨a, cap, rfl⟩ := sliceStr hu
  dsimp only at *
  have HU := hide hu
  have hl := hs.2.1
  dsimp only at hl
  obtain ⟨w1, hw1⟩ : ∃ w1, w1 = (w.alloc (.cells #[.string n, .slice a args.length cap] 54)).alloc (.cells #[.pointer none, .slice none 0 0] 156) := ⟨_, rfl⟩
  have hB1 : BldN (w.heap.size + 1) [] w1 := by
    rw [hw1]; have := BldN.new (w.alloc (.cells #[.string n, .slice a args.length cap] 54)); simpa using this
  have hL1 : Later w w1 := by rw [hw1]; exact ((Later.refl w).alloc _).alloc _
  have hA1 : w1.heap[w.heap.size]? = some (.cells #[.string n, .slice a args.length cap] 54 (0, 0)) := by
    rw [hw1, Below.heap_alloc _ _ _ (by simp)]; exact heap_alloc_new w _
  have H1 := hide (apart1L (w.heap.size + 1) [] (raw n) w1 hB1 (hT.later hL1) (by rw [length_raw]; exact hs.1) (by simp))
  rw [bs_raw] at H1
  have HS := hide hs
  have HTb := hide hT
  have HB0 := hide hL1.below
  have c0 : w1.cell? ⟨w.heap.size, 0, none⟩ = some (.string n) := by rw [cell_of_row _ _ _ _ _ _ hA1]; rfl
  have HA1 := hide hA1
  rw [hw1] at c0 H1
  have hmf : ∀ (fn : Fn) (first cap : Array Value) (w : World), (Instr.makeFunc fn first cap).run Tryz.prog w = .ok (.func fn first cap) w := fun _ _ _ _ => rfl
  clear hu hs hB1 hL1 hA1 hT
  go_enter Tryz.func76, Tryz.ntmps76
  go_wp2_with fail
  refine H1.out.mono ?_
  rintro e w2 ⟨⟨u, rfl⟩, hB2, hb2, ho2⟩
  rw [← hw1] at hb2 ho2
  have hA2 : w2.heap[w.heap.size]? = some (.cells #[.string n, .slice a args.length cap] 54 (0, 0)) := ho2 _ _ HA1.out (by simp) (fun c fz e => by injection e with _ h _; exact absurd h (by decide))
  have c1 : w2.cell? ⟨w.heap.size, 1, none⟩ = some (.slice a args.length cap) := by rw [cell_of_row _ _ _ _ _ _ hA2]; rfl
  have HB2 : Hid (BldN (w.heap.size + 1) (partsK (n :: args.take 0)) w2) := by show BldN _ _ _; simpa [partsK] using hB2
  have HL2 : Hid (Below w.heap.size w w2) := HB0.out.trans (hb2.mono (Nat.le_succ _))
  clear hB2 hb2 ho2 hA2 c0 H1 HA1 hw1 HB0 hmf
  go_wp2
  go_loopg [15] args.length (fun k i wr => ∃ j : Nat, j + k = args.length ∧ i = .int .i64 j ∧ Hid (BldN (w.heap.size + 1) (partsK (n :: args.take j)) wr) ∧ Hid (Below w.heap.size w wr))
  case atStart => exact ⟨0, by omega, rfl, HB2, HL2⟩
  case round =>
    obtain ⟨j, hj, rfl, HBr, HLr⟩ := hrel
    by_cases hlt : j < args.length
    · obtain ⟨x, hx⟩ : ∃ x, args[j]? = some x := ⟨_, List.getElem?_eq_getElem hlt⟩
      have hxm : x ∈ args := List.mem_of_getElem? hx
      obtain ⟨_, a', cap', ea, hc⟩ := HU.out
      injection ea with e1 e2 e3
      subst e1
      subst e3
      obtain ⟨b, off, rfl, hb, hc⟩ := hc (by intro e; rw [e] at hlt; simp at hlt)
      have d0 : wr.cell? ⟨b, off + j, none⟩ = some (.string x) := by
        rw [HLr.out.cell (p := ⟨b, off + j, none⟩) hb, hc j hlt, List.getD_eq_getElem?_getD, hx]; rfl
      have hx' : partsK (n :: args.take (j + 1)) = partsK (n :: args.take j) ++ partK (raw x) := by
        rw [List.take_add_one, hx, ← List.cons_append, partsK_append]
        simp [partsK]
      have hlen := partsK_lenL (l := n :: args.take j) (fun s hs => (List.mem_cons.1 hs).elim (fun e => e ▸ HS.out.1) (fun h => HS.out.2.2 s (List.mem_of_mem_take h)))
      rw [List.length_cons, List.length_take] at hlen
      have HC := hide (apart1L (w.heap.size + 1) _ (raw x) wr HBr.out (HTb.out.below HLr.out) (by rw [length_raw]; exact HS.out.2.2 x hxm) (by omega))
      rw [← hx', bs_raw] at HC
      clear hc hx hx' hlen hxm
      go_wp2_with fail
      refine HC.out.mono ?_
      rintro e w4 ⟨⟨u4, rfl⟩, hB4, hb4, _⟩
      have HB4 := hide hB4
      have Hb4 := hide hb4
      clear hB4 hb4
      go_wp2
      go_roundg (args.length - (j + 1))
      case measure => omega
      case rel => exact ⟨j + 1, by omega, by go_num, HB4, HLr.out.trans (Hb4.out.mono (Nat.le_succ _))⟩
    · have hj' : j = args.length := by omega
      subst hj'
      rw [List.take_length] at HBr
      have HF := hide (stringS _ _ wr HBr.out)
      go_wp2_with fail
      refine HF.out.mono ?_
      rintro e w5 ⟨rfl, hb5⟩
      have Hb5 := hide hb5
      clear hb5
      go_wp2
      go_ret
      exact ⟨rfl, HLr.out.trans (Hb5.out.mono (Nat.le_succ _))⟩

end Go.Proofs.YtbohggoeebhdmaaGreatDoor

/- The walk of known's add, the facts' texts being of whatever length (to two millions of bytes). -/
namespace Go.Proofs.YtbohggoeebhdmaaGreatDoor
open Go.RowKit Go.Sort Go.Maps

/-- Another block than the table's has turned. -/
theorem tab_tn {w w' : World} {b : Nat} (h : TabN w) (hb : ∃ es c, w.heap[b]? = some (.map es c)) (k : Tn b w w') : TabN w' := by
  obtain ⟨es, c, hb⟩ := hb
  unfold TabN Lib.TabIs World.var? at *
  cases hg : Tryz.prog.globalNamed "internal/strconv.uint64pow10" with
  | none => simp [hg] at h
  | some g =>
    simp only [hg, Option.bind_some] at h ⊢
    have hlt : g < w.heap.size := by
      rcases Nat.lt_or_ge g w.heap.size with h' | h'
      · exact h'
      · rw [Array.getElem?_eq_none h'] at h; simp at h
    have hne : g ≠ b := fun e => by rw [e, hb] at h; simp at h
    rw [k.block g hlt hne]
    exact h

set_option maxHeartbeats 2000000 in
theorem knownAddL (b n : Nat) (L : List FactB) (v : Value) (l : List FactB) (w : World) (hK : KnN w b n L) (hv : Facts w v l) (hTb : TabN w) (hs : ∀ f ∈ l, LongF f) (hn : n + l.length < 1000000) :
    Calls Tryz.prog 46 #[.map (some b), v] w fun e w' => (∃ u, e = .returned u) ∧ KnN w' b (n + l.length) (L ++ l) ∧ Tn b w w' := by
  obtain ⟨a, cap, rfl, hl, hz⟩ := hv.addr
  have hM := known_map hK
  have HM := hide hM
  have HV := hide hv
  have HS := hide hs
  have HTab := hide hTb
  have HK : Hid (KnN w b (n + 0) (L ++ l.take 0)) := by show KnN _ _ _ _; simpa using hK
  clear hv hs hK hM hTb
  go_enter Tryz.func46, Tryz.ntmps46
  go_wp2
  go_loopg [8] l.length (fun k i wr => ∃ j : Nat, j + k = l.length ∧ i = .int .i64 j ∧ Hid (KnN wr b (n + j) (L ++ l.take j)) ∧ Hid (Tn b w wr))
  case atStart => exact ⟨0, by omega, rfl, HK, Tn.refl _ _⟩
  case round =>
    clear HK
    obtain ⟨j, hj, rfl, HK, HT⟩ := hrel
    by_cases hlt : j < l.length
    · rcases hz with rfl | ⟨b1, off, rfl⟩
      · simp at hlt
      have hltz : (j : Int) < (l.length : Int) := by omega
      have hFr := facts_tn HV.out HM.out HT.out
      obtain ⟨hb, ax, lx, cx, g1, g2, fx⟩ := hFr.at hlt
      have hfm : l.getD j noFact ∈ l := by rw [List.getD_eq_getElem?_getD, List.getElem?_eq_getElem hlt]; exact List.getElem_mem hlt
      have htk : l.take (j + 1) = l.take j ++ [l.getD j noFact] := by rw [List.take_add_one, List.getD_eq_getElem?_getD, List.getElem?_eq_getElem hlt]; rfl
      have hsh := HS.out _ hfm
      obtain ⟨wb, hwb⟩ : ∃ wb, wb = wr.alloc (.cells #[.string (l.getD j noFact).1, .slice ax lx cx] 54) := ⟨_, rfl⟩
      have hLb : Later wr wb := by rw [hwb]; exact (Later.refl _).alloc _
      have hrb : wb.heap[wr.heap.size]? = some (.cells #[.string (l.getD j noFact).1, .slice ax lx cx] 54 (0, 0)) := by rw [hwb]; exact heap_alloc_new wr _
      have hfb := fx.later hLb
      have hTb5 : TabN wb := (tab_tn HTab.out HM.out HT.out).later hLb
      have hKb := HK.out.later hLb
      have HC : Hid (∀ w', Below wb.heap.size wb w' → Calls Tryz.prog 76 #[.agg #[.string (l.getD j noFact).1, .slice ax lx cx]] w' fun e w'' => e = .returned (.string (bs (keyF (l.getD j noFact)))) ∧ Hid (Below wb.heap.size wb w'')) := fun w' hw =>
        (apartL _ _ w' (factV_below hfb hw) (hTb5.below hw) hsh).mono fun e w'' ⟨he, h2⟩ => ⟨he, below_trans hw h2 hw.size⟩
      have hcell : ∀ w', Below wb.heap.size wb w' → w'.cell? ⟨wr.heap.size, 0, none⟩ = some (.string (l.getD j noFact).1) ∧ w'.cell? ⟨wr.heap.size, 0 + 1, none⟩ = some (.slice ax lx cx) := fun w' hw => by
        have hlt' : wr.heap.size < wb.heap.size := (Array.getElem?_eq_some_iff.1 hrb).1
        constructor
        · rw [hw.cell (p := ⟨wr.heap.size, 0, none⟩) hlt', cell_of_row _ _ _ _ _ _ hrb]; rfl
        · rw [hw.cell (p := ⟨wr.heap.size, 0 + 1, none⟩) hlt', cell_of_row _ _ _ _ _ _ hrb]; rfl
      have HU : Hid (∀ w', Below wb.heap.size wb w' → ∃ w'', (Instr.mapUpdate 81 (.map (some b)) (.string (bs (keyF (l.getD j noFact)))) (.agg #[.string (l.getD j noFact).1, .slice ax lx cx])).run Tryz.prog w' = .ok () w'' ∧ KnN w'' b (n + (j + 1)) (L ++ l.take (j + 1)) ∧ Tn b w w'' ∧ w''.cell? ⟨wr.heap.size, 0, none⟩ = some (.string (l.getD j noFact).1) ∧ w''.cell? ⟨wr.heap.size, 0 + 1, none⟩ = some (.slice ax lx cx)) := fun w' hw => by
        have hK' : KnN w' b (n + j) (L ++ l.take j) := hKb.below hw
        have hf' := factV_below hfb hw
        have hkl := keyF_lenL hsh
        obtain ⟨w'', hrun, hg, hkn⟩ := hK'.store Tryz.underlying9 Tryz.underlying81 (by unfold maxLen; omega) hf' (by unfold maxLen; omega)
        refine ⟨w'', hrun, ?_, ?_, ?_⟩
        · rw [htk, ← List.append_assoc, show n + (j + 1) = n + j + 1 by omega]
          exact hkn fun g _ u hu => factV_tn hu (known_map hK') (tn_of_grown hg)
        · exact ((HT.out.trans (Tn.of_below hLb.below)).trans (Tn.of_below hw)).trans (tn_of_grown hg)
        · have hblt : b < wr.heap.size := HK.out.lt
          have hlt' : wr.heap.size < w'.heap.size := Nat.lt_of_lt_of_le (Array.getElem?_eq_some_iff.1 hrb).1 hw.size
          obtain ⟨q0, q1⟩ := hcell w' hw
          exact ⟨by rw [(tn_of_grown hg).cell (x := ⟨wr.heap.size, 0, none⟩) hlt' (by show wr.heap.size ≠ b; omega)]; exact q0, by rw [(tn_of_grown hg).cell (x := ⟨wr.heap.size, 0 + 1, none⟩) hlt' (by show wr.heap.size ≠ b; omega)]; exact q1⟩
      have HCell := hide hcell
      generalize bs (keyF (l.getD j noFact)) = kb at *
      generalize (l.getD j noFact).1 = nk at *
      clear hcell htk hsh hfm hrb hfb hKb hFr fx hLb hTb5
      go_wp2
      rw [← hwb]
      clear hwb
      refine wp_region_held_drew (S := fun w' => w'.cell? ⟨wr.heap.size, 0, none⟩ = some (.string nk) ∧ w'.cell? ⟨wr.heap.size, 0 + 1, none⟩ = some (.slice ax lx cx)) (by kernel_rfl) (HCell.out _ (Below.refl _ _).drew) (fun hHeld => ?_)
      refine take_at (i := 0) (d := some 12) (v := ?_) rfl rfl (by kernel_rfl) (by kernel_rfl) (by kernel_rfl) (fun _ _ _ h => h) (Or.inl ⟨by rfl, ?_⟩) hHeld ?_
      rotate_left
      · intro w hSw; (try dsimp only at hSw);  go_simp; try with_reducible rfl
      simp only [Act.put, List.setIfInBounds_toArray, List.set_cons_zero, List.set_cons_succ]
      refine take_at (i := 1) (d := some 13) (v := ?_) rfl rfl (by kernel_rfl) (by kernel_rfl) (by kernel_rfl) (fun _ _ _ h => h) (Or.inl ⟨by rfl, ?_⟩) hHeld ?_
      rotate_left
      · intro w hSw; (try dsimp only at hSw); obtain ⟨q0, q1⟩ := hSw; go_simp; try with_reducible rfl
      simp only [Act.put, List.setIfInBounds_toArray, List.set_cons_zero, List.set_cons_succ]
      refine take_at (i := 3) (d := some 15) (v := ?_) rfl rfl (by kernel_rfl) (by kernel_rfl) (by kernel_rfl) (fun _ _ _ h => h) (Or.inl ⟨by rfl, ?_⟩) hHeld ?_
      rotate_left
      · intro w hSw; (try dsimp only at hSw); obtain ⟨q0, q1⟩ := hSw; go_simp; try with_reducible rfl
      simp only [Act.put, List.setIfInBounds_toArray, List.set_cons_zero, List.set_cons_succ]
      refine wpAnyH_ready (rs := [2]) (by kernel_rfl) (by simp) ?_
      refine AllReadyH.cons rfl (fun K hK => ?_) AllReadyH.nil
      go_simp
      refine (HC.out _ (Below.refl _ _).drew).mono ?_
      rintro e w5 ⟨rfl, hB5⟩
      dsimp only
      refine hK.out _ _ (HCell.out _ hB5.out) (fun hHeld => ?_)
      clear hK K
      refine wpAnyH_ready (rs := [4]) (by kernel_rfl) (by simp) ?_
      obtain ⟨w6, hrun, hK6, hT6, hc6⟩ := HU.out _ hB5.out
      have HK6 := hide hK6
      have HT6 := hide hT6
      clear hK6 hT6
      refine AllReadyH.cons rfl (fun K hK => ?_) AllReadyH.nil
      go_simp
      refine hK.out _ _ hc6 (fun hHeld => ?_)
      clear hK K
      refine wpAnyH_done (by kernel_rfl) ?_ _
      clear hc6 hHeld hrun
      go_wp2
      go_roundg (l.length - (j + 1))
      case measure => omega
      case rel => exact ⟨j + 1, by omega, by go_num, HK6, HT6⟩
    · have hj' : j = l.length := by omega
      subst hj'
      rw [List.take_length] at HK
      go_wp2
      go_end0
      exact ⟨⟨_, rfl⟩, HK.out, HT.out⟩


end Go.Proofs.YtbohggoeebhdmaaGreatDoor

/- The walk of naive.Heads, the head's texts being of whatever length (to two millions of bytes). -/
namespace Go.Proofs.YtbohggoeebhdmaaGreatDoor
open Go.RowKit Go.Sort Go.Maps

set_option maxHeartbeats 4000000 in
theorem headsL (r : RuleD) (tv bv fv : Value) (fs : List FactB) (w : World) (ht : termK.sl Anyw w tv r.head.terms) (hb : atomK.sl Anyw w bv r.body) (hf : Facts w fv fs)
    (hTb : TabN w) (hs : errW r.body fs [] = 0 → ∀ R, allB (fun _ => fs) r.body = some R → ∀ l ∈ R, ∀ f, fillB r.head l = some f → LongF f) :
    Calls Tryz.prog 20 #[.agg #[.bool r.head.no, .string (bs r.head.name), tv, bv], fv] w fun e w' => ∃ v' er, e = .returned (.tuple #[v', .int .i64 er]) ∧ HeadsT w' v' er r fs ∧ Below w.heap.size w w' := by
  obtain ⟨ta, tc, rfl⟩ := Kind.slice ht
  obtain ⟨ba, bc, rfl⟩ := Kind.slice hb
  obtain ⟨fa, fc, rfl⟩ := sliceFacts hf
  obtain ⟨wb, hwb⟩ : ∃ wb, wb = w.alloc (.cells #[.bool r.head.no, .string (bs r.head.name), .slice ta r.head.terms.length tc, .slice ba r.body.length bc] 43) := ⟨_, rfl⟩
  have hLb : Later w wb := by rw [hwb]; exact (Later.refl w).alloc _
  have hrb : wb.heap[w.heap.size]? = some (.cells #[.bool r.head.no, .string (bs r.head.name), .slice ta r.head.terms.length tc, .slice ba r.body.length bc] 43 (0, 0)) := by rw [hwb]; exact heap_alloc_new w _
  have HA := hide (allC r.body (.slice ba r.body.length bc) (.slice fa fs.length fc) fs wb (Kind.sl_later hb hLb) (hf.later hLb))
  have HTm := hide (Kind.sl_later ht hLb)
  have HS := hide hs
  have HTab := hide hTb
  have HLb := hide hLb
  have HRb := hide hrb
  have c3 : wb.cell? ⟨w.heap.size, 3, none⟩ = some (.slice ba r.body.length bc) := by rw [cell_of_row _ _ _ _ _ _ hrb]; rfl
  have HWB := hide hwb
  clear ht hb hf hs hLb hrb hTb
  go_enter Tryz.func20, Tryz.ntmps20
  rw [hwb] at c3
  clear hwb
  go_wp2_with fail
  rw [← HWB.out]
  clear c3
  refine HA.out.mono ?_
  rintro e w1 ⟨v1, er, rfl, hT, hB1⟩
  clear HA
  unfold WithT at hT
  rw [pickB_all] at hT
  have HB1 : Hid (Below w.heap.size w w1) := below_trans HLb.out.below hB1 HLb.out.size
  have hwlt : w.heap.size < wb.heap.size := (Array.getElem?_eq_some_iff.1 HRb.out).1
  have HR1 : Hid (w1.heap[w.heap.size]? = some (.cells #[.bool r.head.no, .string (bs r.head.name), .slice ta r.head.terms.length tc, .slice ba r.body.length bc] 43 (0, 0))) := by
    show _ = _; rw [hB1.block _ hwlt]; exact HRb.out
  have HT1 := hide (Kind.sl_below HTm.out hB1)
  clear hB1 HTm HRb HLb HWB hwlt
  by_cases h0 : errW r.body fs [] = 0
  · rw [if_neg (by simp [h0])] at hT
    cases hR : allB (fun _ => fs) r.body with
    | none =>
      rw [hR] at hT
      obtain ⟨rfl, rfl⟩ := hT
      have HH : Hid (∀ w', HeadsT w' (.slice none 0 0) 4 r fs) := fun w' => by unfold HeadsT headsP; rw [if_neg (by simp [h0]), hR]; exact ⟨rfl, rfl⟩
      clear h0 hR HS HR1 HT1
      go_wp2
      exact bodyPost_ret (v := .tuple #[.slice none 0 0, .int .i64 4]) (by simp [results, Tryz.results20, go_sem]) rfl ⟨_, 4, rfl, HH.out _, HB1.out⟩
    | some R =>
      rw [hR] at hT
      obtain ⟨rfl, hsl⟩ := hT
      have hsmall := allB_small hR
      have HSh := hide (HS.out h0 R hR)
      have HH : Hid (∀ w' v', Facts w' v' (setF (R.filterMap fun l => fillB r.head l)) → HeadsT w' v' 0 r fs) := fun w' v' h => by unfold HeadsT headsP; rw [if_neg (by simp [h0]), hR]; exact ⟨rfl, h⟩
      have HRL := hide hsl
      obtain ⟨ra, rc, rfl⟩ := Kind.slice hsl
      clear h0 hR hsl HS
      have hmm := @run_makeMap Tryz.prog
      obtain ⟨w2, hw2⟩ : ∃ w2, w2 = w1.alloc (.map #[] 0) := ⟨_, rfl⟩
      have HK2 : Hid (KnN w2 w1.heap.size 0 ((R.take 0).filterMap fun l => fillB r.head l)) := by show KnN _ _ _ _; rw [hw2]; exact KnownM.made _ _ _
      have HB2 : Hid (Below w1.heap.size w1 w2) := by show Below _ _ _; rw [hw2]; exact ((Later.refl w1).alloc _).below
      have HW2 := hide hw2
      clear hw2
      go_wp2
      rw [← HW2.out]
      clear hmm HW2
      go_loopg [26] R.length (fun g i wr => ∃ j : Nat, j + g = R.length ∧ i = .int .i64 j ∧ Hid (KnN wr w1.heap.size j ((R.take j).filterMap fun l => fillB r.head l)) ∧ Hid (Below w1.heap.size w1 wr))
      case atStart => exact ⟨0, by omega, rfl, HK2, HB2⟩
      case round =>
        clear HK2 HB2
        obtain ⟨j, hj, rfl, HK, HBr⟩ := hrel
        by_cases hlt : j < R.length
        · obtain ⟨l, hx⟩ : ∃ x, R[j]? = some x := ⟨_, List.getElem?_eq_getElem hlt⟩
          obtain ⟨b1, o1, _, rfl, hb1, ⟨lv, rfl, hlv⟩, hc⟩ := Kind.sl_at HRL.out hx
          have d0 : wr.cell? ⟨b1, o1 + j, none⟩ = some lv := by rw [HBr.out.cell (p := ⟨b1, o1 + j, none⟩) hb1]; simpa [slK] using hc 0 _ rfl
          have HLV := hide hlv
          obtain ⟨la, lc, rfl⟩ := Kind.slice hlv
          have hbw : w.heap.size < w1.heap.size := (Array.getElem?_eq_some_iff.1 HR1.out).1
          have hrr : wr.heap[w.heap.size]? = some (.cells #[.bool r.head.no, .string (bs r.head.name), .slice ta r.head.terms.length tc, .slice ba r.body.length bc] 43 (0, 0)) := by rw [HBr.out.block _ hbw]; exact HR1.out
          have r0 : wr.cell? ⟨w.heap.size, 0, none⟩ = some (.bool r.head.no) := by rw [cell_of_row _ _ _ _ _ _ hrr]; rfl
          have r1 : wr.cell? ⟨w.heap.size, 0 + 1, none⟩ = some (.string (bs r.head.name)) := by rw [cell_of_row _ _ _ _ _ _ hrr]; rfl
          have r2 : wr.cell? ⟨w.heap.size, 0 + 2, none⟩ = some (.slice ta r.head.terms.length tc) := by rw [cell_of_row _ _ _ _ _ _ hrr]; rfl
          have HFc := hide (fillC r.head _ (.slice la l.length lc) l wr (Kind.sl_below HT1.out HBr.out) (Kind.sl_below HLV.out HBr.out))
          have htk : R.take (j + 1) = R.take j ++ [l] := by rw [List.take_add_one, hx]; rfl
          have hSl := HSh.out l (List.mem_of_getElem? hx)
          unfold filled at HFc
          clear hc hx hlv hrr
          cases hfl : fillB r.head l with
          | none =>
            rw [hfl] at HFc
            have HK' : Hid (KnN wr w1.heap.size (j + 1) ((R.take (j + 1)).filterMap fun l => fillB r.head l)) := by
              show KnN _ _ _ _
              rw [htk, List.filterMap_append]
              simp only [List.filterMap_cons, hfl, List.filterMap_nil, List.append_nil]
              exact HK.out.mono (Nat.le_succ _)
            clear hfl htk hSl
            generalize bs r.head.name = nm at *
            generalize r.head.no = no at *
            go_wp2_with fail
            refine HFc.out.mono ?_
            rintro e w3 ⟨f3, rfl, hfv, hL3⟩
            obtain ⟨s, rfl, hs⟩ := hfv
            obtain ⟨sA', sC', rfl⟩ := sliceStr hs
            simp only [Option.isSome_none]
            have HL3 : Hid (Later wr w3) := hL3
            clear hs hL3
            go_wp2
            go_roundg (R.length - (j + 1))
            case measure => omega
            case rel => exact ⟨j + 1, by omega, by go_num, HK'.out.later (HL3.out.alloc _), below_trans HBr.out (HL3.out.alloc _).below HBr.out.size⟩
          | some f =>
            rw [hfl] at HFc
            have hsf := hSl f hfl
            have hfm : (R.take (j + 1)).filterMap (fun l => fillB r.head l) = (R.take j).filterMap (fun l => fillB r.head l) ++ [f] := by
              rw [htk, List.filterMap_append]
              simp only [List.filterMap_cons, hfl, List.filterMap_nil]
            have HFM := hide hfm
            have HSF := hide hsf
            clear hfl htk hSl hfm hsf
            generalize bs r.head.name = nm at *
            generalize r.head.no = no at *
            go_wp2_with fail
            refine HFc.out.mono ?_
            rintro e w3 ⟨f3, rfl, hfv, hL3⟩
            simp only [Option.isSome_some, Option.getD_some] at hfv ⊢
            obtain ⟨s, rfl, hs⟩ := hfv
            obtain ⟨sA', sC', rfl⟩ := sliceStr hs
            obtain ⟨fn, fargs⟩ := f
            dsimp only at *
            obtain ⟨w4, hw4⟩ : ∃ w4, w4 = (w3.alloc (.cells #[.string fn, .slice sA' fargs.length sC'] 54)).alloc (.cells #[.string fn, .slice sA' fargs.length sC'] 54) := ⟨_, rfl⟩
            have hL4 : Later w3 w4 := by rw [hw4]; exact ((Later.refl _).alloc _).alloc _
            have hr4 : w4.heap[w3.heap.size + 1]? = some (.cells #[.string fn, .slice sA' fargs.length sC'] 54 (0, 0)) := by
              rw [hw4]; have := heap_alloc_new (w3.alloc (.cells #[.string fn, .slice sA' fargs.length sC'] 54)) (.cells #[.string fn, .slice sA' fargs.length sC'] 54); simpa using this
            have HAd := hide (knownAddL w1.heap.size j _ (.slice (some ⟨w3.heap.size + 1, 0, none⟩) 1 1) [(fn, fargs)] w4 (HK.out.later (hL3.trans hL4)) (one_fact (f := (fn, fargs)) hr4 (hs.later hL4)) (HTab.out.below (below_trans (below_trans HB1.out HBr.out HB1.out.size) (hL3.trans hL4).below (Nat.le_trans HB1.out.size HBr.out.size))) (fun g hg => by simp only [List.mem_singleton] at hg; subst hg; exact HSF.out) (by simp; omega))
            have HL4 : Hid (Later wr w4) := hL3.trans hL4
            have HW4 := hide hw4
            clear hs hL3 hL4 hr4 hw4 HFc
            go_wp2_with fail
            rw [← HW4.out]
            refine HAd.out.mono ?_
            rintro e w5 ⟨⟨u5, rfl⟩, hK5, hT5⟩
            have HK5 : Hid (KnN w5 w1.heap.size (j + 1) ((R.take (j + 1)).filterMap fun l => fillB r.head l)) := by show KnN _ _ _ _; rw [HFM.out]; exact hK5
            have hs4 : w1.heap.size ≤ w4.heap.size := Nat.le_trans HBr.out.size HL4.out.size
            have HB5 : Hid (Below w1.heap.size w1 w5) := (below_trans HBr.out HL4.out.below HBr.out.size).trans (hT5.below (Nat.le_refl _) hs4)
            clear hK5 hT5 HAd HW4
            go_wp2
            go_roundg (R.length - (j + 1))
            case measure => omega
            case rel => exact ⟨j + 1, by omega, by go_num, HK5, HB5⟩
        · have hj' : j = R.length := by omega
          subst hj'
          rw [List.take_length] at HK
          have HF := hide (knownSet _ _ _ wr HK.out (by omega))
          go_wp2_with fail
          refine HF.out.mono ?_
          rintro e w6 ⟨v6, rfl, hF6, hB6⟩
          have HT6 := hide (HH.out _ _ hF6)
          have HB6 : Hid (Below w.heap.size w w6) := below_trans (below_trans HB1.out HBr.out HB1.out.size) hB6 (Nat.le_trans HB1.out.size HBr.out.size)
          obtain ⟨a6, c6, rfl⟩ := sliceFacts hF6
          clear hF6 hB6
          go_wp2
          exact bodyPost_ret (v := .tuple #[.slice a6 (setF (R.filterMap fun l => fillB r.head l)).length c6, .int .i64 0]) (by simp [results, Tryz.results20, go_sem]) rfl ⟨_, 0, rfl, HT6.out, HB6.out⟩
  · rw [if_pos h0] at hT
    obtain ⟨rfl, rfl⟩ := hT
    have HH : Hid (∀ w', HeadsT w' (.slice none 0 0) (errW r.body fs []) r fs) := fun w' => by unfold HeadsT; rw [if_pos h0]; exact ⟨rfl, rfl⟩
    clear HS HR1 HT1
    generalize errW r.body fs [] = er at *
    go_wp2
    exact bodyPost_ret (v := .tuple #[.slice none 0 0, .int .i64 er]) (by simp [results, Tryz.results20, go_sem]) rfl ⟨_, er, rfl, HH.out _, HB1.out⟩

end Go.Proofs.YtbohggoeebhdmaaGreatDoor
