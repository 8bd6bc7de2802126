/- The walk of syntax.Print. -/
import Derived.Test.YtehipkidohomeaaPr
import Derived.Test.YtehipkidohomeaaRdQ
namespace Go.Proofs.Ytehipkidohomeaa
open Go.RowKit Go.Sort

theorem builder_below {T e : TypeId} {B b : Nat} {l : List Value} {w w' : World} (h : Lib.IsBuilderF T e B b l w) (k : Below w.heap.size w w') : Lib.IsBuilderF T e B b l w' := by
  have at' : ∀ {p : Value}, Lib.BuilderAtF T e B b p l w → Lib.BuilderAtF T e B b p l w' := fun {p} h => by
    obtain ⟨hB, v, hb, ho, hne⟩ := h
    refine ⟨hB, v, by rw [k.block b (Array.getElem?_eq_some_iff.1 hb).1]; exact hb, ⟨ho.1, ?_⟩, hne⟩
    rcases ho.2 with e | ⟨g, cap, cur, fz, rfl, hbg, hg, r⟩
    · exact Or.inl e
    · exact Or.inr ⟨g, cap, cur, fz, rfl, hbg, by rw [k.block g (Array.getElem?_eq_some_iff.1 hg).1]; exact hg, r⟩
  exact h.elim (fun x => .inl (at' x)) (fun x => .inr (at' x))

/-- A builder from block B on that holds these bytes. -/
def Bld (B : Nat) (l : Bs) (w : World) : Prop := Lib.IsBuilderF 96 5 B B (Lib.byteCells l) w

theorem Bld.new (w : World) : Bld w.heap.size [] (w.alloc (.cells #[.pointer none, .slice none 0 0] 96)) :=
  Lib.IsBuilderF.of (Or.inl ⟨Nat.le_refl _, .slice none 0 0, heap_alloc_new w _, World.ownsRow_nil _ _ _ _, by simp [Value.ownBlock]⟩)

theorem Bld.lt {B : Nat} {l : Bs} {w : World} (h : Bld B l w) : B < w.heap.size := h.elim Lib.BuilderAtF.lt Lib.BuilderAtF.lt
theorem Bld.below {B : Nat} {l : Bs} {w w' : World} (h : Bld B l w) (k : Below w.heap.size w w') : Bld B l w' := builder_below h k
theorem Bld.alloc {B : Nat} {l : Bs} {w : World} (h : Bld B l w) (o : Obj) : Bld B l (w.alloc o) := Lib.IsBuilderF.alloc h o

theorem write (B : Nat) (l x : Bs) (w : World) (h : Bld B l w) (hlen : l.length + x.length ≤ 140737488355328) :
    Calls Try.prog 82 #[.pointer (some ⟨B, 0, none⟩), .string (bs x)] w fun e w' => e = .returned (.tuple #[.int .i64 x.length, .nilIface]) ∧ Bld B (l ++ x) w' ∧ Below B w w' ∧ Lib.OthersKept 5 (some B) w w' := by
  refine (writeC B B _ (bs x) w h (by rw [Lib.byteCells_length, size_bs]; exact hlen) (Nat.le_of_lt h.lt)).mono ?_
  rintro e w' ⟨rfl, h1, h2, h3⟩
  refine ⟨by rw [size_bs], Or.inr ?_, h2, h3⟩
  rw [Lib.byteCells_append]
  have : Lib.strCells (bs x) = Lib.byteCells x := rfl
  rw [← this]; exact h1

theorem printAll_take {p : List RuleD} {j : Nat} {r : RuleD} (h : p[j]? = some r) : printAll (p.take (j + 1)) = printAll (p.take j) ++ printRule r := by
  have app : ∀ a b : List RuleD, printAll (a ++ b) = printAll a ++ printAll b := by
    intro a b
    induction a with
    | nil => rfl
    | cons x a ih => simp [printAll, ih]
  rw [List.take_add_one, h, app]; simp [printAll]

theorem printRest_take {l : List AtomD} {i : Nat} {a : AtomD} (s : Bs) (h : l[i]? = some a) : printRest s (l.take (i + 1)) = printRest s (l.take i) ++ ((if i = 0 then s else [44, 32]) ++ printAtom a) := by
  induction l generalizing s i with
  | nil => simp at h
  | cons x l ih =>
    cases i with
    | zero => simp at h; subst h; simp [printRest]
    | succ i =>
      simp at h
      simp only [List.take_succ_cons, printRest]
      rw [ih [44, 32] h]
      simp

theorem printRest_le (l : List AtomD) (i : Nat) (s : Bs) : (printRest s (l.take (i + 1))).length ≤ (printRest s l).length := by
  have : ∀ (l : List AtomD) (s : Bs) (k : Nat), (printRest s (l.take k)).length ≤ (printRest s l).length := by
    intro l
    induction l with
    | nil => intro s k; simp
    | cons x l ih =>
      intro s k
      cases k with
      | zero => simp [printRest]
      | succ k =>
        have := ih [44, 32] k
        simp only [List.take_succ_cons, printRest, List.length_append]; omega
  exact this l s (i + 1)

theorem printAll_le (p : List RuleD) (k : Nat) : (printAll (p.take k)).length ≤ (printAll p).length := by
  induction p generalizing k with
  | nil => simp
  | cons x p ih =>
    cases k with
    | zero => simp [printAll]
    | succ k => have := ih k; simp only [List.take_succ_cons, printAll, List.length_append]; omega

theorem printRest_length : ∀ (l : List AtomD) (s : Bs), s ≠ [] → l.length ≤ (printRest s l).length
  | [], _, _ => by simp
  | a :: l, s, h => by
    have := printRest_length l [44, 32] (by simp)
    have := List.length_pos_iff.2 h
    simp only [printRest, List.length_append, List.length_cons]; omega
theorem printAll_length : ∀ p : List RuleD, p.length ≤ (printAll p).length
  | [] => by simp
  | r :: p => by
    have := printAll_length p
    simp only [printAll, printRule, List.length_append, List.length_cons]; omega

set_option maxRecDepth 100000 in
set_option maxHeartbeats 4000000 in
theorem printC (v : Value) (p : List RuleD) (w : World) (hs : ruleK.sl (fun _ => True) w v p) (hlen : (printAll p).length ≤ 549755813888) :
    Calls Try.prog 37 #[v] w fun e w' => e = .returned (.string (bs (printAll p))) ∧ Below w.heap.size w w' := by
  obtain ⟨⟨hs0, _⟩, sa, cap, rfl, hs1⟩ := hs
  have HS := hide hs1
  have hpl := printAll_length p
  clear hs1
  go_enter Try.func37, Try.ntmps37
  go_wp2
  go_loopg [11] p.length (fun k i wr => ∃ j : Nat, j + k = p.length ∧ i = .int .i64 j ∧ Bld w.heap.size (printAll (p.take j)) wr ∧ Below w.heap.size w wr)
  case atStart => exact ⟨0, by omega, rfl, Bld.new w, ((Later.refl w).alloc _).below⟩
  case round =>
    obtain ⟨j, hj, rfl, hB, hW⟩ := hrel
    have HB := hide hB
    have HW := hide hW
    by_cases hlt : j < p.length
    · obtain ⟨r, hr⟩ : ∃ r, p[j]? = some r := ⟨_, List.getElem?_eq_getElem hlt⟩
      obtain ⟨b, off, rfl, _, hb, hc⟩ := HS.out (by intro e; rw [e] at hlt; simp at hlt)
      obtain ⟨c, ⟨tv, bv, rfl, hts, hbs⟩, hcell⟩ := hc j r hr
      have hjz : (j : Int) < (p.length : Int) := by omega
      have cellOf : ∀ i u, ([.bool r.head.no, .string (bs r.head.name), tv, bv] : List Value)[i]? = some u → wr.cell? ⟨b, off + j * 4 + i, none⟩ = some u := fun i u hu => by
        rw [World.cell?_of_block (w := w) (a := ⟨b, off + j * 4 + i, none⟩) (hW.block b hb)]; exact hcell i u hu
      have d0 : wr.cell? ⟨b, off + j * 4, none⟩ = some (.bool r.head.no) := cellOf 0 _ rfl
      have d1 : wr.cell? ⟨b, off + j * 4 + 1, none⟩ = some (.string (bs r.head.name)) := cellOf 1 _ rfl
      have d2 : wr.cell? ⟨b, off + j * 4 + 2, none⟩ = some tv := cellOf 2 _ rfl
      have d3 : wr.cell? ⟨b, off + j * 4 + 3, none⟩ = some bv := cellOf 3 _ rfl
      have hbr : b < wr.heap.size := Nat.lt_of_lt_of_le hb hW.size
      have HN : Hid (printAll (p.take (j + 1)) = printAll (p.take j) ++ printRule r) := printAll_take hr
      have HNl : Hid ((printAll (p.take (j + 1))).length ≤ 549755813888) := Nat.le_trans (printAll_le p (j + 1)) hlen
      obtain ⟨ta, tc, rfl⟩ := Kind.slice hts
      obtain ⟨ba, bc, rfl⟩ := Kind.slice hbs
      have HTs := hide hts
      have HBs := hide hbs
      clear hc hcell cellOf hts hbs hB hW hr
      obtain ⟨A, hA⟩ : ∃ A, A = printAll (p.take j) := ⟨_, rfl⟩
      rw [← hA] at HB HN
      have HL : Hid (A.length + (printAtom r.head).length + (printRest [32, 58, 45, 32] r.body).length + 2 ≤ 549755813888) := by
        show _ ≤ _
        have := HNl.out
        rw [HN.out] at this
        simp only [printRule, List.length_append, List.length_cons, List.length_nil] at this
        omega
      have hbody : r.body.length ≤ 549755813888 := by
        have := printRest_length r.body [32, 58, 45, 32] (by simp)
        have := HL.out
        omega
      have HB0 := hide (HB.out.alloc (.cells #[.bool r.head.no, .string (bs r.head.name), .slice ta r.head.terms.length tc, .slice ba r.body.length bc] 56))
      have HW0 := hide (below_trans HW.out ((Later.refl wr).alloc (.cells #[.bool r.head.no, .string (bs r.head.name), .slice ta r.head.terms.length tc, .slice ba r.body.length bc] 56)).below HW.out.size)
      have hrow0 := heap_alloc_new wr (.cells #[.bool r.head.no, .string (bs r.head.name), .slice ta r.head.terms.length tc, .slice ba r.body.length bc] 56)
      have hbw : w.heap.size < wr.heap.size := HB.out.lt
      have HF := hide (atomF r.head.no r.head.name r.head.terms _ (wr.alloc (.cells #[.bool r.head.no, .string (bs r.head.name), .slice ta r.head.terms.length tc, .slice ba r.body.length bc] 56)) (Kind.sl_kept HTs.out HW0.out.size (fun k hk _ => HW0.out.block k hk)) (by have := HL.out; show (printAtom r.head).length ≤ _; omega))
      have hsz0 : (wr.alloc (.cells #[.bool r.head.no, .string (bs r.head.name), .slice ta r.head.terms.length tc, .slice ba r.body.length bc] 56)).heap.size = wr.heap.size + 1 := by simp
      clear hA
      go_wp2_with fail
      refine HF.out.mono ?_
      rintro e w1 ⟨rfl, hB1⟩
      have hrow1 : w1.heap[wr.heap.size]? = some (.cells #[.bool r.head.no, .string (bs r.head.name), .slice ta r.head.terms.length tc, .slice ba r.body.length bc] 56 (0, 0)) := by
        rw [hB1.block _ (by omega)]; exact hrow0
      have HB1 := hide (HB0.out.below hB1)
      have HW1 := hide (below_trans HW0.out hB1 HW0.out.size)
      have HWr := hide (write w.heap.size A (printAtom r.head) w1 HB1.out (by have := HL.out; omega))
      have e0 : (⟨r.head.no, r.head.name, r.head.terms⟩ : AtomD) = r.head := rfl
      rw [e0]
      clear HF hB1 hrow0 HB0 HW0 e0 d0 d1 d2 d3 HB HW
      go_wp2_with fail
      refine HWr.out.mono ?_
      rintro e w2 ⟨rfl, hB2, hW2, hK2⟩
      have hrow2 := hK2 _ _ hrow1 (by simp; omega) (by intro c fz; simp)
      obtain ⟨_, _, _, z3, _, _, _, _⟩ := row4 hrow2
      have HB2 := hide hB2
      have HW2 := hide (below_trans HW1.out hW2)
      clear hB2 hW2 hK2 HWr hrow1 hrow2 HB1 HW1
      go_wp2
      go_loopg [6, 22] r.body.length (fun k s6 i wr2 => ∃ n : Nat, n + k = r.body.length ∧ s6 = .string (bs (if n = 0 then [32, 58, 45, 32] else [44, 32])) ∧ i = .int .i64 n ∧ Bld w.heap.size (A ++ printAtom r.head ++ printRest [32, 58, 45, 32] (r.body.take n)) wr2 ∧ Below w.heap.size w wr2)
      case atStart => exact ⟨0, by omega, rfl, rfl, by simpa [printRest] using HB2.out, HW2.out⟩
      case round =>
        obtain ⟨n, hn, rfl, rfl, hB3, hW3⟩ := hrel
        have HB3 := hide hB3
        have HW3 := hide hW3
        clear z3 HB2 HW2
        have hbw3 : w.heap.size < wr.heap.size := HB3.out.lt
        by_cases hltn : n < r.body.length
        · obtain ⟨a, ha⟩ : ∃ a, r.body[n]? = some a := ⟨_, List.getElem?_eq_getElem hltn⟩
          obtain ⟨_, ba', bc', ebv, hbs1⟩ := HBs.out
          simp only [Value.slice.injEq, true_and] at ebv
          obtain ⟨rfl, rfl⟩ := ebv
          obtain ⟨b2, off2, rfl, _, hb2, hc2⟩ := hbs1 (by intro e; rw [e] at hltn; simp at hltn)
          obtain ⟨c, ⟨tv2, rfl, hts2⟩, hcell2⟩ := hc2 n a ha
          obtain ⟨ta2, tc2, rfl⟩ := Kind.slice hts2
          have hnz : (n : Int) < (r.body.length : Int) := by omega
          have cellOf : ∀ i u, ([.bool a.no, .string (bs a.name), .slice ta2 a.terms.length tc2] : List Value)[i]? = some u → wr.cell? ⟨b2, off2 + n * 3 + i, none⟩ = some u := fun i u hu => by
            rw [World.cell?_of_block (w := w) (a := ⟨b2, off2 + n * 3 + i, none⟩) (hW3.block b2 hb2)]; exact hcell2 i u hu
          have d0 : wr.cell? ⟨b2, off2 + n * 3, none⟩ = some (.bool a.no) := cellOf 0 _ rfl
          have d1 : wr.cell? ⟨b2, off2 + n * 3 + 1, none⟩ = some (.string (bs a.name)) := cellOf 1 _ rfl
          have d2 : wr.cell? ⟨b2, off2 + n * 3 + 2, none⟩ = some (.slice ta2 a.terms.length tc2) := cellOf 2 _ rfl
          have hbr2 : b2 < wr.heap.size := Nat.lt_of_lt_of_le hb2 hW3.size
          obtain ⟨X, hX⟩ : ∃ X, X = A ++ printAtom r.head ++ printRest [32, 58, 45, 32] (r.body.take n) := ⟨_, rfl⟩
          obtain ⟨S, hS⟩ : ∃ S : Bs, S = if n = 0 then [32, 58, 45, 32] else [44, 32] := ⟨_, rfl⟩
          have HN2 : Hid (A ++ printAtom r.head ++ printRest [32, 58, 45, 32] (r.body.take (n + 1)) = X ++ S ++ printAtom a) := by
            show _ = _; rw [printRest_take _ ha, hX, hS]; simp only [List.append_assoc]
          have HL2 : Hid (X.length + S.length + (printAtom a).length ≤ 549755813888) := by
            show _ ≤ _
            have h1 := HL.out
            have h2 := printRest_le r.body n [32, 58, 45, 32]
            have h3 := congrArg List.length HN2.out
            simp only [List.length_append] at h3
            omega
          rw [← hX] at HB3
          rw [← hS]
          have HB4 := hide (HB3.out.alloc (.cells #[.bool a.no, .string (bs a.name), .slice ta2 a.terms.length tc2] 54))
          have HW4 := hide (below_trans HW3.out ((Later.refl wr).alloc (.cells #[.bool a.no, .string (bs a.name), .slice ta2 a.terms.length tc2] 54)).below HW3.out.size)
          have hrow4 := heap_alloc_new wr (.cells #[.bool a.no, .string (bs a.name), .slice ta2 a.terms.length tc2] 54)
          have HWr := hide (write w.heap.size X S _ HB4.out (by have := HL2.out; omega))
          have HTs2 := hide hts2
          clear hX hS hc2 hcell2 cellOf hts2 hB3 hW3 ha hbs1 HB3
          go_wp2_with fail
          refine HWr.out.mono ?_
          rintro e w5 ⟨rfl, hB5, hW5, hK5⟩
          have hrow5 := hK5 _ _ hrow4 (by simp; omega) (by intro c fz; simp)
          obtain ⟨y0, y1, y2, _, _, _⟩ := row3 hrow5
          have HB5 := hide hB5
          have HW5 := hide (below_trans HW4.out hW5)
          have HF := hide (atomF a.no a.name a.terms _ w5 (Kind.sl_kept HTs2.out HW5.out.size (fun k hk _ => HW5.out.block k hk)) (by have := HL2.out; show (printAtom a).length ≤ _; omega))
          clear hB5 hW5 hK5 HWr hrow4 hrow5 HB4 HW4 d0 d1 d2 HW3
          go_wp2_with fail
          refine HF.out.mono ?_
          rintro e w6 ⟨rfl, hB6⟩
          have HB6 := hide (HB5.out.below hB6)
          have HW6 := hide (below_trans HW5.out hB6 HW5.out.size)
          have HWr := hide (write w.heap.size (X ++ S) (printAtom a) w6 HB6.out (by have := HL2.out; simp only [List.length_append]; omega))
          have e0 : (⟨a.no, a.name, a.terms⟩ : AtomD) = a := rfl
          rw [e0]
          clear HF hB6 HB5 HW5 e0 y0 y1 y2
          go_wp2_with fail
          refine HWr.out.mono ?_
          rintro e w7 ⟨rfl, hB7, hW7, _⟩
          have HB7 := hide hB7
          have HW7 := hide (below_trans HW6.out hW7)
          clear hB7 hW7 HWr HB6 HW6
          go_wp2
          go_roundg (r.body.length - (n + 1))
          case measure => omega
          case rel => exact ⟨n + 1, by omega, rfl, by go_num, by rw [HN2.out]; exact HB7.out, HW7.out⟩
        · have hne : n = r.body.length := by omega
          subst hne
          rw [List.take_length] at HB3
          have HWr := hide (write w.heap.size (A ++ printAtom r.head ++ printRest [32, 58, 45, 32] r.body) [46, 10] wr HB3.out (by have := HL.out; simp only [List.length_append, List.length_cons, List.length_nil]; omega))
          clear hB3 hW3
          go_wp2_with (go_at_call 82; refine HWr.out.mono ?_; rintro e w8 ⟨rfl, hB8, hW8, _⟩; have HB8 := hide hB8; have HW8 := hide (below_trans HW3.out hW8); clear hB8 hW8 HWr)
          all_goals
            go_roundg (p.length - (j + 1))
            case measure => omega
            case rel =>
              refine ⟨j + 1, by omega, by go_num, ?_, HW8.out⟩
              rw [HN.out]
              have := HB8.out
              simpa [printRule, List.append_assoc] using this
    · have hje : j = p.length := by omega
      subst hje
      rw [List.take_length] at HB
      have HSt := hide (Try.Builder_String_any_k w.heap.size w.heap.size (printAll p) wr HB.out (Nat.le_of_lt HB.out.lt))
      clear hB hW
      go_wp2_with fail
      refine HSt.out.mono ?_
      rintro e w9 ⟨rfl, _, hW9, _⟩
      have HW9 := hide (below_trans HW.out hW9)
      clear hW9 HSt
      go_wp2
      go_ret
      exact ⟨rfl, HW9.out⟩

end Go.Proofs.Ytehipkidohomeaa
