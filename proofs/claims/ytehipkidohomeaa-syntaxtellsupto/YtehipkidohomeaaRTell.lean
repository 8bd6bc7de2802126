/- The walk of SyntaxTells. -/
import Derived.Test.YtehipkidohomeaaWkH
import Derived.Test.YtehipkidohomeaaRPp
namespace Go.Proofs.Ytehipkidohomeaa
open Go.RowKit Go.Sort

theorem neqFault (a b : Int) (w : World) : (binOp .neq 30 (.agg #[.int .i64 a, .int .i64 b]) (.agg #[.int .i64 a, .int .i64 b])).run Try.prog w = .ok (.bool false) w := by
  go_simp

theorem row_below {w w' : World} {g : Nat} {cs : Array Value} {t : TypeId} (h : w.heap[g]? = some (.cells cs t (0, 0))) (k : Below w.heap.size w w') : w'.heap[g]? = some (.cells cs t (0, 0)) := by
  rw [k.block g (Array.getElem?_eq_some_iff.1 h).1]; exact h
theorem cell_row {w : World} {g : Nat} {cs : Array Value} {t : TypeId} (h : w.heap[g]? = some (.cells cs t (0, 0))) (j : Nat) (u : Value) (hj : cs[j]? = some u) : w.cell? ⟨g, j, none⟩ = some u := by rw [cell_of_row _ _ _ _ _ _ h]; exact hj

/-- Two faults in their boxes. -/
structure Two (w0 : World) (g1 g2 : Nat) (a1 b1 a2 b2 : Int) (w : World) : Prop where
  bel : Below w0.heap.size w0 w
  ne : g1 ≠ g2
  l1 : w0.heap.size ≤ g1
  l2 : w0.heap.size ≤ g2
  r1 : w.heap[g1]? = some (.cells #[.int .i64 a1, .int .i64 b1] 30 (0, 0))
  r2 : w.heap[g2]? = some (.cells #[.int .i64 a2, .int .i64 b2] 30 (0, 0))
section
variable {w0 w w' : World} {g1 g2 : Nat} {a1 b1 a2 b2 : Int}
theorem Two.below (h : Two w0 g1 g2 a1 b1 a2 b2 w) (k : Below w.heap.size w w') : Two w0 g1 g2 a1 b1 a2 b2 w' :=
  ⟨below_trans h.bel k h.bel.size, h.ne, h.l1, h.l2, row_below h.r1 k, row_below h.r2 k⟩
theorem Two.set1 (h : Two w0 g1 g2 a1 b1 a2 b2 w) (x y : Int) : Two w0 g1 g2 x y a2 b2 ((w.setCell ⟨g1, 0, none⟩ (.int .i64 x)).setCell ⟨g1, 1, none⟩ (.int .i64 y)) :=
  ⟨(h.bel.setCell (p := ⟨g1, 0, none⟩) h.l1 _).setCell (p := ⟨g1, 1, none⟩) h.l1 _, h.ne, h.l1, h.l2, by rw [setCell_at (setCell_at h.r1 _) _]; rfl, by rw [heap_setCell_other _ _ _ (fun e => h.ne e.symm), heap_setCell_other _ _ _ (fun e => h.ne e.symm)]; exact h.r2⟩
theorem Two.set2 (h : Two w0 g1 g2 a1 b1 a2 b2 w) (x y : Int) : Two w0 g1 g2 a1 b1 x y ((w.setCell ⟨g2, 0, none⟩ (.int .i64 x)).setCell ⟨g2, 1, none⟩ (.int .i64 y)) :=
  ⟨(h.bel.setCell (p := ⟨g2, 0, none⟩) h.l2 _).setCell (p := ⟨g2, 1, none⟩) h.l2 _, h.ne, h.l1, h.l2, by rw [heap_setCell_other _ _ _ h.ne, heap_setCell_other _ _ _ h.ne]; exact h.r1, by rw [setCell_at (setCell_at h.r2 _) _]; rfl⟩
theorem Two.z (h : Two w0 g1 g2 a1 b1 a2 b2 w) : w.cell? ⟨g1, 0, none⟩ = some (.int .i64 a1) ∧ w.cell? ⟨g1, 1, none⟩ = some (.int .i64 b1) ∧ w.cell? ⟨g2, 0, none⟩ = some (.int .i64 a2) ∧ w.cell? ⟨g2, 1, none⟩ = some (.int .i64 b2) :=
  ⟨cell_row h.r1 0 _ rfl, cell_row h.r1 1 _ rfl, cell_row h.r2 0 _ rfl, cell_row h.r2 1 _ rfl⟩
theorem Two.f (h : Two w0 g1 g2 a1 b1 a2 b2 w) : w.frozen? ⟨g1, 0, none⟩ = false ∧ w.frozen? ⟨g1, 1, none⟩ = false ∧ w.frozen? ⟨g2, 0, none⟩ = false ∧ w.frozen? ⟨g2, 1, none⟩ = false :=
  ⟨frozen_at 0 h.r1, frozen_at 1 h.r1, frozen_at 0 h.r2, frozen_at 1 h.r2⟩
end

theorem print_head {p : List RuleD} {j : Nat} {r : RuleD} (h : p[j]? = some r) : (printAtom r.head).length ≤ (printAll p).length := by
  have h1 := printAll_le p (j + 1)
  rw [printAll_take h] at h1
  unfold printRule at h1
  simp only [List.length_append] at h1
  omega

set_option maxRecDepth 100000 in
set_option maxHeartbeats 4000000 in
theorem tellW (s : ByteArray) (v : Value) (p : List RuleD) (w : World) (m : Int) (hm : w.cell? ⟨0, 0, none⟩ = some (.int .i64 m)) (hv : ruleK.sl Anyw w v p) (hs : s.size ≤ 9223372036854775807) (hlen : (printAll p).length ≤ 549755813888) :
    Calls Try.prog 6 #[.string s, v] w fun e w' => e = .returned (.bool true) ∧ Below w.heap.size w w' := by
  obtain ⟨sa, cap, rfl⟩ := Kind.slice hv
  have hl0 := hv.1.1
  have hm0 : 0 < w.heap.size := World.block_lt_of_cell? w _ hm
  have HV : Hid (∀ w', Below w.heap.size w w' → ruleK.sl Anyw w' (.slice sa p.length cap) p) := fun w' k => Kind.sl_below hv k
  have HM : Hid (∀ w', Below w.heap.size w w' → w'.cell? ⟨0, 0, none⟩ = some (.int .i64 m)) := fun w' k => by rw [World.cell?_of_block (w := w) (a := ⟨0, 0, none⟩) (k.block 0 hm0)]; exact hm
  have HP := hide (parseC s w m hm)
  have HR : Hid (∀ w, Calls Try.prog 33 #[.string s] w fun e w' => ∃ v, e = .returned (.tuple #[v, .agg #[.int .i64 (toldRule (raw s)).2.1, .int .i64 ((toldRule (raw s)).2.2 : Nat)]]) ∧ ruleK.sl (From w.heap.size) w' v (toldRule (raw s)).1 ∧ Below w.heap.size w w') := fun w => rParse s w hs
  have HBd : Hid (∀ w, w.cell? ⟨0, 0, none⟩ = some (.int .i64 m) → Calls Try.prog 39 #[.string s] w fun e w' => ∃ v, e = .returned (.tuple #[v, .agg #[.int .i64 (toldAtom (raw s)).2.1, .int .i64 ((toldAtom (raw s)).2.2 : Nat)]]) ∧ atomK.sl (From w.heap.size) w' v (toldAtom (raw s)).1 ∧ Below w.heap.size w w') := fun w h => bodyFC s w m h
  have HRB : Hid (∀ w, Calls Try.prog 40 #[.string s] w fun e w' => ∃ v, e = .returned (.tuple #[v, .agg #[.int .i64 (toldAtom (raw s)).2.1, .int .i64 ((toldAtom (raw s)).2.2 : Nat)]]) ∧ atomK.sl (From w.heap.size) w' v (toldAtom (raw s)).1 ∧ Below w.heap.size w w') := fun w => rBody s w hs
  have HVa : Hid (∀ w, Calls Try.prog 35 #[.string s] w fun e w' => e = .returned (.bool (isVar (raw s))) ∧ w' = w) := fun w => variableC s w
  have HRV : Hid (∀ w, Calls Try.prog 36 #[.string s] w fun e w' => e = .returned (.bool (isVar (raw s))) ∧ Later w w') := fun w => rVariable s w hs
  clear hv hm
  generalize toldRule (raw s) = T at *
  generalize toldAtom (raw s) = U at *
  generalize isVar (raw s) = iv at *
  obtain ⟨pl, e1, k1⟩ := T
  obtain ⟨bl, e2, k2⟩ := U
  dsimp only at *
  go_enter Try.func6, Try.ntmps6
  go_wp2_with fail
  refine HP.out.mono ?_
  rintro e w1 ⟨v1, rfl, hV1, hB1⟩
  have hs1 := hB1.size
  have hA1 := ((Later.refl w1).alloc (.cells #[.int .i64 e1, .int .i64 (k1 : Int)] 30)).below
  have hW1 := below_trans hB1 hA1 hs1
  have hV1' := Kind.sl_below (Kind.sl_any hV1) hA1
  have hz1 : (w1.alloc (.cells #[.int .i64 e1, .int .i64 (k1 : Int)] 30)).heap.size = w1.heap.size + 1 := by simp
  have hrow1 := heap_alloc_new w1 (.cells #[.int .i64 e1, .int .i64 (k1 : Int)] 30)
  obtain ⟨pa, pc, rfl⟩ := Kind.slice hV1
  clear HP hV1 hB1
  go_wp2_with fail
  refine (HR.out _).mono ?_
  rintro e w2 ⟨v2, rfl, hV2, hB2⟩
  have hs2 := hB2.size
  have hA2 := ((Later.refl w2).alloc (.cells #[.int .i64 e1, .int .i64 (k1 : Int)] 30)).below
  have hV1a := Kind.sl_below (Kind.sl_below hV1' hB2) hA2
  have hV2a := Kind.sl_below (Kind.sl_any hV2) hA2
  have hTwo : Two w w1.heap.size w2.heap.size e1 (k1 : Int) e1 (k1 : Int) (w2.alloc (.cells #[.int .i64 e1, .int .i64 (k1 : Int)] 30)) :=
    ⟨below_trans (below_trans hW1 hB2 hW1.size) hA2 (by omega), by omega, hs1, by omega, row_below (row_below hrow1 hB2) hA2, heap_alloc_new w2 _⟩
  obtain ⟨qa, qc, rfl⟩ := Kind.slice hV2
  have HSm := hide (sameProgram pl pl rfl _ _ _ hV1a hV2a)
  generalize hg1 : w1.heap.size = g1 at *
  generalize hg2 : w2.heap.size = g2 at *
  obtain ⟨z0, z1, z2, z3⟩ := hTwo.z
  have HTwo := hide hTwo
  have hnq := neqFault e1 (k1 : Int) (w2.alloc (.cells #[.int .i64 e1, .int .i64 (k1 : Int)] 30))
  clear hTwo hV1' hV1a hV2 hV2a hB2 hA1 hA2 hW1 hrow1 HR
  go_wp2_with fail
  refine HSm.out.mono ?_
  rintro e w3 ⟨rfl, hL3⟩
  have HT3 := hide (HTwo.out.below hL3.below)
  clear hL3 HTwo HSm z0 z1 z2 z3 hnq hg1 hg2 hz1
  go_wp2_with fail
  refine (HVa.out _).mono ?_
  rintro e w4 ⟨rfl, rfl⟩
  go_wp2_with fail
  refine (HRV.out _).mono ?_
  rintro e w5 ⟨rfl, hL5⟩
  have HT5 := hide (HT3.out.below hL5.below)
  clear hL5 HT3 HVa HRV
  have HPr := hide (printC _ p w5 (HV.out _ HT5.out.bel) hlen)
  go_wp2_with fail
  refine HPr.out.mono ?_
  rintro e w6 ⟨rfl, hB6⟩
  have HT6 := hide (HT5.out.below hB6)
  clear hB6 HT5 HPr
  have HPr := hide (rPrint _ p w6 (HV.out _ HT6.out.bel) hlen)
  go_wp2_with fail
  refine HPr.out.mono ?_
  rintro e w7 ⟨rfl, hL7⟩
  have HT7 := hide (HT6.out.below hL7.below)
  have HB7 := hide (HBd.out w7 (HM.out _ HT7.out.bel))
  clear hL7 HT6 HPr HBd
  have hgl1 : g1 < w7.heap.size := (Array.getElem?_eq_some_iff.1 HT7.out.r1).1
  have hgl2 : g2 < w7.heap.size := (Array.getElem?_eq_some_iff.1 HT7.out.r2).1
  have hgne := HT7.out.ne
  go_wp2_with fail
  refine HB7.out.mono ?_
  rintro e w8 ⟨v8, rfl, hV8, hB8⟩
  have hs8 := hB8.size
  have hT8 := HT7.out.below hB8
  obtain ⟨z0, z1, z2, z3⟩ := hT8.z
  obtain ⟨f0, f1, f2, f3⟩ := hT8.f
  have HT8 := hide (hT8.set1 e2 (k2 : Int))
  have keep : ∀ (w' : World) (u : Value) (q : List AtomD) (g i : Nat) (x : Value), g = g1 ∨ g = g2 → atomK.sl (fun k => k ≠ g1 ∧ k ≠ g2) w' u q → atomK.sl (fun k => k ≠ g1 ∧ k ≠ g2) (w'.setCell ⟨g, i, none⟩ x) u q := fun _ _ _ g i x hg h =>
    Kind.sl_kept h (by rw [size_setCell]; exact Nat.le_refl _) fun k _ hk => heap_setCell_other _ _ _ (show k ≠ g from hg.elim (fun e => by rw [e]; exact hk.1) (fun e => by rw [e]; exact hk.2))
  have hX8 : atomK.sl (fun k => k ≠ g1 ∧ k ≠ g2) w8 v8 bl := Kind.sl_mono hV8 fun k _ hk => by have : w7.heap.size ≤ k := hk; exact ⟨by omega, by omega⟩
  have HX8 := hide (keep _ _ _ g1 1 (.int .i64 (k2 : Int)) (Or.inl rfl) (keep _ _ _ g1 0 (.int .i64 e2) (Or.inl rfl) hX8))
  obtain ⟨xa, xc, rfl⟩ := Kind.slice hV8
  have hsz8 : ((w8.setCell ⟨g1, 0, none⟩ (.int .i64 e2)).setCell ⟨g1, 1, none⟩ (.int .i64 (k2 : Int))).heap.size = w8.heap.size := by rw [size_setCell, size_setCell]
  have HRB8 := hide (HRB.out ((w8.setCell ⟨g1, 0, none⟩ (.int .i64 e2)).setCell ⟨g1, 1, none⟩ (.int .i64 (k2 : Int))))
  have HK := hide keep
  clear hT8 hV8 hB8 hX8 HB7 HT7 HRB keep
  go_wp2_with fail
  refine HRB8.out.mono ?_
  rintro e w9 ⟨v9, rfl, hV9, hB9⟩
  have hT9 := HT8.out.below hB9
  clear z0 z1 z2 z3 f0 f1 f2 f3
  obtain ⟨z0, z1, z2, z3⟩ := hT9.z
  obtain ⟨f0, f1, f2, f3⟩ := hT9.f
  have hTF := hT9.set2 e2 (k2 : Int)
  have hx9 := Kind.sl_kept HX8.out hB9.size fun k hk _ => hB9.block k hk
  have hy9 : atomK.sl (fun k => k ≠ g1 ∧ k ≠ g2) w9 v9 bl := Kind.sl_mono hV9 fun k _ hk => by
    have h1 : ((w8.setCell ⟨g1, 0, none⟩ (.int .i64 e2)).setCell ⟨g1, 1, none⟩ (.int .i64 (k2 : Int))).heap.size ≤ k := hk
    rw [hsz8] at h1
    exact ⟨by omega, by omega⟩
  have hxF := Kind.sl_any (HK.out _ _ _ g2 1 (.int .i64 (k2 : Int)) (Or.inr rfl) (HK.out _ _ _ g2 0 (.int .i64 e2) (Or.inr rfl) hx9))
  have hyF := Kind.sl_any (HK.out _ _ _ g2 1 (.int .i64 (k2 : Int)) (Or.inr rfl) (HK.out _ _ _ g2 0 (.int .i64 e2) (Or.inr rfl) hy9))
  have HSa := sameAtoms bl bl _ _ _ hxF hyF
  rw [show decide (bl = bl) = true by simp] at HSa
  replace HSa := hide HSa
  obtain ⟨ya, yc, rfl⟩ := Kind.slice hV9
  obtain ⟨t0, t1, t2, t3⟩ := hTF.z
  have hnq := neqFault e2 (k2 : Int) ((w9.setCell ⟨g2, 0, none⟩ (.int .i64 e2)).setCell ⟨g2, 1, none⟩ (.int .i64 (k2 : Int)))
  have HTF := hide hTF
  clear hTF hT9 hx9 hy9 hxF hyF hV9 hB9 HX8 HT8 HRB8 HK hsz8
  go_wp2_with fail
  refine HSa.out.mono ?_
  rintro e w10 ⟨rfl, hL10⟩
  have HB10 := hide (HTF.out.below hL10.below).bel
  clear hL10 HTF HSa z0 z1 z2 z3 f0 f1 f2 f3 t0 t1 t2 t3 hnq
  go_wp2
  go_loopg [67] p.length (fun k i wr => ∃ j : Nat, j + k = p.length ∧ i = .int .i64 j ∧ Hid (Below w.heap.size w wr))
  case atStart => exact ⟨0, by omega, rfl, HB10⟩
  case round =>
    obtain ⟨j, hj, rfl, HB⟩ := hrel
    clear HB10
    by_cases hlt : j < p.length
    · obtain ⟨r, hr⟩ : ∃ x, p[j]? = some x := ⟨_, List.getElem?_eq_getElem hlt⟩
      obtain ⟨b1, o1, _, rfl, hb1, ⟨sv, su, rfl, hsv, hsu⟩, hcl⟩ := Kind.sl_at (HV.out wr HB.out) hr
      have d0 : wr.cell? ⟨b1, o1 + j * 4, none⟩ = some (.bool r.head.no) := hcl 0 _ rfl
      have d1 : wr.cell? ⟨b1, o1 + j * 4 + 1, none⟩ = some (.string (bs r.head.name)) := hcl 1 _ rfl
      have d2 : wr.cell? ⟨b1, o1 + j * 4 + 2, none⟩ = some sv := hcl 2 _ rfl
      have d3 : wr.cell? ⟨b1, o1 + j * 4 + 3, none⟩ = some su := hcl 3 _ rfl
      have hph := print_head hr
      have HA1 : Hid (∀ w', Below wr.heap.size wr w' → Calls Try.prog 42 #[.agg #[.bool r.head.no, .string (bs r.head.name), sv]] w' fun e w'' => e = .returned (.string (bs (printAtom r.head))) ∧ Below w'.heap.size w' w'') := fun w' k =>
        atomF r.head.no r.head.name r.head.terms sv w' (Kind.sl_below hsv k) (by show (printAtom r.head).length ≤ _; omega)
      have HA2 : Hid (∀ w', Below wr.heap.size wr w' → Calls Try.prog 43 #[.agg #[.bool r.head.no, .string (bs r.head.name), sv]] w' fun e w'' => e = .returned (.string (bs (printAtom r.head))) ∧ Later w' w'') := fun w' k =>
        rAtomF r.head.no r.head.name r.head.terms sv w' (Kind.sl_below hsv k) (by show (printAtom r.head).length ≤ _; omega)
      obtain ⟨a2, c2, rfl⟩ := Kind.slice hsv
      obtain ⟨a3, c3, rfl⟩ := Kind.slice hsu
      clear hcl hr hsv hsu hph
      generalize bs (printAtom r.head) = pr at *
      generalize bs r.head.name = n1 at *
      generalize r.head.no = no at *
      have keepS : ∀ (w' w'' : World), (Below wr.heap.size wr w' ∧ w'.cell? ⟨wr.heap.size, 0, none⟩ = some (.bool no) ∧ w'.cell? ⟨wr.heap.size, 1, none⟩ = some (.string n1) ∧ w'.cell? ⟨wr.heap.size, 2, none⟩ = some (.slice a2 r.head.terms.length c2) ∧ wr.heap.size < w'.heap.size) → Below w'.heap.size w' w'' → (Below wr.heap.size wr w'' ∧ w''.cell? ⟨wr.heap.size, 0, none⟩ = some (.bool no) ∧ w''.cell? ⟨wr.heap.size, 1, none⟩ = some (.string n1) ∧ w''.cell? ⟨wr.heap.size, 2, none⟩ = some (.slice a2 r.head.terms.length c2) ∧ wr.heap.size < w''.heap.size) := fun _ _ ⟨h1, h2, h3, h4, h5⟩ k =>
        ⟨below_trans h1 k h1.size, by rw [k.cell h5]; exact h2, by rw [k.cell h5]; exact h3, by rw [k.cell h5]; exact h4, Nat.lt_of_lt_of_le h5 k.size⟩
      have hS0 : Below wr.heap.size wr (wr.alloc (.cells #[.bool no, .string n1, .slice a2 r.head.terms.length c2, .slice a3 r.body.length c3] 56)).drew ∧ (wr.alloc (.cells #[.bool no, .string n1, .slice a2 r.head.terms.length c2, .slice a3 r.body.length c3] 56)).drew.cell? ⟨wr.heap.size, 0, none⟩ = some (.bool no) ∧ (wr.alloc (.cells #[.bool no, .string n1, .slice a2 r.head.terms.length c2, .slice a3 r.body.length c3] 56)).drew.cell? ⟨wr.heap.size, 1, none⟩ = some (.string n1) ∧ (wr.alloc (.cells #[.bool no, .string n1, .slice a2 r.head.terms.length c2, .slice a3 r.body.length c3] 56)).drew.cell? ⟨wr.heap.size, 2, none⟩ = some (.slice a2 r.head.terms.length c2) ∧ wr.heap.size < (wr.alloc (.cells #[.bool no, .string n1, .slice a2 r.head.terms.length c2, .slice a3 r.body.length c3] 56)).drew.heap.size :=
        ⟨((Later.refl wr).alloc _).drew.below, by show (wr.alloc _).cell? _ = _; simp, by show (wr.alloc _).cell? _ = _; simp, by show (wr.alloc _).cell? _ = _; simp, by show wr.heap.size < (wr.alloc _).heap.size; simp⟩
      have HS0 := hide hS0
      have HK := hide keepS
      clear hS0 keepS
      go_wp2
      refine wp_region_held_drew (S := fun w' => Below wr.heap.size wr w' ∧ w'.cell? ⟨wr.heap.size, 0, none⟩ = some (.bool no) ∧ w'.cell? ⟨wr.heap.size, 1, none⟩ = some (.string n1) ∧ w'.cell? ⟨wr.heap.size, 2, none⟩ = some (.slice a2 r.head.terms.length c2) ∧ wr.heap.size < w'.heap.size) (by kernel_rfl) HS0.out (fun hHeld => ?_)
      refine take_at (i := 0) (d := some 71) (v := ?_) rfl rfl (by kernel_rfl) (by kernel_rfl) (by kernel_rfl) (fun _ _ _ h => h) (Or.inl ⟨by rfl, ?_⟩) hHeld ?_
      rotate_left
      · intro w hSw; (try dsimp only at hSw); obtain ⟨_, y0, y1, y2, y3⟩ := hSw; go_simp; try with_reducible rfl
      simp only [Act.put, List.setIfInBounds_toArray, List.set_cons_zero, List.set_cons_succ]
      refine take_at (i := 1) (d := some 72) (v := ?_) rfl rfl (by kernel_rfl) (by kernel_rfl) (by kernel_rfl) (fun _ _ _ h => h) (Or.inl ⟨by rfl, ?_⟩) hHeld ?_
      rotate_left
      · intro w hSw; (try dsimp only at hSw); obtain ⟨_, y0, y1, y2, y3⟩ := hSw; go_simp; try with_reducible rfl
      simp only [Act.put, List.setIfInBounds_toArray, List.set_cons_zero, List.set_cons_succ]
      refine take_at (i := 3) (d := some 74) (v := ?_) rfl rfl (by kernel_rfl) (by kernel_rfl) (by kernel_rfl) (fun _ _ _ h => h) (Or.inl ⟨by rfl, ?_⟩) hHeld ?_
      rotate_left
      · intro w hSw; (try dsimp only at hSw); obtain ⟨_, y0, y1, y2, y3⟩ := hSw; go_simp; try with_reducible rfl
      simp only [Act.put, List.setIfInBounds_toArray, List.set_cons_zero, List.set_cons_succ]
      refine take_at (i := 4) (d := some 75) (v := ?_) rfl rfl (by kernel_rfl) (by kernel_rfl) (by kernel_rfl) (fun _ _ _ h => h) (Or.inl ⟨by rfl, ?_⟩) hHeld ?_
      rotate_left
      · intro w hSw; (try dsimp only at hSw); obtain ⟨_, y0, y1, y2, y3⟩ := hSw; go_simp; try with_reducible rfl
      simp only [Act.put, List.setIfInBounds_toArray, List.set_cons_zero, List.set_cons_succ]
      refine wpAnyH_ready (rs := [2]) (by kernel_rfl) (by simp) ?_
      refine AllReadyH.cons rfl (fun K hK => ?_) AllReadyH.nil
      go_simp
      refine (HA1.out _ hHeld.1).mono ?_
      rintro e w4 ⟨rfl, hB4⟩
      dsimp only
      refine hK.out _ _ (HK.out _ _ hHeld hB4) (fun hHeld => ?_)
      clear hK K
      refine wpAnyH_ready (rs := [5]) (by kernel_rfl) (by simp) ?_
      refine AllReadyH.cons rfl (fun K hK => ?_) AllReadyH.nil
      go_simp
      refine (HA2.out _ hHeld.1).mono ?_
      rintro e w5 ⟨rfl, hL5⟩
      dsimp only
      refine hK.out _ _ (HK.out _ _ hHeld hL5.below) (fun hHeld => ?_)
      clear hK K
      refine take_at (i := 6) (d := some 77) (v := ?_) rfl rfl (by kernel_rfl) (by kernel_rfl) (by kernel_rfl) (fun _ _ _ h => h) (Or.inl ⟨by rfl, ?_⟩) hHeld ?_
      rotate_left
      · intro w hSw; (try dsimp only at hSw);  go_simp; try with_reducible rfl
      simp only [Act.put, List.setIfInBounds_toArray, List.set_cons_zero, List.set_cons_succ]
      refine wpAnyH_done (by kernel_rfl) ?_ _
      go_wp2
      go_roundg (p.length - (j + 1))
      case measure => omega
      case rel => exact ⟨j + 1, by omega, by go_num, below_trans HB.out hHeld.1 HB.out.size⟩
    · go_wp2
      go_ret
      exact ⟨rfl, HB.out⟩

end Go.Proofs.Ytehipkidohomeaa
