/- Texts of this claim, one behind the other. -/
import Derived.Test.YtilkggldmgeagaaGreatDoorJ18
import Derived.BigQuiet
/- The walks of naive.Facts and naive.Count. -/
namespace Go.Proofs.YtilkggldmgeagaaGreatDoor
open Go.RowKit Go.Sort Go.Maps

set_option maxRecDepth 100000 in
set_option maxHeartbeats 4000000 in
theorem naiveFactsC (p : List RuleD) (hp : RightP p) (pv fv : Value) (l : List FactB) (w : World) (hv : ruleK.sl Anyw w pv p) (hf : Facts w fv l) :
    Calls Tryz.prog 31 #[pv, fv] w fun e w' => e = .returned (.agg #[.int .i64 (factsP p l).1, .int .i64 (factsP p l).2]) ∧ Below w.heap.size w w' := by
  obtain ⟨pa, pc, rfl⟩ := Kind.slice hv
  obtain ⟨a, cap, rfl, hln, hz⟩ := hf.addr
  have hL0 : Later w (w.alloc (.cells #[.int .i64 0, .int .i64 0] 41)) := (Later.refl w).alloc _
  have hR0 : (w.alloc (.cells #[.int .i64 0, .int .i64 0] 41)).heap[w.heap.size]? = some (.cells #[.int .i64 0, .int .i64 0] 41 (0, 0)) := heap_alloc_new w _
  have HSet := hide (setC (.slice a l.length cap) l (w.alloc (.cells #[.int .i64 0, .int .i64 0] 41)) (hf.later hL0))
  have HL0 := hide hL0
  have HR0 := hide hR0
  have HV := hide hv
  have HF := hide hf
  have HRP := hide hp
  clear hv hf hp hL0 hR0
  obtain ⟨ex, ea, hse⟩ : ∃ ex ea, setFault l = (ex, ea) := ⟨_, _, rfl⟩
  rw [hse] at HSet
  have HSE := hide hse
  clear hse
  go_enter Tryz.func31, Tryz.ntmps31
  go_wp2_with fail
  refine HSet.out.mono ?_
  rintro e w1 ⟨rfl, hL1⟩
  dsimp only
  have hs1 : w.heap.size < w1.heap.size := by have := hL1.size; simp at this; omega
  have HR1 : Hid (w1.heap[w.heap.size]? = some (.cells #[.int .i64 0, .int .i64 0] 41 (0, 0))) := by show _ = _; rw [hL1.block (by simp)]; exact HR0.out
  have HL1 : Hid (Later w w1) := HL0.out.trans hL1
  clear hL1 HSet HL0 HR0
  by_cases h0 : ex = 0
  · subst h0
    have HX : Hid (factsP p l = fitFrom p l l.length 0) := by show _ = _; unfold factsP; rw [HSE.out, if_neg (by simp)]
    have hsr := set_right (l := l) (by rw [HSE.out])
    have HSR := hide hsr.2.2
    obtain ⟨hn5, hn12⟩ := right_names HRP.out
    obtain ⟨w2, hw2⟩ : ∃ w2, w2 = w1.alloc (.cells #[.int .i64 0, .int .i64 ea] 41) := ⟨_, rfl⟩
    have hL2 : Later w1 w2 := by rw [hw2]; exact (Later.refl _).alloc _
    have hB2 : Below w.heap.size w w2 := (HL1.out.trans hL2).below
    have HW := hide (widthsOfC p (.slice pa p.length pc) w2 (Kind.sl_below HV.out hB2) HRP.out.few hn5 hn12)
    have HB2 := hide hB2
    have HR2 : Hid (w2.heap[w.heap.size]? = some (.cells #[.int .i64 0, .int .i64 0] 41 (0, 0))) := by show _ = _; rw [hL2.block hs1]; exact HR1.out
    have hs2 : w.heap.size < w2.heap.size := by have := hL2.size; omega
    have HW2 := hide hw2
    clear hsr hn5 hn12 hL2 hB2 hw2 HSE HR1 HL1 HRP
    go_wp2_with fail
    rw [← HW2.out]
    refine HW.out.mono ?_
    rintro e w3 ⟨n, m, rfl, hM3, hO3, hB3⟩
    have HM3 := hide hM3
    have HFit : Hid (∀ f, widFits m f = fitF p f) := fun f => fit_wid hO3 f
    have HB3 : Hid (Below w.heap.size w w3) := below_trans HB2.out hB3 HB2.out.size
    have HR3 : Hid (w3.heap[w.heap.size]? = some (.cells #[.int .i64 0, .int .i64 0] 41 (0, 0))) := by show _ = _; rw [hB3.block _ hs2]; exact HR2.out
    have hs3 : w.heap.size < w3.heap.size := by have := hB3.size; omega
    generalize w2.heap.size = bm at *
    clear hM3 hO3 hB3 HB2 HR2 HW HW2 hs2 hs1
    go_wp2
    go_loopg [19] l.length (fun g i wr => ∃ j k : Nat, k = g ∧ j + k = l.length ∧ i = .int .i64 j ∧ Hid (Later w3 wr) ∧ Hid (factsP p l = fitFrom p l k j))
    case atStart => exact ⟨0, l.length, rfl, by omega, rfl, Later.refl _, HX⟩
    case round =>
      clear HX
      obtain ⟨j, k, hkg, hj, rfl, HL, HX⟩ := hrel
      have hRr : wr.heap[w.heap.size]? = some (.cells #[.int .i64 0, .int .i64 0] 41 (0, 0)) := by rw [HL.out.block hs3]; exact HR3.out
      have hsr : w.heap.size < wr.heap.size := by have := HL.out.size; omega
      by_cases hlt : j < l.length
      · rcases hz with rfl | ⟨b, off, rfl⟩
        · simp at hlt
        have hltz : (j : Int) < (l.length : Int) := by omega
        have hFr : Facts wr (.slice (some ⟨b, off, none⟩) l.length cap) l := HF.out.below (below_trans HB3.out HL.out.below HB3.out.size)
        obtain ⟨hb, ax, lx, cx, g1, g2, fx⟩ := hFr.at hlt
        have hfm : l.getD j noFact ∈ l := by rw [List.getD_eq_getElem?_getD, List.getElem?_eq_getElem hlt]; exact List.getElem_mem hlt
        have hfs := right_short (wrongF_right.1 (HSR.out _ hfm))
        obtain ⟨wb, hwb⟩ : ∃ wb, wb = wr.alloc (.cells #[.string (l.getD j noFact).1, .slice ax lx cx] 50) := ⟨_, rfl⟩
        have hLb : Later wr wb := by rw [hwb]; exact (Later.refl _).alloc _
        have HC := hide (widFitC bm n m (l.getD j noFact) (.agg #[.string (l.getD j noFact).1, .slice ax lx cx]) wb (HM3.out.later (HL.out.trans hLb)) (fx.later hLb) (by have := hfs.1; unfold maxLen; omega))
        rw [HFit.out] at HC
        obtain ⟨g, rfl⟩ : ∃ g, k = g + 1 := ⟨k - 1, by omega⟩
        have hX : factsP p l = if fitF p (l.getD j noFact) = true then fitFrom p l g (j + 1) else (8, j) := by
          rw [HX.out]; rfl
        have HLb : Hid (Later w3 wb) := HL.out.trans hLb
        have HRb : Hid (wb.heap[w.heap.size]? = some (.cells #[.int .i64 0, .int .i64 0] 41 (0, 0))) := by show _ = _; rw [hLb.block hsr]; exact hRr
        have hsb : w.heap.size < wb.heap.size := by have := hLb.size; omega
        have HWb := hide hwb
        generalize hff : fitF p (l.getD j noFact) = ft at *
        generalize (l.getD j noFact).1 = nk at *
        clear hff hFr fx hfm hfs hLb hwb hRr HX
        cases ft with
        | true =>
          have HX' : Hid (factsP p l = fitFrom p l g (j + 1)) := by show _ = _; rw [hX]; rfl
          clear hX
          go_wp2_with fail
          rw [← HWb.out]
          refine HC.out.mono ?_
          rintro e w5 ⟨rfl, hL5⟩
          have HL5 : Hid (Later w3 w5) := HLb.out.trans hL5
          clear hL5 HC
          go_wp2
          go_roundg g
          case measure => omega
          case rel => exact ⟨j + 1, g, rfl, by omega, by go_num, HL5, HX'⟩
        | false =>
          have HX' : Hid (factsP p l = (8, (j : Int))) := by show _ = _; rw [hX]; rfl
          clear hX
          go_wp2_with fail
          rw [← HWb.out]
          refine HC.out.mono ?_
          rintro e w5 ⟨rfl, hL5⟩
          have HL5 : Hid (Later w3 w5) := HLb.out.trans hL5
          have hR5 : w5.heap[w.heap.size]? = some (.cells #[.int .i64 0, .int .i64 0] 41 (0, 0)) := by rw [hL5.block hsb]; exact HRb.out
          have q0 : w5.cell? ⟨w.heap.size, 0, none⟩ = some (.int .i64 0) := by rw [cell_of_row _ _ _ _ _ _ hR5]; rfl
          have q1 : w5.cell? ⟨w.heap.size, 1, none⟩ = some (.int .i64 0) := by rw [cell_of_row _ _ _ _ _ _ hR5]; rfl
          have p0 : w5.frozen? ⟨w.heap.size, 0, none⟩ = false := frozen_rowC 0 hR5
          have p1 : w5.frozen? ⟨w.heap.size, 1, none⟩ = false := frozen_rowC 1 hR5
          have HR5 := hide hR5
          clear hL5 HC hR5
          go_wp2
          obtain ⟨r0, r1⟩ := fault_two HR5.out (.int .i64 8) (.int .i64 j)
          refine bodyPost_ret (v := .agg #[.int .i64 8, .int .i64 j]) (by simp [results, Tryz.results31, go_sem, r0, r1]) rfl ⟨by rw [HX'.out], ?_⟩
          exact ((below_trans HB3.out HL5.out.below HB3.out.size).setCell (Nat.le_refl _) _).setCell (Nat.le_refl _) _
      · have hk0 : k = 0 := by omega
        have HX' : Hid (factsP p l = (0, 0)) := by show _ = _; rw [HX.out, hk0]; rfl
        have q0 : wr.cell? ⟨w.heap.size, 0, none⟩ = some (.int .i64 0) := by rw [cell_of_row _ _ _ _ _ _ hRr]; rfl
        have q1 : wr.cell? ⟨w.heap.size, 1, none⟩ = some (.int .i64 0) := by rw [cell_of_row _ _ _ _ _ _ hRr]; rfl
        have p0 : wr.frozen? ⟨w.heap.size, 0, none⟩ = false := frozen_rowC 0 hRr
        have p1 : wr.frozen? ⟨w.heap.size, 1, none⟩ = false := frozen_rowC 1 hRr
        have HRr := hide hRr
        clear hRr HX
        go_wp2
        obtain ⟨r0, r1⟩ := fault_two HRr.out (.int .i64 0) (.int .i64 0)
        refine bodyPost_ret (v := .agg #[.int .i64 0, .int .i64 0]) (by simp [results, Tryz.results31, go_sem, r0, r1]) rfl ⟨by rw [HX'.out], ?_⟩
        exact ((below_trans HB3.out HL.out.below HB3.out.size).setCell (Nat.le_refl _) _).setCell (Nat.le_refl _) _
  · have HX : Hid (factsP p l = (ex, ea)) := by show _ = _; unfold factsP; rw [HSE.out, if_pos h0]
    have hq : (ex != 0) = true := by simpa using h0
    have hR2 := HR1.out
    have q0 : w1.cell? ⟨w.heap.size, 0, none⟩ = some (.int .i64 0) := by rw [cell_of_row _ _ _ _ _ _ hR2]; rfl
    have q1 : w1.cell? ⟨w.heap.size, 1, none⟩ = some (.int .i64 0) := by rw [cell_of_row _ _ _ _ _ _ hR2]; rfl
    have p0 : w1.frozen? ⟨w.heap.size, 0, none⟩ = false := frozen_rowC 0 hR2
    have p1 : w1.frozen? ⟨w.heap.size, 1, none⟩ = false := frozen_rowC 1 hR2
    clear hR2 HSE h0 HV HF
    go_wp2
    obtain ⟨r0, r1⟩ := fault_two HR1.out (.int .i64 ex) (.int .i64 ea)
    have hBX : Below w.heap.size w ((w1.setCell ⟨w.heap.size, 0, none⟩ (.int .i64 ex)).setCell ⟨w.heap.size, 1, none⟩ (.int .i64 ea)) := (HL1.out.below.setCell (Nat.le_refl _) _).setCell (Nat.le_refl _) _
    have hzX : w.heap.size < ((w1.setCell ⟨w.heap.size, 0, none⟩ (.int .i64 ex)).setCell ⟨w.heap.size, 1, none⟩ (.int .i64 ea)).heap.size := by rw [size_setCell, size_setCell]; exact hs1
    generalize (w1.setCell ⟨w.heap.size, 0, none⟩ (.int .i64 ex)).setCell ⟨w.heap.size, 1, none⟩ (.int .i64 ea) = wx at *
    have s0 : (wx.alloc (.cells #[.int .i64 ex, .int .i64 ea] 41)).cell? ⟨w.heap.size, 0, none⟩ = some (.int .i64 ex) := by rw [((Later.refl wx).alloc _).cell (p := ⟨w.heap.size, 0, none⟩) hzX]; exact r0
    have s1 : (wx.alloc (.cells #[.int .i64 ex, .int .i64 ea] 41)).cell? ⟨w.heap.size, 1, none⟩ = some (.int .i64 ea) := by rw [((Later.refl wx).alloc _).cell (p := ⟨w.heap.size, 1, none⟩) hzX]; exact r1
    refine bodyPost_ret (v := .agg #[.int .i64 ex, .int .i64 ea]) (by simp [results, Tryz.results31, go_sem, s0, s1]) rfl ⟨by rw [HX.out], ?_⟩
    exact hBX.alloc hBX.size _

theorem foldl_max (ss : List Nat) : ∀ s : Nat, (ss.map fun x : Nat => (x : Int)).foldl max (s : Int) + 1 = (max (s + 1) (countP ss) : Nat) := by
  induction ss with
  | nil => intro s; simp [countP]
  | cons t ss ih =>
    intro s
    rw [List.map_cons, List.foldl_cons, show (max (s : Int) (t : Int)) = ((max s t : Nat) : Int) by omega, ih]
    simp only [countP]; omega

theorem countP_le {c : Nat} : ∀ {ss : List Nat}, (∀ s ∈ ss, s < c) → countP ss ≤ c
  | [], _ => Nat.zero_le _
  | s :: ss, h => by
    have h1 := h s (by simp)
    have h2 := countP_le (ss := ss) fun t ht => h t (by simp [ht])
    simp only [countP]; omega

set_option maxHeartbeats 1000000 in
theorem countC (ss : List Nat) (v : Value) (w : World) (hv : intK.sl Anyw w v ss) (hs : ∀ s ∈ ss, s < 1000) :
    Calls Tryz.prog 15 #[v] w fun e w' => e = .returned (.int .i64 (countP ss : Nat)) ∧ Later w w' := by
  obtain ⟨a, cap, rfl⟩ := Kind.slice hv
  have hl := hv.1.1
  cases ss with
  | nil =>
    clear hv hs
    go_enter Tryz.func15, Tryz.ntmps15
    go_wp2
    go_ret
    exact ⟨rfl, Later.refl _⟩
  | cons s ss =>
    obtain ⟨b, off, _, rfl, hb, _, _⟩ := Kind.sl_at hv (i := 0) (x := s) rfl
    have hM := Tryz.slices_Max_int b off (s :: ss).length cap ((s :: ss).map fun x : Nat => (x : Int)) w (by simp) (by simp) (by omega) (fun j hj => by
      rw [List.length_map] at hj
      obtain ⟨x, hx⟩ : ∃ x, (s :: ss)[j]? = some x := ⟨_, List.getElem?_eq_getElem hj⟩
      obtain ⟨b1, o1, _, e1, _, rfl, hc⟩ := Kind.sl_at hv hx
      simp only [Option.some.injEq, Addr.mk.injEq, and_true] at e1
      obtain ⟨rfl, rfl⟩ := e1
      rw [List.getD_eq_getElem?_getD, List.getElem?_map, hx]
      simpa [intK] using hc 0 _ rfl)
    have e : Lib.maxOf (((s :: ss).map fun x : Nat => (x : Int)).take (s :: ss).length) + 1 = (countP (s :: ss) : Nat) := by
      rw [List.take_of_length_le (by simp)]
      unfold Lib.maxOf
      rw [List.map_cons, List.headD_cons, List.foldl_cons, show max (s : Int) (s : Int) = (s : Int) by omega, foldl_max]
      rfl
    have hcp : countP (s :: ss) ≤ 1000 := countP_le hs
    generalize Lib.maxOf (((s :: ss).map fun x : Nat => (x : Int)).take (s :: ss).length) = mx at *
    generalize countP (s :: ss) = cp at *
    have hmx : mx = (cp : Int) - 1 := by omega
    subst hmx
    have HM := hide hM
    have hne : ¬ ((((s :: ss).length : Nat) : Int) = 0) := by simp; omega
    clear hv hs hM e
    go_enter Tryz.func15, Tryz.ntmps15
    go_wp2_with fail
    refine HM.out.mono ?_
    rintro e w1 ⟨rfl, rfl⟩
    go_wp2
    go_ret
    refine ⟨?_, Later.refl _⟩
    congr 2

end Go.Proofs.YtilkggldmgeagaaGreatDoor

/- The walk of round's next. -/
namespace Go.Proofs.YtilkggldmgeagaaGreatDoor
open Go.RowKit Go.Sort Go.Maps

def RunV (w : World) (v : Value) (r : RunD) : Prop := ∃ kv nv, v = .agg #[kv, nv, .int .i64 r.level, .int .i64 r.rounds, .bool r.done] ∧ Facts w kv r.known ∧ Facts w nv r.fresh

def RunO (b : Nat) (w : World) (v : Value) (r : RunD) : Prop := ∃ kv nv, v = .agg #[kv, nv, .int .i64 r.level, .int .i64 r.rounds, .bool r.done] ∧ OwnF w b kv r.known ∧ OwnF w b nv r.fresh

theorem RunO.none (b : Nat) (w : World) : RunO b w (.agg #[.slice none 0 0, .slice none 0 0, .int .i64 0, .int .i64 0, .bool false]) noRun := ⟨_, _, rfl, OwnF.nil _ _, OwnF.nil _ _⟩

theorem RunV.below {w w' : World} {v : Value} {r : RunD} (h : RunV w v r) (k : Below w.heap.size w w') : RunV w' v r := by
  obtain ⟨kv, nv, h1, h2, h3⟩ := h; exact ⟨kv, nv, h1, h2.below k, h3.below k⟩

theorem RunO.stay {b : Nat} {w w' : World} {v : Value} {r : RunD} (h : RunO b w v r) (hs : w.heap.size ≤ w'.heap.size) (hk : ∀ k, k < w.heap.size → b ≤ k → w'.heap[k]? = w.heap[k]?) : RunO b w' v r := by
  obtain ⟨kv, nv, h1, h2, h3⟩ := h; exact ⟨kv, nv, h1, h2.stay hs hk, h3.stay hs hk⟩

theorem RunO.base {b b' : Nat} {w : World} {v : Value} {r : RunD} (h : RunO b w v r) (hb : b' ≤ b) : RunO b' w v r := by
  obtain ⟨kv, nv, h1, h2, h3⟩ := h; exact ⟨kv, nv, h1, h2.base hb, h3.base hb⟩

theorem row5 {w : World} {R : Nat} {u0 u1 u2 u3 u4 : Value} {t : TypeId} (h : w.heap[R]? = some (.cells #[u0, u1, u2, u3, u4] t (0, 0))) : w.cell? ⟨R, 0, none⟩ = some u0 ∧ w.cell? ⟨R, 1, none⟩ = some u1 ∧ w.cell? ⟨R, 2, none⟩ = some u2 ∧ w.cell? ⟨R, 3, none⟩ = some u3 ∧ w.cell? ⟨R, 4, none⟩ = some u4 ∧
    (w.frozen? ⟨R, 0, none⟩ = false ∧ w.frozen? ⟨R, 1, none⟩ = false ∧ w.frozen? ⟨R, 2, none⟩ = false ∧ w.frozen? ⟨R, 3, none⟩ = false ∧ w.frozen? ⟨R, 4, none⟩ = false) ∧ R < w.heap.size :=
  ⟨by rw [cell_of_row _ _ _ _ _ _ h]; rfl, by rw [cell_of_row _ _ _ _ _ _ h]; rfl, by rw [cell_of_row _ _ _ _ _ _ h]; rfl, by rw [cell_of_row _ _ _ _ _ _ h]; rfl, by rw [cell_of_row _ _ _ _ _ _ h]; rfl,
    ⟨by simp [World.frozen?, h], by simp [World.frozen?, h], by simp [World.frozen?, h], by simp [World.frozen?, h], by simp [World.frozen?, h]⟩, (Array.getElem?_eq_some_iff.1 h).1⟩

def put5 (w : World) (R : Nat) (x0 x1 x2 x3 x4 : Value) : World := ((((w.setCell ⟨R, 0, none⟩ x0).setCell ⟨R, 1, none⟩ x1).setCell ⟨R, 2, none⟩ x2).setCell ⟨R, 3, none⟩ x3).setCell ⟨R, 4, none⟩ x4

theorem set_five {w : World} {R : Nat} {u0 u1 u2 u3 u4 : Value} {t : TypeId} (h : w.heap[R]? = some (.cells #[u0, u1, u2, u3, u4] t (0, 0))) (x0 x1 x2 x3 x4 : Value) :
    (put5 w R x0 x1 x2 x3 x4).heap[R]? = some (.cells #[x0, x1, x2, x3, x4] t (0, 0)) := by
  unfold put5
  rw [set_at (j := 4) (set_at (j := 3) (set_at (j := 2) (set_at (j := 1) (set_at (j := 0) h x0) x1) x2) x3) x4]
  rfl

theorem put5_tn (w : World) (R : Nat) (x0 x1 x2 x3 x4 : Value) : Tn R w (put5 w R x0 x1 x2 x3 x4) :=
  (((((Tn.refl R w).setCell (Or.inl rfl) _).setCell (Or.inl rfl) _).setCell (Or.inl rfl) _).setCell (Or.inl rfl) _).setCell (Or.inl rfl) _

theorem set5 {w : World} {R : Nat} {u0 u1 u2 u3 u4 : Value} {t : TypeId} (h : w.heap[R]? = some (.cells #[u0, u1, u2, u3, u4] t (0, 0))) (x0 x1 x2 x3 x4 : Value) :
    (((((w.setCell ⟨R, 0, none⟩ x0).setCell ⟨R, 1, none⟩ x1).setCell ⟨R, 2, none⟩ x2).setCell ⟨R, 3, none⟩ x3).setCell ⟨R, 4, none⟩ x4).cell? ⟨R, 0, none⟩ = some x0 ∧
    (((((w.setCell ⟨R, 0, none⟩ x0).setCell ⟨R, 1, none⟩ x1).setCell ⟨R, 2, none⟩ x2).setCell ⟨R, 3, none⟩ x3).setCell ⟨R, 4, none⟩ x4).cell? ⟨R, 1, none⟩ = some x1 ∧
    (((((w.setCell ⟨R, 0, none⟩ x0).setCell ⟨R, 1, none⟩ x1).setCell ⟨R, 2, none⟩ x2).setCell ⟨R, 3, none⟩ x3).setCell ⟨R, 4, none⟩ x4).cell? ⟨R, 2, none⟩ = some x2 ∧
    (((((w.setCell ⟨R, 0, none⟩ x0).setCell ⟨R, 1, none⟩ x1).setCell ⟨R, 2, none⟩ x2).setCell ⟨R, 3, none⟩ x3).setCell ⟨R, 4, none⟩ x4).cell? ⟨R, 3, none⟩ = some x3 ∧
    (((((w.setCell ⟨R, 0, none⟩ x0).setCell ⟨R, 1, none⟩ x1).setCell ⟨R, 2, none⟩ x2).setCell ⟨R, 3, none⟩ x3).setCell ⟨R, 4, none⟩ x4).cell? ⟨R, 4, none⟩ = some x4 := by
  have := row5 (set_five h x0 x1 x2 x3 x4)
  unfold put5 at this
  exact ⟨this.1, this.2.1, this.2.2.1, this.2.2.2.1, this.2.2.2.2.1⟩

theorem OwnF.put {base R j : Nat} {w : World} {v x : Value} {l : List FactD} (h : OwnF w base v l) (hR : R < base) : OwnF (w.setCell ⟨R, j, none⟩ x) base v l :=
  h.stay (by rw [size_setCell]; exact Nat.le_refl _) fun k _ hk => heap_setCell_other _ _ _ (by show k ≠ R; omega)

theorem OwnF.put5 {base R : Nat} {w : World} {v x0 x1 x2 x3 x4 : Value} {l : List FactD} (h : OwnF w base v l) (hR : R < base) : OwnF (put5 w R x0 x1 x2 x3 x4) base v l :=
  ((((h.put hR).put hR).put hR).put hR).put hR

theorem Below.put {n R j : Nat} {a b : World} {x : Value} (h : Below n a b) (hR : n ≤ R) : Below n a (b.setCell ⟨R, j, none⟩ x) := h.setCell hR x

theorem Below.put5 {n R : Nat} {a b : World} {x0 x1 x2 x3 x4 : Value} (h : Below n a b) (hR : n ≤ R) : Below n a (put5 b R x0 x1 x2 x3 x4) :=
  ((((Below.put h hR).setCell hR _).setCell hR _).setCell hR _).setCell hR _

theorem mades_end {K D acc : List FactB} (hK : Up K) (h : Mades K D acc) : (200 < (setF (K ++ D)).length → 200 < (setF (K ++ acc)).length) ∧ (¬ 200 < (setF (K ++ D)).length → setF (K ++ D) = setF (K ++ acc) ∧ D = newOf K acc) := by
  constructor
  · intro h1
    have := up_le (setF_up (K ++ D)) (t := setF (K ++ acc)) fun f hf => mem_setF.2 (by
      rcases List.mem_append.1 (mem_setF.1 hf) with h2 | h2
      · exact List.mem_append.2 (Or.inl h2)
      · exact List.mem_append.2 (Or.inr (h.of f h2).1))
    omega
  · intro h1
    have hnd : (K ++ D).Nodup := List.nodup_append.2 ⟨up_nodup hK, up_nodup h.up, fun a ha b hb e => (h.of b hb).2 (e ▸ ha)⟩
    have h2 := sub_len hnd (t := setF (K ++ D)) fun f hf => mem_setF.2 hf
    rw [List.length_append] at h2
    have hall := h.all (by omega)
    refine ⟨setF_congr fun f => ?_, ?_⟩
    · rw [List.mem_append, List.mem_append]
      constructor
      · rintro (h3 | h3)
        · exact Or.inl h3
        · exact Or.inr (h.of f h3).1
      · rintro (h3 | h3)
        · exact Or.inl h3
        · by_cases h4 : f ∈ K
          · exact Or.inl h4
          · exact Or.inr (hall f h3 h4)
    · exact up_ext h.up (setF_up _) fun f => by
        show f ∈ D ↔ f ∈ newOf K acc
        rw [mem_newOf]
        exact ⟨fun h3 => h.of f h3, fun h3 => hall f h3.1 h3.2⟩

def NextT (b : Nat) (w : World) (v : Value) (er : Int) (x : Int × RunD) : Prop := er = x.1 ∧ RunO b w v x.2

set_option maxRecDepth 100000 in
set_option maxHeartbeats 4000000 in
theorem nextC (p : List RuleD) (hp : RightP p) (σ : RuleD → Nat) (r : RunD) (hr : RightN p (countP (p.map σ)) r) (hd : r.done = false) (hσ : ∀ s ∈ p.map σ, s < 1000) (pv sv kv nv : Value) (w : World) (hpv : ruleK.sl Anyw w pv p) (hsv : intK.sl Anyw w sv (p.map σ)) (hk : Facts w kv r.known) (hn : Facts w nv r.fresh) :
    Calls Tryz.prog 29 #[pv, sv, .agg #[kv, nv, .int .i64 r.level, .int .i64 r.rounds, .bool r.done]] w fun e w' => ∃ v' er, e = .returned (.tuple #[v', .int .i64 er]) ∧ NextT (w.heap.size + 2) w' v' er (nextP p (p.map σ) r) ∧ Below w.heap.size w w' := by
  have hlev := hr.lev
  have hrnd := hr.rnd
  have hcs : countP (p.map σ) ≤ 1000 := countP_le hσ
  have HG := hide hr.good
  have HUp := hide hr.up
  have HSub := hide hr.sub
  obtain ⟨K, N, lev, rn, dn⟩ := r
  dsimp only at *
  subst hd
  have hfew := HG.out.few
  clear hr
  obtain ⟨pa, pc, rfl⟩ := Kind.slice hpv
  obtain ⟨sa, sc, hsa⟩ := Kind.slice hsv
  subst hsa
  obtain ⟨ka, kc, rfl⟩ := sliceFacts hk
  obtain ⟨na, nc, rfl⟩ := sliceFacts hn
  obtain ⟨w2, hw2⟩ : ∃ w2, w2 = (w.alloc (.cells #[.slice ka K.length kc, .slice na N.length nc, .int .i64 lev, .int .i64 rn, .bool false] 26)).alloc (.cells #[.slice none 0 0, .slice none 0 0, .int .i64 0, .int .i64 0, .bool false] 26) := ⟨_, rfl⟩
  have hL2 : Later w w2 := by rw [hw2]; exact ((Later.refl w).alloc _).alloc _
  have hz2 : w2.heap.size = w.heap.size + 2 := by rw [hw2]; simp
  have HRb : Hid (w2.heap[w.heap.size]? = some (.cells #[.slice ka K.length kc, .slice na N.length nc, .int .i64 lev, .int .i64 rn, .bool false] 26 (0, 0))) := by
    show _ = _; rw [hw2, Below.heap_alloc _ _ _ (by simp)]; exact heap_alloc_new w _
  have HRs : Hid (w2.heap[w.heap.size + 1]? = some (.cells #[.slice none 0 0, .slice none 0 0, .int .i64 0, .int .i64 0, .bool false] 26 (0, 0))) := by
    show _ = _
    have := heap_alloc_new (w.alloc (.cells #[.slice ka K.length kc, .slice na N.length nc, .int .i64 lev, .int .i64 rn, .bool false] 26)) (.cells #[.slice none 0 0, .slice none 0 0, .int .i64 0, .int .i64 0, .bool false] 26)
    rw [hw2]; simpa using this
  have HMk := hide (makesC p hp σ ⟨K, N, lev, rn, false⟩ HG.out HUp.out HSub.out (.slice pa p.length pc) (.slice sa (p.map σ).length sc) (.slice ka K.length kc) (.slice na N.length nc) w2 (Kind.sl_later hpv hL2) (Kind.sl_later hsv hL2) (hk.later hL2) (hn.later hL2))
  have HK2 := hide (hk.later hL2)
  have HSV := hide hsv
  have HL2 := hide hL2
  have HSig := hide hσ
  have HGN := hide HG.out.up
  generalize hss : p.map σ = ss at *
  clear hpv hsv hk hn hp hσ hss HUp HSub hL2
  by_cases h1000 : rn = 1000
  · subst h1000
    have HT : Hid (∀ w' v', RunO (w.heap.size + 2) w' v' noRun → NextT (w.heap.size + 2) w' v' 5 (nextP p ss ⟨K, N, lev, 1000, false⟩)) := fun w' v' h => by unfold nextP; rw [if_pos rfl]; exact ⟨rfl, h⟩
    obtain ⟨q0, q1, q2, q3, q4, _, _⟩ := row5 HRs.out
    rw [hw2] at q0 q1 q2 q3 q4
    have HB2 : Hid (Below w.heap.size w w2) := HL2.out.below
    rw [hw2] at HB2
    clear hw2 HRb HRs HMk HK2 HSV HL2 hz2
    go_enter Tryz.func29, Tryz.ntmps29
    go_wp2
    exact bodyPost_ret (v := .tuple #[.agg #[.slice none 0 0, .slice none 0 0, .int .i64 0, .int .i64 0, .bool false], .int .i64 5]) (by simp [results, Tryz.results29, go_sem, q0, q1, q2, q3, q4]) rfl ⟨_, 5, rfl, HT.out _ _ (RunO.none _ _), HB2.out⟩
  · have hne : ¬ (rn = 1000) := h1000
    have HW2 := hide hw2
    clear hw2
    go_enter Tryz.func29, Tryz.ntmps29
    go_wp2_with fail
    rw [← HW2.out]
    refine HMk.out.mono ?_
    rintro e w3 ⟨v3, er, rfl, hT3, hB3⟩
    have HB3 : Hid (Below w.heap.size w w3) := below_trans HL2.out.below hB3 (by omega)
    have HRb3 : Hid (w3.heap[w.heap.size]? = some (.cells #[.slice ka K.length kc, .slice na N.length nc, .int .i64 lev, .int .i64 rn, .bool false] 26 (0, 0))) := by show _ = _; rw [hB3.block _ (by omega)]; exact HRb.out
    have HRs3 : Hid (w3.heap[w.heap.size + 1]? = some (.cells #[.slice none 0 0, .slice none 0 0, .int .i64 0, .int .i64 0, .bool false] 26 (0, 0))) := by show _ = _; rw [hB3.block _ (by omega)]; exact HRs.out
    have HK3 := hide (HK2.out.below hB3)
    have hz3 : w.heap.size + 2 ≤ w3.heap.size := by have := hB3.size; omega
    rw [hz2] at hT3
    clear hB3 HMk HRb HRs HK2 HW2 HL2 hz2 w2
    unfold MakesT at hT3
    dsimp only at hT3
    have hnx : nextP p ss ⟨K, N, lev, rn, false⟩ = match makesGo K N lev p ss [] with
      | none => (4, noRun)
      | some acc => if 200 < (setF (K ++ acc)).length then (5, noRun) else
        if newOf K acc = [] then (0, ⟨setF (K ++ acc), setF (K ++ acc), lev + 1, rn + 1, decide (lev + 1 = countP ss)⟩)
        else (0, ⟨setF (K ++ acc), newOf K acc, lev, rn + 1, false⟩) := by unfold nextP; rw [if_neg hne]; dsimp only; cases makesGo K N lev p ss [] <;> rfl
    have HNx := hide hnx
    clear hnx hne h1000
    cases hmk : makesGo K N lev p ss [] with
    | none =>
      rw [hmk] at hT3
      obtain ⟨rfl, rfl⟩ := hT3
      have HT : Hid (∀ w' v', RunO (w.heap.size + 2) w' v' noRun → NextT (w.heap.size + 2) w' v' 4 (nextP p ss ⟨K, N, lev, rn, false⟩)) := fun w' v' h => by rw [HNx.out, hmk]; exact ⟨rfl, h⟩
      obtain ⟨q0, q1, q2, q3, q4, ⟨f0, f1, f2, f3, f4⟩, qz⟩ := row5 HRs3.out
      clear hmk HNx HK3 HSV HG HGN HSig
      go_wp2
      obtain ⟨r0, r1, r2, r3, r4⟩ := set5 HRs3.out (.slice none 0 0) (.slice none 0 0) (.int .i64 0) (.int .i64 0) (.bool false)
      exact bodyPost_ret (v := .tuple #[.agg #[.slice none 0 0, .slice none 0 0, .int .i64 0, .int .i64 0, .bool false], .int .i64 4]) (by simp [results, Tryz.results29, go_sem, r0, r1, r2, r3, r4]) rfl ⟨_, 4, rfl, HT.out _ _ (RunO.none _ _), Below.put5 HB3.out (Nat.le_succ _)⟩
    | some acc =>
      rw [hmk] at hT3
      obtain ⟨rfl, D, hO3, hM3⟩ := hT3
      obtain ⟨da, dc, rfl⟩ := hO3.slice
      have hend := mades_end HGN.out hM3
      have hDf := hM3.few
      have HJ := hide (joinC (.slice ka K.length kc) (.slice da D.length dc) K D w3 HK3.out (hO3.facts (by omega)) (by omega))
      obtain ⟨b0, b1, b2, b3, b4, _, _⟩ := row5 HRb3.out
      have HO3 := hide hO3
      have HEnd := hide hend
      rw [hmk] at HNx
      have HNx2 := hide HNx.out
      clear hmk hO3 hM3 hend HNx HK3
      go_wp2_with fail
      refine HJ.out.mono ?_
      rintro e w4 ⟨v4, s, rfl, hS, hO4, hL4⟩
      obtain rfl : s = setF (K ++ D) := setF_of hS.1 hS.2.1
      have hs4l : (setF (K ++ D)).length ≤ 100000 := by have := setF_len (K ++ D); rw [List.length_append] at this; omega
      obtain ⟨a4, c4, rfl⟩ := hO4.slice
      have HB4 : Hid (Below w.heap.size w w4) := below_trans HB3.out hL4.below HB3.out.size
      have HRb4 : Hid (w4.heap[w.heap.size]? = some (.cells #[.slice ka K.length kc, .slice na N.length nc, .int .i64 lev, .int .i64 rn, .bool false] 26 (0, 0))) := by show _ = _; rw [hL4.block (by omega)]; exact HRb3.out
      have HRs4 : Hid (w4.heap[w.heap.size + 1]? = some (.cells #[.slice none 0 0, .slice none 0 0, .int .i64 0, .int .i64 0, .bool false] 26 (0, 0))) := by show _ = _; rw [hL4.block (by omega)]; exact HRs3.out
      have HO3' : Hid (OwnF w4 (w.heap.size + 2) (.slice da D.length dc) D) := (HO3.out.later hL4).base (by omega)
      have HO4 : Hid (OwnF w4 (w.heap.size + 2) (.slice a4 (setF (K ++ D)).length c4) (setF (K ++ D))) := hO4.base (by omega)
      have hz4 : w.heap.size + 2 ≤ w4.heap.size := by have := hL4.size; omega
      clear b0 b1 b2 b3 b4 hS hO4 hL4 HO3 HB3 HRb3 HRs3 HJ hz3
      obtain ⟨b0, b1, b2, b3, b4, ⟨g0, g1, g2, g3, g4⟩, bz⟩ := row5 HRb4.out
      obtain ⟨q0, q1, q2, q3, q4, ⟨f0, f1, f2, f3, f4⟩, qz⟩ := row5 HRs4.out
      by_cases hbig : 200 < (setF (K ++ D)).length
      · have HT : Hid (∀ w' v', RunO (w.heap.size + 2) w' v' noRun → NextT (w.heap.size + 2) w' v' 5 (nextP p ss ⟨K, N, lev, rn, false⟩)) := fun w' v' h => by rw [HNx2.out, if_pos (HEnd.out.1 hbig)]; exact ⟨rfl, h⟩
        have hbz : (200 : Int) < ((setF (K ++ D)).length : Int) := by omega
        have HR5 : Hid ((w4.setCell ⟨w.heap.size, 0, none⟩ (.slice a4 (setF (K ++ D)).length c4)).heap[w.heap.size + 1]? = some (.cells #[.slice none 0 0, .slice none 0 0, .int .i64 0, .int .i64 0, .bool false] 26 (0, 0))) := by show _ = _; rw [heap_setCell_other _ _ _ (by show w.heap.size + 1 ≠ w.heap.size; omega)]; exact HRs4.out
        clear HEnd HNx2 HSV HO3' HO4 HG HGN HSig
        go_wp2
        obtain ⟨r0, r1, r2, r3, r4⟩ := set5 HR5.out (.slice none 0 0) (.slice none 0 0) (.int .i64 0) (.int .i64 0) (.bool false)
        exact bodyPost_ret (v := .tuple #[.agg #[.slice none 0 0, .slice none 0 0, .int .i64 0, .int .i64 0, .bool false], .int .i64 5]) (by simp [results, Tryz.results29, go_sem, r0, r1, r2, r3, r4]) rfl ⟨_, 5, rfl, HT.out _ _ (RunO.none _ _), Below.put5 (Below.put HB4.out (Nat.le_refl _)) (Nat.le_succ _)⟩
      · obtain ⟨eK, eD⟩ := HEnd.out.2 hbig
        have hbz : ¬ (200 : Int) < ((setF (K ++ D)).length : Int) := by omega
        by_cases hD0 : D = []
        · have hd0 : ((D.length : Int) = 0) := by rw [hD0]; rfl
          have HT : Hid (∀ w' v', RunO (w.heap.size + 2) w' v' ⟨setF (K ++ D), setF (K ++ D), lev + 1, rn + 1, lev + 1 == ((countP ss : Nat) : Int)⟩ → NextT (w.heap.size + 2) w' v' 0 (nextP p ss ⟨K, N, lev, rn, false⟩)) := fun w' v' h => by
            rw [HNx2.out, if_neg (by rw [← eK]; exact hbig), if_pos (by rw [← eD]; exact hD0), ← eK]; exact ⟨rfl, h⟩
          clear hD0
          generalize setF (K ++ D) = Z at *
          obtain ⟨w7, hw7⟩ : ∃ w7, w7 = ((w4.setCell ⟨w.heap.size, 0, none⟩ (.slice a4 Z.length c4)).setCell ⟨w.heap.size, 1, none⟩ (.slice da D.length dc)).setCell ⟨w.heap.size, 2, none⟩ (.int .i64 (lev + 1)) := ⟨_, rfl⟩
          have hO7 : OwnF w7 (w.heap.size + 2) (.slice a4 Z.length c4) Z := by rw [hw7]; exact ((HO4.out.put (by omega)).put (by omega)).put (by omega)
          have HB7 : Hid (Below w.heap.size w w7) := by show Below _ _ _; rw [hw7]; exact Below.put (Below.put (Below.put HB4.out (Nat.le_refl _)) (Nat.le_refl _)) (Nat.le_refl _)
          have hz7 : w7.heap.size = w4.heap.size := by rw [hw7, size_setCell, size_setCell, size_setCell]
          have hr7 : w7.heap[w.heap.size]? = some (.cells #[.slice a4 Z.length c4, .slice da D.length dc, .int .i64 (lev + 1), .int .i64 rn, .bool false] 26 (0, 0)) := by
            rw [hw7, set_at (j := 2) (set_at (j := 1) (set_at (j := 0) HRb4.out _) _) _]; rfl
          have hs7 : w7.heap[w.heap.size + 1]? = some (.cells #[.slice none 0 0, .slice none 0 0, .int .i64 0, .int .i64 0, .bool false] 26 (0, 0)) := by
            rw [hw7, heap_setCell_other _ _ _ (by show w.heap.size + 1 ≠ w.heap.size; omega), heap_setCell_other _ _ _ (by show w.heap.size + 1 ≠ w.heap.size; omega), heap_setCell_other _ _ _ (by show w.heap.size + 1 ≠ w.heap.size; omega)]
            exact HRs4.out
          have HOw := hide (ownC (.slice a4 Z.length c4) Z w7 (hO7.facts (by omega)))
          have HO7 := hide hO7
          have HR7 := hide hr7
          have HS7 := hide hs7
          have HW7 := hide hw7
          clear HEnd HNx2 HG HGN eK eD hO7 hr7 hs7 hw7 HO3' HO4
          go_wp2_with fail
          rw [← HW7.out]
          refine HOw.out.mono ?_
          rintro e w8 ⟨v8, rfl, hO8, hL8⟩
          obtain ⟨a8, c8, rfl⟩ := hO8.slice
          clear b0 b1 b2 b3 b4 q0 q1 q2 q3 q4 g0 g1 g2 g3 g4 f0 f1 f2 f3 f4
          have hr8 : w8.heap[w.heap.size]? = some (.cells #[.slice a4 Z.length c4, .slice da D.length dc, .int .i64 (lev + 1), .int .i64 rn, .bool false] 26 (0, 0)) := by rw [hL8.block (by omega)]; exact HR7.out
          have hs8 : w8.heap[w.heap.size + 1]? = some (.cells #[.slice none 0 0, .slice none 0 0, .int .i64 0, .int .i64 0, .bool false] 26 (0, 0)) := by rw [hL8.block (by omega)]; exact HS7.out
          have hz8 := hL8.size
          obtain ⟨w9, hw9⟩ : ∃ w9, w9 = w8.setCell ⟨w.heap.size, 1, none⟩ (.slice a8 Z.length c8) := ⟨_, rfl⟩
          have hr9 : w9.heap[w.heap.size]? = some (.cells #[.slice a4 Z.length c4, .slice a8 Z.length c8, .int .i64 (lev + 1), .int .i64 rn, .bool false] 26 (0, 0)) := by rw [hw9, set_at (j := 1) hr8 _]; rfl
          have hs9 : w9.heap[w.heap.size + 1]? = some (.cells #[.slice none 0 0, .slice none 0 0, .int .i64 0, .int .i64 0, .bool false] 26 (0, 0)) := by rw [hw9, heap_setCell_other _ _ _ (by show w.heap.size + 1 ≠ w.heap.size; omega)]; exact hs8
          have HB9 : Hid (Below w.heap.size w w9) := by show Below _ _ _; rw [hw9]; exact Below.put (below_trans HB7.out hL8.below HB7.out.size) (Nat.le_refl _)
          have HO49 : Hid (OwnF w9 (w.heap.size + 2) (.slice a4 Z.length c4) Z) := by show OwnF _ _ _ _; rw [hw9]; exact (HO7.out.later hL8).put (by omega)
          have HO89 : Hid (OwnF w9 (w.heap.size + 2) (.slice a8 Z.length c8) Z) := by show OwnF _ _ _ _; rw [hw9]; exact (hO8.base (by omega)).put (by omega)
          have hz9 : w9.heap.size = w8.heap.size := by rw [hw9, size_setCell]
          have HR9 := hide hr9
          have HS9 := hide hs9
          have HW9 := hide hw9
          obtain ⟨b0, b1, b2, b3, b4, ⟨g0, g1, g2, g3, g4⟩, _⟩ := row5 hr8
          have HCn := hide (countC ss (.slice sa ss.length sc) w9.drew (Kind.sl_below HSV.out HB9.out.drew) HSig.out)
          have c29 := (row5 hr9).2.2.1
          clear hO8 hL8 hr8 hs8 hr9 hs9 hw9 HOw HO7 HR7 HS7 HW7 HRb4 HRs4
          go_wp2
          rw [← HW9.out]
          clear b0 b1 b2 b3 b4 g0 g1 g2 g3 g4
          refine wp_region_held_drew (S := fun w' => w'.cell? ⟨w.heap.size, 2, none⟩ = some (.int .i64 (lev + 1)) ∧ Tn w.heap.size w9 w') (by kernel_rfl) ⟨c29, (Tn.refl _ _).drew⟩ (fun hHeld => ?_)
          refine take_yes (i := 0) (d := some 48) (v := ?_) rfl rfl hHeld ?_ ?_; rotate_left; focus intro w hSw; (try dsimp only at hSw);  go_simp; try with_reducible rfl
          simp only [aput, aset, aze, asu]
          refine take_yes (i := 1) (d := some 49) (v := ?_) rfl rfl hHeld ?_ ?_; rotate_left; focus intro w hSw; (try dsimp only at hSw); have qq := hSw.1; go_simp; try with_reducible rfl
          simp only [aput, aset, aze, asu]
          refine take_yes (i := 2) (d := some 50) (v := ?_) rfl rfl hHeld ?_ ?_; rotate_left; focus intro w hSw; (try dsimp only at hSw);  go_simp; try with_reducible rfl
          simp only [aput, aset, aze, asu]
          refine wpAnyH_ready (rs := [3]) (by kernel_rfl) (by simp) ?_
          refine AllReadyH.cons rfl (fun K hK => ?_) AllReadyH.nil
          go_simp
          refine HCn.out.mono ?_
          rintro e w10 ⟨rfl, hL10⟩
          have hL910 : Below w9.heap.size w9 w10 := below_trans (Below.refl _ _).drew hL10.below (Nat.le_refl _)
          have hr10 : w10.heap[w.heap.size]? = some (.cells #[.slice a4 Z.length c4, .slice a8 Z.length c8, .int .i64 (lev + 1), .int .i64 rn, .bool false] 26 (0, 0)) := by rw [hL910.block _ (by omega)]; exact HR9.out
          obtain ⟨b0, b1, b2, b3, b4, ⟨g0, g1, g2, g3, g4⟩, _⟩ := row5 hr10
          refine hK.out _ _ ⟨b2, Tn.of_below hL910⟩ (fun hHeld => ?_)
          clear hK K
          refine take_yes (i := 4) (d := some 52) (v := ?_) rfl rfl hHeld ?_ ?_; rotate_left; focus intro w hSw; (try dsimp only at hSw);  go_simp; try with_reducible rfl
          simp only [aput, aset, aze, asu]
          refine take_yes (i := 5) (d := some 53) (v := ?_) rfl rfl hHeld ?_ ?_; rotate_left; focus intro w hSw; (try dsimp only at hSw);  go_simp; try with_reducible rfl
          simp only [aput, aset, aze, asu]
          refine wpAnyH_ready (rs := [6]) (by kernel_rfl) (by simp) ?_
          refine AllReadyH.cons rfl (fun K hK => ?_) AllReadyH.nil
          go_simp
          have hs10 : w10.heap[w.heap.size + 1]? = some (.cells #[.slice none 0 0, .slice none 0 0, .int .i64 0, .int .i64 0, .bool false] 26 (0, 0)) := by rw [hL910.block _ (by omega)]; exact HS9.out
          refine hK.out _ _ ⟨by rw [World.cell?_setCell_other _ _ _ _ (by simp)]; exact b2, Tn.setCell (p := w.heap.size) (Tn.of_below hL910) (x := ⟨w.heap.size, 4, none⟩) (Or.inl rfl) _⟩ (fun hHeld => ?_)
          clear hK K
          refine wpAnyH_done (by kernel_rfl) ?_ _
          have HR12 : Hid (((w10.setCell ⟨w.heap.size, 4, none⟩ (.bool (lev + 1 == ((countP ss : Nat) : Int)))).setCell ⟨w.heap.size, 3, none⟩ (.int .i64 (rn + 1))).heap[w.heap.size + 1]? = some (.cells #[.slice none 0 0, .slice none 0 0, .int .i64 0, .int .i64 0, .bool false] 26 (0, 0))) := by
            show _ = _
            rw [heap_setCell_other _ _ _ (by show w.heap.size + 1 ≠ w.heap.size; omega), heap_setCell_other _ _ _ (by show w.heap.size + 1 ≠ w.heap.size; omega)]
            exact hs10
          obtain ⟨q0, q1, q2, q3, q4, ⟨f0, f1, f2, f3, f4⟩, _⟩ := row5 hs10
          have HB10 : Hid (Below w.heap.size w w10) := below_trans HB9.out hL910 HB9.out.size
          have HO410 : Hid (OwnF w10 (w.heap.size + 2) (.slice a4 Z.length c4) Z) := HO49.out.stay hL910.size fun k hk _ => hL910.block k hk
          have HO810 : Hid (OwnF w10 (w.heap.size + 2) (.slice a8 Z.length c8) Z) := HO89.out.stay hL910.size fun k hk _ => hL910.block k hk
          clear hHeld hL10 hL910 hr10 hs10 HB9 HO49 HO89 HR9 HS9 HW9 HCn c29
          go_wp2
          obtain ⟨r0, r1, r2, r3, r4⟩ := set5 HR12.out (.slice a4 Z.length c4) (.slice a8 Z.length c8) (.int .i64 (lev + 1)) (.int .i64 (rn + 1)) (.bool (lev + 1 == ((countP ss : Nat) : Int)))
          exact bodyPost_ret (v := .tuple #[.agg #[.slice a4 Z.length c4, .slice a8 Z.length c8, .int .i64 (lev + 1), .int .i64 (rn + 1), .bool (lev + 1 == ((countP ss : Nat) : Int))], .int .i64 0]) (by simp [results, Tryz.results29, go_sem, r0, r1, r2, r3, r4]) rfl
            ⟨_, 0, rfl, HT.out _ _ ⟨_, _, rfl, (OwnF.put5 ((HO410.out.put (by omega)).put (by omega)) (by omega)), (OwnF.put5 ((HO810.out.put (by omega)).put (by omega)) (by omega))⟩,
              Below.put5 (Below.put (Below.put HB10.out (Nat.le_refl _)) (Nat.le_refl _)) (Nat.le_succ _)⟩
        · have hd0 : ¬ ((D.length : Int) = 0) := by
            cases D
            · exact absurd rfl hD0
            · simp; omega
          have HT : Hid (∀ w' v', RunO (w.heap.size + 2) w' v' ⟨setF (K ++ D), D, lev, rn + 1, false⟩ → NextT (w.heap.size + 2) w' v' 0 (nextP p ss ⟨K, N, lev, rn, false⟩)) := fun w' v' h => by
            rw [HNx2.out, if_neg (by rw [← eK]; exact hbig), if_neg (by rw [← eD]; exact hD0), ← eK, ← eD]; exact ⟨rfl, h⟩
          have HR5 : Hid ((((w4.setCell ⟨w.heap.size, 0, none⟩ (.slice a4 (setF (K ++ D)).length c4)).setCell ⟨w.heap.size, 1, none⟩ (.slice da D.length dc)).setCell ⟨w.heap.size, 3, none⟩ (.int .i64 (rn + 1))).heap[w.heap.size + 1]? = some (.cells #[.slice none 0 0, .slice none 0 0, .int .i64 0, .int .i64 0, .bool false] 26 (0, 0))) := by
            show _ = _
            rw [heap_setCell_other _ _ _ (by show w.heap.size + 1 ≠ w.heap.size; omega), heap_setCell_other _ _ _ (by show w.heap.size + 1 ≠ w.heap.size; omega), heap_setCell_other _ _ _ (by show w.heap.size + 1 ≠ w.heap.size; omega)]
            exact HRs4.out
          clear HEnd HNx2 HSV HG HGN HSig eK eD
          go_wp2
          obtain ⟨r0, r1, r2, r3, r4⟩ := set5 HR5.out (.slice a4 (setF (K ++ D)).length c4) (.slice da D.length dc) (.int .i64 lev) (.int .i64 (rn + 1)) (.bool false)
          exact bodyPost_ret (v := .tuple #[.agg #[.slice a4 (setF (K ++ D)).length c4, .slice da D.length dc, .int .i64 lev, .int .i64 (rn + 1), .bool false], .int .i64 0]) (by simp [results, Tryz.results29, go_sem, r0, r1, r2, r3, r4]) rfl
            ⟨_, 0, rfl, HT.out _ _ ⟨_, _, rfl, (OwnF.put5 (((HO4.out.put (by omega)).put (by omega)).put (by omega)) (by omega)), (OwnF.put5 (((HO3'.out.put (by omega)).put (by omega)).put (by omega)) (by omega))⟩,
              Below.put5 (Below.put (Below.put (Below.put HB4.out (Nat.le_refl _)) (Nat.le_refl _)) (Nat.le_refl _)) (Nat.le_succ _)⟩

end Go.Proofs.YtilkggldmgeagaaGreatDoor

/- The walk of naive.All. -/
namespace Go.Proofs.YtilkggldmgeagaaGreatDoor
open Go.RowKit Go.Sort Go.Maps

theorem lev_small {p : List RuleD} {m : Nums} (hl : Least p m) (hs : Sol p (numOf m)) : ∀ r ∈ p, numOf m r.head.name < p.length := by
  have key : ∀ k, (∃ r ∈ p, k ≤ numOf m r.head.name) → k ≤ (p.map fun r => if numOf m r.head.name < k then 1 else 0).sum := by
    intro k
    induction k with
    | zero => intro _; exact Nat.zero_le _
    | succ k ih =>
      rintro ⟨r, hr, hk⟩
      have h1 := ih ⟨r, hr, by omega⟩
      obtain ⟨q, hq, hqk⟩ : ∃ q ∈ p, numOf m q.head.name = k := by
        refine Classical.byContradiction fun hn => ?_
        have := no_gap hl hs k (fun q hq e => hn ⟨q, hq, e⟩) r hr
        omega
      have h2 : (p.map fun r => if numOf m r.head.name < k then 1 else 0).sum < (p.map fun r => if numOf m r.head.name < k + 1 then 1 else 0).sum := by
        refine sum_lt (fun x _ => ?_) ⟨q, hq, ?_⟩
        · split
          · rw [if_pos (by omega)]; exact Nat.le_refl _
          · exact Nat.zero_le _
        · rw [if_neg (by omega), if_pos (by omega)]; exact Nat.one_pos
      omega
  intro r hr
  have h1 := key _ ⟨r, hr, Nat.le_refl _⟩
  have h2 : (p.map fun q => if numOf m q.head.name < numOf m r.head.name then 1 else 0).sum < (p.map fun _ => 1).sum := by
    refine sum_lt (fun x _ => ?_) ⟨r, hr, ?_⟩
    · split <;> omega
    · rw [if_neg (by omega)]; exact Nat.one_pos
  have h3 : (p.map fun _ => 1).sum = p.length := by
    clear h1 h2 key hr hl hs
    induction p with
    | nil => rfl
    | cons a p ih => simp only [List.map_cons, List.sum_cons, List.length_cons, ih]; omega
  omega

theorem below_drewN {n : Nat} {a b : World} (h : Below n a b) (q : Nat) : Below n a (b.drewN q) := ⟨h.os, h.tape, h.output, h.size, h.block⟩

def allP (p : List RuleD) (l : List FactB) : Int × List FactB :=
  if (strataP p).2.1 ≠ 0 then ((strataP p).2.1, []) else if (factsP p l).1 ≠ 0 then ((factsP p l).1, []) else runGo p (strataP p).1 (countP (strataP p).1) 0 l

end Go.Proofs.YtilkggldmgeagaaGreatDoor

/- The walk of round's strataFor. -/
namespace Go.Proofs.YtilkggldmgeagaaGreatDoor
open Go.RowKit Go.Sort Go.Maps

def forE (p : List RuleD) (l : List FactB) : Int := if (strataP p).2.1 ≠ 0 then (strataP p).2.1 else (factsP p l).1

theorem forE_zero {p : List RuleD} {l : List FactB} (h : forE p l = 0) : RightP p ∧ GoodS p l ∧ ∃ τ : Bs → Nat, Sol p τ ∧ strataP p = (p.map fun r => τ r.head.name, 0, (strataP p).2.2) ∧ ∀ r ∈ p, τ r.head.name < 16 := by
  unfold forE at h
  split at h
  · rename_i h1; exact absurd h h1
  · rename_i h1
    have h1 : (strataP p).2.1 = 0 := Classical.byContradiction h1
    obtain ⟨ss, ex, ea, hse⟩ : ∃ ss ex ea, strataP p = (ss, ex, ea) := ⟨_, _, _, rfl⟩
    rw [hse] at h1
    have h1 : ex = 0 := h1
    subst h1
    obtain ⟨hw0, m, hms, hdm, hlm, hsm⟩ := strataP_ok hse
    have hp := rightP_iff.1 hw0
    refine ⟨hp, facts_good h, numOf m, hsm, ?_, fun r hr => ?_⟩
    · rw [hse, hms]; rfl
    · have := lev_small hlm hsm r hr
      have := hp.few
      omega

theorem Kind.sl_far {α : Type} {K : Kind α} {b : Nat} {w w' : World} {v : Value} {l : List α} (h : K.sl (From b) w v l) (k : Below w.heap.size w w') : K.sl (From b) w' v l := Kind.sl_kept h k.size fun i hi _ => k.block i hi

def ForT (b : Nat) (w : World) (v : Value) (p : List RuleD) (l : List FactB) : Prop := (∃ a n c, v = .slice a n c) ∧ (forE p l = 0 → intK.sl (From b) w v (strataP p).1)

set_option maxRecDepth 100000 in
set_option maxHeartbeats 4000000 in
theorem strataForC (p : List RuleD) (l : List FactB) (pv fv : Value) (w : World) (hv : ruleK.sl Anyw w pv p) (hf : Facts w fv l) :
    Calls Tryz.prog 13 #[pv, fv] w fun e w' => ∃ v', e = .returned (.tuple #[v', .int .i64 (forE p l)]) ∧ ForT w.heap.size w' v' p l ∧ Below w.heap.size w w' := by
  have HSt := hide (strataC p pv w hv)
  obtain ⟨pa, pc, rfl⟩ := Kind.slice hv
  obtain ⟨fa, fc, rfl⟩ := sliceFacts hf
  have HV := hide hv
  have HF := hide hf
  clear hv hf
  obtain ⟨ss, ex, ea, hse⟩ : ∃ ss ex ea, strataP p = (ss, ex, ea) := ⟨_, _, _, rfl⟩
  rw [hse] at HSt
  have HSE := hide hse
  clear hse
  go_enter Tryz.func13, Tryz.ntmps13
  go_wp2_with fail
  refine HSt.out.mono ?_
  rintro e w1 ⟨u, rfl, hu, hB1⟩
  dsimp only at hu ⊢
  have HU : Hid (intK.sl (From w.heap.size) w1 u ss) := hu
  obtain ⟨ua, uc, rfl⟩ := Kind.slice hu
  have HB1 := hide hB1
  clear hu hB1 HSt
  by_cases h0 : ex = 0
  · subst h0
    obtain ⟨hw0, m, hms, hdm, hlm, hsm⟩ := strataP_ok HSE.out
    have hp := rightP_iff.1 hw0
    obtain ⟨w2, hw2⟩ : ∃ w2, w2 = w1.alloc (.cells #[.int .i64 0, .int .i64 (ea : Nat)] 41) := ⟨_, rfl⟩
    have hL2 : Later w1 w2 := by rw [hw2]; exact (Later.refl _).alloc _
    have hB2 : Below w.heap.size w w2 := below_trans HB1.out hL2.below HB1.out.size
    have HFC := hide (naiveFactsC p hp (.slice pa p.length pc) (.slice fa l.length fc) l w2 (Kind.sl_below HV.out hB2) (HF.out.below hB2))
    obtain ⟨fx, fe, hfe⟩ : ∃ fx fe, factsP p l = (fx, fe) := ⟨_, _, rfl⟩
    rw [hfe] at HFC
    have HFE := hide hfe
    have HB2 := hide hB2
    have HU2 := hide (Kind.sl_far HU.out hL2.below)
    have HW2 := hide hw2
    have HX : Hid (forE p l = fx) := by show _ = _; unfold forE; rw [HSE.out, HFE.out]; simp
    clear hw0 hms hdm hlm hsm hp hL2 hB2 hfe hw2 HB1 HU
    go_wp2_with fail
    rw [← HW2.out]
    refine HFC.out.mono ?_
    rintro e w3 ⟨rfl, hB3⟩
    dsimp only
    have HB3 : Hid (Below w.heap.size w w3) := below_trans HB2.out hB3 HB2.out.size
    have HU3 := hide (Kind.sl_far HU2.out hB3)
    clear hB3 HFC HW2 HB2 HU2
    have HB4 : Hid (Below w.heap.size w (w3.alloc (.cells #[.int .i64 fx, .int .i64 fe] 41))) := below_trans HB3.out ((Later.refl _).alloc _).below HB3.out.size
    by_cases h1 : fx = 0
    · subst h1
      have HT : Hid (ForT w.heap.size (w3.alloc (.cells #[.int .i64 0, .int .i64 fe] 41)) (.slice ua ss.length uc) p l) := ⟨⟨_, _, _, rfl⟩, fun _ => by rw [HSE.out]; exact Kind.sl_far HU3.out ((Later.refl _).alloc _).below⟩
      clear HSE HFE HV HF HU3
      go_wp2
      exact bodyPost_ret (v := .tuple #[.slice ua ss.length uc, .int .i64 0]) (by simp [results, Tryz.results13, go_sem]) rfl ⟨_, by rw [HX.out], HT.out, HB4.out⟩
    · have HT : Hid (∀ w', ForT w.heap.size w' (.slice none 0 0) p l) := fun w' => ⟨⟨_, _, _, rfl⟩, fun h => absurd (HX.out.symm.trans h) h1⟩
      have hne : (fx != 0) = true := by simpa using h1
      clear HSE HFE h1 HV HF HU3
      go_wp2
      go_quiet (fail)
      go_wp2
      exact bodyPost_ret (v := .tuple #[.slice none 0 0, .int .i64 fx]) (by simp [results, Tryz.results13, go_sem]) rfl ⟨_, by rw [HX.out], HT.out _, below_drewN HB4.out _⟩
  · have HX : Hid (forE p l = ex) := by show _ = _; unfold forE; rw [HSE.out]; simp [h0]
    have HT : Hid (∀ w', ForT w.heap.size w' (.slice none 0 0) p l) := fun w' => ⟨⟨_, _, _, rfl⟩, fun h => absurd (HX.out.symm.trans h) h0⟩
    have hne : (ex != 0) = true := by simpa using h0
    have HB4 : Hid (Below w.heap.size w (w1.alloc (.cells #[.int .i64 ex, .int .i64 (ea : Nat)] 41))) := below_trans HB1.out ((Later.refl _).alloc _).below HB1.out.size
    clear HSE h0 HV HF HU
    go_wp2
    go_quiet (fail)
    go_wp2
    exact bodyPost_ret (v := .tuple #[.slice none 0 0, .int .i64 ex]) (by simp [results, Tryz.results13, go_sem]) rfl ⟨_, by rw [HX.out], HT.out _, below_drewN HB4.out _⟩

end Go.Proofs.YtilkggldmgeagaaGreatDoor
