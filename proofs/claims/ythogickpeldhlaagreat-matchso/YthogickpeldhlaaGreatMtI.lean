/- The walks of match.barred and of match.With's closure. -/
import Derived.Test.YthogickpeldhlaaGreatMtH
import Derived.Test.YthogickpeldhlaaGreatAmong
namespace Go.Proofs.YthogickpeldhlaaGreat
open Go.RowKit Go.Sort Go.Maps

theorem in_eq (l : List FactD) (f : FactD) : inFrom l f 0 = inB l f := by
  rw [Bool.eq_iff_iff, inFrom_iff, inB_iff]

/-- What one atom bars. -/
def barOne (fs : List FactD) (a : AtomD) (l : List BindD) : Bool := match fillB a l with
  | some f => inB fs f
  | none => false

theorem barredB_step {pick : Nat → List FactB} {body : List AtomD} {j : Nat} {a : AtomD} (h : body[j]? = some a) (l : List BindD) : barredB pick j (body.drop j) l = ((a.no && barOne (pick j) a l) || barredB pick (j + 1) (body.drop (j + 1)) l) := by
  obtain ⟨h1, e1⟩ := List.getElem?_eq_some_iff.1 h
  rw [List.drop_eq_getElem_cons h1, e1]; rfl

set_option maxRecDepth 100000 in
set_option maxHeartbeats 4000000 in
theorem barredC (body : List AtomD) (v u : Value) (l : List BindD) (g : Nat) (cb : Array Value) (eg : ∀ args w, (callFunc g args).run Tryz.prog w = .ok (.enter g args) w) (pick : Nat → List FactD) (w : World) (hv : atomK.sl Anyw w v body) (hu : bindK.sl Anyw w u l) (hp : Picks g cb pick w.heap.size w) (hb : body.length ≤ 5) (hr : ∀ n, Rises (pick n)) :
    Calls Tryz.prog 23 #[v, .func (.func g) #[] cb, u] w fun e w' => e = .returned (.bool (barredB pick 0 body l)) ∧ Later w w' := by
  obtain ⟨sa, cap, rfl⟩ := Kind.slice hv
  obtain ⟨ua, ucap, rfl⟩ := Kind.slice hu
  have HV := hide hv
  have HU := hide hu
  have HP := hide hp
  have HR := hide hr
  clear hv hu hp hr
  generalize hR : barredB pick 0 body l = R at *
  have H0 : Hid (R = barredB pick 0 (body.drop 0) l) := hR.symm
  clear hR
  go_enter Tryz.func23, Tryz.ntmps23
  go_wp2
  go_loopg [13] body.length (fun gg i wr => ∃ j : Nat, j + gg = body.length ∧ i = .int .i64 j ∧ Hid (R = barredB pick j (body.drop j) l) ∧ Hid (Later w wr))
  case atStart => exact ⟨0, by omega, rfl, H0, ((by repeat (first | exact Later.refl _ | assumption | refine Later.drewN ?_ _ | refine Later.drew ?_ | refine Later.alloc ?_ _ | refine Later.grow ?_ _)) : Later _ _)⟩
  case round =>
    obtain ⟨j, hj, rfl, HE, HL⟩ := hrel
    by_cases hlt : j < body.length
    · obtain ⟨a, hx⟩ : ∃ x, body[j]? = some x := ⟨_, List.getElem?_eq_getElem hlt⟩
      obtain ⟨b1, o1, _, rfl, hb1, ⟨sv, rfl, hsv⟩, hc⟩ := Kind.sl_at HV.out hx
      have d0 : wr.cell? ⟨b1, o1 + j * 3, none⟩ = some (.bool a.no) := by rw [HL.out.cell hb1]; exact hc 0 _ rfl
      have d1 : wr.cell? ⟨b1, o1 + j * 3 + 1, none⟩ = some (.string (bs a.name)) := by rw [HL.out.cell hb1]; exact hc 1 _ rfl
      have d2 : wr.cell? ⟨b1, o1 + j * 3 + 2, none⟩ = some sv := by rw [HL.out.cell hb1]; exact hc 2 _ rfl
      have hbr : b1 < wr.heap.size := Nat.lt_of_lt_of_le hb1 HL.out.size
      have HS := hide (barredB_step (pick := pick) hx l)
      obtain ⟨sva, svc, rfl⟩ := Kind.slice hsv
      have HSV := hide hsv
      clear hc hx hsv
      cases hno : a.no
      · have HS1 : Hid (R = barredB pick (j + 1) (body.drop (j + 1)) l) := by
          show _ = _
          rw [HE.out, HS.out, hno]; rfl
        rw [hno] at d0
        clear HE HS hno
        generalize bs a.name = nm at *
        go_wp2
        go_roundg (body.length - (j + 1))
        case measure => omega
        case rel => exact ⟨j + 1, by omega, by go_num, HS1, HL.out.alloc _⟩
      · have HS1 : Hid (R = (barOne (pick j) a l || barredB pick (j + 1) (body.drop (j + 1)) l)) := by
          show _ = _
          rw [HE.out, HS.out, hno]; rfl
        rw [hno] at d0
        have hLt : Later w (wr.alloc (.cells #[.bool true, .string (bs a.name), .slice sva a.terms.length svc] 38)) := HL.out.alloc _
        have HFc := hide (fillC a _ (.slice ua l.length ucap) l (wr.alloc (.cells #[.bool true, .string (bs a.name), .slice sva a.terms.length svc] 38)) (Kind.sl_later HSV.out hLt) (Kind.sl_later HU.out hLt))
        rw [hno] at HFc
        have hbo : barOne (pick j) a l = match fillB a l with | some f => inB (pick j) f | none => false := rfl
        unfold filled at HFc
        have HLt := hide hLt
        clear HE HS hLt hno
        cases hf : fillB a l with
        | none =>
          rw [hf] at HFc hbo
          have HS2 : Hid (R = barredB pick (j + 1) (body.drop (j + 1)) l) := by show _ = _; rw [HS1.out, hbo]; rfl
          simp only [Option.isSome_none, Option.getD_none] at HFc
          clear HS1 hbo hf
          generalize bs a.name = nm at *
          go_wp2_with fail
          refine HFc.out.mono ?_
          rintro e w2 ⟨fv, rfl, hfv, hL2⟩
          obtain ⟨s, rfl, hs⟩ := hfv
          obtain ⟨sA, sC, rfl⟩ := sliceStr hs
          have HL2 := hide (HLt.out.trans hL2)
          clear hs hL2 HFc
          go_wp2
          refine wp_region_held_drew (S := fun w' => Later w w') (by kernel_rfl) ((HL2.out.alloc _).drew) (fun hHeld => ?_)
          refine take_at (i := 0) (d := some 27) (v := ?_) rfl rfl (by kernel_rfl) (by kernel_rfl) (by kernel_rfl) (fun _ _ _ h => h) (Or.inl ⟨by rfl, ?_⟩) hHeld ?_
          rotate_left
          · intro w hSw; (try dsimp only at hSw);  go_simp; try with_reducible rfl
          simp only [Act.put, List.setIfInBounds_toArray, List.set_cons_zero, List.set_cons_succ]
          refine take_at (i := 1) (d := some 28) (v := ?_) rfl rfl (by kernel_rfl) (by kernel_rfl) (by kernel_rfl) (fun _ _ _ h => h) (Or.inl ⟨by rfl, ?_⟩) hHeld ?_
          rotate_left
          · intro w hSw; (try dsimp only at hSw);  go_simp; try with_reducible rfl
          simp only [Act.put, List.setIfInBounds_toArray, List.set_cons_zero, List.set_cons_succ]
          refine take_at (i := 2) (d := some 29) (v := undef) rfl rfl (by kernel_rfl) (by kernel_rfl) (by kernel_rfl) (fun _ _ _ h => h) (Or.inr ⟨by rfl, rfl⟩) hHeld ?_
          simp only [Act.put, List.setIfInBounds_toArray, List.set_cons_zero, List.set_cons_succ]
          refine take_at (i := 3) (d := some 30) (v := undef) rfl rfl (by kernel_rfl) (by kernel_rfl) (by kernel_rfl) (fun _ _ _ h => h) (Or.inr ⟨by rfl, rfl⟩) hHeld ?_
          simp only [Act.put, List.setIfInBounds_toArray, List.set_cons_zero, List.set_cons_succ]
          refine take_at (i := 4) (d := some 31) (v := undef) rfl rfl (by kernel_rfl) (by kernel_rfl) (by kernel_rfl) (fun _ _ _ h => h) (Or.inr ⟨by rfl, rfl⟩) hHeld ?_
          simp only [Act.put, List.setIfInBounds_toArray, List.set_cons_zero, List.set_cons_succ]
          refine take_at (i := 5) (d := some 32) (v := undef) rfl rfl (by kernel_rfl) (by kernel_rfl) (by kernel_rfl) (fun _ _ _ h => h) (Or.inr ⟨by rfl, rfl⟩) hHeld ?_
          simp only [Act.put, List.setIfInBounds_toArray, List.set_cons_zero, List.set_cons_succ]
          refine take_at (i := 6) (d := some 33) (v := undef) rfl rfl (by kernel_rfl) (by kernel_rfl) (by kernel_rfl) (fun _ _ _ h => h) (Or.inr ⟨by rfl, rfl⟩) hHeld ?_
          simp only [Act.put, List.setIfInBounds_toArray, List.set_cons_zero, List.set_cons_succ]
          refine take_at (i := 7) (d := some 34) (v := ?_) rfl rfl (by kernel_rfl) (by kernel_rfl) (by kernel_rfl) (fun _ _ _ h => h) (Or.inl ⟨by rfl, ?_⟩) hHeld ?_
          rotate_left
          · intro w hSw; (try dsimp only at hSw);  go_simp; try with_reducible rfl
          simp only [Act.put, List.setIfInBounds_toArray, List.set_cons_zero, List.set_cons_succ]
          refine wpAnyH_done (by kernel_rfl) ?_ _
          go_wp2
          go_roundg (body.length - (j + 1))
          case measure => omega
          case rel => exact ⟨j + 1, by omega, by go_num, HS2, hHeld⟩
        | some f =>
          rw [hf] at HFc hbo
          have HS2 : Hid (R = (inFrom (pick j) f 0 || barredB pick (j + 1) (body.drop (j + 1)) l)) := by show _ = _; rw [HS1.out, hbo, in_eq]
          simp only [Option.isSome_some, Option.getD_some] at HFc
          clear HS1 hbo hf
          generalize bs a.name = nm at *
          go_wp2_with fail
          refine HFc.out.mono ?_
          rintro e w2 ⟨fv, rfl, hfv, hL2⟩
          have HFV := hide hfv
          obtain ⟨s, rfl, hs⟩ := hfv
          obtain ⟨sA, sC, rfl⟩ := sliceStr hs
          have HL2 := hide (HLt.out.trans hL2)
          obtain ⟨fn, fargs⟩ := f
          dsimp only at *
          obtain ⟨wb, hwb⟩ : ∃ wb, wb = w2.alloc (.cells #[.string fn, .slice sA fargs.length sC] 41) := ⟨_, rfl⟩
          have hLb : Later w wb := by rw [hwb]; exact HL2.out.alloc _
          have hFb : FactV wb (.agg #[.string fn, .slice sA fargs.length sC]) (fn, fargs) := by rw [hwb]; exact HFV.out.later ((Later.refl _).alloc _)
          have z : wb.cell? ⟨w2.heap.size, 0, none⟩ = some (.string fn) ∧ wb.cell? ⟨w2.heap.size, 1, none⟩ = some (.slice sA fargs.length sC) := by rw [hwb]; simp
          have hsb : w2.heap.size < wb.heap.size := by rw [hwb]; simp
          have CELL : Hid (∀ w', Later wb w' → w'.cell? ⟨w2.heap.size, 0, none⟩ = some (.string fn) ∧ w'.cell? ⟨w2.heap.size, 1, none⟩ = some (.slice sA fargs.length sC)) := fun w' hL =>
            ⟨by rw [hL.cell hsb]; exact z.1, by rw [hL.cell hsb]; exact z.2⟩
          have HFr : Hid (∀ w', Later wb w' → Calls Tryz.prog g (#[.int .i64 j] ++ cb) w' fun e w2 => ∃ v, e = .returned v ∧ Facts w2 v (pick j) ∧ Later w' w2) := fun w' hL =>
            HP.out w' j (hLb.trans hL).below (by omega)
          have HIn : Hid (∀ w' x, Later wb w' → Facts w' x (pick j) → Calls Tryz.prog 16 #[x, .agg #[.string fn, .slice sA fargs.length sC]] w' fun e w3 => e = .returned (.bool (inFrom (pick j) (fn, fargs) 0)) ∧ Later w' w3) := fun w' x hL hx =>
            inC x _ (pick j) (fn, fargs) w' hx (hFb.later hL) (HR.out j)
          have HWB := hide hwb
          clear hs hL2 HFc hwb z hsb HFV hFb
          go_wp2
          rw [← HWB.out]
          generalize inFrom (pick j) (fn, fargs) 0 = bb at *
          refine wp_region_held_drew (S := fun w' => Later wb w') (by kernel_rfl) (Later.refl _).drew (fun hHeld => ?_)
          refine take_at (i := 0) (d := some 27) (v := ?_) rfl rfl (by kernel_rfl) (by kernel_rfl) (by kernel_rfl) (fun _ _ _ h => h) (Or.inl ⟨by rfl, ?_⟩) hHeld ?_
          rotate_left
          · intro w hSw; (try dsimp only at hSw);  go_simp; try with_reducible rfl
          simp only [Act.put, List.setIfInBounds_toArray, List.set_cons_zero, List.set_cons_succ]
          refine take_at (i := 1) (d := some 28) (v := ?_) rfl rfl (by kernel_rfl) (by kernel_rfl) (by kernel_rfl) (fun _ _ _ h => h) (Or.inl ⟨by rfl, ?_⟩) hHeld ?_
          rotate_left
          · intro w hSw; (try dsimp only at hSw);  go_simp; try with_reducible rfl
          simp only [Act.put, List.setIfInBounds_toArray, List.set_cons_zero, List.set_cons_succ]
          refine take_at (i := 2) (d := some 29) (v := ?_) rfl rfl (by kernel_rfl) (by kernel_rfl) (by kernel_rfl) (fun _ _ _ h => h) (Or.inl ⟨by rfl, ?_⟩) hHeld ?_
          rotate_left
          · intro w hSw; (try dsimp only at hSw);  go_simp; try with_reducible rfl
          simp only [Act.put, List.setIfInBounds_toArray, List.set_cons_zero, List.set_cons_succ]
          refine take_at (i := 3) (d := some 30) (v := ?_) rfl rfl (by kernel_rfl) (by kernel_rfl) (by kernel_rfl) (fun _ _ _ h => h) (Or.inl ⟨by rfl, ?_⟩) hHeld ?_
          rotate_left
          · intro w hSw; (try dsimp only at hSw);  go_simp; try with_reducible rfl
          simp only [Act.put, List.setIfInBounds_toArray, List.set_cons_zero, List.set_cons_succ]
          refine take_at (i := 5) (d := some 32) (v := ?_) rfl rfl (by kernel_rfl) (by kernel_rfl) (by kernel_rfl) (fun _ _ _ h => h) (Or.inl ⟨by rfl, ?_⟩) hHeld ?_
          rotate_left
          · intro w hSw; (try dsimp only at hSw); obtain ⟨q0, q1⟩ := CELL.out w hSw; go_simp; try with_reducible rfl
          simp only [Act.put, List.setIfInBounds_toArray, List.set_cons_zero, List.set_cons_succ]
          refine wpAnyH_ready (rs := [4]) (by kernel_rfl) (by simp) ?_
          refine AllReadyH.cons rfl (fun K hK => ?_) AllReadyH.nil
          go_simp
          refine (HFr.out _ hHeld).mono ?_
          rintro e u1 ⟨x, rfl, hx, hU1⟩
          dsimp only
          have hU1' : Later wb u1 := Later.trans hHeld hU1
          refine hK.out _ _ hU1' (fun hHeld => ?_)
          clear hK K
          refine wpAnyH_ready (rs := [6]) (by kernel_rfl) (by simp) ?_
          refine AllReadyH.cons rfl (fun K hK => ?_) AllReadyH.nil
          go_simp
          refine (HIn.out _ x hU1' hx).mono ?_
          rintro e u2 ⟨rfl, hU2⟩
          dsimp only
          have hU2' : Later wb u2 := hU1'.trans hU2
          refine hK.out _ _ hU2' (fun hHeld => ?_)
          clear hK K
          refine take_at (i := 7) (d := some 34) (v := ?_) rfl rfl (by kernel_rfl) (by kernel_rfl) (by kernel_rfl) (fun _ _ _ h => h) (Or.inl ⟨by rfl, ?_⟩) hHeld ?_
          rotate_left
          · intro w hSw; (try dsimp only at hSw);  go_simp; try with_reducible rfl
          simp only [Act.put, List.setIfInBounds_toArray, List.set_cons_zero, List.set_cons_succ]
          refine wpAnyH_done (by kernel_rfl) ?_ _
          have HLu := hide (hLb.trans hU2')
          cases bb
          · have HS3 : Hid (R = barredB pick (j + 1) (body.drop (j + 1)) l) := by show _ = _; rw [HS2.out]; rfl
            clear HS2
            go_wp2
            go_roundg (body.length - (j + 1))
            case measure => omega
            case rel => exact ⟨j + 1, by omega, by go_num, HS3, HLu⟩
          · have HS3 : Hid (R = true) := by show _ = _; rw [HS2.out]; rfl
            clear HS2
            go_wp2
            go_ret
            exact ⟨by rw [HS3.out]; rfl, HLu.out⟩
    · have HS3 : Hid (R = false) := by show _ = _; rw [HE.out, List.drop_eq_nil_of_le (by omega)]; rfl
      clear HE
      go_wp2
      go_ret
      exact ⟨by rw [HS3.out]; rfl, HL.out⟩

theorem enters_with1 : ∀ args w, (callFunc 22 args).run Tryz.prog w = .ok (.enter 22 args) w := enters_of Tryz.func22 (by kernel_rfl) rfl

/-- What is asked of a closure that takes lists away: in whatever world leaves all below n as it was. -/
def Dels (g : Nat) (cb : Array Value) (p : List BindD → Bool) (n : Nat) (w0 : World) : Prop := ∀ (W : World) (u : Value) (l : List BindD), Below n w0 W → bindK.sl Anyw W u l →
  Calls Tryz.prog g (#[u] ++ cb) W fun e w' => e = .returned (.bool (p l)) ∧ Later W w'

set_option maxHeartbeats 1000000 in
theorem with1C (cB cF : Nat) (body : List AtomD) (v : Value) (g : Nat) (cb : Array Value) (eg : ∀ args w, (callFunc g args).run Tryz.prog w = .ok (.enter g args) w) (pick : Nat → List FactD) (n : Nat) (w0 : World) (hv : atomK.sl Anyw w0 v body) (hp : Picks g cb pick n w0) (hb : body.length ≤ 5) (hr : ∀ n, Rises (pick n))
    (h0 : w0.cell? ⟨cB, 0, none⟩ = some v) (h1 : w0.cell? ⟨cF, 0, none⟩ = some (.func (.func g) #[] cb)) (b0 : cB < n) (b1 : cF < n) (hn : n = w0.heap.size) :
    Dels 22 #[.pointer (some ⟨cB, 0, none⟩), .pointer (some ⟨cF, 0, none⟩)] (barredB pick 0 body) n w0 := by
  intro W u l hW hu
  have hW' : Below w0.heap.size w0 W := by rw [← hn]; exact hW
  have hs : n ≤ W.heap.size := by have := hW.size; omega
  have z0 : W.cell? ⟨cB, 0, none⟩ = some v := by rw [hW.cell b0]; exact h0
  have z1 : W.cell? ⟨cF, 0, none⟩ = some (.func (.func g) #[] cb) := by rw [hW.cell b1]; exact h1
  have s0 : cB < W.heap.size := by omega
  have s1 : cF < W.heap.size := by omega
  have HC := hide (barredC body v u l g cb eg pick W (Kind.sl_below hv hW') hu (hp.below hW hs) hb hr)
  obtain ⟨a, cap, rfl⟩ := Kind.slice hv
  obtain ⟨ua, ucap, rfl⟩ := Kind.slice hu
  clear hv hu hp hr h0 h1 hW' hW
  generalize barredB pick 0 body l = bb at *
  show Calls _ _ #[.slice ua l.length ucap, .pointer (some ⟨cB, 0, none⟩), .pointer (some ⟨cF, 0, none⟩)] _ _
  go_enter Tryz.func22, Tryz.ntmps22
  go_wp2_with (go_at_call 23; refine HC.out.mono ?_; rintro e w2 ⟨rfl, hL2⟩; replace hL2 := hide hL2)
  go_ret
  exact ⟨rfl, unhide hL2⟩

end Go.Proofs.YthogickpeldhlaaGreat
