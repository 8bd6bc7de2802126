/- The walks of match.source, its closure, and match.met. -/
import Derived.Test.YthogickpeldhlaaGreatMtG
import Derived.Test.YthogickpeldhlaaGreatCkD
namespace Go.Proofs.YthogickpeldhlaaGreat
open Go.RowKit Go.Sort Go.Maps

theorem Strs.below {w w' : World} {v : Value} {l : List ByteArray} (h : Strs w v l) (k : Below w.heap.size w w') : Strs w' v l := by
  obtain ⟨h0, a, cap, rfl, h1⟩ := h
  refine ⟨h0, a, cap, rfl, fun hl => ?_⟩
  obtain ⟨b, off, rfl, hb, hc⟩ := h1 hl
  exact ⟨b, off, rfl, Nat.lt_of_lt_of_le hb k.size, fun i hi => by rw [k.cell (p := ⟨b, off + i, none⟩) hb]; exact hc i hi⟩

theorem Facts.below {w w' : World} {v : Value} {l : List FactD} (h : Facts w v l) (k : Below w.heap.size w w') : Facts w' v l := by
  obtain ⟨h0, a, cap, rfl, h1⟩ := h
  refine ⟨h0, a, cap, rfl, fun hl => ?_⟩
  obtain ⟨b, off, rfl, hb, hc⟩ := h1 hl
  refine ⟨b, off, rfl, Nat.lt_of_lt_of_le hb k.size, fun i hi => ?_⟩
  obtain ⟨c1, s, c2, c3⟩ := hc i hi
  exact ⟨by rw [k.cell (p := ⟨b, off + i * 2, none⟩) hb]; exact c1, s, by rw [k.cell (p := ⟨b, off + i * 2 + 1, none⟩) hb]; exact c2, c3.below k⟩

/-- Of which facts an atom is met. -/
def pickB (fs : List FactD) (at_ : Int) (os : List FactD) : Nat → List FactD := fun n => if (n : Int) = at_ then os else fs

/-- What is asked of the closure that tells it: in whatever world leaves all below n as it was. -/
def Picks (g : Nat) (cb : Array Value) (pick : Nat → List FactD) (n : Nat) (w0 : World) : Prop := ∀ (W : World) (k : Nat), Below n w0 W → (k : Int) ≤ 100 →
  Calls Tryz.prog g (#[.int .i64 k] ++ cb) W fun e w' => ∃ v, e = .returned v ∧ Facts w' v (pick k) ∧ Later W w'

theorem Picks.below {g : Nat} {cb : Array Value} {pick : Nat → List FactD} {n m : Nat} {a b : World} (h : Picks g cb pick n a) (k : Below n a b) (hm : n ≤ m) : Picks g cb pick m b := fun W i hW hi => h W i (below_trans k hW hm) hi

theorem enters_source1 : ∀ args w, (callFunc 41 args).run Tryz.prog w = .ok (.enter 41 args) w := enters_of Tryz.func41 (by kernel_rfl) rfl

set_option maxHeartbeats 400000 in
theorem sourceC (fv ov : Value) (fs os : List FactD) (at_ : Int) (w : World) (hf : Facts w fv fs) (ho : Facts w ov os) :
    Calls Tryz.prog 19 #[fv, .int .i64 at_, ov] w fun e w' => e = .returned (.func (.func 41) #[] #[.pointer (some ⟨w.heap.size + 1, 0, none⟩), .pointer (some ⟨w.heap.size + 2, 0, none⟩), .pointer (some ⟨w.heap.size, 0, none⟩)]) ∧ Later w w' ∧ w'.heap.size = w.heap.size + 3 ∧
      w'.cell? ⟨w.heap.size, 0, none⟩ = some fv ∧ w'.cell? ⟨w.heap.size + 1, 0, none⟩ = some (.int .i64 at_) ∧ w'.cell? ⟨w.heap.size + 2, 0, none⟩ = some ov := by
  obtain ⟨fa, capf, rfl⟩ := sliceFacts hf
  obtain ⟨oa, capo, rfl⟩ := sliceFacts ho
  clear hf ho
  go_enter Tryz.func19, Tryz.ntmps19
  go_wp2
  go_ret
  refine ⟨rfl, (by repeat (first | exact Later.refl _ | assumption | refine Later.drewN ?_ _ | refine Later.drew ?_ | refine Later.alloc ?_ _ | refine Later.grow ?_ _)), by simp, (row1 (t := 23) ?_).1, (row1 (t := 3) ?_).1, (row1 (t := 23) ?_).1⟩
  all_goals
    simp only [heap_at, World.size_alloc]
    repeat (first | rw [if_pos trivial] | rw [if_pos (by omega)] | rw [if_neg (by omega)])

set_option maxHeartbeats 1000000 in
theorem source1C (c0 c1 c2 : Nat) (fv ov : Value) (fs os : List FactD) (at_ : Int) (n : Nat) (w0 : World) (hf : Facts w0 fv fs) (ho : Facts w0 ov os) (h0 : w0.cell? ⟨c0, 0, none⟩ = some fv) (h1 : w0.cell? ⟨c1, 0, none⟩ = some (.int .i64 at_)) (h2 : w0.cell? ⟨c2, 0, none⟩ = some ov) (b0 : c0 < n) (b1 : c1 < n) (b2 : c2 < n) (hn : n = w0.heap.size) :
    Picks 41 #[.pointer (some ⟨c1, 0, none⟩), .pointer (some ⟨c2, 0, none⟩), .pointer (some ⟨c0, 0, none⟩)] (pickB fs at_ os) n w0 := by
  intro W k hW hk
  have hW' : Below w0.heap.size w0 W := by rw [← hn]; exact hW
  have z0 : W.cell? ⟨c0, 0, none⟩ = some fv := by rw [hW.cell b0]; exact h0
  have z1 : W.cell? ⟨c1, 0, none⟩ = some (.int .i64 at_) := by rw [hW.cell b1]; exact h1
  have z2 : W.cell? ⟨c2, 0, none⟩ = some ov := by rw [hW.cell b2]; exact h2
  have HF := hide (hf.below hW')
  have HO := hide (ho.below hW')
  obtain ⟨fa, capf, rfl⟩ := sliceFacts hf
  obtain ⟨oa, capo, rfl⟩ := sliceFacts ho
  have s0 : c0 < W.heap.size := by have := hW.size; omega
  have s1 : c1 < W.heap.size := by have := hW.size; omega
  have s2 : c2 < W.heap.size := by have := hW.size; omega
  clear hf ho h0 h1 h2 hW' hW
  unfold pickB
  show Calls _ _ #[.int .i64 k, .pointer (some ⟨c1, 0, none⟩), .pointer (some ⟨c2, 0, none⟩), .pointer (some ⟨c0, 0, none⟩)] _ _
  by_cases he : (k : Int) = at_
  · have HE := hide he
    have hq : ((k : Int) == at_) = true := by simpa using he
    have hP : (if (k : Int) = at_ then os else fs) = os := if_pos he
    rw [hP]
    clear he hP HF
    go_enter Tryz.func41, Tryz.ntmps41
    go_wp2
    go_ret
    exact ⟨_, rfl, HO.out, Later.refl _⟩
  · have hq : ((k : Int) == at_) = false := by simpa using he
    have hP : (if (k : Int) = at_ then os else fs) = fs := if_neg he
    rw [hP]
    clear he hP HO
    go_enter Tryz.func41, Tryz.ntmps41
    go_wp2
    go_ret
    exact ⟨_, rfl, HF.out, Later.refl _⟩

theorem meetGo_len : ∀ (ts : List TermD) (xs : List ByteArray) (l m : List BindD), meetGo l ts xs = some m → m.length ≤ l.length + ts.length
  | [], _, l, m, h => by cases h; simp
  | _ :: _, [], _, _, h => by cases h
  | t :: ts, x :: xs, l, m, h => by
    simp only [meetGo] at h
    split at h
    · have := meetGo_len ts xs _ m h
      simp at this ⊢; omega
    · split at h
      · have := meetGo_len ts xs _ m h
        simp; omega
      · cases h

theorem meetAllB_len {a : AtomD} {fs : List FactB} {ls : List (List BindD)} {n : Nat} (h : ∀ l ∈ ls, l.length ≤ n) : ∀ m ∈ meetAllB a fs ls, m.length ≤ n + a.terms.length := fun m hm => by
  obtain ⟨l, hl, f, _, hf⟩ := mem_meetAllB.1 hm
  have h1 := h l hl
  unfold meetB at hf
  split at hf
  · have := meetGo_len _ _ _ _ hf; omega
  · cases hf

theorem metGo_step {pick : Nat → List FactB} {body : List AtomD} {j : Nat} {a : AtomD} (h : body[j]? = some a) (ls : List (List BindD)) : metGo pick j (body.drop j) ls = if a.no then metGo pick (j + 1) (body.drop (j + 1)) ls else if 20000 < (meetAllB a (pick j) ls).length then none else metGo pick (j + 1) (body.drop (j + 1)) (meetAllB a (pick j) ls) := by
  obtain ⟨h1, e1⟩ := List.getElem?_eq_some_iff.1 h
  rw [List.drop_eq_getElem_cons h1, e1]; rfl

/-- What met tells. -/
def MetT (w0 w : World) (v : Value) (e : Int) (r : Option (List (List BindD))) : Prop := match r with
  | none => v = .slice none 0 0 ∧ e = 4
  | some ms => e = 0 ∧ ∃ ps, ps.map (·.2) = ms ∧ ms.length ≤ 20000 ∧ (∀ m ∈ ms, m.length ≤ 20) ∧ Lists 24 34 w0.heap.size w v ps

theorem lists_one (lo : Nat) (w : World) (hlo : lo ≤ w.heap.size) : Lists 24 34 lo (w.alloc (.cells #[.slice none 0 0] 24)) (.slice (some ⟨w.heap.size, 0, none⟩) 1 1) [(.slice none 0 0, [])] := by
  refine ⟨⟨rfl, Or.inr ⟨w.heap.size, 1, #[.slice none 0 0], rfl, hlo, heap_alloc_new _ _, by simp, by simp [maxLen], rfl, rfl⟩⟩, fun p hp => ?_, List.pairwise_singleton _ _⟩
  simp at hp
  subst hp
  exact ⟨bindK.own_nil _ _ _, fun k e => by simp [Value.ownBlock] at e⟩

set_option maxRecDepth 100000 in
set_option maxHeartbeats 4000000 in
theorem metC (body : List AtomD) (v : Value) (g : Nat) (cb : Array Value) (eg : ∀ args w, (callFunc g args).run Tryz.prog w = .ok (.enter g args) w) (pick : Nat → List FactD) (w : World) (hv : atomK.sl Anyw w v body) (hp : Picks g cb pick w.heap.size w) (hb : body.length ≤ 5) (ha : ∀ a ∈ body, a.terms.length ≤ 4) (hfs : ∀ n, (pick n).length ≤ 200) :
    Calls Tryz.prog 20 #[v, .func (.func g) #[] cb] w fun e w' => ∃ v' er, e = .returned (.tuple #[v', .int .i64 er]) ∧ MetT w w' v' er (metGo pick 0 body [[]]) ∧ Later w w' := by
  obtain ⟨sa, cap, rfl⟩ := Kind.slice hv
  have HV := hide hv
  have HP := hide hp
  have HA := hide ha
  have HFS := hide hfs
  clear hv hp ha hfs
  generalize hR : metGo pick 0 body [[]] = R at *
  have H0 : Hid (R = metGo pick 0 (body.drop 0) [[]]) := hR.symm
  clear hR
  go_enter Tryz.func20, Tryz.ntmps20
  go_wp2
  go_loopg [6, 13] body.length (fun gg o i wr => ∃ j : Nat, j + gg = body.length ∧ i = .int .i64 j ∧ ∃ ps, Hid (R = metGo pick j (body.drop j) (ps.map (·.2))) ∧ Hid (Lists 24 34 w.heap.size wr o ps) ∧ Hid (ps.length ≤ 20000) ∧ Hid (∀ p ∈ ps, p.2.length ≤ 4 * j) ∧ Hid (Later w wr))
  case atStart =>
    exact ⟨0, by omega, rfl, [(.slice none 0 0, [])], H0, lists_one _ _ (Nat.le_refl _), (by simp : _ ≤ _), (fun p hp => by simp at hp; subst hp; simp), ((by repeat (first | exact Later.refl _ | assumption | refine Later.drewN ?_ _ | refine Later.drew ?_ | refine Later.alloc ?_ _ | refine Later.grow ?_ _)) : Later _ _)⟩
  case round =>
    obtain ⟨j, hj, rfl, ps, HE, HO, HN, HQ, HL⟩ := hrel
    have hn := HN.out
    obtain ⟨ao, no', co, rfl⟩ : ∃ a n c, u6 = .slice a n c := by obtain ⟨a, c, e⟩ := Lists.slice HO.out; exact ⟨a, _, c, e⟩
    by_cases hlt : j < body.length
    · obtain ⟨a, hx⟩ : ∃ x, body[j]? = some x := ⟨_, List.getElem?_eq_getElem hlt⟩
      obtain ⟨b1, o1, _, rfl, hb1, ⟨sv, rfl, hsv⟩, hc⟩ := Kind.sl_at HV.out hx
      have d0 : wr.cell? ⟨b1, o1 + j * 3, none⟩ = some (.bool a.no) := by rw [HL.out.cell hb1]; exact hc 0 _ rfl
      have d1 : wr.cell? ⟨b1, o1 + j * 3 + 1, none⟩ = some (.string (bs a.name)) := by rw [HL.out.cell hb1]; exact hc 1 _ rfl
      have d2 : wr.cell? ⟨b1, o1 + j * 3 + 2, none⟩ = some sv := by rw [HL.out.cell hb1]; exact hc 2 _ rfl
      have hbr : b1 < wr.heap.size := Nat.lt_of_lt_of_le hb1 HL.out.size
      have hat := HA.out a (List.mem_of_getElem? hx)
      have HS := hide (metGo_step (pick := pick) hx (ps.map (·.2)))
      obtain ⟨sva, svc, rfl⟩ := Kind.slice hsv
      have HSV := hide hsv
      clear hc hx hsv
      cases hno : a.no
      · have HS1 : Hid (R = if 20000 < (meetAllB a (pick j) (ps.map (·.2))).length then none else metGo pick (j + 1) (body.drop (j + 1)) (meetAllB a (pick j) (ps.map (·.2)))) := by
          show _ = _
          rw [HE.out, HS.out, hno]; rfl
        rw [hno] at d0
        obtain ⟨wb, hwb⟩ : ∃ wb, wb = wr.alloc (.cells #[.bool false, .string (bs a.name), .slice sva a.terms.length svc] 38) := ⟨_, rfl⟩
        have hLb : Later w wb := by rw [hwb]; exact HL.out.alloc _
        have hLr : Later wr wb := by rw [hwb]; exact (Later.refl _).alloc _
        have z : wb.cell? ⟨wr.heap.size, 0, none⟩ = some (.bool false) ∧ wb.cell? ⟨wr.heap.size, 1, none⟩ = some (.string (bs a.name)) ∧ wb.cell? ⟨wr.heap.size, 2, none⟩ = some (.slice sva a.terms.length svc) := by rw [hwb]; simp
        have hsb : wr.heap.size < wb.heap.size := by rw [hwb]; simp
        have CELL : Hid (∀ w', Later wb w' → w'.cell? ⟨wr.heap.size, 0, none⟩ = some (.bool false) ∧ w'.cell? ⟨wr.heap.size, 1, none⟩ = some (.string (bs a.name)) ∧ w'.cell? ⟨wr.heap.size, 2, none⟩ = some (.slice sva a.terms.length svc)) := fun w' hL =>
          ⟨by rw [hL.cell hsb]; exact z.1, by rw [hL.cell hsb]; exact z.2.1, by rw [hL.cell hsb]; exact z.2.2⟩
        have HFr : Hid (∀ w', Later wb w' → Calls Tryz.prog g (#[.int .i64 j] ++ cb) w' fun e w2 => ∃ v, e = .returned v ∧ Facts w2 v (pick j) ∧ Later w' w2) := fun w' hL =>
          HP.out w' j (hLb.trans hL).below (by omega)
        have HMA : Hid (∀ w' fv, Later wb w' → Facts w' fv (pick j) → Calls Tryz.prog 42 #[.agg #[.bool false, .string (bs a.name), .slice sva a.terms.length svc], fv, .slice ao no' co] w' fun e w2 => ∃ v' er, e = .returned (.tuple #[v', .int .i64 er]) ∧ Hid (er = if 20000 < (meetAllB a (pick j) (ps.map (·.2))).length then 4 else 0) ∧ Hid (MetAll w' w2 v' (meetAllB a (pick j) (ps.map (·.2)))) ∧ Later w' w2) := fun w' fv hL hf => by
          have h1 := meetAllC a _ fv (.slice ao no' co) (pick j) (ps.map (·.2)) w' (Kind.sl_later HSV.out (hLb.trans hL)) hf (Kind.sl_any ((HO.out.later (hLr.trans hL)).sl (by omega) (fun p hp => by have := HQ.out p hp; omega))) (HFS.out j) (by simpa using hn) hat (fun l hl => by
            obtain ⟨p, hp, rfl⟩ := List.mem_map.1 hl
            have := HQ.out p hp; omega)
          rw [hno] at h1
          exact h1.mono fun e w2 ⟨v', he, hm, hl⟩ => ⟨v', _, he, (rfl : _ = _), hm, hl⟩
        have HWB := hide hwb
        have HQ1 : Hid (∀ m ∈ meetAllB a (pick j) (ps.map (·.2)), m.length ≤ 4 * (j + 1)) := fun m hm => by
          have := meetAllB_len (a := a) (fs := pick j) (ls := ps.map (·.2)) (n := 4 * j) (fun l hl => by
            obtain ⟨p, hp, rfl⟩ := List.mem_map.1 hl
            exact HQ.out p hp) m hm
          omega
        clear hwb z hsb HE HS HSV hno
        generalize meetAllB a (pick j) (ps.map (·.2)) = MA at *
        generalize bs a.name = nm at *
        go_wp2
        rw [← HWB.out]
        refine wp_region_held_drew (S := fun w' => Later wb w') (by kernel_rfl) (Later.refl _).drew (fun hHeld => ?_)
        refine take_at (i := 0) (d := some 21) (v := ?_) rfl rfl (by kernel_rfl) (by kernel_rfl) (by kernel_rfl) (fun _ _ _ h => h) (Or.inl ⟨by rfl, ?_⟩) hHeld ?_
        rotate_left
        · intro w hSw; (try dsimp only at hSw); obtain ⟨q0, q1, q2⟩ := CELL.out w hSw; go_simp; try with_reducible rfl
        simp only [Act.put, List.setIfInBounds_toArray, List.set_cons_zero, List.set_cons_succ]
        refine take_at (i := 1) (d := some 22) (v := ?_) rfl rfl (by kernel_rfl) (by kernel_rfl) (by kernel_rfl) (fun _ _ _ h => h) (Or.inl ⟨by rfl, ?_⟩) hHeld ?_
        rotate_left
        · intro w hSw; (try dsimp only at hSw);  go_simp; try with_reducible rfl
        simp only [Act.put, List.setIfInBounds_toArray, List.set_cons_zero, List.set_cons_succ]
        refine take_at (i := 2) (d := some 23) (v := ?_) rfl rfl (by kernel_rfl) (by kernel_rfl) (by kernel_rfl) (fun _ _ _ h => h) (Or.inl ⟨by rfl, ?_⟩) hHeld ?_
        rotate_left
        · intro w hSw; (try dsimp only at hSw);  go_simp; try with_reducible rfl
        simp only [Act.put, List.setIfInBounds_toArray, List.set_cons_zero, List.set_cons_succ]
        refine take_at (i := 4) (d := some 25) (v := ?_) rfl rfl (by kernel_rfl) (by kernel_rfl) (by kernel_rfl) (fun _ _ _ h => h) (Or.inl ⟨by rfl, ?_⟩) hHeld ?_
        rotate_left
        · intro w hSw; (try dsimp only at hSw);  go_simp; try with_reducible rfl
        simp only [Act.put, List.setIfInBounds_toArray, List.set_cons_zero, List.set_cons_succ]
        refine wpAnyH_ready (rs := [3]) (by kernel_rfl) (by simp) ?_
        refine AllReadyH.cons rfl (fun K hK => ?_) AllReadyH.nil
        go_simp
        refine (HFr.out _ hHeld).mono ?_
        rintro e u1 ⟨fv, rfl, hfv, hU1⟩
        dsimp only
        have hU1' : Later wb u1 := Later.trans hHeld hU1
        refine hK.out _ _ hU1' (fun hHeld => ?_)
        clear hK K
        refine wpAnyH_ready (rs := [5]) (by kernel_rfl) (by simp) ?_
        refine AllReadyH.cons rfl (fun K hK => ?_) AllReadyH.nil
        go_simp
        refine (HMA.out _ fv hU1' hfv).mono ?_
        rintro e u2 ⟨v', er, rfl, HER, HMT, hU2⟩
        dsimp only
        have hU2' : Later wb u2 := hU1'.trans hU2
        refine hK.out _ _ hU2' (fun hHeld => ?_)
        clear hK K
        refine take_at (i := 6) (d := some 20) (v := ?_) rfl rfl (by kernel_rfl) (by kernel_rfl) (by kernel_rfl) (fun _ _ _ h => h) (Or.inl ⟨by rfl, ?_⟩) hHeld ?_
        rotate_left
        · intro w hSw; (try dsimp only at hSw);  go_simp; try with_reducible rfl
        simp only [Act.put, List.setIfInBounds_toArray, List.set_cons_zero, List.set_cons_succ]
        refine take_at (i := 7) (d := some 27) (v := ?_) rfl rfl (by kernel_rfl) (by kernel_rfl) (by kernel_rfl) (fun _ _ _ h => h) (Or.inl ⟨by rfl, ?_⟩) hHeld ?_
        rotate_left
        · intro w hSw; (try dsimp only at hSw);  go_simp; try with_reducible rfl
        simp only [Act.put, List.setIfInBounds_toArray, List.set_cons_zero, List.set_cons_succ]
        refine take_at (i := 8) (d := some 28) (v := ?_) rfl rfl (by kernel_rfl) (by kernel_rfl) (by kernel_rfl) (fun _ _ _ h => h) (Or.inl ⟨by rfl, ?_⟩) hHeld ?_
        rotate_left
        · intro w hSw; (try dsimp only at hSw);  go_simp; try with_reducible rfl
        simp only [Act.put, List.setIfInBounds_toArray, List.set_cons_zero, List.set_cons_succ]
        refine take_at (i := 9) (d := some 6) (v := ?_) rfl rfl (by kernel_rfl) (by kernel_rfl) (by kernel_rfl) (fun _ _ _ h => h) (Or.inl ⟨by rfl, ?_⟩) hHeld ?_
        rotate_left
        · intro w hSw; (try dsimp only at hSw);  go_simp; try with_reducible rfl
        simp only [Act.put, List.setIfInBounds_toArray, List.set_cons_zero, List.set_cons_succ]
        refine take_at (i := 10) (d := some 9) (v := ?_) rfl rfl (by kernel_rfl) (by kernel_rfl) (by kernel_rfl) (fun _ _ _ h => h) (Or.inl ⟨by rfl, ?_⟩) hHeld ?_
        rotate_left
        · intro w hSw; (try dsimp only at hSw);  go_simp; try with_reducible rfl
        simp only [Act.put, List.setIfInBounds_toArray, List.set_cons_zero, List.set_cons_succ]
        refine wpAnyH_done (by kernel_rfl) ?_ _
        have hLu : Later w u2 := hLb.trans hU2'
        have hsu : w.heap.size ≤ u1.heap.size := (hLb.trans hU1').size
        by_cases hbig : 20000 < MA.length
        · have HR : Hid (R = none) := by show _ = _; rw [HS1.out, if_pos hbig]
          have he : er = 4 := by rw [HER.out, if_pos hbig]
          subst he
          clear hbig HER HMT HS1
          go_wp2
          go_ret2
          exact ⟨_, _, rfl, by rw [HR.out]; exact ⟨rfl, rfl⟩, hLu⟩
        · have HR : Hid (R = metGo pick (j + 1) (body.drop (j + 1)) MA) := by show _ = _; rw [HS1.out, if_neg hbig]
          have he : er = 0 := by rw [HER.out, if_neg hbig]
          subst he
          have hmt := HMT.out
          unfold MetAll at hmt
          rw [if_neg hbig] at hmt
          obtain ⟨ps', hps', hLs⟩ := hmt
          have HR2 : Hid (R = metGo pick (j + 1) (body.drop (j + 1)) (ps'.map (·.2))) := by show _ = _; rw [hps']; exact HR.out
          have HN2 : Hid (ps'.length ≤ 20000) := by show _ ≤ _; rw [← hps', List.length_map] at hbig; omega
          have HQ2 : Hid (∀ p ∈ ps', p.2.length ≤ 4 * (j + 1)) := fun p hp => HQ1.out _ (by rw [← hps']; exact List.mem_map.2 ⟨p, hp, rfl⟩)
          have HO2 := hide (hLs.base hsu)
          obtain ⟨a4, n4, c4, rfl⟩ : ∃ a n c, v' = .slice a n c := by obtain ⟨a, c, e⟩ := Lists.slice hLs; exact ⟨a, _, c, e⟩
          clear hbig HER HMT HS1 hps' hLs HR
          go_wp2
          go_roundg (body.length - (j + 1))
          case measure => omega
          case rel => exact ⟨j + 1, by omega, by go_num, ps', HR2, HO2, HN2, HQ2, hLu⟩
      · have HS1 : Hid (R = metGo pick (j + 1) (body.drop (j + 1)) (ps.map (·.2))) := by
          show _ = _
          rw [HE.out, HS.out, hno]; rfl
        rw [hno] at d0
        clear HE HS hno
        generalize bs a.name = nm at *
        go_wp2
        go_roundg (body.length - (j + 1))
        case measure => omega
        case rel => exact ⟨j + 1, by omega, by go_num, ps, HS1, HO.out.later ((Later.refl _).alloc _), HN, (fun p hp => by have := HQ.out p hp; omega), HL.out.alloc _⟩
    · have e : j = body.length := by omega
      have HR : Hid (R = some (ps.map (·.2))) := by show _ = _; rw [HE.out, List.drop_eq_nil_of_le (by omega)]; rfl
      clear HE
      go_wp2
      go_ret2
      refine ⟨_, _, rfl, ?_, HL.out⟩
      rw [HR.out]
      exact ⟨rfl, ps, rfl, by simpa using hn, fun m hm => by
        obtain ⟨p, hp, rfl⟩ := List.mem_map.1 hm
        have := HQ.out p hp; omega, HO.out⟩

end Go.Proofs.YthogickpeldhlaaGreat
