/- Texts of this claim, one behind the other. -/
import Derived.Test.YtalggolacdlnnaaGreatDoorJ22
import Derived.Test.YtalggolacdlnnaaGreatDoorJ17
/- The walk of round's next. -/
namespace Go.Proofs.YtalggolacdlnnaaGreatDoor
open Go.RowKit Go.Sort Go.Maps

/-- A run in memory. -/
def RunV (w : World) (v : Value) (r : RunD) : Prop := ∃ kv nv, v = .agg #[kv, nv, .int .i64 r.level, .int .i64 r.rounds, .bool r.done] ∧ Facts w kv r.known ∧ Facts w nv r.fresh

/-- A run whose facts are the call's own, from block b on. -/
def RunO (b : Nat) (w : World) (v : Value) (r : RunD) : Prop := ∃ kv nv, v = .agg #[kv, nv, .int .i64 r.level, .int .i64 r.rounds, .bool r.done] ∧ OwnF w b kv r.known ∧ OwnF w b nv r.fresh

theorem RunO.none (b : Nat) (w : World) : RunO b w (.agg #[.slice none 0 0, .slice none 0 0, .int .i64 0, .int .i64 0, .bool false]) noRun := ⟨_, _, rfl, OwnF.nil _ _, OwnF.nil _ _⟩

theorem RunV.below {w w' : World} {v : Value} {r : RunD} (h : RunV w v r) (k : Below w.heap.size w w') : RunV w' v r := by
  obtain ⟨kv, nv, h1, h2, h3⟩ := h; exact ⟨kv, nv, h1, h2.below k, h3.below k⟩

theorem RunO.stay {b : Nat} {w w' : World} {v : Value} {r : RunD} (h : RunO b w v r) (hs : w.heap.size ≤ w'.heap.size) (hk : ∀ k, k < w.heap.size → b ≤ k → w'.heap[k]? = w.heap[k]?) : RunO b w' v r := by
  obtain ⟨kv, nv, h1, h2, h3⟩ := h; exact ⟨kv, nv, h1, h2.stay hs hk, h3.stay hs hk⟩

theorem RunO.base {b b' : Nat} {w : World} {v : Value} {r : RunD} (h : RunO b w v r) (hb : b' ≤ b) : RunO b' w v r := by
  obtain ⟨kv, nv, h1, h2, h3⟩ := h; exact ⟨kv, nv, h1, h2.base hb, h3.base hb⟩

/-- A block of five cells. -/
theorem row5 {w : World} {R : Nat} {u0 u1 u2 u3 u4 : Value} {t : TypeId} (h : w.heap[R]? = some (.cells #[u0, u1, u2, u3, u4] t (0, 0))) : w.cell? ⟨R, 0, none⟩ = some u0 ∧ w.cell? ⟨R, 1, none⟩ = some u1 ∧ w.cell? ⟨R, 2, none⟩ = some u2 ∧ w.cell? ⟨R, 3, none⟩ = some u3 ∧ w.cell? ⟨R, 4, none⟩ = some u4 ∧
    (w.frozen? ⟨R, 0, none⟩ = false ∧ w.frozen? ⟨R, 1, none⟩ = false ∧ w.frozen? ⟨R, 2, none⟩ = false ∧ w.frozen? ⟨R, 3, none⟩ = false ∧ w.frozen? ⟨R, 4, none⟩ = false) ∧ R < w.heap.size :=
  ⟨by rw [cell_of_row _ _ _ _ _ _ h]; rfl, by rw [cell_of_row _ _ _ _ _ _ h]; rfl, by rw [cell_of_row _ _ _ _ _ _ h]; rfl, by rw [cell_of_row _ _ _ _ _ _ h]; rfl, by rw [cell_of_row _ _ _ _ _ _ h]; rfl,
    ⟨by simp [World.frozen?, h], by simp [World.frozen?, h], by simp [World.frozen?, h], by simp [World.frozen?, h], by simp [World.frozen?, h]⟩, (Array.getElem?_eq_some_iff.1 h).1⟩

/-- All five written. -/
def put5 (w : World) (R : Nat) (x0 x1 x2 x3 x4 : Value) : World := ((((w.setCell ⟨R, 0, none⟩ x0).setCell ⟨R, 1, none⟩ x1).setCell ⟨R, 2, none⟩ x2).setCell ⟨R, 3, none⟩ x3).setCell ⟨R, 4, none⟩ x4

theorem set_five {w : World} {R : Nat} {u0 u1 u2 u3 u4 : Value} {t : TypeId} (h : w.heap[R]? = some (.cells #[u0, u1, u2, u3, u4] t (0, 0))) (x0 x1 x2 x3 x4 : Value) :
    (put5 w R x0 x1 x2 x3 x4).heap[R]? = some (.cells #[x0, x1, x2, x3, x4] t (0, 0)) := by
  unfold put5
  rw [set_at (j := 4) (set_at (j := 3) (set_at (j := 2) (set_at (j := 1) (set_at (j := 0) h x0) x1) x2) x3) x4]
  rfl

theorem put5_tn (w : World) (R : Nat) (x0 x1 x2 x3 x4 : Value) : Tn R w (put5 w R x0 x1 x2 x3 x4) :=
  (((((Tn.refl R w).setCell (Or.inl rfl) _).setCell (Or.inl rfl) _).setCell (Or.inl rfl) _).setCell (Or.inl rfl) _).setCell (Or.inl rfl) _

theorem set5 {w : World} {R : Nat} {u0 u1 u2 u3 u4 : Value} {t : TypeId} (h : w.heap[R]? = some (.cells #[u0, u1, u2, u3, u4] t (0, 0))) (x0 x1 x2 x3 x4 : Value) :
    (((((w.setCell ⟨R, 0, none⟩ x0).setCell ⟨R, 1, none⟩ x1).setCell ⟨R, 2, none⟩ x2).setCell ⟨R, 3, none⟩ x3).setCell ⟨R, 4, none⟩ x4).cell? ⟨R, 0, none⟩ = some x0 ∧
    (((((w.setCell ⟨R, 0, none⟩ x0).setCell ⟨R, 1, none⟩ x1).setCell ⟨R, 2, none⟩ x2).setCell ⟨R, 3, none⟩ x3).setCell ⟨R, 4, none⟩ x4).cell? ⟨R, 1, none⟩ = some x1 ∧
    (((((w.setCell ⟨R, 0, none⟩ x0).setCell ⟨R, 1, none⟩ x1).setCell ⟨R, 2, none⟩ x2).setCell ⟨R, 3, none⟩ x3).setCell ⟨R, 4, none⟩ x4).cell? ⟨R, 2, none⟩ = some x2 ∧
    (((((w.setCell ⟨R, 0, none⟩ x0).setCell ⟨R, 1, none⟩ x1).setCell ⟨R, 2, none⟩ x2).setCell ⟨R, 3, none⟩ x3).setCell ⟨R, 4, none⟩ x4).cell? ⟨R, 3, none⟩ = some x3 ∧
    (((((w.setCell ⟨R, 0, none⟩ x0).setCell ⟨R, 1, none⟩ x1).setCell ⟨R, 2, none⟩ x2).setCell ⟨R, 3, none⟩ x3).setCell ⟨R, 4, none⟩ x4).cell? ⟨R, 4, none⟩ = some x4 := by
  have := row5 (set_five h x0 x1 x2 x3 x4)
  unfold put5 at this
  exact ⟨this.1, this.2.1, this.2.2.1, this.2.2.2.1, this.2.2.2.2.1⟩

theorem OwnF.put {base R j : Nat} {w : World} {v x : Value} {l : List FactD} (h : OwnF w base v l) (hR : R < base) : OwnF (w.setCell ⟨R, j, none⟩ x) base v l :=
  h.stay (by rw [size_setCell]; exact Nat.le_refl _) fun k _ hk => heap_setCell_other _ _ _ (by show k ≠ R; omega)

theorem OwnF.put5 {base R : Nat} {w : World} {v x0 x1 x2 x3 x4 : Value} {l : List FactD} (h : OwnF w base v l) (hR : R < base) : OwnF (put5 w R x0 x1 x2 x3 x4) base v l :=
  ((((h.put hR).put hR).put hR).put hR).put hR

theorem Below.put {n R j : Nat} {a b : World} {x : Value} (h : Below n a b) (hR : n ≤ R) : Below n a (b.setCell ⟨R, j, none⟩ x) := h.setCell hR x

theorem Below.put5 {n R : Nat} {a b : World} {x0 x1 x2 x3 x4 : Value} (h : Below n a b) (hR : n ≤ R) : Below n a (put5 b R x0 x1 x2 x3 x4) :=
  ((((Below.put h hR).setCell hR _).setCell hR _).setCell hR _).setCell hR _

/-- What is left of what was being made, in the end. -/
theorem mades_end {K D acc : List FactB} (hK : Up K) (h : Mades K D acc) : (200 < (setF (K ++ D)).length → 200 < (setF (K ++ acc)).length) ∧ (¬ 200 < (setF (K ++ D)).length → setF (K ++ D) = setF (K ++ acc) ∧ D = newOf K acc) := by
  constructor
  · intro h1
    have := up_le (setF_up (K ++ D)) (t := setF (K ++ acc)) fun f hf => mem_setF.2 (by
      rcases List.mem_append.1 (mem_setF.1 hf) with h2 | h2
      · exact List.mem_append.2 (Or.inl h2)
      · exact List.mem_append.2 (Or.inr (h.of f h2).1))
    omega
  · intro h1
    have hnd : (K ++ D).Nodup := List.nodup_append.2 ⟨up_nodup hK, up_nodup h.up, fun a ha b hb e => (h.of b hb).2 (e ▸ ha)⟩
    have h2 := sub_len hnd (t := setF (K ++ D)) fun f hf => mem_setF.2 hf
    rw [List.length_append] at h2
    have hall := h.all (by omega)
    refine ⟨setF_congr fun f => ?_, ?_⟩
    · rw [List.mem_append, List.mem_append]
      constructor
      · rintro (h3 | h3)
        · exact Or.inl h3
        · exact Or.inr (h.of f h3).1
      · rintro (h3 | h3)
        · exact Or.inl h3
        · by_cases h4 : f ∈ K
          · exact Or.inl h4
          · exact Or.inr (hall f h3 h4)
    · exact up_ext h.up (setF_up _) fun f => by
        show f ∈ D ↔ f ∈ newOf K acc
        rw [mem_newOf]
        exact ⟨fun h3 => h.of f h3, fun h3 => hall f h3.1 h3.2⟩

/-- What next tells. -/
def NextT (b : Nat) (w : World) (v : Value) (er : Int) (x : Int × RunD) : Prop := er = x.1 ∧ RunO b w v x.2

set_option maxRecDepth 100000 in
set_option maxHeartbeats 4000000 in
theorem nextC (p : List RuleD) (hp : RightP p) (σ : RuleD → Nat) (r : RunD) (hr : RightN p (countP (p.map σ)) r) (hd : r.done = false) (hσ : ∀ s ∈ p.map σ, s < 1000) (pv sv kv nv : Value) (w : World) (hpv : ruleK.sl Anyw w pv p) (hsv : intK.sl Anyw w sv (p.map σ)) (hk : Facts w kv r.known) (hn : Facts w nv r.fresh) :
    Calls Tryz.prog 24 #[pv, sv, .agg #[kv, nv, .int .i64 r.level, .int .i64 r.rounds, .bool r.done]] w fun e w' => ∃ v' er, e = .returned (.tuple #[v', .int .i64 er]) ∧ NextT (w.heap.size + 2) w' v' er (nextP p (p.map σ) r) ∧ Below w.heap.size w w' := by
  have hlev := hr.lev
  have hrnd := hr.rnd
  have hcs : countP (p.map σ) ≤ 1000 := countP_le hσ
  have HG := hide hr.good
  have HUp := hide hr.up
  have HSub := hide hr.sub
  obtain ⟨K, N, lev, rn, dn⟩ := r
  dsimp only at *
  subst hd
  have hfew := HG.out.few
  clear hr
  obtain ⟨pa, pc, rfl⟩ := Kind.slice hpv
  obtain ⟨sa, sc, hsa⟩ := Kind.slice hsv
  subst hsa
  obtain ⟨ka, kc, rfl⟩ := sliceFacts hk
  obtain ⟨na, nc, rfl⟩ := sliceFacts hn
  obtain ⟨w2, hw2⟩ : ∃ w2, w2 = (w.alloc (.cells #[.slice ka K.length kc, .slice na N.length nc, .int .i64 lev, .int .i64 rn, .bool false] 36)).alloc (.cells #[.slice none 0 0, .slice none 0 0, .int .i64 0, .int .i64 0, .bool false] 36) := ⟨_, rfl⟩
  have hL2 : Later w w2 := by rw [hw2]; exact ((Later.refl w).alloc _).alloc _
  have hz2 : w2.heap.size = w.heap.size + 2 := by rw [hw2]; simp
  have HRb : Hid (w2.heap[w.heap.size]? = some (.cells #[.slice ka K.length kc, .slice na N.length nc, .int .i64 lev, .int .i64 rn, .bool false] 36 (0, 0))) := by
    show _ = _; rw [hw2, Below.heap_alloc _ _ _ (by simp)]; exact heap_alloc_new w _
  have HRs : Hid (w2.heap[w.heap.size + 1]? = some (.cells #[.slice none 0 0, .slice none 0 0, .int .i64 0, .int .i64 0, .bool false] 36 (0, 0))) := by
    show _ = _
    have := heap_alloc_new (w.alloc (.cells #[.slice ka K.length kc, .slice na N.length nc, .int .i64 lev, .int .i64 rn, .bool false] 36)) (.cells #[.slice none 0 0, .slice none 0 0, .int .i64 0, .int .i64 0, .bool false] 36)
    rw [hw2]; simpa using this
  have HMk := hide (makesC p hp σ ⟨K, N, lev, rn, false⟩ HG.out HUp.out HSub.out (.slice pa p.length pc) (.slice sa (p.map σ).length sc) (.slice ka K.length kc) (.slice na N.length nc) w2 (Kind.sl_later hpv hL2) (Kind.sl_later hsv hL2) (hk.later hL2) (hn.later hL2))
  have HK2 := hide (hk.later hL2)
  have HSV := hide hsv
  have HL2 := hide hL2
  have HSig := hide hσ
  have HGN := hide HG.out.up
  generalize hss : p.map σ = ss at *
  clear hpv hsv hk hn hp hσ hss HUp HSub hL2
  by_cases h1000 : rn = 1000
  · subst h1000
    have HT : Hid (∀ w' v', RunO (w.heap.size + 2) w' v' noRun → NextT (w.heap.size + 2) w' v' 5 (nextP p ss ⟨K, N, lev, 1000, false⟩)) := fun w' v' h => by unfold nextP; rw [if_pos rfl]; exact ⟨rfl, h⟩
    obtain ⟨q0, q1, q2, q3, q4, _, _⟩ := row5 HRs.out
    rw [hw2] at q0 q1 q2 q3 q4
    have HB2 : Hid (Below w.heap.size w w2) := HL2.out.below
    rw [hw2] at HB2
    clear hw2 HRb HRs HMk HK2 HSV HL2 hz2
    go_enter Tryz.func24, Tryz.ntmps24
    go_wp2
    exact bodyPost_ret (v := .tuple #[.agg #[.slice none 0 0, .slice none 0 0, .int .i64 0, .int .i64 0, .bool false], .int .i64 5]) (by simp [results, Tryz.results24, go_sem, q0, q1, q2, q3, q4]) rfl ⟨_, 5, rfl, HT.out _ _ (RunO.none _ _), HB2.out⟩
  · have hne : ¬ (rn = 1000) := h1000
    have HW2 := hide hw2
    clear hw2
    go_enter Tryz.func24, Tryz.ntmps24
    go_wp2_with fail
    rw [← HW2.out]
    refine HMk.out.mono ?_
    rintro e w3 ⟨v3, er, rfl, hT3, hB3⟩
    have HB3 : Hid (Below w.heap.size w w3) := below_trans HL2.out.below hB3 (by omega)
    have HRb3 : Hid (w3.heap[w.heap.size]? = some (.cells #[.slice ka K.length kc, .slice na N.length nc, .int .i64 lev, .int .i64 rn, .bool false] 36 (0, 0))) := by show _ = _; rw [hB3.block _ (by omega)]; exact HRb.out
    have HRs3 : Hid (w3.heap[w.heap.size + 1]? = some (.cells #[.slice none 0 0, .slice none 0 0, .int .i64 0, .int .i64 0, .bool false] 36 (0, 0))) := by show _ = _; rw [hB3.block _ (by omega)]; exact HRs.out
    have HK3 := hide (HK2.out.below hB3)
    have hz3 : w.heap.size + 2 ≤ w3.heap.size := by have := hB3.size; omega
    rw [hz2] at hT3
    clear hB3 HMk HRb HRs HK2 HW2 HL2 hz2 w2
    unfold MakesT at hT3
    dsimp only at hT3
    have hnx : nextP p ss ⟨K, N, lev, rn, false⟩ = match makesGo K N lev p ss [] with
      | none => (4, noRun)
      | some acc => if 200 < (setF (K ++ acc)).length then (5, noRun) else
        if newOf K acc = [] then (0, ⟨setF (K ++ acc), setF (K ++ acc), lev + 1, rn + 1, decide (lev + 1 = countP ss)⟩)
        else (0, ⟨setF (K ++ acc), newOf K acc, lev, rn + 1, false⟩) := by unfold nextP; rw [if_neg hne]; dsimp only; cases makesGo K N lev p ss [] <;> rfl
    have HNx := hide hnx
    clear hnx hne h1000
    cases hmk : makesGo K N lev p ss [] with
    | none =>
      rw [hmk] at hT3
      obtain ⟨rfl, rfl⟩ := hT3
      have HT : Hid (∀ w' v', RunO (w.heap.size + 2) w' v' noRun → NextT (w.heap.size + 2) w' v' 4 (nextP p ss ⟨K, N, lev, rn, false⟩)) := fun w' v' h => by rw [HNx.out, hmk]; exact ⟨rfl, h⟩
      obtain ⟨q0, q1, q2, q3, q4, ⟨f0, f1, f2, f3, f4⟩, qz⟩ := row5 HRs3.out
      clear hmk HNx HK3 HSV HG HGN HSig
      go_wp2
      obtain ⟨r0, r1, r2, r3, r4⟩ := set5 HRs3.out (.slice none 0 0) (.slice none 0 0) (.int .i64 0) (.int .i64 0) (.bool false)
      exact bodyPost_ret (v := .tuple #[.agg #[.slice none 0 0, .slice none 0 0, .int .i64 0, .int .i64 0, .bool false], .int .i64 4]) (by simp [results, Tryz.results24, go_sem, r0, r1, r2, r3, r4]) rfl ⟨_, 4, rfl, HT.out _ _ (RunO.none _ _), Below.put5 HB3.out (Nat.le_succ _)⟩
    | some acc =>
      rw [hmk] at hT3
      obtain ⟨rfl, D, hO3, hM3⟩ := hT3
      obtain ⟨da, dc, rfl⟩ := hO3.slice
      have hend := mades_end HGN.out hM3
      have hDf := hM3.few
      have HJ := hide (joinC (.slice ka K.length kc) (.slice da D.length dc) K D w3 HK3.out (hO3.facts (by omega)) (by omega))
      obtain ⟨b0, b1, b2, b3, b4, _, _⟩ := row5 HRb3.out
      have HO3 := hide hO3
      have HEnd := hide hend
      rw [hmk] at HNx
      have HNx2 := hide HNx.out
      clear hmk hO3 hM3 hend HNx HK3
      go_wp2_with fail
      refine HJ.out.mono ?_
      rintro e w4 ⟨v4, s, rfl, hS, hO4, hL4⟩
      obtain rfl : s = setF (K ++ D) := setF_of hS.1 hS.2.1
      have hs4l : (setF (K ++ D)).length ≤ 100000 := by have := setF_len (K ++ D); rw [List.length_append] at this; omega
      obtain ⟨a4, c4, rfl⟩ := hO4.slice
      have HB4 : Hid (Below w.heap.size w w4) := below_trans HB3.out hL4.below HB3.out.size
      have HRb4 : Hid (w4.heap[w.heap.size]? = some (.cells #[.slice ka K.length kc, .slice na N.length nc, .int .i64 lev, .int .i64 rn, .bool false] 36 (0, 0))) := by show _ = _; rw [hL4.block (by omega)]; exact HRb3.out
      have HRs4 : Hid (w4.heap[w.heap.size + 1]? = some (.cells #[.slice none 0 0, .slice none 0 0, .int .i64 0, .int .i64 0, .bool false] 36 (0, 0))) := by show _ = _; rw [hL4.block (by omega)]; exact HRs3.out
      have HO3' : Hid (OwnF w4 (w.heap.size + 2) (.slice da D.length dc) D) := (HO3.out.later hL4).base (by omega)
      have HO4 : Hid (OwnF w4 (w.heap.size + 2) (.slice a4 (setF (K ++ D)).length c4) (setF (K ++ D))) := hO4.base (by omega)
      have hz4 : w.heap.size + 2 ≤ w4.heap.size := by have := hL4.size; omega
      clear b0 b1 b2 b3 b4 hS hO4 hL4 HO3 HB3 HRb3 HRs3 HJ hz3
      obtain ⟨b0, b1, b2, b3, b4, ⟨g0, g1, g2, g3, g4⟩, bz⟩ := row5 HRb4.out
      obtain ⟨q0, q1, q2, q3, q4, ⟨f0, f1, f2, f3, f4⟩, qz⟩ := row5 HRs4.out
      by_cases hbig : 200 < (setF (K ++ D)).length
      · have HT : Hid (∀ w' v', RunO (w.heap.size + 2) w' v' noRun → NextT (w.heap.size + 2) w' v' 5 (nextP p ss ⟨K, N, lev, rn, false⟩)) := fun w' v' h => by rw [HNx2.out, if_pos (HEnd.out.1 hbig)]; exact ⟨rfl, h⟩
        have hbz : (200 : Int) < ((setF (K ++ D)).length : Int) := by omega
        have HR5 : Hid ((w4.setCell ⟨w.heap.size, 0, none⟩ (.slice a4 (setF (K ++ D)).length c4)).heap[w.heap.size + 1]? = some (.cells #[.slice none 0 0, .slice none 0 0, .int .i64 0, .int .i64 0, .bool false] 36 (0, 0))) := by show _ = _; rw [heap_setCell_other _ _ _ (by show w.heap.size + 1 ≠ w.heap.size; omega)]; exact HRs4.out
        clear HEnd HNx2 HSV HO3' HO4 HG HGN HSig
        go_wp2
        obtain ⟨r0, r1, r2, r3, r4⟩ := set5 HR5.out (.slice none 0 0) (.slice none 0 0) (.int .i64 0) (.int .i64 0) (.bool false)
        exact bodyPost_ret (v := .tuple #[.agg #[.slice none 0 0, .slice none 0 0, .int .i64 0, .int .i64 0, .bool false], .int .i64 5]) (by simp [results, Tryz.results24, go_sem, r0, r1, r2, r3, r4]) rfl ⟨_, 5, rfl, HT.out _ _ (RunO.none _ _), Below.put5 (Below.put HB4.out (Nat.le_refl _)) (Nat.le_succ _)⟩
      · obtain ⟨eK, eD⟩ := HEnd.out.2 hbig
        have hbz : ¬ (200 : Int) < ((setF (K ++ D)).length : Int) := by omega
        by_cases hD0 : D = []
        · have hd0 : ((D.length : Int) = 0) := by rw [hD0]; rfl
          have HT : Hid (∀ w' v', RunO (w.heap.size + 2) w' v' ⟨setF (K ++ D), setF (K ++ D), lev + 1, rn + 1, lev + 1 == ((countP ss : Nat) : Int)⟩ → NextT (w.heap.size + 2) w' v' 0 (nextP p ss ⟨K, N, lev, rn, false⟩)) := fun w' v' h => by
            rw [HNx2.out, if_neg (by rw [← eK]; exact hbig), if_pos (by rw [← eD]; exact hD0), ← eK]; exact ⟨rfl, h⟩
          clear hD0
          generalize setF (K ++ D) = Z at *
          obtain ⟨w7, hw7⟩ : ∃ w7, w7 = ((w4.setCell ⟨w.heap.size, 0, none⟩ (.slice a4 Z.length c4)).setCell ⟨w.heap.size, 1, none⟩ (.slice da D.length dc)).setCell ⟨w.heap.size, 2, none⟩ (.int .i64 (lev + 1)) := ⟨_, rfl⟩
          have hO7 : OwnF w7 (w.heap.size + 2) (.slice a4 Z.length c4) Z := by rw [hw7]; exact ((HO4.out.put (by omega)).put (by omega)).put (by omega)
          have HB7 : Hid (Below w.heap.size w w7) := by show Below _ _ _; rw [hw7]; exact Below.put (Below.put (Below.put HB4.out (Nat.le_refl _)) (Nat.le_refl _)) (Nat.le_refl _)
          have hz7 : w7.heap.size = w4.heap.size := by rw [hw7, size_setCell, size_setCell, size_setCell]
          have hr7 : w7.heap[w.heap.size]? = some (.cells #[.slice a4 Z.length c4, .slice da D.length dc, .int .i64 (lev + 1), .int .i64 rn, .bool false] 36 (0, 0)) := by
            rw [hw7, set_at (j := 2) (set_at (j := 1) (set_at (j := 0) HRb4.out _) _) _]; rfl
          have hs7 : w7.heap[w.heap.size + 1]? = some (.cells #[.slice none 0 0, .slice none 0 0, .int .i64 0, .int .i64 0, .bool false] 36 (0, 0)) := by
            rw [hw7, heap_setCell_other _ _ _ (by show w.heap.size + 1 ≠ w.heap.size; omega), heap_setCell_other _ _ _ (by show w.heap.size + 1 ≠ w.heap.size; omega), heap_setCell_other _ _ _ (by show w.heap.size + 1 ≠ w.heap.size; omega)]
            exact HRs4.out
          have HOw := hide (ownC (.slice a4 Z.length c4) Z w7 (hO7.facts (by omega)))
          have HO7 := hide hO7
          have HR7 := hide hr7
          have HS7 := hide hs7
          have HW7 := hide hw7
          clear HEnd HNx2 HG HGN eK eD hO7 hr7 hs7 hw7 HO3' HO4
          go_wp2_with fail
          rw [← HW7.out]
          refine HOw.out.mono ?_
          rintro e w8 ⟨v8, rfl, hO8, hL8⟩
          obtain ⟨a8, c8, rfl⟩ := hO8.slice
          clear b0 b1 b2 b3 b4 q0 q1 q2 q3 q4 g0 g1 g2 g3 g4 f0 f1 f2 f3 f4
          have hr8 : w8.heap[w.heap.size]? = some (.cells #[.slice a4 Z.length c4, .slice da D.length dc, .int .i64 (lev + 1), .int .i64 rn, .bool false] 36 (0, 0)) := by rw [hL8.block (by omega)]; exact HR7.out
          have hs8 : w8.heap[w.heap.size + 1]? = some (.cells #[.slice none 0 0, .slice none 0 0, .int .i64 0, .int .i64 0, .bool false] 36 (0, 0)) := by rw [hL8.block (by omega)]; exact HS7.out
          have hz8 := hL8.size
          obtain ⟨w9, hw9⟩ : ∃ w9, w9 = w8.setCell ⟨w.heap.size, 1, none⟩ (.slice a8 Z.length c8) := ⟨_, rfl⟩
          have hr9 : w9.heap[w.heap.size]? = some (.cells #[.slice a4 Z.length c4, .slice a8 Z.length c8, .int .i64 (lev + 1), .int .i64 rn, .bool false] 36 (0, 0)) := by rw [hw9, set_at (j := 1) hr8 _]; rfl
          have hs9 : w9.heap[w.heap.size + 1]? = some (.cells #[.slice none 0 0, .slice none 0 0, .int .i64 0, .int .i64 0, .bool false] 36 (0, 0)) := by rw [hw9, heap_setCell_other _ _ _ (by show w.heap.size + 1 ≠ w.heap.size; omega)]; exact hs8
          have HB9 : Hid (Below w.heap.size w w9) := by show Below _ _ _; rw [hw9]; exact Below.put (below_trans HB7.out hL8.below HB7.out.size) (Nat.le_refl _)
          have HO49 : Hid (OwnF w9 (w.heap.size + 2) (.slice a4 Z.length c4) Z) := by show OwnF _ _ _ _; rw [hw9]; exact (HO7.out.later hL8).put (by omega)
          have HO89 : Hid (OwnF w9 (w.heap.size + 2) (.slice a8 Z.length c8) Z) := by show OwnF _ _ _ _; rw [hw9]; exact (hO8.base (by omega)).put (by omega)
          have hz9 : w9.heap.size = w8.heap.size := by rw [hw9, size_setCell]
          have HR9 := hide hr9
          have HS9 := hide hs9
          have HW9 := hide hw9
          obtain ⟨b0, b1, b2, b3, b4, ⟨g0, g1, g2, g3, g4⟩, _⟩ := row5 hr8
          have HCn := hide (countC ss (.slice sa ss.length sc) w9.drew (Kind.sl_below HSV.out HB9.out.drew) HSig.out)
          have c29 := (row5 hr9).2.2.1
          clear hO8 hL8 hr8 hs8 hr9 hs9 hw9 HOw HO7 HR7 HS7 HW7 HRb4 HRs4
          go_wp2
          rw [← HW9.out]
          clear b0 b1 b2 b3 b4 g0 g1 g2 g3 g4
          refine wp_region_held_drew (S := fun w' => w'.cell? ⟨w.heap.size, 2, none⟩ = some (.int .i64 (lev + 1)) ∧ Tn w.heap.size w9 w') (by kernel_rfl) ⟨c29, (Tn.refl _ _).drew⟩ (fun hHeld => ?_)
          refine take_at (i := 0) (d := some 48) (v := ?_) rfl rfl (by kernel_rfl) (by kernel_rfl) (by kernel_rfl) (fun _ _ _ h => h) (Or.inl ⟨by rfl, ?_⟩) hHeld ?_
          rotate_left
          · intro w hSw; (try dsimp only at hSw);  go_simp; try with_reducible rfl
          simp only [Act.put, List.setIfInBounds_toArray, List.set_cons_zero, List.set_cons_succ]
          refine take_at (i := 1) (d := some 49) (v := ?_) rfl rfl (by kernel_rfl) (by kernel_rfl) (by kernel_rfl) (fun _ _ _ h => h) (Or.inl ⟨by rfl, ?_⟩) hHeld ?_
          rotate_left
          · intro w hSw; (try dsimp only at hSw); have qq := hSw.1; go_simp; try with_reducible rfl
          simp only [Act.put, List.setIfInBounds_toArray, List.set_cons_zero, List.set_cons_succ]
          refine take_at (i := 2) (d := some 50) (v := ?_) rfl rfl (by kernel_rfl) (by kernel_rfl) (by kernel_rfl) (fun _ _ _ h => h) (Or.inl ⟨by rfl, ?_⟩) hHeld ?_
          rotate_left
          · intro w hSw; (try dsimp only at hSw);  go_simp; try with_reducible rfl
          simp only [Act.put, List.setIfInBounds_toArray, List.set_cons_zero, List.set_cons_succ]
          refine wpAnyH_ready (rs := [3]) (by kernel_rfl) (by simp) ?_
          refine AllReadyH.cons rfl (fun K hK => ?_) AllReadyH.nil
          go_simp
          refine HCn.out.mono ?_
          rintro e w10 ⟨rfl, hL10⟩
          have hL910 : Below w9.heap.size w9 w10 := below_trans (Below.refl _ _).drew hL10.below (Nat.le_refl _)
          have hr10 : w10.heap[w.heap.size]? = some (.cells #[.slice a4 Z.length c4, .slice a8 Z.length c8, .int .i64 (lev + 1), .int .i64 rn, .bool false] 36 (0, 0)) := by rw [hL910.block _ (by omega)]; exact HR9.out
          obtain ⟨b0, b1, b2, b3, b4, ⟨g0, g1, g2, g3, g4⟩, _⟩ := row5 hr10
          refine hK.out _ _ ⟨b2, Tn.of_below hL910⟩ (fun hHeld => ?_)
          clear hK K
          refine take_at (i := 4) (d := some 52) (v := ?_) rfl rfl (by kernel_rfl) (by kernel_rfl) (by kernel_rfl) (fun _ _ _ h => h) (Or.inl ⟨by rfl, ?_⟩) hHeld ?_
          rotate_left
          · intro w hSw; (try dsimp only at hSw);  go_simp; try with_reducible rfl
          simp only [Act.put, List.setIfInBounds_toArray, List.set_cons_zero, List.set_cons_succ]
          refine take_at (i := 5) (d := some 53) (v := ?_) rfl rfl (by kernel_rfl) (by kernel_rfl) (by kernel_rfl) (fun _ _ _ h => h) (Or.inl ⟨by rfl, ?_⟩) hHeld ?_
          rotate_left
          · intro w hSw; (try dsimp only at hSw);  go_simp; try with_reducible rfl
          simp only [Act.put, List.setIfInBounds_toArray, List.set_cons_zero, List.set_cons_succ]
          refine wpAnyH_ready (rs := [6]) (by kernel_rfl) (by simp) ?_
          refine AllReadyH.cons rfl (fun K hK => ?_) AllReadyH.nil
          go_simp
          have hs10 : w10.heap[w.heap.size + 1]? = some (.cells #[.slice none 0 0, .slice none 0 0, .int .i64 0, .int .i64 0, .bool false] 36 (0, 0)) := by rw [hL910.block _ (by omega)]; exact HS9.out
          refine hK.out _ _ ⟨by rw [World.cell?_setCell_other _ _ _ _ (by simp)]; exact b2, Tn.setCell (p := w.heap.size) (Tn.of_below hL910) (x := ⟨w.heap.size, 4, none⟩) (Or.inl rfl) _⟩ (fun hHeld => ?_)
          clear hK K
          refine wpAnyH_done (by kernel_rfl) ?_ _
          have HR12 : Hid (((w10.setCell ⟨w.heap.size, 4, none⟩ (.bool (lev + 1 == ((countP ss : Nat) : Int)))).setCell ⟨w.heap.size, 3, none⟩ (.int .i64 (rn + 1))).heap[w.heap.size + 1]? = some (.cells #[.slice none 0 0, .slice none 0 0, .int .i64 0, .int .i64 0, .bool false] 36 (0, 0))) := by
            show _ = _
            rw [heap_setCell_other _ _ _ (by show w.heap.size + 1 ≠ w.heap.size; omega), heap_setCell_other _ _ _ (by show w.heap.size + 1 ≠ w.heap.size; omega)]
            exact hs10
          obtain ⟨q0, q1, q2, q3, q4, ⟨f0, f1, f2, f3, f4⟩, _⟩ := row5 hs10
          have HB10 : Hid (Below w.heap.size w w10) := below_trans HB9.out hL910 HB9.out.size
          have HO410 : Hid (OwnF w10 (w.heap.size + 2) (.slice a4 Z.length c4) Z) := HO49.out.stay hL910.size fun k hk _ => hL910.block k hk
          have HO810 : Hid (OwnF w10 (w.heap.size + 2) (.slice a8 Z.length c8) Z) := HO89.out.stay hL910.size fun k hk _ => hL910.block k hk
          clear hHeld hL10 hL910 hr10 hs10 HB9 HO49 HO89 HR9 HS9 HW9 HCn c29
          go_wp2
          obtain ⟨r0, r1, r2, r3, r4⟩ := set5 HR12.out (.slice a4 Z.length c4) (.slice a8 Z.length c8) (.int .i64 (lev + 1)) (.int .i64 (rn + 1)) (.bool (lev + 1 == ((countP ss : Nat) : Int)))
          exact bodyPost_ret (v := .tuple #[.agg #[.slice a4 Z.length c4, .slice a8 Z.length c8, .int .i64 (lev + 1), .int .i64 (rn + 1), .bool (lev + 1 == ((countP ss : Nat) : Int))], .int .i64 0]) (by simp [results, Tryz.results24, go_sem, r0, r1, r2, r3, r4]) rfl
            ⟨_, 0, rfl, HT.out _ _ ⟨_, _, rfl, (OwnF.put5 ((HO410.out.put (by omega)).put (by omega)) (by omega)), (OwnF.put5 ((HO810.out.put (by omega)).put (by omega)) (by omega))⟩,
              Below.put5 (Below.put (Below.put HB10.out (Nat.le_refl _)) (Nat.le_refl _)) (Nat.le_succ _)⟩
        · have hd0 : ¬ ((D.length : Int) = 0) := by
            cases D
            · exact absurd rfl hD0
            · simp; omega
          have HT : Hid (∀ w' v', RunO (w.heap.size + 2) w' v' ⟨setF (K ++ D), D, lev, rn + 1, false⟩ → NextT (w.heap.size + 2) w' v' 0 (nextP p ss ⟨K, N, lev, rn, false⟩)) := fun w' v' h => by
            rw [HNx2.out, if_neg (by rw [← eK]; exact hbig), if_neg (by rw [← eD]; exact hD0), ← eK, ← eD]; exact ⟨rfl, h⟩
          have HR5 : Hid ((((w4.setCell ⟨w.heap.size, 0, none⟩ (.slice a4 (setF (K ++ D)).length c4)).setCell ⟨w.heap.size, 1, none⟩ (.slice da D.length dc)).setCell ⟨w.heap.size, 3, none⟩ (.int .i64 (rn + 1))).heap[w.heap.size + 1]? = some (.cells #[.slice none 0 0, .slice none 0 0, .int .i64 0, .int .i64 0, .bool false] 36 (0, 0))) := by
            show _ = _
            rw [heap_setCell_other _ _ _ (by show w.heap.size + 1 ≠ w.heap.size; omega), heap_setCell_other _ _ _ (by show w.heap.size + 1 ≠ w.heap.size; omega), heap_setCell_other _ _ _ (by show w.heap.size + 1 ≠ w.heap.size; omega)]
            exact HRs4.out
          clear HEnd HNx2 HSV HG HGN HSig eK eD
          go_wp2
          obtain ⟨r0, r1, r2, r3, r4⟩ := set5 HR5.out (.slice a4 (setF (K ++ D)).length c4) (.slice da D.length dc) (.int .i64 lev) (.int .i64 (rn + 1)) (.bool false)
          exact bodyPost_ret (v := .tuple #[.agg #[.slice a4 (setF (K ++ D)).length c4, .slice da D.length dc, .int .i64 lev, .int .i64 (rn + 1), .bool false], .int .i64 0]) (by simp [results, Tryz.results24, go_sem, r0, r1, r2, r3, r4]) rfl
            ⟨_, 0, rfl, HT.out _ _ ⟨_, _, rfl, (OwnF.put5 (((HO4.out.put (by omega)).put (by omega)).put (by omega)) (by omega)), (OwnF.put5 (((HO3'.out.put (by omega)).put (by omega)).put (by omega)) (by omega))⟩,
              Below.put5 (Below.put (Below.put (Below.put HB4.out (Nat.le_refl _)) (Nat.le_refl _)) (Nat.le_refl _)) (Nat.le_succ _)⟩

end Go.Proofs.YtalggolacdlnnaaGreatDoor

/- The walk of round's strataFor. -/
namespace Go.Proofs.YtalggolacdlnnaaGreatDoor
open Go.RowKit Go.Sort Go.Maps

/-- What is wrong with a program, or with facts for it. -/
def forE (p : List RuleD) (l : List FactB) : Int := if (strataP p).2.1 ≠ 0 then (strataP p).2.1 else (factsP p l).1

theorem forE_zero {p : List RuleD} {l : List FactB} (h : forE p l = 0) : RightP p ∧ GoodS p l ∧ ∃ τ : Bs → Nat, Sol p τ ∧ strataP p = (p.map fun r => τ r.head.name, 0, (strataP p).2.2) ∧ ∀ r ∈ p, τ r.head.name < 16 := by
  unfold forE at h
  split at h
  · rename_i h1; exact absurd h h1
  · rename_i h1
    have h1 : (strataP p).2.1 = 0 := Classical.byContradiction h1
    obtain ⟨ss, ex, ea, hse⟩ : ∃ ss ex ea, strataP p = (ss, ex, ea) := ⟨_, _, _, rfl⟩
    rw [hse] at h1
    have h1 : ex = 0 := h1
    subst h1
    obtain ⟨hw0, m, hms, hdm, hlm, hsm⟩ := strataP_ok hse
    have hp := rightP_iff.1 hw0
    refine ⟨hp, facts_good h, numOf m, hsm, ?_, fun r hr => ?_⟩
    · rw [hse, hms]; rfl
    · have := lev_small hlm hsm r hr
      have := hp.few
      omega

theorem Kind.sl_far {α : Type} {K : Kind α} {b : Nat} {w w' : World} {v : Value} {l : List α} (h : K.sl (From b) w v l) (k : Below w.heap.size w w') : K.sl (From b) w' v l := Kind.sl_kept h k.size fun i hi _ => k.block i hi

/-- What strataFor tells. -/
def ForT (b : Nat) (w : World) (v : Value) (p : List RuleD) (l : List FactB) : Prop := (∃ a n c, v = .slice a n c) ∧ (forE p l = 0 → intK.sl (From b) w v (strataP p).1)

set_option maxRecDepth 100000 in
set_option maxHeartbeats 4000000 in
theorem strataForC (p : List RuleD) (l : List FactB) (pv fv : Value) (w : World) (hv : ruleK.sl Anyw w pv p) (hf : Facts w fv l) :
    Calls Tryz.prog 16 #[pv, fv] w fun e w' => ∃ v', e = .returned (.tuple #[v', .int .i64 (forE p l)]) ∧ ForT w.heap.size w' v' p l ∧ Below w.heap.size w w' := by
  have HSt := hide (strataC p pv w hv)
  obtain ⟨pa, pc, rfl⟩ := Kind.slice hv
  obtain ⟨fa, fc, rfl⟩ := sliceFacts hf
  have HV := hide hv
  have HF := hide hf
  clear hv hf
  obtain ⟨ss, ex, ea, hse⟩ : ∃ ss ex ea, strataP p = (ss, ex, ea) := ⟨_, _, _, rfl⟩
  rw [hse] at HSt
  have HSE := hide hse
  clear hse
  go_enter Tryz.func16, Tryz.ntmps16
  go_wp2_with fail
  refine HSt.out.mono ?_
  rintro e w1 ⟨u, rfl, hu, hB1⟩
  dsimp only at hu ⊢
  have HU : Hid (intK.sl (From w.heap.size) w1 u ss) := hu
  obtain ⟨ua, uc, rfl⟩ := Kind.slice hu
  have HB1 := hide hB1
  clear hu hB1 HSt
  by_cases h0 : ex = 0
  · subst h0
    obtain ⟨hw0, m, hms, hdm, hlm, hsm⟩ := strataP_ok HSE.out
    have hp := rightP_iff.1 hw0
    obtain ⟨w2, hw2⟩ : ∃ w2, w2 = w1.alloc (.cells #[.int .i64 0, .int .i64 (ea : Nat)] 32) := ⟨_, rfl⟩
    have hL2 : Later w1 w2 := by rw [hw2]; exact (Later.refl _).alloc _
    have hB2 : Below w.heap.size w w2 := below_trans HB1.out hL2.below HB1.out.size
    have HFC := hide (naiveFactsC p hp (.slice pa p.length pc) (.slice fa l.length fc) l w2 (Kind.sl_below HV.out hB2) (HF.out.below hB2))
    obtain ⟨fx, fe, hfe⟩ : ∃ fx fe, factsP p l = (fx, fe) := ⟨_, _, rfl⟩
    rw [hfe] at HFC
    have HFE := hide hfe
    have HB2 := hide hB2
    have HU2 := hide (Kind.sl_far HU.out hL2.below)
    have HW2 := hide hw2
    have HX : Hid (forE p l = fx) := by show _ = _; unfold forE; rw [HSE.out, HFE.out]; simp
    clear hw0 hms hdm hlm hsm hp hL2 hB2 hfe hw2 HB1 HU
    go_wp2_with fail
    rw [← HW2.out]
    refine HFC.out.mono ?_
    rintro e w3 ⟨rfl, hB3⟩
    dsimp only
    have HB3 : Hid (Below w.heap.size w w3) := below_trans HB2.out hB3 HB2.out.size
    have HU3 := hide (Kind.sl_far HU2.out hB3)
    clear hB3 HFC HW2 HB2 HU2
    have HB4 : Hid (Below w.heap.size w (w3.alloc (.cells #[.int .i64 fx, .int .i64 fe] 32))) := below_trans HB3.out ((Later.refl _).alloc _).below HB3.out.size
    by_cases h1 : fx = 0
    · subst h1
      have HT : Hid (ForT w.heap.size (w3.alloc (.cells #[.int .i64 0, .int .i64 fe] 32)) (.slice ua ss.length uc) p l) := ⟨⟨_, _, _, rfl⟩, fun _ => by rw [HSE.out]; exact Kind.sl_far HU3.out ((Later.refl _).alloc _).below⟩
      clear HSE HFE HV HF HU3
      go_wp2
      exact bodyPost_ret (v := .tuple #[.slice ua ss.length uc, .int .i64 0]) (by simp [results, Tryz.results16, go_sem]) rfl ⟨_, by rw [HX.out], HT.out, HB4.out⟩
    · have HT : Hid (∀ w', ForT w.heap.size w' (.slice none 0 0) p l) := fun w' => ⟨⟨_, _, _, rfl⟩, fun h => absurd (HX.out.symm.trans h) h1⟩
      have hne : (fx != 0) = true := by simpa using h1
      clear HSE HFE h1 HV HF HU3
      go_wp2
      go_quiet (fail)
      go_wp2
      exact bodyPost_ret (v := .tuple #[.slice none 0 0, .int .i64 fx]) (by simp [results, Tryz.results16, go_sem]) rfl ⟨_, by rw [HX.out], HT.out _, below_drewN HB4.out _⟩
  · have HX : Hid (forE p l = ex) := by show _ = _; unfold forE; rw [HSE.out]; simp [h0]
    have HT : Hid (∀ w', ForT w.heap.size w' (.slice none 0 0) p l) := fun w' => ⟨⟨_, _, _, rfl⟩, fun h => absurd (HX.out.symm.trans h) h0⟩
    have hne : (ex != 0) = true := by simpa using h0
    have HB4 : Hid (Below w.heap.size w (w1.alloc (.cells #[.int .i64 ex, .int .i64 (ea : Nat)] 32))) := below_trans HB1.out ((Later.refl _).alloc _).below HB1.out.size
    clear HSE h0 HV HF HU
    go_wp2
    go_quiet (fail)
    go_wp2
    exact bodyPost_ret (v := .tuple #[.slice none 0 0, .int .i64 ex]) (by simp [results, Tryz.results16, go_sem]) rfl ⟨_, by rw [HX.out], HT.out _, below_drewN HB4.out _⟩

end Go.Proofs.YtalggolacdlnnaaGreatDoor

/- The walks of round's within and owned (written by mkrv.py). -/
namespace Go.Proofs.YtalggolacdlnnaaGreatDoor
open Go.RowKit Go.Sort Go.Maps

set_option maxHeartbeats 400000 in
theorem withinC (n m : Int) (w : World) : Calls Tryz.prog 22 #[.int .i64 n, .int .i64 m] w fun e w' => e = .returned (.bool (decide (0 ≤ n) && decide (n ≤ m))) ∧ w' = w := by
  by_cases h : 0 ≤ n
  · have e : (decide (0 ≤ n) && decide (n ≤ m)) = decide (n ≤ m) := by simp [h]
    rw [e]
    clear e
    go_enter Tryz.func22, Tryz.ntmps22
    go_wp2
    go_ret
    exact ⟨rfl, rfl⟩
  · have e : (decide (0 ≤ n) && decide (n ≤ m)) = false := by simp [h]
    rw [e]
    clear e
    have h' : decide (0 ≤ n) = false := by simp [h]
    go_enter Tryz.func22, Tryz.ntmps22
    go_wp2
    go_ret
    exact ⟨rfl, rfl⟩

set_option maxRecDepth 100000 in
set_option maxHeartbeats 4000000 in
theorem ownedC (r : RunD) (kv nv : Value) (w : World) (hk : Facts w kv r.known) (hn : Facts w nv r.fresh) :
    Calls Tryz.prog 23 #[.agg #[kv, nv, .int .i64 r.level, .int .i64 r.rounds, .bool r.done]] w fun e w' => ∃ v', e = .returned v' ∧ RunO (w.heap.size + 2) w' v' r ∧ Below w.heap.size w w' := by
  obtain ⟨K, N, lev, rn, dn⟩ := r
  dsimp only at *
  obtain ⟨ka, kc, rfl⟩ := sliceFacts hk
  obtain ⟨na, nc, rfl⟩ := sliceFacts hn
  have hkl := hk.1
  have hnl := hn.1
  obtain ⟨w2, hw2⟩ : ∃ w2, w2 = (w.alloc (.cells #[.slice ka K.length kc, .slice na N.length nc, .int .i64 lev, .int .i64 rn, .bool dn] 36)).alloc (.cells #[.slice none 0 0, .slice none 0 0, .int .i64 0, .int .i64 0, .bool false] 36) := ⟨_, rfl⟩
  have hL2 : Later w w2 := by rw [hw2]; exact ((Later.refl w).alloc _).alloc _
  have hz2 : w2.heap.size = w.heap.size + 2 := by rw [hw2]; simp
  have hrb : w2.heap[w.heap.size]? = some (.cells #[.slice ka K.length kc, .slice na N.length nc, .int .i64 lev, .int .i64 rn, .bool dn] 36 (0, 0)) := by
    rw [hw2, Below.heap_alloc _ _ _ (by simp)]; exact heap_alloc_new w _
  have hrs : w2.heap[w.heap.size + 1]? = some (.cells #[.slice none 0 0, .slice none 0 0, .int .i64 0, .int .i64 0, .bool false] 36 (0, 0)) := by
    have := heap_alloc_new (w.alloc (.cells #[.slice ka K.length kc, .slice na N.length nc, .int .i64 lev, .int .i64 rn, .bool dn] 36)) (.cells #[.slice none 0 0, .slice none 0 0, .int .i64 0, .int .i64 0, .bool false] 36)
    rw [hw2]; simpa using this
  have HRow : Hid (∀ w', Below w2.heap.size w2 w' → w'.heap[w.heap.size]? = some (.cells #[.slice ka K.length kc, .slice na N.length nc, .int .i64 lev, .int .i64 rn, .bool dn] 36 (0, 0))) := fun w' h => (h.block _ (by omega)).trans hrb
  have HRs : Hid (∀ w', Below w2.heap.size w2 w' → w'.heap[w.heap.size + 1]? = some (.cells #[.slice none 0 0, .slice none 0 0, .int .i64 0, .int .i64 0, .bool false] 36 (0, 0))) := fun w' h => (h.block _ (by omega)).trans hrs
  have HC : Hid (∀ w', Below w2.heap.size w2 w' → w'.cell? ⟨w.heap.size, 0, none⟩ = some (.slice ka K.length kc) ∧ w'.cell? ⟨w.heap.size, 1, none⟩ = some (.slice na N.length nc)) := fun w' h => ⟨(row5 (HRow.out _ h)).1, (row5 (HRow.out _ h)).2.1⟩
  have HO0 : Hid (∀ w', Below w2.heap.size w2 w' → Calls Tryz.prog 17 #[.slice ka K.length kc] w' fun e w'' => ∃ v', e = .returned v' ∧ OwnF w'' (w.heap.size + 2) v' K ∧ Below w2.heap.size w2 w'') := fun w' h =>
    (ownC (.slice ka K.length kc) K w' ((hk.later hL2).below h)).mono fun e w'' ⟨v', he, hO, hL⟩ => ⟨v', he, hO.base (by have := h.size; omega), below_trans h hL.below h.size⟩
  have HO1 : Hid (∀ w', Below w2.heap.size w2 w' → Calls Tryz.prog 17 #[.slice na N.length nc] w' fun e w'' => ∃ v', e = .returned v' ∧ OwnF w'' (w.heap.size + 2) v' N ∧ Below w2.heap.size w2 w'' ∧ ∀ b v l, OwnF w' b v l → OwnF w'' b v l) := fun w' h =>
    (ownC (.slice na N.length nc) N w' ((hn.later hL2).below h)).mono fun e w'' ⟨v', he, hO, hL⟩ => ⟨v', he, hO.base (by have := h.size; omega), below_trans h hL.below h.size, fun b v l hh => hh.later hL⟩
  have HL2 := hide hL2
  have HW2 := hide hw2
  clear hk hn hL2 hrb hrs hw2
  go_enter Tryz.func23, Tryz.ntmps23
  go_wp2
  rw [← HW2.out]
  have hBe : Below w2.heap.size w2 w2.drew := (Below.refl _ _).drew
  clear HW2
  refine wp_region_held_drew (S := fun w' => Tn w.heap.size w2 w') (by kernel_rfl) (Tn.of_below hBe) (fun hHeld => ?_)
  refine take_at (i := 0) (d := some 3) (v := ?_) rfl rfl (by kernel_rfl) (by kernel_rfl) (by kernel_rfl) (fun _ _ _ h => h) (Or.inl ⟨by rfl, ?_⟩) hHeld ?_
  rotate_left
  · intro w hSw; (try dsimp only at hSw);  go_simp; try with_reducible rfl
  simp only [Act.put, List.setIfInBounds_toArray, List.set_cons_zero, List.set_cons_succ]
  refine take_at (i := 3) (d := some 6) (v := ?_) rfl rfl (by kernel_rfl) (by kernel_rfl) (by kernel_rfl) (fun _ _ _ h => h) (Or.inl ⟨by rfl, ?_⟩) hHeld ?_
  rotate_left
  · intro w hSw; (try dsimp only at hSw);  go_simp; try with_reducible rfl
  simp only [Act.put, List.setIfInBounds_toArray, List.set_cons_zero, List.set_cons_succ]
  refine wpAnyH_ready (rs := [1, 4]) (by kernel_rfl) (by simp) ?_
  refine AllReadyH.cons rfl (fun K' hK => ?_) (AllReadyH.cons rfl (fun K' hK => ?_) AllReadyH.nil)
  · have q0 := (HC.out _ hBe).1
    go_simp
    refine hK.out _ _ hHeld (fun hHeld => ?_)
    clear hK K' q0
    refine wpAnyH_ready (rs := [2, 4]) (by kernel_rfl) (by simp) ?_
    refine AllReadyH.cons rfl (fun K' hK => ?_) (AllReadyH.cons rfl (fun K' hK => ?_) AllReadyH.nil)
    · go_simp
      refine (HO0.out _ hBe).mono ?_
      rintro e wx ⟨v1, rfl, hO1, hB1⟩
      obtain ⟨a1, c1, rfl⟩ := hO1.slice
      refine hK.out _ _ (Tn.of_below hB1) (fun hHeld => ?_)
      clear hK K' hBe
      have hBe := hB1
      refine wpAnyH_ready (rs := [4]) (by kernel_rfl) (by simp) ?_
      refine AllReadyH.cons rfl (fun K' hK => ?_) AllReadyH.nil
      have q0 := (HC.out _ hBe).2
      go_simp
      refine hK.out _ _ hHeld (fun hHeld => ?_)
      clear hK K' q0
      refine take_at (i := 6) (d := some 9) (v := ?_) rfl rfl (by kernel_rfl) (by kernel_rfl) (by kernel_rfl) (fun _ _ _ h => h) (Or.inl ⟨by rfl, ?_⟩) hHeld ?_
      rotate_left
      · intro w hSw; (try dsimp only at hSw);  go_simp; try with_reducible rfl
      simp only [Act.put, List.setIfInBounds_toArray, List.set_cons_zero, List.set_cons_succ]
      refine wpAnyH_ready (rs := [5]) (by kernel_rfl) (by simp) ?_
      refine AllReadyH.cons rfl (fun K' hK => ?_) AllReadyH.nil
      go_simp
      refine (HO1.out _ hBe).mono ?_
      rintro e wy ⟨v2, rfl, hO2, hB2, hst⟩
      obtain ⟨a2, c2, rfl⟩ := hO2.slice
      refine hK.out _ _ (Tn.of_below hB2) (fun hHeld => ?_)
      clear hK K'
      have hO12 := hst _ _ _ hO1
      clear hst hO1 hBe hB1
      refine wpAnyH_ready (rs := [7]) (by kernel_rfl) (by simp) ?_
      refine AllReadyH.cons rfl (fun K' hK => ?_) AllReadyH.nil
      obtain ⟨b0, b1, b2, b3, b4, ⟨g0, g1, g2, g3, g4⟩, _⟩ := row5 (HRow.out _ hB2)
      obtain ⟨q0, q1, q2, q3, q4, ⟨f0, f1, f2, f3, f4⟩, _⟩ := row5 (HRs.out _ hB2)
      go_simp
      refine hK.out _ _ (Tn.setCell (p := w.heap.size) (Tn.of_below hB2) (x := ⟨w.heap.size, 0, none⟩) (Or.inl rfl) _) (fun hHeld => ?_)
      clear hK K'
      refine take_at (i := 8) (d := some 10) (v := ?_) rfl rfl (by kernel_rfl) (by kernel_rfl) (by kernel_rfl) (fun _ _ _ h => h) (Or.inl ⟨by rfl, ?_⟩) hHeld ?_
      rotate_left
      · intro w hSw; (try dsimp only at hSw);  go_simp; try with_reducible rfl
      simp only [Act.put, List.setIfInBounds_toArray, List.set_cons_zero, List.set_cons_succ]
      refine wpAnyH_ready (rs := [9]) (by kernel_rfl) (by simp) ?_
      refine AllReadyH.cons rfl (fun K' hK => ?_) AllReadyH.nil
      go_simp
      refine hK.out _ _ (Tn.setCell (p := w.heap.size) (Tn.setCell (p := w.heap.size) (Tn.of_below hB2) (x := ⟨w.heap.size, 0, none⟩) (Or.inl rfl) _) (x := ⟨w.heap.size, 1, none⟩) (Or.inl rfl) _) (fun hHeld => ?_)
      clear hK K' hHeld
      refine wpAnyH_done (by kernel_rfl) ?_ _
      have HR5 : Hid (((wy.setCell ⟨w.heap.size, 0, none⟩ (.slice a1 K.length c1)).setCell ⟨w.heap.size, 1, none⟩ (.slice a2 N.length c2)).heap[w.heap.size + 1]? = some (.cells #[.slice none 0 0, .slice none 0 0, .int .i64 0, .int .i64 0, .bool false] 36 (0, 0))) := by
        show _ = _
        rw [heap_setCell_other _ _ _ (by show w.heap.size + 1 ≠ w.heap.size; omega), heap_setCell_other _ _ _ (by show w.heap.size + 1 ≠ w.heap.size; omega)]
        exact HRs.out _ hB2
      have HBy : Hid (Below w.heap.size w wy) := below_trans HL2.out.below hB2 (by omega)
      have HOk := hide hO12
      have HOn := hide hO2
      clear hO12 hO2 hB2
      go_wp2
      obtain ⟨r0, r1, r2, r3, r4⟩ := set5 HR5.out (.slice a1 K.length c1) (.slice a2 N.length c2) (.int .i64 lev) (.int .i64 rn) (.bool dn)
      exact bodyPost_ret (v := .agg #[.slice a1 K.length c1, .slice a2 N.length c2, .int .i64 lev, .int .i64 rn, .bool dn]) (by simp [results, Tryz.results23, go_sem, r0, r1, r2, r3, r4]) rfl
        ⟨_, rfl, ⟨_, _, rfl, OwnF.put5 ((HOk.out.put (by omega)).put (by omega)) (by omega), OwnF.put5 ((HOn.out.put (by omega)).put (by omega)) (by omega)⟩, Below.put5 (Below.put (Below.put HBy.out (Nat.le_refl _)) (Nat.le_refl _)) (Nat.le_succ _)⟩
    · have q0 := (HC.out _ hBe).2
      go_simp
      refine hK.out _ _ hHeld (fun hHeld => ?_)
      clear hK K' q0
      refine wpAnyH_ready (rs := [2]) (by kernel_rfl) (by simp) ?_
      refine AllReadyH.cons rfl (fun K' hK => ?_) AllReadyH.nil
      go_simp
      refine (HO0.out _ hBe).mono ?_
      rintro e wx ⟨v1, rfl, hO1, hB1⟩
      obtain ⟨a1, c1, rfl⟩ := hO1.slice
      refine hK.out _ _ (Tn.of_below hB1) (fun hHeld => ?_)
      clear hK K' hBe
      have hBe := hB1
      refine take_at (i := 6) (d := some 9) (v := ?_) rfl rfl (by kernel_rfl) (by kernel_rfl) (by kernel_rfl) (fun _ _ _ h => h) (Or.inl ⟨by rfl, ?_⟩) hHeld ?_
      rotate_left
      · intro w hSw; (try dsimp only at hSw);  go_simp; try with_reducible rfl
      simp only [Act.put, List.setIfInBounds_toArray, List.set_cons_zero, List.set_cons_succ]
      refine wpAnyH_ready (rs := [5]) (by kernel_rfl) (by simp) ?_
      refine AllReadyH.cons rfl (fun K' hK => ?_) AllReadyH.nil
      go_simp
      refine (HO1.out _ hBe).mono ?_
      rintro e wy ⟨v2, rfl, hO2, hB2, hst⟩
      obtain ⟨a2, c2, rfl⟩ := hO2.slice
      refine hK.out _ _ (Tn.of_below hB2) (fun hHeld => ?_)
      clear hK K'
      have hO12 := hst _ _ _ hO1
      clear hst hO1 hBe hB1
      refine wpAnyH_ready (rs := [7]) (by kernel_rfl) (by simp) ?_
      refine AllReadyH.cons rfl (fun K' hK => ?_) AllReadyH.nil
      obtain ⟨b0, b1, b2, b3, b4, ⟨g0, g1, g2, g3, g4⟩, _⟩ := row5 (HRow.out _ hB2)
      obtain ⟨q0, q1, q2, q3, q4, ⟨f0, f1, f2, f3, f4⟩, _⟩ := row5 (HRs.out _ hB2)
      go_simp
      refine hK.out _ _ (Tn.setCell (p := w.heap.size) (Tn.of_below hB2) (x := ⟨w.heap.size, 0, none⟩) (Or.inl rfl) _) (fun hHeld => ?_)
      clear hK K'
      refine take_at (i := 8) (d := some 10) (v := ?_) rfl rfl (by kernel_rfl) (by kernel_rfl) (by kernel_rfl) (fun _ _ _ h => h) (Or.inl ⟨by rfl, ?_⟩) hHeld ?_
      rotate_left
      · intro w hSw; (try dsimp only at hSw);  go_simp; try with_reducible rfl
      simp only [Act.put, List.setIfInBounds_toArray, List.set_cons_zero, List.set_cons_succ]
      refine wpAnyH_ready (rs := [9]) (by kernel_rfl) (by simp) ?_
      refine AllReadyH.cons rfl (fun K' hK => ?_) AllReadyH.nil
      go_simp
      refine hK.out _ _ (Tn.setCell (p := w.heap.size) (Tn.setCell (p := w.heap.size) (Tn.of_below hB2) (x := ⟨w.heap.size, 0, none⟩) (Or.inl rfl) _) (x := ⟨w.heap.size, 1, none⟩) (Or.inl rfl) _) (fun hHeld => ?_)
      clear hK K' hHeld
      refine wpAnyH_done (by kernel_rfl) ?_ _
      have HR5 : Hid (((wy.setCell ⟨w.heap.size, 0, none⟩ (.slice a1 K.length c1)).setCell ⟨w.heap.size, 1, none⟩ (.slice a2 N.length c2)).heap[w.heap.size + 1]? = some (.cells #[.slice none 0 0, .slice none 0 0, .int .i64 0, .int .i64 0, .bool false] 36 (0, 0))) := by
        show _ = _
        rw [heap_setCell_other _ _ _ (by show w.heap.size + 1 ≠ w.heap.size; omega), heap_setCell_other _ _ _ (by show w.heap.size + 1 ≠ w.heap.size; omega)]
        exact HRs.out _ hB2
      have HBy : Hid (Below w.heap.size w wy) := below_trans HL2.out.below hB2 (by omega)
      have HOk := hide hO12
      have HOn := hide hO2
      clear hO12 hO2 hB2
      go_wp2
      obtain ⟨r0, r1, r2, r3, r4⟩ := set5 HR5.out (.slice a1 K.length c1) (.slice a2 N.length c2) (.int .i64 lev) (.int .i64 rn) (.bool dn)
      exact bodyPost_ret (v := .agg #[.slice a1 K.length c1, .slice a2 N.length c2, .int .i64 lev, .int .i64 rn, .bool dn]) (by simp [results, Tryz.results23, go_sem, r0, r1, r2, r3, r4]) rfl
        ⟨_, rfl, ⟨_, _, rfl, OwnF.put5 ((HOk.out.put (by omega)).put (by omega)) (by omega), OwnF.put5 ((HOn.out.put (by omega)).put (by omega)) (by omega)⟩, Below.put5 (Below.put (Below.put HBy.out (Nat.le_refl _)) (Nat.le_refl _)) (Nat.le_succ _)⟩
  · have q0 := (HC.out _ hBe).2
    go_simp
    refine hK.out _ _ hHeld (fun hHeld => ?_)
    clear hK K' q0
    refine wpAnyH_ready (rs := [1]) (by kernel_rfl) (by simp) ?_
    refine AllReadyH.cons rfl (fun K' hK => ?_) AllReadyH.nil
    have q0 := (HC.out _ hBe).1
    go_simp
    refine hK.out _ _ hHeld (fun hHeld => ?_)
    clear hK K' q0
    refine wpAnyH_ready (rs := [2]) (by kernel_rfl) (by simp) ?_
    refine AllReadyH.cons rfl (fun K' hK => ?_) AllReadyH.nil
    go_simp
    refine (HO0.out _ hBe).mono ?_
    rintro e wx ⟨v1, rfl, hO1, hB1⟩
    obtain ⟨a1, c1, rfl⟩ := hO1.slice
    refine hK.out _ _ (Tn.of_below hB1) (fun hHeld => ?_)
    clear hK K' hBe
    have hBe := hB1
    refine take_at (i := 6) (d := some 9) (v := ?_) rfl rfl (by kernel_rfl) (by kernel_rfl) (by kernel_rfl) (fun _ _ _ h => h) (Or.inl ⟨by rfl, ?_⟩) hHeld ?_
    rotate_left
    · intro w hSw; (try dsimp only at hSw);  go_simp; try with_reducible rfl
    simp only [Act.put, List.setIfInBounds_toArray, List.set_cons_zero, List.set_cons_succ]
    refine wpAnyH_ready (rs := [5]) (by kernel_rfl) (by simp) ?_
    refine AllReadyH.cons rfl (fun K' hK => ?_) AllReadyH.nil
    go_simp
    refine (HO1.out _ hBe).mono ?_
    rintro e wy ⟨v2, rfl, hO2, hB2, hst⟩
    obtain ⟨a2, c2, rfl⟩ := hO2.slice
    refine hK.out _ _ (Tn.of_below hB2) (fun hHeld => ?_)
    clear hK K'
    have hO12 := hst _ _ _ hO1
    clear hst hO1 hBe hB1
    refine wpAnyH_ready (rs := [7]) (by kernel_rfl) (by simp) ?_
    refine AllReadyH.cons rfl (fun K' hK => ?_) AllReadyH.nil
    obtain ⟨b0, b1, b2, b3, b4, ⟨g0, g1, g2, g3, g4⟩, _⟩ := row5 (HRow.out _ hB2)
    obtain ⟨q0, q1, q2, q3, q4, ⟨f0, f1, f2, f3, f4⟩, _⟩ := row5 (HRs.out _ hB2)
    go_simp
    refine hK.out _ _ (Tn.setCell (p := w.heap.size) (Tn.of_below hB2) (x := ⟨w.heap.size, 0, none⟩) (Or.inl rfl) _) (fun hHeld => ?_)
    clear hK K'
    refine take_at (i := 8) (d := some 10) (v := ?_) rfl rfl (by kernel_rfl) (by kernel_rfl) (by kernel_rfl) (fun _ _ _ h => h) (Or.inl ⟨by rfl, ?_⟩) hHeld ?_
    rotate_left
    · intro w hSw; (try dsimp only at hSw);  go_simp; try with_reducible rfl
    simp only [Act.put, List.setIfInBounds_toArray, List.set_cons_zero, List.set_cons_succ]
    refine wpAnyH_ready (rs := [9]) (by kernel_rfl) (by simp) ?_
    refine AllReadyH.cons rfl (fun K' hK => ?_) AllReadyH.nil
    go_simp
    refine hK.out _ _ (Tn.setCell (p := w.heap.size) (Tn.setCell (p := w.heap.size) (Tn.of_below hB2) (x := ⟨w.heap.size, 0, none⟩) (Or.inl rfl) _) (x := ⟨w.heap.size, 1, none⟩) (Or.inl rfl) _) (fun hHeld => ?_)
    clear hK K' hHeld
    refine wpAnyH_done (by kernel_rfl) ?_ _
    have HR5 : Hid (((wy.setCell ⟨w.heap.size, 0, none⟩ (.slice a1 K.length c1)).setCell ⟨w.heap.size, 1, none⟩ (.slice a2 N.length c2)).heap[w.heap.size + 1]? = some (.cells #[.slice none 0 0, .slice none 0 0, .int .i64 0, .int .i64 0, .bool false] 36 (0, 0))) := by
      show _ = _
      rw [heap_setCell_other _ _ _ (by show w.heap.size + 1 ≠ w.heap.size; omega), heap_setCell_other _ _ _ (by show w.heap.size + 1 ≠ w.heap.size; omega)]
      exact HRs.out _ hB2
    have HBy : Hid (Below w.heap.size w wy) := below_trans HL2.out.below hB2 (by omega)
    have HOk := hide hO12
    have HOn := hide hO2
    clear hO12 hO2 hB2
    go_wp2
    obtain ⟨r0, r1, r2, r3, r4⟩ := set5 HR5.out (.slice a1 K.length c1) (.slice a2 N.length c2) (.int .i64 lev) (.int .i64 rn) (.bool dn)
    exact bodyPost_ret (v := .agg #[.slice a1 K.length c1, .slice a2 N.length c2, .int .i64 lev, .int .i64 rn, .bool dn]) (by simp [results, Tryz.results23, go_sem, r0, r1, r2, r3, r4]) rfl
      ⟨_, rfl, ⟨_, _, rfl, OwnF.put5 ((HOk.out.put (by omega)).put (by omega)) (by omega), OwnF.put5 ((HOn.out.put (by omega)).put (by omega)) (by omega)⟩, Below.put5 (Below.put (Below.put HBy.out (Nat.le_refl _)) (Nat.le_refl _)) (Nat.le_succ _)⟩

end Go.Proofs.YtalggolacdlnnaaGreatDoor

/- The walks of round's strataOf and Wrong. -/
namespace Go.Proofs.YtalggolacdlnnaaGreatDoor
open Go.RowKit Go.Sort Go.Maps

/-- Numbers that may stand in a run. -/
def okN (c : Nat) (r : RunD) : Bool := (decide (0 ≤ r.rounds) && decide (r.rounds ≤ 1000)) && ((decide (0 ≤ r.level) && decide (r.level ≤ c)) && !(r.done != (r.level == (c : Int))))

/-- What is wrong with a run. -/
def wrongRunP (p : List RuleD) (r : RunD) : Int := if forE p r.known ≠ 0 then forE p r.known else if (setFault r.fresh).1 ≠ 0 then (setFault r.fresh).1 else
  if okN (countP (strataP p).1) r = false then 3 else if (r.fresh.filter fun f => !inB r.known f) ≠ [] then 8 else 0

theorem wrongRun_zero {p : List RuleD} {r : RunD} (h : wrongRunP p r = 0) : forE p r.known = 0 ∧ RightN p (countP (strataP p).1) r := by
  unfold wrongRunP at h
  split at h
  · rename_i h1; exact absurd h h1
  · rename_i h1
    have h1 := Classical.byContradiction h1
    split at h
    · rename_i h2; exact absurd h h2
    · rename_i h2
      have h2 := Classical.byContradiction h2
      split at h
      · simp at h
      · rename_i h3
        split at h
        · simp at h
        · rename_i h4
          obtain ⟨hp, hg, _⟩ := forE_zero h1
          have h3 : okN (countP (strataP p).1) r = true := by simpa using h3
          unfold okN at h3
          simp only [Bool.and_eq_true, decide_eq_true_eq, Bool.not_eq_true', bne_eq_false_iff_eq] at h3
          obtain ⟨⟨a1, a2⟩, ⟨a3, a4⟩, a5⟩ := h3
          have h4 := Classical.byContradiction h4
          refine ⟨h1, hg, (set_right h2).2.1, fun f hf => Classical.byContradiction fun hn => ?_, ⟨a3, a4⟩, ⟨a1, a2⟩, a5⟩
          have hm : f ∈ r.fresh.filter fun f => !inB r.known f := List.mem_filter.2 ⟨hf, by
            cases e : inB r.known f
            · rfl
            · exact absurd (inB_iff.1 e) hn⟩
          rw [h4] at hm
          cases hm

theorem wrongRun_right {p : List RuleD} {r : RunD} (h : forE p r.known = 0) (hr : RightN p (countP (strataP p).1) r) : wrongRunP p r = 0 := by
  unfold wrongRunP
  rw [if_neg (by rw [h]; simp), if_neg (by rw [fault_right hr.up (fun f hf => hr.good.right f (hr.sub f hf)) (Nat.le_trans (up_le hr.up hr.sub) hr.good.few)]; simp)]
  have h3 : okN (countP (strataP p).1) r = true := by
    unfold okN
    simp only [Bool.and_eq_true, decide_eq_true_eq, Bool.not_eq_true', bne_eq_false_iff_eq]
    exact ⟨⟨hr.rnd.1, hr.rnd.2⟩, ⟨hr.lev.1, hr.lev.2⟩, hr.done⟩
  rw [if_neg (by simp [h3]), if_neg]
  intro hn
  refine hn (List.eq_nil_iff_forall_not_mem.2 fun f hf => ?_)
  obtain ⟨h1, h2⟩ := List.mem_filter.1 hf
  rw [inB_iff.2 (hr.sub f h1)] at h2
  cases h2

/-- What strataOf tells. -/
def OfT (b : Nat) (w : World) (v : Value) (p : List RuleD) (r : RunD) : Prop := (∃ a n c, v = .slice a n c) ∧ (wrongRunP p r = 0 → intK.sl (From b) w v (strataP p).1)

set_option maxRecDepth 100000 in
set_option maxHeartbeats 4000000 in
theorem strataOfC (p : List RuleD) (r : RunD) (pv kv nv : Value) (w : World) (hv : ruleK.sl Anyw w pv p) (hk : Facts w kv r.known) (hn : Facts w nv r.fresh) :
    Calls Tryz.prog 21 #[pv, .agg #[kv, nv, .int .i64 r.level, .int .i64 r.rounds, .bool r.done]] w fun e w' => ∃ v', e = .returned (.tuple #[v', .int .i64 (wrongRunP p r)]) ∧ OfT w.heap.size w' v' p r ∧ Below w.heap.size w w' := by
  obtain ⟨K, N, lev, rn, dn⟩ := r
  dsimp only at *
  obtain ⟨pa, pc, rfl⟩ := Kind.slice hv
  obtain ⟨ka, kc, rfl⟩ := sliceFacts hk
  obtain ⟨na, nc, rfl⟩ := sliceFacts hn
  obtain ⟨wb, hwb⟩ : ∃ wb, wb = w.alloc (.cells #[.slice ka K.length kc, .slice na N.length nc, .int .i64 lev, .int .i64 rn, .bool dn] 36) := ⟨_, rfl⟩
  have hLb : Later w wb := by rw [hwb]; exact (Later.refl w).alloc _
  have hzb : wb.heap.size = w.heap.size + 1 := by rw [hwb]; simp
  have hrb : wb.heap[w.heap.size]? = some (.cells #[.slice ka K.length kc, .slice na N.length nc, .int .i64 lev, .int .i64 rn, .bool dn] 36 (0, 0)) := by rw [hwb]; exact heap_alloc_new w _
  have HRow : Hid (∀ w', Below wb.heap.size wb w' → w'.heap[w.heap.size]? = some (.cells #[.slice ka K.length kc, .slice na N.length nc, .int .i64 lev, .int .i64 rn, .bool dn] 36 (0, 0))) := fun w' h => (h.block _ (by omega)).trans hrb
  have HFo := hide (strataForC p K (.slice pa p.length pc) (.slice ka K.length kc) wb (Kind.sl_later hv hLb) (hk.later hLb))
  have HK := hide (hk.later hLb)
  have HN := hide (hn.later hLb)
  have HLb := hide hLb
  have HWb := hide hwb
  have HX : Hid (wrongRunP p ⟨K, N, lev, rn, dn⟩ = if forE p K ≠ 0 then forE p K else if (setFault N).1 ≠ 0 then (setFault N).1 else if okN (countP (strataP p).1) ⟨K, N, lev, rn, dn⟩ = false then 3 else if (N.filter fun f => !inB K f) ≠ [] then 8 else 0) := (rfl : _ = _)
  have HGo : Hid (forE p K = 0 → GoodS p K ∧ ∀ s ∈ (strataP p).1, s < 1000) := fun h => by
    obtain ⟨_, hg, τ, _, hs, ht⟩ := forE_zero h
    refine ⟨hg, fun s hs' => ?_⟩
    rw [hs] at hs'
    obtain ⟨q, hq, rfl⟩ := List.mem_map.1 hs'
    have := ht q hq
    omega
  unfold OfT
  unfold ForT at HFo
  generalize wrongRunP p ⟨K, N, lev, rn, dn⟩ = R at *
  generalize forE p K = fo at *
  generalize (strataP p).1 = ss at *
  clear hv hk hn hLb hrb hwb
  go_enter Tryz.func21, Tryz.ntmps21
  go_wp2_with fail
  rw [← HWb.out]
  refine HFo.out.mono ?_
  rintro e w1 ⟨v1, rfl, ⟨⟨a1, n1, c1, rfl⟩, hs1⟩, hB1⟩
  have HB1 : Hid (Below wb.heap.size wb w1) := hB1
  have HS1 := hide hs1
  clear hB1 hs1 HFo HWb
  by_cases h0 : fo = 0
  · subst h0
    obtain ⟨hg, hsm⟩ := HGo.out rfl
    have HU := hide hg.up
    have hKf := hg.few
    have HSm := hide hsm
    have HV1 := hide (HS1.out rfl)
    have hn1 : n1 = ss.length := by obtain ⟨_, _, e⟩ := Kind.slice HV1.out; simp only [Value.slice.injEq] at e; exact e.2.1
    subst hn1
    have HSet := hide (setC (.slice na N.length nc) N w1 (HN.out.below HB1.out))
    obtain ⟨sx, sy, hse⟩ : ∃ sx sy, setFault N = (sx, sy) := ⟨_, _, rfl⟩
    rw [hse] at HSet
    have HX1 : Hid (R = if sx ≠ 0 then sx else if okN (countP ss) ⟨K, N, lev, rn, dn⟩ = false then 3 else if (N.filter fun f => !inB K f) ≠ [] then 8 else 0) := by show _ = _; rw [HX.out, hse]; simp
    obtain ⟨b0, b1, b2, b3, b4, _, _⟩ := row5 (HRow.out _ HB1.out)
    clear hse HX hg hsm HGo HS1
    go_wp2_with fail
    refine HSet.out.mono ?_
    rintro e w2 ⟨rfl, hL2⟩
    dsimp only
    have HB2 : Hid (Below wb.heap.size wb w2) := below_trans HB1.out hL2.below HB1.out.size
    have HV2 := hide (Kind.sl_far HV1.out hL2.below)
    clear hL2 HSet b0 b1 b2 b3 b4 HB1 HV1
    obtain ⟨w3, hw3⟩ : ∃ w3, w3 = w2.alloc (.cells #[.int .i64 sx, .int .i64 sy] 32) := ⟨_, rfl⟩
    have hL3 : Later w2 w3 := by rw [hw3]; exact (Later.refl _).alloc _
    have HB3 : Hid (Below wb.heap.size wb w3) := below_trans HB2.out hL3.below HB2.out.size
    have HV3 := hide (Kind.sl_far HV2.out hL3.below)
    have HW3 := hide hw3
    by_cases h1 : sx = 0
    · subst h1
      have HX2 : Hid (R = if okN (countP ss) ⟨K, N, lev, rn, dn⟩ = false then 3 else if (N.filter fun f => !inB K f) ≠ [] then 8 else 0) := by show _ = _; rw [HX1.out]; simp
      have HCn := hide (countC ss (.slice a1 ss.length c1) w3 (Kind.sl_any HV3.out) HSm.out)
      clear hw3 hL3 HX1 HB2 HV2
      go_wp2_with fail
      rw [← HW3.out]
      refine HCn.out.mono ?_
      rintro e w4 ⟨rfl, hL4⟩
      have HB4 : Hid (Below wb.heap.size wb w4) := below_trans HB3.out hL4.below HB3.out.size
      have HV4 := hide (Kind.sl_far HV3.out hL4.below)
      have hcs : countP ss ≤ 1000 := countP_le HSm.out
      clear hL4 HCn HW3 HB3 HV3
      obtain ⟨b0, b1, b2, b3, b4, _, _⟩ := row5 (HRow.out _ HB4.out)
      have HW1 := hide (withinC rn 1000 w4)
      have HW2 := hide (withinC lev (countP ss : Nat) w4)
      unfold okN at HX2
      dsimp only at HX2
      generalize (decide (0 ≤ rn) && decide (rn ≤ 1000)) = A at *
      generalize (decide (0 ≤ lev) && decide (lev ≤ ((countP ss : Nat) : Int))) = B at *
      generalize hC : (dn != (lev == ((countP ss : Nat) : Int))) = C at *
      have hC2 : (!(dn == (lev == ((countP ss : Nat) : Int)))) = C := hC
      clear hC
      have HBw : Hid (Below w.heap.size w w4) := below_trans HLb.out.below HB4.out (by omega)
      cases A with
      | false =>
        have HX3 : Hid (R = 3) := by show _ = _; rw [HX2.out]; rfl
        go_wp2_with fail
        refine HW1.out.mono ?_
        rintro e w5 ⟨rfl, h5⟩
        obtain rfl : w4 = w5 := h5.symm
        clear h5
        go_wp2
        exact bodyPost_ret (v := .tuple #[.slice none 0 0, .int .i64 3]) (by simp [results, Tryz.results21, go_sem]) rfl ⟨_, by rw [HX3.out], ⟨⟨_, _, _, rfl⟩, fun h => by rw [HX3.out] at h; simp at h⟩, HBw.out⟩
      | true =>
        cases B with
        | false =>
          have HX3 : Hid (R = 3) := by show _ = _; rw [HX2.out]; rfl
          go_wp2_with fail
          refine HW1.out.mono ?_
          rintro e w5 ⟨rfl, h5⟩
          obtain rfl : w4 = w5 := h5.symm
          clear h5
          go_wp2_with fail
          refine HW2.out.mono ?_
          rintro e w6 ⟨rfl, h6⟩
          obtain rfl : w4 = w6 := h6.symm
          clear h6
          go_wp2
          exact bodyPost_ret (v := .tuple #[.slice none 0 0, .int .i64 3]) (by simp [results, Tryz.results21, go_sem]) rfl ⟨_, by rw [HX3.out], ⟨⟨_, _, _, rfl⟩, fun h => by rw [HX3.out] at h; simp at h⟩, HBw.out⟩
        | true =>
          cases C with
          | true =>
            have HX3 : Hid (R = 3) := by show _ = _; rw [HX2.out]; rfl
            go_wp2_with fail
            refine HW1.out.mono ?_
            rintro e w5 ⟨rfl, h5⟩
            obtain rfl : w4 = w5 := h5.symm
            clear h5
            go_wp2_with fail
            refine HW2.out.mono ?_
            rintro e w6 ⟨rfl, h6⟩
            obtain rfl : w4 = w6 := h6.symm
            clear h6
            go_wp2
            exact bodyPost_ret (v := .tuple #[.slice none 0 0, .int .i64 3]) (by simp [results, Tryz.results21, go_sem]) rfl ⟨_, by rw [HX3.out], ⟨⟨_, _, _, rfl⟩, fun h => by rw [HX3.out] at h; simp at h⟩, HBw.out⟩
          | false =>
            have HX4 : Hid (R = if (N.filter fun f => !inB K f) ≠ [] then 8 else 0) := by show _ = _; rw [HX2.out]; rfl
            have HLs := hide (lessC (.slice na N.length nc) (.slice ka K.length kc) N K w4 (HN.out.below HB4.out) (HK.out.below HB4.out) HU.out)
            rw [filter_in] at HLs
            have hFl := List.length_filter_le (fun f => !inB K f) N
            have hNl := HN.out.1
            generalize (N.filter fun f => !inB K f) = F at *
            clear HX2
            go_wp2_with fail
            refine HW1.out.mono ?_
            rintro e w5 ⟨rfl, h5⟩
            obtain rfl : w4 = w5 := h5.symm
            clear h5
            go_wp2_with fail
            refine HW2.out.mono ?_
            rintro e w6 ⟨rfl, h6⟩
            obtain rfl : w4 = w6 := h6.symm
            clear h6
            go_wp2_with fail
            refine HLs.out.mono ?_
            rintro e w7 ⟨v7, rfl, hO7, hL7⟩
            obtain ⟨a7, c7, rfl⟩ := hO7.slice
            have HB7 : Hid (Below w.heap.size w w7) := below_trans HBw.out hL7.below HBw.out.size
            have HV7 := hide (Kind.sl_far HV4.out hL7.below)
            clear hO7 hL7 HLs HW1 HW2
            cases F with
            | nil =>
              have HX3 : Hid (R = 0) := by show _ = _; rw [HX4.out]; rfl
              go_wp2
              exact bodyPost_ret (v := .tuple #[.slice a1 ss.length c1, .int .i64 0]) (by simp [results, Tryz.results21, go_sem]) rfl ⟨_, by rw [HX3.out], ⟨⟨_, _, _, rfl⟩, fun _ => Kind.sl_mono HV7.out fun k _ h => Nat.le_trans (by omega) h⟩, HB7.out⟩
            | cons f F =>
              have HX3 : Hid (R = 8) := by show _ = _; rw [HX4.out]; rfl
              have hpos : (0 : Int) < (((f :: F).length : Nat) : Int) := by simp
              go_wp2
              exact bodyPost_ret (v := .tuple #[.slice none 0 0, .int .i64 8]) (by simp [results, Tryz.results21, go_sem]) rfl ⟨_, by rw [HX3.out], ⟨⟨_, _, _, rfl⟩, fun h => by rw [HX3.out] at h; simp at h⟩, HB7.out⟩
    · have HX3 : Hid (R = sx) := by show _ = _; rw [HX1.out, if_pos h1]
      have hne : (sx != 0) = true := by simpa using h1
      have HH : Hid (R ≠ 0) := by show _ ≠ _; rw [HX3.out]; exact h1
      have HB3w : Hid (Below w.heap.size w w3) := below_trans HLb.out.below HB3.out (by omega)
      rw [hw3] at HB3w
      clear hw3 hL3 HX1 HB2 HV2 HW3 HB3 HV3 h1
      go_wp2
      go_quiet (fail)
      go_wp2
      exact bodyPost_ret (v := .tuple #[.slice none 0 0, .int .i64 sx]) (by simp [results, Tryz.results21, go_sem]) rfl ⟨_, by rw [HX3.out], ⟨⟨_, _, _, rfl⟩, fun h => absurd h HH.out⟩, belowN HB3w.out _⟩
  · have HX3 : Hid (R = fo) := by show _ = _; rw [HX.out, if_pos h0]
    have hne : (fo != 0) = true := by simpa using h0
    have HH : Hid (R ≠ 0) := by show _ ≠ _; rw [HX3.out]; exact h0
    have HB1w : Hid (Below w.heap.size w w1) := below_trans HLb.out.below HB1.out (by omega)
    clear HX HGo HS1 HB1 h0
    go_wp2
    exact bodyPost_ret (v := .tuple #[.slice none 0 0, .int .i64 fo]) (by simp [results, Tryz.results21, go_sem]) rfl ⟨_, by rw [HX3.out], ⟨⟨_, _, _, rfl⟩, fun h => absurd h HH.out⟩, HB1w.out⟩

end Go.Proofs.YtalggolacdlnnaaGreatDoor
