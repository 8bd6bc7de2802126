/- The walk of SyntaxJoined. -/
import Derived.Test.YtflldbpjhcgkbaaMany
namespace Go.Proofs.Ytflldbpjhcgkbaa
open Go.RowKit Go.Sort

/-- Between. -/
abbrev Btw (lo hi : Nat) : Nat → Prop := fun k => lo ≤ k ∧ k < hi
theorem Kind.sl_btw {α : Type} {K : Kind α} {lo : Nat} {w : World} {v : Value} {l : List α} (h : K.sl (From lo) w v l) : K.sl (Btw lo w.heap.size) w v l := Kind.sl_mono h fun _ hk hB => ⟨hB, hk⟩

theorem appendsRule {lo : Nat} {w : World} {v : Value} {l m : List RuleD} {a : Option Addr} {cap : Nat} (h : ruleK.own 56 lo w v l) (hs : ruleK.sl (fun k => lo ≤ k ∧ v.ownBlock ≠ some k) w (.slice a m.length cap) m) (hl : l.length + m.length ≤ 1099511627776) (hlo : lo ≤ w.heap.size) :
    ∃ v' w', (Builtin.append_ #[43, 43] 43 #[v, .slice a m.length cap]).run Try.prog w = .ok v' w' ∧ ruleK.own 56 lo w' v' (l ++ m) ∧ w.grownBy w' v.ownBlock ∧ ∀ k, v'.ownBlock = some k → v.ownBlock = some k ∨ w.heap.size ≤ k := by
  obtain ⟨i, i1, i2, i3, i4⟩ := infoRule
  exact Kind.own_appends h Try.underlying43 i1 i2 i3 i4 rfl (by decide) (by decide) hs hl hlo rfl

set_option maxRecDepth 100000 in
set_option maxHeartbeats 1000000 in
theorem joinedW (s t : ByteArray) (w : World) (m : Int) (hm : w.cell? ⟨0, 0, none⟩ = some (.int .i64 m)) :
    Calls Try.prog 8 #[.string s, .string t] w fun e w' => e = .returned (.bool true) ∧ Below w.heap.size w w' := by
  have h0 : 0 < w.heap.size := World.block_lt_of_cell? w _ hm
  have HL := hide (alive2 w m hm)
  go_enter Try.func8, Try.ntmps8
  go_wp2_with fail
  refine HL.out.mono ?_
  rintro e w1 ⟨rfl, hB1⟩
  have hs1 := hB1.size
  have HP := hide (parseC s w1 m (by rw [World.cell?_of_block (w := w) (a := ⟨0, 0, none⟩) (hB1.block 0 h0)]; exact hm))
  obtain ⟨⟨p, n1, k1⟩, hy1⟩ : ∃ y, toldRule (raw s) = y := ⟨_, rfl⟩
  rw [hy1] at HP
  dsimp only at HP
  have HB1 := hide hB1
  clear hB1 HL
  go_wp2_with fail
  refine HP.out.mono ?_
  rintro e w2 ⟨v1, rfl, hV1, hB2⟩
  obtain ⟨a1, c1, rfl⟩ := Kind.slice hV1
  have hs2 := hB2.size
  have hA2 := ((Later.refl w2).alloc (.cells #[.int .i64 n1, .int .i64 k1] 30)).below
  have hrow := heap_alloc_new w2 (.cells #[.int .i64 n1, .int .i64 k1] 30)
  have hz2 : (w2.alloc (.cells #[.int .i64 n1, .int .i64 k1] 30)).heap.size = w2.heap.size + 1 := by simp
  have hW2 := below_trans (below_trans HB1.out hB2 hs1) hA2 (by omega)
  have HQ := hide (parseC t (w2.alloc (.cells #[.int .i64 n1, .int .i64 k1] 30)) m (by rw [World.cell?_of_block (w := w) (a := ⟨0, 0, none⟩) (hW2.block 0 h0)]; exact hm))
  obtain ⟨⟨q, n2, k2⟩, hy2⟩ : ∃ y, toldRule (raw t) = y := ⟨_, rfl⟩
  rw [hy2] at HQ
  dsimp only at HQ
  have HV1 := hide (Kind.sl_btw hV1)
  clear hB2 HP hV1
  go_wp2_with fail
  refine HQ.out.mono ?_
  rintro e w3 ⟨v2, rfl, hV2, hB3⟩
  obtain ⟨a2, c2, rfl⟩ := Kind.slice hV2
  have hs3 := hB3.size
  have hA3 := ((Later.refl w3).alloc (.cells #[.int .i64 n2, .int .i64 k2] 30)).below
  have hz3 : (w3.alloc (.cells #[.int .i64 n2, .int .i64 k2] 30)).heap.size = w3.heap.size + 1 := by simp
  have hW3 := below_trans (below_trans hW2 hB3 (by omega)) hA3 (by omega)
  have hrow3 : (w3.alloc (.cells #[.int .i64 n2, .int .i64 k2] 30)).heap[w2.heap.size]? = some (.cells #[.int .i64 n1, .int .i64 k1] 30 (0, 0)) := by
    rw [hA3.block _ (by omega), hB3.block _ (by omega)]; exact hrow
  have z0 : (w3.alloc (.cells #[.int .i64 n2, .int .i64 k2] 30)).cell? ⟨w2.heap.size, 0, none⟩ = some (.int .i64 n1) := by rw [cell_of_row _ _ _ _ _ _ hrow3]; rfl
  have z1 : (w3.alloc (.cells #[.int .i64 n2, .int .i64 k2] 30)).cell? ⟨w2.heap.size, 1, none⟩ = some (.int .i64 k1) := by rw [cell_of_row _ _ _ _ _ _ hrow3]; rfl
  have HV2 := hide (Kind.sl_btw hV2)
  have HW3 := hide hW3
  have hlp := HV1.out.1.1
  have hlq := HV2.out.1.1
  by_cases hn1 : n1 = 0
  · subst hn1
    by_cases hn2 : n2 = 0
    · subst hn2
      obtain ⟨hls, r1, hr1⟩ := told_ok hy1
      obtain ⟨hlt, r2, hr2⟩ := told_ok hy2
      rw [length_raw] at hls hlt
      by_cases hpq : p.length + q.length ≤ 16
      · by_cases hst : s.size + t.size < 3000
        · have hj := joined hr1 hr2 hpq
          obtain ⟨x1, hx1⟩ : ∃ x : ByteArray, x = s ++ { data := #[10] } := ⟨_, rfl⟩
          obtain ⟨x2, hx2⟩ : ∃ x : ByteArray, x = x1 ++ t := ⟨_, rfl⟩
          have hraw : raw x2 = raw s ++ 10 :: raw t := by
            rw [hx2, hx1, ← bs_raw s, ← bs_raw t]
            show raw (bs (raw s) ++ bs [10] ++ bs (raw t)) = _
            rw [bs_append, bs_append, raw_bs, raw_bs, raw_bs]; simp
          have hz1 : x1.size = s.size + 1 := by rw [hx1, ← bs_raw s]; show (bs (raw s) ++ bs [10]).size = _; rw [bs_append, size_bs, size_bs]; simp
          have hz2' : x2.size = s.size + 1 + t.size := by rw [← length_raw, hraw, List.length_append, List.length_cons, length_raw, length_raw]; omega
          have htold : toldRule (raw x2) = (p ++ q, 0, 0) := told_of (by rw [length_raw]; omega) (by rw [hraw]; exact hj)
          have HR := hide (parseC x2 (w3.alloc (.cells #[.int .i64 0, .int .i64 k2] 30)) m (by rw [World.cell?_of_block (w := w) (a := ⟨0, 0, none⟩) (hW3.block 0 h0)]; exact hm))
          rw [htold] at HR
          dsimp only at HR
          have hst' : ¬ (3000 : Int) ≤ (s.size : Int) + t.size := by omega
          have hpq' : ¬ (16 : Int) < (p.length : Int) + q.length := by omega
          have k1' : s ++ ({ data := #[10] } : ByteArray) = x1 := hx1.symm
          have k2' : x1 ++ t = x2 := hx2.symm
          have hB23 : Below (w2.heap.size + 1) (w2.alloc (.cells #[.int .i64 0, .int .i64 k1] 30)) (w3.alloc (.cells #[.int .i64 0, .int .i64 k2] 30)) := below_trans (by rw [← hz2]; exact hB3) hA3 (by omega)
          have HV1' : Hid (ruleK.sl (Btw w1.heap.size w2.heap.size) (w3.alloc (.cells #[.int .i64 0, .int .i64 k2] 30)) (.slice a1 p.length c1) p) :=
            Kind.sl_kept HV1.out (by omega) fun k hk _ => (hB23.block k (by omega)).trans (hA2.block k hk)
          have HV2' : Hid (ruleK.sl (Btw (w2.heap.size + 1) w3.heap.size) (w3.alloc (.cells #[.int .i64 0, .int .i64 k2] 30)) (.slice a2 q.length c2) q) := by
            have := HV2.out
            rw [hz2] at this
            exact Kind.sl_kept this (by omega) fun k hk _ => hA3.block k hk
          clear hy1 hy2 hr1 hr2 hm hx1 hx2 hraw htold hj hW2 hW3 hA2 hA3 hB3 hrow hV2 HV1 HV2 HQ hB23
          go_wp2_with fail
          refine HR.out.mono ?_
          rintro e w4 ⟨v3, rfl, hV3, hB4⟩
          obtain ⟨a3, c3, rfl⟩ := Kind.slice hV3
          have hs4 := hB4.size
          have hrow4 : w4.heap[w2.heap.size]? = some (.cells #[.int .i64 0, .int .i64 k1] 30 (0, 0)) := by rw [hB4.block _ (by omega)]; exact hrow3
          have y0 : w4.cell? ⟨w2.heap.size, 0, none⟩ = some (.int .i64 0) := by rw [cell_of_row _ _ _ _ _ _ hrow4]; rfl
          have y1 : w4.cell? ⟨w2.heap.size, 1, none⟩ = some (.int .i64 k1) := by rw [cell_of_row _ _ _ _ _ _ hrow4]; rfl
          have f0 := frozen_row (j := 0) hrow4
          have f1 := frozen_row (j := 1) hrow4
          obtain ⟨w5, hw5⟩ : ∃ x, x = (w4.setCell ⟨w2.heap.size, 0, none⟩ (.int .i64 0)).setCell ⟨w2.heap.size, 1, none⟩ (.int .i64 0) := ⟨_, rfl⟩
          have hT5 : Tn w2.heap.size w4 w5 := by rw [hw5]; exact ((Tn.refl _ w4).moved _ _).moved _ _
          have hz5 : w5.heap.size = w4.heap.size := by rw [hw5, size_setCell, size_setCell]
          have u0 : w5.cell? ⟨w2.heap.size, 0, none⟩ = some (.int .i64 0) := by
            rw [hw5, World.cell?_setCell_other _ _ _ _ (by simp)]; exact World.cell?_setCell_same _ _ _ y0
          have hA6 := (Later.refl w5).alloc (.cells #[] 56)
          have hz6 : (w5.alloc (.cells #[] 56)).heap.size = w5.heap.size + 1 := by simp
          have hO6 : ruleK.own 56 w.heap.size (w5.alloc (.cells #[] 56)) (.slice (some ⟨w5.heap.size, 0, none⟩) 0 0) [] :=
            ⟨[], World.ownsRow_made w5 #[] 0 (by omega) (by simp) (by simp), fun i x h => by simp at h⟩
          have hB46 : ∀ k, k < w4.heap.size → k ≠ w2.heap.size → (w5.alloc (.cells #[] 56)).heap[k]? = w4.heap[k]? := fun k hk hne => (hA6.block (by omega)).trans (hT5.block k hk hne)
          have hP6 : ruleK.sl (fun k => w.heap.size ≤ k ∧ (Value.slice (some ⟨w5.heap.size, 0, none⟩) 0 0).ownBlock ≠ some k) (w5.alloc (.cells #[] 56)) (.slice a1 p.length c1) p :=
            Kind.sl_mono (Kind.sl_kept HV1'.out (by omega) fun k hk hB => (hB46 k (by omega) (by have := hB.2; omega)).trans (hB4.block k hk)) fun k _ hB => ⟨by have := hB.1; omega, by have := hB.2; simp [Value.ownBlock]; omega⟩
          obtain ⟨v7, w7, run7, hO7, hg7, hn7⟩ := appendsRule hO6 hP6 (by simp; omega) (by omega)
          rw [List.nil_append] at hO7
          have hs7 := hg7.size
          have hown7 : ∀ k, v7.ownBlock = some k → w5.heap.size ≤ k := fun k e => (hn7 k e).elim (fun h => by simp [Value.ownBlock] at h; omega) (fun h => by omega)
          have hB67 : ∀ k, k < w5.heap.size → w7.heap[k]? = (w5.alloc (.cells #[] 56)).heap[k]? := fun k hk => hg7.block k (by omega) (fun e => by simp [Value.ownBlock] at e; omega)
          have hQ7 : ruleK.sl (fun k => w.heap.size ≤ k ∧ v7.ownBlock ≠ some k) w7 (.slice a2 q.length c2) q :=
            Kind.sl_mono (Kind.sl_kept HV2'.out (by omega) fun k hk hB => (hB67 k (by omega)).trans ((hB46 k (by omega) (by have := hB.1; omega)).trans (hB4.block k hk))) fun k _ hB => ⟨by have := hB.1; omega, fun e => by have := hown7 k e; have := hB.2; omega⟩
          obtain ⟨v8, w8, run8, hO8, hg8, hn8⟩ := appendsRule hO7 hQ7 (by omega) (by omega)
          have hs8 := hg8.size
          have hB78 : ∀ k, k < w5.heap.size → w8.heap[k]? = w7.heap[k]? := fun k hk => hg8.block k (by omega) (fun e => by have := hown7 k e.symm; omega)
          have hR8 : ruleK.sl Anyw w8 (.slice a3 (p ++ q).length c3) (p ++ q) :=
            Kind.sl_any (Kind.sl_kept (Kind.sl_btw hV3) (by omega) fun k hk hB => (hB78 k (by omega)).trans ((hB67 k (by omega)).trans (hB46 k (by omega) (by have := hB.1; rw [hz3] at this; omega))))
          have HS := hide (sameProgram (p ++ q) (p ++ q) rfl _ v8 w8 hR8 (Kind.sl_any (Kind.own_sl hO8 (by simp; omega))))
          have HW8 : Hid (Below w.heap.size w w8) := by
            show Below _ _ _
            refine ⟨?_, ?_, ?_, by have := HW3.out.size; omega, fun k hk => ?_⟩
            · rw [hg8.os, hg7.os]; exact hT5.os.trans (hB4.os.trans HW3.out.os)
            · rw [hg8.tape, hg7.tape]; exact hT5.tape.trans (hB4.tape.trans HW3.out.tape)
            · rw [hg8.output, hg7.output]; exact hT5.output.trans (hB4.output.trans HW3.out.output)
            · rw [hB78 k (by omega), hB67 k (by omega), hB46 k (by omega) (by omega), hB4.block k (by omega)]; exact HW3.out.block k hk
          obtain ⟨a8, c8, rfl⟩ := Kind.own_slice hO8
          obtain ⟨a7, c7, rfl⟩ := Kind.own_slice hO7
          rw [hz5] at run7
          have R7 := hide run7
          have R8 := hide run8
          have HW5 := hide hw5
          rw [List.length_append] at HS R8
          have hlpq : (p ++ q).length = p.length + q.length := List.length_append
          clear run7 run8 hO7 hO8 hR8 hQ7 hP6 hO6 hg7 hg8 hn7 hn8 hown7 hB78 hB67 hB46 hA6 hT5 hV3 hB4 hrow4 HR hs8 hs7
          rw [hw5] at R7 u0
          clear hw5
          go_wp2_with (first
            | (at_builtin; refine wpList_append_guarded (by rfl) (.tmp 59) (.tmp 60) 43 rfl _ _ _ _ rfl rfl R7.out ?_)
            | (at_builtin; refine wpList_append_guarded (by rfl) (.tmp 61) (.tmp 62) 43 rfl _ _ _ _ rfl rfl R8.out ?_)
            | (go_at_call 30; refine HS.out.mono ?_; rintro e w9 ⟨rfl, hL9⟩; have HL9 := hide hL9; clear hL9))
          go_ret
          exact ⟨rfl, below_trans HW8.out HL9.out.below HW8.out.size⟩
        · have hst' : (3000 : Int) ≤ (s.size : Int) + t.size := by omega
          have hpq' : ¬ (16 : Int) < (p.length : Int) + q.length := by omega
          clear hy1 hy2 hr1 hr2 hm
          go_wp2
          go_ret
          exact ⟨rfl, HW3.out⟩
      · have hpq' : (16 : Int) < (p.length : Int) + q.length := by omega
        clear hy1 hy2 hr1 hr2 hm
        go_wp2
        go_ret
        exact ⟨rfl, HW3.out⟩
    · have hn2' : (n2 == 0) = false := by simpa using hn2
      clear hy1 hy2 hm
      go_wp2
      go_ret
      exact ⟨rfl, HW3.out⟩
  · have hn1' : (n1 == 0) = false := by simpa using hn1
    clear hy1 hy2 hm
    go_wp2
    go_ret
    exact ⟨rfl, HW3.out⟩

end Go.Proofs.Ytflldbpjhcgkbaa
