/- Texts of this claim, one behind the other. -/
import Derived.Test.YtkijmalapjiopaaGreatJ12
import Derived.Test.YtkijmalapjiopaaGreatJ5
import Derived.Test.YtkijmalapjiopaaGreatJ6
/- The walk of the reference's Binds. -/
namespace Go.Proofs.YtkijmalapjiopaaGreat
open Go.RowKit Go.Sort Go.Maps

theorem own_empty {lo : Nat} {w : World} (h : lo ≤ w.heap.size) : bindK.own 34 lo (w.alloc (.cells #[] 34)) (.slice (some ⟨w.heap.size, 0, none⟩) 0 0) [] :=
  ⟨[], ⟨rfl, Or.inr ⟨w.heap.size, 0, #[], rfl, h, heap_alloc_new _ _, by simp, by simp [maxLen], by simp, by rfl⟩⟩, fun i x hi => by simp at hi⟩

theorem Kind.own_later {ty : TypeId} {lo : Nat} {w w' : World} {v : Value} {l : List BindD} (h : bindK.own ty lo w v l) (k : Later w w') : bindK.own ty lo w' v l := Kind.own_kept h k.size fun _ hk _ => k.block hk

theorem box_sl {w : World} {g : Nat} {x y : ByteArray} (h : w.heap[g]? = some (.cells #[.string x, .string y] 34 (0, 0))) : bindK.sl Anyw w (.slice (some ⟨g, 0, none⟩) [(x, y)].length 1) [(x, y)] := by
  refine ⟨⟨by simp, by show _ ≤ _; simp⟩, _, 1, rfl, fun _ => ⟨g, 0, rfl, trivial, (Array.getElem?_eq_some_iff.1 h).1, fun i z hi => ?_⟩⟩
  cases i with
  | succ i => simp at hi
  | zero =>
    simp at hi
    subst hi
    refine ⟨_, rfl, fun j u hu => ?_⟩
    rw [show 0 + 0 * bindK.size + j = j by simp, cell_of_row _ _ _ _ _ _ h]
    simpa using hu

theorem sl_takeB {w : World} {a : Option Addr} {n cap : Nat} {l : List BindD} (h : bindK.sl Anyw w (.slice a n cap) l) (k : Nat) (hk : k ≤ l.length) : bindK.sl Anyw w (.slice a (l.take k).length cap) (l.take k) := by
  obtain ⟨⟨h0, h1⟩, a', cap', e, h2⟩ := h
  simp only [Value.slice.injEq] at e
  obtain ⟨rfl, rfl, rfl⟩ := e
  have hl : (l.take k).length = k := by rw [List.length_take]; omega
  have h1' : l.length ≤ cap := h1
  refine ⟨⟨by omega, by show (l.take k).length ≤ cap; omega⟩, a, cap, rfl, fun hne => ?_⟩
  obtain ⟨b, off, e, hB, hb, hc⟩ := h2 (by intro e; rw [e] at hne; simp at hne)
  refine ⟨b, off, e, hB, hb, fun i x hx => hc i x ?_⟩
  rw [List.getElem?_take] at hx
  split at hx
  · exact hx
  · cases hx

theorem sl_dropB {w : World} {b off n cap : Nat} {l : List BindD} (h : bindK.sl Anyw w (.slice (some ⟨b, off, none⟩) n cap) l) (k : Nat) (hk : k ≤ l.length) : bindK.sl Anyw w (.slice (if cap = k then some ⟨b, off, none⟩ else some ⟨b, off + k * 2, none⟩) (l.drop k).length (cap - k)) (l.drop k) := by
  obtain ⟨h0, a', cap', e, h1⟩ := h
  simp only [Value.slice.injEq] at e
  obtain ⟨rfl, rfl, rfl⟩ := e
  have h02 : l.length ≤ cap := h0.2
  by_cases hkl : k = l.length
  · subst hkl
    rw [List.drop_length]
    exact bindK.sl_nil _ _ _ _
  · rw [if_neg (by omega)]
    obtain ⟨b', off', e, hB, hb, hcl⟩ := h1 (by intro e; rw [e] at hk hkl; simp at hk hkl; omega)
    simp only [Option.some.injEq, Addr.mk.injEq] at e
    obtain ⟨rfl, rfl, _⟩ := e
    have h01 := h0.1
    refine ⟨⟨by rw [List.length_drop]; omega, by show (l.drop k).length ≤ cap - k; rw [List.length_drop]; omega⟩, _, cap - k, rfl, fun _ => ⟨b, _, rfl, hB, hb, fun i y hi => ?_⟩⟩
    rw [List.getElem?_drop] at hi
    obtain ⟨d, d1, d2⟩ := hcl (k + i) y hi
    refine ⟨d, d1, fun j u hu => ?_⟩
    have := d2 j u hu
    rw [show off + (k + i) * bindK.size + j = off + k * 2 + i * bindK.size + j by show off + (k + i) * 2 + j = off + k * 2 + i * 2 + j; omega] at this
    exact this

theorem rangesB {w w' : World} {b r n cnt : Nat} {D : DataW Unit} {left : Lit → Bool} (h : w.ranges Tryz.prog 9 (plainElem Tryz.prog 9) b r n D left cnt) (k : Below w.heap.size w w') : w'.ranges Tryz.prog 9 (plainElem Tryz.prog 9) b r n D left cnt := by
  have h1 := h.owns.lt
  have h2 := h.lt
  obtain ⟨es, clock, since, seen, c0, hb, F, hs, hD, hr, rest⟩ := h
  exact ⟨es, clock, since, seen, c0, (k.block b h1).trans hb, F, hs, hD, (k.block r h2).trans hr, rest⟩

set_option maxRecDepth 100000 in
set_option maxHeartbeats 8000000 in
theorem rBinds (l : List BindD) (b n : Nat) (w : World) (he : EnvM w b n l) (hkn : (keysB l).Nodup) (hn : n ≤ 10000000) :
    Calls Tryz.prog 24 #[.map (some b)] w fun e w' => ∃ v', e = .returned v' ∧ bindK.own 34 (w.heap.size + 1) w' v' (sortB l) ∧ Below w.heap.size w w' := by
  obtain ⟨D0, hown, hD0⟩ := he
  have hsz0 := hown.size_le
  have hbl := hown.lt
  have HOwn := hide hown
  have HD0 := hide hD0
  have HKN := hide hkn
  clear hown hD0 hkn
  have hKs := string_keyed (P := Tryz.prog) Tryz.underlying9
  go_enter Tryz.func24, Tryz.ntmps24
  go_wp2_with (first
    | (at_range; refine wpList_range_own _ rfl _ 32 rfl 9 9 hKs Tryz.underlying32 _ b n _ rfl HOwn.out ?_; intro w0 hrg0 hg0 hs0)
    | go_in)
  try go_frame
  go_loopw [3] (fun s3 wr => ∃ (left : Lit → Bool) (cnt : Nat) (O : List BindD) (oa : Option Addr) (oc : Nat), s3 = .slice oa O.length oc ∧ wr.ranges Tryz.prog 9 (plainElem Tryz.prog 9) b w.heap.size n D0 left cnt ∧ Hid (O.length + cnt ≤ Maps.size D0) ∧
      Hid (bindK.own 34 (w.heap.size + 1) wr (.slice oa O.length oc) O) ∧ Hid (O.Pairwise fun a b => cmpB a b < 0) ∧ Hid (Got D0 left O) ∧ Hid (Below w.heap.size w wr) ∧ w.heap.size < wr.heap.size)
    (fun _ wr => wr.rangeLeft b w.heap.size)
  case atStart =>
    refine ⟨_, _, [], none, 0, rfl, hrg0, by show _ ≤ _; simp, bindK.own_nil _ _ _, List.Pairwise.nil, got_start D0, ((Later.refl w).below).grown hg0 (by omega) (fun j hj => by cases hj), by omega⟩
  case round =>
    clear hrg0 hg0 hs0
    obtain ⟨left, cnt, O, oa, oc, rfl, hrg, HC, HO, HP, HG, HB, hsz⟩ := hrel
    go_wp2_with (first
      | (at_next; refine wpList_next_ranges _ rfl _ rfl 9 hKs (plainElem Tryz.prog 9) encStr Value.string (fun key kl hk => by obtain ⟨x, hx, _⟩ := Maps.keyOf_str Tryz.underlying9 hk; exact ⟨x, hx⟩) (fun v y hv => by obtain ⟨c, rfl, _⟩ := plainElem_string_inv Tryz.underlying9 hv; exact ⟨c, rfl⟩) b w.heap.size n _ _ _ rfl hrg ?_ ?_)
      | go_in)
    · intro hc0 hl0
      subst hc0
      have e := got_end HG.out hl0 HKN.out HP.out HD0.out
      subst e
      go_wp2
      go_ret
      exact ⟨_, rfl, HO.out, HB.out⟩
    · intro x c kl yd yp w4 cnt4 hkey hlk hv hat hrg4 hlt4 hg4 hs4 hen
      obtain ⟨x', ex, rfl, _⟩ := Maps.keyOf_str Tryz.underlying9 hkey
      obtain rfl : x = x' := encStr_inj ex
      clear ex
      obtain ⟨c', ec, ey, _⟩ := plainElem_string_inv Tryz.underlying9 hv
      injection ec with ec
      subst ec
      injection ey with ey _
      subst ey
      have ek : encStr x = .string (bs x) := rfl
      rw [ek] at hen ⊢
      have HLk : Hid (left (.string x) = true) := hlk
      have HAt : Hid (∀ zd, D0.atKey (.string (raw (bs x))) zd = .lit (.string (raw c))) := by rw [raw_bs]; exact hat
      have HRg : Hid (w4.ranges Tryz.prog 9 (plainElem Tryz.prog 9) b w.heap.size n D0 (fun z => left z && !z.sameKey (.string (raw (bs x)))) cnt4) := by rw [raw_bs]; exact hrg4
      have HRo := hide hrg
      have HO4 := hide (Kind.own_kept HO.out (by omega) fun k hk h => hg4.block k hk (fun e => by have := Option.some.inj e; omega))
      have HB4 : Hid (Below w.heap.size w w4) := HB.out.grown hg4 HB.out.size (fun k e => by have := Option.some.inj e; omega)
      have hC := HC.out
      have hOm : O.length ≤ 10000000 := by omega
      have HSl := hide (Kind.sl_any (Kind.own_sl HO4.out (by omega)))
      have hcapo : O.length ≤ oc := HSl.out.1.2
      clear hkey hlk hv hat hrg4 hrg hg4 ek hC
      obtain ⟨kk, hkk⟩ : ∃ kk, kk = bs x := ⟨_, rfl⟩
      have HKK := hide hkk
      rw [← hkk] at hen HAt HRg ⊢
      clear hkk
      go_wp2
      go_loopg [6] O.length (fun g i wr2 => ∃ j : Nat, j + g = O.length ∧ i = .int .i64 j ∧ Hid (∀ t (y : BindD), t < j → O[t]? = some y → Op.bytesLess y.1.toList kk.toList = true) ∧ wr2 = w4)
      case atStart => exact ⟨0, by omega, rfl, fun t y h => absurd h (Nat.not_lt_zero _), rfl⟩
      case round =>
        obtain ⟨j, hj, rfl, HA, hwr2⟩ := hrel
        obtain rfl : w4 = _ := hwr2.symm
        clear hwr2
        have HJ : Hid (j ≤ O.length) := (by omega : j ≤ O.length)
        -- ROUND
        by_cases hlt : j < O.length
        · obtain ⟨y, hy⟩ : ∃ y, O[j]? = some y := ⟨_, List.getElem?_eq_getElem hlt⟩
          obtain ⟨b1, o1, _, rfl, hb1, rfl, hc1⟩ := Kind.sl_at HSl.out hy
          have d0 : w4.cell? ⟨b1, o1 + j * 2, none⟩ = some (.string y.1) := hc1 0 _ rfl
          clear hc1
          have hltz : (j : Int) < (O.length : Int) := by omega
          cases hq : Op.bytesLess y.1.toList kk.toList
          · have HLast : Hid (∀ y' : BindD, O[j]? = some y' → Op.bytesLess y'.1.toList kk.toList = false) := fun y' h => by rw [hy] at h; cases h; exact hq
            obtain ⟨dA, hdA⟩ : ∃ z, (if oc = j then some (⟨b1, o1, none⟩ : Addr) else some ⟨b1, o1 + j * 2, none⟩) = z := ⟨_, rfl⟩
            have FT := hide (sl_takeB HSl.out j (by omega))
            have FD : Hid (bindK.sl Anyw w4 (.slice dA (O.drop j).length (oc - j)) (O.drop j)) := by have h := sl_dropB HSl.out j (by omega); rw [hdA] at h; exact h
            have hTl : (O.take j).length = j := by rw [List.length_take]; omega
            have hDl : (O.drop j).length = O.length - j := List.length_drop
            have hjo : (j : Int) ≤ (O.length : Int) := by omega
            have hjc : (j : Int) ≤ (oc : Int) := by omega
            have HBd4 : Hid (([] : List BindD).length + (O.take j).length ≤ 4398046511104) := by show 0 + (O.take j).length ≤ _; rw [List.length_take]; omega
            have HBd9 : Hid ((O.take j).length + [(kk, c)].length ≤ 4398046511104) := by show (O.take j).length + 1 ≤ _; rw [List.length_take]; omega
            have HBd13 : Hid ((O.take j ++ [(kk, c)]).length + (O.drop j).length ≤ 4398046511104) := by show (O.take j ++ [(kk, c)]).length + (O.drop j).length ≤ _; rw [List.length_append, List.length_take, List.length_drop]; simp only [List.length_cons, List.length_nil]; omega
            have HPn := hide (put_at (n := c) HP.out (got_ne HG.out (by rw [HKK.out, raw_bs]; exact HLk.out)) HJ.out HA.out HLast.out)
            have HGn := hide (got_step (O' := O.take j ++ [(kk, c)] ++ O.drop j) HG.out HAt.out (put_in_perm j))
            go_wp2
            refine wp_region_held_drew (S := fun w' => Below w4.heap.size w4 w') (by kernel_rfl) (Later.refl w4).drew.below (fun hHeld => ?_)
            refine take_yes (i := 1) (d := some 30) (v := ?_) rfl rfl hHeld ?_ ?_; rotate_left; focus intro w hSw; (try dsimp only at hSw);  go_simp; try with_reducible rfl
            simp only [aput, aset, aze, asu]
            refine take_yes (i := 2) (d := some 31) (v := ?_) rfl rfl hHeld ?_ ?_; rotate_left; focus intro w hSw; (try dsimp only at hSw);  go_simp; try with_reducible rfl
            simp only [aput, aset, aze, asu]
            refine take_yes (i := 3) (d := some 32) (v := ?_) rfl rfl hHeld ?_ ?_; rotate_left; focus intro w hSw; (try dsimp only at hSw);  go_simp; try with_reducible rfl
            simp only [aput, aset, aze, asu]
            refine take_yes (i := 5) (d := some 34) (v := ?_) rfl rfl hHeld ?_ ?_; rotate_left; focus intro w hSw; (try dsimp only at hSw);  go_simp; try with_reducible rfl
            simp only [aput, aset, aze, asu]
            refine take_yes (i := 6) (d := some 35) (v := ?_) rfl rfl hHeld ?_ ?_; rotate_left; focus intro w hSw; (try dsimp only at hSw);  go_simp; try with_reducible rfl
            simp only [aput, aset, aze, asu]
            refine take_yes (i := 7) (d := some 36) (v := ?_) rfl rfl hHeld ?_ ?_; rotate_left; focus intro w hSw; (try dsimp only at hSw);  go_simp; try with_reducible rfl
            simp only [aput, aset, aze, asu]
            refine take_yes (i := 10) (d := some 39) (v := ?_) rfl rfl hHeld ?_ ?_; rotate_left; focus intro w hSw; (try dsimp only at hSw);  go_simp; try with_reducible rfl
            simp only [aput, aset, aze, asu]
            refine take_yes (i := 11) (d := some 40) (v := ?_) rfl rfl hHeld ?_ ?_; rotate_left; focus intro w hSw; (try dsimp only at hSw);  go_simp; try with_reducible rfl
            simp only [aput, aset, aze, asu]
            refine take_yes (i := 12) (d := some 41) (v := ?_) rfl rfl hHeld ?_ ?_; rotate_left; focus intro w hSw; (try dsimp only at hSw);  go_simp; try with_reducible rfl
            simp only [aput, aset, aze, asu]
            refine wpAnyH_ready (rs := [0, 8]) (by kernel_rfl) (by simp) ?_
            refine AllReadyH.cons rfl (fun K hK => ?_) (AllReadyH.cons rfl (fun K hK => ?_) AllReadyH.nil)
            · go_simp
              have R0 : bindK.own 34 w4.heap.size (w4.alloc (.cells #[] 34)).drew (.slice (some ⟨w4.heap.size, 0, none⟩) 0 0) [] := Kind.own_later (own_empty (Nat.le_refl _)) (Later.refl _).drew
              have hL1 : Below w4.heap.size w4 (w4.alloc (.cells #[] 34)).drew := ((Later.refl w4).alloc _).drew.below
              refine hK.out _ _ hL1 (fun hHeld => ?_)
              clear hK K
              clear hHeld
              generalize (w4.alloc (.cells #[] 34)).drew = w1 at R0 hL1 ⊢
              have hHeld := hL1
              refine wpAnyH_ready (rs := [4, 8]) (by kernel_rfl) (by simp) ?_
              obtain ⟨v4, wa, run4, R4, hg4a, _, hv4⟩ := appendBinds R0 (Kind.sl_below FT.out hHeld) HBd4.out (by have := hHeld.size; omega)
              rw [hTl] at run4
              rw [List.nil_append] at R4
              have hS4 : Below w4.heap.size w4 wa := hHeld.grown hg4a hHeld.size (fun k e => (Kind.own_lt R0 e).1)
              refine held_append (i := 4) (d := some 33) rfl rfl rfl (.tmp 29) (.tmp 32) 24 24 rfl rfl _ _ _ _ (by simp [Act.eval]) (by simp [Act.eval]) run4 hS4 (fun hHeld => ?_) (AllReadyH.cons rfl (fun K hK => ?_) AllReadyH.nil)
              · simp only [Act.put, List.setIfInBounds_toArray, List.set_cons_zero, List.set_cons_succ]
                clear run4
                refine wpAnyH_ready (rs := [8]) (by kernel_rfl) (by simp) ?_
                refine AllReadyH.cons rfl (fun K hK => ?_) AllReadyH.nil
                go_simp
                have hbx := heap_alloc_new wa (.cells #[.string kk, .string c] 34)
                have R6 := Kind.own_later R4 ((Later.refl wa).alloc (.cells #[.string kk, .string c] 34))
                have hL6 := below_trans hS4 ((Later.refl wa).alloc (.cells #[.string kk, .string c] 34)).below hS4.size
                refine hK.out _ _ hL6 (fun hHeld => ?_)
                clear hK K
                clear hHeld
                generalize wa.heap.size = g6 at hbx ⊢
                generalize wa.alloc (.cells #[.string kk, .string c] 34) = w6 at hbx R6 hL6 ⊢
                have hHeld := hL6
                refine wpAnyH_ready (rs := [9]) (by kernel_rfl) (by simp) ?_
                obtain ⟨v9, w7, run9, R7, hg9, _, hv9⟩ := appendBinds R6 (box_sl hbx) HBd9.out (by have := hHeld.size; omega)
                skip
                have hS9 : Below w4.heap.size w4 w7 := hHeld.grown hg9 hHeld.size (fun k e => (Kind.own_lt R6 e).1)
                refine held_append (i := 9) (d := some 38) rfl rfl rfl (.tmp 33) (.tmp 37) 24 24 rfl rfl _ _ _ _ (by simp [Act.eval]) (by simp [Act.eval]) run9 hS9 (fun hHeld => ?_) AllReadyH.nil
                simp only [Act.put, List.setIfInBounds_toArray, List.set_cons_zero, List.set_cons_succ]
                refine wpAnyH_ready (rs := [13]) (by kernel_rfl) (by simp) ?_
                obtain ⟨v13, w8, run13, R8, hg13, _, hv13⟩ := appendBinds R7 (Kind.sl_below FD.out hHeld) HBd13.out (by have := hHeld.size; omega)
                rw [hDl] at run13
                have hS13 : Below w4.heap.size w4 w8 := hHeld.grown hg13 hHeld.size (fun k e => (Kind.own_lt R7 e).1)
                refine held_append (i := 13) (d := some 42) rfl rfl rfl (.tmp 38) (.tmp 41) 24 24 rfl rfl _ _ _ _ (by simp [Act.eval]) (by simp [Act.eval]) run13 hS13 (fun hHeld => ?_) AllReadyH.nil
                simp only [Act.put, List.setIfInBounds_toArray, List.set_cons_zero, List.set_cons_succ]
                refine take_yes (i := 14) (d := some 3) (v := ?_) rfl rfl hHeld ?_ ?_; rotate_left; focus intro w hSw; (try dsimp only at hSw);  go_simp; try with_reducible rfl
                simp only [aput, aset, aze, asu]
                refine wpAnyH_done (by kernel_rfl) ?_ _
                have HO8 := hide (own_base R8 (lo' := w.heap.size + 1) (by omega))
                have HB8 := hide (below_trans HB4.out hHeld (by omega))
                have HR8 := hide (rangesB HRg.out hHeld)
                obtain ⟨a8, c8, rfl⟩ := Kind.own_slice R8
                have hs8 := hHeld.size
                go_wp2
                go_roundw
                case rel => exact ⟨_, cnt4, _, _, _, rfl, HR8.out, by show _ ≤ _; have := HC.out; simp; omega, HO8, HPn, HGn, HB8, by omega⟩
                case measure => rw [HR8.out.left_eq, HRo.out.left_eq]; exact hlt4
              · clear run4 R4 hS4 hg4a hv4
                go_simp
                have hbx0 := heap_alloc_new w1 (.cells #[.string kk, .string c] 34)
                have R5 := Kind.own_later R0 ((Later.refl w1).alloc (.cells #[.string kk, .string c] 34))
                have hL5 := below_trans hL1 ((Later.refl w1).alloc (.cells #[.string kk, .string c] 34)).below hL1.size
                have hb5 : w1.heap.size < (w1.alloc (.cells #[.string kk, .string c] 34)).heap.size := by simp
                have hr5 := Kind.own_lt R0 (k := w4.heap.size) rfl
                refine hK.out _ _ hL5 (fun hHeld => ?_)
                clear hK K
                clear hHeld
                generalize w1.heap.size = g6 at hbx0 hb5 hr5 ⊢
                generalize w1.alloc (.cells #[.string kk, .string c] 34) = w5 at hbx0 R5 hL5 hb5 ⊢
                have hHeld := hL5
                refine wpAnyH_ready (rs := [4]) (by kernel_rfl) (by simp) ?_
                obtain ⟨v4, w6, run4, R6, hg4, _, hv4⟩ := appendBinds R5 (Kind.sl_below FT.out hHeld) HBd4.out (by have := hHeld.size; omega)
                rw [hTl] at run4
                rw [List.nil_append] at R6
                have hS4 : Below w4.heap.size w4 w6 := hHeld.grown hg4 hHeld.size (fun k e => (Kind.own_lt R5 e).1)
                have hbx := (hg4.block g6 hb5 (fun e => by have : g6 = w4.heap.size := Option.some.inj e; omega)).trans hbx0
                refine held_append (i := 4) (d := some 33) rfl rfl rfl (.tmp 29) (.tmp 32) 24 24 rfl rfl _ _ _ _ (by simp [Act.eval]) (by simp [Act.eval]) run4 hS4 (fun hHeld => ?_) AllReadyH.nil
                simp only [Act.put, List.setIfInBounds_toArray, List.set_cons_zero, List.set_cons_succ]
                refine wpAnyH_ready (rs := [9]) (by kernel_rfl) (by simp) ?_
                obtain ⟨v9, w7, run9, R7, hg9, _, hv9⟩ := appendBinds R6 (box_sl hbx) HBd9.out (by have := hHeld.size; omega)
                skip
                have hS9 : Below w4.heap.size w4 w7 := hHeld.grown hg9 hHeld.size (fun k e => (Kind.own_lt R6 e).1)
                refine held_append (i := 9) (d := some 38) rfl rfl rfl (.tmp 33) (.tmp 37) 24 24 rfl rfl _ _ _ _ (by simp [Act.eval]) (by simp [Act.eval]) run9 hS9 (fun hHeld => ?_) AllReadyH.nil
                simp only [Act.put, List.setIfInBounds_toArray, List.set_cons_zero, List.set_cons_succ]
                refine wpAnyH_ready (rs := [13]) (by kernel_rfl) (by simp) ?_
                obtain ⟨v13, w8, run13, R8, hg13, _, hv13⟩ := appendBinds R7 (Kind.sl_below FD.out hHeld) HBd13.out (by have := hHeld.size; omega)
                rw [hDl] at run13
                have hS13 : Below w4.heap.size w4 w8 := hHeld.grown hg13 hHeld.size (fun k e => (Kind.own_lt R7 e).1)
                refine held_append (i := 13) (d := some 42) rfl rfl rfl (.tmp 38) (.tmp 41) 24 24 rfl rfl _ _ _ _ (by simp [Act.eval]) (by simp [Act.eval]) run13 hS13 (fun hHeld => ?_) AllReadyH.nil
                simp only [Act.put, List.setIfInBounds_toArray, List.set_cons_zero, List.set_cons_succ]
                refine take_yes (i := 14) (d := some 3) (v := ?_) rfl rfl hHeld ?_ ?_; rotate_left; focus intro w hSw; (try dsimp only at hSw);  go_simp; try with_reducible rfl
                simp only [aput, aset, aze, asu]
                refine wpAnyH_done (by kernel_rfl) ?_ _
                have HO8 := hide (own_base R8 (lo' := w.heap.size + 1) (by omega))
                have HB8 := hide (below_trans HB4.out hHeld (by omega))
                have HR8 := hide (rangesB HRg.out hHeld)
                obtain ⟨a8, c8, rfl⟩ := Kind.own_slice R8
                have hs8 := hHeld.size
                go_wp2
                go_roundw
                case rel => exact ⟨_, cnt4, _, _, _, rfl, HR8.out, by show _ ≤ _; have := HC.out; simp; omega, HO8, HPn, HGn, HB8, by omega⟩
                case measure => rw [HR8.out.left_eq, HRo.out.left_eq]; exact hlt4
            · go_simp
              have hbx0 : (w4.alloc (.cells #[.string kk, .string c] 34)).drew.heap[w4.heap.size]? = some (.cells #[.string kk, .string c] 34 (0, 0)) := heap_alloc_new w4 (.cells #[.string kk, .string c] 34)
              have hL3 : Below w4.heap.size w4 (w4.alloc (.cells #[.string kk, .string c] 34)).drew := ((Later.refl w4).alloc _).drew.below
              have hb3 : w4.heap.size < (w4.alloc (.cells #[.string kk, .string c] 34)).drew.heap.size := by simp
              refine hK.out _ _ hL3 (fun hHeld => ?_)
              clear hK K
              clear hHeld
              generalize (w4.alloc (.cells #[.string kk, .string c] 34)).drew = w3 at hbx0 hL3 hb3 ⊢
              have hHeld := hL3
              refine wpAnyH_ready (rs := [0]) (by kernel_rfl) (by simp) ?_
              refine AllReadyH.cons rfl (fun K hK => ?_) AllReadyH.nil
              go_simp
              have R5 := own_empty (w := w3) (lo := w4.heap.size) hL3.size
              have hbx1 : (w3.alloc (.cells #[] 34)).heap[w4.heap.size]? = some (.cells #[.string kk, .string c] 34 (0, 0)) := (((Later.refl w3).alloc (.cells #[] 34)).block hb3).trans hbx0
              have hL5 := below_trans hL3 ((Later.refl w3).alloc (.cells #[] 34)).below hL3.size
              have hb5 : w4.heap.size < (w3.alloc (.cells #[] 34)).heap.size := by simp; omega
              refine hK.out _ _ hL5 (fun hHeld => ?_)
              clear hK K
              clear hHeld
              generalize w3.heap.size = g3 at R5 hb3 ⊢
              generalize w3.alloc (.cells #[] 34) = w5 at hbx1 R5 hL5 hb5 ⊢
              have hHeld := hL5
              refine wpAnyH_ready (rs := [4]) (by kernel_rfl) (by simp) ?_
              obtain ⟨v4, w6, run4, R6, hg4, _, hv4⟩ := appendBinds R5 (Kind.sl_below FT.out hHeld) HBd4.out (by have := hHeld.size; omega)
              rw [hTl] at run4
              rw [List.nil_append] at R6
              have hS4 : Below w4.heap.size w4 w6 := hHeld.grown hg4 hHeld.size (fun k e => (Kind.own_lt R5 e).1)
              have hbx := (hg4.block w4.heap.size hb5 (fun e => by have : w4.heap.size = g3 := Option.some.inj e; omega)).trans hbx1
              refine held_append (i := 4) (d := some 33) rfl rfl rfl (.tmp 29) (.tmp 32) 24 24 rfl rfl _ _ _ _ (by simp [Act.eval]) (by simp [Act.eval]) run4 hS4 (fun hHeld => ?_) AllReadyH.nil
              simp only [Act.put, List.setIfInBounds_toArray, List.set_cons_zero, List.set_cons_succ]
              refine wpAnyH_ready (rs := [9]) (by kernel_rfl) (by simp) ?_
              obtain ⟨v9, w7, run9, R7, hg9, _, hv9⟩ := appendBinds R6 (box_sl hbx) HBd9.out (by have := hHeld.size; omega)
              skip
              have hS9 : Below w4.heap.size w4 w7 := hHeld.grown hg9 hHeld.size (fun k e => (Kind.own_lt R6 e).1)
              refine held_append (i := 9) (d := some 38) rfl rfl rfl (.tmp 33) (.tmp 37) 24 24 rfl rfl _ _ _ _ (by simp [Act.eval]) (by simp [Act.eval]) run9 hS9 (fun hHeld => ?_) AllReadyH.nil
              simp only [Act.put, List.setIfInBounds_toArray, List.set_cons_zero, List.set_cons_succ]
              refine wpAnyH_ready (rs := [13]) (by kernel_rfl) (by simp) ?_
              obtain ⟨v13, w8, run13, R8, hg13, _, hv13⟩ := appendBinds R7 (Kind.sl_below FD.out hHeld) HBd13.out (by have := hHeld.size; omega)
              rw [hDl] at run13
              have hS13 : Below w4.heap.size w4 w8 := hHeld.grown hg13 hHeld.size (fun k e => (Kind.own_lt R7 e).1)
              refine held_append (i := 13) (d := some 42) rfl rfl rfl (.tmp 38) (.tmp 41) 24 24 rfl rfl _ _ _ _ (by simp [Act.eval]) (by simp [Act.eval]) run13 hS13 (fun hHeld => ?_) AllReadyH.nil
              simp only [Act.put, List.setIfInBounds_toArray, List.set_cons_zero, List.set_cons_succ]
              refine take_yes (i := 14) (d := some 3) (v := ?_) rfl rfl hHeld ?_ ?_; rotate_left; focus intro w hSw; (try dsimp only at hSw);  go_simp; try with_reducible rfl
              simp only [aput, aset, aze, asu]
              refine wpAnyH_done (by kernel_rfl) ?_ _
              have HO8 := hide (own_base R8 (lo' := w.heap.size + 1) (by omega))
              have HB8 := hide (below_trans HB4.out hHeld (by omega))
              have HR8 := hide (rangesB HRg.out hHeld)
              obtain ⟨a8, c8, rfl⟩ := Kind.own_slice R8
              have hs8 := hHeld.size
              go_wp2
              go_roundw
              case rel => exact ⟨_, cnt4, _, _, _, rfl, HR8.out, by show _ ≤ _; have := HC.out; simp; omega, HO8, HPn, HGn, HB8, by omega⟩
              case measure => rw [HR8.out.left_eq, HRo.out.left_eq]; exact hlt4
          · have HA' : Hid (∀ t (y' : BindD), t < j + 1 → O[t]? = some y' → Op.bytesLess y'.1.toList kk.toList = true) := fun t y' ht h => by
              by_cases e : t = j
              · subst e; rw [hy] at h; cases h; exact hq
              · exact HA.out t y' (by omega) h
            go_wp2
            go_roundg (O.length - (j + 1))
            case measure => omega
            case rel => exact ⟨j + 1, by omega, by go_num, HA', rfl⟩
        · have hge : ¬ ((j : Int) < (O.length : Int)) := by omega
          have HLast : Hid (∀ y' : BindD, O[j]? = some y' → Op.bytesLess y'.1.toList kk.toList = false) := fun y' h => by rw [List.getElem?_eq_none (by omega)] at h; cases h
          have hTl : (O.take j).length = j := by rw [List.length_take]; omega
          have hDl : (O.drop j).length = O.length - j := List.length_drop
          have hjo : (j : Int) ≤ (O.length : Int) := by omega
          have hjc : (j : Int) ≤ (oc : Int) := by omega
          have HBd4 : Hid (([] : List BindD).length + (O.take j).length ≤ 4398046511104) := by show 0 + (O.take j).length ≤ _; rw [List.length_take]; omega
          have HBd9 : Hid ((O.take j).length + [(kk, c)].length ≤ 4398046511104) := by show (O.take j).length + 1 ≤ _; rw [List.length_take]; omega
          have HBd13 : Hid ((O.take j ++ [(kk, c)]).length + (O.drop j).length ≤ 4398046511104) := by show (O.take j ++ [(kk, c)]).length + (O.drop j).length ≤ _; rw [List.length_append, List.length_take, List.length_drop]; simp only [List.length_cons, List.length_nil]; omega
          have HPn := hide (put_at (n := c) HP.out (got_ne HG.out (by rw [HKK.out, raw_bs]; exact HLk.out)) HJ.out HA.out HLast.out)
          have HGn := hide (got_step (O' := O.take j ++ [(kk, c)] ++ O.drop j) HG.out HAt.out (put_in_perm j))
          cases oa with
          | none =>
            have FT := hide (sl_takeB HSl.out j (by omega))
            have FD : Hid (bindK.sl Anyw w4 (.slice none (O.drop j).length (oc - j)) (O.drop j)) := by
              show bindK.sl _ _ _ _
              rw [List.drop_eq_nil_of_le (by omega)]
              exact bindK.sl_nil _ _ _ _
            go_wp2
            refine wp_region_held_drew (S := fun w' => Below w4.heap.size w4 w') (by kernel_rfl) (Later.refl w4).drew.below (fun hHeld => ?_)
            refine take_yes (i := 1) (d := some 30) (v := ?_) rfl rfl hHeld ?_ ?_; rotate_left; focus intro w hSw; (try dsimp only at hSw);  go_simp; try with_reducible rfl
            simp only [aput, aset, aze, asu]
            refine take_yes (i := 2) (d := some 31) (v := ?_) rfl rfl hHeld ?_ ?_; rotate_left; focus intro w hSw; (try dsimp only at hSw);  go_simp; try with_reducible rfl
            simp only [aput, aset, aze, asu]
            refine take_yes (i := 3) (d := some 32) (v := ?_) rfl rfl hHeld ?_ ?_; rotate_left; focus intro w hSw; (try dsimp only at hSw);  go_simp; try with_reducible rfl
            simp only [aput, aset, aze, asu]
            refine take_yes (i := 5) (d := some 34) (v := ?_) rfl rfl hHeld ?_ ?_; rotate_left; focus intro w hSw; (try dsimp only at hSw);  go_simp; try with_reducible rfl
            simp only [aput, aset, aze, asu]
            refine take_yes (i := 6) (d := some 35) (v := ?_) rfl rfl hHeld ?_ ?_; rotate_left; focus intro w hSw; (try dsimp only at hSw);  go_simp; try with_reducible rfl
            simp only [aput, aset, aze, asu]
            refine take_yes (i := 7) (d := some 36) (v := ?_) rfl rfl hHeld ?_ ?_; rotate_left; focus intro w hSw; (try dsimp only at hSw);  go_simp; try with_reducible rfl
            simp only [aput, aset, aze, asu]
            refine take_yes (i := 10) (d := some 39) (v := ?_) rfl rfl hHeld ?_ ?_; rotate_left; focus intro w hSw; (try dsimp only at hSw);  go_simp; try with_reducible rfl
            simp only [aput, aset, aze, asu]
            refine take_yes (i := 11) (d := some 40) (v := ?_) rfl rfl hHeld ?_ ?_; rotate_left; focus intro w hSw; (try dsimp only at hSw);  go_simp; try with_reducible rfl
            simp only [aput, aset, aze, asu]
            refine take_yes (i := 12) (d := some 41) (v := ?_) rfl rfl hHeld ?_ ?_; rotate_left; focus intro w hSw; (try dsimp only at hSw);  go_simp; try with_reducible rfl
            simp only [aput, aset, aze, asu]
            refine wpAnyH_ready (rs := [0, 8]) (by kernel_rfl) (by simp) ?_
            refine AllReadyH.cons rfl (fun K hK => ?_) (AllReadyH.cons rfl (fun K hK => ?_) AllReadyH.nil)
            · go_simp
              have R0 : bindK.own 34 w4.heap.size (w4.alloc (.cells #[] 34)).drew (.slice (some ⟨w4.heap.size, 0, none⟩) 0 0) [] := Kind.own_later (own_empty (Nat.le_refl _)) (Later.refl _).drew
              have hL1 : Below w4.heap.size w4 (w4.alloc (.cells #[] 34)).drew := ((Later.refl w4).alloc _).drew.below
              refine hK.out _ _ hL1 (fun hHeld => ?_)
              clear hK K
              clear hHeld
              generalize (w4.alloc (.cells #[] 34)).drew = w1 at R0 hL1 ⊢
              have hHeld := hL1
              refine wpAnyH_ready (rs := [4, 8]) (by kernel_rfl) (by simp) ?_
              obtain ⟨v4, wa, run4, R4, hg4a, _, hv4⟩ := appendBinds R0 (Kind.sl_below FT.out hHeld) HBd4.out (by have := hHeld.size; omega)
              rw [hTl] at run4
              rw [List.nil_append] at R4
              have hS4 : Below w4.heap.size w4 wa := hHeld.grown hg4a hHeld.size (fun k e => (Kind.own_lt R0 e).1)
              refine held_append (i := 4) (d := some 33) rfl rfl rfl (.tmp 29) (.tmp 32) 24 24 rfl rfl _ _ _ _ (by simp [Act.eval]) (by simp [Act.eval]) run4 hS4 (fun hHeld => ?_) (AllReadyH.cons rfl (fun K hK => ?_) AllReadyH.nil)
              · simp only [Act.put, List.setIfInBounds_toArray, List.set_cons_zero, List.set_cons_succ]
                clear run4
                refine wpAnyH_ready (rs := [8]) (by kernel_rfl) (by simp) ?_
                refine AllReadyH.cons rfl (fun K hK => ?_) AllReadyH.nil
                go_simp
                have hbx := heap_alloc_new wa (.cells #[.string kk, .string c] 34)
                have R6 := Kind.own_later R4 ((Later.refl wa).alloc (.cells #[.string kk, .string c] 34))
                have hL6 := below_trans hS4 ((Later.refl wa).alloc (.cells #[.string kk, .string c] 34)).below hS4.size
                refine hK.out _ _ hL6 (fun hHeld => ?_)
                clear hK K
                clear hHeld
                generalize wa.heap.size = g6 at hbx ⊢
                generalize wa.alloc (.cells #[.string kk, .string c] 34) = w6 at hbx R6 hL6 ⊢
                have hHeld := hL6
                refine wpAnyH_ready (rs := [9]) (by kernel_rfl) (by simp) ?_
                obtain ⟨v9, w7, run9, R7, hg9, _, hv9⟩ := appendBinds R6 (box_sl hbx) HBd9.out (by have := hHeld.size; omega)
                skip
                have hS9 : Below w4.heap.size w4 w7 := hHeld.grown hg9 hHeld.size (fun k e => (Kind.own_lt R6 e).1)
                refine held_append (i := 9) (d := some 38) rfl rfl rfl (.tmp 33) (.tmp 37) 24 24 rfl rfl _ _ _ _ (by simp [Act.eval]) (by simp [Act.eval]) run9 hS9 (fun hHeld => ?_) AllReadyH.nil
                simp only [Act.put, List.setIfInBounds_toArray, List.set_cons_zero, List.set_cons_succ]
                refine wpAnyH_ready (rs := [13]) (by kernel_rfl) (by simp) ?_
                obtain ⟨v13, w8, run13, R8, hg13, _, hv13⟩ := appendBinds R7 (Kind.sl_below FD.out hHeld) HBd13.out (by have := hHeld.size; omega)
                rw [hDl] at run13
                have hS13 : Below w4.heap.size w4 w8 := hHeld.grown hg13 hHeld.size (fun k e => (Kind.own_lt R7 e).1)
                refine held_append (i := 13) (d := some 42) rfl rfl rfl (.tmp 38) (.tmp 41) 24 24 rfl rfl _ _ _ _ (by simp [Act.eval]) (by simp [Act.eval]) run13 hS13 (fun hHeld => ?_) AllReadyH.nil
                simp only [Act.put, List.setIfInBounds_toArray, List.set_cons_zero, List.set_cons_succ]
                refine take_yes (i := 14) (d := some 3) (v := ?_) rfl rfl hHeld ?_ ?_; rotate_left; focus intro w hSw; (try dsimp only at hSw);  go_simp; try with_reducible rfl
                simp only [aput, aset, aze, asu]
                refine wpAnyH_done (by kernel_rfl) ?_ _
                have HO8 := hide (own_base R8 (lo' := w.heap.size + 1) (by omega))
                have HB8 := hide (below_trans HB4.out hHeld (by omega))
                have HR8 := hide (rangesB HRg.out hHeld)
                obtain ⟨a8, c8, rfl⟩ := Kind.own_slice R8
                have hs8 := hHeld.size
                go_wp2
                go_roundw
                case rel => exact ⟨_, cnt4, _, _, _, rfl, HR8.out, by show _ ≤ _; have := HC.out; simp; omega, HO8, HPn, HGn, HB8, by omega⟩
                case measure => rw [HR8.out.left_eq, HRo.out.left_eq]; exact hlt4
              · clear run4 R4 hS4 hg4a hv4
                go_simp
                have hbx0 := heap_alloc_new w1 (.cells #[.string kk, .string c] 34)
                have R5 := Kind.own_later R0 ((Later.refl w1).alloc (.cells #[.string kk, .string c] 34))
                have hL5 := below_trans hL1 ((Later.refl w1).alloc (.cells #[.string kk, .string c] 34)).below hL1.size
                have hb5 : w1.heap.size < (w1.alloc (.cells #[.string kk, .string c] 34)).heap.size := by simp
                have hr5 := Kind.own_lt R0 (k := w4.heap.size) rfl
                refine hK.out _ _ hL5 (fun hHeld => ?_)
                clear hK K
                clear hHeld
                generalize w1.heap.size = g6 at hbx0 hb5 hr5 ⊢
                generalize w1.alloc (.cells #[.string kk, .string c] 34) = w5 at hbx0 R5 hL5 hb5 ⊢
                have hHeld := hL5
                refine wpAnyH_ready (rs := [4]) (by kernel_rfl) (by simp) ?_
                obtain ⟨v4, w6, run4, R6, hg4, _, hv4⟩ := appendBinds R5 (Kind.sl_below FT.out hHeld) HBd4.out (by have := hHeld.size; omega)
                rw [hTl] at run4
                rw [List.nil_append] at R6
                have hS4 : Below w4.heap.size w4 w6 := hHeld.grown hg4 hHeld.size (fun k e => (Kind.own_lt R5 e).1)
                have hbx := (hg4.block g6 hb5 (fun e => by have : g6 = w4.heap.size := Option.some.inj e; omega)).trans hbx0
                refine held_append (i := 4) (d := some 33) rfl rfl rfl (.tmp 29) (.tmp 32) 24 24 rfl rfl _ _ _ _ (by simp [Act.eval]) (by simp [Act.eval]) run4 hS4 (fun hHeld => ?_) AllReadyH.nil
                simp only [Act.put, List.setIfInBounds_toArray, List.set_cons_zero, List.set_cons_succ]
                refine wpAnyH_ready (rs := [9]) (by kernel_rfl) (by simp) ?_
                obtain ⟨v9, w7, run9, R7, hg9, _, hv9⟩ := appendBinds R6 (box_sl hbx) HBd9.out (by have := hHeld.size; omega)
                skip
                have hS9 : Below w4.heap.size w4 w7 := hHeld.grown hg9 hHeld.size (fun k e => (Kind.own_lt R6 e).1)
                refine held_append (i := 9) (d := some 38) rfl rfl rfl (.tmp 33) (.tmp 37) 24 24 rfl rfl _ _ _ _ (by simp [Act.eval]) (by simp [Act.eval]) run9 hS9 (fun hHeld => ?_) AllReadyH.nil
                simp only [Act.put, List.setIfInBounds_toArray, List.set_cons_zero, List.set_cons_succ]
                refine wpAnyH_ready (rs := [13]) (by kernel_rfl) (by simp) ?_
                obtain ⟨v13, w8, run13, R8, hg13, _, hv13⟩ := appendBinds R7 (Kind.sl_below FD.out hHeld) HBd13.out (by have := hHeld.size; omega)
                rw [hDl] at run13
                have hS13 : Below w4.heap.size w4 w8 := hHeld.grown hg13 hHeld.size (fun k e => (Kind.own_lt R7 e).1)
                refine held_append (i := 13) (d := some 42) rfl rfl rfl (.tmp 38) (.tmp 41) 24 24 rfl rfl _ _ _ _ (by simp [Act.eval]) (by simp [Act.eval]) run13 hS13 (fun hHeld => ?_) AllReadyH.nil
                simp only [Act.put, List.setIfInBounds_toArray, List.set_cons_zero, List.set_cons_succ]
                refine take_yes (i := 14) (d := some 3) (v := ?_) rfl rfl hHeld ?_ ?_; rotate_left; focus intro w hSw; (try dsimp only at hSw);  go_simp; try with_reducible rfl
                simp only [aput, aset, aze, asu]
                refine wpAnyH_done (by kernel_rfl) ?_ _
                have HO8 := hide (own_base R8 (lo' := w.heap.size + 1) (by omega))
                have HB8 := hide (below_trans HB4.out hHeld (by omega))
                have HR8 := hide (rangesB HRg.out hHeld)
                obtain ⟨a8, c8, rfl⟩ := Kind.own_slice R8
                have hs8 := hHeld.size
                go_wp2
                go_roundw
                case rel => exact ⟨_, cnt4, _, _, _, rfl, HR8.out, by show _ ≤ _; have := HC.out; simp; omega, HO8, HPn, HGn, HB8, by omega⟩
                case measure => rw [HR8.out.left_eq, HRo.out.left_eq]; exact hlt4
            · go_simp
              have hbx0 : (w4.alloc (.cells #[.string kk, .string c] 34)).drew.heap[w4.heap.size]? = some (.cells #[.string kk, .string c] 34 (0, 0)) := heap_alloc_new w4 (.cells #[.string kk, .string c] 34)
              have hL3 : Below w4.heap.size w4 (w4.alloc (.cells #[.string kk, .string c] 34)).drew := ((Later.refl w4).alloc _).drew.below
              have hb3 : w4.heap.size < (w4.alloc (.cells #[.string kk, .string c] 34)).drew.heap.size := by simp
              refine hK.out _ _ hL3 (fun hHeld => ?_)
              clear hK K
              clear hHeld
              generalize (w4.alloc (.cells #[.string kk, .string c] 34)).drew = w3 at hbx0 hL3 hb3 ⊢
              have hHeld := hL3
              refine wpAnyH_ready (rs := [0]) (by kernel_rfl) (by simp) ?_
              refine AllReadyH.cons rfl (fun K hK => ?_) AllReadyH.nil
              go_simp
              have R5 := own_empty (w := w3) (lo := w4.heap.size) hL3.size
              have hbx1 : (w3.alloc (.cells #[] 34)).heap[w4.heap.size]? = some (.cells #[.string kk, .string c] 34 (0, 0)) := (((Later.refl w3).alloc (.cells #[] 34)).block hb3).trans hbx0
              have hL5 := below_trans hL3 ((Later.refl w3).alloc (.cells #[] 34)).below hL3.size
              have hb5 : w4.heap.size < (w3.alloc (.cells #[] 34)).heap.size := by simp; omega
              refine hK.out _ _ hL5 (fun hHeld => ?_)
              clear hK K
              clear hHeld
              generalize w3.heap.size = g3 at R5 hb3 ⊢
              generalize w3.alloc (.cells #[] 34) = w5 at hbx1 R5 hL5 hb5 ⊢
              have hHeld := hL5
              refine wpAnyH_ready (rs := [4]) (by kernel_rfl) (by simp) ?_
              obtain ⟨v4, w6, run4, R6, hg4, _, hv4⟩ := appendBinds R5 (Kind.sl_below FT.out hHeld) HBd4.out (by have := hHeld.size; omega)
              rw [hTl] at run4
              rw [List.nil_append] at R6
              have hS4 : Below w4.heap.size w4 w6 := hHeld.grown hg4 hHeld.size (fun k e => (Kind.own_lt R5 e).1)
              have hbx := (hg4.block w4.heap.size hb5 (fun e => by have : w4.heap.size = g3 := Option.some.inj e; omega)).trans hbx1
              refine held_append (i := 4) (d := some 33) rfl rfl rfl (.tmp 29) (.tmp 32) 24 24 rfl rfl _ _ _ _ (by simp [Act.eval]) (by simp [Act.eval]) run4 hS4 (fun hHeld => ?_) AllReadyH.nil
              simp only [Act.put, List.setIfInBounds_toArray, List.set_cons_zero, List.set_cons_succ]
              refine wpAnyH_ready (rs := [9]) (by kernel_rfl) (by simp) ?_
              obtain ⟨v9, w7, run9, R7, hg9, _, hv9⟩ := appendBinds R6 (box_sl hbx) HBd9.out (by have := hHeld.size; omega)
              skip
              have hS9 : Below w4.heap.size w4 w7 := hHeld.grown hg9 hHeld.size (fun k e => (Kind.own_lt R6 e).1)
              refine held_append (i := 9) (d := some 38) rfl rfl rfl (.tmp 33) (.tmp 37) 24 24 rfl rfl _ _ _ _ (by simp [Act.eval]) (by simp [Act.eval]) run9 hS9 (fun hHeld => ?_) AllReadyH.nil
              simp only [Act.put, List.setIfInBounds_toArray, List.set_cons_zero, List.set_cons_succ]
              refine wpAnyH_ready (rs := [13]) (by kernel_rfl) (by simp) ?_
              obtain ⟨v13, w8, run13, R8, hg13, _, hv13⟩ := appendBinds R7 (Kind.sl_below FD.out hHeld) HBd13.out (by have := hHeld.size; omega)
              rw [hDl] at run13
              have hS13 : Below w4.heap.size w4 w8 := hHeld.grown hg13 hHeld.size (fun k e => (Kind.own_lt R7 e).1)
              refine held_append (i := 13) (d := some 42) rfl rfl rfl (.tmp 38) (.tmp 41) 24 24 rfl rfl _ _ _ _ (by simp [Act.eval]) (by simp [Act.eval]) run13 hS13 (fun hHeld => ?_) AllReadyH.nil
              simp only [Act.put, List.setIfInBounds_toArray, List.set_cons_zero, List.set_cons_succ]
              refine take_yes (i := 14) (d := some 3) (v := ?_) rfl rfl hHeld ?_ ?_; rotate_left; focus intro w hSw; (try dsimp only at hSw);  go_simp; try with_reducible rfl
              simp only [aput, aset, aze, asu]
              refine wpAnyH_done (by kernel_rfl) ?_ _
              have HO8 := hide (own_base R8 (lo' := w.heap.size + 1) (by omega))
              have HB8 := hide (below_trans HB4.out hHeld (by omega))
              have HR8 := hide (rangesB HRg.out hHeld)
              obtain ⟨a8, c8, rfl⟩ := Kind.own_slice R8
              have hs8 := hHeld.size
              go_wp2
              go_roundw
              case rel => exact ⟨_, cnt4, _, _, _, rfl, HR8.out, by show _ ≤ _; have := HC.out; simp; omega, HO8, HPn, HGn, HB8, by omega⟩
              case measure => rw [HR8.out.left_eq, HRo.out.left_eq]; exact hlt4
          | some q1 =>
            obtain ⟨b1, o1, hq1⟩ : ∃ b1 o1, q1 = ⟨b1, o1, none⟩ := by
              obtain ⟨xs, ho, _⟩ := HO4.out
              rcases ho.2 with ⟨e, _⟩ | ⟨g, cap, cur, e, _⟩
              · cases e
              · simp only [Value.slice.injEq, Option.some.injEq] at e
                exact ⟨g, 0, e.1⟩
            subst hq1
            obtain ⟨dA, hdA⟩ : ∃ z, (if oc = j then some (⟨b1, o1, none⟩ : Addr) else some ⟨b1, o1 + j * 2, none⟩) = z := ⟨_, rfl⟩
            have FT := hide (sl_takeB HSl.out j (by omega))
            have FD : Hid (bindK.sl Anyw w4 (.slice dA (O.drop j).length (oc - j)) (O.drop j)) := by have h := sl_dropB HSl.out j (by omega); rw [hdA] at h; exact h
            go_wp2
            refine wp_region_held_drew (S := fun w' => Below w4.heap.size w4 w') (by kernel_rfl) (Later.refl w4).drew.below (fun hHeld => ?_)
            refine take_yes (i := 1) (d := some 30) (v := ?_) rfl rfl hHeld ?_ ?_; rotate_left; focus intro w hSw; (try dsimp only at hSw);  go_simp; try with_reducible rfl
            simp only [aput, aset, aze, asu]
            refine take_yes (i := 2) (d := some 31) (v := ?_) rfl rfl hHeld ?_ ?_; rotate_left; focus intro w hSw; (try dsimp only at hSw);  go_simp; try with_reducible rfl
            simp only [aput, aset, aze, asu]
            refine take_yes (i := 3) (d := some 32) (v := ?_) rfl rfl hHeld ?_ ?_; rotate_left; focus intro w hSw; (try dsimp only at hSw);  go_simp; try with_reducible rfl
            simp only [aput, aset, aze, asu]
            refine take_yes (i := 5) (d := some 34) (v := ?_) rfl rfl hHeld ?_ ?_; rotate_left; focus intro w hSw; (try dsimp only at hSw);  go_simp; try with_reducible rfl
            simp only [aput, aset, aze, asu]
            refine take_yes (i := 6) (d := some 35) (v := ?_) rfl rfl hHeld ?_ ?_; rotate_left; focus intro w hSw; (try dsimp only at hSw);  go_simp; try with_reducible rfl
            simp only [aput, aset, aze, asu]
            refine take_yes (i := 7) (d := some 36) (v := ?_) rfl rfl hHeld ?_ ?_; rotate_left; focus intro w hSw; (try dsimp only at hSw);  go_simp; try with_reducible rfl
            simp only [aput, aset, aze, asu]
            refine take_yes (i := 10) (d := some 39) (v := ?_) rfl rfl hHeld ?_ ?_; rotate_left; focus intro w hSw; (try dsimp only at hSw);  go_simp; try with_reducible rfl
            simp only [aput, aset, aze, asu]
            refine take_yes (i := 11) (d := some 40) (v := ?_) rfl rfl hHeld ?_ ?_; rotate_left; focus intro w hSw; (try dsimp only at hSw);  go_simp; try with_reducible rfl
            simp only [aput, aset, aze, asu]
            refine take_yes (i := 12) (d := some 41) (v := ?_) rfl rfl hHeld ?_ ?_; rotate_left; focus intro w hSw; (try dsimp only at hSw);  go_simp; try with_reducible rfl
            simp only [aput, aset, aze, asu]
            refine wpAnyH_ready (rs := [0, 8]) (by kernel_rfl) (by simp) ?_
            refine AllReadyH.cons rfl (fun K hK => ?_) (AllReadyH.cons rfl (fun K hK => ?_) AllReadyH.nil)
            · go_simp
              have R0 : bindK.own 34 w4.heap.size (w4.alloc (.cells #[] 34)).drew (.slice (some ⟨w4.heap.size, 0, none⟩) 0 0) [] := Kind.own_later (own_empty (Nat.le_refl _)) (Later.refl _).drew
              have hL1 : Below w4.heap.size w4 (w4.alloc (.cells #[] 34)).drew := ((Later.refl w4).alloc _).drew.below
              refine hK.out _ _ hL1 (fun hHeld => ?_)
              clear hK K
              clear hHeld
              generalize (w4.alloc (.cells #[] 34)).drew = w1 at R0 hL1 ⊢
              have hHeld := hL1
              refine wpAnyH_ready (rs := [4, 8]) (by kernel_rfl) (by simp) ?_
              obtain ⟨v4, wa, run4, R4, hg4a, _, hv4⟩ := appendBinds R0 (Kind.sl_below FT.out hHeld) HBd4.out (by have := hHeld.size; omega)
              rw [hTl] at run4
              rw [List.nil_append] at R4
              have hS4 : Below w4.heap.size w4 wa := hHeld.grown hg4a hHeld.size (fun k e => (Kind.own_lt R0 e).1)
              refine held_append (i := 4) (d := some 33) rfl rfl rfl (.tmp 29) (.tmp 32) 24 24 rfl rfl _ _ _ _ (by simp [Act.eval]) (by simp [Act.eval]) run4 hS4 (fun hHeld => ?_) (AllReadyH.cons rfl (fun K hK => ?_) AllReadyH.nil)
              · simp only [Act.put, List.setIfInBounds_toArray, List.set_cons_zero, List.set_cons_succ]
                clear run4
                refine wpAnyH_ready (rs := [8]) (by kernel_rfl) (by simp) ?_
                refine AllReadyH.cons rfl (fun K hK => ?_) AllReadyH.nil
                go_simp
                have hbx := heap_alloc_new wa (.cells #[.string kk, .string c] 34)
                have R6 := Kind.own_later R4 ((Later.refl wa).alloc (.cells #[.string kk, .string c] 34))
                have hL6 := below_trans hS4 ((Later.refl wa).alloc (.cells #[.string kk, .string c] 34)).below hS4.size
                refine hK.out _ _ hL6 (fun hHeld => ?_)
                clear hK K
                clear hHeld
                generalize wa.heap.size = g6 at hbx ⊢
                generalize wa.alloc (.cells #[.string kk, .string c] 34) = w6 at hbx R6 hL6 ⊢
                have hHeld := hL6
                refine wpAnyH_ready (rs := [9]) (by kernel_rfl) (by simp) ?_
                obtain ⟨v9, w7, run9, R7, hg9, _, hv9⟩ := appendBinds R6 (box_sl hbx) HBd9.out (by have := hHeld.size; omega)
                skip
                have hS9 : Below w4.heap.size w4 w7 := hHeld.grown hg9 hHeld.size (fun k e => (Kind.own_lt R6 e).1)
                refine held_append (i := 9) (d := some 38) rfl rfl rfl (.tmp 33) (.tmp 37) 24 24 rfl rfl _ _ _ _ (by simp [Act.eval]) (by simp [Act.eval]) run9 hS9 (fun hHeld => ?_) AllReadyH.nil
                simp only [Act.put, List.setIfInBounds_toArray, List.set_cons_zero, List.set_cons_succ]
                refine wpAnyH_ready (rs := [13]) (by kernel_rfl) (by simp) ?_
                obtain ⟨v13, w8, run13, R8, hg13, _, hv13⟩ := appendBinds R7 (Kind.sl_below FD.out hHeld) HBd13.out (by have := hHeld.size; omega)
                rw [hDl] at run13
                have hS13 : Below w4.heap.size w4 w8 := hHeld.grown hg13 hHeld.size (fun k e => (Kind.own_lt R7 e).1)
                refine held_append (i := 13) (d := some 42) rfl rfl rfl (.tmp 38) (.tmp 41) 24 24 rfl rfl _ _ _ _ (by simp [Act.eval]) (by simp [Act.eval]) run13 hS13 (fun hHeld => ?_) AllReadyH.nil
                simp only [Act.put, List.setIfInBounds_toArray, List.set_cons_zero, List.set_cons_succ]
                refine take_yes (i := 14) (d := some 3) (v := ?_) rfl rfl hHeld ?_ ?_; rotate_left; focus intro w hSw; (try dsimp only at hSw);  go_simp; try with_reducible rfl
                simp only [aput, aset, aze, asu]
                refine wpAnyH_done (by kernel_rfl) ?_ _
                have HO8 := hide (own_base R8 (lo' := w.heap.size + 1) (by omega))
                have HB8 := hide (below_trans HB4.out hHeld (by omega))
                have HR8 := hide (rangesB HRg.out hHeld)
                obtain ⟨a8, c8, rfl⟩ := Kind.own_slice R8
                have hs8 := hHeld.size
                go_wp2
                go_roundw
                case rel => exact ⟨_, cnt4, _, _, _, rfl, HR8.out, by show _ ≤ _; have := HC.out; simp; omega, HO8, HPn, HGn, HB8, by omega⟩
                case measure => rw [HR8.out.left_eq, HRo.out.left_eq]; exact hlt4
              · clear run4 R4 hS4 hg4a hv4
                go_simp
                have hbx0 := heap_alloc_new w1 (.cells #[.string kk, .string c] 34)
                have R5 := Kind.own_later R0 ((Later.refl w1).alloc (.cells #[.string kk, .string c] 34))
                have hL5 := below_trans hL1 ((Later.refl w1).alloc (.cells #[.string kk, .string c] 34)).below hL1.size
                have hb5 : w1.heap.size < (w1.alloc (.cells #[.string kk, .string c] 34)).heap.size := by simp
                have hr5 := Kind.own_lt R0 (k := w4.heap.size) rfl
                refine hK.out _ _ hL5 (fun hHeld => ?_)
                clear hK K
                clear hHeld
                generalize w1.heap.size = g6 at hbx0 hb5 hr5 ⊢
                generalize w1.alloc (.cells #[.string kk, .string c] 34) = w5 at hbx0 R5 hL5 hb5 ⊢
                have hHeld := hL5
                refine wpAnyH_ready (rs := [4]) (by kernel_rfl) (by simp) ?_
                obtain ⟨v4, w6, run4, R6, hg4, _, hv4⟩ := appendBinds R5 (Kind.sl_below FT.out hHeld) HBd4.out (by have := hHeld.size; omega)
                rw [hTl] at run4
                rw [List.nil_append] at R6
                have hS4 : Below w4.heap.size w4 w6 := hHeld.grown hg4 hHeld.size (fun k e => (Kind.own_lt R5 e).1)
                have hbx := (hg4.block g6 hb5 (fun e => by have : g6 = w4.heap.size := Option.some.inj e; omega)).trans hbx0
                refine held_append (i := 4) (d := some 33) rfl rfl rfl (.tmp 29) (.tmp 32) 24 24 rfl rfl _ _ _ _ (by simp [Act.eval]) (by simp [Act.eval]) run4 hS4 (fun hHeld => ?_) AllReadyH.nil
                simp only [Act.put, List.setIfInBounds_toArray, List.set_cons_zero, List.set_cons_succ]
                refine wpAnyH_ready (rs := [9]) (by kernel_rfl) (by simp) ?_
                obtain ⟨v9, w7, run9, R7, hg9, _, hv9⟩ := appendBinds R6 (box_sl hbx) HBd9.out (by have := hHeld.size; omega)
                skip
                have hS9 : Below w4.heap.size w4 w7 := hHeld.grown hg9 hHeld.size (fun k e => (Kind.own_lt R6 e).1)
                refine held_append (i := 9) (d := some 38) rfl rfl rfl (.tmp 33) (.tmp 37) 24 24 rfl rfl _ _ _ _ (by simp [Act.eval]) (by simp [Act.eval]) run9 hS9 (fun hHeld => ?_) AllReadyH.nil
                simp only [Act.put, List.setIfInBounds_toArray, List.set_cons_zero, List.set_cons_succ]
                refine wpAnyH_ready (rs := [13]) (by kernel_rfl) (by simp) ?_
                obtain ⟨v13, w8, run13, R8, hg13, _, hv13⟩ := appendBinds R7 (Kind.sl_below FD.out hHeld) HBd13.out (by have := hHeld.size; omega)
                rw [hDl] at run13
                have hS13 : Below w4.heap.size w4 w8 := hHeld.grown hg13 hHeld.size (fun k e => (Kind.own_lt R7 e).1)
                refine held_append (i := 13) (d := some 42) rfl rfl rfl (.tmp 38) (.tmp 41) 24 24 rfl rfl _ _ _ _ (by simp [Act.eval]) (by simp [Act.eval]) run13 hS13 (fun hHeld => ?_) AllReadyH.nil
                simp only [Act.put, List.setIfInBounds_toArray, List.set_cons_zero, List.set_cons_succ]
                refine take_yes (i := 14) (d := some 3) (v := ?_) rfl rfl hHeld ?_ ?_; rotate_left; focus intro w hSw; (try dsimp only at hSw);  go_simp; try with_reducible rfl
                simp only [aput, aset, aze, asu]
                refine wpAnyH_done (by kernel_rfl) ?_ _
                have HO8 := hide (own_base R8 (lo' := w.heap.size + 1) (by omega))
                have HB8 := hide (below_trans HB4.out hHeld (by omega))
                have HR8 := hide (rangesB HRg.out hHeld)
                obtain ⟨a8, c8, rfl⟩ := Kind.own_slice R8
                have hs8 := hHeld.size
                go_wp2
                go_roundw
                case rel => exact ⟨_, cnt4, _, _, _, rfl, HR8.out, by show _ ≤ _; have := HC.out; simp; omega, HO8, HPn, HGn, HB8, by omega⟩
                case measure => rw [HR8.out.left_eq, HRo.out.left_eq]; exact hlt4
            · go_simp
              have hbx0 : (w4.alloc (.cells #[.string kk, .string c] 34)).drew.heap[w4.heap.size]? = some (.cells #[.string kk, .string c] 34 (0, 0)) := heap_alloc_new w4 (.cells #[.string kk, .string c] 34)
              have hL3 : Below w4.heap.size w4 (w4.alloc (.cells #[.string kk, .string c] 34)).drew := ((Later.refl w4).alloc _).drew.below
              have hb3 : w4.heap.size < (w4.alloc (.cells #[.string kk, .string c] 34)).drew.heap.size := by simp
              refine hK.out _ _ hL3 (fun hHeld => ?_)
              clear hK K
              clear hHeld
              generalize (w4.alloc (.cells #[.string kk, .string c] 34)).drew = w3 at hbx0 hL3 hb3 ⊢
              have hHeld := hL3
              refine wpAnyH_ready (rs := [0]) (by kernel_rfl) (by simp) ?_
              refine AllReadyH.cons rfl (fun K hK => ?_) AllReadyH.nil
              go_simp
              have R5 := own_empty (w := w3) (lo := w4.heap.size) hL3.size
              have hbx1 : (w3.alloc (.cells #[] 34)).heap[w4.heap.size]? = some (.cells #[.string kk, .string c] 34 (0, 0)) := (((Later.refl w3).alloc (.cells #[] 34)).block hb3).trans hbx0
              have hL5 := below_trans hL3 ((Later.refl w3).alloc (.cells #[] 34)).below hL3.size
              have hb5 : w4.heap.size < (w3.alloc (.cells #[] 34)).heap.size := by simp; omega
              refine hK.out _ _ hL5 (fun hHeld => ?_)
              clear hK K
              clear hHeld
              generalize w3.heap.size = g3 at R5 hb3 ⊢
              generalize w3.alloc (.cells #[] 34) = w5 at hbx1 R5 hL5 hb5 ⊢
              have hHeld := hL5
              refine wpAnyH_ready (rs := [4]) (by kernel_rfl) (by simp) ?_
              obtain ⟨v4, w6, run4, R6, hg4, _, hv4⟩ := appendBinds R5 (Kind.sl_below FT.out hHeld) HBd4.out (by have := hHeld.size; omega)
              rw [hTl] at run4
              rw [List.nil_append] at R6
              have hS4 : Below w4.heap.size w4 w6 := hHeld.grown hg4 hHeld.size (fun k e => (Kind.own_lt R5 e).1)
              have hbx := (hg4.block w4.heap.size hb5 (fun e => by have : w4.heap.size = g3 := Option.some.inj e; omega)).trans hbx1
              refine held_append (i := 4) (d := some 33) rfl rfl rfl (.tmp 29) (.tmp 32) 24 24 rfl rfl _ _ _ _ (by simp [Act.eval]) (by simp [Act.eval]) run4 hS4 (fun hHeld => ?_) AllReadyH.nil
              simp only [Act.put, List.setIfInBounds_toArray, List.set_cons_zero, List.set_cons_succ]
              refine wpAnyH_ready (rs := [9]) (by kernel_rfl) (by simp) ?_
              obtain ⟨v9, w7, run9, R7, hg9, _, hv9⟩ := appendBinds R6 (box_sl hbx) HBd9.out (by have := hHeld.size; omega)
              skip
              have hS9 : Below w4.heap.size w4 w7 := hHeld.grown hg9 hHeld.size (fun k e => (Kind.own_lt R6 e).1)
              refine held_append (i := 9) (d := some 38) rfl rfl rfl (.tmp 33) (.tmp 37) 24 24 rfl rfl _ _ _ _ (by simp [Act.eval]) (by simp [Act.eval]) run9 hS9 (fun hHeld => ?_) AllReadyH.nil
              simp only [Act.put, List.setIfInBounds_toArray, List.set_cons_zero, List.set_cons_succ]
              refine wpAnyH_ready (rs := [13]) (by kernel_rfl) (by simp) ?_
              obtain ⟨v13, w8, run13, R8, hg13, _, hv13⟩ := appendBinds R7 (Kind.sl_below FD.out hHeld) HBd13.out (by have := hHeld.size; omega)
              rw [hDl] at run13
              have hS13 : Below w4.heap.size w4 w8 := hHeld.grown hg13 hHeld.size (fun k e => (Kind.own_lt R7 e).1)
              refine held_append (i := 13) (d := some 42) rfl rfl rfl (.tmp 38) (.tmp 41) 24 24 rfl rfl _ _ _ _ (by simp [Act.eval]) (by simp [Act.eval]) run13 hS13 (fun hHeld => ?_) AllReadyH.nil
              simp only [Act.put, List.setIfInBounds_toArray, List.set_cons_zero, List.set_cons_succ]
              refine take_yes (i := 14) (d := some 3) (v := ?_) rfl rfl hHeld ?_ ?_; rotate_left; focus intro w hSw; (try dsimp only at hSw);  go_simp; try with_reducible rfl
              simp only [aput, aset, aze, asu]
              refine wpAnyH_done (by kernel_rfl) ?_ _
              have HO8 := hide (own_base R8 (lo' := w.heap.size + 1) (by omega))
              have HB8 := hide (below_trans HB4.out hHeld (by omega))
              have HR8 := hide (rangesB HRg.out hHeld)
              obtain ⟨a8, c8, rfl⟩ := Kind.own_slice R8
              have hs8 := hHeld.size
              go_wp2
              go_roundw
              case rel => exact ⟨_, cnt4, _, _, _, rfl, HR8.out, by show _ ≤ _; have := HC.out; simp; omega, HO8, HPn, HGn, HB8, by omega⟩
              case measure => rw [HR8.out.left_eq, HRo.out.left_eq]; exact hlt4
        -- ENDS

end Go.Proofs.YtkijmalapjiopaaGreat

/- Rows of lists that a call owns, the lists from before it; and the walk of the reference's Merge. -/
namespace Go.Proofs.YtkijmalapjiopaaGreat
open Go.RowKit Go.Sort

theorem infoBinds4 : ∃ i, Tryz.prog.info? 24 = some i ∧ i.zero = some (.slice none 0 0) ∧ i.size = 1 ∧ i.bytes = 24 := ⟨Tryz.t24, by kernel_rfl, by kernel_rfl, by kernel_rfl, by kernel_rfl⟩

/-- A row of lists of a call's own; the lists were there in w0. -/
def RowL (w0 : World) (lo : Nat) (w : World) (v : Value) (l : List (List BindD)) : Prop :=
  ∃ xs, w.ownsRow lo 24 1 v l.length xs ∧ ∀ (i : Nat) a, l[i]? = some a → ∃ u, bindK.sl Anyw w0 u a ∧ xs[i]? = some u

theorem RowL.nil (w0 : World) (lo : Nat) (w : World) : RowL w0 lo w (.slice none 0 0) [] := ⟨[], World.ownsRow_nil w _ _ _, fun i a h => by simp at h⟩

theorem RowL.slice {w0 w : World} {lo : Nat} {v : Value} {l : List (List BindD)} (h : RowL w0 lo w v l) : ∃ a cap, v = .slice a l.length cap := by
  obtain ⟨xs, ho, _⟩ := h
  rcases ho.2 with ⟨rfl, e⟩ | ⟨g, cap, cur, rfl, _⟩
  · exact ⟨none, 0, by rw [e]⟩
  · exact ⟨_, cap, rfl⟩

theorem RowL.lo {w0 w : World} {lo : Nat} {v : Value} {l : List (List BindD)} (h : RowL w0 lo w v l) : ∀ k, v.ownBlock = some k → lo ≤ k ∧ k < w.heap.size := fun k e => by
  obtain ⟨xs, ho, _⟩ := h; exact ho.lt k e

theorem RowL.later {w0 w w' : World} {lo : Nat} {v : Value} {l : List (List BindD)} (h : RowL w0 lo w v l) (k : Later w w') : RowL w0 lo w' v l := by
  obtain ⟨xs, ho, hx⟩ := h
  refine ⟨xs, ⟨ho.1, ?_⟩, hx⟩
  rcases ho.2 with e | ⟨g, cap, cur, rfl, hbg, hg, r⟩
  · exact Or.inl e
  · exact Or.inr ⟨g, cap, cur, rfl, hbg, by rw [k.block (Array.getElem?_eq_some_iff.1 hg).1]; exact hg, r⟩

/-- One list more. -/
theorem RowL.more {w0 w : World} {lo : Nat} {v : Value} {l : List (List BindD)} (h : RowL w0 lo w v l) (hs : lo ≤ w.heap.size) {u : Value} {a : List BindD} (hc : bindK.sl Anyw w0 u a) (hl : (l.length + 1) * 24 ≤ 140737488355328) :
    ∃ v' w', (Builtin.append_ #[25, 25] 25 #[v, .slice (some ⟨w.heap.size, 0, none⟩) 1 1]).run Tryz.prog (w.alloc (.cells #[u] 24)) = .ok v' w' ∧ RowL w0 lo w' v' (l ++ [a]) ∧ (w.alloc (.cells #[u] 24)).grownBy w' v.ownBlock ∧ w.drawn ≤ w'.drawn := by
  obtain ⟨i, i1, i2, i3, i4⟩ := infoBinds4
  obtain ⟨xs, ho, hx⟩ := h
  have hnews : ∀ j y, [u][j]? = some y → (w.alloc (.cells #[u] 24)).cell? ((⟨w.heap.size, 0, none⟩ : Addr).add j) = some y := by
    intro j y hy
    rw [Addr.add_lit, Nat.zero_add, cell_of_row _ w.heap.size j #[u] 24 (0, 0) (heap_alloc_new w _)]
    simpa using hy
  obtain ⟨v', w', hrun, r1, r2, r3, _⟩ := append_own (P := Tryz.prog) (w.alloc (.cells #[u] 24)) lo 25 25 24 i _ 1 24 Tryz.underlying25 i1 i2 i3 i4 rfl (by omega) v l.length xs (ho.alloc _) ⟨w.heap.size, 0, none⟩ 1 1 [u] (by rfl) hnews
    ((listK).one (B := Anyw) (w := w0) ⟨u, rfl, hc⟩) (by simp only [maxLen]; omega) hl (by simp; omega)
  refine ⟨v', w', hrun, ⟨xs ++ [u], by simpa using r1, fun j y hj => ?_⟩, r2, r3⟩
  have hxl : xs.length = l.length * 1 := ho.1
  by_cases hjl : j < l.length
  · rw [List.getElem?_append_left hjl] at hj
    obtain ⟨d, d1, d2⟩ := hx j y hj
    exact ⟨d, d1, by rw [List.getElem?_append_left (by omega)]; exact d2⟩
  · rw [List.getElem?_append_right (by omega)] at hj
    have hj' : j = l.length := by
      have := (List.getElem?_eq_some_iff.1 hj).1
      simp at this; omega
    subst hj'
    simp at hj
    subst hj
    exact ⟨u, hc, by rw [List.getElem?_append_right (by omega), hxl]; simp⟩

theorem RowL.sl {w0 w : World} {lo : Nat} {v : Value} {l : List (List BindD)} (h : RowL w0 lo w v l) (hb : Below w0.heap.size w0 w) (hl : l.length ≤ 8796093022208) : listK.sl Anyw w v l := by
  obtain ⟨xs, ho, hx⟩ := h
  rcases ho.2 with ⟨rfl, e⟩ | ⟨g, cap, cur, rfl, hbg, hg, hnc, _⟩
  · have : l = [] := List.eq_nil_of_length_eq_zero e
    subst this
    exact listK.sl_nil _ _ _ _
  · refine ⟨⟨hl, hnc⟩, _, cap, rfl, fun _ => ⟨g, 0, rfl, trivial, (Array.getElem?_eq_some_iff.1 hg).1, fun i x hi => ?_⟩⟩
    obtain ⟨u, c1, c2⟩ := hx i x hi
    refine ⟨[u], ⟨u, rfl, Kind.sl_below c1 hb⟩, fun j y hy => ?_⟩
    cases j with
    | succ j => simp at hy
    | zero =>
      simp at hy
      subst hy
      have := ho.cells (g := g) rfl i u c2
      rw [Addr.add_lit] at this
      show w.cell? ⟨g, 0 + i * 1 + 0, none⟩ = _
      rw [Nat.mul_one, Nat.add_zero]; exact this

/-- Behind the first ones. -/
theorem sl_drop1 {w : World} {b off n cap : Nat} {l : List (List BindD)} (h : listK.sl Anyw w (.slice (some ⟨b, off, none⟩) n cap) l) (k : Nat) (hk : k < l.length) : listK.sl Anyw w (.slice (some ⟨b, off + k, none⟩) (l.length - k) (cap - k)) (l.drop k) := by
  obtain ⟨h0, a', cap', e, h1⟩ := h
  simp only [Value.slice.injEq] at e
  obtain ⟨rfl, rfl, rfl⟩ := e
  obtain ⟨b', off', e, hB, hb, hcl⟩ := h1 (by intro e; rw [e] at hk; simp at hk)
  simp only [Option.some.injEq, Addr.mk.injEq] at e
  obtain ⟨rfl, rfl, _⟩ := e
  have h01 := h0.1
  have h02 : l.length ≤ cap := h0.2
  refine ⟨⟨by rw [List.length_drop]; omega, by show l.length - k ≤ cap - k; omega⟩, _, cap - k, by rw [List.length_drop], fun _ => ⟨b, _, rfl, hB, hb, fun i y hi => ?_⟩⟩
  rw [List.getElem?_drop] at hi
  obtain ⟨d, d1, d2⟩ := hcl (k + i) y hi
  refine ⟨d, d1, fun j u hu => ?_⟩
  have := d2 j u hu
  rw [show off + (k + i) * (slK bindK).size + j = off + k + i * (slK bindK).size + j by show off + (k + i) * 1 + j = off + k + i * 1 + j; omega] at this
  exact this

/-- The first ones. -/
theorem sl_take1 {w : World} {a : Option Addr} {n cap : Nat} {l : List (List BindD)} (h : listK.sl Anyw w (.slice a n cap) l) (k : Nat) (hk : k ≤ l.length) : listK.sl Anyw w (.slice a k cap) (l.take k) := by
  obtain ⟨⟨h0, h1⟩, a', cap', e, h2⟩ := h
  simp only [Value.slice.injEq] at e
  obtain ⟨rfl, rfl, rfl⟩ := e
  have hl : (l.take k).length = k := by rw [List.length_take]; omega
  have h1' : l.length ≤ cap := h1
  refine ⟨⟨by omega, by show k ≤ cap; omega⟩, a, cap, by rw [hl], fun hne => ?_⟩
  obtain ⟨b, off, e, hB, hb, hc⟩ := h2 (by intro e; rw [e] at hne; simp at hne)
  refine ⟨b, off, e, hB, hb, fun i x hx => hc i x ?_⟩
  rw [List.getElem?_take] at hx
  split at hx
  · exact hx
  · cases hx

/-- What Merge tells of lists. -/
def MergeT (L : List (List BindD)) (w : World) (e : Ending) (w' : World) : Prop :=
  ∃ v' R, e = .returned v' ∧ listK.sl Anyw w' v' R ∧ (R.Pairwise fun a b => cmpBs a b < 0) ∧ (∀ x, x ∈ R ↔ x ∈ L) ∧ R.length ≤ L.length ∧ Below w.heap.size w w'

set_option maxRecDepth 100000 in
theorem merge_small (L : List (List BindD)) (v : Value) (w : World) (h : L.length < 2) (hv : listK.sl Anyw w v L) : Calls Tryz.prog 25 #[v] w (MergeT L w) := by
  obtain ⟨a, cap, rfl⟩ := Kind.slice hv
  have hl : (L.length : Int) < 2 := by omega
  have HV := hide hv
  clear hv
  go_enter Tryz.func25, Tryz.ntmps25
  go_wp2
  go_ret
  refine ⟨_, L, rfl, HV.out, ?_, fun x => Iff.rfl, Nat.le_refl _, (Later.refl w).below⟩
  match L, h with
  | [], _ => exact List.Pairwise.nil
  | [x], _ => exact List.pairwise_singleton _ _

set_option maxRecDepth 100000 in
set_option maxHeartbeats 8000000 in
theorem merge_big (n : Nat) (ih : ∀ (L : List (List BindD)) (v : Value) (w : World), L.length ≤ n → L.length ≤ 1000000 → listK.sl Anyw w v L → Calls Tryz.prog 25 #[v] w (MergeT L w)) (L : List (List BindD)) (v : Value) (w : World) (hn : L.length ≤ n + 1) (hM : L.length ≤ 1000000) (h : 2 ≤ L.length) (hv : listK.sl Anyw w v L) : Calls Tryz.prog 25 #[v] w (MergeT L w) := by
  obtain ⟨a, cap, rfl⟩ := Kind.slice hv
  have hlc : L.length ≤ cap := hv.1.2
  obtain ⟨b, off, _, rfl, hb, _, _⟩ := Kind.sl_at hv (i := 0) (List.getElem?_eq_getElem (by omega))
  obtain ⟨m, hm⟩ : ∃ m, m = L.length / 2 := ⟨_, rfl⟩
  have h1 := sl_take1 hv m (by omega)
  have h2 := sl_drop1 hv m (by omega)
  have em : (L.length : Int) / 2 = (m : Int) := by omega
  have hml : m ≤ L.length := by omega
  have hmc : m ≤ cap := by omega
  have hge : ¬ ((L.length : Int) < 2) := by omega
  have hw : IntKind.i64.wrap (m : Int) = (m : Int) := by simp [IntKind.wrap, IntKind.bits, IntKind.signed]; omega
  have hmlz : (m : Int) ≤ (L.length : Int) := by omega
  have hmcz : (m : Int) ≤ (cap : Int) := by omega
  have hne : ¬ (cap = m) := by omega
  have H1 : Hid (∀ x, Below w.heap.size w x → Calls Tryz.prog 25 #[.slice (some ⟨b, off, none⟩) m cap] x (MergeT (L.take m) x)) := fun x hx => ih _ _ x (by rw [List.length_take]; omega) (by rw [List.length_take]; omega) (Kind.sl_below h1 hx)
  have H2 : Hid (∀ x, Below w.heap.size w x → Calls Tryz.prog 25 #[.slice (some ⟨b, off + m, none⟩) (L.length - m) (cap - m)] x (MergeT (L.drop m) x)) := fun x hx => ih _ _ x (by rw [List.length_drop]; omega) (by rw [List.length_drop]; omega) (Kind.sl_below h2 hx)
  clear hv h1 h2 hm ih
  go_enter Tryz.func25, Tryz.ntmps25
  go_wp2
  refine wp_region_held_drew (S := fun w' => Below w.heap.size w w') (by kernel_rfl) (Later.refl w).drew.below (fun hHeld => ?_)
  refine take_yes (i := 0) (d := some 12) (v := ?_) rfl rfl hHeld ?_ ?_; rotate_left; focus intro w hSw; (try dsimp only at hSw);  go_simp; try with_reducible rfl
  simp only [aput, aset, aze, asu]
  refine take_yes (i := 1) (d := some 13) (v := ?_) rfl rfl hHeld ?_ ?_; rotate_left; focus intro w hSw; (try dsimp only at hSw);  go_simp; try with_reducible rfl
  simp only [aput, aset, aze, asu]
  refine take_yes (i := 2) (d := some 14) (v := ?_) rfl rfl hHeld ?_ ?_; rotate_left; focus intro w hSw; (try dsimp only at hSw);  go_simp; try with_reducible rfl
  simp only [aput, aset, aze, asu]
  refine take_yes (i := 3) (d := some 15) (v := ?_) rfl rfl hHeld ?_ ?_; rotate_left; focus intro w hSw; (try dsimp only at hSw);  go_simp; try with_reducible rfl
  simp only [aput, aset, aze, asu]
  refine take_yes (i := 4) (d := some 16) (v := ?_) rfl rfl hHeld ?_ ?_; rotate_left; focus intro w hSw; (try dsimp only at hSw);  go_simp; try with_reducible rfl
  simp only [aput, aset, aze, asu]
  refine take_yes (i := 6) (d := some 18) (v := ?_) rfl rfl hHeld ?_ ?_; rotate_left; focus intro w hSw; (try dsimp only at hSw);  go_simp; try with_reducible rfl
  simp only [aput, aset, aze, asu]
  refine take_yes (i := 7) (d := some 19) (v := ?_) rfl rfl hHeld ?_ ?_; rotate_left; focus intro w hSw; (try dsimp only at hSw);  go_simp; try with_reducible rfl
  simp only [aput, aset, aze, asu]
  refine take_yes (i := 8) (d := some 20) (v := ?_) rfl rfl hHeld ?_ ?_; rotate_left; focus intro w hSw; (try dsimp only at hSw);  go_simp; try with_reducible rfl
  simp only [aput, aset, aze, asu]
  refine take_yes (i := 9) (d := some 21) (v := ?_) rfl rfl hHeld ?_ ?_; rotate_left; focus intro w hSw; (try dsimp only at hSw);  go_simp; try with_reducible rfl
  simp only [aput, aset, aze, asu]
  refine take_yes (i := 10) (d := some 22) (v := ?_) rfl rfl hHeld ?_ ?_; rotate_left; focus intro w hSw; (try dsimp only at hSw);  go_simp; try with_reducible rfl
  simp only [aput, aset, aze, asu]
  refine wpAnyH_ready (rs := [5]) (by kernel_rfl) (by simp) ?_
  refine AllReadyH.cons rfl (fun K hK => ?_) AllReadyH.nil
  go_simp
  refine (H1.out _ hHeld).mono ?_
  rintro e y1 ⟨v1, R1, rfl, hS1, hP1, hM1, hL1, hB1⟩
  dsimp only
  obtain ⟨a1, c1, rfl⟩ := Kind.slice hS1
  refine hK.out _ _ (below_trans hHeld hB1 hHeld.size) (fun hHeld => ?_)
  clear hK K
  refine wpAnyH_ready (rs := [11]) (by kernel_rfl) (by simp) ?_
  refine AllReadyH.cons rfl (fun K hK => ?_) AllReadyH.nil
  go_simp
  refine (H2.out _ hHeld).mono ?_
  rintro e y2 ⟨v2, R2, rfl, hS2, hP2, hM2, hL2, hB2⟩
  dsimp only
  obtain ⟨a2, c2, rfl⟩ := Kind.slice hS2
  refine hK.out _ _ (below_trans hHeld hB2 hHeld.size) (fun hHeld => ?_)
  clear hK K
  refine take_yes (i := 12) (d := some 3) (v := ?_) rfl rfl hHeld ?_ ?_; rotate_left; focus intro w hSw; (try dsimp only at hSw);  go_simp; try with_reducible rfl
  simp only [aput, aset, aze, asu]
  refine take_yes (i := 13) (d := some 4) (v := ?_) rfl rfl hHeld ?_ ?_; rotate_left; focus intro w hSw; (try dsimp only at hSw);  go_simp; try with_reducible rfl
  simp only [aput, aset, aze, asu]
  refine wpAnyH_done (by kernel_rfl) ?_ _
  have HB2 : Hid (Below w.heap.size w y2) := hHeld
  have HS1 := hide (Kind.sl_below hS1 hB2)
  have HS2 := hide hS2
  have HM1 := hide hM1
  have HM2 := hide hM2
  have hRL : R1.length + R2.length ≤ L.length := by rw [List.length_take] at hL1; rw [List.length_drop] at hL2; omega
  have HMg0 := hide (Mrg.start hP1 hP2)
  clear hHeld hB1 hB2 hS1 hS2 hP1 hP2 hM1 hM2 hL1 hL2 H1 H2 hge hw hmlz hmcz hne em hml hmc hlc hb
  go_wp2
  go_loopg [3, 4, 5] (R1.length + R2.length) (fun g s3 s4 s5 wr => ∃ (aa : Option Addr) (na ac : Nat) (ba : Option Addr) (nb bc : Nat) (oa : Option Addr) (on oc : Nat) (A B OO : List (List BindD)), s3 = .slice aa na ac ∧ s4 = .slice ba nb bc ∧ s5 = .slice oa on oc ∧ Hid (na = A.length) ∧ Hid (nb = B.length) ∧ g = na + nb ∧
    Hid (listK.sl Anyw y2 (.slice aa na ac) A) ∧ Hid (listK.sl Anyw y2 (.slice ba nb bc) B) ∧ Hid (RowL y2 y2.heap.size wr (.slice oa on oc) OO) ∧ Hid (Mrg cmpBs (R1 ++ R2) OO A B) ∧ Hid (OO.length + g ≤ R1.length + R2.length) ∧ Hid (Below y2.heap.size y2 wr))
  case atStart => exact ⟨a1, _, c1, a2, _, c2, none, 0, 0, R1, R2, [], rfl, rfl, rfl, rfl, rfl, rfl, HS1.out, HS2.out, RowL.nil _ _ _, HMg0.out, by show _ ≤ _; simp, (Later.refl _).below⟩
  case round =>
    obtain ⟨aa, na, ac, ba, nb, bc, oa, on, oc, A, B, OO, rfl, rfl, rfl, HNA, HNB, hg, HVA, HVB, HRO, HMg, HNO, HB⟩ := hrel
    have HON : Hid (on = OO.length) := by obtain ⟨_, _, e⟩ := RowL.slice HRO.out; simp only [Value.slice.injEq] at e; exact e.2.1
    have HG := hide hg
    clear hg
    -- LOOP
    by_cases ha : na = 0
    · by_cases hb : nb = 0
      · subst ha
        subst hb
        go_wp2
        go_ret
        have hA := List.eq_nil_of_length_eq_zero HNA.out.symm
        have hB := List.eq_nil_of_length_eq_zero HNB.out.symm
        subst hA
        subst hB
        obtain ⟨hD1, hD2⟩ := HMg.out.done
        have hNO := HNO.out
        refine ⟨_, OO, rfl, RowL.sl HRO.out HB.out (by omega), hD1, fun x => ?_, by omega, below_trans HB2.out HB.out HB2.out.size⟩
        rw [hD2, List.mem_append, HM1.out, HM2.out, ← List.mem_append, List.take_append_drop]
      · subst ha
        obtain ⟨xb, B', rfl⟩ : ∃ x l, B = x :: l := by
          have := HNB.out
          cases B with
          | nil => simp at this; omega
          | cons x l => exact ⟨x, l, rfl⟩
        obtain ⟨mb, fb, _, rfl, hmb, ⟨wb, rfl, hub⟩, hcb⟩ := Kind.sl_at HVB.out (i := 0) (x := xb) (by simp)
        obtain ⟨ub, vb, rfl⟩ := Kind.slice hub
        have HUB := hide hub
        have HCB0 : Hid (∀ y, Below y2.heap.size y2 y → y.cell? ⟨mb, fb, none⟩ = some (.slice ub xb.length vb)) := fun y hy => by
          rw [hy.cell (p := ⟨mb, fb, none⟩) hmb]
          simpa [slK] using hcb 0 _ rfl
        clear hub hcb
        have hb1 : (1 : Int) ≤ (nb : Int) := by omega
        have hb0 : (0 : Int) < (nb : Int) := by omega
        have hbn : 0 < nb := by omega
        have hbd : decide (0 < nb) = true := by simp; omega
        have hbe : ((nb : Int) == 0) = false := by simp; omega
        obtain ⟨ba', hba'⟩ : ∃ z, (if bc = 1 then some (⟨mb, fb, none⟩ : Addr) else some ⟨mb, fb + 1, none⟩) = z := ⟨_, rfl⟩
        have HTB : Hid (listK.sl Anyw y2 (.slice ba' (nb - 1) (bc - 1)) B') := by
          have e : nb - 1 = B'.length := by have := HNB.out; simp at this; omega
          rw [← hba', e]
          by_cases h0 : B'.length = 0
          · obtain rfl := List.eq_nil_of_length_eq_zero h0
            exact listK.sl_nil _ _ _ _
          · have hcap : nb ≤ bc := HVB.out.1.2
            rw [if_neg (by omega)]
            exact sl_drop1 HVB.out 1 (by simp; omega)
        have HFx : Hid (∀ z ∈ A, cmpBs xb z ≤ 0) := by
          intro z hz
          have := HNA.out
          rw [List.eq_nil_of_length_eq_zero this.symm] at hz
          simp at hz
        have HMk := hide HMg.out.swap
        go_wp2
        refine wp_region_held_drew (S := fun w' => Later wr w') (by kernel_rfl) (Later.refl wr).drew (fun hHeld => ?_)
        refine take_yes (i := 0) (d := some 32) (v := ?_) rfl rfl hHeld ?_ ?_; rotate_left; focus intro w hSw; (try dsimp only at hSw);  go_simp; try with_reducible rfl
        simp only [aput, aset, aze, asu]
        refine take_yes (i := 1) (d := some 33) (v := ?_) rfl rfl hHeld ?_ ?_; rotate_left; focus intro w hSw; (try dsimp only at hSw);  go_simp; try with_reducible rfl
        simp only [aput, aset, aze, asu]
        refine take_yes (i := 2) (d := some 34) (v := ?_) rfl rfl hHeld ?_ ?_; rotate_left; focus intro w hSw; (try dsimp only at hSw);  go_simp; try with_reducible rfl
        simp only [aput, aset, aze, asu]
        refine take_yes (i := 3) (d := some 35) (v := ?_) rfl rfl hHeld ?_ ?_; rotate_left; focus intro w hSw; (try dsimp only at hSw);  go_simp; try with_reducible rfl
        simp only [aput, aset, aze, asu]
        refine take_yes (i := 4) (d := some 36) (v := ?_) rfl rfl hHeld ?_ ?_; rotate_left; focus intro w hSw; (try dsimp only at hSw);  go_simp; try with_reducible rfl
        simp only [aput, aset, aze, asu]
        refine take_yes (i := 5) (d := some 37) (v := ?_) rfl rfl hHeld ?_ ?_; rotate_left; focus intro w hSw; (try dsimp only at hSw);  go_simp; try with_reducible rfl
        simp only [aput, aset, aze, asu]
        refine take_yes (i := 6) (d := some 38) (v := ?_) rfl rfl hHeld ?_ ?_; rotate_left; focus intro w hSw; (try dsimp only at hSw);  go_simp; try with_reducible rfl
        simp only [aput, aset, aze, asu]
        refine take_yes (i := 7) (d := some 39) (v := ?_) rfl rfl hHeld ?_ ?_; rotate_left; focus intro w hSw; (try dsimp only at hSw);  go_simp; try with_reducible rfl
        simp only [aput, aset, aze, asu]
        refine take_no (i := 8) (d := some 40) rfl rfl hHeld ?_; simp only [aput, aset, aze, asu]
        refine take_no (i := 9) (d := some 41) rfl rfl hHeld ?_; simp only [aput, aset, aze, asu]
        refine take_no (i := 10) (d := some 42) rfl rfl hHeld ?_; simp only [aput, aset, aze, asu]
        refine take_no (i := 11) (d := some 43) rfl rfl hHeld ?_; simp only [aput, aset, aze, asu]
        refine take_no (i := 12) (d := some 44) rfl rfl hHeld ?_; simp only [aput, aset, aze, asu]
        refine take_no (i := 13) (d := some 45) rfl rfl hHeld ?_; simp only [aput, aset, aze, asu]
        refine take_no (i := 14) (d := some 46) rfl rfl hHeld ?_; simp only [aput, aset, aze, asu]
        refine take_no (i := 15) (d := some 47) rfl rfl hHeld ?_; simp only [aput, aset, aze, asu]
        refine take_yes (i := 16) (d := some 48) (v := ?_) rfl rfl hHeld ?_ ?_; rotate_left; focus intro w hSw; (try dsimp only at hSw);  go_simp; try with_reducible rfl
        simp only [aput, aset, aze, asu]
        refine take_yes (i := 17) (d := some 49) (v := ?_) rfl rfl hHeld ?_ ?_; rotate_left; focus intro w hSw; (try dsimp only at hSw);  go_simp; try with_reducible rfl
        simp only [aput, aset, aze, asu]
        refine wpAnyH_done (by kernel_rfl) ?_ _
        obtain ⟨wz, hwz⟩ : ∃ z, z = wr.drew := ⟨_, rfl⟩
        rw [← hwz]
        have HZ : Hid (Later wr wz) := by rw [hwz]; exact (Later.refl wr).drew
        clear hHeld hwz
        have HCB : Hid (∀ y, Later wz y → y.cell? ⟨mb, fb, none⟩ = some (.slice ub xb.length vb)) := fun y hy => HCB0.out y (below_trans HB.out (HZ.out.trans hy).below HB.out.size)
        go_wp2
        refine wp_region_held_drew (S := fun w' => Later wz w') (by kernel_rfl) (Later.refl wz).drew (fun hHeld => ?_)
        refine take_yes (i := 0) (d := some 55) (v := ?_) rfl rfl hHeld ?_ ?_; rotate_left; focus intro w hSw; (try dsimp only at hSw);  go_simp; try with_reducible rfl
        simp only [aput, aset, aze, asu]
        refine take_yes (i := 1) (d := some 56) (v := ?_) rfl rfl hHeld ?_ ?_; rotate_left; focus intro w hSw; (try dsimp only at hSw);  go_simp; try with_reducible rfl
        simp only [aput, aset, aze, asu]
        refine take_yes (i := 2) (d := some 57) (v := ?_) rfl rfl hHeld ?_ ?_; rotate_left; focus intro w hSw; (try dsimp only at hSw); have qb := HCB.out _ hSw; go_simp; try with_reducible rfl
        simp only [aput, aset, aze, asu]
        refine take_yes (i := 3) (d := some 58) (v := ?_) rfl rfl hHeld ?_ ?_; rotate_left; focus intro w hSw; (try dsimp only at hSw);  go_simp; try with_reducible rfl
        simp only [aput, aset, aze, asu]
        refine take_yes (i := 4) (d := some 59) (v := ?_) rfl rfl hHeld ?_ ?_; rotate_left; focus intro w hSw; (try dsimp only at hSw);  go_simp; try with_reducible rfl
        simp only [aput, aset, aze, asu]
        refine take_yes (i := 5) (d := some 6) (v := ?_) rfl rfl hHeld ?_ ?_; rotate_left; focus intro w hSw; (try dsimp only at hSw);  go_simp; try with_reducible rfl
        simp only [aput, aset, aze, asu]
        refine take_yes (i := 6) (d := some 4) (v := ?_) rfl rfl hHeld ?_ ?_; rotate_left; focus intro w hSw; (try dsimp only at hSw);  go_simp; try with_reducible rfl
        simp only [aput, aset, aze, asu]
        refine wpAnyH_done (by kernel_rfl) ?_ _
        obtain ⟨wx, hwx⟩ : ∃ z, z = wz.drew := ⟨_, rfl⟩
        rw [← hwx]
        have HX := hide (HZ.out.trans (by rw [hwx]; exact (Later.refl wz).drew : Later wz wx))
        clear hHeld hwx HZ
        rcases List.eq_nil_or_concat OO with eO | ⟨O', z, eO⟩
        · subst eO
          obtain rfl : on = 0 := HON.out
          obtain ⟨v', w7, hrun, hO7, hg7, hd7⟩ := RowL.more (HRO.out.later HX.out) (Nat.le_trans HB.out.size HX.out.size) HUB.out (by simp)
          have HO7 := hide hO7
          have HM7 := hide (HMk.out.next three_cmpBs HFx.out (fun z h => by simp at h))
          have HB7 : Hid (Below y2.heap.size y2 w7) := (below_trans HB.out ((HX.out.trans ((Later.refl wx).alloc _)).below) HB.out.size).grown hg7 (by have := HB.out.size; have := HX.out.size; simp; omega) (fun k e => (HRO.out.lo k e).1)
          obtain ⟨oa7, on7, oc7, rfl⟩ : ∃ a n c, v' = .slice a n c := by obtain ⟨a, c, e⟩ := RowL.slice hO7; exact ⟨a, _, c, e⟩
          have HRn := hide hrun
          clear hrun hO7 hg7 hd7
          go_wp2_with (at_builtin; refine wpList_append_run rfl (.tmp 73) (.tmp 75) 25 rfl _ _ _ _ rfl rfl HRn.out ?_)
          go_roundg (nb - 1)
          case measure => have := HG.out; omega
          case rel => exact ⟨_, _, _, ba', nb - 1, bc - 1, _, _, _, _, B', _, rfl, rfl, rfl, HNA, by show _ = _; have := HNB.out; simp at this; omega, by have := HG.out; omega, HVA, HTB, HO7, hide HM7.out.swap, by show _ ≤ _; have := HNO.out; have := HG.out; simp only [List.length_append, List.length_cons, List.length_nil] at *; omega, HB7⟩
        · rw [List.concat_eq_append] at eO
          subst eO
          have hon : on = O'.length + 1 := by have := HON.out; simpa using this
          subst hon
          have hSO := RowL.sl (HRO.out.later HX.out) (below_trans HB.out HX.out.below HB.out.size) (by have := HNO.out; simp at this ⊢; omega)
          obtain ⟨b6, o6, _, rfl, hb6, ⟨zu, rfl, hzu⟩, hc6⟩ := Kind.sl_at hSO (i := O'.length) (x := z) (by simp)
          have d6 : wx.cell? ⟨b6, o6 + O'.length, none⟩ = some zu := by simpa [slK] using hc6 0 _ rfl
          have HLB := hide (lessBinds zu (.slice ub xb.length vb) z xb wx hzu (Kind.sl_below HUB.out (below_trans HB.out HX.out.below HB.out.size)))
          obtain ⟨za, zc, rfl⟩ := Kind.slice hzu
          have hpos : ((O'.length + 1 : Nat) : Int) ≠ 0 := by omega
          have hpos2 : (((O'.length + 1 : Nat) : Int) == 0) = false := by simp; omega
          have hsub : ((O'.length + 1 : Nat) : Int) - 1 = (O'.length : Int) := by omega
          have hON := HNO.out
          have hsb : IntKind.i64.wrap (O'.length : Int) = (O'.length : Int) := by simp at hON; simp [IntKind.wrap, IntKind.bits, IntKind.signed]; omega
          clear hc6 hzu hSO hON
          cases hq : lessBs z xb
          · rw [hq] at HLB
            have HM7 := hide (HMk.out.skip three_cmpBs (z := z) (by simp) (by unfold lessBs at hq; simpa using hq))
            clear hq
            go_wp2_with fail
            refine HLB.out.mono ?_
            rintro e w4 ⟨rfl, hL4⟩
            have HO7 := hide (HRO.out.later (HX.out.trans hL4))
            have HB7 : Hid (Below y2.heap.size y2 w4) := below_trans HB.out (HX.out.trans hL4).below HB.out.size
            clear hL4 HLB
            go_wp2
            go_roundg (nb - 1)
            case measure => have := HG.out; omega
            case rel => exact ⟨_, _, _, ba', nb - 1, bc - 1, _, _, _, _, B', _, rfl, rfl, rfl, HNA, by show _ = _; have := HNB.out; simp at this; omega, by have := HG.out; omega, HVA, HTB, HO7, hide HM7.out.swap, by show _ ≤ _; have := HNO.out; have := HG.out; simp only [List.length_append, List.length_cons, List.length_nil] at *; omega, HB7⟩
          · rw [hq] at HLB
            have HM7 := hide (HMk.out.next three_cmpBs HFx.out (fun z' h => by simp at h; subst h; unfold lessBs at hq; simpa using hq))
            clear hq
            go_wp2_with fail
            refine HLB.out.mono ?_
            rintro e w4 ⟨rfl, hL4⟩
            have HX4 := hide (HX.out.trans hL4)
            clear hL4 HLB
            obtain ⟨v', w7, hrun, hO7, hg7, hd7⟩ := RowL.more (HRO.out.later HX4.out) (Nat.le_trans HB.out.size HX4.out.size) HUB.out (by have := HNO.out; simp at this ⊢; omega)
            have HO7 := hide hO7
            have HB7 : Hid (Below y2.heap.size y2 w7) := (below_trans HB.out ((HX4.out.trans ((Later.refl w4).alloc _)).below) HB.out.size).grown hg7 (by have := HB.out.size; have := HX4.out.size; simp; omega) (fun k e => (HRO.out.lo k e).1)
            obtain ⟨oa7, on7, oc7, rfl⟩ : ∃ a n c, v' = .slice a n c := by obtain ⟨a, c, e⟩ := RowL.slice hO7; exact ⟨a, _, c, e⟩
            have HRn := hide hrun
            clear hrun hO7 hg7 hd7
            go_wp2_with (at_builtin; refine wpList_append_run rfl (.tmp 73) (.tmp 75) 25 rfl _ _ _ _ rfl rfl HRn.out ?_)
            go_roundg (nb - 1)
            case measure => have := HG.out; omega
            case rel => exact ⟨_, _, _, ba', nb - 1, bc - 1, _, _, _, _, B', _, rfl, rfl, rfl, HNA, by show _ = _; have := HNB.out; simp at this; omega, by have := HG.out; omega, HVA, HTB, HO7, hide HM7.out.swap, by show _ ≤ _; have := HNO.out; have := HG.out; simp only [List.length_append, List.length_cons, List.length_nil] at *; omega, HB7⟩
    · by_cases hb : nb = 0
      · subst hb
        obtain ⟨xa, A', rfl⟩ : ∃ x l, A = x :: l := by
          have := HNA.out
          cases A with
          | nil => simp at this; omega
          | cons x l => exact ⟨x, l, rfl⟩
        obtain ⟨ma, fa, _, rfl, hma, ⟨wa, rfl, hua⟩, hca⟩ := Kind.sl_at HVA.out (i := 0) (x := xa) (by simp)
        obtain ⟨ua, va, rfl⟩ := Kind.slice hua
        have HUA := hide hua
        have HCA0 : Hid (∀ y, Below y2.heap.size y2 y → y.cell? ⟨ma, fa, none⟩ = some (.slice ua xa.length va)) := fun y hy => by
          rw [hy.cell (p := ⟨ma, fa, none⟩) hma]
          simpa [slK] using hca 0 _ rfl
        clear hua hca
        have ha1 : (1 : Int) ≤ (na : Int) := by omega
        have ha0 : (0 : Int) < (na : Int) := by omega
        have han : 0 < na := by omega
        have had : decide (0 < na) = true := by simp; omega
        have hae : ((na : Int) == 0) = false := by simp; omega
        obtain ⟨aa', haa'⟩ : ∃ z, (if ac = 1 then some (⟨ma, fa, none⟩ : Addr) else some ⟨ma, fa + 1, none⟩) = z := ⟨_, rfl⟩
        have HTA : Hid (listK.sl Anyw y2 (.slice aa' (na - 1) (ac - 1)) A') := by
          have e : na - 1 = A'.length := by have := HNA.out; simp at this; omega
          rw [← haa', e]
          by_cases h0 : A'.length = 0
          · obtain rfl := List.eq_nil_of_length_eq_zero h0
            exact listK.sl_nil _ _ _ _
          · have hcap : na ≤ ac := HVA.out.1.2
            rw [if_neg (by omega)]
            exact sl_drop1 HVA.out 1 (by simp; omega)
        have HFx : Hid (∀ z ∈ B, cmpBs xa z ≤ 0) := by
          intro z hz
          have := HNB.out
          rw [List.eq_nil_of_length_eq_zero this.symm] at hz
          simp at hz
        have HMk := hide HMg.out
        go_wp2
        refine wp_region_held_drew (S := fun w' => Later wr w') (by kernel_rfl) (Later.refl wr).drew (fun hHeld => ?_)
        refine take_yes (i := 0) (d := some 32) (v := ?_) rfl rfl hHeld ?_ ?_; rotate_left; focus intro w hSw; (try dsimp only at hSw);  go_simp; try with_reducible rfl
        simp only [aput, aset, aze, asu]
        refine take_yes (i := 1) (d := some 33) (v := ?_) rfl rfl hHeld ?_ ?_; rotate_left; focus intro w hSw; (try dsimp only at hSw);  go_simp; try with_reducible rfl
        simp only [aput, aset, aze, asu]
        refine take_yes (i := 2) (d := some 34) (v := ?_) rfl rfl hHeld ?_ ?_; rotate_left; focus intro w hSw; (try dsimp only at hSw);  go_simp; try with_reducible rfl
        simp only [aput, aset, aze, asu]
        refine take_yes (i := 3) (d := some 35) (v := ?_) rfl rfl hHeld ?_ ?_; rotate_left; focus intro w hSw; (try dsimp only at hSw);  go_simp; try with_reducible rfl
        simp only [aput, aset, aze, asu]
        refine take_no (i := 4) (d := some 36) rfl rfl hHeld ?_; simp only [aput, aset, aze, asu]
        refine take_no (i := 5) (d := some 37) rfl rfl hHeld ?_; simp only [aput, aset, aze, asu]
        refine take_no (i := 6) (d := some 38) rfl rfl hHeld ?_; simp only [aput, aset, aze, asu]
        refine take_no (i := 7) (d := some 39) rfl rfl hHeld ?_; simp only [aput, aset, aze, asu]
        refine take_no (i := 8) (d := some 40) rfl rfl hHeld ?_; simp only [aput, aset, aze, asu]
        refine take_no (i := 9) (d := some 41) rfl rfl hHeld ?_; simp only [aput, aset, aze, asu]
        refine take_no (i := 10) (d := some 42) rfl rfl hHeld ?_; simp only [aput, aset, aze, asu]
        refine take_no (i := 11) (d := some 43) rfl rfl hHeld ?_; simp only [aput, aset, aze, asu]
        refine take_no (i := 12) (d := some 44) rfl rfl hHeld ?_; simp only [aput, aset, aze, asu]
        refine take_no (i := 13) (d := some 45) rfl rfl hHeld ?_; simp only [aput, aset, aze, asu]
        refine take_no (i := 14) (d := some 46) rfl rfl hHeld ?_; simp only [aput, aset, aze, asu]
        refine take_no (i := 15) (d := some 47) rfl rfl hHeld ?_; simp only [aput, aset, aze, asu]
        refine take_no (i := 16) (d := some 48) rfl rfl hHeld ?_; simp only [aput, aset, aze, asu]
        refine take_yes (i := 17) (d := some 49) (v := ?_) rfl rfl hHeld ?_ ?_; rotate_left; focus intro w hSw; (try dsimp only at hSw);  go_simp; try with_reducible rfl
        simp only [aput, aset, aze, asu]
        refine wpAnyH_done (by kernel_rfl) ?_ _
        obtain ⟨wz, hwz⟩ : ∃ z, z = wr.drew := ⟨_, rfl⟩
        rw [← hwz]
        have HZ : Hid (Later wr wz) := by rw [hwz]; exact (Later.refl wr).drew
        clear hHeld hwz
        have HCA : Hid (∀ y, Later wz y → y.cell? ⟨ma, fa, none⟩ = some (.slice ua xa.length va)) := fun y hy => HCA0.out y (below_trans HB.out (HZ.out.trans hy).below HB.out.size)
        go_wp2
        refine wp_region_held_drew (S := fun w' => Later wz w') (by kernel_rfl) (Later.refl wz).drew (fun hHeld => ?_)
        refine take_yes (i := 0) (d := some 50) (v := ?_) rfl rfl hHeld ?_ ?_; rotate_left; focus intro w hSw; (try dsimp only at hSw);  go_simp; try with_reducible rfl
        simp only [aput, aset, aze, asu]
        refine take_yes (i := 1) (d := some 51) (v := ?_) rfl rfl hHeld ?_ ?_; rotate_left; focus intro w hSw; (try dsimp only at hSw);  go_simp; try with_reducible rfl
        simp only [aput, aset, aze, asu]
        refine take_yes (i := 2) (d := some 52) (v := ?_) rfl rfl hHeld ?_ ?_; rotate_left; focus intro w hSw; (try dsimp only at hSw); have qa := HCA.out _ hSw; go_simp; try with_reducible rfl
        simp only [aput, aset, aze, asu]
        refine take_yes (i := 3) (d := some 53) (v := ?_) rfl rfl hHeld ?_ ?_; rotate_left; focus intro w hSw; (try dsimp only at hSw);  go_simp; try with_reducible rfl
        simp only [aput, aset, aze, asu]
        refine take_yes (i := 4) (d := some 54) (v := ?_) rfl rfl hHeld ?_ ?_; rotate_left; focus intro w hSw; (try dsimp only at hSw);  go_simp; try with_reducible rfl
        simp only [aput, aset, aze, asu]
        refine take_yes (i := 5) (d := some 6) (v := ?_) rfl rfl hHeld ?_ ?_; rotate_left; focus intro w hSw; (try dsimp only at hSw);  go_simp; try with_reducible rfl
        simp only [aput, aset, aze, asu]
        refine take_yes (i := 6) (d := some 3) (v := ?_) rfl rfl hHeld ?_ ?_; rotate_left; focus intro w hSw; (try dsimp only at hSw);  go_simp; try with_reducible rfl
        simp only [aput, aset, aze, asu]
        refine wpAnyH_done (by kernel_rfl) ?_ _
        obtain ⟨wx, hwx⟩ : ∃ z, z = wz.drew := ⟨_, rfl⟩
        rw [← hwx]
        have HX := hide (HZ.out.trans (by rw [hwx]; exact (Later.refl wz).drew : Later wz wx))
        clear hHeld hwx HZ
        rcases List.eq_nil_or_concat OO with eO | ⟨O', z, eO⟩
        · subst eO
          obtain rfl : on = 0 := HON.out
          obtain ⟨v', w7, hrun, hO7, hg7, hd7⟩ := RowL.more (HRO.out.later HX.out) (Nat.le_trans HB.out.size HX.out.size) HUA.out (by simp)
          have HO7 := hide hO7
          have HM7 := hide (HMk.out.next three_cmpBs HFx.out (fun z h => by simp at h))
          have HB7 : Hid (Below y2.heap.size y2 w7) := (below_trans HB.out ((HX.out.trans ((Later.refl wx).alloc _)).below) HB.out.size).grown hg7 (by have := HB.out.size; have := HX.out.size; simp; omega) (fun k e => (HRO.out.lo k e).1)
          obtain ⟨oa7, on7, oc7, rfl⟩ : ∃ a n c, v' = .slice a n c := by obtain ⟨a, c, e⟩ := RowL.slice hO7; exact ⟨a, _, c, e⟩
          have HRn := hide hrun
          clear hrun hO7 hg7 hd7
          go_wp2_with (at_builtin; refine wpList_append_run rfl (.tmp 73) (.tmp 75) 25 rfl _ _ _ _ rfl rfl HRn.out ?_)
          go_roundg (na - 1)
          case measure => have := HG.out; omega
          case rel => exact ⟨aa', na - 1, ac - 1, _, _, _, _, _, _, A', _, _, rfl, rfl, rfl, by show _ = _; have := HNA.out; simp at this; omega, HNB, by have := HG.out; omega, HTA, HVB, HO7, hide HM7.out, by show _ ≤ _; have := HNO.out; have := HG.out; simp only [List.length_append, List.length_cons, List.length_nil] at *; omega, HB7⟩
        · rw [List.concat_eq_append] at eO
          subst eO
          have hon : on = O'.length + 1 := by have := HON.out; simpa using this
          subst hon
          have hSO := RowL.sl (HRO.out.later HX.out) (below_trans HB.out HX.out.below HB.out.size) (by have := HNO.out; simp at this ⊢; omega)
          obtain ⟨b6, o6, _, rfl, hb6, ⟨zu, rfl, hzu⟩, hc6⟩ := Kind.sl_at hSO (i := O'.length) (x := z) (by simp)
          have d6 : wx.cell? ⟨b6, o6 + O'.length, none⟩ = some zu := by simpa [slK] using hc6 0 _ rfl
          have HLB := hide (lessBinds zu (.slice ua xa.length va) z xa wx hzu (Kind.sl_below HUA.out (below_trans HB.out HX.out.below HB.out.size)))
          obtain ⟨za, zc, rfl⟩ := Kind.slice hzu
          have hpos : ((O'.length + 1 : Nat) : Int) ≠ 0 := by omega
          have hpos2 : (((O'.length + 1 : Nat) : Int) == 0) = false := by simp; omega
          have hsub : ((O'.length + 1 : Nat) : Int) - 1 = (O'.length : Int) := by omega
          have hON := HNO.out
          have hsb : IntKind.i64.wrap (O'.length : Int) = (O'.length : Int) := by simp at hON; simp [IntKind.wrap, IntKind.bits, IntKind.signed]; omega
          clear hc6 hzu hSO hON
          cases hq : lessBs z xa
          · rw [hq] at HLB
            have HM7 := hide (HMk.out.skip three_cmpBs (z := z) (by simp) (by unfold lessBs at hq; simpa using hq))
            clear hq
            go_wp2_with fail
            refine HLB.out.mono ?_
            rintro e w4 ⟨rfl, hL4⟩
            have HO7 := hide (HRO.out.later (HX.out.trans hL4))
            have HB7 : Hid (Below y2.heap.size y2 w4) := below_trans HB.out (HX.out.trans hL4).below HB.out.size
            clear hL4 HLB
            go_wp2
            go_roundg (na - 1)
            case measure => have := HG.out; omega
            case rel => exact ⟨aa', na - 1, ac - 1, _, _, _, _, _, _, A', _, _, rfl, rfl, rfl, by show _ = _; have := HNA.out; simp at this; omega, HNB, by have := HG.out; omega, HTA, HVB, HO7, hide HM7.out, by show _ ≤ _; have := HNO.out; have := HG.out; simp only [List.length_append, List.length_cons, List.length_nil] at *; omega, HB7⟩
          · rw [hq] at HLB
            have HM7 := hide (HMk.out.next three_cmpBs HFx.out (fun z' h => by simp at h; subst h; unfold lessBs at hq; simpa using hq))
            clear hq
            go_wp2_with fail
            refine HLB.out.mono ?_
            rintro e w4 ⟨rfl, hL4⟩
            have HX4 := hide (HX.out.trans hL4)
            clear hL4 HLB
            obtain ⟨v', w7, hrun, hO7, hg7, hd7⟩ := RowL.more (HRO.out.later HX4.out) (Nat.le_trans HB.out.size HX4.out.size) HUA.out (by have := HNO.out; simp at this ⊢; omega)
            have HO7 := hide hO7
            have HB7 : Hid (Below y2.heap.size y2 w7) := (below_trans HB.out ((HX4.out.trans ((Later.refl w4).alloc _)).below) HB.out.size).grown hg7 (by have := HB.out.size; have := HX4.out.size; simp; omega) (fun k e => (HRO.out.lo k e).1)
            obtain ⟨oa7, on7, oc7, rfl⟩ : ∃ a n c, v' = .slice a n c := by obtain ⟨a, c, e⟩ := RowL.slice hO7; exact ⟨a, _, c, e⟩
            have HRn := hide hrun
            clear hrun hO7 hg7 hd7
            go_wp2_with (at_builtin; refine wpList_append_run rfl (.tmp 73) (.tmp 75) 25 rfl _ _ _ _ rfl rfl HRn.out ?_)
            go_roundg (na - 1)
            case measure => have := HG.out; omega
            case rel => exact ⟨aa', na - 1, ac - 1, _, _, _, _, _, _, A', _, _, rfl, rfl, rfl, by show _ = _; have := HNA.out; simp at this; omega, HNB, by have := HG.out; omega, HTA, HVB, HO7, hide HM7.out, by show _ ≤ _; have := HNO.out; have := HG.out; simp only [List.length_append, List.length_cons, List.length_nil] at *; omega, HB7⟩
      · skip
        obtain ⟨xa, A', rfl⟩ : ∃ x l, A = x :: l := by
          have := HNA.out
          cases A with
          | nil => simp at this; omega
          | cons x l => exact ⟨x, l, rfl⟩
        obtain ⟨ma, fa, _, rfl, hma, ⟨wa, rfl, hua⟩, hca⟩ := Kind.sl_at HVA.out (i := 0) (x := xa) (by simp)
        obtain ⟨ua, va, rfl⟩ := Kind.slice hua
        have HUA := hide hua
        have HCA0 : Hid (∀ y, Below y2.heap.size y2 y → y.cell? ⟨ma, fa, none⟩ = some (.slice ua xa.length va)) := fun y hy => by
          rw [hy.cell (p := ⟨ma, fa, none⟩) hma]
          simpa [slK] using hca 0 _ rfl
        clear hua hca
        have ha1 : (1 : Int) ≤ (na : Int) := by omega
        have ha0 : (0 : Int) < (na : Int) := by omega
        have han : 0 < na := by omega
        have had : decide (0 < na) = true := by simp; omega
        have hae : ((na : Int) == 0) = false := by simp; omega
        obtain ⟨aa', haa'⟩ : ∃ z, (if ac = 1 then some (⟨ma, fa, none⟩ : Addr) else some ⟨ma, fa + 1, none⟩) = z := ⟨_, rfl⟩
        have HTA : Hid (listK.sl Anyw y2 (.slice aa' (na - 1) (ac - 1)) A') := by
          have e : na - 1 = A'.length := by have := HNA.out; simp at this; omega
          rw [← haa', e]
          by_cases h0 : A'.length = 0
          · obtain rfl := List.eq_nil_of_length_eq_zero h0
            exact listK.sl_nil _ _ _ _
          · have hcap : na ≤ ac := HVA.out.1.2
            rw [if_neg (by omega)]
            exact sl_drop1 HVA.out 1 (by simp; omega)
        obtain ⟨xb, B', rfl⟩ : ∃ x l, B = x :: l := by
          have := HNB.out
          cases B with
          | nil => simp at this; omega
          | cons x l => exact ⟨x, l, rfl⟩
        obtain ⟨mb, fb, _, rfl, hmb, ⟨wb, rfl, hub⟩, hcb⟩ := Kind.sl_at HVB.out (i := 0) (x := xb) (by simp)
        obtain ⟨ub, vb, rfl⟩ := Kind.slice hub
        have HUB := hide hub
        have HCB0 : Hid (∀ y, Below y2.heap.size y2 y → y.cell? ⟨mb, fb, none⟩ = some (.slice ub xb.length vb)) := fun y hy => by
          rw [hy.cell (p := ⟨mb, fb, none⟩) hmb]
          simpa [slK] using hcb 0 _ rfl
        clear hub hcb
        have hb1 : (1 : Int) ≤ (nb : Int) := by omega
        have hb0 : (0 : Int) < (nb : Int) := by omega
        have hbn : 0 < nb := by omega
        have hbd : decide (0 < nb) = true := by simp; omega
        have hbe : ((nb : Int) == 0) = false := by simp; omega
        obtain ⟨ba', hba'⟩ : ∃ z, (if bc = 1 then some (⟨mb, fb, none⟩ : Addr) else some ⟨mb, fb + 1, none⟩) = z := ⟨_, rfl⟩
        have HTB : Hid (listK.sl Anyw y2 (.slice ba' (nb - 1) (bc - 1)) B') := by
          have e : nb - 1 = B'.length := by have := HNB.out; simp at this; omega
          rw [← hba', e]
          by_cases h0 : B'.length = 0
          · obtain rfl := List.eq_nil_of_length_eq_zero h0
            exact listK.sl_nil _ _ _ _
          · have hcap : nb ≤ bc := HVB.out.1.2
            rw [if_neg (by omega)]
            exact sl_drop1 HVB.out 1 (by simp; omega)
        have HLB0 : Hid (∀ y, Later wr y → Calls Tryz.prog 26 #[.slice ub xb.length vb, .slice ua xa.length va] y fun e w' => e = .returned (.bool (lessBs xb xa)) ∧ Later y w') := fun y hy => lessBinds _ _ xb xa y (Kind.sl_below HUB.out (below_trans HB.out hy.below HB.out.size)) (Kind.sl_below HUA.out (below_trans HB.out hy.below HB.out.size))
        have HCAr : Hid (∀ y, Later wr y → y.cell? ⟨ma, fa, none⟩ = some (.slice ua xa.length va) ∧ y.cell? ⟨mb, fb, none⟩ = some (.slice ub xb.length vb)) := fun y hy => ⟨HCA0.out y (below_trans HB.out hy.below HB.out.size), HCB0.out y (below_trans HB.out hy.below HB.out.size)⟩
        generalize hlb : lessBs xb xa = lb at *
        have HLQ := hide hlb
        clear hlb
        go_wp2
        refine wp_region_held_drew (S := fun w' => Later wr w') (by kernel_rfl) (Later.refl wr).drew (fun hHeld => ?_)
        refine take_yes (i := 0) (d := some 32) (v := ?_) rfl rfl hHeld ?_ ?_; rotate_left; focus intro w hSw; (try dsimp only at hSw);  go_simp; try with_reducible rfl
        simp only [aput, aset, aze, asu]
        refine take_yes (i := 1) (d := some 33) (v := ?_) rfl rfl hHeld ?_ ?_; rotate_left; focus intro w hSw; (try dsimp only at hSw);  go_simp; try with_reducible rfl
        simp only [aput, aset, aze, asu]
        refine take_yes (i := 2) (d := some 34) (v := ?_) rfl rfl hHeld ?_ ?_; rotate_left; focus intro w hSw; (try dsimp only at hSw);  go_simp; try with_reducible rfl
        simp only [aput, aset, aze, asu]
        refine take_yes (i := 3) (d := some 35) (v := ?_) rfl rfl hHeld ?_ ?_; rotate_left; focus intro w hSw; (try dsimp only at hSw);  go_simp; try with_reducible rfl
        simp only [aput, aset, aze, asu]
        refine take_yes (i := 4) (d := some 36) (v := ?_) rfl rfl hHeld ?_ ?_; rotate_left; focus intro w hSw; (try dsimp only at hSw);  go_simp; try with_reducible rfl
        simp only [aput, aset, aze, asu]
        refine take_yes (i := 5) (d := some 37) (v := ?_) rfl rfl hHeld ?_ ?_; rotate_left; focus intro w hSw; (try dsimp only at hSw);  go_simp; try with_reducible rfl
        simp only [aput, aset, aze, asu]
        refine take_yes (i := 6) (d := some 38) (v := ?_) rfl rfl hHeld ?_ ?_; rotate_left; focus intro w hSw; (try dsimp only at hSw);  go_simp; try with_reducible rfl
        simp only [aput, aset, aze, asu]
        refine take_yes (i := 7) (d := some 39) (v := ?_) rfl rfl hHeld ?_ ?_; rotate_left; focus intro w hSw; (try dsimp only at hSw);  go_simp; try with_reducible rfl
        simp only [aput, aset, aze, asu]
        refine take_yes (i := 8) (d := some 40) (v := ?_) rfl rfl hHeld ?_ ?_; rotate_left; focus intro w hSw; (try dsimp only at hSw);  go_simp; try with_reducible rfl
        simp only [aput, aset, aze, asu]
        refine take_yes (i := 9) (d := some 41) (v := ?_) rfl rfl hHeld ?_ ?_; rotate_left; focus intro w hSw; (try dsimp only at hSw);  go_simp; try with_reducible rfl
        simp only [aput, aset, aze, asu]
        refine take_yes (i := 10) (d := some 42) (v := ?_) rfl rfl hHeld ?_ ?_; rotate_left; focus intro w hSw; (try dsimp only at hSw); obtain ⟨qa, qb⟩ := HCAr.out _ hSw; go_simp; try with_reducible rfl
        simp only [aput, aset, aze, asu]
        refine take_yes (i := 11) (d := some 43) (v := ?_) rfl rfl hHeld ?_ ?_; rotate_left; focus intro w hSw; (try dsimp only at hSw);  go_simp; try with_reducible rfl
        simp only [aput, aset, aze, asu]
        refine take_yes (i := 12) (d := some 44) (v := ?_) rfl rfl hHeld ?_ ?_; rotate_left; focus intro w hSw; (try dsimp only at hSw);  go_simp; try with_reducible rfl
        simp only [aput, aset, aze, asu]
        refine take_yes (i := 13) (d := some 45) (v := ?_) rfl rfl hHeld ?_ ?_; rotate_left; focus intro w hSw; (try dsimp only at hSw); obtain ⟨qa, qb⟩ := HCAr.out _ hSw; go_simp; try with_reducible rfl
        simp only [aput, aset, aze, asu]
        refine wpAnyH_ready (rs := [14]) (by kernel_rfl) (by simp) ?_
        refine AllReadyH.cons rfl (fun K hK => ?_) AllReadyH.nil
        go_simp
        refine (HLB0.out _ hHeld).mono ?_
        rintro e wz ⟨rfl, hLz⟩
        dsimp only
        refine hK.out _ _ (hHeld.trans hLz) (fun hHeld => ?_)
        clear hK K
        refine take_yes (i := 15) (d := some 47) (v := ?_) rfl rfl hHeld ?_ ?_; rotate_left; focus intro w hSw; (try dsimp only at hSw);  go_simp; try with_reducible rfl
        simp only [aput, aset, aze, asu]
        refine take_yes (i := 16) (d := some 48) (v := ?_) rfl rfl hHeld ?_ ?_; rotate_left; focus intro w hSw; (try dsimp only at hSw);  go_simp; try with_reducible rfl
        simp only [aput, aset, aze, asu]
        refine take_yes (i := 17) (d := some 49) (v := ?_) rfl rfl hHeld ?_ ?_; rotate_left; focus intro w hSw; (try dsimp only at hSw);  go_simp; try with_reducible rfl
        simp only [aput, aset, aze, asu]
        refine wpAnyH_done (by kernel_rfl) ?_ _
        have HZ : Hid (Later wr wz) := hHeld
        clear hHeld hLz HLB0 HCAr
        have HCA : Hid (∀ y, Later wz y → y.cell? ⟨ma, fa, none⟩ = some (.slice ua xa.length va)) := fun y hy => HCA0.out y (below_trans HB.out (HZ.out.trans hy).below HB.out.size)
        have HCB : Hid (∀ y, Later wz y → y.cell? ⟨mb, fb, none⟩ = some (.slice ub xb.length vb)) := fun y hy => HCB0.out y (below_trans HB.out (HZ.out.trans hy).below HB.out.size)
        cases lb
        · have HFx := hide (HMg.out.first three_cmpBs (by have := HLQ.out; unfold lessBs at this; simpa using this))
          have HMk := hide HMg.out
          go_wp2
          refine wp_region_held_drew (S := fun w' => Later wz w') (by kernel_rfl) (Later.refl wz).drew (fun hHeld => ?_)
          refine take_yes (i := 0) (d := some 50) (v := ?_) rfl rfl hHeld ?_ ?_; rotate_left; focus intro w hSw; (try dsimp only at hSw);  go_simp; try with_reducible rfl
          simp only [aput, aset, aze, asu]
          refine take_yes (i := 1) (d := some 51) (v := ?_) rfl rfl hHeld ?_ ?_; rotate_left; focus intro w hSw; (try dsimp only at hSw);  go_simp; try with_reducible rfl
          simp only [aput, aset, aze, asu]
          refine take_yes (i := 2) (d := some 52) (v := ?_) rfl rfl hHeld ?_ ?_; rotate_left; focus intro w hSw; (try dsimp only at hSw); have qa := HCA.out _ hSw; go_simp; try with_reducible rfl
          simp only [aput, aset, aze, asu]
          refine take_yes (i := 3) (d := some 53) (v := ?_) rfl rfl hHeld ?_ ?_; rotate_left; focus intro w hSw; (try dsimp only at hSw);  go_simp; try with_reducible rfl
          simp only [aput, aset, aze, asu]
          refine take_yes (i := 4) (d := some 54) (v := ?_) rfl rfl hHeld ?_ ?_; rotate_left; focus intro w hSw; (try dsimp only at hSw);  go_simp; try with_reducible rfl
          simp only [aput, aset, aze, asu]
          refine take_yes (i := 5) (d := some 6) (v := ?_) rfl rfl hHeld ?_ ?_; rotate_left; focus intro w hSw; (try dsimp only at hSw);  go_simp; try with_reducible rfl
          simp only [aput, aset, aze, asu]
          refine take_yes (i := 6) (d := some 3) (v := ?_) rfl rfl hHeld ?_ ?_; rotate_left; focus intro w hSw; (try dsimp only at hSw);  go_simp; try with_reducible rfl
          simp only [aput, aset, aze, asu]
          refine wpAnyH_done (by kernel_rfl) ?_ _
          obtain ⟨wx, hwx⟩ : ∃ z, z = wz.drew := ⟨_, rfl⟩
          rw [← hwx]
          have HX := hide (HZ.out.trans (by rw [hwx]; exact (Later.refl wz).drew : Later wz wx))
          clear hHeld hwx HZ
          rcases List.eq_nil_or_concat OO with eO | ⟨O', z, eO⟩
          · subst eO
            obtain rfl : on = 0 := HON.out
            obtain ⟨v', w7, hrun, hO7, hg7, hd7⟩ := RowL.more (HRO.out.later HX.out) (Nat.le_trans HB.out.size HX.out.size) HUA.out (by simp)
            have HO7 := hide hO7
            have HM7 := hide (HMk.out.next three_cmpBs HFx.out (fun z h => by simp at h))
            have HB7 : Hid (Below y2.heap.size y2 w7) := (below_trans HB.out ((HX.out.trans ((Later.refl wx).alloc _)).below) HB.out.size).grown hg7 (by have := HB.out.size; have := HX.out.size; simp; omega) (fun k e => (HRO.out.lo k e).1)
            obtain ⟨oa7, on7, oc7, rfl⟩ : ∃ a n c, v' = .slice a n c := by obtain ⟨a, c, e⟩ := RowL.slice hO7; exact ⟨a, _, c, e⟩
            have HRn := hide hrun
            clear hrun hO7 hg7 hd7
            go_wp2_with (at_builtin; refine wpList_append_run rfl (.tmp 73) (.tmp 75) 25 rfl _ _ _ _ rfl rfl HRn.out ?_)
            go_roundg (na + nb - 1)
            case measure => have := HG.out; omega
            case rel => exact ⟨aa', na - 1, ac - 1, _, _, _, _, _, _, A', _, _, rfl, rfl, rfl, by show _ = _; have := HNA.out; simp at this; omega, HNB, by have := HG.out; omega, HTA, HVB, HO7, hide HM7.out, by show _ ≤ _; have := HNO.out; have := HG.out; simp only [List.length_append, List.length_cons, List.length_nil] at *; omega, HB7⟩
          · rw [List.concat_eq_append] at eO
            subst eO
            have hon : on = O'.length + 1 := by have := HON.out; simpa using this
            subst hon
            have hSO := RowL.sl (HRO.out.later HX.out) (below_trans HB.out HX.out.below HB.out.size) (by have := HNO.out; simp at this ⊢; omega)
            obtain ⟨b6, o6, _, rfl, hb6, ⟨zu, rfl, hzu⟩, hc6⟩ := Kind.sl_at hSO (i := O'.length) (x := z) (by simp)
            have d6 : wx.cell? ⟨b6, o6 + O'.length, none⟩ = some zu := by simpa [slK] using hc6 0 _ rfl
            have HLB := hide (lessBinds zu (.slice ua xa.length va) z xa wx hzu (Kind.sl_below HUA.out (below_trans HB.out HX.out.below HB.out.size)))
            obtain ⟨za, zc, rfl⟩ := Kind.slice hzu
            have hpos : ((O'.length + 1 : Nat) : Int) ≠ 0 := by omega
            have hpos2 : (((O'.length + 1 : Nat) : Int) == 0) = false := by simp; omega
            have hsub : ((O'.length + 1 : Nat) : Int) - 1 = (O'.length : Int) := by omega
            have hON := HNO.out
            have hsb : IntKind.i64.wrap (O'.length : Int) = (O'.length : Int) := by simp at hON; simp [IntKind.wrap, IntKind.bits, IntKind.signed]; omega
            clear hc6 hzu hSO hON
            cases hq : lessBs z xa
            · rw [hq] at HLB
              have HM7 := hide (HMk.out.skip three_cmpBs (z := z) (by simp) (by unfold lessBs at hq; simpa using hq))
              clear hq
              go_wp2_with fail
              refine HLB.out.mono ?_
              rintro e w4 ⟨rfl, hL4⟩
              have HO7 := hide (HRO.out.later (HX.out.trans hL4))
              have HB7 : Hid (Below y2.heap.size y2 w4) := below_trans HB.out (HX.out.trans hL4).below HB.out.size
              clear hL4 HLB
              go_wp2
              go_roundg (na + nb - 1)
              case measure => have := HG.out; omega
              case rel => exact ⟨aa', na - 1, ac - 1, _, _, _, _, _, _, A', _, _, rfl, rfl, rfl, by show _ = _; have := HNA.out; simp at this; omega, HNB, by have := HG.out; omega, HTA, HVB, HO7, hide HM7.out, by show _ ≤ _; have := HNO.out; have := HG.out; simp only [List.length_append, List.length_cons, List.length_nil] at *; omega, HB7⟩
            · rw [hq] at HLB
              have HM7 := hide (HMk.out.next three_cmpBs HFx.out (fun z' h => by simp at h; subst h; unfold lessBs at hq; simpa using hq))
              clear hq
              go_wp2_with fail
              refine HLB.out.mono ?_
              rintro e w4 ⟨rfl, hL4⟩
              have HX4 := hide (HX.out.trans hL4)
              clear hL4 HLB
              obtain ⟨v', w7, hrun, hO7, hg7, hd7⟩ := RowL.more (HRO.out.later HX4.out) (Nat.le_trans HB.out.size HX4.out.size) HUA.out (by have := HNO.out; simp at this ⊢; omega)
              have HO7 := hide hO7
              have HB7 : Hid (Below y2.heap.size y2 w7) := (below_trans HB.out ((HX4.out.trans ((Later.refl w4).alloc _)).below) HB.out.size).grown hg7 (by have := HB.out.size; have := HX4.out.size; simp; omega) (fun k e => (HRO.out.lo k e).1)
              obtain ⟨oa7, on7, oc7, rfl⟩ : ∃ a n c, v' = .slice a n c := by obtain ⟨a, c, e⟩ := RowL.slice hO7; exact ⟨a, _, c, e⟩
              have HRn := hide hrun
              clear hrun hO7 hg7 hd7
              go_wp2_with (at_builtin; refine wpList_append_run rfl (.tmp 73) (.tmp 75) 25 rfl _ _ _ _ rfl rfl HRn.out ?_)
              go_roundg (na + nb - 1)
              case measure => have := HG.out; omega
              case rel => exact ⟨aa', na - 1, ac - 1, _, _, _, _, _, _, A', _, _, rfl, rfl, rfl, by show _ = _; have := HNA.out; simp at this; omega, HNB, by have := HG.out; omega, HTA, HVB, HO7, hide HM7.out, by show _ ≤ _; have := HNO.out; have := HG.out; simp only [List.length_append, List.length_cons, List.length_nil] at *; omega, HB7⟩
        · have HFx : Hid (∀ z ∈ xa :: A', cmpBs xb z ≤ 0) := HMg.out.swap.first three_cmpBs (by have := HLQ.out; unfold lessBs at this; have := three_cmpBs.swap xa xb; simp at *; omega)
          have HMk := hide HMg.out.swap
          go_wp2
          refine wp_region_held_drew (S := fun w' => Later wz w') (by kernel_rfl) (Later.refl wz).drew (fun hHeld => ?_)
          refine take_yes (i := 0) (d := some 55) (v := ?_) rfl rfl hHeld ?_ ?_; rotate_left; focus intro w hSw; (try dsimp only at hSw);  go_simp; try with_reducible rfl
          simp only [aput, aset, aze, asu]
          refine take_yes (i := 1) (d := some 56) (v := ?_) rfl rfl hHeld ?_ ?_; rotate_left; focus intro w hSw; (try dsimp only at hSw);  go_simp; try with_reducible rfl
          simp only [aput, aset, aze, asu]
          refine take_yes (i := 2) (d := some 57) (v := ?_) rfl rfl hHeld ?_ ?_; rotate_left; focus intro w hSw; (try dsimp only at hSw); have qb := HCB.out _ hSw; go_simp; try with_reducible rfl
          simp only [aput, aset, aze, asu]
          refine take_yes (i := 3) (d := some 58) (v := ?_) rfl rfl hHeld ?_ ?_; rotate_left; focus intro w hSw; (try dsimp only at hSw);  go_simp; try with_reducible rfl
          simp only [aput, aset, aze, asu]
          refine take_yes (i := 4) (d := some 59) (v := ?_) rfl rfl hHeld ?_ ?_; rotate_left; focus intro w hSw; (try dsimp only at hSw);  go_simp; try with_reducible rfl
          simp only [aput, aset, aze, asu]
          refine take_yes (i := 5) (d := some 6) (v := ?_) rfl rfl hHeld ?_ ?_; rotate_left; focus intro w hSw; (try dsimp only at hSw);  go_simp; try with_reducible rfl
          simp only [aput, aset, aze, asu]
          refine take_yes (i := 6) (d := some 4) (v := ?_) rfl rfl hHeld ?_ ?_; rotate_left; focus intro w hSw; (try dsimp only at hSw);  go_simp; try with_reducible rfl
          simp only [aput, aset, aze, asu]
          refine wpAnyH_done (by kernel_rfl) ?_ _
          obtain ⟨wx, hwx⟩ : ∃ z, z = wz.drew := ⟨_, rfl⟩
          rw [← hwx]
          have HX := hide (HZ.out.trans (by rw [hwx]; exact (Later.refl wz).drew : Later wz wx))
          clear hHeld hwx HZ
          rcases List.eq_nil_or_concat OO with eO | ⟨O', z, eO⟩
          · subst eO
            obtain rfl : on = 0 := HON.out
            obtain ⟨v', w7, hrun, hO7, hg7, hd7⟩ := RowL.more (HRO.out.later HX.out) (Nat.le_trans HB.out.size HX.out.size) HUB.out (by simp)
            have HO7 := hide hO7
            have HM7 := hide (HMk.out.next three_cmpBs HFx.out (fun z h => by simp at h))
            have HB7 : Hid (Below y2.heap.size y2 w7) := (below_trans HB.out ((HX.out.trans ((Later.refl wx).alloc _)).below) HB.out.size).grown hg7 (by have := HB.out.size; have := HX.out.size; simp; omega) (fun k e => (HRO.out.lo k e).1)
            obtain ⟨oa7, on7, oc7, rfl⟩ : ∃ a n c, v' = .slice a n c := by obtain ⟨a, c, e⟩ := RowL.slice hO7; exact ⟨a, _, c, e⟩
            have HRn := hide hrun
            clear hrun hO7 hg7 hd7
            go_wp2_with (at_builtin; refine wpList_append_run rfl (.tmp 73) (.tmp 75) 25 rfl _ _ _ _ rfl rfl HRn.out ?_)
            go_roundg (na + nb - 1)
            case measure => have := HG.out; omega
            case rel => exact ⟨_, _, _, ba', nb - 1, bc - 1, _, _, _, _, B', _, rfl, rfl, rfl, HNA, by show _ = _; have := HNB.out; simp at this; omega, by have := HG.out; omega, HVA, HTB, HO7, hide HM7.out.swap, by show _ ≤ _; have := HNO.out; have := HG.out; simp only [List.length_append, List.length_cons, List.length_nil] at *; omega, HB7⟩
          · rw [List.concat_eq_append] at eO
            subst eO
            have hon : on = O'.length + 1 := by have := HON.out; simpa using this
            subst hon
            have hSO := RowL.sl (HRO.out.later HX.out) (below_trans HB.out HX.out.below HB.out.size) (by have := HNO.out; simp at this ⊢; omega)
            obtain ⟨b6, o6, _, rfl, hb6, ⟨zu, rfl, hzu⟩, hc6⟩ := Kind.sl_at hSO (i := O'.length) (x := z) (by simp)
            have d6 : wx.cell? ⟨b6, o6 + O'.length, none⟩ = some zu := by simpa [slK] using hc6 0 _ rfl
            have HLB := hide (lessBinds zu (.slice ub xb.length vb) z xb wx hzu (Kind.sl_below HUB.out (below_trans HB.out HX.out.below HB.out.size)))
            obtain ⟨za, zc, rfl⟩ := Kind.slice hzu
            have hpos : ((O'.length + 1 : Nat) : Int) ≠ 0 := by omega
            have hpos2 : (((O'.length + 1 : Nat) : Int) == 0) = false := by simp; omega
            have hsub : ((O'.length + 1 : Nat) : Int) - 1 = (O'.length : Int) := by omega
            have hON := HNO.out
            have hsb : IntKind.i64.wrap (O'.length : Int) = (O'.length : Int) := by simp at hON; simp [IntKind.wrap, IntKind.bits, IntKind.signed]; omega
            clear hc6 hzu hSO hON
            cases hq : lessBs z xb
            · rw [hq] at HLB
              have HM7 := hide (HMk.out.skip three_cmpBs (z := z) (by simp) (by unfold lessBs at hq; simpa using hq))
              clear hq
              go_wp2_with fail
              refine HLB.out.mono ?_
              rintro e w4 ⟨rfl, hL4⟩
              have HO7 := hide (HRO.out.later (HX.out.trans hL4))
              have HB7 : Hid (Below y2.heap.size y2 w4) := below_trans HB.out (HX.out.trans hL4).below HB.out.size
              clear hL4 HLB
              go_wp2
              go_roundg (na + nb - 1)
              case measure => have := HG.out; omega
              case rel => exact ⟨_, _, _, ba', nb - 1, bc - 1, _, _, _, _, B', _, rfl, rfl, rfl, HNA, by show _ = _; have := HNB.out; simp at this; omega, by have := HG.out; omega, HVA, HTB, HO7, hide HM7.out.swap, by show _ ≤ _; have := HNO.out; have := HG.out; simp only [List.length_append, List.length_cons, List.length_nil] at *; omega, HB7⟩
            · rw [hq] at HLB
              have HM7 := hide (HMk.out.next three_cmpBs HFx.out (fun z' h => by simp at h; subst h; unfold lessBs at hq; simpa using hq))
              clear hq
              go_wp2_with fail
              refine HLB.out.mono ?_
              rintro e w4 ⟨rfl, hL4⟩
              have HX4 := hide (HX.out.trans hL4)
              clear hL4 HLB
              obtain ⟨v', w7, hrun, hO7, hg7, hd7⟩ := RowL.more (HRO.out.later HX4.out) (Nat.le_trans HB.out.size HX4.out.size) HUB.out (by have := HNO.out; simp at this ⊢; omega)
              have HO7 := hide hO7
              have HB7 : Hid (Below y2.heap.size y2 w7) := (below_trans HB.out ((HX4.out.trans ((Later.refl w4).alloc _)).below) HB.out.size).grown hg7 (by have := HB.out.size; have := HX4.out.size; simp; omega) (fun k e => (HRO.out.lo k e).1)
              obtain ⟨oa7, on7, oc7, rfl⟩ : ∃ a n c, v' = .slice a n c := by obtain ⟨a, c, e⟩ := RowL.slice hO7; exact ⟨a, _, c, e⟩
              have HRn := hide hrun
              clear hrun hO7 hg7 hd7
              go_wp2_with (at_builtin; refine wpList_append_run rfl (.tmp 73) (.tmp 75) 25 rfl _ _ _ _ rfl rfl HRn.out ?_)
              go_roundg (na + nb - 1)
              case measure => have := HG.out; omega
              case rel => exact ⟨_, _, _, ba', nb - 1, bc - 1, _, _, _, _, B', _, rfl, rfl, rfl, HNA, by show _ = _; have := HNB.out; simp at this; omega, by have := HG.out; omega, HVA, HTB, HO7, hide HM7.out.swap, by show _ ≤ _; have := HNO.out; have := HG.out; simp only [List.length_append, List.length_cons, List.length_nil] at *; omega, HB7⟩
    -- ENDS

/-- Merge, whole. -/
theorem rMerge : ∀ (n : Nat) (L : List (List BindD)) (v : Value) (w : World), L.length ≤ n → L.length ≤ 1000000 → listK.sl Anyw w v L → Calls Tryz.prog 25 #[v] w (MergeT L w)
  | 0, L, v, w, h, _, hv => merge_small L v w (by omega) hv
  | n + 1, L, v, w, h, hM, hv => by
    by_cases h2 : L.length < 2
    · exact merge_small L v w h2 hv
    · exact merge_big n (fun L v w => rMerge n L v w) L v w h hM (by omega) hv

end Go.Proofs.YtkijmalapjiopaaGreat

/- The reference's Fill: an atom filled. -/
namespace Go.Proofs.YtkijmalapjiopaaGreat
open Go.RowKit Go.Sort Go.Maps

set_option maxRecDepth 100000 in
set_option maxHeartbeats 400000 in
theorem rFill4 (a : AtomD) (tv : Value) (l : List BindD) (b n : Nat) (w : World) (ht : termK.sl Anyw w tv a.terms) (he : EnvM w b n l) (hts : ∀ t ∈ a.terms, t.2.length ≤ maxLen) :
    Calls Tryz.prog 9 #[.agg #[.bool a.no, .string (bs a.name), tv], .map (some b)] w fun e w' => ∃ v, e = .returned (.tuple #[v, .bool (fillB a l).isSome]) ∧ FactV w' v (filled a l) ∧ Later w w' := by
  obtain ⟨sa, cap, rfl⟩ := Kind.slice ht
  have HT := hide ht
  have HE := hide he
  have HTS := hide hts
  have hn := ht.1.1
  clear ht he hts
  obtain ⟨no, name, ts⟩ := a
  dsimp only at *
  have F : Hid (∀ r, fillArgs l ts = r → fillB ⟨no, name, ts⟩ l = r.map fun x => (bs name, x)) := fun r h => by unfold fillB; rw [h]; cases r <;> rfl
  unfold filled
  generalize hfb : fillB ⟨no, name, ts⟩ l = fb at *
  clear hfb
  generalize bs name = nm at *
  go_enter Tryz.func9, Tryz.ntmps9
  go_wp2
  go_loopg [17] ts.length (fun g i wr => ∃ j : Nat, j + g = ts.length ∧ i = .int .i64 j ∧ ∃ r o, Hid (fillArgs l (ts.take j) = some r) ∧ Hid (bsK.own 9 (w.heap.size + 3) wr o r) ∧ Hid (r.length = j) ∧ Hid (Later w wr) ∧ w.heap.size + 3 ≤ wr.heap.size ∧
    Hid (wr.heap[w.heap.size + 1]? = some (.cells #[.string { data := #[] }, .slice none 0 0] 41 (0, 0))) ∧ Hid (wr.heap[w.heap.size + 2]? = some (.cells #[.string nm, o] 41 (0, 0))))
  case atStart =>
    refine ⟨0, by omega, rfl, [], .slice none 0 0, (rfl : _ = _), bsK.own_nil _ _ _, (rfl : _ = _), ((by repeat (first | exact Later.refl _ | assumption | refine Later.drewN ?_ _ | refine Later.drew ?_ | refine Later.alloc ?_ _ | refine Later.grow ?_ _)) : Later _ _), by simp, ?_, ?_⟩
    all_goals
      show _ = _
      simp only [heap_at, World.size_alloc]
      repeat (first | rw [if_pos trivial] | rw [if_pos (by omega)] | rw [if_neg (by omega)])
  case round =>
    obtain ⟨j, hj, rfl, r, o, HR, HO, hrl, HL, hsz, H2, H3⟩ := hrel
    obtain ⟨ao, co, rfl⟩ := Kind.own_slice HO.out
    by_cases hlt : j < ts.length
    · obtain ⟨x, hx⟩ : ∃ x, ts[j]? = some x := ⟨_, List.getElem?_eq_getElem hlt⟩
      obtain ⟨b1, o1, _, rfl, hb1, rfl, hc⟩ := Kind.sl_at HT.out hx
      have d0 : wr.cell? ⟨b1, o1 + j * 2, none⟩ = some (.bool x.1) := by rw [HL.out.cell hb1]; exact hc 0 _ rfl
      have d1 : wr.cell? ⟨b1, o1 + j * 2 + 1, none⟩ = some (.string (bs x.2)) := by rw [HL.out.cell hb1]; exact hc 1 _ rfl
      have hbr : b1 < wr.heap.size := by have := HL.out.size; omega
      have HS := hide (fillArgs_step hx HR.out)
      have hxl := HTS.out x (List.mem_of_getElem? hx)
      obtain ⟨wt, hwt⟩ : ∃ wt, wt = wr.alloc (.cells #[.bool x.1, .string (bs x.2)] 70) := ⟨_, rfl⟩
      have hLt : Later w wt := by rw [hwt]; exact HL.out.alloc _
      have hst : wt.heap.size = wr.heap.size + 1 := by rw [hwt]; simp
      have hbl : ∀ k, k < wr.heap.size → wt.heap[k]? = wr.heap[k]? := fun k hk => by rw [hwt]; exact Below.heap_alloc _ _ _ hk
      have hlk := (HE.out.later hLt).look (s := x.2) hxl
      have HWT := hide hwt
      clear hc hx
      obtain ⟨x1, x2⟩ := x
      dsimp only at *
      have hww : worthB l (x1, x2) = if x1 then getB l (bs x2) else some (bs x2) := rfl
      cases hw : worthB l (x1, x2) with
      | none =>
        rw [hw] at HS
        have HF : Hid (fb = none) := F.out none (fillArgs_stop HS.out)
        have hx1 : x1 = true := by cases x1 with | true => rfl | false => rw [hw] at hww; simp at hww
        subst hx1
        rw [hw] at hww
        simp only [if_true] at hww
        rw [← hww] at hlk
        dsimp only [Option.getD_none, Option.isSome_none] at hlk
        have Z2 := hide ((hbl _ (by omega)).trans H2.out)
        have HL2 := hide hLt
        have HLk := hide hlk
        rw [HWT.out] at Z2 HL2 HLk
        obtain ⟨q0, q1, p0, p1, q2⟩ := row2 Z2.out
        clear hw hww HS hlk hLt hbl hwt HWT hst hxl
        generalize bs x2 = kx at *
        go_wp2_with (at_lookup; refine wpList_run_lookup _ rfl _ _ _ _ rfl _ _ _ rfl rfl HLk.out ?_)
        obtain ⟨r0, r1⟩ := set_two Z2.out (.string { data := #[] }) (.slice none 0 0)
        refine bodyPost_ret (v := .tuple #[.agg #[.string { data := #[] }, .slice none 0 0], .bool false]) (by simp [results, Tryz.results9, go_sem, r0, r1]) rfl ⟨_, by rw [HF.out]; rfl, ?_, ?_⟩
        · rw [HF.out]
          exact ⟨_, rfl, by simp [noFact], none, 0, rfl, fun h => absurd rfl h⟩
        · exact (HL2.out.setCell (by show w.heap.size ≤ w.heap.size + 1; omega) _).setCell (by show w.heap.size ≤ w.heap.size + 1; omega) _
      | some s =>
        rw [hw] at HS
        have HS1 : Hid (fillArgs l (ts.take (j + 1)) = some (r ++ [s])) := HS.out
        obtain ⟨q0, q1, p0, p1, q2⟩ := row2 ((hbl _ (by omega)).trans H3.out)
        obtain ⟨v', w4, hrun, hO4, hg4, hd4, hv4⟩ := appendArg (Kind.own_kept HO.out (by omega : wr.heap.size ≤ wt.heap.size) fun k hk _ => hbl k hk) s (by have := hrl.out; omega) (by omega)
        have hlo : ∀ k, (Value.slice ao r.length co).ownBlock = some k → w.heap.size + 3 ≤ k := fun k e => (Kind.own_lt HO.out e).1
        have hb4 : ∀ k, k < w.heap.size + 3 → w4.heap[k]? = wr.heap[k]? := fun k hk => by
          rw [hg4.block k (by simp; omega) (fun e => by have := hlo k e.symm; omega), Below.heap_alloc _ _ _ (by omega)]
          exact hbl k (by omega)
        have hs4 : wt.heap.size < w4.heap.size := by have := hg4.size; simp at this; omega
        have HL4 := hide (hLt.more hg4 hd4 fun k e => by have := hlo k e; omega)
        have Z3 := hide ((hb4 _ (by omega)).trans H3.out)
        obtain ⟨_, y1, _, t1, y2⟩ := row2 Z3.out
        have Z2 := hide ((hb4 _ (by omega)).trans H2.out)
        obtain ⟨a4, n4, c4, rfl⟩ : ∃ a n c, v' = .slice a n c := by obtain ⟨a, c, e⟩ := Kind.own_slice hO4; exact ⟨a, _, c, e⟩
        have HR4 := hide hrun
        have HO4 := hide hO4
        have HLk := hide hlk
        rw [HWT.out] at q0 q1 p0 p1 q2 HR4 HLk
        simp only [World.size_alloc] at HR4
        cases x1
        · have hs : s = bs x2 := by rw [hw] at hww; simpa using hww
          subst hs
          clear hw hww HS hlk HLk hLt hbl hwt hrun hO4 hg4 hd4 hv4 hb4 hst hxl HWT
          generalize bs x2 = kx at *
          go_wp2_with (at_builtin; refine wpList_append_run rfl (.tmp 36) (.tmp 38) 39 rfl _ _ _ _ rfl rfl HR4.out ?_)
          go_roundg (ts.length - (j + 1))
          case measure => omega
          case rel =>
            refine ⟨j + 1, by omega, by go_num, r ++ [kx], .slice a4 n4 c4, HS1, ?_, (by simp [hrl.out] : (r ++ [kx]).length = j + 1), ?_, ?_, ?_, ?_⟩
            · exact Kind.own_kept HO4.out (by simp [World.setCell]) fun k _ hk => Below.heap_setCell _ _ _ _ (by show k ≠ w.heap.size + 2; omega)
            · exact (Later.setCell HL4.out (p := ⟨w.heap.size + 1 + 1, 1, none⟩) (by show w.heap.size ≤ w.heap.size + 2; omega) _ : Later _ _)
            · simp [World.setCell]; omega
            · show _ = _
              rw [Below.heap_setCell _ _ _ _ (by show w.heap.size + 1 ≠ w.heap.size + 2; omega)]; exact Z2.out
            · show _ = _
              rw [set_at Z3.out]; rfl
        · have hs : getB l (bs x2) = some s := by rw [hw] at hww; simpa using hww.symm
          rw [hs] at HLk
          dsimp only [Option.getD_some, Option.isSome_some] at HLk
          clear hs hw hww HS hlk hLt hbl hwt hrun hO4 hg4 hd4 hv4 hb4 hst hxl HWT
          generalize bs x2 = kx at *
          go_wp2_with (first
            | (at_lookup; refine wpList_run_lookup _ rfl _ _ _ _ rfl _ _ _ rfl rfl HLk.out ?_)
            | (at_builtin; refine wpList_append_run rfl (.tmp 36) (.tmp 38) 39 rfl _ _ _ _ rfl rfl HR4.out ?_))
          go_roundg (ts.length - (j + 1))
          case measure => omega
          case rel =>
            refine ⟨j + 1, by omega, by go_num, r ++ [s], .slice a4 n4 c4, HS1, ?_, (by simp [hrl.out] : (r ++ [s]).length = j + 1), ?_, ?_, ?_, ?_⟩
            · exact Kind.own_kept HO4.out (by simp [World.setCell]) fun k _ hk => Below.heap_setCell _ _ _ _ (by show k ≠ w.heap.size + 2; omega)
            · exact (Later.setCell HL4.out (p := ⟨w.heap.size + 1 + 1, 1, none⟩) (by show w.heap.size ≤ w.heap.size + 2; omega) _ : Later _ _)
            · simp [World.setCell]; omega
            · show _ = _
              rw [Below.heap_setCell _ _ _ _ (by show w.heap.size + 1 ≠ w.heap.size + 2; omega)]; exact Z2.out
            · show _ = _
              rw [set_at Z3.out]; rfl
    · have e : j = ts.length := by omega
      subst e
      have HR1 : Hid (fb = some (nm, r)) := by
        have := HR.out
        rw [List.take_length] at this
        exact F.out _ this
      obtain ⟨q0, q1, p0, p1, q2⟩ := row2 H2.out
      obtain ⟨y0, y1, t0, t1, y2⟩ := row2 H3.out
      go_wp2
      obtain ⟨r0, r1⟩ := set_two (R := w.heap.size + 1) H2.out (.string nm) (.slice ao r.length co)
      refine bodyPost_ret (v := .tuple #[.agg #[.string nm, .slice ao r.length co], .bool true]) (by simp [results, Tryz.results9, go_sem, r0, r1]) rfl ⟨_, by rw [HR1.out]; rfl, ?_, ?_⟩
      · rw [HR1.out]
        refine factV_kept HO.out (by have := hrl.out; omega) (fun k hk => ?_) (by simp [World.setCell])
        rw [Below.heap_setCell _ _ _ _ (by show k ≠ w.heap.size + 1; omega), Below.heap_setCell _ _ _ _ (by show k ≠ w.heap.size + 1; omega)]
      · exact (HL.out.setCell (by show w.heap.size ≤ w.heap.size + 1; omega) _).setCell (by show w.heap.size ≤ w.heap.size + 1; omega) _

end Go.Proofs.YtkijmalapjiopaaGreat

/- All that follows: the document's answer of chapter 5, plain: what a rule makes, one round, a stratum, all; and what programs with which nothing is wrong are. Nothing of the program. -/
namespace Go.Proofs.YtkijmalapjiopaaGreat

/-- Rising, each once. -/
abbrev Up (s : List FactB) : Prop := s.Pairwise fun a b => cmpF a b < 0

def dropTwice : List FactB → List FactB
  | [] => []
  | f :: l => if inB l f then dropTwice l else f :: dropTwice l
theorem mem_dropTwice : ∀ {l : List FactB} {f : FactB}, f ∈ dropTwice l ↔ f ∈ l
  | [], f => by simp [dropTwice]
  | g :: l, f => by
    unfold dropTwice
    split
    · rename_i h
      rw [mem_dropTwice, List.mem_cons]
      exact ⟨Or.inr, fun h' => h'.elim (fun e => by rw [e]; exact inB_iff.1 h) id⟩
    · rw [List.mem_cons, List.mem_cons, mem_dropTwice]
theorem dropTwice_nodup : ∀ (l : List FactB), (dropTwice l).Nodup
  | [] => List.nodup_nil
  | g :: l => by
    unfold dropTwice
    split
    · exact dropTwice_nodup l
    · rename_i h
      exact List.nodup_cons.2 ⟨fun h' => h (inB_iff.2 (mem_dropTwice.1 h')), dropTwice_nodup l⟩
theorem dropTwice_len : ∀ (l : List FactB), (dropTwice l).length ≤ l.length
  | [] => Nat.le_refl _
  | g :: l => by
    have := dropTwice_len l
    unfold dropTwice
    split <;> simp <;> omega

/-- Facts as a set. -/
def setF (l : List FactB) : List FactB := sortBy cmpF (dropTwice l)
theorem mem_setF {l : List FactB} {f : FactB} : f ∈ setF l ↔ f ∈ l := by
  unfold setF; rw [(sortBy_perm _).mem_iff, mem_dropTwice]
theorem setF_up (l : List FactB) : Up (setF l) := strict_of three_cmpF (sortBy_sorted three_cmpF _) ((sortBy_perm _).nodup_iff.2 (dropTwice_nodup l))
theorem setF_len (l : List FactB) : (setF l).length ≤ l.length := by
  unfold setF; rw [(sortBy_perm _).length_eq]; exact dropTwice_len l
theorem up_ext {s t : List FactB} (hs : Up s) (ht : Up t) (h : ∀ f, f ∈ s ↔ f ∈ t) : s = t := rise_ext three_cmpF hs ht h
theorem setF_of {s l : List FactB} (hs : Up s) (h : ∀ f, f ∈ s ↔ f ∈ l) : s = setF l := up_ext hs (setF_up l) fun f => by rw [mem_setF, h]
theorem setF_up_self {s : List FactB} (hs : Up s) : setF s = s := (setF_of hs fun _ => Iff.rfl).symm
theorem setF_congr {l m : List FactB} (h : ∀ f, f ∈ l ↔ f ∈ m) : setF l = setF m := up_ext (setF_up l) (setF_up m) fun f => by rw [mem_setF, mem_setF, h]
theorem up_nodup {s : List FactB} (hs : Up s) : s.Nodup := strict_nodup three_cmpF hs
theorem sub_len : ∀ {s t : List FactB}, s.Nodup → (∀ f ∈ s, f ∈ t) → s.length ≤ t.length
  | [], _, _, _ => Nat.zero_le _
  | a :: s, t, hn, h => by
    have hn' := List.nodup_cons.1 hn
    obtain ⟨t1, t2, rfl⟩ := List.append_of_mem (h a (by simp))
    have := sub_len (t := t1 ++ t2) hn'.2 fun f hf => by
      have h1 := h f (by simp [hf])
      simp only [List.mem_append, List.mem_cons] at h1 ⊢
      rcases h1 with h1 | rfl | h1
      · exact Or.inl h1
      · exact absurd hf hn'.1
      · exact Or.inr h1
    simp only [List.length_cons, List.length_append] at this ⊢; omega
theorem up_le {s t : List FactB} (hs : Up s) (h : ∀ f ∈ s, f ∈ t) : s.length ≤ t.length := sub_len (up_nodup hs) h
theorem up_same {s t : List FactB} (hs : Up s) (ht : Up t) (h : ∀ f ∈ s, f ∈ t) (e : t.length ≤ s.length) : s = t := by
  refine up_ext hs ht fun f => ⟨h f, fun hf => Classical.byContradiction fun hn => ?_⟩
  have := sub_len (s := f :: s) (t := t) (List.nodup_cons.2 ⟨hn, up_nodup hs⟩) fun g hg => by
    rcases List.mem_cons.1 hg with rfl | hg
    · exact hf
    · exact h g hg
  simp only [List.length_cons] at this; omega

/-- What a rule makes of facts: none, if there are too many ways. -/
def headsP (r : RuleD) (fs : List FactB) : Option (List FactB) := match allB (fun _ => fs) r.body with
  | none => none
  | some R => some (setF (R.filterMap fun l => fillB r.head l))

def onceGo (n : Int) (fs : List FactB) : List RuleD → List Nat → List FactB → Int × List FactB
  | [], _, acc => (0, setF acc)
  | _ :: _, [], acc => (0, setF acc)
  | r :: p, s :: ss, acc => if (s : Int) = n then
      match headsP r fs with
      | none => (4, [])
      | some x => if 200 < (setF (acc ++ x)).length then (5, []) else onceGo n fs p ss (acc ++ x)
    else onceGo n fs p ss acc
/-- One round. -/
def onceP (p : List RuleD) (ss : List Nat) (n : Int) (fs : List FactB) : Int × List FactB := onceGo n fs p ss fs

/-- Over and over, until nothing comes. -/
def overGo (p : List RuleD) (ss : List Nat) (n : Int) : Nat → List FactB → Int × List FactB
  | 0, l => (0, l)
  | k + 1, l => if (onceP p ss n l).1 ≠ 0 then ((onceP p ss n l).1, []) else if (onceP p ss n l).2.length = l.length then (0, (onceP p ss n l).2) else overGo p ss n k (onceP p ss n l).2

def countP : List Nat → Nat
  | [] => 0
  | s :: ss => max (s + 1) (countP ss)
theorem lt_countP : ∀ {ss : List Nat} {s : Nat}, s ∈ ss → s < countP ss
  | t :: ss, s, h => by
    unfold countP
    rcases List.mem_cons.1 h with rfl | h
    · omega
    · have := lt_countP h; omega
theorem countP_congr {ss tt : List Nat} (h : ∀ s, s ∈ ss ↔ s ∈ tt) : countP ss = countP tt := by
  have key : ∀ {a b : List Nat}, (∀ s ∈ a, s ∈ b) → countP a ≤ countP b := by
    intro a
    induction a with
    | nil => intro b _; exact Nat.zero_le _
    | cons x a ih =>
      intro b hb
      have h1 := ih fun s hs => hb s (List.mem_cons_of_mem _ hs)
      have h2 := lt_countP (hb x (by simp))
      show max (x + 1) (countP a) ≤ countP b
      omega
  exact Nat.le_antisymm (key fun s hs => (h s).1 hs) (key fun s hs => (h s).2 hs)

/-- So many strata, from number n on. -/
def runGo (p : List RuleD) (ss : List Nat) : Nat → Nat → List FactB → Int × List FactB
  | 0, _, l => (0, l)
  | c + 1, n, l => if (overGo p ss n 201 l).1 ≠ 0 then ((overGo p ss n 201 l).1, []) else runGo p ss c (n + 1) (overGo p ss n 201 l).2

/-- A fact goes with all atoms of its name. -/
def fitF (p : List RuleD) (f : FactB) : Bool := p.all fun r => (r.head :: r.body).all fun a => !decide (bs a.name = f.1) || decide (a.terms.length = f.2.length)

/-! ### programs with which nothing is wrong -/

structure RightR (r : RuleD) : Prop where
  head : wrongAtom r.head = 0
  yes : r.head.no = false
  body : wrongBody r.body = 0
  vars : (vars r.head).all (givenBy r.body) = true

def atomsP (p : List RuleD) : List AtomD := p.flatMap fun r => r.head :: r.body

/-- All atoms of one name have as many terms. -/
def Even (l : List AtomD) : Prop := ∀ a ∈ l, ∀ b ∈ l, a.name = b.name → a.terms.length = b.terms.length

/-- A program with which nothing is wrong. -/
structure RightP (p : List RuleD) : Prop where
  few : p.length ≤ 16
  rules : ∀ r ∈ p, RightR r
  even : Even (atomsP p)

end Go.Proofs.YtkijmalapjiopaaGreat
