/- The walk of the reference's Print. -/
import Derived.Test.YtehipkidohomeaaRPr
import Derived.Test.YtehipkidohomeaaHeld
namespace Go.Proofs.Ytehipkidohomeaa
open Go.RowKit Go.Sort

set_option maxRecDepth 100000 in
set_option maxHeartbeats 4000000 in
theorem rPrint (v : Value) (p : List RuleD) (w : World) (hv : ruleK.sl Anyw w v p) (hlen : (printAll p).length ≤ 549755813888) :
    Calls Try.prog 38 #[v] w fun e w' => e = .returned (.string (bs (printAll p))) ∧ Later w w' := by
  obtain ⟨sa, cap, rfl⟩ := Kind.slice hv
  have HV := hide hv
  have hl0 := hv.1.1
  clear hv
  go_enter Try.func38, Try.ntmps38
  go_wp2
  go_loopg [3, 10] p.length (fun k s3 i wr => ∃ j : Nat, j + k = p.length ∧ i = .int .i64 j ∧ s3 = .string (bs (printAll (p.take j))) ∧ Hid (Later w wr))
  case atStart => exact ⟨0, by omega, rfl, rfl, Later.refl _⟩
  case round =>
    obtain ⟨j, hj, rfl, rfl, HL⟩ := hrel
    have hwr := HL.out.size
    by_cases hlt : j < p.length
    · obtain ⟨r, hr⟩ : ∃ x, p[j]? = some x := ⟨_, List.getElem?_eq_getElem hlt⟩
      obtain ⟨b1, o1, _, rfl, hb1, ⟨sv, su, rfl, hsv, hsu⟩, hcl⟩ := Kind.sl_at HV.out hr
      have d0 : wr.cell? ⟨b1, o1 + j * 4, none⟩ = some (.bool r.head.no) := by rw [HL.out.cell hb1]; exact hcl 0 _ rfl
      have d1 : wr.cell? ⟨b1, o1 + j * 4 + 1, none⟩ = some (.string (bs r.head.name)) := by rw [HL.out.cell hb1]; exact hcl 1 _ rfl
      have d2 : wr.cell? ⟨b1, o1 + j * 4 + 2, none⟩ = some sv := by rw [HL.out.cell hb1]; exact hcl 2 _ rfl
      have d3 : wr.cell? ⟨b1, o1 + j * 4 + 3, none⟩ = some su := by rw [HL.out.cell hb1]; exact hcl 3 _ rfl
      have hbr : b1 < wr.heap.size := by omega
      have hT := printAll_take hr
      have hle := printAll_le p (j + 1)
      rw [hT] at hle
      have hle2 := hle
      unfold printRule at hle2
      simp only [List.length_append, List.length_cons, List.length_nil] at hle2
      have HA : Hid (∀ w', Later w w' → Calls Try.prog 43 #[.agg #[.bool r.head.no, .string (bs r.head.name), sv]] w' fun e w'' => e = .returned (.string (bs (printAtom r.head))) ∧ Later w' w'') := fun w' k =>
        rAtomF r.head.no r.head.name r.head.terms sv w' (Kind.sl_later hsv k) (by show (printAtom r.head).length ≤ _; omega)
      obtain ⟨a2, c2, rfl⟩ := Kind.slice hsv
      obtain ⟨a3, c3, rfl⟩ := Kind.slice hsu
      have HSU := hide hsu
      have hlb := hsu.1.1
      have HT := hide hT
      generalize hA : printAll (p.take j) = A at *
      generalize hH : printAtom r.head = Hd at *
      have k1 : bs A ++ bs Hd = bs (A ++ Hd) := bs_append _ _
      have s1 : (bs A).size = A.length := size_bs _
      have s2 : (bs Hd).size = Hd.length := size_bs _
      have s3 : (bs (A ++ Hd)).size = A.length + Hd.length := by rw [size_bs]; simp
      have HL1 := hide (HL.out.alloc (.cells #[.bool r.head.no, .string (bs r.head.name), .slice a2 r.head.terms.length c2, .slice a3 r.body.length c3] 56))
      have HC := hide (HA.out _ HL1.out)
      have hz3 : (wr.alloc (.cells #[.bool r.head.no, .string (bs r.head.name), .slice a2 r.head.terms.length c2, .slice a3 r.body.length c3] 56)).cell? ⟨wr.heap.size, 3, none⟩ = some (.slice a3 r.body.length c3) := by simp
      have HZ3 := hide hz3
      clear hcl hr hsv hsu hT hA hle HL hz3 HA
      generalize hn1 : bs r.head.name = n1 at *
      generalize r.head.no = no at *
      clear hn1
      go_wp2_with fail
      refine HC.out.mono ?_
      rintro e w2 ⟨rfl, hL2⟩
      have z3 : w2.cell? ⟨wr.heap.size, 3, none⟩ = some (.slice a3 r.body.length c3) := by rw [hL2.cell (by simp)]; exact HZ3.out
      have hs2 := hL2.size
      simp only [World.size_alloc] at hs2
      have HL2 := hide (HL1.out.trans hL2)
      clear hL2 HC HL1 HZ3 d0 d1 d2 d3
      go_wp2
      clear z3
      go_loopg [3, 22] r.body.length (fun k s3 i wr2 => ∃ q : Nat, q + k = r.body.length ∧ i = .int .i64 q ∧ s3 = .string (bs (A ++ Hd ++ printRest [32, 58, 45, 32] (r.body.take q))) ∧ Hid (Later w wr2))
      case atStart => exact ⟨0, by omega, rfl, by simp [printRest], HL2⟩
      case round =>
        obtain ⟨q, hq, rfl, rfl, HLq⟩ := hrel
        clear HL2
        have hwr2 := HLq.out.size
        by_cases hlq : q < r.body.length
        · obtain ⟨a, ha⟩ : ∃ x, r.body[q]? = some x := ⟨_, List.getElem?_eq_getElem hlq⟩
          obtain ⟨b2, o2, _, rfl, hb2, ⟨tv, rfl, htv⟩, hcl⟩ := Kind.sl_at HSU.out ha
          have f0 : wr.cell? ⟨b2, o2 + q * 3, none⟩ = some (.bool a.no) := by rw [HLq.out.cell hb2]; exact hcl 0 _ rfl
          have f1 : wr.cell? ⟨b2, o2 + q * 3 + 1, none⟩ = some (.string (bs a.name)) := by rw [HLq.out.cell hb2]; exact hcl 1 _ rfl
          have f2 : wr.cell? ⟨b2, o2 + q * 3 + 2, none⟩ = some tv := by rw [HLq.out.cell hb2]; exact hcl 2 _ rfl
          have hbr2 : b2 < wr.heap.size := by omega
          have hTk := printRest_take [32, 58, 45, 32] ha
          have hPl := printRest_le r.body q [32, 58, 45, 32]
          rw [hTk] at hPl
          simp only [List.length_append] at hPl
          have HA : Hid (∀ w', Later w w' → Calls Try.prog 43 #[.agg #[.bool a.no, .string (bs a.name), tv]] w' fun e w'' => e = .returned (.string (bs (printAtom a))) ∧ Later w' w'') := fun w' k =>
            rAtomF a.no a.name a.terms tv w' (Kind.sl_later htv k) (by show (printAtom a).length ≤ _; omega)
          obtain ⟨ta, tc, rfl⟩ := Kind.slice htv
          have HTk := hide hTk
          clear hcl ha htv hTk
          generalize printRest [32, 58, 45, 32] (r.body.take q) = P at *
          generalize printAtom a = At at *
          generalize bs a.name = n2 at *
          generalize a.no = no2 at *
          obtain ⟨X, hX⟩ : ∃ X, X = A ++ Hd ++ P := ⟨_, rfl⟩
          have hXl : X.length = A.length + Hd.length + P.length := by rw [hX]; simp only [List.length_append]
          rw [← hX]
          have s4 : (bs X).size = X.length := size_bs _
          have s5 : (bs At).size = At.length := size_bs _
          have HLb := hide (HLq.out.alloc (.cells #[.bool no2, .string n2, .slice ta a.terms.length tc] 54))
          have hbox : ∀ w', Later (wr.alloc (.cells #[.bool no2, .string n2, .slice ta a.terms.length tc] 54)) w' → w'.cell? ⟨wr.heap.size, 0, none⟩ = some (.bool no2) ∧ w'.cell? ⟨wr.heap.size, 1, none⟩ = some (.string n2) ∧ w'.cell? ⟨wr.heap.size, 2, none⟩ = some (.slice ta a.terms.length tc) ∧ wr.heap.size < w'.heap.size := fun w' k =>
            ⟨by rw [k.cell (by simp)]; simp, by rw [k.cell (by simp)]; simp, by rw [k.cell (by simp)]; simp, by have := k.size; simp at this; omega⟩
          have HBox := hide hbox
          clear hbox
          rcases Nat.eq_zero_or_pos q with hq0 | hq0
          case' inl =>
            obtain ⟨X2, hX2⟩ : ∃ y, y = X ++ [32, 58, 45, 32] := ⟨_, rfl⟩
            obtain ⟨X3, hX3⟩ : ∃ y, y = X2 ++ At := ⟨_, rfl⟩
            have k1 : bs X ++ ({ data := #[32, 58, 45, 32] } : ByteArray) = bs X2 := by rw [hX2]; exact bs_append _ [32, 58, 45, 32]
            have k2 : bs X2 ++ bs At = bs X3 := by rw [hX3]; exact bs_append _ _
            have s6 : (bs X2).size = X.length + 4 := by rw [size_bs, hX2]; simp
            rw [if_pos hq0] at hPl HTk
            have hPz : P.length + (4 + At.length) ≤ (printRest [32, 58, 45, 32] r.body).length := by simpa using hPl
            have HN : Hid (A ++ Hd ++ printRest [32, 58, 45, 32] (r.body.take (q + 1)) = X3) := by show _ = _; rw [HTk.out, hX3, hX2, hX]; simp
            have HC1 : Hid (∀ w' : World, (w'.alloc (.cells #[.string { data := #[32, 58, 45, 32] }, .string { data := #[44, 32] }] 9)).cell? ⟨w'.heap.size, 0, none⟩ = some (.string { data := #[32, 58, 45, 32] })) := fun w' => by simp
            have hm1 : min (q : Int) 1 = 0 := by omega
            have hm2 : (q : Int) < 1 := by omega
            have hm3 : ¬ (1 : Int) ≤ (q : Int) := by omega
            have hc1 : ¬ 9223372036854775807 < A.length + Hd.length + P.length + 4 := by omega
            have hc2 : ¬ 9223372036854775807 < A.length + Hd.length + P.length + 4 + At.length := by omega
            clear hX hX2 hX3 hPl hq0
          case' inr =>
            obtain ⟨X2, hX2⟩ : ∃ y, y = X ++ [44, 32] := ⟨_, rfl⟩
            obtain ⟨X3, hX3⟩ : ∃ y, y = X2 ++ At := ⟨_, rfl⟩
            have k1 : bs X ++ ({ data := #[44, 32] } : ByteArray) = bs X2 := by rw [hX2]; exact bs_append _ [44, 32]
            have k2 : bs X2 ++ bs At = bs X3 := by rw [hX3]; exact bs_append _ _
            have s6 : (bs X2).size = X.length + 2 := by rw [size_bs, hX2]; simp
            have hqn : ¬ q = 0 := by omega
            rw [if_neg hqn] at hPl HTk
            have hPz : P.length + (2 + At.length) ≤ (printRest [32, 58, 45, 32] r.body).length := by simpa using hPl
            have HN : Hid (A ++ Hd ++ printRest [32, 58, 45, 32] (r.body.take (q + 1)) = X3) := by show _ = _; rw [HTk.out, hX3, hX2, hX]; simp
            have HC1 : Hid (∀ w' : World, (w'.alloc (.cells #[.string { data := #[32, 58, 45, 32] }, .string { data := #[44, 32] }] 9)).cell? ⟨w'.heap.size, 1, none⟩ = some (.string { data := #[44, 32] })) := fun w' => by simp
            have hm1 : min (q : Int) 1 = 1 := by omega
            have hm2 : ¬ (q : Int) < 1 := by omega
            have hm3 : (1 : Int) ≤ (q : Int) := by omega
            have hc1 : ¬ 9223372036854775807 < A.length + Hd.length + P.length + 2 := by omega
            have hc2 : ¬ 9223372036854775807 < A.length + Hd.length + P.length + 2 + At.length := by omega
            clear hX hX2 hX3 hPl hqn hq0
          all_goals
            go_wp2
            refine wp_region_held_drew (S := fun w' => Later (wr.alloc (.cells #[.bool no2, .string n2, .slice ta a.terms.length tc] 54)) w') (by kernel_rfl) (Later.refl _).drew (fun hHeld => ?_)
            refine take_at (i := 0) (d := some 27) (v := ?_) rfl rfl (by kernel_rfl) (by kernel_rfl) (by kernel_rfl) (fun _ _ _ h => h) (Or.inl ⟨by rfl, ?_⟩) hHeld ?_
            rotate_left
            · intro w hSw; (try dsimp only at hSw);  go_simp; try with_reducible rfl
            simp only [Act.put, List.setIfInBounds_toArray, List.set_cons_zero, List.set_cons_succ]
            refine take_at (i := 2) (d := some 29) (v := ?_) rfl rfl (by kernel_rfl) (by kernel_rfl) (by kernel_rfl) (fun _ _ _ h => h) (Or.inl ⟨by rfl, ?_⟩) hHeld ?_
            rotate_left
            · intro w hSw; (try dsimp only at hSw);  go_simp; try with_reducible rfl
            simp only [Act.put, List.setIfInBounds_toArray, List.set_cons_zero, List.set_cons_succ]
            refine take_at (i := 3) (d := some 30) (v := ?_) rfl rfl (by kernel_rfl) (by kernel_rfl) (by kernel_rfl) (fun _ _ _ h => h) (Or.inl ⟨by rfl, ?_⟩) hHeld ?_
            rotate_left
            · intro w hSw; (try dsimp only at hSw);  go_simp; try with_reducible rfl
            simp only [Act.put, List.setIfInBounds_toArray, List.set_cons_zero, List.set_cons_succ]
            refine take_at (i := 7) (d := some 34) (v := ?_) rfl rfl (by kernel_rfl) (by kernel_rfl) (by kernel_rfl) (fun _ _ _ h => h) (Or.inl ⟨by rfl, ?_⟩) hHeld ?_
            rotate_left
            · intro w hSw; (try dsimp only at hSw); obtain ⟨y0, y1, y2, y3⟩ := HBox.out w hSw; go_simp; try with_reducible rfl
            simp only [Act.put, List.setIfInBounds_toArray, List.set_cons_zero, List.set_cons_succ]
            refine wpAnyH_ready (rs := [1, 8]) (by kernel_rfl) (by simp) ?_
            refine AllReadyH.cons rfl (fun K hK => ?_) (AllReadyH.cons rfl (fun K hK => ?_) AllReadyH.nil)
            · have c1 := HC1.out (wr.alloc (.cells #[.bool no2, .string n2, .slice ta a.terms.length tc] 54)).drew
              rw [show (wr.alloc (.cells #[.bool no2, .string n2, .slice ta a.terms.length tc] 54)).drew.heap.size = wr.heap.size + 1 by show (wr.alloc _).heap.size = _; simp] at c1
              have HC2 := hide c1
              clear c1
              go_simp
              refine hK.out _ _ (hHeld.alloc _) (fun hHeld => ?_)
              clear hK K
              have c1 := HC2.out
              have hb9 := World.block_lt_of_cell? _ _ c1
              clear HC2
              refine take_at (i := 4) (d := some 31) (v := ?_) rfl rfl (by kernel_rfl) (by kernel_rfl) (by kernel_rfl) (fun _ _ _ h => h) (Or.inl ⟨by rfl, ?_⟩) hHeld ?_
              rotate_left
              · intro w hSw; (try dsimp only at hSw);  go_simp; try with_reducible rfl
              simp only [Act.put, List.setIfInBounds_toArray, List.set_cons_zero, List.set_cons_succ]
              refine wpAnyH_ready (rs := [5, 8]) (by kernel_rfl) (by simp) ?_
              refine AllReadyH.cons rfl (fun K hK => ?_) (AllReadyH.cons rfl (fun K hK => ?_) AllReadyH.nil)
              · go_simp
                refine hK.out _ _ hHeld (fun hHeld => ?_)
                clear hK K
                refine take_at (i := 6) (d := some 33) (v := ?_) rfl rfl (by kernel_rfl) (by kernel_rfl) (by kernel_rfl) (fun _ _ _ h => h) (Or.inl ⟨by rfl, ?_⟩) hHeld ?_
                rotate_left
                · intro w hSw; (try dsimp only at hSw);  go_simp; try with_reducible rfl
                simp only [Act.put, List.setIfInBounds_toArray, List.set_cons_zero, List.set_cons_succ]
                refine wpAnyH_ready (rs := [8]) (by kernel_rfl) (by simp) ?_
                refine AllReadyH.cons rfl (fun K hK => ?_) AllReadyH.nil
                go_simp
                refine (HA.out _ (HLb.out.trans hHeld)).mono ?_
                rintro e w5 ⟨rfl, hL5⟩
                dsimp only
                refine hK.out _ _ (hHeld.trans hL5) (fun hHeld => ?_)
                clear hK K
                refine take_at (i := 9) (d := some 36) (v := ?_) rfl rfl (by kernel_rfl) (by kernel_rfl) (by kernel_rfl) (fun _ _ _ h => h) (Or.inl ⟨by rfl, ?_⟩) hHeld ?_
                rotate_left
                · intro w hSw; (try dsimp only at hSw);  go_simp; try with_reducible rfl
                simp only [Act.put, List.setIfInBounds_toArray, List.set_cons_zero, List.set_cons_succ]
                refine take_at (i := 10) (d := some 3) (v := ?_) rfl rfl (by kernel_rfl) (by kernel_rfl) (by kernel_rfl) (fun _ _ _ h => h) (Or.inl ⟨by rfl, ?_⟩) hHeld ?_
                rotate_left
                · intro w hSw; (try dsimp only at hSw);  go_simp; try with_reducible rfl
                simp only [Act.put, List.setIfInBounds_toArray, List.set_cons_zero, List.set_cons_succ]
                refine wpAnyH_done (by kernel_rfl) ?_ _
                go_wp2
                go_roundg (r.body.length - (q + 1))
                case measure => omega
                case rel => exact ⟨q + 1, by omega, by go_num, by rw [HN.out], HLb.out.trans hHeld⟩
              · go_simp
                refine (HA.out _ (HLb.out.trans hHeld)).mono ?_
                rintro e w5 ⟨rfl, hL5⟩
                dsimp only
                have c2 := (hL5.cell hb9).trans c1
                refine hK.out _ _ (hHeld.trans hL5) (fun hHeld => ?_)
                clear hK K
                refine wpAnyH_ready (rs := [5]) (by kernel_rfl) (by simp) ?_
                refine AllReadyH.cons rfl (fun K hK => ?_) AllReadyH.nil
                go_simp
                refine hK.out _ _ hHeld (fun hHeld => ?_)
                clear hK K
                refine take_at (i := 6) (d := some 33) (v := ?_) rfl rfl (by kernel_rfl) (by kernel_rfl) (by kernel_rfl) (fun _ _ _ h => h) (Or.inl ⟨by rfl, ?_⟩) hHeld ?_
                rotate_left
                · intro w hSw; (try dsimp only at hSw);  go_simp; try with_reducible rfl
                simp only [Act.put, List.setIfInBounds_toArray, List.set_cons_zero, List.set_cons_succ]
                refine take_at (i := 9) (d := some 36) (v := ?_) rfl rfl (by kernel_rfl) (by kernel_rfl) (by kernel_rfl) (fun _ _ _ h => h) (Or.inl ⟨by rfl, ?_⟩) hHeld ?_
                rotate_left
                · intro w hSw; (try dsimp only at hSw);  go_simp; try with_reducible rfl
                simp only [Act.put, List.setIfInBounds_toArray, List.set_cons_zero, List.set_cons_succ]
                refine take_at (i := 10) (d := some 3) (v := ?_) rfl rfl (by kernel_rfl) (by kernel_rfl) (by kernel_rfl) (fun _ _ _ h => h) (Or.inl ⟨by rfl, ?_⟩) hHeld ?_
                rotate_left
                · intro w hSw; (try dsimp only at hSw);  go_simp; try with_reducible rfl
                simp only [Act.put, List.setIfInBounds_toArray, List.set_cons_zero, List.set_cons_succ]
                refine wpAnyH_done (by kernel_rfl) ?_ _
                go_wp2
                go_roundg (r.body.length - (q + 1))
                case measure => omega
                case rel => exact ⟨q + 1, by omega, by go_num, by rw [HN.out], HLb.out.trans hHeld⟩
            · go_simp
              refine (HA.out _ (HLb.out.trans hHeld)).mono ?_
              rintro e w5 ⟨rfl, hL5⟩
              dsimp only
              refine hK.out _ _ (hHeld.trans hL5) (fun hHeld => ?_)
              clear hK K
              have c1 := HC1.out w5
              refine wpAnyH_ready (rs := [1]) (by kernel_rfl) (by simp) ?_
              refine AllReadyH.cons rfl (fun K hK => ?_) AllReadyH.nil
              go_simp
              refine hK.out _ _ (hHeld.alloc _) (fun hHeld => ?_)
              clear hK K
              refine take_at (i := 4) (d := some 31) (v := ?_) rfl rfl (by kernel_rfl) (by kernel_rfl) (by kernel_rfl) (fun _ _ _ h => h) (Or.inl ⟨by rfl, ?_⟩) hHeld ?_
              rotate_left
              · intro w hSw; (try dsimp only at hSw);  go_simp; try with_reducible rfl
              simp only [Act.put, List.setIfInBounds_toArray, List.set_cons_zero, List.set_cons_succ]
              refine wpAnyH_ready (rs := [5]) (by kernel_rfl) (by simp) ?_
              refine AllReadyH.cons rfl (fun K hK => ?_) AllReadyH.nil
              go_simp
              refine hK.out _ _ hHeld (fun hHeld => ?_)
              clear hK K
              refine take_at (i := 6) (d := some 33) (v := ?_) rfl rfl (by kernel_rfl) (by kernel_rfl) (by kernel_rfl) (fun _ _ _ h => h) (Or.inl ⟨by rfl, ?_⟩) hHeld ?_
              rotate_left
              · intro w hSw; (try dsimp only at hSw);  go_simp; try with_reducible rfl
              simp only [Act.put, List.setIfInBounds_toArray, List.set_cons_zero, List.set_cons_succ]
              refine take_at (i := 9) (d := some 36) (v := ?_) rfl rfl (by kernel_rfl) (by kernel_rfl) (by kernel_rfl) (fun _ _ _ h => h) (Or.inl ⟨by rfl, ?_⟩) hHeld ?_
              rotate_left
              · intro w hSw; (try dsimp only at hSw);  go_simp; try with_reducible rfl
              simp only [Act.put, List.setIfInBounds_toArray, List.set_cons_zero, List.set_cons_succ]
              refine take_at (i := 10) (d := some 3) (v := ?_) rfl rfl (by kernel_rfl) (by kernel_rfl) (by kernel_rfl) (fun _ _ _ h => h) (Or.inl ⟨by rfl, ?_⟩) hHeld ?_
              rotate_left
              · intro w hSw; (try dsimp only at hSw);  go_simp; try with_reducible rfl
              simp only [Act.put, List.setIfInBounds_toArray, List.set_cons_zero, List.set_cons_succ]
              refine wpAnyH_done (by kernel_rfl) ?_ _
              go_wp2
              go_roundg (r.body.length - (q + 1))
              case measure => omega
              case rel => exact ⟨q + 1, by omega, by go_num, by rw [HN.out], HLb.out.trans hHeld⟩
        · have e : q = r.body.length := by omega
          have HF : Hid (printAll (p.take (j + 1)) = A ++ Hd ++ printRest [32, 58, 45, 32] r.body ++ [46, 10]) := by show _ = _; rw [HT.out]; unfold printRule; rw [hH]; simp
          subst e
          rw [List.take_length]
          generalize hX : A ++ Hd ++ printRest [32, 58, 45, 32] r.body = X at *
          have hXl : X.length = A.length + Hd.length + (printRest [32, 58, 45, 32] r.body).length := by rw [← hX]; simp only [List.length_append]
          have k2 : bs X ++ ({ data := #[46, 10] } : ByteArray) = bs (X ++ [46, 10]) := bs_append _ [46, 10]
          have s4 : (bs X).size = X.length := size_bs _
          clear hX
          go_wp2
          go_roundg (p.length - (j + 1))
          case measure => omega
          case rel => exact ⟨j + 1, by omega, by go_num, by rw [HF.out], HLq⟩
    · have e : j = p.length := by omega
      subst e
      rw [List.take_length]
      go_wp2
      go_ret
      exact ⟨rfl, HL.out⟩

end Go.Proofs.Ytehipkidohomeaa
