/- The reference's Variable, need and word. -/
import Derived.Test.YtehipkidohomeaaWkE
import Derived.Test.YtehipkidohomeaaRefN
namespace Go.Proofs.Ytehipkidohomeaa
open Go.RowKit Go.Sort

theorem wordB_eq (s : ByteArray) : wordB s = (decide (0 < s.size ∧ s.size ≤ 12) && (raw s).all isSign) := by
  unfold wordB; rw [Bool.and_comm]; rfl

theorem isVar_no {s : ByteArray} (h : wordB s = false) : isVar (raw s) = false := by
  rw [wordB_eq] at h
  unfold isVar
  rw [length_raw]
  cases hr : raw s with
  | nil => simp
  | cons c t =>
    have hl := length_raw s
    rw [hr] at hl h
    simp at hl
    by_cases h12 : s.size ≤ 12
    · rw [decide_eq_true ⟨by omega, h12⟩, Bool.true_and] at h
      rw [h]; simp
    · rw [decide_eq_false h12]; rfl

theorem isVar_yes {s : ByteArray} (h : wordB s = true) : ∃ h0 : 0 < s.size, isVar (raw s) = greatB s[0].toNat := by
  rw [wordB_eq, Bool.and_eq_true, decide_eq_true_iff] at h
  obtain ⟨⟨h0, h12⟩, ha⟩ := h
  refine ⟨h0, ?_⟩
  rw [isVar_in h0 h12, size_bs, ← length_raw s, takeWhile_len, ha, Bool.and_true]

set_option maxHeartbeats 400000 in
theorem rVariable (s : ByteArray) (w : World) (hs : s.size ≤ 9223372036854775807) : Calls Try.prog 36 #[.string s] w fun e w' => e = .returned (.bool (isVar (raw s))) ∧ Later w w' := by
  cases hw : wordB s
  · have hn := isVar_no hw
    rw [hn]
    go_enter Try.func36, Try.ntmps36
    go_wp2_with (go_at_call 56; refine (rWord _ _ hs).mono ?_; rintro e w1 ⟨rfl, hL⟩; rw [hw])
    go_ret
    exact ⟨rfl, hL⟩
  · obtain ⟨h0, hn⟩ := isVar_yes hw
    have h0z : (0 : Int) < (s.size : Int) := by omega
    generalize hc : (s[0]'h0).toNat = c at hn
    have HN := hide hn
    clear hn
    by_cases ha : (65 : Int) ≤ c
    · go_enter Try.func36, Try.ntmps36
      go_wp2_with (go_at_call 56; refine (rWord _ _ hs).mono ?_; rintro e w1 ⟨rfl, hL⟩; rw [hw])
      go_ret
      refine ⟨ret_bool ?_, by assumption⟩
      rw [HN.out]; unfold greatB
      rw [Bool.eq_iff_iff]; simp; omega
    · go_enter Try.func36, Try.ntmps36
      go_wp2_with (go_at_call 56; refine (rWord _ _ hs).mono ?_; rintro e w1 ⟨rfl, hL⟩; rw [hw])
      go_ret
      refine ⟨ret_bool ?_, by assumption⟩
      rw [HN.out]; unfold greatB
      rw [Bool.eq_iff_iff]; simp; omega

/-- How a walk's method ends: with what is read; or, its fault kept, with whatever. -/
def Wends {α : Type} (p : Nat) (s : ByteArray) (w : World) (V : World → Value → α → Prop) (x : Res α) (e : Ending) (w' : World) : Prop :=
  Tn p w w' ∧ match x with
    | .ok a r => ∃ v, e = .returned v ∧ V w' v a ∧ Wk w' p s r 0 0
    | .bad n r => ∃ v a l', e = .returned v ∧ V w' v a ∧ Wk w' p s l' n (pos s r)

theorem wendsOk {α : Type} {p : Nat} {s : ByteArray} {w w' : World} {V : World → Value → α → Prop} {x : Res α} {a : α} {r : Bs} {v : Value} (hx : x = .ok a r) (hT : Tn p w w') (hV : V w' v a) (hR : Wk w' p s r 0 0) : Wends p s w V x (.returned v) w' := by
  subst hx; exact ⟨hT, v, rfl, hV, hR⟩
theorem wendsBad {α : Type} {p : Nat} {s : ByteArray} {w w' : World} {V : World → Value → α → Prop} {x : Res α} {a : α} {n : Int} {r l' : Bs} {v : Value} (hx : x = .bad n r) (hT : Tn p w w') (hV : V w' v a) (hR : Wk w' p s l' n (pos s r)) : Wends p s w V x (.returned v) w' := by
  subst hx; exact ⟨hT, v, a, l', rfl, hV, hR⟩

set_option maxHeartbeats 400000 in
/-- need, where nothing was wrong: what must follow; else that is. -/
theorem wNeed (p : Nat) (s : ByteArray) (l g : Bs) (w : World) (hg : g.length ≤ 100) (h : Wk w p s l 0 0) :
    Calls Try.prog 80 #[.pointer (some ⟨p, 0, none⟩), .string (bs g)] w fun e w' => e = .returned (.tuple #[]) ∧ (if (took g l).1 then Wk w' p s (took g l).2 0 0 else Wk w' p s (took g l).2 2 (pos s (took g l).2)) ∧ Tn p w w' := by
  have HE := hide (wEat p s l g w hg h)
  clear h
  cases ht : (took g l).1
  · rw [ht] at HE
    go_enter Try.func80, Try.ntmps80
    go_wp2_with fail
    refine HE.out.mono ?_
    rintro e w1 ⟨rfl, hR, hT⟩
    have HS := hide (wStop p s _ 2 w1 hR)
    have HT := hide hT
    clear hR hT HE
    go_wp2_with fail
    refine HS.out.mono ?_
    rintro e w2 ⟨rfl, hR2, hT2⟩
    have HR2 := hide hR2
    have HT2 := hide (HT.out.trans hT2)
    clear hR2 hT2 HS
    go_wp2
    go_end0
    exact ⟨rfl, HR2.out, HT2.out⟩
  · rw [ht] at HE
    go_enter Try.func80, Try.ntmps80
    go_wp2_with fail
    refine HE.out.mono ?_
    rintro e w1 ⟨rfl, hR, hT⟩
    have HR := hide hR
    have HT := hide hT
    clear hR hT HE
    go_wp2
    go_end0
    exact ⟨rfl, HR.out, HT.out⟩

set_option maxHeartbeats 400000 in
/-- need, where something was wrong: nothing. -/
theorem wNeedNot (p : Nat) (s : ByteArray) (l g : Bs) (n k : Int) (w : World) (h : Wk w p s l n k) (hn : n ≠ 0) :
    Calls Try.prog 80 #[.pointer (some ⟨p, 0, none⟩), .string (bs g)] w fun e w' => e = .returned (.tuple #[]) ∧ w' = w := by
  have HE := hide (wEatNot p s l g n k w h hn)
  have HS := hide (wStopped p s l 2 n k w h hn)
  clear h hn
  go_enter Try.func80, Try.ntmps80
  go_wp2_with (first
    | (go_at_call 78; refine HE.out.mono ?_; rintro e w' ⟨rfl, rfl⟩)
    | (go_at_call 76; refine HS.out.mono ?_; rintro e w' ⟨rfl, rfl⟩))
  go_end0
  exact ⟨rfl, rfl⟩

theorem wordNot (p : Nat) (s : ByteArray) (l : Bs) (n k : Int) (vars : Bool) (w : World) (h : Wk w p s l n k) (hn : n ≠ 0) :
    Calls Try.prog 114 #[.pointer (some ⟨p, 0, none⟩), .bool vars] w fun e w' => e = .returned (.string (bs [])) ∧ w' = w := by
  have HO := hide (wOk p s l n k w h)
  rw [show (n == 0) = false by simpa using hn] at HO
  clear h hn
  go_enter Try.func114, Try.ntmps114
  go_wp2_with (go_at_call 75; refine HO.out.mono ?_; rintro e w' ⟨rfl, rfl⟩)
  go_ret
  exact ⟨rfl, rfl⟩

/-- What the reference takes for a word. -/
def fitsW (vars : Bool) (x : Bs) : Bool := isNamed x || (vars && isVar x)

theorem goes_at {s : ByteArray} {l : Bs} {c : UInt8} {t : Bs} (h : l <:+ raw s) (k : Nat) (hd : l.drop k = c :: t) : ∃ hk : pos s l + k < s.size, s[pos s l + k] = c := by
  have hs := suf_drop h k
  have hk : k ≤ l.length := by
    refine Nat.le_of_not_lt fun hlt => ?_
    rw [List.drop_eq_nil_of_le (by omega)] at hd; cases hd
  have hp := pos_add h hk
  rw [hd] at hs hp
  obtain ⟨h1, h2⟩ := raw_get hs
  rw [← hp]
  exact ⟨h1, h2⟩

set_option maxHeartbeats 2000000 in
theorem wWord (p : Nat) (s : ByteArray) (l : Bs) (vars : Bool) (w : World) (h : Wk w p s l 0 0) :
    Calls Try.prog 114 #[.pointer (some ⟨p, 0, none⟩), .bool vars] w fun e w' => Wends p s w (fun _ v a => v = .string (bs a) ∧ a.length ≤ 3000) (word (fitsW vars) l) e w' := by
  have HO := hide (wOk p s l 0 0 w h)
  have HC := hide (wSkip p s l 0 0 w h)
  clear h
  go_enter Try.func114, Try.ntmps114
  go_wp2_with (first
    | (go_at_call 75; refine HO.out.mono ?_; rintro e w' ⟨rfl, rfl⟩)
    | fail)
  refine HC.out.mono ?_
  rintro e w1 ⟨rfl, hR, hT⟩
  have HR := hide hR
  have HT := hide hT
  have c0 := hR.c0; have c1 := hR.c1; have f1 := hR.f1
  have hps := pos_le s (skip l)
  have hs := hR.short
  have hll := len_le hR.suf
  have hpd : pos s (skip l) + (skip l).length = s.size := by simp only [pos]; omega
  have HSuf := hide hR.suf
  clear hR hT HO HC
  obtain ⟨m, hm⟩ : ∃ m, m = skip l := ⟨_, rfl⟩
  rw [← hm] at hpd hll hps HSuf HR c1
  have HM := hide hm
  clear hm
  go_wp2
  go_loopg [5] (m.length + 1) (fun g i wr => ∃ j : Nat, j ≤ m.length ∧ m.length - j < g ∧ i = .int .i64 ((pos s m + j : Nat) : Int) ∧ wr = w1 ∧ m.takeWhile isSign = m.take j ++ (m.drop j).takeWhile isSign)
  case atStart => exact ⟨0, by omega, by omega, by simp, rfl, by simp⟩
  case round =>
    obtain ⟨j, hj, hg, rfl, rfl, hE⟩ := hrel
    have HE := hide hE
    clear hE
    by_cases hlt : j < m.length
    · obtain ⟨c, u, hd⟩ : ∃ c u, m.drop j = c :: u := ⟨_, _, List.drop_eq_getElem_cons hlt⟩
      obtain ⟨hk1, hget⟩ := goes_at HSuf.out j hd
      have hlt0 : ((pos s m + j : Nat) : Int) < (s.size : Int) := by omega
      cases hc : isSign c
      · have hx : m.takeWhile isSign = m.take j := by rw [HE.out, hd, List.takeWhile_cons, if_neg (by rw [hc]; simp), List.append_nil]
        have HSg : Hid (∀ w, Calls Try.prog 100 #[.int .u8 (c.toNat : Int)] w fun e w' => e = .returned (.bool false) ∧ w' = w) := fun w => by
          have := rSign (c.toNat : Int) w
          rw [show signB (c.toNat : Int) = false from hc] at this
          exact this
        have HW : Hid (word (fitsW vars) l = if m.take j = [] then .bad 2 m else if fitsW vars (m.take j) then .ok (m.take j) (m.drop j) else .bad 7 m) := by
          show _ = _
          unfold word
          rw [← HM.out, hx, List.length_take, Nat.min_eq_left hj]
        have hcut := cut_to HSuf.out j
        obtain ⟨x, hxx⟩ : ∃ x, x = m.take j := ⟨_, rfl⟩
        have hxl : x.length ≤ 3000 := by rw [hxx, List.length_take]; omega
        rw [← hxx] at HW hcut
        have HMv := hide (fun w' (h' : Wk w' p s m 0 0) => h'.moved hj rfl)
        clear hx hxx HE HM
        have hc2 : pos s m + j ≤ s.size := by omega
        clear hpd
        have hsz : (bs x).size ≤ 9223372036854775807 := by rw [size_bs]; omega
        have HTq := hide (fun q => HT.out.drewN q)
        have HS2 := hide (fun w' (h' : Wk w' p s m 0 0) => wStop p s m 2 w' h')
        have HS7 := hide (fun w' (h' : Wk w' p s m 0 0) => wStop p s m 7 w' h')
        by_cases hx0 : x = []
        · subst hx0
          have HW2 : Hid (word (fitsW vars) l = .bad 2 m) := by show _ = _; rw [HW.out]; rfl
          have he : (bs []).toList.isEmpty = true := by rw [toList_none]; rfl
          clear HMv HS7
          go_wp2_with (go_at_call 100; refine (HSg.out _).mono ?_; rintro e w' ⟨rfl, rfl⟩)
          go_quiet (fail)
          go_wp2_with fail
          refine (HS2.out _ (HR.out.drewN _)).mono ?_
          rintro e w2 ⟨rfl, hR2, hT2⟩
          have HR2 := hide hR2
          have HT2 := hide ((HTq.out _).trans hT2)
          clear hR2 hT2
          go_wp2
          go_ret
          exact wendsBad HW2.out HT2.out ⟨rfl, by first | exact hxl | simp | omega⟩ HR2.out
        · have he := emptyB x hx0
          have HW2 : Hid (word (fitsW vars) l = if fitsW vars x then .ok x (m.drop j) else .bad 7 m) := by show _ = _; rw [HW.out, if_neg hx0]
          have HNm : Hid (∀ w, Calls Try.prog 14 #[.string (bs x)] w fun e w' => e = .returned (.bool (isNamed x)) ∧ Later w w') := fun w => by
            have := rNamed (bs x) w hsz
            rw [namedB_eq, raw_bs] at this; exact this
          have HVr : Hid (∀ w, Calls Try.prog 36 #[.string (bs x)] w fun e w' => e = .returned (.bool (isVar x)) ∧ Later w w') := fun w => by
            have := rVariable (bs x) w hsz
            rw [raw_bs] at this; exact this
          clear hx0 HW HS2
          go_wp2_with (go_at_call 100; refine (HSg.out _).mono ?_; rintro e w' ⟨rfl, rfl⟩)
          go_quiet (fail)
          go_wp2_with fail
          refine (HNm.out _).mono ?_
          rintro e w2 ⟨rfl, hL2⟩
          have hR2 := (HR.out.drewN nq).below hL2.below
          have HR2 := hide hR2
          have HT2 := hide ((HTq.out nq).trans (Tn.of_below hL2.below))
          have d1 := hR2.c1
          have g1 := hR2.f1
          clear hL2 hR2 HNm
          cases hn : isNamed x
          · cases vars
            · have HW3 : Hid (word (fitsW false) l = .bad 7 m) := by show _ = _; rw [HW2.out]; unfold fitsW; rw [hn]; rfl
              go_wp2_with fail
              refine (HS7.out _ HR2.out).mono ?_
              rintro e w3 ⟨rfl, hR3, hT3⟩
              have HR3 := hide hR3
              have HT3 := hide (HT2.out.trans hT3)
              clear hR3 hT3
              go_wp2
              go_ret
              exact wendsBad HW3.out HT3.out ⟨by first | rfl | (show _ = _; rw [hcut]), by first | exact hxl | simp | omega⟩ HR3.out
            · go_wp2_with fail
              refine (HVr.out _).mono ?_
              rintro e w3 ⟨rfl, hL3⟩
              have hR3 := HR2.out.below hL3.below
              have HR3 := hide hR3
              have HT3 := hide (HT2.out.trans (Tn.of_below hL3.below))
              have d3 := hR3.c1
              have g3 := hR3.f1
              clear hL3 hR3 d1 g1
              cases hv : isVar x
              · have HW3 : Hid (word (fitsW true) l = .bad 7 m) := by show _ = _; rw [HW2.out]; unfold fitsW; rw [hn, hv]; rfl
                go_wp2_with fail
                refine (HS7.out _ HR3.out).mono ?_
                rintro e w4 ⟨rfl, hR4, hT4⟩
                have HR4 := hide hR4
                have HT4 := hide (HT3.out.trans hT4)
                clear hR4 hT4
                go_wp2
                go_ret
                exact wendsBad HW3.out HT4.out ⟨by first | rfl | (show _ = _; rw [hcut]), by first | exact hxl | simp | omega⟩ HR4.out
              · have HW3 : Hid (word (fitsW true) l = .ok x (m.drop j)) := by show _ = _; rw [HW2.out]; unfold fitsW; rw [hn, hv]; rfl
                have HM3 := hide (HMv.out _ HR3.out)
                go_wp2
                go_ret
                exact wendsOk HW3.out (HT3.out.moved _ _) ⟨by first | rfl | (show _ = _; rw [hcut]), by first | exact hxl | simp | omega⟩ HM3.out
          · have HW3 : Hid (word (fitsW vars) l = .ok x (m.drop j)) := by show _ = _; rw [HW2.out]; unfold fitsW; rw [hn]; rfl
            have HM3 := hide (HMv.out _ HR2.out)
            go_wp2
            go_ret
            exact wendsOk HW3.out (HT2.out.moved _ _) ⟨by first | rfl | (show _ = _; rw [hcut]), by first | exact hxl | simp | omega⟩ HM3.out
      · have hE2 : m.takeWhile isSign = m.take (j + 1) ++ (m.drop (j + 1)).takeWhile isSign := by
          have h1 : m.drop (j + 1) = u := by rw [← List.drop_drop, hd]; rfl
          have h2 : m[j]? = some c := by rw [← List.head?_drop, hd]; rfl
          rw [HE.out, hd, List.takeWhile_cons, if_pos hc, h1, List.take_add_one, h2]; simp
        have HE2 := hide hE2
        have HSg : Hid (∀ w, Calls Try.prog 100 #[.int .u8 (c.toNat : Int)] w fun e w' => e = .returned (.bool true) ∧ w' = w) := fun w => by
          have := rSign (c.toNat : Int) w
          rw [show signB (c.toNat : Int) = true from hc] at this
          exact this
        clear hE2 HE hd
        go_wp2_with (go_at_call 100; refine (HSg.out _).mono ?_; rintro e w' ⟨rfl, rfl⟩)
        go_roundg (m.length - (j + 1) + 1)
        case measure => omega
        case rel => exact ⟨j + 1, by omega, by omega, by push_cast; rfl, rfl, HE2.out⟩
    · have hx : m.takeWhile isSign = m.take j := by rw [HE.out, List.drop_eq_nil_of_le (by omega)]; simp
      have hlt0 : ¬ ((pos s m + j : Nat) : Int) < (s.size : Int) := by omega
      have hlt1 : s.size ≤ pos s m + j := by omega
      have HW : Hid (word (fitsW vars) l = if m.take j = [] then .bad 2 m else if fitsW vars (m.take j) then .ok (m.take j) (m.drop j) else .bad 7 m) := by
        show _ = _
        unfold word
        rw [← HM.out, hx, List.length_take, Nat.min_eq_left hj]
      have hcut := cut_to HSuf.out j
      obtain ⟨x, hxx⟩ : ∃ x, x = m.take j := ⟨_, rfl⟩
      have hxl : x.length ≤ 3000 := by rw [hxx, List.length_take]; omega
      rw [← hxx] at HW hcut
      have HMv := hide (fun w' (h' : Wk w' p s m 0 0) => h'.moved hj rfl)
      clear hx hxx HE HM
      have hc2 : pos s m + j ≤ s.size := by omega
      clear hpd
      have hsz : (bs x).size ≤ 9223372036854775807 := by rw [size_bs]; omega
      have HTq := hide (fun q => HT.out.drewN q)
      have HS2 := hide (fun w' (h' : Wk w' p s m 0 0) => wStop p s m 2 w' h')
      have HS7 := hide (fun w' (h' : Wk w' p s m 0 0) => wStop p s m 7 w' h')
      by_cases hx0 : x = []
      · subst hx0
        have HW2 : Hid (word (fitsW vars) l = .bad 2 m) := by show _ = _; rw [HW.out]; rfl
        have he : (bs []).toList.isEmpty = true := by rw [toList_none]; rfl
        clear HMv HS7
        go_wp2
        go_quiet (fail)
        go_wp2_with fail
        refine (HS2.out _ (HR.out.drewN _)).mono ?_
        rintro e w2 ⟨rfl, hR2, hT2⟩
        have HR2 := hide hR2
        have HT2 := hide ((HTq.out _).trans hT2)
        clear hR2 hT2
        go_wp2
        go_ret
        exact wendsBad HW2.out HT2.out ⟨rfl, by first | exact hxl | simp | omega⟩ HR2.out
      · have he := emptyB x hx0
        have HW2 : Hid (word (fitsW vars) l = if fitsW vars x then .ok x (m.drop j) else .bad 7 m) := by show _ = _; rw [HW.out, if_neg hx0]
        have HNm : Hid (∀ w, Calls Try.prog 14 #[.string (bs x)] w fun e w' => e = .returned (.bool (isNamed x)) ∧ Later w w') := fun w => by
          have := rNamed (bs x) w hsz
          rw [namedB_eq, raw_bs] at this; exact this
        have HVr : Hid (∀ w, Calls Try.prog 36 #[.string (bs x)] w fun e w' => e = .returned (.bool (isVar x)) ∧ Later w w') := fun w => by
          have := rVariable (bs x) w hsz
          rw [raw_bs] at this; exact this
        clear hx0 HW HS2
        go_wp2
        go_quiet (fail)
        go_wp2_with fail
        refine (HNm.out _).mono ?_
        rintro e w2 ⟨rfl, hL2⟩
        have hR2 := (HR.out.drewN nq).below hL2.below
        have HR2 := hide hR2
        have HT2 := hide ((HTq.out nq).trans (Tn.of_below hL2.below))
        have d1 := hR2.c1
        have g1 := hR2.f1
        clear hL2 hR2 HNm
        cases hn : isNamed x
        · cases vars
          · have HW3 : Hid (word (fitsW false) l = .bad 7 m) := by show _ = _; rw [HW2.out]; unfold fitsW; rw [hn]; rfl
            go_wp2_with fail
            refine (HS7.out _ HR2.out).mono ?_
            rintro e w3 ⟨rfl, hR3, hT3⟩
            have HR3 := hide hR3
            have HT3 := hide (HT2.out.trans hT3)
            clear hR3 hT3
            go_wp2
            go_ret
            exact wendsBad HW3.out HT3.out ⟨by first | rfl | (show _ = _; rw [hcut]), by first | exact hxl | simp | omega⟩ HR3.out
          · go_wp2_with fail
            refine (HVr.out _).mono ?_
            rintro e w3 ⟨rfl, hL3⟩
            have hR3 := HR2.out.below hL3.below
            have HR3 := hide hR3
            have HT3 := hide (HT2.out.trans (Tn.of_below hL3.below))
            have d3 := hR3.c1
            have g3 := hR3.f1
            clear hL3 hR3 d1 g1
            cases hv : isVar x
            · have HW3 : Hid (word (fitsW true) l = .bad 7 m) := by show _ = _; rw [HW2.out]; unfold fitsW; rw [hn, hv]; rfl
              go_wp2_with fail
              refine (HS7.out _ HR3.out).mono ?_
              rintro e w4 ⟨rfl, hR4, hT4⟩
              have HR4 := hide hR4
              have HT4 := hide (HT3.out.trans hT4)
              clear hR4 hT4
              go_wp2
              go_ret
              exact wendsBad HW3.out HT4.out ⟨by first | rfl | (show _ = _; rw [hcut]), by first | exact hxl | simp | omega⟩ HR4.out
            · have HW3 : Hid (word (fitsW true) l = .ok x (m.drop j)) := by show _ = _; rw [HW2.out]; unfold fitsW; rw [hn, hv]; rfl
              have HM3 := hide (HMv.out _ HR3.out)
              go_wp2
              go_ret
              exact wendsOk HW3.out (HT3.out.moved _ _) ⟨by first | rfl | (show _ = _; rw [hcut]), by first | exact hxl | simp | omega⟩ HM3.out
        · have HW3 : Hid (word (fitsW vars) l = .ok x (m.drop j)) := by show _ = _; rw [HW2.out]; unfold fitsW; rw [hn]; rfl
          have HM3 := hide (HMv.out _ HR2.out)
          go_wp2
          go_ret
          exact wendsOk HW3.out (HT2.out.moved _ _) ⟨by first | rfl | (show _ = _; rw [hcut]), by first | exact hxl | simp | omega⟩ HM3.out

end Go.Proofs.Ytehipkidohomeaa
