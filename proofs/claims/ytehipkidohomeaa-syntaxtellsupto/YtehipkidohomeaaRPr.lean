/- The walk of the reference's Atom, as a text. -/
import Derived.Test.YtehipkidohomeaaWkW
namespace Go.Proofs.Ytehipkidohomeaa
open Go.RowKit Go.Sort

/-- What stands behind an atom's name, but for what shuts it. -/
def joinPre : List Bs → Bs
  | [] => []
  | x :: r => 40 :: (x ++ Lib.joinTail [44] r)

theorem tail_snoc (r : List Bs) (x : Bs) : Lib.joinTail [44] (r ++ [x]) = Lib.joinTail [44] r ++ 44 :: x := by simp [Lib.joinTail]

theorem pre_step (l : List Bs) (j : Nat) {x : Bs} (h : l[j]? = some x) : joinPre (l.take (j + 1)) = joinPre (l.take j) ++ [if j = 0 then 40 else 44] ++ x := by
  rw [List.take_add_one, h]
  cases l with
  | nil => simp at h
  | cons y l =>
    cases j with
    | zero => simp [joinPre, Lib.joinTail]
    | succ j =>
      simp only [List.take_succ_cons, Option.toList_some, List.cons_append, joinPre]
      rw [tail_snoc]
      simp

theorem pre_le (l : List Bs) (j : Nat) : (joinPre (l.take j)).length ≤ (joinPre l).length := by
  have tl : ∀ (r : List Bs) (k : Nat), (Lib.joinTail [44] (r.take k)).length ≤ (Lib.joinTail [44] r).length := by
    intro r
    induction r with
    | nil => intro k; simp
    | cons y r ih =>
      intro k
      cases k with
      | zero => simp [Lib.joinTail]
      | succ k =>
        have := ih k
        simp only [List.take_succ_cons, Lib.joinTail, List.map_cons, List.flatten_cons, List.length_append] at *; omega
  cases l with
  | nil => simp
  | cons y l =>
    cases j with
    | zero => simp [joinPre]
    | succ j =>
      have := tl l j
      simp only [List.take_succ_cons, joinPre, List.length_cons, List.length_append]; omega

theorem print_pre (no : Bool) (name : Bs) (ts : List TermD) : printAtom ⟨no, name, ts⟩ = (if no then [33] else []) ++ name ++ joinPre (ts.map (·.2)) ++ (if ts = [] then [] else [41]) := by
  unfold printAtom
  cases ts with
  | nil => simp [joinPre]
  | cons t ts => simp [joinPre, Lib.join_cons]

set_option maxHeartbeats 1000000 in
theorem rAtomF (no : Bool) (name : Bs) (ts : List TermD) (sv : Value) (w : World) (hs : termK.sl Anyw w sv ts) (hlen : (printAtom ⟨no, name, ts⟩).length ≤ 549755813888) :
    Calls Try.prog 43 #[.agg #[.bool no, .string (bs name), sv]] w fun e w' => e = .returned (.string (bs (printAtom ⟨no, name, ts⟩))) ∧ Later w w' := by
  have HS := hide hs
  obtain ⟨⟨hs0, _⟩, sa, cap, rfl, _⟩ := hs
  have hnz : (bs name).size = name.length := size_bs name
  have hnl : name.length ≤ 549755813888 := by
    have h2 := hlen
    unfold printAtom at h2
    simp only [List.length_append] at h2
    omega
  cases no
  · obtain ⟨X, hX0, HX⟩ : ∃ X : Bs, ({ data := #[] } : ByteArray) ++ bs name = bs X ∧ Hid (printAtom ⟨false, name, ts⟩ = X ++ joinPre (ts.map (·.2)) ++ (if ts = [] then [] else [41])) := ⟨name, bs_append [] name, print_pre _ _ _⟩
    have HL : Hid (X.length + (joinPre (ts.map (·.2))).length + 1 ≤ 549755813889) := by
      show _ ≤ _
      have := hlen
      rw [HX.out] at this
      simp only [List.length_append] at this
      omega
    clear hlen
    go_enter Try.func43, Try.ntmps43
    go_wp2
    go_loopg [3, 15] ts.length (fun g s3 i wr => ∃ j : Nat, j + g = ts.length ∧ i = .int .i64 j ∧ s3 = .string (bs (X ++ joinPre ((ts.take j).map (·.2)))) ∧ Later (w.alloc (.cells #[.bool false, .string (bs name), .slice sa ts.length cap] 54)) wr)
    case atStart => exact ⟨0, by omega, rfl, by simp [joinPre] <;> exact hX0, Later.refl _⟩
    case round =>
      obtain ⟨j, hj, rfl, rfl, hL⟩ := hrel
      have HLw := hide hL
      have hLw : Later w wr := ((Later.refl w).alloc _).trans hL
      have HLL := hide hLw
      have z2 : wr.cell? ⟨w.heap.size, 2, none⟩ = some (.slice sa ts.length cap) := by rw [hL.cell (by simp)]; simp
      obtain ⟨A, hA⟩ : ∃ A, A = X ++ joinPre ((ts.take j).map (·.2)) := ⟨_, rfl⟩
      have hAl : A.length ≤ 549755813889 := by
        have h1 := HL.out
        have h2 := pre_le (ts.map (·.2)) j
        rw [← List.map_take] at h2
        rw [hA, List.length_append]; omega
      have hAz : (bs A).size = A.length := size_bs A
      rw [← hA]
      have HA := hide hA
      clear hL hA
      by_cases hlt : j < ts.length
      · obtain ⟨x, hx⟩ : ∃ x, ts[j]? = some x := ⟨_, List.getElem?_eq_getElem hlt⟩
        obtain ⟨b, off, _, rfl, hb, rfl, hc⟩ := Kind.sl_at HS.out hx
        have d0 : wr.cell? ⟨b, off + j * 2, none⟩ = some (.bool x.1) := by rw [hLw.cell hb]; exact hc 0 _ rfl
        have d1 : wr.cell? ⟨b, off + j * 2 + 1, none⟩ = some (.string (bs x.2)) := by rw [hLw.cell hb]; exact hc 1 _ rfl
        have hjz : (j : Int) < (ts.length : Int) := by omega
        have hbr : b < wr.heap.size := Nat.lt_of_lt_of_le hb hLw.size
        have hstep := pre_step (ts.map (·.2)) j (x := x.2) (by rw [List.getElem?_map, hx]; rfl)
        rw [← List.map_take, ← List.map_take] at hstep
        have hle := pre_le (ts.map (·.2)) (j + 1)
        rw [← List.map_take] at hle
        have HN : Hid (X ++ joinPre ((ts.take (j + 1)).map (·.2)) = A ++ [if j = 0 then 40 else 44] ++ x.2) := by
          show _ = _; rw [hstep, HA.out]; simp
        have hxl : A.length + 1 + x.2.length ≤ 549755813889 := by
          have h3 := congrArg List.length HN.out
          have h1 := HL.out
          simp only [List.length_append, List.length_cons, List.length_nil] at h3
          omega
        have hxz : (bs x.2).size = x.2.length := size_bs _
        clear hc hx hLw hstep hle
        generalize x.1 = x1 at *
        generalize x.2 = x2 at *
        by_cases hj0 : j = 0
        · subst hj0
          simp only [Nat.zero_mul, Nat.add_zero] at d0 d1
          obtain ⟨y1, hy1⟩ : ∃ y : Bs, y = A ++ [40] := ⟨_, rfl⟩
          have k1 : bs A ++ ({ data := #[40] } : ByteArray) = bs y1 := by rw [hy1]; exact bs_append A [40]
          have k2 : bs y1 ++ bs x2 = bs (A ++ [40] ++ x2) := by rw [hy1]; exact bs_append _ _
          obtain ⟨y2, hy2⟩ : ∃ y : Bs, y = A ++ [40] ++ x2 := ⟨_, rfl⟩
          rw [← hy2] at k2
          have s1 : (bs y1).size = A.length + 1 := by rw [size_bs, hy1]; simp
          have HN2 : Hid (X ++ joinPre ((ts.take (0 + 1)).map (·.2)) = y2) := by show _ = _; rw [HN.out, hy2]; rfl
          clear hy1 hy2 HN
          go_wp2
          go_roundg (ts.length - 1)
          case measure => omega
          case rel => exact ⟨0 + 1, by omega, by simp, by rw [HN2.out], HLw.out.alloc _⟩
        · obtain ⟨y1, hy1⟩ : ∃ y : Bs, y = A ++ [44] := ⟨_, rfl⟩
          have k1 : bs A ++ ({ data := #[44] } : ByteArray) = bs y1 := by rw [hy1]; exact bs_append A [44]
          have k2 : bs y1 ++ bs x2 = bs (A ++ [44] ++ x2) := by rw [hy1]; exact bs_append _ _
          obtain ⟨y2, hy2⟩ : ∃ y : Bs, y = A ++ [44] ++ x2 := ⟨_, rfl⟩
          rw [← hy2] at k2
          have s1 : (bs y1).size = A.length + 1 := by rw [size_bs, hy1]; simp
          have HN2 : Hid (X ++ joinPre ((ts.take (j + 1)).map (·.2)) = y2) := by show _ = _; rw [HN.out, hy2, if_neg hj0]
          have hj0' : ((j : Int) == 0) = false := by rw [beq_eq_false_iff_ne]; omega
          clear hy1 hy2 HN
          go_wp2
          go_roundg (ts.length - (j + 1))
          case measure => omega
          case rel => exact ⟨j + 1, by omega, by go_num, by rw [HN2.out], HLw.out.alloc _⟩
      · have hje : j = ts.length := by omega
        subst hje
        rw [List.take_length] at HA
        by_cases h0 : ts = []
        · subst h0
          have HX2 : Hid (printAtom ⟨false, name, []⟩ = A) := by show _ = _; rw [HX.out, HA.out]; simp
          go_wp2
          go_ret
          exact ⟨by rw [HX2.out]; rfl, HLL.out⟩
        · have hpos : (0 : Int) < ts.length := by have := List.length_pos_iff.2 h0; omega
          obtain ⟨y3, hy3⟩ : ∃ y : Bs, y = A ++ [41] := ⟨_, rfl⟩
          have k3 : bs A ++ ({ data := #[41] } : ByteArray) = bs y3 := by rw [hy3]; exact bs_append A [41]
          have HX2 : Hid (printAtom ⟨false, name, ts⟩ = y3) := by show _ = _; rw [HX.out, HA.out.symm, if_neg h0, hy3]
          clear hy3
          go_wp2
          go_ret
          exact ⟨by rw [HX2.out]; rfl, HLL.out⟩

  · obtain ⟨X, hX0, HX⟩ : ∃ X : Bs, ({ data := #[33] } : ByteArray) ++ bs name = bs X ∧ Hid (printAtom ⟨true, name, ts⟩ = X ++ joinPre (ts.map (·.2)) ++ (if ts = [] then [] else [41])) := ⟨(33 :: name), bs_append [33] name, print_pre _ _ _⟩
    have HL : Hid (X.length + (joinPre (ts.map (·.2))).length + 1 ≤ 549755813889) := by
      show _ ≤ _
      have := hlen
      rw [HX.out] at this
      simp only [List.length_append] at this
      omega
    clear hlen
    go_enter Try.func43, Try.ntmps43
    go_wp2
    go_loopg [3, 15] ts.length (fun g s3 i wr => ∃ j : Nat, j + g = ts.length ∧ i = .int .i64 j ∧ s3 = .string (bs (X ++ joinPre ((ts.take j).map (·.2)))) ∧ Later (w.alloc (.cells #[.bool true, .string (bs name), .slice sa ts.length cap] 54)) wr)
    case atStart => exact ⟨0, by omega, rfl, by simp [joinPre] <;> exact hX0, Later.refl _⟩
    case round =>
      obtain ⟨j, hj, rfl, rfl, hL⟩ := hrel
      have HLw := hide hL
      have hLw : Later w wr := ((Later.refl w).alloc _).trans hL
      have HLL := hide hLw
      have z2 : wr.cell? ⟨w.heap.size, 2, none⟩ = some (.slice sa ts.length cap) := by rw [hL.cell (by simp)]; simp
      obtain ⟨A, hA⟩ : ∃ A, A = X ++ joinPre ((ts.take j).map (·.2)) := ⟨_, rfl⟩
      have hAl : A.length ≤ 549755813889 := by
        have h1 := HL.out
        have h2 := pre_le (ts.map (·.2)) j
        rw [← List.map_take] at h2
        rw [hA, List.length_append]; omega
      have hAz : (bs A).size = A.length := size_bs A
      rw [← hA]
      have HA := hide hA
      clear hL hA
      by_cases hlt : j < ts.length
      · obtain ⟨x, hx⟩ : ∃ x, ts[j]? = some x := ⟨_, List.getElem?_eq_getElem hlt⟩
        obtain ⟨b, off, _, rfl, hb, rfl, hc⟩ := Kind.sl_at HS.out hx
        have d0 : wr.cell? ⟨b, off + j * 2, none⟩ = some (.bool x.1) := by rw [hLw.cell hb]; exact hc 0 _ rfl
        have d1 : wr.cell? ⟨b, off + j * 2 + 1, none⟩ = some (.string (bs x.2)) := by rw [hLw.cell hb]; exact hc 1 _ rfl
        have hjz : (j : Int) < (ts.length : Int) := by omega
        have hbr : b < wr.heap.size := Nat.lt_of_lt_of_le hb hLw.size
        have hstep := pre_step (ts.map (·.2)) j (x := x.2) (by rw [List.getElem?_map, hx]; rfl)
        rw [← List.map_take, ← List.map_take] at hstep
        have hle := pre_le (ts.map (·.2)) (j + 1)
        rw [← List.map_take] at hle
        have HN : Hid (X ++ joinPre ((ts.take (j + 1)).map (·.2)) = A ++ [if j = 0 then 40 else 44] ++ x.2) := by
          show _ = _; rw [hstep, HA.out]; simp
        have hxl : A.length + 1 + x.2.length ≤ 549755813889 := by
          have h3 := congrArg List.length HN.out
          have h1 := HL.out
          simp only [List.length_append, List.length_cons, List.length_nil] at h3
          omega
        have hxz : (bs x.2).size = x.2.length := size_bs _
        clear hc hx hLw hstep hle
        generalize x.1 = x1 at *
        generalize x.2 = x2 at *
        by_cases hj0 : j = 0
        · subst hj0
          simp only [Nat.zero_mul, Nat.add_zero] at d0 d1
          obtain ⟨y1, hy1⟩ : ∃ y : Bs, y = A ++ [40] := ⟨_, rfl⟩
          have k1 : bs A ++ ({ data := #[40] } : ByteArray) = bs y1 := by rw [hy1]; exact bs_append A [40]
          have k2 : bs y1 ++ bs x2 = bs (A ++ [40] ++ x2) := by rw [hy1]; exact bs_append _ _
          obtain ⟨y2, hy2⟩ : ∃ y : Bs, y = A ++ [40] ++ x2 := ⟨_, rfl⟩
          rw [← hy2] at k2
          have s1 : (bs y1).size = A.length + 1 := by rw [size_bs, hy1]; simp
          have HN2 : Hid (X ++ joinPre ((ts.take (0 + 1)).map (·.2)) = y2) := by show _ = _; rw [HN.out, hy2]; rfl
          clear hy1 hy2 HN
          go_wp2
          go_roundg (ts.length - 1)
          case measure => omega
          case rel => exact ⟨0 + 1, by omega, by simp, by rw [HN2.out], HLw.out.alloc _⟩
        · obtain ⟨y1, hy1⟩ : ∃ y : Bs, y = A ++ [44] := ⟨_, rfl⟩
          have k1 : bs A ++ ({ data := #[44] } : ByteArray) = bs y1 := by rw [hy1]; exact bs_append A [44]
          have k2 : bs y1 ++ bs x2 = bs (A ++ [44] ++ x2) := by rw [hy1]; exact bs_append _ _
          obtain ⟨y2, hy2⟩ : ∃ y : Bs, y = A ++ [44] ++ x2 := ⟨_, rfl⟩
          rw [← hy2] at k2
          have s1 : (bs y1).size = A.length + 1 := by rw [size_bs, hy1]; simp
          have HN2 : Hid (X ++ joinPre ((ts.take (j + 1)).map (·.2)) = y2) := by show _ = _; rw [HN.out, hy2, if_neg hj0]
          have hj0' : ((j : Int) == 0) = false := by rw [beq_eq_false_iff_ne]; omega
          clear hy1 hy2 HN
          go_wp2
          go_roundg (ts.length - (j + 1))
          case measure => omega
          case rel => exact ⟨j + 1, by omega, by go_num, by rw [HN2.out], HLw.out.alloc _⟩
      · have hje : j = ts.length := by omega
        subst hje
        rw [List.take_length] at HA
        by_cases h0 : ts = []
        · subst h0
          have HX2 : Hid (printAtom ⟨true, name, []⟩ = A) := by show _ = _; rw [HX.out, HA.out]; simp
          go_wp2
          go_ret
          exact ⟨by rw [HX2.out]; rfl, HLL.out⟩
        · have hpos : (0 : Int) < ts.length := by have := List.length_pos_iff.2 h0; omega
          obtain ⟨y3, hy3⟩ : ∃ y : Bs, y = A ++ [41] := ⟨_, rfl⟩
          have k3 : bs A ++ ({ data := #[41] } : ByteArray) = bs y3 := by rw [hy3]; exact bs_append A [41]
          have HX2 : Hid (printAtom ⟨true, name, ts⟩ = y3) := by show _ = _; rw [HX.out, HA.out.symm, if_neg h0, hy3]
          clear hy3
          go_wp2
          go_ret
          exact ⟨by rw [HX2.out]; rfl, HLL.out⟩

end Go.Proofs.Ytehipkidohomeaa
