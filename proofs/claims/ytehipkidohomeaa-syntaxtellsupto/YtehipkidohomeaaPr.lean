/- The walks of syntax.Atom and syntax.Print. -/
import Derived.Test.YtehipkidohomeaaCells
import Derived.Test.YtehipkidohomeaaPrS
import Derived.Test.YtehipkidohomeaaRdB
namespace Go.Proofs.Ytehipkidohomeaa
open Go.RowKit Go.Sort

theorem join_len : ∀ l : List Bs, l.length ≤ (Lib.join l [44]).length + 1
  | [] => by simp
  | x :: r => by
    rw [Lib.join_cons]
    have : r.length ≤ (Lib.joinTail [44] r).length := by
      unfold Lib.joinTail
      induction r with
      | nil => simp
      | cons y r ih => simp only [List.map_cons, List.flatten_cons, List.length_append, List.length_cons] at *; omega
    simp only [List.length_append, List.length_cons]; omega

theorem appendStr {lo : Nat} {w : World} {v : Value} {l : List Bs} (h : strK.own 9 lo w v l) {c : List Value} {x : Bs} (hc : c = [.string (bs x)]) (hl : l.length + 1 ≤ 1099511627776) (hlo : lo ≤ w.heap.size) :
    ∃ v' w', (Builtin.append_ #[23, 23] 23 #[v, .slice (some ⟨w.heap.size, 0, none⟩) 1 1]).run Try.prog (w.alloc (.cells c.toArray 9)) = .ok v' w' ∧ strK.own 9 lo w' v' (l ++ [x]) ∧ (w.alloc (.cells c.toArray 9)).grownBy w' v.ownBlock := by
  obtain ⟨i, i1, i2, i3, i4⟩ := infoStr
  exact Kind.own_append h Try.underlying23 i1 i2 i3 i4 rfl (by decide) (by decide) hc hl hlo

theorem bs_append (a b : Bs) : bs a ++ bs b = bs (a ++ b) := by
  apply raw_inj
  rw [raw_bs]
  unfold raw
  rw [ByteArray.data_append]
  simp [bs]

theorem joinC {lo : Nat} {w : World} {v : Value} {l : List Bs} (h : strK.own 9 lo w v l) (h0 : l ≠ []) (hn : l.length ≤ 140737488355328) (hlen : (Lib.join l [44]).length ≤ 140737488355328) :
    Calls Try.prog 86 #[v, .string { data := #[44] }] w fun e w' => e = .returned (.string (bs (Lib.join l [44]))) ∧ Below w.heap.size w w' := by
  obtain ⟨xs, ho, hx⟩ := h
  rcases ho.2 with ⟨rfl, e⟩ | ⟨g, cap, cur, rfl, hbg, hg, hnc, _⟩
  · exact absurd (List.eq_nil_of_length_eq_zero e) h0
  · have hm : (l.map bs).map (·.data.toList) = l := by
      rw [List.map_map]
      conv => rhs; rw [← List.map_id l]
      exact List.map_congr_left fun x _ => raw_bs x
    have := Try.strings_Join g 0 cap (l.map bs) { data := #[44] } w (fun j x hj => by
      rw [List.getElem?_map] at hj
      cases hl : l[j]? with
      | none => rw [hl] at hj; cases hj
      | some y =>
        rw [hl] at hj
        simp at hj
        subst hj
        obtain ⟨c, rfl, c2⟩ := hx j y hl
        have := ho.cells (g := g) rfl _ _ (c2 0 _ rfl)
        rw [Addr.add_lit] at this
        simpa [strK] using this) (Array.getElem?_eq_some_iff.1 hg).1 (by simpa using hn) (by simpa using hnc) (by rw [hm]; exact hlen)
    rw [hm, List.length_map] at this
    exact this

set_option maxRecDepth 100000 in
set_option maxHeartbeats 2000000 in
theorem atomF (no : Bool) (name : Bs) (ts : List TermD) (sv : Value) (w : World) (hs : termK.sl (fun _ => True) w sv ts) (hlen : (printAtom ⟨no, name, ts⟩).length ≤ 549755813888) :
    Calls Try.prog 42 #[.agg #[.bool no, .string (bs name), sv]] w fun e w' => e = .returned (.string (bs (printAtom ⟨no, name, ts⟩))) ∧ Below w.heap.size w w' := by
  obtain ⟨⟨hs0, _⟩, sa, cap, rfl, hs1⟩ := hs
  have hnz : (bs name).size = name.length := size_bs name
  have hnl : name.length ≤ 549755813888 := by
    have h2 := hlen
    unfold printAtom at h2
    simp only [List.length_append] at h2
    omega
  cases no
  · by_cases ht : ts = []
    · subst ht
      have HX : Hid (printAtom ⟨false, name, []⟩ = name) := by show _ = _; simp [printAtom]
      go_enter Try.func42, Try.ntmps42
      go_wp2
      skip
      go_ret
      exact ⟨by rw [HX.out]; rfl, ((Later.refl w).alloc _).below⟩
    · have hn0 : ((ts.length : Int) == 0) = false := by
        rw [beq_eq_false_iff_ne]; intro e; exact ht (List.eq_nil_of_length_eq_zero (by omega))
      have hlp : 0 < ts.length := List.length_pos_iff.2 ht
      have HX : Hid (printAtom ⟨false, name, ts⟩ = name ++ [40] ++ Lib.join (ts.map (·.2)) [44] ++ [41]) := by show _ = _; simp [printAtom, ht]
      have hl0 : ts.length ≤ 1099511627776 := by
        have h1 := join_len (ts.map (·.2))
        have h2 := hlen
        rw [HX.out] at h2
        simp only [List.length_append, List.length_map] at h1 h2
        omega
      have HJ : Hid ((Lib.join (ts.map (·.2)) [44]).length ≤ 140737488355328) := by
        show _ ≤ _
        have h2 := hlen
        rw [HX.out] at h2
        simp only [List.length_append] at h2
        omega
      obtain ⟨b, off, rfl, _, hb, hc⟩ := hs1 ht
      have HC : Hid (∀ i x, ts[i]? = some x → w.cell? ⟨b, off + i * 2, none⟩ = some (.bool x.1) ∧ w.cell? ⟨b, off + i * 2 + 1, none⟩ = some (.string (bs x.2))) := fun i x hx => by
        obtain ⟨c, rfl, hc2⟩ := hc i x hx
        exact ⟨hc2 0 _ rfl, hc2 1 _ rfl⟩
      clear hc hs1 hlen
      go_enter Try.func42, Try.ntmps42
      go_wp2
      go_loopg [4, 21] ts.length (fun k o i wr => ∃ j : Nat, j + k = ts.length ∧ i = .int .i64 j ∧ strK.own 9 (w.heap.size + 1) wr o ((ts.take j).map (·.2)) ∧ Tn w.heap.size (w.alloc (.cells #[.bool false, .string (bs name), .slice (some ⟨b, off, none⟩) ts.length cap] 54)) wr)
      case atStart => exact ⟨0, by omega, rfl, strK.own_nil _ _ _, Tn.refl _ _⟩
      case round =>
        obtain ⟨j, hj, rfl, hO, hT⟩ := hrel
        obtain ⟨ao, co, rfl⟩ := Kind.own_slice hO
        have HO := hide hO
        have HT := hide hT
        have hsz := hT.size
        simp only [World.size_alloc] at hsz
        have hml : ((ts.take j).map (·.2)).length = j := by simp; omega
        rw [hml]
        by_cases hlt : j < ts.length
        · obtain ⟨x, hx⟩ : ∃ x, ts[j]? = some x := ⟨_, List.getElem?_eq_getElem hlt⟩
          obtain ⟨d0, d1⟩ := HC.out j x hx
          rw [← ((Later.refl w).alloc (.cells #[.bool false, .string (bs name), .slice (some ⟨b, off, none⟩) ts.length cap] 54)).cell (p := ⟨b, off + j * 2, none⟩) hb, ← hT.cell (x := ⟨b, off + j * 2, none⟩) (by show b < _; simp; omega) (by show b ≠ _; omega)] at d0
          rw [← ((Later.refl w).alloc (.cells #[.bool false, .string (bs name), .slice (some ⟨b, off, none⟩) ts.length cap] 54)).cell (p := ⟨b, off + j * 2 + 1, none⟩) hb, ← hT.cell (x := ⟨b, off + j * 2 + 1, none⟩) (by show b < _; simp; omega) (by show b ≠ _; omega)] at d1
          have hbr : b < wr.heap.size := by omega
          have hjz : (j : Int) < (ts.length : Int) := by omega
          obtain ⟨v', w4, hrun, hO4, hg4⟩ := appendStr (Kind.own_turned HO.out (((Tn.refl w.heap.size wr)).alloc (.cells #[.bool x.1, .string (bs x.2)] 105)) (by omega)) (c := [.string (bs x.2)]) (x := x.2) rfl (by rw [hml]; omega) (by simp; omega)
          rw [hml] at hrun
          simp only [World.size_alloc] at hrun
          have HR4 := hide hrun
          have HO4 : Hid (strK.own 9 (w.heap.size + 1) w4 v' ((ts.take (j + 1)).map (·.2))) := by
            show strK.own _ _ _ _ _
            rw [List.take_add_one, hx]; simpa using hO4
          have HT4 : Hid (Tn w.heap.size (w.alloc (.cells #[.bool false, .string (bs name), .slice (some ⟨b, off, none⟩) ts.length cap] 54)) w4) := by
            have hs4 := hg4.size
            simp only [World.size_alloc] at hs4
            refine ⟨hg4.os.trans HT.out.os, hg4.tape.trans HT.out.tape, hg4.output.trans HT.out.output, by simp; omega, fun k hk ho => ?_⟩
            simp only [World.size_alloc] at hk
            rw [hg4.block k (by simp; omega) (fun e => by have := (Kind.own_lt HO.out e.symm).1; omega), Below.heap_alloc _ _ _ (by simp; omega), Below.heap_alloc _ _ _ (by omega)]
            exact HT.out.block k (by simp; omega) ho
          clear hO hT hrun hO4 hg4 hx
          generalize x.1 = x1 at *
          generalize x.2 = x2 at *
          go_wp2_with (at_builtin; refine wpList_append_run rfl (.tmp 25) (.tmp 28) 23 rfl _ _ _ _ rfl rfl HR4.out ?_)
          go_roundg (ts.length - (j + 1))
          case measure => omega
          case rel => exact ⟨j + 1, by omega, by go_num, HO4.out, HT4.out⟩
        · have hje : j = ts.length := by omega
          subst hje
          rw [List.take_length, List.length_map] at HO
          have hmz : ts.map (·.2) ≠ [] := by simpa using ht
          have HJC := hide (joinC HO.out hmz (by simp; omega) HJ.out)
          obtain ⟨J, hJ⟩ : ∃ J, J = Lib.join (ts.map (·.2)) [44] := ⟨_, rfl⟩
          rw [← hJ] at HJC HX
          have hJl : J.length ≤ 140737488355328 := by rw [hJ]; exact HJ.out
          obtain ⟨y1, hy1⟩ : ∃ y, y = name ++ [40] := ⟨_, rfl⟩
          obtain ⟨y2, hy2⟩ : ∃ y, y = y1 ++ J := ⟨_, rfl⟩
          obtain ⟨y3, hy3⟩ : ∃ y, y = y2 ++ [41] := ⟨_, rfl⟩
          rw [← hy1, ← hy2, ← hy3] at HX
          have k1 : bs name ++ ({ data := #[40] } : ByteArray) = bs y1 := by rw [hy1]; exact bs_append name [40]
          have k2 : bs y1 ++ bs J = bs y2 := by rw [hy2]; exact bs_append _ _
          have k3 : bs y2 ++ ({ data := #[41] } : ByteArray) = bs y3 := by rw [hy3]; exact bs_append _ [41]
          have s1 : (bs name).size = name.length := size_bs _
          have s2 : (bs y1).size = name.length + 1 := by rw [size_bs, hy1]; simp
          have s3 : (bs J).size = J.length := size_bs _
          have s4 : (bs y2).size = name.length + 1 + J.length := by rw [size_bs, hy2, hy1]; simp only [List.length_append, List.length_cons, List.length_nil]
          clear hy1 hy2 hy3
          have HB : Hid (Below w.heap.size w wr) := below_trans ((Later.refl w).alloc _).below (HT.out.below (Nat.le_refl _) (by simp))
          have hlx : name.length ≤ 549755813889 := by first | omega | (simp; omega)
          clear hO hT HO HT hJ HJ hmz
          go_wp2_with fail
          refine HJC.out.mono ?_
          rintro e w5 ⟨rfl, hB5⟩
          have HB5 := hide hB5
          clear hB5
          go_wp2
          go_ret
          exact ⟨by rw [HX.out]; rfl, below_trans HB.out HB5.out⟩

  · have hcat : ({ data := #[33] } : ByteArray) ++ bs name = bs (33 :: name) := bs_append [33] name
    by_cases ht : ts = []
    · subst ht
      have HX : Hid (printAtom ⟨true, name, []⟩ = (33 :: name)) := by show _ = _; simp [printAtom]
      go_enter Try.func42, Try.ntmps42
      go_wp2
      skip
      go_ret
      exact ⟨by rw [HX.out]; rfl, ((Later.refl w).alloc _).below⟩
    · have hn0 : ((ts.length : Int) == 0) = false := by
        rw [beq_eq_false_iff_ne]; intro e; exact ht (List.eq_nil_of_length_eq_zero (by omega))
      have hlp : 0 < ts.length := List.length_pos_iff.2 ht
      have HX : Hid (printAtom ⟨true, name, ts⟩ = (33 :: name) ++ [40] ++ Lib.join (ts.map (·.2)) [44] ++ [41]) := by show _ = _; simp [printAtom, ht]
      have hl0 : ts.length ≤ 1099511627776 := by
        have h1 := join_len (ts.map (·.2))
        have h2 := hlen
        rw [HX.out] at h2
        simp only [List.length_append, List.length_map] at h1 h2
        omega
      have HJ : Hid ((Lib.join (ts.map (·.2)) [44]).length ≤ 140737488355328) := by
        show _ ≤ _
        have h2 := hlen
        rw [HX.out] at h2
        simp only [List.length_append] at h2
        omega
      obtain ⟨b, off, rfl, _, hb, hc⟩ := hs1 ht
      have HC : Hid (∀ i x, ts[i]? = some x → w.cell? ⟨b, off + i * 2, none⟩ = some (.bool x.1) ∧ w.cell? ⟨b, off + i * 2 + 1, none⟩ = some (.string (bs x.2))) := fun i x hx => by
        obtain ⟨c, rfl, hc2⟩ := hc i x hx
        exact ⟨hc2 0 _ rfl, hc2 1 _ rfl⟩
      clear hc hs1 hlen
      go_enter Try.func42, Try.ntmps42
      go_wp2
      go_loopg [4, 21] ts.length (fun k o i wr => ∃ j : Nat, j + k = ts.length ∧ i = .int .i64 j ∧ strK.own 9 (w.heap.size + 1) wr o ((ts.take j).map (·.2)) ∧ Tn w.heap.size (w.alloc (.cells #[.bool true, .string (bs name), .slice (some ⟨b, off, none⟩) ts.length cap] 54)) wr)
      case atStart => exact ⟨0, by omega, rfl, strK.own_nil _ _ _, Tn.refl _ _⟩
      case round =>
        obtain ⟨j, hj, rfl, hO, hT⟩ := hrel
        obtain ⟨ao, co, rfl⟩ := Kind.own_slice hO
        have HO := hide hO
        have HT := hide hT
        have hsz := hT.size
        simp only [World.size_alloc] at hsz
        have hml : ((ts.take j).map (·.2)).length = j := by simp; omega
        rw [hml]
        by_cases hlt : j < ts.length
        · obtain ⟨x, hx⟩ : ∃ x, ts[j]? = some x := ⟨_, List.getElem?_eq_getElem hlt⟩
          obtain ⟨d0, d1⟩ := HC.out j x hx
          rw [← ((Later.refl w).alloc (.cells #[.bool true, .string (bs name), .slice (some ⟨b, off, none⟩) ts.length cap] 54)).cell (p := ⟨b, off + j * 2, none⟩) hb, ← hT.cell (x := ⟨b, off + j * 2, none⟩) (by show b < _; simp; omega) (by show b ≠ _; omega)] at d0
          rw [← ((Later.refl w).alloc (.cells #[.bool true, .string (bs name), .slice (some ⟨b, off, none⟩) ts.length cap] 54)).cell (p := ⟨b, off + j * 2 + 1, none⟩) hb, ← hT.cell (x := ⟨b, off + j * 2 + 1, none⟩) (by show b < _; simp; omega) (by show b ≠ _; omega)] at d1
          have hbr : b < wr.heap.size := by omega
          have hjz : (j : Int) < (ts.length : Int) := by omega
          obtain ⟨v', w4, hrun, hO4, hg4⟩ := appendStr (Kind.own_turned HO.out (((Tn.refl w.heap.size wr)).alloc (.cells #[.bool x.1, .string (bs x.2)] 105)) (by omega)) (c := [.string (bs x.2)]) (x := x.2) rfl (by rw [hml]; omega) (by simp; omega)
          rw [hml] at hrun
          simp only [World.size_alloc] at hrun
          have HR4 := hide hrun
          have HO4 : Hid (strK.own 9 (w.heap.size + 1) w4 v' ((ts.take (j + 1)).map (·.2))) := by
            show strK.own _ _ _ _ _
            rw [List.take_add_one, hx]; simpa using hO4
          have HT4 : Hid (Tn w.heap.size (w.alloc (.cells #[.bool true, .string (bs name), .slice (some ⟨b, off, none⟩) ts.length cap] 54)) w4) := by
            have hs4 := hg4.size
            simp only [World.size_alloc] at hs4
            refine ⟨hg4.os.trans HT.out.os, hg4.tape.trans HT.out.tape, hg4.output.trans HT.out.output, by simp; omega, fun k hk ho => ?_⟩
            simp only [World.size_alloc] at hk
            rw [hg4.block k (by simp; omega) (fun e => by have := (Kind.own_lt HO.out e.symm).1; omega), Below.heap_alloc _ _ _ (by simp; omega), Below.heap_alloc _ _ _ (by omega)]
            exact HT.out.block k (by simp; omega) ho
          clear hO hT hrun hO4 hg4 hx
          generalize x.1 = x1 at *
          generalize x.2 = x2 at *
          go_wp2_with (at_builtin; refine wpList_append_run rfl (.tmp 25) (.tmp 28) 23 rfl _ _ _ _ rfl rfl HR4.out ?_)
          go_roundg (ts.length - (j + 1))
          case measure => omega
          case rel => exact ⟨j + 1, by omega, by go_num, HO4.out, HT4.out⟩
        · have hje : j = ts.length := by omega
          subst hje
          rw [List.take_length, List.length_map] at HO
          have hmz : ts.map (·.2) ≠ [] := by simpa using ht
          have HJC := hide (joinC HO.out hmz (by simp; omega) HJ.out)
          obtain ⟨J, hJ⟩ : ∃ J, J = Lib.join (ts.map (·.2)) [44] := ⟨_, rfl⟩
          rw [← hJ] at HJC HX
          have hJl : J.length ≤ 140737488355328 := by rw [hJ]; exact HJ.out
          obtain ⟨y1, hy1⟩ : ∃ y, y = (33 :: name) ++ [40] := ⟨_, rfl⟩
          obtain ⟨y2, hy2⟩ : ∃ y, y = y1 ++ J := ⟨_, rfl⟩
          obtain ⟨y3, hy3⟩ : ∃ y, y = y2 ++ [41] := ⟨_, rfl⟩
          rw [← hy1, ← hy2, ← hy3] at HX
          have k1 : bs (33 :: name) ++ ({ data := #[40] } : ByteArray) = bs y1 := by rw [hy1]; exact bs_append (33 :: name) [40]
          have k2 : bs y1 ++ bs J = bs y2 := by rw [hy2]; exact bs_append _ _
          have k3 : bs y2 ++ ({ data := #[41] } : ByteArray) = bs y3 := by rw [hy3]; exact bs_append _ [41]
          have s1 : (bs (33 :: name)).size = (33 :: name).length := size_bs _
          have s2 : (bs y1).size = (33 :: name).length + 1 := by rw [size_bs, hy1]; simp
          have s3 : (bs J).size = J.length := size_bs _
          have s4 : (bs y2).size = (33 :: name).length + 1 + J.length := by rw [size_bs, hy2, hy1]; simp only [List.length_append, List.length_cons, List.length_nil]
          clear hy1 hy2 hy3
          have HB : Hid (Below w.heap.size w wr) := below_trans ((Later.refl w).alloc _).below (HT.out.below (Nat.le_refl _) (by simp))
          have hlx : (33 :: name).length ≤ 549755813889 := by first | omega | (simp; omega)
          clear hO hT HO HT hJ HJ hmz
          go_wp2_with fail
          refine HJC.out.mono ?_
          rintro e w5 ⟨rfl, hB5⟩
          have HB5 := hide hB5
          clear hB5
          go_wp2
          go_ret
          exact ⟨by rw [HX.out]; rfl, below_trans HB.out HB5.out⟩

theorem writeC (B b : Nat) (l : List Value) (s : ByteArray) (w : World) (h : Lib.IsBuilderF 96 5 B b l w) (hlen : l.length + s.size ≤ 140737488355328) (hBw : B ≤ w.heap.size) :
    Calls Try.prog 82 #[.pointer (some ⟨b, 0, none⟩), .string s] w fun e w' => e = .returned (.tuple #[.int .i64 s.size, .nilIface]) ∧ (Lib.BuilderAtF 96 5 B b (.pointer (some ⟨b, 0, none⟩)) (l ++ Lib.strCells s) w' ∧ Below B w w' ∧ Lib.OthersKept 5 (some b) w w') :=
  Any.Builder_WriteString_k { Try.lays156 with } Try.Builder_Extra_156 B b l s w h hlen hBw

end Go.Proofs.Ytehipkidohomeaa
