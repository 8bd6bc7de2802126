/- The walk of syntax.list at terms. -/
import Derived.Test.YthogickpeldhlaaGreatRdA
namespace Go.Proofs.YthogickpeldhlaaGreat
open Go.RowKit Go.Sort

theorem infoTerm : ∃ i, Tryz.prog.info? 73 = some i ∧ i.zero = some (.agg #[.bool false, .string ByteArray.empty]) ∧ i.size = 2 ∧ i.bytes = 24 := ⟨Tryz.t73, by kernel_rfl, by kernel_rfl, by kernel_rfl, by kernel_rfl⟩

theorem appendTerm {lo : Nat} {w : World} {v : Value} {l : List TermD} (h : termK.own 73 lo w v l) {c : List Value} {x : TermD} (hc : termK.is (fun k => lo ≤ k ∧ v.ownBlock ≠ some k) w c x) (hl : l.length + 1 ≤ 1099511627776) (hlo : lo ≤ w.heap.size) :
    ∃ v' w', (Builtin.append_ #[36, 36] 36 #[v, .slice (some ⟨w.heap.size, 0, none⟩) 1 1]).run Tryz.prog (w.alloc (.cells c.toArray 73)) = .ok v' w' ∧ termK.own 73 lo w' v' (l ++ [x]) ∧ (w.alloc (.cells c.toArray 73)).grownBy w' v.ownBlock := by
  obtain ⟨i, i1, i2, i3, i4⟩ := infoTerm
  exact Kind.own_append h Tryz.underlying36 i1 i2 i3 i4 rfl (by decide) (by decide) hc hl hlo

set_option maxHeartbeats 2000000 in
theorem listTerm (p : Nat) (s : ByteArray) (l : Bs) (w : World) (h : Rd w p s l) :
    Calls Tryz.prog 134 #[.pointer (some ⟨p, 0, none⟩), .int .i64 4, .func (.func 135) #[.pointer (some ⟨p, 0, none⟩)] #[]] w fun e w' => Ends' p s w (termK.sl (From w.heap.size)) (listP term 4 l) e w' := by
  have hlt := h.lt
  have HC := hide (termC p s l w h)
  clear h
  go_enter Tryz.func134, Tryz.ntmps134
  go_wp2_with fail
  refine HC.out.mono ?_
  intro e w1 hE
  obtain ⟨hT, ⟨a, r, v, hx, rfl, ⟨c, rfl, hK⟩, hR⟩ | ⟨n, r, hx, rfl, hR⟩⟩ := hE.split
  · have HO := hide (Kind.own_one (ty := 73) hK hT.size)
    have HG : Hid (listGo term 3 [a] r = listP term 4 l) := by show _ = _; unfold listP; rw [hx]; rfl
    have HT := hide (hT.alloc (.cells c.toArray 73))
    have HR := hide (hR.below ((((Later.refl w1).alloc (.cells c.toArray 73))).below))
    have hlo := hT.size
    obtain rfl := hK
    clear hx hT hR hE HC
    go_wp2
    go_loopg [7] 3 (fun k o wr => ∃ out l', k + out.length = 4 ∧ termK.own 73 w.heap.size wr o out ∧ listGo term k out l' = listP term 4 l ∧ Rd wr p s l' ∧ Tn p w wr)
    case atStart => exact ⟨[a], r, rfl, HO.out, HG.out, HR.out, HT.out⟩
    case round =>
      obtain ⟨out, l', hk, hO, hG, hR, hT⟩ := hrel
      clear HO HG HR HT
      obtain ⟨ao, co, rfl⟩ := Kind.own_slice hO
      have HO := hide hO
      have HG := hide hG
      have HC := hide (tookC p s l' [44] wr hR)
      have HT := hide hT
      clear hO hG hR hT
      go_wp2_with fail
      refine HC.out.mono ?_
      rintro e w2 ⟨rfl, hR2, hT2⟩
      have HR2 := hide hR2
      have HT2 := hide (HT.out.trans hT2)
      have HO2 := hide (Kind.own_turned HO.out hT2 hlt)
      cases ht : (took [44] l').1
      · have HX : Hid (listP term 4 l = .ok out (took [44] l').2) := by
          show _ = _; rw [← HG.out]; unfold listGo; rw [if_neg (by rw [ht]; simp)]
        clear ht hR2 hT2 HO HC HG HT
        go_wp2
        go_ret
        exact endsOk HX.out HT2.out (Kind.own_sl HO2.out (by omega)) HR2.out
      · cases gk with
        | zero =>
          have HX : Hid (listP term 4 l = .bad 5 (took [44] l').2) := by
            show _ = _; rw [← HG.out]; unfold listGo; rw [if_pos ht]
          have hlen : ((out.length : Int) == 4) = true := by rw [beq_iff_eq]; omega
          have HF := hide (failC p s _ 5 w2 hR2)
          clear ht hR2 hT2 HO HC HG HT
          go_wp2_with fail
          refine HF.out.mono ?_
          rintro e w3 ⟨rfl, rfl⟩
          exact ⟨rfl, endsBad HX.out HT2.out HR2.out⟩
        | succ n =>
          have HX : Hid (listP term 4 l = (term (took [44] l').2).next fun a r => listGo term n (out ++ [a]) r) := by
            show _ = _; rw [← HG.out, listGo_yes ht]
          have hlen : ((out.length : Int) == 4) = false := by rw [beq_eq_false_iff_ne]; omega
          have HP := hide (termC p s _ w2 hR2)
          clear ht hR2 hT2 HO HC HG HT
          go_wp2_with fail
          refine HP.out.mono ?_
          intro e w3 hE
          obtain ⟨hT3, ⟨a', r', v, hx, rfl, ⟨c', rfl, hK3⟩, hR3⟩ | ⟨n', r', hx, rfl, hR3⟩⟩ := hE.split
          · have hO3 := Kind.own_turned HO2.out hT3 hlt
            have hsz2 := HT2.out.size
            obtain ⟨v', w4, hrun, hO4, hg4⟩ := appendTerm hO3 (termK.mono hK3 fun k hk hB => ⟨by have : w2.heap.size ≤ k := hB; omega, fun e => by
              have h1 := (Kind.own_lt HO2.out e).2
              have h2 : w2.heap.size ≤ k := hB
              omega⟩) (by omega) (by have := hT3.size; omega)
            have HR4 := hide hrun
            have HO4 := hide hO4
            have HG4 : Hid (listGo term n (out ++ [a']) r' = listP term 4 l) := by show _ = _; rw [HX.out, hx]; rfl
            have hblk : ∀ k, k < w3.heap.size → k < w.heap.size → w4.heap[k]? = w3.heap[k]? := fun k hk hk' =>
              (hg4.block k (by simp; omega) (fun e => by have := (Kind.own_lt HO2.out e.symm).1; omega)).trans (Below.heap_alloc w3 _ k hk)
            have hs4 : w3.heap.size ≤ w4.heap.size := by have := hg4.size; simp at this; omega
            have HT4 : Hid (Tn p w w4) := ⟨hg4.os.trans (hT3.os.trans HT2.out.os), hg4.tape.trans (hT3.tape.trans HT2.out.tape), hg4.output.trans (hT3.output.trans HT2.out.output), by have := hT3.size; omega,
              fun k hk ho => (hblk k (by have := hT3.size; omega) hk).trans ((hT3.block k (by omega) ho).trans (HT2.out.block k hk ho))⟩
            have hRd : Rd w4 p s r' := ⟨hR3.short, hR3.suf, by have := hR3.lt; omega, hR3.ne,
              by rw [World.cell?_of_block (w := w3) (a := ⟨p, 0, none⟩) (hblk p hR3.lt hlt)]; exact hR3.c0, by rw [World.cell?_of_block (w := w3) (a := ⟨p, 1, none⟩) (hblk p hR3.lt hlt)]; exact hR3.c1,
              by rw [World.frozen?_of_block (w := w3) (a := ⟨p, 1, none⟩) (hblk p hR3.lt hlt)]; exact hR3.fz,
              by obtain ⟨m, e⟩ := hR3.g; exact ⟨m, by rw [World.cell?_of_block (w := w3) (a := ⟨0, 0, none⟩) (hblk 0 (by have := hR3.lt; omega) (by omega))]; exact e⟩⟩
            have HRd := hide hRd
            obtain rfl := hK3
            clear hx hE hT3 hR3 hrun hO4 hg4 hO3 hRd hblk HR2
            go_wp2_with (at_builtin; refine wpList_append_run rfl (.tmp 21) (.tmp 24) 36 rfl _ _ _ _ rfl rfl HR4.out ?_)
            go_roundg n
            case measure => exact Nat.lt_succ_self n
            case rel => exact ⟨out ++ [a'], r', by simp; omega, HO4.out, HG4.out, HRd.out, HT4.out⟩
          · have hx' : listP term 4 l = .bad n' r' := by rw [HX.out, hx]; rfl
            exact ⟨rfl, endsBad hx' (HT2.out.trans hT3) hR3⟩
  · have hx' : listP term 4 l = .bad n r := by unfold listP; rw [hx]; rfl
    exact ⟨rfl, endsBad hx' hT hR⟩

end Go.Proofs.YthogickpeldhlaaGreat
