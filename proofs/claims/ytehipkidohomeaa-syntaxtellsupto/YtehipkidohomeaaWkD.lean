/- The walk of the reference's Walk.Atoms. -/
import Derived.Test.YtehipkidohomeaaWkC
namespace Go.Proofs.Ytehipkidohomeaa
open Go.RowKit Go.Sort

/-- The atoms that follow, k more at most. -/
def atomsGo : Nat → List AtomD → Bs → Res (List AtomD)
  | 0, _, l => .bad 5 l
  | k + 1, out, l => (bodyAtom l).next fun t r => listGo bodyAtom k (out ++ [t]) r
theorem listGo_atoms (k : Nat) (out : List AtomD) (l : Bs) : listGo bodyAtom k out l = if (took [44] l).1 then atomsGo k out (took [44] l).2 else .ok out (took [44] l).2 := by
  cases k <;> (unfold listGo; rfl)
theorem body_atoms (l : Bs) : body l = atomsGo 5 [] l := rfl

/-- What the loop over atoms keeps. -/
def AtomsR (w : World) (p : Nat) (s : ByteArray) (l0 : Bs) (g : Nat) (v more : Value) (wr : World) : Prop :=
  ∃ out, atomK.own 54 w.heap.size wr v out ∧ Tn p w wr ∧ out.length ≤ 5 ∧ ((more = .bool true ∧ ∃ l', g = 6 - out.length ∧ Wk wr p s l' 0 0 ∧ body l0 = atomsGo (5 - out.length) out l') ∨
    (more = .bool false ∧ ((∃ l', Wk wr p s l' 0 0 ∧ body l0 = .ok out l') ∨ ∃ n r l', n ≠ 0 ∧ Wk wr p s l' n (pos s r) ∧ body l0 = .bad n r)))

set_option maxRecDepth 100000 in
set_option maxHeartbeats 4000000 in
theorem wAtoms (p : Nat) (s : ByteArray) (l : Bs) (w : World) (h : Wk w p s l 0 0) :
    Calls Try.prog 79 #[.pointer (some ⟨p, 0, none⟩)] w fun e w' => Wends p s w (atomK.sl (From w.heap.size)) (body l) e w' := by
  have hp := h.lt
  have HR0 : Hid (AtomsR w p s l 6 (.slice none 0 0) (.bool true) w) := ⟨[], atomK.own_nil _ _ _, Tn.refl _ _, by simp, Or.inl ⟨rfl, l, rfl, h, body_atoms l⟩⟩
  clear h
  go_enter Try.func79, Try.ntmps79
  go_wp2
  go_loopg [3, 4] 6 (fun g v more wr => Hid (AtomsR w p s l g v more wr))
  case atStart => exact HR0
  case round =>
    clear HR0
    obtain ⟨out, hO, hT, hlen, ⟨rfl, l', hg, hW, hE⟩ | ⟨rfl, hend⟩⟩ := hrel.out
    · obtain ⟨ao, co, rfl⟩ := Kind.own_slice hO
      have HOk := hide (wOk p s l' 0 0 wr hW)
      have HE := hide hE
      have hws := hT.size
      clear hE hrel
      by_cases h5 : out.length = 5
      · have HS := hide (wStop p s l' 5 wr hW)
        have HX3 : Hid (body l = .bad 5 l') := by show _ = _; rw [HE.out, h5]; rfl
        have h5z : (5 : Int) ≤ (out.length : Int) := by omega
        have HT := hide hT
        clear hW hO hT HE h5
        go_wp2_with (first
          | (go_at_call 75; refine HOk.out.mono ?_; rintro e w' ⟨rfl, hww⟩; rw [hww]; clear hww w')
          | fail)
        refine HS.out.mono ?_
        rintro e w6 ⟨rfl, hW6, hT6⟩
        have HW6 := hide hW6
        have HT6 := hide (HT.out.trans hT6)
        clear hW6 hT6
        go_wp2
        go_ret
        exact wendsBad (a := []) HX3.out HT6.out (atomK.sl_nil _ _ _ _) HW6.out
      · have h5z : ¬ (5 : Int) ≤ (out.length : Int) := by omega
        have HA := hide (wAtom p s l' true wr hW)
        rw [if_pos rfl] at HA
        have HT := hide hT
        have HO := hide hO
        clear hW hO hT
        go_wp2_with (first
          | (go_at_call 75; refine HOk.out.mono ?_; rintro e w' ⟨rfl, hww⟩; rw [hww]; clear hww w')
          | fail)
        refine HA.out.mono ?_
        intro e w6 ⟨hT6, hE6⟩
        obtain ⟨a6, lz, n, k, ⟨c, rfl, hK⟩, hW6, hres⟩ : ∃ a6 lz n k, (∃ c : List Value, e = .returned (.agg c.toArray) ∧ atomK.is (From wr.heap.size) w6 c a6) ∧ Wk w6 p s lz n k ∧ ((n = 0 ∧ k = 0 ∧ bodyAtom l' = .ok a6 lz) ∨ (n ≠ 0 ∧ ∃ r2, k = pos s r2 ∧ bodyAtom l' = .bad n r2)) := by
          cases hx : bodyAtom l' with
          | ok a r =>
            rw [hx] at hE6
            obtain ⟨v6, he, ⟨c, hv, hc⟩, hW⟩ := hE6
            exact ⟨a, r, 0, 0, ⟨c, by rw [he, hv], hc⟩, hW, Or.inl ⟨rfl, rfl, rfl⟩⟩
          | bad n r =>
            rw [hx] at hE6
            obtain ⟨v6, a, l2, he, ⟨c, hv, hc⟩, hW⟩ := hE6
            exact ⟨a, l2, n, _, ⟨c, by rw [he, hv], hc⟩, hW, Or.inr ⟨wrongs_bodyAtom _ _ _ hx, r, rfl, rfl⟩⟩
        clear hE6
        have hO6 := Kind.own_turned HO.out hT6 hp
        have hs6 := hT6.size
        obtain ⟨v8, w8, hrun, hO8, hg8⟩ := appendAtom hO6 (c := c) (x := a6) (atomK.mono hK fun k _ hk => ⟨by have : wr.heap.size ≤ k := hk; omega, fun e => by have h1 := (Kind.own_lt HO.out e).2; have : wr.heap.size ≤ k := hk; omega⟩) (by omega) (by omega)
        have hs8 := hg8.size
        simp only [World.size_alloc] at hs8
        have HT8 : Hid (Tn p w w8) := by
          have h6 := HT.out.trans hT6
          refine ⟨hg8.os.trans h6.os, hg8.tape.trans h6.tape, hg8.output.trans h6.output, by omega, fun i hi ho => ?_⟩
          rw [hg8.block i (by simp; omega) (fun e => by have := (Kind.own_lt hO6 e.symm).1; omega), Below.heap_alloc _ _ _ (by omega)]
          exact h6.block i hi ho
        have hW8 : Wk w8 p s lz n k := hW6.block (by rw [hg8.block p (by simp; omega) (fun e => by have := (Kind.own_lt hO6 e.symm).1; omega), Below.heap_alloc _ _ _ (by omega)])
        have HO8 := hide hO8
        replace hrun := hide hrun
        obtain ⟨tv, rfl, hts⟩ := hK
        obtain ⟨ta, tc, rfl⟩ := Kind.slice hts
        clear hO6 hO8 hg8 hW6 hT6 hts HA HOk HO HT
        rcases hres with ⟨rfl, rfl, hwd⟩ | ⟨hn, r2, rfl, hwd⟩
        · have HEa := hide (wEat p s lz [44] w8 (by decide) hW8)
          have hgo : atomsGo (5 - out.length) out l' = if (took [44] lz).1 then atomsGo (4 - out.length) (out ++ [a6]) (took [44] lz).2 else .ok (out ++ [a6]) (took [44] lz).2 := by
            rw [show 5 - out.length = (4 - out.length) + 1 by omega]
            show (bodyAtom l').next _ = _
            rw [hwd, ← listGo_atoms]; rfl
          have HG := hide hgo
          clear hgo hwd hW8
          go_wp2_with (first
            | (at_builtin; refine wpList_append_run rfl (.tmp 17) (.tmp 20) 48 rfl _ _ _ _ rfl rfl (unhide hrun) ?_)
            | fail)
          refine HEa.out.mono ?_
          rintro e w9 ⟨rfl, hW9, hT9⟩
          generalize (took [44] lz).2 = l9 at *
          generalize (took [44] lz).1 = t9 at *
          have HR9 : Hid (AtomsR w p s l (5 - out.length) v8 (.bool t9) w9) := by
            refine ⟨out ++ [a6], Kind.own_turned HO8.out hT9 hp, HT8.out.trans hT9, by simp; omega, ?_⟩
            cases t9
            · exact Or.inr ⟨rfl, Or.inl ⟨l9, hW9, HE.out.trans HG.out⟩⟩
            · exact Or.inl ⟨rfl, l9, by simp <;> omega, hW9, by rw [HE.out, HG.out, if_pos rfl]; simp only [List.length_append, List.length_cons, List.length_nil]; rw [show 5 - (out.length + (0 + 1)) = 4 - out.length by omega]⟩
          clear hW9 hT9 HEa HG HO8 HT8
          go_wp2
          go_roundg (5 - out.length)
          case measure => omega
          case rel => exact HR9
        · have HEa := hide (wEatNot p s lz [44] n (pos s r2) w8 hW8 hn)
          have HR9 : Hid (AtomsR w p s l (5 - out.length) v8 (.bool false) w8) := by
            refine ⟨out ++ [a6], HO8.out, HT8.out, by simp; omega, Or.inr ⟨rfl, Or.inr ⟨n, r2, lz, hn, hW8, ?_⟩⟩⟩
            rw [HE.out, show 5 - out.length = (4 - out.length) + 1 by omega]
            show (bodyAtom l').next _ = _
            rw [hwd]; rfl
          clear hwd hW8 HO8 HT8
          go_wp2_with (first
            | (at_builtin; refine wpList_append_run rfl (.tmp 17) (.tmp 20) 48 rfl _ _ _ _ rfl rfl (unhide hrun) ?_)
            | fail)
          refine HEa.out.mono ?_
          rintro e w9 ⟨rfl, rfl⟩
          go_wp2
          go_roundg (5 - out.length)
          case measure => omega
          case rel => exact HR9
    · clear hrel
      obtain ⟨ao, co, rfl⟩ := Kind.own_slice hO
      have HSl := hide (Kind.own_sl hO (by omega))
      have HT := hide hT
      have HEnd := hide hend
      clear hO hT hend
      go_wp2
      go_ret
      rcases HEnd.out with ⟨l', hW, hE⟩ | ⟨n, r2, l', hn, hW, hE⟩
      · exact wendsOk hE HT.out HSl.out hW
      · exact wendsBad hE HT.out HSl.out hW

end Go.Proofs.Ytehipkidohomeaa
