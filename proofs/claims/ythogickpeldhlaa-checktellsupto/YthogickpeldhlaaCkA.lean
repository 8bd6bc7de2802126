/- The walks of check's sets of names. -/
import Derived.Test.YthogickpeldhlaaCells
import Derived.Test.YthogickpeldhlaaMp
namespace Go.Proofs.Ythogickpeldhlaa
open Go.RowKit Go.Sort Go.Maps

abbrev NamesM (w : World) (b n : Nat) (f : Bs → Bool) : Prop := SetM Try.prog 9 w b n f
theorem zeroUnit (w : World) : (zeroValue 144).run Try.prog w = .ok (.agg #[]) w := by kernel_rfl
theorem zeroInt (w : World) : (zeroValue 3).run Try.prog w = .ok (.int .i64 0) w := by kernel_rfl

theorem Tn.of_grown {p : Nat} {a b : World} (h : a.grownBy b (some p)) : Tn p a b := ⟨h.os, h.tape, h.output, h.size, fun k hk ho => h.block k hk (by simpa using ho)⟩

/-- An element's cells, and where they may lie. -/
theorem Kind.sl_atB {α : Type} {K : Kind α} {B : Nat → Prop} {w : World} {a : Option Addr} {n cap i : Nat} {l : List α} {x : α} (h : K.sl B w (.slice a n cap) l) (hi : l[i]? = some x) :
    ∃ b off c, a = some ⟨b, off, none⟩ ∧ b < w.heap.size ∧ B b ∧ K.is B w c x ∧ ∀ j u, c[j]? = some u → w.cell? ⟨b, off + i * K.size + j, none⟩ = some u := by
  obtain ⟨_, a', cap', e, h1⟩ := h
  simp only [Value.slice.injEq] at e
  obtain ⟨rfl, _, _⟩ := e
  obtain ⟨b, off, rfl, hB, hb, hc⟩ := h1 (by intro e; rw [e] at hi; simp at hi)
  obtain ⟨c, c1, c2⟩ := hc i x hi
  exact ⟨b, off, c, rfl, hb, hB, c1, c2⟩

set_option maxHeartbeats 400000 in
theorem hasC (b n : Nat) (f : Bs → Bool) (s : Bs) (w : World) (h : NamesM w b n f) (hs : s.length ≤ maxLen) :
    Calls Try.prog 91 #[.map (some b), .string (bs s)] w fun e w' => e = .returned (.bool (f s)) ∧ Later w w' := by
  have hr := SetM.has (T := 115) (E := 144) h Try.underlying9 Try.underlying115 (zeroUnit w) hs
  generalize f s = r at *
  generalize bs s = k at *
  go_enter Try.func91, Try.ntmps91
  go_wp2
  go_ret
  exact ⟨rfl, (Later.refl _).alloc _⟩

theorem contains_take {l : List Bs} {j : Nat} {x : Bs} (h : l[j]? = some x) (s : Bs) : (l.take (j + 1)).contains s = ((l.take j).contains s || decide (s = x)) := by
  rw [List.take_add_one, h]
  rw [Bool.eq_iff_iff]
  simp

set_option maxHeartbeats 1000000 in
theorem addC (b n : Nat) (f : Bs → Bool) (v : Value) (l : List Bs) (w : World) (h : NamesM w b n f) (hv : strK.sl (fun k => k ≠ b) w v l) (hn : n + l.length < maxLen) (hs : ∀ s ∈ l, s.length ≤ maxLen) :
    Calls Try.prog 92 #[.map (some b), v] w fun e w' => e = .returned (.tuple #[]) ∧ NamesM w' b (n + l.length) (fun s => f s || l.contains s) ∧ Tn b w w' := by
  obtain ⟨a, cap, rfl⟩ := Kind.slice hv
  have HV := hide hv
  have hl := hv.1.1
  clear hv
  have H0 : Hid (NamesM w b (n + 0) (fun s => f s || (l.take 0).contains s)) := h.congr fun s => by simp
  clear h
  go_enter Try.func92, Try.ntmps92
  go_wp2
  go_loopg [8] l.length (fun k i wr => ∃ j : Nat, j + k = l.length ∧ i = .int .i64 j ∧ Hid (NamesM wr b (n + j) (fun s => f s || (l.take j).contains s)) ∧ Hid (Tn b w wr))
  case atStart => exact ⟨0, by omega, rfl, H0, Tn.refl _ _⟩
  case round =>
    obtain ⟨j, hj, rfl, HM, HT⟩ := hrel
    by_cases hlt : j < l.length
    · obtain ⟨x, hx⟩ : ∃ x, l[j]? = some x := ⟨_, List.getElem?_eq_getElem hlt⟩
      obtain ⟨b1, o1, _, rfl, hb1, hne, rfl, hc⟩ := Kind.sl_atB HV.out hx
      have d0 : wr.cell? ⟨b1, o1 + j, none⟩ = some (.string (bs x)) := by rw [HT.out.cell hb1 hne]; simpa [strK] using hc 0 _ rfl
      obtain ⟨w1, hr, hm, hg⟩ := SetM.add (T := 115) (E := 144) HM.out Try.underlying9 Try.underlying115 (by omega) (hs x (List.mem_of_getElem? hx))
      have HM1 : Hid (NamesM w1 b (n + (j + 1)) (fun s => f s || (l.take (j + 1)).contains s)) := hm.congr fun s => by rw [contains_take hx]; simp [Bool.or_assoc]
      have HT1 : Hid (Tn b w w1) := HT.out.trans (Tn.of_grown hg)
      clear hc hm hg hx HM HT
      generalize bs x = k at *
      go_wp2_with (first
        | (at_mapUpdate; refine wpList_run_update _ rfl _ _ _ _ rfl _ _ _ _ rfl rfl rfl hr ?_)
        | go_in)
      go_roundg (l.length - (j + 1))
      case measure => omega
      case rel => exact ⟨j + 1, by omega, by go_num, HM1, HT1⟩
    · have e : j = l.length := by omega
      subst e
      go_wp2
      go_end0
      exact ⟨rfl, by simpa using HM.out, HT.out⟩

set_option maxHeartbeats 1000000 in
theorem hasAllC (b n : Nat) (f : Bs → Bool) (v : Value) (l : List Bs) (w : World) (h : NamesM w b n f) (hv : strK.sl Anyw w v l) (hs : ∀ s ∈ l, s.length ≤ maxLen) :
    Calls Try.prog 95 #[.map (some b), v] w fun e w' => e = .returned (.bool (l.all f)) ∧ Later w w' := by
  obtain ⟨a, cap, rfl⟩ := Kind.slice hv
  have HV := hide hv
  have hl := hv.1.1
  clear hv
  have H0 := hide h
  clear h
  go_enter Try.func95, Try.ntmps95
  go_wp2
  go_loopg [9] l.length (fun k i wr => ∃ j : Nat, j + k = l.length ∧ i = .int .i64 j ∧ Hid (Later w wr) ∧ Hid (l.all f = (l.drop j).all f))
  case atStart => exact ⟨0, by omega, rfl, Later.refl _, (rfl : _ = _)⟩
  case round =>
    obtain ⟨j, hj, rfl, HL, HF⟩ := hrel
    by_cases hlt : j < l.length
    · obtain ⟨x, hx⟩ : ∃ x, l[j]? = some x := ⟨_, List.getElem?_eq_getElem hlt⟩
      obtain ⟨b1, o1, _, rfl, hb1, rfl, hc⟩ := Kind.sl_at HV.out hx
      have d0 : wr.cell? ⟨b1, o1 + j, none⟩ = some (.string (bs x)) := by rw [HL.out.cell hb1]; simpa [strK] using hc 0 _ rfl
      have hC := hasC b n f x wr (H0.out.later HL.out) (hs x (List.mem_of_getElem? hx))
      have HC := hide hC
      have hd : (l.drop j).all f = (f x && (l.drop (j + 1)).all f) := by
        obtain ⟨h1, e1⟩ := List.getElem?_eq_some_iff.1 hx
        rw [List.drop_eq_getElem_cons h1, e1]; rfl
      clear hc hx hC
      generalize bs x = k at *
      cases hf : f x
      · have F : Hid (l.all f = false) := by show _ = _; rw [HF.out, hd, hf]; rfl
        rw [hf] at HC
        clear hd HF
        go_wp2_with (go_at_call 91; refine HC.out.mono ?_; rintro e w' ⟨rfl, hL⟩; replace hL := hide hL)
        go_ret
        exact ⟨ret_bool F.out.symm, HL.out.trans (unhide hL)⟩
      · have F : Hid (l.all f = (l.drop (j + 1)).all f) := by show _ = _; rw [HF.out, hd, hf]; rfl
        rw [hf] at HC
        clear hd HF
        go_wp2_with (go_at_call 91; refine HC.out.mono ?_; rintro e w' ⟨rfl, hL⟩; replace hL := hide hL)
        go_roundg (l.length - (j + 1))
        case measure => omega
        case rel => exact ⟨j + 1, by omega, by go_num, HL.out.trans (unhide hL), F⟩
    · have F : Hid (l.all f = true) := by show _ = _; rw [HF.out, List.drop_eq_nil_of_le (by omega)]; rfl
      go_wp2
      go_ret
      exact ⟨ret_bool F.out.symm, HL.out⟩

end Go.Proofs.Ythogickpeldhlaa
