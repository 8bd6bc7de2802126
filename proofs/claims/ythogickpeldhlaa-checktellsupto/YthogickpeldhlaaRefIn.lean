/- The document's answer: the walks of ref.Less, ref.Equal, ref.In. -/
import Derived.Test.YthogickpeldhlaaNames
import Derived.Shelf.SlSortCmp.QuietGrown
import Derived.Deep.QuietTactic
import Derived.BigQuiet
namespace Go.Proofs.Ythogickpeldhlaa
open Go.RowKit Go.Sort

/-- A fact comes first. -/
def lessF (f g : FactD) : Bool := decide (cmpF f g < 0)

theorem cmpS_lt (a b : ByteArray) : decide (cmpS a b < 0) = Op.bytesLess a.toList b.toList := by
  unfold cmpS
  cases h : Op.bytesLess a.toList b.toList
  · cases h2 : (a.toList == b.toList) <;> simp
  · simp

theorem cmpS_ne {a b : ByteArray} (h : (a.toList == b.toList) = false) : cmpS a b ≠ 0 := by
  intro e
  rw [three_cmpS.zero _ _ e] at h
  simp at h

theorem cmpS_eq {a b : ByteArray} (h : (a.toList == b.toList) = true) : cmpS a b = 0 := by
  have : a.toList = b.toList := by simpa using h
  rw [toList_inj this]; exact three_cmpS.refl b

theorem lessF_name {f g : FactD} (h : (f.1.toList == g.1.toList) = false) : lessF f g = Op.bytesLess f.1.toList g.1.toList := by
  unfold lessF cmpF; rw [if_pos (cmpS_ne h), cmpS_lt]

theorem lessF_len {f g : FactD} (h : (f.1.toList == g.1.toList) = true) (hl : ((f.2.length : Int) == (g.2.length : Int)) = false) : lessF f g = decide ((f.2.length : Int) < (g.2.length : Int)) := by
  have hl' : (f.2.length : Int) ≠ (g.2.length : Int) := by simpa using hl
  unfold lessF cmpF; rw [if_neg (by rw [cmpS_eq h]; simp)]
  unfold cmpI
  by_cases hh : (f.2.length : Int) < (g.2.length : Int)
  · simp [hh]
  · have h2 : (g.2.length : Int) < (f.2.length : Int) := by omega
    rw [if_neg hh, if_pos h2, decide_eq_false hh]; rfl

theorem lessF_args {f g : FactD} (h : (f.1.toList == g.1.toList) = true) (hl : f.2.length = g.2.length) : lessF f g = decide (cmpL f.2 g.2 < 0) := by
  unfold lessF cmpF; rw [if_neg (by rw [cmpS_eq h]; simp), if_neg (by rw [hl, three_cmpI.refl]; simp)]

set_option maxHeartbeats 1000000 in
theorem rLess_args (n1 n2 : ByteArray) (x y : List ByteArray) (a1 a2 : Option Addr) (c1 c2 : Nat) (w : World) (hn : (n1.toList == n2.toList) = true) (hl : x.length = y.length) (hx : x.length ≤ 8796093022208)
    (k1 : x ≠ [] → ∃ b off, a1 = some ⟨b, off, none⟩ ∧ b < w.heap.size ∧ ∀ i, i < x.length → w.cell? ⟨b, off + i, none⟩ = some (.string (x.getD i ByteArray.empty)))
    (k2 : y ≠ [] → ∃ b off, a2 = some ⟨b, off, none⟩ ∧ b < w.heap.size ∧ ∀ i, i < y.length → w.cell? ⟨b, off + i, none⟩ = some (.string (y.getD i ByteArray.empty))) :
    Calls Try.prog 26 #[.agg #[.string n1, .slice a1 x.length c1], .agg #[.string n2, .slice a2 y.length c2]] w fun e w' => e = .returned (.bool (decide (cmpL x y < 0))) ∧ Later w w' := by
  have K1 := hide k1
  have K2 := hide k2
  clear k1 k2
  have hl2 : ((x.length : Int) == (y.length : Int)) = true := by rw [hl]; simp
  have HL := hide hl
  clear hl
  go_enter Try.func26, Try.ntmps26
  go_wp2
  go_loopw [33] (fun i wr => ∃ k q : Nat, k ≤ x.length ∧ i = .int .i64 k ∧ wr = ((w.alloc (.cells #[.string n1, .slice a1 x.length c1] 25)).alloc (.cells #[.string n2, .slice a2 y.length c2] 25)).drewN q ∧ Hid (cmpL x y = cmpL (x.drop k) (y.drop k))) (fun i _ => x.length - (intOf i).toNat)
  case atStart => exact ⟨0, 0, Nat.zero_le _, rfl, rfl, (by simp : cmpL x y = cmpL (x.drop 0) (y.drop 0))⟩
  case round =>
    obtain ⟨k, q, hk, rfl, rfl, HE⟩ := hrel
    by_cases hlt : k < x.length
    · have hne : x ≠ [] := by intro e; rw [e] at hlt; simp at hlt
      have hlt2 : k < y.length := by have := HL.out; omega
      have hne2 : y ≠ [] := by intro e; rw [e] at hlt2; simp at hlt2
      obtain ⟨b, off, rfl, hb, hc⟩ := K1.out hne
      obtain ⟨b2, off2, rfl, hb2, hd⟩ := K2.out hne2
      have g1 := hc k hlt
      have g2 := hd k hlt2
      have e := cmpL_drop x y k hlt hlt2
      clear hc hd
      have hltz : (k : Int) < (x.length : Int) := by omega
      have hltz2 : (k : Int) < (y.length : Int) := by omega
      generalize x.getD k ByteArray.empty = sx at *
      generalize y.getD k ByteArray.empty = sy at *
      have E := hide e
      clear e
      have b1 : b < w.heap.size + 1 := by omega
      have b3 : b2 < w.heap.size + 1 := by omega
      cases hs : (sx.toList == sy.toList)
      · have F : Hid (decide (cmpL x y < 0) = Op.bytesLess sx.toList sy.toList) := by show _ = _; rw [HE.out, E.out, if_pos (cmpS_ne hs), cmpS_lt]
        go_wp2
        go_quiet (fail)
        go_wp2
        go_quiet (fail)
        go_wp2
        go_ret
        exact ⟨ret_bool F.out.symm, (by repeat (first | exact Later.refl _ | assumption | refine Later.drewN ?_ _ | refine Later.drew ?_ | refine Later.alloc ?_ _ | refine Later.grow ?_ _))⟩
      · have F : Hid (cmpL x y = cmpL (x.drop (k + 1)) (y.drop (k + 1))) := by show _ = _; rw [HE.out, E.out, if_neg (by rw [cmpS_eq hs]; simp)]
        go_wp2
        go_quiet (fail)
        go_wp2
        go_roundw
        case rel => exact ⟨k + 1, _, by omega, by go_num, rfl, F⟩
        case measure => simp [intOf]; omega
    · have F : Hid (cmpL x y = 0) := by
        show _ = _
        rw [HE.out, cmpL_drop_end x y k (by omega), if_neg (by have := HL.out; omega)]
      go_wp2
      go_ret
      exact ⟨ret_bool (by rw [F.out]; simp), (by repeat (first | exact Later.refl _ | assumption | refine Later.drewN ?_ _ | refine Later.drew ?_ | refine Later.alloc ?_ _ | refine Later.grow ?_ _))⟩

set_option maxHeartbeats 400000 in
theorem rLess (v1 v2 : Value) (f g : FactD) (w : World) (h1 : FactV w v1 f) (h2 : FactV w v2 g) :
    Calls Try.prog 26 #[v1, v2] w fun e w' => e = .returned (.bool (lessF f g)) ∧ Later w w' := by
  obtain ⟨s1, rfl, l1, a1, c1, rfl, k1⟩ := h1
  obtain ⟨s2, rfl, l2, a2, c2, rfl, k2⟩ := h2
  cases hn : (f.1.toList == g.1.toList)
  · rw [lessF_name hn]
    clear k1 k2
    go_enter Try.func26, Try.ntmps26
    go_wp2
    go_ret
    exact ⟨rfl, (by repeat (first | exact Later.refl _ | assumption | refine Later.drewN ?_ _ | refine Later.drew ?_ | refine Later.alloc ?_ _ | refine Later.grow ?_ _))⟩
  · cases hl : ((f.2.length : Int) == (g.2.length : Int))
    · rw [lessF_len hn hl]
      clear k1 k2
      go_enter Try.func26, Try.ntmps26
      go_wp2
      go_ret
      exact ⟨ret_bool (by simp), (by repeat (first | exact Later.refl _ | assumption | refine Later.drewN ?_ _ | refine Later.drew ?_ | refine Later.alloc ?_ _ | refine Later.grow ?_ _))⟩
    · have hl' : f.2.length = g.2.length := by have : (f.2.length : Int) = (g.2.length : Int) := by simpa using hl
                                               omega
      rw [lessF_args hn hl']
      exact rLess_args f.1 g.1 f.2 g.2 a1 a2 c1 c2 w hn hl' l1 k1 k2

/-- The same fact. -/
def sameF (f g : FactD) : Bool := decide (cmpF f g = 0)

theorem sameF_less (f g : FactD) : sameF f g = (!lessF f g && !lessF g f) := by
  have := three_cmpF.swap f g
  unfold sameF lessF
  rw [Bool.eq_iff_iff]; simp; omega

theorem sameF_iff {f g : FactD} : sameF f g = true ↔ f = g := by
  unfold sameF
  rw [decide_eq_true_eq]
  exact ⟨three_cmpF.zero f g, fun e => by rw [e]; exact three_cmpF.refl g⟩

theorem factV_agg {w : World} {v : Value} {f : FactD} (h : FactV w v f) : ∃ s, v = .agg #[.string f.1, s] ∧ FactV w (.agg #[.string f.1, s]) f := by
  obtain ⟨s, rfl, hs⟩ := h; exact ⟨s, rfl, s, rfl, hs⟩

set_option maxHeartbeats 400000 in
theorem rEqual (v1 v2 : Value) (f g : FactD) (w : World) (h1 : FactV w v1 f) (h2 : FactV w v2 g) :
    Calls Try.prog 60 #[v1, v2] w fun e w' => e = .returned (.bool (sameF f g)) ∧ Later w w' := by
  have H1 : Hid (∀ w', Later w w' → Calls Try.prog 26 #[v1, v2] w' fun e w'' => e = .returned (.bool (lessF f g)) ∧ Later w' w'') := fun w' hw => rLess v1 v2 f g w' (h1.later hw) (h2.later hw)
  have H2 : Hid (∀ w', Later w w' → Calls Try.prog 26 #[v2, v1] w' fun e w'' => e = .returned (.bool (lessF g f)) ∧ Later w' w'') := fun w' hw => rLess v2 v1 g f w' (h2.later hw) (h1.later hw)
  obtain ⟨s1, rfl, l1, a1, c1, rfl, k1⟩ := h1
  obtain ⟨s2, rfl, l2, a2, c2, rfl, k2⟩ := h2
  clear k1 k2
  rw [sameF_less]
  generalize lessF f g = x at *
  generalize lessF g f = y at *
  obtain ⟨n1, ar1⟩ := f
  obtain ⟨n2, ar2⟩ := g
  dsimp only at *
  cases x
  · go_enter Try.func60, Try.ntmps60
    go_wp2_with fail
    refine (H1.out _ (by repeat (first | exact Later.refl _ | refine Later.alloc ?_ _))).mono ?_
    rintro e w1 ⟨rfl, hL⟩
    have z1 : w1.cell? ⟨w.heap.size, 0, none⟩ = some (.string n1) := by rw [hL.cell (by simp; omega)]; simp
    have z2 : w1.cell? ⟨w.heap.size, 1, none⟩ = some (.slice a1 ar1.length c1) := by rw [hL.cell (by simp; omega)]; simp
    have z3 : w1.cell? ⟨w.heap.size + 1, 0, none⟩ = some (.string n2) := by rw [hL.cell (by simp)]; simp
    have z4 : w1.cell? ⟨w.heap.size + 1, 1, none⟩ = some (.slice a2 ar2.length c2) := by rw [hL.cell (by simp)]; simp
    go_wp2_with fail
    refine (H2.out _ (Later.trans (((Later.refl _).alloc _).alloc _) hL)).mono ?_
    rintro e w2 ⟨rfl, hL2⟩
    go_wp2
    go_ret
    exact ⟨by simp, (((Later.refl _).alloc _).alloc _).trans (hL.trans hL2)⟩
  · go_enter Try.func60, Try.ntmps60
    go_wp2_with fail
    refine (H1.out _ (by repeat (first | exact Later.refl _ | refine Later.alloc ?_ _))).mono ?_
    rintro e w1 ⟨rfl, hL⟩
    go_wp2
    go_ret
    exact ⟨by simp, (((Later.refl _).alloc _).alloc _).trans hL⟩

/-- Is f among those from k on? -/
def inFrom (l : List FactD) (f : FactD) (k : Nat) : Bool := (l.drop k).any fun x => sameF x f

theorem inFrom_step {l : List FactD} {f : FactD} {k : Nat} (h : k < l.length) : inFrom l f k = (sameF (l.getD k noFact) f || inFrom l f (k + 1)) := by
  unfold inFrom
  rw [List.drop_eq_getElem_cons h, List.any_cons, List.getD_eq_getElem?_getD, List.getElem?_eq_getElem h]; rfl

theorem inFrom_end {l : List FactD} {f : FactD} {k : Nat} (h : l.length ≤ k) : inFrom l f k = false := by
  unfold inFrom; rw [List.drop_eq_nil_of_le h]; rfl

/-- One fact of a slice of facts: its two cells, and the fact as a value. -/
theorem Facts.at {w : World} {b off : Nat} {n cap : Nat} {l : List FactD} (h : Facts w (.slice (some ⟨b, off, none⟩) n cap) l) {k : Nat} (hk : k < l.length) :
    b < w.heap.size ∧ ∃ a len c, w.cell? ⟨b, off + k * 2, none⟩ = some (.string (l.getD k noFact).1) ∧ w.cell? ⟨b, off + k * 2 + 1, none⟩ = some (.slice a len c) ∧ FactV w (.agg #[.string (l.getD k noFact).1, .slice a len c]) (l.getD k noFact) := by
  obtain ⟨_, a, cap', e, h1⟩ := h
  obtain ⟨b', off', e', hb, hc⟩ := h1 (by intro e; rw [e] at hk; simp at hk)
  rw [e'] at e
  simp only [Value.slice.injEq, Option.some.injEq, Addr.mk.injEq] at e
  obtain ⟨⟨rfl, rfl, _⟩, _, _⟩ := e
  obtain ⟨c1, s, c2, c3⟩ := hc k hk
  obtain ⟨a2, cp, rfl⟩ := sliceStr c3
  exact ⟨hb, a2, _, cp, c1, c2, _, rfl, c3⟩

theorem Facts.addr {w : World} {v : Value} {l : List FactD} (h : Facts w v l) : ∃ a cap, v = .slice a l.length cap ∧ l.length ≤ 3518437208883 ∧ (l = [] ∨ ∃ b off, a = some ⟨b, off, none⟩) := by
  obtain ⟨h0, a, cap, rfl, h1⟩ := h
  refine ⟨a, cap, rfl, h0, ?_⟩
  by_cases e : l = []
  · exact Or.inl e
  · obtain ⟨b, off, rfl, _⟩ := h1 e
    exact Or.inr ⟨b, off, rfl⟩

set_option maxHeartbeats 1000000 in
theorem rIn (v1 v2 : Value) (l : List FactD) (f : FactD) (w : World) (h1 : Facts w v1 l) (h2 : FactV w v2 f) :
    Calls Try.prog 28 #[v1, v2] w fun e w' => e = .returned (.bool (inFrom l f 0)) ∧ Later w w' := by
  have H1 := hide h1
  have H2 := hide h2
  obtain ⟨s2, rfl, l2, a2, c2, rfl, _⟩ := h2
  obtain ⟨a, cap, rfl, hn, hz⟩ := h1.addr
  clear h1
  go_enter Try.func28, Try.ntmps28
  go_wp2
  go_loopw [9] (fun i wr => ∃ k : Nat, k ≤ l.length ∧ i = .int .i64 k ∧ Later (w.alloc (.cells #[.string f.1, .slice a2 f.2.length c2] 25)) wr ∧ Hid (inFrom l f 0 = inFrom l f k)) (fun i _ => l.length - (intOf i).toNat)
  case atStart => exact ⟨0, by omega, rfl, Later.refl _, (rfl : _ = _)⟩
  case round =>
    obtain ⟨k, hk, rfl, hL, HE⟩ := hrel
    by_cases hlt : k < l.length
    · rcases hz with rfl | ⟨b, off, rfl⟩
      · simp at hlt
      have hL0 : Later w wr := ((Later.refl _).alloc _).trans hL
      obtain ⟨hb, ax, lx, cx, g1, g2, fx⟩ := (H1.out.later hL0).at hlt
      have z0 : wr.cell? ⟨w.heap.size, 0, none⟩ = some (.string f.1) := by rw [hL.cell (by simp)]; simp
      have z1 : wr.cell? ⟨w.heap.size, 1, none⟩ = some (.slice a2 f.2.length c2) := by rw [hL.cell (by simp)]; simp
      have z2 : w.heap.size < wr.heap.size := by have := hL.size; simp at this; omega
      have hs := inFrom_step (f := f) hlt
      have hltz : (k : Int) < (l.length : Int) := by omega
      have HC : Hid (∀ w', Later wr w' → Calls Try.prog 60 #[.agg #[.string (l.getD k noFact).1, .slice ax lx cx], .agg #[.string f.1, .slice a2 f.2.length c2]] w' fun e w'' => e = .returned (.bool (sameF (l.getD k noFact) f)) ∧ Later w' w'') :=
        fun w' hw => rEqual _ _ _ _ w' (fx.later hw) ((H2.out.later hL0).later hw)
      generalize (l.getD k noFact).1 = nk at *
      generalize sameF (l.getD k noFact) f = r at *
      clear fx
      cases r
      · have F : Hid (inFrom l f 0 = inFrom l f (k + 1)) := by show _ = _; rw [HE.out, hs]; rfl
        clear hs
        go_wp2_with (go_at_call 60; refine (HC.out _ ((Later.refl _).alloc _)).mono ?_; rintro e w1 ⟨rfl, hL1⟩)
        go_roundw
        case rel => exact ⟨k + 1, by omega, by go_num, hL.trans (((Later.refl _).alloc _).trans hL1), F⟩
        case measure => simp [intOf]; omega
      · have F : Hid (inFrom l f 0 = true) := by show _ = _; rw [HE.out, hs]; rfl
        clear hs
        go_wp2_with (go_at_call 60; refine (HC.out _ ((Later.refl _).alloc _)).mono ?_; rintro e w1 ⟨rfl, hL1⟩)
        go_ret
        exact ⟨ret_bool F.out.symm, hL0.trans (((Later.refl _).alloc _).trans hL1)⟩
    · have F : Hid (inFrom l f 0 = false) := by show _ = _; rw [HE.out, inFrom_end (by omega)]
      go_wp2
      go_ret
      exact ⟨ret_bool F.out.symm, ((Later.refl _).alloc _).trans hL⟩

end Go.Proofs.Ythogickpeldhlaa
