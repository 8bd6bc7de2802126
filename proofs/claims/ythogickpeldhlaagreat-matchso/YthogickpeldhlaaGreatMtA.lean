/- The walks of match.Get, match.worth and what they call. -/
import Derived.Test.YthogickpeldhlaaGreatBnd
import Derived.Test.YthogickpeldhlaaGreatHeld
namespace Go.Proofs.YthogickpeldhlaaGreat
open Go.RowKit Go.Sort

theorem eq_list {a b : ByteArray} : (a.toList == b.toList) = decide (a = b) := by
  rw [Bool.eq_iff_iff]
  simp only [beq_iff_eq, decide_eq_true_eq]
  exact ⟨toList_inj, fun h => by rw [h]⟩

set_option maxHeartbeats 400000 in
theorem get1 (b1 b2 v : ByteArray) (c : Nat) (w : World) (hc : w.cell? ⟨c, 0, none⟩ = some (.string v)) (hb : c < w.heap.size) :
    Calls Tryz.prog 36 #[.agg #[.string b1, .string b2], .pointer (some ⟨c, 0, none⟩)] w fun e w' => e = .returned (.bool (decide (b1 = v))) ∧ Later w w' := by
  have E := hide (eq_list (a := b1) (b := v))
  go_enter Tryz.func36, Tryz.ntmps36
  go_wp2
  go_ret
  exact ⟨ret_bool E.out, (by repeat (first | exact Later.refl _ | assumption | refine Later.drewN ?_ _ | refine Later.drew ?_ | refine Later.alloc ?_ _ | refine Later.grow ?_ _))⟩

theorem getB_drop {l : List BindD} {k : Nat} {b : BindD} (h : l[k]? = some b) (v : ByteArray) : getB (l.drop k) v = if b.1 = v then some b.2 else getB (l.drop (k + 1)) v := by
  obtain ⟨h1, e1⟩ := List.getElem?_eq_some_iff.1 h
  rw [List.drop_eq_getElem_cons h1, e1]; rfl

set_option maxHeartbeats 1000000 in
/-- slices.IndexFunc at binds, asked for a variable. -/
theorem indexBind (u : Value) (l : List BindD) (v : ByteArray) (c : Nat) (w : World) (hu : bindK.sl Anyw w u l) (hc : w.cell? ⟨c, 0, none⟩ = some (.string v)) (hb : c < w.heap.size) :
    Calls Tryz.prog 35 #[u, .func (.func 36) #[] #[.pointer (some ⟨c, 0, none⟩)]] w fun e w' => ∃ n : Int, e = .returned (.int .i64 n) ∧ ((n = -1 ∧ getB l v = none) ∨ ∃ k b, n = (k : Nat) ∧ l[k]? = some b ∧ getB l v = some b.2) ∧ Later w w' := by
  obtain ⟨a, cap, rfl⟩ := Kind.slice hu
  have hl := hu.1.1
  have HU := hide hu
  have HC : Hid (∀ w' b1 b2, Later w w' → Calls Tryz.prog 36 #[.agg #[.string b1, .string b2], .pointer (some ⟨c, 0, none⟩)] w' fun e w'' => e = .returned (.bool (decide (b1 = v))) ∧ Hid (Later w w'')) := fun w' b1 b2 hL =>
    (get1 b1 b2 v c w' (by rw [hL.cell hb]; exact hc) (Nat.lt_of_lt_of_le hb hL.size)).mono fun e w'' ⟨he, hL2⟩ => ⟨he, hL.trans hL2⟩
  clear hu hc hb
  go_enter Tryz.func35, Tryz.ntmps35
  go_wp2
  go_loopg [8] l.length (fun g i wr => ∃ k : Nat, k + g = l.length ∧ i = .int .i64 k ∧ Hid (getB l v = getB (l.drop k) v) ∧ Hid (Later w wr))
  case atStart => exact ⟨0, by omega, rfl, (rfl : _ = _), Later.refl _⟩
  case round =>
    obtain ⟨k, hk, rfl, HE, HL⟩ := hrel
    by_cases hlt : k < l.length
    · obtain ⟨b, hx⟩ : ∃ x, l[k]? = some x := ⟨_, List.getElem?_eq_getElem hlt⟩
      obtain ⟨b1, o1, _, rfl, hb1, rfl, hcl⟩ := Kind.sl_at HU.out hx
      have d0 : wr.cell? ⟨b1, o1 + k * 2, none⟩ = some (.string b.1) := by rw [HL.out.cell hb1]; exact hcl 0 _ rfl
      have d1 : wr.cell? ⟨b1, o1 + k * 2 + 1, none⟩ = some (.string b.2) := by rw [HL.out.cell hb1]; exact hcl 1 _ rfl
      have hbr : b1 < wr.heap.size := Nat.lt_of_lt_of_le hb1 HL.out.size
      have HD := hide (getB_drop hx v)
      have HX := hide hx
      have HCk := hide (HC.out wr b.1 b.2 HL.out)
      clear hcl hx
      obtain ⟨bv, bn⟩ := b
      dsimp only at *
      by_cases hq : bv = v
      · have hq' : decide (bv = v) = true := by simpa using hq
        have F : Hid (getB l v = some bn) := by show _ = _; rw [HE.out, HD.out, if_pos hq]
        rw [hq'] at HCk
        clear hq hq' HD HE
        go_wp2_with (go_at_call 36; refine HCk.out.mono ?_; rintro e w2 ⟨rfl, hL2⟩)
        go_ret
        exact ⟨_, rfl, Or.inr ⟨k, (bv, bn), rfl, HX.out, F.out⟩, hL2.out⟩
      · have hq' : decide (bv = v) = false := by simpa using hq
        have F : Hid (getB l v = getB (l.drop (k + 1)) v) := by show _ = _; rw [HE.out, HD.out, if_neg hq]
        rw [hq'] at HCk
        clear hq hq' HD HE
        go_wp2_with (go_at_call 36; refine HCk.out.mono ?_; rintro e w2 ⟨rfl, hL2⟩)
        go_roundg (l.length - (k + 1))
        case measure => omega
        case rel => exact ⟨k + 1, by omega, by go_num, F, hL2⟩
    · have F : Hid (getB l v = none) := by show _ = _; rw [HE.out, List.drop_eq_nil_of_le (by omega)]; rfl
      go_wp2
      go_ret
      exact ⟨_, rfl, Or.inl ⟨rfl, F.out⟩, HL.out⟩

/-- What a look-up tells. -/
def toldV (x : Option ByteArray) : Value := .tuple #[.string (x.getD ByteArray.empty), .bool x.isSome]

set_option maxHeartbeats 1000000 in
theorem getC (u : Value) (l : List BindD) (v : ByteArray) (w : World) (hu : bindK.sl Anyw w u l) : Calls Tryz.prog 14 #[u, .string v] w fun e w' => e = .returned (toldV (getB l v)) ∧ Later w w' := by
  have HI := hide (indexBind u l v w.heap.size (w.alloc (.cells #[.string v] 9)) (Kind.sl_later hu ((Later.refl _).alloc _)) (by simp) (by simp))
  have HU := hide hu
  obtain ⟨a, cap, rfl⟩ := Kind.slice hu
  clear hu
  go_enter Tryz.func14, Tryz.ntmps14
  go_wp2_with fail
  refine HI.out.mono ?_
  rintro e w2 ⟨n, rfl, h, hL⟩
  have HL := hide (((Later.refl w).alloc (.cells #[.string v] 9)).trans hL)
  clear hL HI
  rcases h with ⟨rfl, h⟩ | ⟨k, b, rfl, hk, h⟩
  · have H := hide h
    clear h
    go_wp2
    go_ret2
    exact ⟨by rw [H.out]; rfl, HL.out⟩
  · obtain ⟨b1, o1, _, rfl, hb1, rfl, hcl⟩ := Kind.sl_at HU.out hk
    have d1 : w2.cell? ⟨b1, o1 + k * 2 + 1, none⟩ = some (.string b.2) := by rw [HL.out.cell hb1]; exact hcl 1 _ rfl
    have hbr : b1 < w2.heap.size := Nat.lt_of_lt_of_le hb1 HL.out.size
    have hkl : k < l.length := (List.getElem?_eq_some_iff.1 hk).1
    have hkz : (k : Int) < (l.length : Int) := by omega
    have hk0 : ¬ (k : Int) < 0 := by omega
    have H := hide h
    clear h hcl hk
    go_wp2
    go_ret2
    exact ⟨by rw [H.out]; rfl, HL.out⟩

/-- What is asked of a closure that tells what variables stand for. -/
def Tells (g : Nat) (cb : Array Value) (l : List BindD) (w0 : World) : Prop := ∀ w v, Later w0 w → Calls Tryz.prog g (#[.string v] ++ cb) w fun e w' => e = .returned (toldV (getB l v)) ∧ Later w w'

set_option maxHeartbeats 1000000 in
theorem worthC (g : Nat) (cb : Array Value) (eg : ∀ args w, (callFunc g args).run Tryz.prog w = .ok (.enter g args) w) (t : TermD) (l : List BindD) (w0 w : World) (h : Tells g cb l w0) (hL : Later w0 w) :
    Calls Tryz.prog 31 #[.agg #[.bool t.1, .string (bs t.2)], .func (.func g) #[] cb] w fun e w' => e = .returned (toldV (worthB l t)) ∧ Later w w' := by
  obtain ⟨t1, t2⟩ := t
  cases t1
  · show Calls _ _ _ _ fun e w' => e = .returned (toldV (some (bs t2))) ∧ _
    dsimp only
    generalize bs t2 = k
    clear h
    go_enter Tryz.func31, Tryz.ntmps31
    go_wp2
    go_ret2
    exact ⟨rfl, (by repeat (first | exact Later.refl _ | assumption | refine Later.drewN ?_ _ | refine Later.drew ?_ | refine Later.alloc ?_ _ | refine Later.grow ?_ _))⟩
  · show Calls _ _ _ _ fun e w' => e = .returned (toldV (getB l (bs t2))) ∧ _
    dsimp only
    generalize bs t2 = k
    have HT := hide (h (w.alloc (.cells #[.bool true, .string k] 73)) k (hL.alloc _))
    clear h
    unfold toldV at HT ⊢
    generalize (getB l k).getD ByteArray.empty = s at *
    generalize (getB l k).isSome = b at *
    go_enter Tryz.func31, Tryz.ntmps31
    go_wp2_with fail
    refine HT.out.mono ?_
    rintro e w2 ⟨rfl, hL2⟩
    have HL2 := hide (((Later.refl w).alloc (.cells #[.bool true, .string k] 73)).trans hL2)
    clear hL2 HT
    go_wp2
    go_ret2
    exact ⟨rfl, HL2.out⟩

end Go.Proofs.YthogickpeldhlaaGreat
