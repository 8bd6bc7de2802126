/- Texts of this claim, one behind the other. -/
import Derived.Test.YtbohggoeebhdmaaGreatDoorJ17
import Derived.Test.YtbohggoeebhdmaaGreatDoorJ16
import Derived.Test.YtbohggoeebhdmaaGreatDoorJ13
import Derived.Test.YtbohggoeebhdmaaGreatDoorJ18
/- The walks of naive's widths, and of naive.Facts. -/
namespace Go.Proofs.YtbohggoeebhdmaaGreatDoor
open Go.RowKit Go.Sort Go.Maps

abbrev Wids := Bs → Option Int
def Wids.put (m : Wids) (s : Bs) (n : Int) : Wids := fun t => if t = s then some n else m t
def widOne (m : Wids) (a : AtomD) : Wids := match m a.name with
  | none => m.put a.name a.terms.length
  | some n => if n ≠ a.terms.length then m.put a.name (-1) else m.put a.name a.terms.length
/-- The numbers are those of these atoms. -/
def WidOf (A : List AtomD) (m : Wids) : Prop := ∀ s, (m s = none ↔ ∀ a ∈ A, a.name ≠ s) ∧ ∀ n, m s = some n → ∀ k : Nat, n = (k : Int) ↔ ∀ a ∈ A, a.name = s → a.terms.length = k

theorem WidOf.nil : WidOf [] (fun _ => none) := fun s => ⟨by simp, fun n h => by cases h⟩
theorem WidOf.step {A : List AtomD} {m : Wids} (h : WidOf A m) (a : AtomD) : WidOf (A ++ [a]) (widOne m a) := by
  have key : ∀ x : Int, widOne m a = m.put a.name x → (∀ k : Nat, x = (k : Int) ↔ ∀ b ∈ A ++ [a], b.name = a.name → b.terms.length = k) → WidOf (A ++ [a]) (widOne m a) := fun x hx hk s => by
    rw [hx]
    unfold Wids.put
    by_cases e : s = a.name
    · subst e
      simp only [if_true]
      refine ⟨⟨fun h => by simp at h, fun h => absurd rfl (h a (by simp))⟩, fun n hn => ?_⟩
      cases hn
      exact hk
    · simp only [if_neg e]
      obtain ⟨h1, h2⟩ := h s
      refine ⟨by rw [h1]; exact ⟨fun h b hb => (List.mem_append.1 hb).elim (h b) (fun hb => by simp only [List.mem_singleton] at hb; subst hb; exact fun e' => e e'.symm), fun h b hb => h b (by simp [hb])⟩, fun n hn k => ?_⟩
      rw [h2 n hn k]
      exact ⟨fun h b hb hbs => (List.mem_append.1 hb).elim (fun hb => h b hb hbs) (fun hb => by simp only [List.mem_singleton] at hb; subst hb; exact absurd hbs.symm e), fun h b hb => h b (by simp [hb])⟩
  obtain ⟨h1, h2⟩ := h a.name
  unfold widOne at key ⊢
  cases e : m a.name with
  | none =>
    rw [e] at key
    refine key _ rfl fun k => ?_
    have hn := h1.1 e
    constructor
    · intro hk b hb hbn
      rcases List.mem_append.1 hb with hb | hb
      · exact absurd hbn (hn b hb)
      · simp only [List.mem_singleton] at hb; subst hb; omega
    · intro hk; have := hk a (by simp) rfl; omega
  | some n =>
    rw [e] at key
    dsimp only at key ⊢
    have hA := h2 n e
    by_cases hne : n ≠ a.terms.length
    · rw [if_pos hne] at key ⊢
      refine key _ rfl fun k => ⟨fun hk => by omega, fun hk => ?_⟩
      exfalso
      have h3 := hk a (by simp) rfl
      have h4 := (hA k).2 fun b hb => hk b (by simp [hb])
      omega
    · rw [if_neg hne] at key ⊢
      have hne : n = a.terms.length := by omega
      refine key _ rfl fun k => ?_
      constructor
      · intro hk b hb hbn
        rcases List.mem_append.1 hb with hb | hb
        · exact (hA k).1 (by omega) b hb hbn
        · simp only [List.mem_singleton] at hb; subst hb; omega
      · intro hk; have := hk a (by simp) rfl; omega

/-- Block b holds such numbers. -/
def WidM (w : World) (b n : Nat) (m : Wids) : Prop := ∃ D : DataW Unit, w.ownsMap Tryz.prog 9 (plainElem Tryz.prog 3) b n D ∧ ∀ s, Maps.has D (.string s) = (m s).isSome ∧ D.atKey (.string s) (.lit (.int .i64 0)) = .lit (.int .i64 ((m s).getD 0))

theorem WidM.made (w : World) : WidM (w.alloc (.map #[] 0)) w.heap.size 0 (fun _ => none) := ⟨.map [], World.ownsMap_made _ _ _ _, fun _ => ⟨rfl, rfl⟩⟩

theorem WidM.lt {w : World} {b n : Nat} {m : Wids} (h : WidM w b n m) : b < w.heap.size := by obtain ⟨D, h, _⟩ := h; exact h.lt
theorem WidM.block {w w' : World} {b n : Nat} {m : Wids} (h : WidM w b n m) (e : w'.heap[b]? = w.heap[b]?) : WidM w' b n m := by obtain ⟨D, h, hf⟩ := h; exact ⟨D, owns_block h e, hf⟩
theorem WidM.later {w w' : World} {b n : Nat} {m : Wids} (h : WidM w b n m) (k : Later w w') : WidM w' b n m := h.block (k.block h.lt)

set_option maxRecDepth 100000 in
theorem WidM.look {w : World} {b n : Nat} {m : Wids} (h : WidM w b n m) {s : Bs} (hs : s.length ≤ maxLen) :
    (Instr.lookup 70 (.map (some b)) (.string (bs s)) true).run Tryz.prog w = .ok (.tuple #[.int .i64 ((m s).getD 0), .bool (m s).isSome]) w := by
  obtain ⟨D, hown, hf⟩ := h
  obtain ⟨v, ps, hrun, hv⟩ := hown.look_ok (string_keyed Tryz.underlying9) (t := 70) Tryz.underlying70 (zeroInt _) (plainElem_int Tryz.underlying3 (by decide)) (key_mk Tryz.underlying9 hs)
  rw [(hf s).2] at hv
  obtain ⟨c, rfl, hc, _⟩ := plainElem_int_inv Tryz.underlying3 hv
  simp only [Prod.mk.injEq] at hc
  have hc := hc.1
  injection hc with hc
  injection hc with _ hc
  subst hc
  refine hrun.trans ?_
  rw [(hf s).1]

theorem WidM.store {w : World} {b n : Nat} {m : Wids} (h : WidM w b n m) (hn : n < maxLen) {s : Bs} (hs : s.length ≤ maxLen) {x : Int} (hx : (Lit.int .i64 x).wf = true) :
    ∃ w', (Instr.mapUpdate 70 (.map (some b)) (.string (bs s)) (.int .i64 x)).run Tryz.prog w = .ok () w' ∧ WidM w' b (n + 1) (m.put s x) ∧ w.grownBy w' (some b) := by
  obtain ⟨D, hown, hf⟩ := h
  obtain ⟨w', hrun, r1, r2⟩ := hown.update (string_keyed Tryz.underlying9) (t := 70) Tryz.underlying70 hn (key_mk Tryz.underlying9 hs) (plainElem_int Tryz.underlying3 hx)
  refine ⟨w', hrun, ⟨_, r1, fun t => ?_⟩, r2⟩
  by_cases e : t = s
  · subst e
    exact ⟨by rw [has_put_same hown.isMap (keyS _)]; simp [Wids.put], by rw [atKey_put_same hown.isMap (keyS _)]; simp [Wids.put]⟩
  · exact ⟨by rw [has_put_other (str_ne e), (hf t).1]; simp [Wids.put, e], by rw [atKey_put_other (str_ne e), (hf t).2]; simp [Wids.put, e]⟩

set_option maxRecDepth 100000 in
set_option maxHeartbeats 1000000 in
theorem widAddC (b n : Nat) (m : Wids) (a : AtomD) (v : Value) (w : World) (h : WidM w b n m) (hv : termK.sl Anyw w v a.terms) (hs : a.name.length ≤ maxLen) (hn : n < maxLen) :
    Calls Tryz.prog 70 #[.map (some b), .agg #[.bool a.no, .string (bs a.name), v]] w fun e w' => (∃ u, e = .returned u) ∧ WidM w' b (n + 1) (widOne m a) ∧ Tn b w w' := by
  obtain ⟨sa, cap, rfl⟩ := Kind.slice hv
  have hl0 := hv.1.1
  clear hv
  have h1 := h.later ((Later.refl w).alloc (.cells #[.bool a.no, .string (bs a.name), .slice sa a.terms.length cap] 40))
  have hr := h1.look hs
  have hblt := h.lt
  cases hm : m a.name with
  | none =>
    obtain ⟨w1, hst, hm1, hg⟩ := h1.store hn hs (x := (a.terms.length : Nat)) (wf_len (by omega))
    rw [hm] at hr
    have F : Hid (widOne m a = m.put a.name a.terms.length) := by show _ = _; unfold widOne; rw [hm]
    have HM : Hid (WidM w1 b (n + 1) (m.put a.name a.terms.length)) := hm1
    have HT : Hid (Tn b w w1) := (Tn.of_below (p := b) ((Later.refl w).alloc _).below).trans (tn_of_grown hg)
    have hst' := hide hst
    clear h h1 hm1 hg hst hm
    simp only [Option.getD_none, Option.isSome_none] at hr
    generalize bs a.name = nm at *
    generalize a.no = no at *
    go_enter Tryz.func70, Tryz.ntmps70
    go_wp2_with (first
      | (at_mapUpdate; refine wpList_run_update _ rfl _ _ _ _ rfl _ _ _ _ rfl rfl rfl (unhide hst') ?_)
      | go_in)
    go_end0
    exact ⟨⟨_, rfl⟩, by rw [F.out]; exact HM.out, HT.out⟩
  | some k =>
    rw [hm] at hr
    simp only [Option.getD_some, Option.isSome_some] at hr
    by_cases hne : k ≠ a.terms.length
    · obtain ⟨w1, hst, hm1, hg⟩ := h1.store hn hs (x := -1) (by decide)
      have F : Hid (widOne m a = m.put a.name (-1)) := by show _ = _; unfold widOne; rw [hm]; exact if_pos hne
      have HM : Hid (WidM w1 b (n + 1) (m.put a.name (-1))) := hm1
      have HT : Hid (Tn b w w1) := (Tn.of_below (p := b) ((Later.refl w).alloc _).below).trans (tn_of_grown hg)
      have hst' := hide hst
      have hq : (k != (a.terms.length : Int)) = true := by simpa using hne
      clear h h1 hm1 hg hst hm hne
      generalize bs a.name = nm at *
      generalize a.no = no at *
      go_enter Tryz.func70, Tryz.ntmps70
      go_wp2_with (first
        | (at_mapUpdate; refine wpList_run_update _ rfl _ _ _ _ rfl _ _ _ _ rfl rfl rfl (unhide hst') ?_)
        | go_in)
      exact bodyPost_ret (results_none rfl _ _ _) rfl ⟨⟨_, rfl⟩, by rw [F.out]; exact HM.out, HT.out⟩
    · have hk : k = (a.terms.length : Int) := by omega
      subst hk
      obtain ⟨w1, hst, hm1, hg⟩ := h1.store hn hs (x := (a.terms.length : Nat)) (wf_len (by omega))
      have F : Hid (widOne m a = m.put a.name a.terms.length) := by show _ = _; unfold widOne; rw [hm]; exact if_neg (by simp)
      have HM : Hid (WidM w1 b (n + 1) (m.put a.name a.terms.length)) := hm1
      have HT : Hid (Tn b w w1) := (Tn.of_below (p := b) ((Later.refl w).alloc _).below).trans (tn_of_grown hg)
      have hst' := hide hst
      clear h h1 hm1 hg hst hm hne
      generalize bs a.name = nm at *
      generalize a.no = no at *
      go_enter Tryz.func70, Tryz.ntmps70
      go_wp2_with (first
        | (at_mapUpdate; refine wpList_run_update _ rfl _ _ _ _ rfl _ _ _ _ rfl rfl rfl (unhide hst') ?_)
        | go_in)
      go_end0
      exact ⟨⟨_, rfl⟩, by rw [F.out]; exact HM.out, HT.out⟩

def widFits (m : Wids) (f : FactB) : Bool := match m (raw f.1) with | none => true | some k => decide (k = f.2.length)

set_option maxRecDepth 100000 in
set_option maxHeartbeats 1000000 in
theorem widFitC (b n : Nat) (m : Wids) (f : FactB) (v : Value) (w : World) (h : WidM w b n m) (hv : FactV w v f) (hs : f.1.size ≤ maxLen) :
    Calls Tryz.prog 37 #[.map (some b), v] w fun e w' => e = .returned (.bool (widFits m f)) ∧ Later w w' := by
  unfold widFits
  obtain ⟨u, rfl, hu⟩ := hv
  obtain ⟨sa, cap, rfl⟩ := sliceStr hu
  obtain ⟨nm, args⟩ := f
  dsimp only at *
  have h1 := h.later ((Later.refl w).alloc (.cells #[.string nm, .slice sa args.length cap] 54))
  have hr := h1.look (s := raw nm) (by rw [length_raw]; exact hs)
  rw [bs_raw] at hr
  clear h h1 hu hs
  cases hm : m (raw nm) with
  | none =>
    rw [hm] at hr
    simp only [Option.getD_none, Option.isSome_none] at hr
    go_enter Tryz.func37, Tryz.ntmps37
    go_wp2
    go_ret
    exact ⟨rfl, (by repeat (first | exact Later.refl _ | assumption | refine Later.drewN ?_ _ | refine Later.drew ?_ | refine Later.alloc ?_ _ | refine Later.grow ?_ _))⟩
  | some k =>
    rw [hm] at hr
    simp only [Option.getD_some, Option.isSome_some] at hr
    go_enter Tryz.func37, Tryz.ntmps37
    go_wp2
    go_ret
    refine ⟨ret_bool ?_, (by repeat (first | exact Later.refl _ | assumption | refine Later.drewN ?_ _ | refine Later.drew ?_ | refine Later.alloc ?_ _ | refine Later.grow ?_ _))⟩
    rw [Bool.eq_iff_iff]
    simp

end Go.Proofs.YtbohggoeebhdmaaGreatDoor

/- The walks of naive's widthsOf, Facts and Count. -/
namespace Go.Proofs.YtbohggoeebhdmaaGreatDoor
open Go.RowKit Go.Sort Go.Maps

theorem atomsP_append (p q : List RuleD) : atomsP (p ++ q) = atomsP p ++ atomsP q := by simp [atomsP]

theorem WidM.mono {w : World} {b n n' : Nat} {m : Wids} (h : WidM w b n m) (hn : n ≤ n') : WidM w b n' m := by obtain ⟨D, h, hf⟩ := h; exact ⟨D, h.mono hn, hf⟩

set_option maxRecDepth 100000 in
set_option maxHeartbeats 4000000 in
theorem widthsOfC (p : List RuleD) (v : Value) (w : World) (hv : ruleK.sl Anyw w v p) (h16 : p.length ≤ 16) (h5 : ∀ r ∈ p, r.body.length ≤ 5) (hs : ∀ a ∈ atomsP p, a.name.length ≤ 12) :
    Calls Tryz.prog 36 #[v] w fun e w' => ∃ n m, e = .returned (.map (some w.heap.size)) ∧ WidM w' w.heap.size n m ∧ WidOf (atomsP p) m ∧ Below w.heap.size w w' := by
  obtain ⟨pa, pc, rfl⟩ := Kind.slice hv
  have HV := hide hv
  have HS := hide hs
  have H5 := hide h5
  have HM0 : Hid (WidM (w.alloc (.map #[] 0)) w.heap.size 0 (fun _ => none)) := WidM.made w
  have HB0 : Hid (Below w.heap.size w (w.alloc (.map #[] 0))) := ((Later.refl w).alloc _).below
  have hmm := @run_makeMap Tryz.prog
  clear hv hs h5
  go_enter Tryz.func36, Tryz.ntmps36
  go_wp2
  go_loopg [11] p.length (fun g i wr => ∃ j : Nat, j + g = p.length ∧ i = .int .i64 j ∧ w.heap.size < wr.heap.size ∧ ∃ m, Hid (WidM wr w.heap.size (6 * j) m) ∧ Hid (WidOf (atomsP (p.take j)) m) ∧ Hid (Below w.heap.size w wr))
  case atStart => exact ⟨0, by omega, rfl, by simp, _, HM0, WidOf.nil, HB0⟩
  case round =>
    clear HM0 HB0 hmm
    obtain ⟨j, hj, rfl, hwr, m, HM, HO, HBr⟩ := hrel
    obtain ⟨wo, hwo⟩ : ∃ wo, wo = wr := ⟨_, rfl⟩
    subst hwo
    by_cases hlt : j < p.length
    · obtain ⟨r, hr⟩ : ∃ x, p[j]? = some x := ⟨_, List.getElem?_eq_getElem hlt⟩
      have hrm : r ∈ p := List.mem_of_getElem? hr
      obtain ⟨b1, o1, _, rfl, hb1, ⟨tv, bv, rfl, htv, hbv⟩, hc⟩ := Kind.sl_at HV.out hr
      have d0 : wo.cell? ⟨b1, o1 + j * 4, none⟩ = some (.bool r.head.no) := by rw [HBr.out.cell (p := ⟨b1, o1 + j * 4, none⟩) hb1]; exact hc 0 _ rfl
      have d1 : wo.cell? ⟨b1, o1 + j * 4 + 1, none⟩ = some (.string (bs r.head.name)) := by rw [HBr.out.cell (p := ⟨b1, o1 + j * 4 + 1, none⟩) hb1]; exact hc 1 _ rfl
      have d2 : wo.cell? ⟨b1, o1 + j * 4 + 2, none⟩ = some tv := by rw [HBr.out.cell (p := ⟨b1, o1 + j * 4 + 2, none⟩) hb1]; exact hc 2 _ rfl
      have d3 : wo.cell? ⟨b1, o1 + j * 4 + 3, none⟩ = some bv := by rw [HBr.out.cell (p := ⟨b1, o1 + j * 4 + 3, none⟩) hb1]; exact hc 3 _ rfl
      obtain ⟨ta, tc, rfl⟩ := Kind.slice htv
      obtain ⟨ba, bc, rfl⟩ := Kind.slice hbv
      have hsz := HBr.out.size
      have htk : atomsP (p.take (j + 1)) = atomsP (p.take j) ++ (r.head :: r.body) := by
        rw [List.take_add_one, hr, atomsP_append]; simp [atomsP]
      have hram : ∀ a ∈ r.head :: r.body, a.name.length ≤ 12 := fun a ha => HS.out a (List.mem_flatMap.2 ⟨r, hrm, ha⟩)
      have hb5 := H5.out r hrm
      have hbox := RuleBox.made w.heap.size wo (.bool r.head.no) (.string (bs r.head.name)) (.slice ta r.head.terms.length tc) (.slice ba r.body.length bc)
      obtain ⟨wb, hwb⟩ : ∃ wb, wb = wo.alloc (.cells #[.bool r.head.no, .string (bs r.head.name), .slice ta r.head.terms.length tc, .slice ba r.body.length bc] 43) := ⟨_, rfl⟩
      rw [← hwb] at hbox
      have hLb : Later wo wb := by rw [hwb]; exact (Later.refl _).alloc _
      have hBb : Below w.heap.size w wb := below_trans HBr.out hLb.below hsz
      have HC := hide (widAddC w.heap.size (6 * j) m r.head (.slice ta r.head.terms.length tc) wb (HM.out.later hLb) (Kind.sl_below htv hBb) (by have := hram r.head (by simp); unfold maxLen; omega) (by unfold maxLen; omega))
      have HBx := hide hbox
      have HBb := hide hBb
      have HBV := hide hbv
      have HTK := hide htk
      have HRA := hide hram
      have HWb := hide hwb
      clear hc hr htv hbv htk hram hbox hLb hBb hwb hrm
      generalize bs r.head.name = nm at *
      generalize hno : r.head.no = no at *
      go_wp2_with fail
      rw [← HWb.out]
      refine HC.out.mono ?_
      rintro e w2 ⟨⟨u2, rfl⟩, hM2, hT2⟩
      have HX2 := hide (HBx.out.turned hT2 hwr)
      have HM2 := hide hM2
      have HO2 : Hid (WidOf (atomsP (p.take j) ++ (r.head :: r.body.take 0)) (widOne m r.head)) := by show WidOf _ _; have := HO.out.step r.head; simpa using this
      have HT2 : Hid (Tn w.heap.size wb w2) := hT2
      have x3 : w2.cell? ⟨wo.heap.size, 3, none⟩ = some (.slice ba r.body.length bc) := HX2.out.z3
      clear hM2 hT2 HC hno
      go_wp2
      go_loopg [22] r.body.length (fun g i wz => ∃ k : Nat, k + g = r.body.length ∧ i = .int .i64 k ∧ ∃ m', Hid (WidM wz w.heap.size (6 * j + 1 + k) m') ∧ Hid (WidOf (atomsP (p.take j) ++ (r.head :: r.body.take k)) m') ∧ Hid (Tn w.heap.size wb wz))
      case atStart => exact ⟨0, by omega, rfl, _, HM2, HO2, HT2⟩
      case round =>
        clear HM2 HO2 HT2 x3
        obtain ⟨k, hk, rfl, m', HM', HO', HT'⟩ := hrel
        have hbs : w.heap.size ≤ wb.heap.size := by have := HBb.out.size; omega
        have hBz : Below w.heap.size wb wr := HT'.out.below (Nat.le_refl _) hbs
        have hwz := HT'.out.size
        have hww : wo.heap.size < wb.heap.size := HBx.out.lt
        by_cases hltk : k < r.body.length
        · obtain ⟨t, ht⟩ : ∃ x, r.body[k]? = some x := ⟨_, List.getElem?_eq_getElem hltk⟩
          obtain ⟨b2, o2, _, rfl, hb2, ⟨sv, rfl, hsv⟩, hc⟩ := Kind.sl_at HBV.out ht
          have hBw : Below w.heap.size w wr := HBb.out.trans hBz
          have e0 : wr.cell? ⟨b2, o2 + k * 3, none⟩ = some (.bool t.no) := by rw [hBw.cell (p := ⟨b2, o2 + k * 3, none⟩) hb2]; exact hc 0 _ rfl
          have e1 : wr.cell? ⟨b2, o2 + k * 3 + 1, none⟩ = some (.string (bs t.name)) := by rw [hBw.cell (p := ⟨b2, o2 + k * 3 + 1, none⟩) hb2]; exact hc 1 _ rfl
          have e2 : wr.cell? ⟨b2, o2 + k * 3 + 2, none⟩ = some sv := by rw [hBw.cell (p := ⟨b2, o2 + k * 3 + 2, none⟩) hb2]; exact hc 2 _ rfl
          have hbr : b2 < wr.heap.size := by omega
          obtain ⟨sva, svc, rfl⟩ := Kind.slice hsv
          have hL5 : Later wr (wr.alloc (.cells #[.bool t.no, .string (bs t.name), .slice sva t.terms.length svc] 40)) := (Later.refl _).alloc _
          have htk : r.head :: r.body.take (k + 1) = (r.head :: r.body.take k) ++ [t] := by rw [List.take_add_one, ht]; rfl
          have HC5 := hide (widAddC w.heap.size (6 * j + 1 + k) m' t (.slice sva t.terms.length svc) (wr.alloc (.cells #[.bool t.no, .string (bs t.name), .slice sva t.terms.length svc] 40)) (HM'.out.later hL5) (Kind.sl_below hsv (below_trans hBw hL5.below hBw.size)) (by have := HRA.out t (List.mem_cons_of_mem _ (List.mem_of_getElem? ht)); unfold maxLen; omega) (by unfold maxLen; omega))
          have HO5 : Hid (WidOf (atomsP (p.take j) ++ (r.head :: r.body.take (k + 1))) (widOne m' t)) := by show WidOf _ _; rw [htk, ← List.append_assoc]; exact HO'.out.step t
          have HL5 := hide hL5
          clear hc ht hsv hBw hL5 htk hBz
          generalize bs t.name = nm5 at *
          generalize t.no = no5 at *
          go_wp2_with fail
          refine HC5.out.mono ?_
          rintro e w6 ⟨⟨u6, rfl⟩, hM6, hT6⟩
          have HM6 : Hid (WidM w6 w.heap.size (6 * j + 1 + (k + 1)) (widOne m' t)) := hM6
          have HT6 : Hid (Tn w.heap.size wb w6) := (HT'.out.trans (Tn.of_below HL5.out.below)).trans hT6
          clear hM6 hT6 HC5
          go_wp2
          go_roundg (r.body.length - (k + 1))
          case measure => omega
          case rel => exact ⟨k + 1, by omega, by go_num, _, HM6, HO5, HT6⟩
        · have hk' : r.body.take k = r.body := List.take_of_length_le (by omega)
          rw [hk', ← HTK.out] at HO'
          have HB4 : Hid (Below w.heap.size w wr) := HBb.out.trans hBz
          have HM4 : Hid (WidM wr w.heap.size (6 * (j + 1)) m') := HM'.out.mono (by omega)
          have hws : w.heap.size < wr.heap.size := by omega
          clear hk' hBz
          go_wp2
          go_roundg (p.length - (j + 1))
          case measure => omega
          case rel => exact ⟨j + 1, by omega, by go_num, hws, m', HM4, HO', HB4⟩
    · have hj' : p.take j = p := List.take_of_length_le (by omega)
      rw [hj'] at HO
      clear hj'
      go_wp2
      go_ret
      exact ⟨_, m, rfl, HM.out, HO.out, HBr.out⟩

/-- The first fact from k on that does not go with the program. -/
def fitFrom (p : List RuleD) (l : List FactB) : Nat → Nat → Int × Int
  | 0, _ => (0, 0)
  | n + 1, k => if fitF p (l.getD k noFact) = true then fitFrom p l n (k + 1) else (8, k)
def factsP (p : List RuleD) (l : List FactB) : Int × Int := if (setFault l).1 ≠ 0 then setFault l else fitFrom p l l.length 0

theorem fitFrom_zero {p : List RuleD} {l : List FactB} : ∀ (n k : Nat), (fitFrom p l n k).1 = 0 → ∀ i, k ≤ i → i < k + n → fitF p (l.getD i noFact) = true
  | 0, k, _, i, h1, h2 => by omega
  | n + 1, k, h, i, h1, h2 => by
    unfold fitFrom at h
    split at h
    · rename_i hf
      by_cases e : i = k
      · subst e; exact hf
      · exact fitFrom_zero n (k + 1) h i (by omega) (by omega)
    · simp at h
theorem fitFrom_all {p : List RuleD} {l : List FactB} (h : ∀ f ∈ l, fitF p f = true) : ∀ (n k : Nat), k + n = l.length → fitFrom p l n k = (0, 0)
  | 0, _, _ => rfl
  | n + 1, k, hk => by
    unfold fitFrom
    rw [if_pos (h _ (by rw [List.getD_eq_getElem?_getD, List.getElem?_eq_getElem (by omega)]; exact List.getElem_mem _))]
    exact fitFrom_all h n (k + 1) (by omega)
theorem facts_good {p : List RuleD} {l : List FactB} (h : (factsP p l).1 = 0) : GoodS p l := by
  unfold factsP at h
  split at h
  · rename_i h1; exact absurd h h1
  · rename_i h1
    refine good_of_fault (by simpa using h1) fun f hf => ?_
    obtain ⟨i, hi, rfl⟩ := List.getElem_of_mem hf
    have := fitFrom_zero l.length 0 h i (Nat.zero_le _) (by omega)
    rwa [List.getD_eq_getElem?_getD, List.getElem?_eq_getElem hi] at this
theorem good_facts {p : List RuleD} {l : List FactB} (h : GoodS p l) : factsP p l = (0, 0) := by
  unfold factsP
  rw [fault_right h.up h.right h.few, if_neg (by simp)]
  exact fitFrom_all h.fit _ 0 (by omega)

theorem fit_wid {p : List RuleD} {m : Wids} (h : WidOf (atomsP p) m) (f : FactB) : widFits m f = fitF p f := by
  unfold widFits
  obtain ⟨h1, h2⟩ := h (raw f.1)
  rw [Bool.eq_iff_iff, fitF_iff]
  cases e : m (raw f.1) with
  | none =>
    simp only [true_iff]
    intro a ha hb
    exact absurd (by rw [← hb, raw_bs]) (h1.1 e a ha)
  | some k =>
    simp only [decide_eq_true_eq]
    rw [h2 k e f.2.length]
    exact ⟨fun h a ha hb => h a ha (by rw [← hb, raw_bs]), fun h a ha hb => h a ha (by rw [hb, bs_raw])⟩

theorem right_names {p : List RuleD} (hp : RightP p) : (∀ r ∈ p, r.body.length ≤ 5) ∧ ∀ a ∈ atomsP p, a.name.length ≤ 12 := by
  have hn : ∀ a : AtomD, wrongAtom a = 0 → a.name.length ≤ 12 := fun a ha => by
    have h1 := (atom_zero ha).1
    unfold isNamed at h1
    simp only [Bool.and_eq_true, decide_eq_true_eq] at h1
    exact h1.1.1
  have hb : ∀ l : List AtomD, wrongAtoms l = 0 → ∀ a ∈ l, wrongAtom a = 0 := fun l => by
    induction l with
    | nil => intro _ a ha; cases ha
    | cons x l ih =>
      intro h a ha
      unfold wrongAtoms at h
      split at h
      · rename_i hx
        rcases List.mem_cons.1 ha with rfl | ha
        · exact hx
        · exact ih h a ha
      · rename_i hx; exact absurd h hx
  have key : ∀ r ∈ p, r.body.length ≤ 5 ∧ ∀ a ∈ r.body, wrongAtom a = 0 := fun r hr => by
    have := (hp.rules r hr).body
    unfold wrongBody at this
    split at this
    · cases this
    · rename_i h5
      split at this
      · rename_i h0; exact ⟨by omega, hb _ h0⟩
      · rename_i h0; exact absurd this h0
  refine ⟨fun r hr => (key r hr).1, fun a ha => ?_⟩
  obtain ⟨r, hr, ha⟩ := List.mem_flatMap.1 ha
  rcases List.mem_cons.1 ha with rfl | ha
  · exact hn _ (hp.rules r hr).head
  · exact hn _ ((key r hr).2 a ha)

end Go.Proofs.YtbohggoeebhdmaaGreatDoor

/- The walks of naive.Facts and naive.Count. -/
namespace Go.Proofs.YtbohggoeebhdmaaGreatDoor
open Go.RowKit Go.Sort Go.Maps

set_option maxRecDepth 100000 in
set_option maxHeartbeats 4000000 in
theorem naiveFactsC (p : List RuleD) (hp : RightP p) (pv fv : Value) (l : List FactB) (w : World) (hv : ruleK.sl Anyw w pv p) (hf : Facts w fv l) :
    Calls Tryz.prog 10 #[pv, fv] w fun e w' => e = .returned (.agg #[.int .i64 (factsP p l).1, .int .i64 (factsP p l).2]) ∧ Below w.heap.size w w' := by
  obtain ⟨pa, pc, rfl⟩ := Kind.slice hv
  obtain ⟨a, cap, rfl, hln, hz⟩ := hf.addr
  have hL0 : Later w (w.alloc (.cells #[.int .i64 0, .int .i64 0] 27)) := (Later.refl w).alloc _
  have hR0 : (w.alloc (.cells #[.int .i64 0, .int .i64 0] 27)).heap[w.heap.size]? = some (.cells #[.int .i64 0, .int .i64 0] 27 (0, 0)) := heap_alloc_new w _
  have HSet := hide (setC (.slice a l.length cap) l (w.alloc (.cells #[.int .i64 0, .int .i64 0] 27)) (hf.later hL0))
  have HL0 := hide hL0
  have HR0 := hide hR0
  have HV := hide hv
  have HF := hide hf
  have HRP := hide hp
  clear hv hf hp hL0 hR0
  obtain ⟨ex, ea, hse⟩ : ∃ ex ea, setFault l = (ex, ea) := ⟨_, _, rfl⟩
  rw [hse] at HSet
  have HSE := hide hse
  clear hse
  go_enter Tryz.func10, Tryz.ntmps10
  go_wp2_with fail
  refine HSet.out.mono ?_
  rintro e w1 ⟨rfl, hL1⟩
  dsimp only
  have hs1 : w.heap.size < w1.heap.size := by have := hL1.size; simp at this; omega
  have HR1 : Hid (w1.heap[w.heap.size]? = some (.cells #[.int .i64 0, .int .i64 0] 27 (0, 0))) := by show _ = _; rw [hL1.block (by simp)]; exact HR0.out
  have HL1 : Hid (Later w w1) := HL0.out.trans hL1
  clear hL1 HSet HL0 HR0
  by_cases h0 : ex = 0
  · subst h0
    have HX : Hid (factsP p l = fitFrom p l l.length 0) := by show _ = _; unfold factsP; rw [HSE.out, if_neg (by simp)]
    have hsr := set_right (l := l) (by rw [HSE.out])
    have HSR := hide hsr.2.2
    obtain ⟨hn5, hn12⟩ := right_names HRP.out
    obtain ⟨w2, hw2⟩ : ∃ w2, w2 = w1.alloc (.cells #[.int .i64 0, .int .i64 ea] 27) := ⟨_, rfl⟩
    have hL2 : Later w1 w2 := by rw [hw2]; exact (Later.refl _).alloc _
    have hB2 : Below w.heap.size w w2 := (HL1.out.trans hL2).below
    have HW := hide (widthsOfC p (.slice pa p.length pc) w2 (Kind.sl_below HV.out hB2) HRP.out.few hn5 hn12)
    have HB2 := hide hB2
    have HR2 : Hid (w2.heap[w.heap.size]? = some (.cells #[.int .i64 0, .int .i64 0] 27 (0, 0))) := by show _ = _; rw [hL2.block hs1]; exact HR1.out
    have hs2 : w.heap.size < w2.heap.size := by have := hL2.size; omega
    have HW2 := hide hw2
    clear hsr hn5 hn12 hL2 hB2 hw2 HSE HR1 HL1 HRP
    go_wp2_with fail
    rw [← HW2.out]
    refine HW.out.mono ?_
    rintro e w3 ⟨n, m, rfl, hM3, hO3, hB3⟩
    have HM3 := hide hM3
    have HFit : Hid (∀ f, widFits m f = fitF p f) := fun f => fit_wid hO3 f
    have HB3 : Hid (Below w.heap.size w w3) := below_trans HB2.out hB3 HB2.out.size
    have HR3 : Hid (w3.heap[w.heap.size]? = some (.cells #[.int .i64 0, .int .i64 0] 27 (0, 0))) := by show _ = _; rw [hB3.block _ hs2]; exact HR2.out
    have hs3 : w.heap.size < w3.heap.size := by have := hB3.size; omega
    generalize w2.heap.size = bm at *
    clear hM3 hO3 hB3 HB2 HR2 HW HW2 hs2 hs1
    go_wp2
    go_loopg [19] l.length (fun g i wr => ∃ j k : Nat, k = g ∧ j + k = l.length ∧ i = .int .i64 j ∧ Hid (Later w3 wr) ∧ Hid (factsP p l = fitFrom p l k j))
    case atStart => exact ⟨0, l.length, rfl, by omega, rfl, Later.refl _, HX⟩
    case round =>
      clear HX
      obtain ⟨j, k, hkg, hj, rfl, HL, HX⟩ := hrel
      have hRr : wr.heap[w.heap.size]? = some (.cells #[.int .i64 0, .int .i64 0] 27 (0, 0)) := by rw [HL.out.block hs3]; exact HR3.out
      have hsr : w.heap.size < wr.heap.size := by have := HL.out.size; omega
      by_cases hlt : j < l.length
      · rcases hz with rfl | ⟨b, off, rfl⟩
        · simp at hlt
        have hltz : (j : Int) < (l.length : Int) := by omega
        have hFr : Facts wr (.slice (some ⟨b, off, none⟩) l.length cap) l := HF.out.below (below_trans HB3.out HL.out.below HB3.out.size)
        obtain ⟨hb, ax, lx, cx, g1, g2, fx⟩ := hFr.at hlt
        have hfm : l.getD j noFact ∈ l := by rw [List.getD_eq_getElem?_getD, List.getElem?_eq_getElem hlt]; exact List.getElem_mem hlt
        have hfs := right_short (wrongF_right.1 (HSR.out _ hfm))
        obtain ⟨wb, hwb⟩ : ∃ wb, wb = wr.alloc (.cells #[.string (l.getD j noFact).1, .slice ax lx cx] 54) := ⟨_, rfl⟩
        have hLb : Later wr wb := by rw [hwb]; exact (Later.refl _).alloc _
        have HC := hide (widFitC bm n m (l.getD j noFact) (.agg #[.string (l.getD j noFact).1, .slice ax lx cx]) wb (HM3.out.later (HL.out.trans hLb)) (fx.later hLb) (by have := hfs.1; unfold maxLen; omega))
        rw [HFit.out] at HC
        obtain ⟨g, rfl⟩ : ∃ g, k = g + 1 := ⟨k - 1, by omega⟩
        have hX : factsP p l = if fitF p (l.getD j noFact) = true then fitFrom p l g (j + 1) else (8, j) := by
          rw [HX.out]; rfl
        have HLb : Hid (Later w3 wb) := HL.out.trans hLb
        have HRb : Hid (wb.heap[w.heap.size]? = some (.cells #[.int .i64 0, .int .i64 0] 27 (0, 0))) := by show _ = _; rw [hLb.block hsr]; exact hRr
        have hsb : w.heap.size < wb.heap.size := by have := hLb.size; omega
        have HWb := hide hwb
        generalize hff : fitF p (l.getD j noFact) = ft at *
        generalize (l.getD j noFact).1 = nk at *
        clear hff hFr fx hfm hfs hLb hwb hRr HX
        cases ft with
        | true =>
          have HX' : Hid (factsP p l = fitFrom p l g (j + 1)) := by show _ = _; rw [hX]; rfl
          clear hX
          go_wp2_with fail
          rw [← HWb.out]
          refine HC.out.mono ?_
          rintro e w5 ⟨rfl, hL5⟩
          have HL5 : Hid (Later w3 w5) := HLb.out.trans hL5
          clear hL5 HC
          go_wp2
          go_roundg g
          case measure => omega
          case rel => exact ⟨j + 1, g, rfl, by omega, by go_num, HL5, HX'⟩
        | false =>
          have HX' : Hid (factsP p l = (8, (j : Int))) := by show _ = _; rw [hX]; rfl
          clear hX
          go_wp2_with fail
          rw [← HWb.out]
          refine HC.out.mono ?_
          rintro e w5 ⟨rfl, hL5⟩
          have HL5 : Hid (Later w3 w5) := HLb.out.trans hL5
          have hR5 : w5.heap[w.heap.size]? = some (.cells #[.int .i64 0, .int .i64 0] 27 (0, 0)) := by rw [hL5.block hsb]; exact HRb.out
          have q0 : w5.cell? ⟨w.heap.size, 0, none⟩ = some (.int .i64 0) := by rw [cell_of_row _ _ _ _ _ _ hR5]; rfl
          have q1 : w5.cell? ⟨w.heap.size, 1, none⟩ = some (.int .i64 0) := by rw [cell_of_row _ _ _ _ _ _ hR5]; rfl
          have p0 : w5.frozen? ⟨w.heap.size, 0, none⟩ = false := frozen_rowC 0 hR5
          have p1 : w5.frozen? ⟨w.heap.size, 1, none⟩ = false := frozen_rowC 1 hR5
          have HR5 := hide hR5
          clear hL5 HC hR5
          go_wp2
          obtain ⟨r0, r1⟩ := fault_two HR5.out (.int .i64 8) (.int .i64 j)
          refine bodyPost_ret (v := .agg #[.int .i64 8, .int .i64 j]) (by simp [results, Tryz.results10, go_sem, r0, r1]) rfl ⟨by rw [HX'.out], ?_⟩
          exact ((below_trans HB3.out HL5.out.below HB3.out.size).setCell (Nat.le_refl _) _).setCell (Nat.le_refl _) _
      · have hk0 : k = 0 := by omega
        have HX' : Hid (factsP p l = (0, 0)) := by show _ = _; rw [HX.out, hk0]; rfl
        have q0 : wr.cell? ⟨w.heap.size, 0, none⟩ = some (.int .i64 0) := by rw [cell_of_row _ _ _ _ _ _ hRr]; rfl
        have q1 : wr.cell? ⟨w.heap.size, 1, none⟩ = some (.int .i64 0) := by rw [cell_of_row _ _ _ _ _ _ hRr]; rfl
        have p0 : wr.frozen? ⟨w.heap.size, 0, none⟩ = false := frozen_rowC 0 hRr
        have p1 : wr.frozen? ⟨w.heap.size, 1, none⟩ = false := frozen_rowC 1 hRr
        have HRr := hide hRr
        clear hRr HX
        go_wp2
        obtain ⟨r0, r1⟩ := fault_two HRr.out (.int .i64 0) (.int .i64 0)
        refine bodyPost_ret (v := .agg #[.int .i64 0, .int .i64 0]) (by simp [results, Tryz.results10, go_sem, r0, r1]) rfl ⟨by rw [HX'.out], ?_⟩
        exact ((below_trans HB3.out HL.out.below HB3.out.size).setCell (Nat.le_refl _) _).setCell (Nat.le_refl _) _
  · have HX : Hid (factsP p l = (ex, ea)) := by show _ = _; unfold factsP; rw [HSE.out, if_pos h0]
    have hq : (ex != 0) = true := by simpa using h0
    have hR2 := HR1.out
    have q0 : w1.cell? ⟨w.heap.size, 0, none⟩ = some (.int .i64 0) := by rw [cell_of_row _ _ _ _ _ _ hR2]; rfl
    have q1 : w1.cell? ⟨w.heap.size, 1, none⟩ = some (.int .i64 0) := by rw [cell_of_row _ _ _ _ _ _ hR2]; rfl
    have p0 : w1.frozen? ⟨w.heap.size, 0, none⟩ = false := frozen_rowC 0 hR2
    have p1 : w1.frozen? ⟨w.heap.size, 1, none⟩ = false := frozen_rowC 1 hR2
    clear hR2 HSE h0 HV HF
    go_wp2
    obtain ⟨r0, r1⟩ := fault_two HR1.out (.int .i64 ex) (.int .i64 ea)
    have hBX : Below w.heap.size w ((w1.setCell ⟨w.heap.size, 0, none⟩ (.int .i64 ex)).setCell ⟨w.heap.size, 1, none⟩ (.int .i64 ea)) := (HL1.out.below.setCell (Nat.le_refl _) _).setCell (Nat.le_refl _) _
    have hzX : w.heap.size < ((w1.setCell ⟨w.heap.size, 0, none⟩ (.int .i64 ex)).setCell ⟨w.heap.size, 1, none⟩ (.int .i64 ea)).heap.size := by rw [size_setCell, size_setCell]; exact hs1
    generalize (w1.setCell ⟨w.heap.size, 0, none⟩ (.int .i64 ex)).setCell ⟨w.heap.size, 1, none⟩ (.int .i64 ea) = wx at *
    have s0 : (wx.alloc (.cells #[.int .i64 ex, .int .i64 ea] 27)).cell? ⟨w.heap.size, 0, none⟩ = some (.int .i64 ex) := by rw [((Later.refl wx).alloc _).cell (p := ⟨w.heap.size, 0, none⟩) hzX]; exact r0
    have s1 : (wx.alloc (.cells #[.int .i64 ex, .int .i64 ea] 27)).cell? ⟨w.heap.size, 1, none⟩ = some (.int .i64 ea) := by rw [((Later.refl wx).alloc _).cell (p := ⟨w.heap.size, 1, none⟩) hzX]; exact r1
    refine bodyPost_ret (v := .agg #[.int .i64 ex, .int .i64 ea]) (by simp [results, Tryz.results10, go_sem, s0, s1]) rfl ⟨by rw [HX.out], ?_⟩
    exact hBX.alloc hBX.size _

theorem foldl_max (ss : List Nat) : ∀ s : Nat, (ss.map fun x : Nat => (x : Int)).foldl max (s : Int) + 1 = (max (s + 1) (countP ss) : Nat) := by
  induction ss with
  | nil => intro s; simp [countP]
  | cons t ss ih =>
    intro s
    rw [List.map_cons, List.foldl_cons, show (max (s : Int) (t : Int)) = ((max s t : Nat) : Int) by omega, ih]
    simp only [countP]; omega

theorem countP_le {c : Nat} : ∀ {ss : List Nat}, (∀ s ∈ ss, s < c) → countP ss ≤ c
  | [], _ => Nat.zero_le _
  | s :: ss, h => by
    have h1 := h s (by simp)
    have h2 := countP_le (ss := ss) fun t ht => h t (by simp [ht])
    simp only [countP]; omega

set_option maxHeartbeats 1000000 in
theorem countC (ss : List Nat) (v : Value) (w : World) (hv : intK.sl Anyw w v ss) (hs : ∀ s ∈ ss, s < 1000) :
    Calls Tryz.prog 16 #[v] w fun e w' => e = .returned (.int .i64 (countP ss : Nat)) ∧ Later w w' := by
  obtain ⟨a, cap, rfl⟩ := Kind.slice hv
  have hl := hv.1.1
  cases ss with
  | nil =>
    clear hv hs
    go_enter Tryz.func16, Tryz.ntmps16
    go_wp2
    go_ret
    exact ⟨rfl, Later.refl _⟩
  | cons s ss =>
    obtain ⟨b, off, _, rfl, hb, _, _⟩ := Kind.sl_at hv (i := 0) (x := s) rfl
    have hM := Tryz.slices_Max_int b off (s :: ss).length cap ((s :: ss).map fun x : Nat => (x : Int)) w (by simp) (by simp) (by omega) (fun j hj => by
      rw [List.length_map] at hj
      obtain ⟨x, hx⟩ : ∃ x, (s :: ss)[j]? = some x := ⟨_, List.getElem?_eq_getElem hj⟩
      obtain ⟨b1, o1, _, e1, _, rfl, hc⟩ := Kind.sl_at hv hx
      simp only [Option.some.injEq, Addr.mk.injEq, and_true] at e1
      obtain ⟨rfl, rfl⟩ := e1
      rw [List.getD_eq_getElem?_getD, List.getElem?_map, hx]
      simpa [intK] using hc 0 _ rfl)
    have e : Lib.maxOf (((s :: ss).map fun x : Nat => (x : Int)).take (s :: ss).length) + 1 = (countP (s :: ss) : Nat) := by
      rw [List.take_of_length_le (by simp)]
      unfold Lib.maxOf
      rw [List.map_cons, List.headD_cons, List.foldl_cons, show max (s : Int) (s : Int) = (s : Int) by omega, foldl_max]
      rfl
    have hcp : countP (s :: ss) ≤ 1000 := countP_le hs
    generalize Lib.maxOf (((s :: ss).map fun x : Nat => (x : Int)).take (s :: ss).length) = mx at *
    generalize countP (s :: ss) = cp at *
    have hmx : mx = (cp : Int) - 1 := by omega
    subst hmx
    have HM := hide hM
    have hne : ¬ ((((s :: ss).length : Nat) : Int) = 0) := by simp; omega
    clear hv hs hM e
    go_enter Tryz.func16, Tryz.ntmps16
    go_wp2_with fail
    refine HM.out.mono ?_
    rintro e w1 ⟨rfl, rfl⟩
    go_wp2
    go_ret
    refine ⟨?_, Later.refl _⟩
    congr 2

end Go.Proofs.YtbohggoeebhdmaaGreatDoor

/- The reference's Once and Count. -/
namespace Go.Proofs.YtbohggoeebhdmaaGreatDoor
open Go.RowKit Go.Sort Go.Maps

theorem right_atoms {p : List RuleD} (hp : RightP p) : ∀ r ∈ p, wrongBody r.body = 0 ∧ ∀ t ∈ r.head.terms, t.2.length ≤ maxLen := fun r hr =>
  ⟨(hp.rules r hr).body, fun t ht => by have := term_short ((atom_zero (hp.rules r hr).head).2.2 t ht); unfold maxLen; omega⟩

theorem good_fault {p : List RuleD} {L : List FactB} (h : GoodS p L) : (setFault L).1 = 0 := by rw [fault_right h.up h.right h.few]

theorem setF_both {a x r : List FactB} (h : SetOf r (setF a ++ x)) : r = setF (a ++ x) :=
  setF_of h.1 fun g => by rw [h.2.1, List.mem_append, List.mem_append, mem_setF]

set_option maxRecDepth 100000 in
set_option maxHeartbeats 1000000 in
theorem rOnce (p : List RuleD) (ss : List Nat) (n : Int) (fs : List FactB) (pv sv fv : Value) (w : World) (hp : ruleK.sl Anyw w pv p) (hss : intK.sl Anyw w sv ss) (hf : Facts w fv fs) (hR : RightP p) (hG : GoodS p fs) :
    Calls Tryz.prog 19 #[pv, sv, .int .i64 n, fv] w fun e w' => ∃ v' er, e = .returned (.tuple #[v', .int .i64 er]) ∧ OnceT w' v' er (onceP p ss n fs) ∧ Below w.heap.size w w' := by
  obtain ⟨pa, pc, rfl⟩ := Kind.slice hp
  obtain ⟨sa, sc, rfl⟩ := Kind.slice hss
  obtain ⟨fa, fc, rfl⟩ := sliceFacts hf
  have hsl := hss.1.1
  have h16 := hR.few
  have HP := hide hp
  have HSS := hide hss
  have HF := hide hf
  have HRt := hide (right_atoms hR)
  have hfew := hG.few
  have HFt := hide (good_fault hG)
  have HF0 : Hid (Facts w (.slice fa fs.length fc) (setF fs)) := by show Facts _ _ _; rw [setF_up_self hG.up]; exact hf
  have hs0 : (setF fs).length ≤ 200 := by rw [setF_up_self hG.up]; exact hfew
  clear hp hss hf hR hG
  go_enter Tryz.func19, Tryz.ntmps19
  go_wp2
  go_loopg [10, 18] p.length (fun g o i wr => ∃ j : Nat, j + g = p.length ∧ i = .int .i64 j ∧ ∃ acc, (setF acc).length ≤ 200 ∧ Hid (Facts wr o (setF acc)) ∧ Hid (Below w.heap.size w wr) ∧ Hid (onceP p ss n fs = onceGo n fs (p.drop j) (ss.drop j) acc))
  case atStart => exact ⟨0, by omega, rfl, fs, hs0, HF0, Below.refl _ _, (rfl : _ = _)⟩
  case round =>
    clear HF0 hs0
    obtain ⟨j, hj, rfl, acc, hac, HO, HBr, HE⟩ := hrel
    obtain ⟨oa, on, oc, hov⟩ : ∃ a n c, u10 = .slice a n c := by obtain ⟨a, c, e⟩ := sliceFacts HO.out; exact ⟨a, _, c, e⟩
    subst hov
    by_cases hlt : j < p.length
    · obtain ⟨r, hr⟩ : ∃ x, p[j]? = some x := ⟨_, List.getElem?_eq_getElem hlt⟩
      have hrm : r ∈ p := List.mem_of_getElem? hr
      obtain ⟨b1, o1, _, rfl, hb1, ⟨tv, bv, rfl, htv, hbv⟩, hc⟩ := Kind.sl_at HP.out hr
      have d0 : wr.cell? ⟨b1, o1 + j * 4, none⟩ = some (.bool r.head.no) := by rw [HBr.out.cell (p := ⟨b1, o1 + j * 4, none⟩) hb1]; exact hc 0 _ rfl
      have d1 : wr.cell? ⟨b1, o1 + j * 4 + 1, none⟩ = some (.string (bs r.head.name)) := by rw [HBr.out.cell (p := ⟨b1, o1 + j * 4 + 1, none⟩) hb1]; exact hc 1 _ rfl
      have d2 : wr.cell? ⟨b1, o1 + j * 4 + 2, none⟩ = some tv := by rw [HBr.out.cell (p := ⟨b1, o1 + j * 4 + 2, none⟩) hb1]; exact hc 2 _ rfl
      have d3 : wr.cell? ⟨b1, o1 + j * 4 + 3, none⟩ = some bv := by rw [HBr.out.cell (p := ⟨b1, o1 + j * 4 + 3, none⟩) hb1]; exact hc 3 _ rfl
      have hpd : p.drop j = r :: p.drop (j + 1) := by
        obtain ⟨h1, e1⟩ := List.getElem?_eq_some_iff.1 hr
        rw [List.drop_eq_getElem_cons h1, e1]
      obtain ⟨ta, tc, rfl⟩ := Kind.slice htv
      obtain ⟨ba, bc, rfl⟩ := Kind.slice hbv
      have hwr := HBr.out.size
      have hbr1 : b1 < wr.heap.size := by omega
      by_cases hsj : j < ss.length
      · obtain ⟨s, hs⟩ : ∃ x, ss[j]? = some x := ⟨_, List.getElem?_eq_getElem hsj⟩
        obtain ⟨b2, o2, _, rfl, hb2, rfl, hc2⟩ := Kind.sl_at HSS.out hs
        have e0 : wr.cell? ⟨b2, o2 + j, none⟩ = some (.int .i64 s) := by rw [HBr.out.cell (p := ⟨b2, o2 + j, none⟩) hb2]; simpa [intK] using hc2 0 _ rfl
        have hsd : ss.drop j = s :: ss.drop (j + 1) := by
          obtain ⟨h1, e1⟩ := List.getElem?_eq_some_iff.1 hs
          rw [List.drop_eq_getElem_cons h1, e1]
        have hstep : onceP p ss n fs = if (s : Int) = n then (match headsP r fs with
            | none => (4, [])
            | some x => if 200 < (setF (acc ++ x)).length then (5, []) else onceGo n fs (p.drop (j + 1)) (ss.drop (j + 1)) (acc ++ x)) else onceGo n fs (p.drop (j + 1)) (ss.drop (j + 1)) acc := by
          rw [HE.out, hpd, hsd]; rfl
        have hsji : (j : Int) < (ss.length : Int) := by omega
        have hb2r : b2 < wr.heap.size := by omega
        by_cases hsn : (s : Int) = n
        · rw [if_pos hsn] at hstep
          obtain ⟨wb, hwb⟩ : ∃ wb, wb = wr.alloc (.cells #[.bool r.head.no, .string (bs r.head.name), .slice ta r.head.terms.length tc, .slice ba r.body.length bc] 43) := ⟨_, rfl⟩
          have hLb : Later wr wb := by rw [hwb]; exact (Later.refl _).alloc _
          have hBb : Below w.heap.size w wb := below_trans HBr.out hLb.below hwr
          have HH := hide (rHeads r (.slice ta r.head.terms.length tc) (.slice ba r.body.length bc) (.slice fa fs.length fc) fs wb (Kind.sl_below htv hBb) (Kind.sl_below hbv hBb) (HF.out.below hBb) (HRt.out r hrm).1 HFt.out (HRt.out r hrm).2)
          have HOb := hide (HO.out.later hLb)
          have HBb := hide hBb
          have HWb := hide hwb
          clear hc hc2 hr hs htv hbv hpd hsd HE hLb hBb hwb hrm HO
          have hneq : ((s : Int) != n) = false := by simp [hsn]
          generalize bs r.head.name = nm at *
          generalize hno : r.head.no = no at *
          clear hno
          subst hsn
          go_wp2_with fail
          rw [← HWb.out]
          refine HH.out.mono ?_
          rintro e w3 ⟨v3, er, rfl, hT3, hB3⟩
          have HB3 : Hid (Below w.heap.size w w3) := below_trans HBb.out hB3 HBb.out.size
          have HO3 := hide (HOb.out.below hB3)
          clear hB3 HH HWb HOb HBb
          cases hh : headsP r fs with
          | none =>
            rw [hh] at hT3 hstep
            obtain ⟨rfl, rfl⟩ := hT3
            have HT : Hid (∀ w', OnceT w' (.slice none 0 0) 4 (onceP p ss s fs)) := fun w' => by rw [hstep]; exact ⟨rfl, fun _ => rfl, fun h => by simp at h⟩
            clear hstep hh
            go_wp2
            exact bodyPost_ret (v := .tuple #[.slice none 0 0, .int .i64 4]) (by simp [results, Tryz.results19, go_sem]) rfl ⟨_, 4, rfl, HT.out _, HB3.out⟩
          | some x =>
            rw [hh] at hT3 hstep
            obtain ⟨rfl, hF3⟩ := hT3
            have hxl : x.length ≤ 20000 := by
              unfold headsP at hh
              cases hR : allB (fun _ => fs) r.body with
              | none => rw [hR] at hh; cases hh
              | some R =>
                rw [hR] at hh
                cases hh
                exact Nat.le_trans (setF_len _) (Nat.le_trans (List.length_filterMap_le _ _) (allB_small hR))
            have HBo := hide (rBoth (.slice oa on oc) v3 (setF acc) x w3 HO3.out hF3 (by omega) (by omega))
            obtain ⟨xa, xn, xc, rfl⟩ : ∃ a n c, v3 = .slice a n c := by obtain ⟨a, c, e⟩ := sliceFacts hF3; exact ⟨a, _, c, e⟩
            dsimp only at hstep
            have HST := hide hstep
            clear hF3 hh hstep HO3
            go_wp2_with fail
            refine HBo.out.mono ?_
            rintro e w4 ⟨v4, q4, rfl, hF4, hS4, hL4⟩
            have e4 := setF_both hS4
            subst e4
            have HF4 := hide hF4.1
            have HB4 : Hid (Below w.heap.size w w4) := below_trans HB3.out hL4.below HB3.out.size
            obtain ⟨a4, n4, c4, hv4, hn4⟩ : ∃ a n c, v4 = .slice a n c ∧ n = (setF (acc ++ x)).length := by obtain ⟨a, c, e⟩ := sliceFacts hF4.1; exact ⟨a, _, c, e, rfl⟩
            subst hv4
            clear hF4 hS4 hL4 HBo
            by_cases hbig : 200 < (setF (acc ++ x)).length
            · have HT : Hid (∀ w', OnceT w' (.slice none 0 0) 5 (onceP p ss s fs)) := fun w' => by rw [HST.out, if_pos hbig]; exact ⟨rfl, fun _ => rfl, fun h => by simp at h⟩
              have hbi : (200 : Int) < (n4 : Int) := by omega
              clear HST hbig hn4
              go_wp2
              exact bodyPost_ret (v := .tuple #[.slice none 0 0, .int .i64 5]) (by simp [results, Tryz.results19, go_sem]) rfl ⟨_, 5, rfl, HT.out _, HB4.out⟩
            · have HE4 : Hid (onceP p ss s fs = onceGo s fs (p.drop (j + 1)) (ss.drop (j + 1)) (acc ++ x)) := by show _ = _; rw [HST.out, if_neg hbig]
              have hbi : ¬ (200 : Int) < (n4 : Int) := by omega
              have hb4 : (setF (acc ++ x)).length ≤ 200 := by omega
              clear HST hbig hn4
              go_wp2
              go_roundg (p.length - (j + 1))
              case measure => omega
              case rel => exact ⟨j + 1, by omega, by go_num, acc ++ x, hb4, HF4, HB4, HE4⟩
        · rw [if_neg hsn] at hstep
          have HE4 : Hid (onceP p ss n fs = onceGo n fs (p.drop (j + 1)) (ss.drop (j + 1)) acc) := hstep
          have HB4 : Hid (Below w.heap.size w (wr.alloc (.cells #[.bool r.head.no, .string (bs r.head.name), .slice ta r.head.terms.length tc, .slice ba r.body.length bc] 43))) := below_trans HBr.out ((Later.refl _).alloc _).below hwr
          have HK4 : Hid (Facts (wr.alloc (.cells #[.bool r.head.no, .string (bs r.head.name), .slice ta r.head.terms.length tc, .slice ba r.body.length bc] 43)) (.slice oa on oc) (setF acc)) := HO.out.later ((Later.refl _).alloc _)
          have hneq : ((s : Int) != n) = true := by simpa using hsn
          clear hstep hc hc2 hr hs htv hbv hpd hsd HE hsn hrm HO
          generalize bs r.head.name = nm at *
          generalize r.head.no = no at *
          go_wp2
          go_roundg (p.length - (j + 1))
          case measure => omega
          case rel => exact ⟨j + 1, by omega, by go_num, acc, hac, HK4, HB4, HE4⟩
      · have hsd : ss.drop j = [] := List.drop_eq_nil_of_le (by omega)
        have hsd2 : ss.drop (j + 1) = [] := List.drop_eq_nil_of_le (by omega)
        have HE4 : Hid (onceP p ss n fs = onceGo n fs (p.drop (j + 1)) (ss.drop (j + 1)) acc) := by show _ = _; rw [HE.out, hsd, hsd2, onceGo_none, onceGo_none]
        have HB4 : Hid (Below w.heap.size w (wr.alloc (.cells #[.bool r.head.no, .string (bs r.head.name), .slice ta r.head.terms.length tc, .slice ba r.body.length bc] 43))) := below_trans HBr.out ((Later.refl _).alloc _).below hwr
        have HK4 : Hid (Facts (wr.alloc (.cells #[.bool r.head.no, .string (bs r.head.name), .slice ta r.head.terms.length tc, .slice ba r.body.length bc] 43)) (.slice oa on oc) (setF acc)) := HO.out.later ((Later.refl _).alloc _)
        have hsji : (ss.length : Int) ≤ (j : Int) := by omega
        clear hc hr htv hbv hpd hsd hsd2 HE hrm hsj HO
        generalize bs r.head.name = nm at *
        generalize r.head.no = no at *
        go_wp2
        go_roundg (p.length - (j + 1))
        case measure => omega
        case rel => exact ⟨j + 1, by omega, by go_num, acc, hac, HK4, HB4, HE4⟩
    · have hd : p.drop j = [] := List.drop_eq_nil_of_le (by omega)
      have HX : Hid (onceP p ss n fs = (0, setF acc)) := by show _ = _; rw [HE.out, hd]; rfl
      clear hd HE
      go_wp2
      exact bodyPost_ret (v := .tuple #[.slice oa on oc, .int .i64 0]) (by simp [results, Tryz.results19, go_sem]) rfl ⟨_, 0, rfl, by rw [HX.out]; exact ⟨rfl, fun h => absurd rfl h, fun _ => HO.out⟩, HBr.out⟩

theorem countP_snoc (ss : List Nat) (s : Nat) : countP (ss ++ [s]) = max (countP ss) (s + 1) := by
  induction ss with
  | nil => simp [countP]
  | cons t ss ih => simp only [List.cons_append, countP, ih]; omega

set_option maxRecDepth 100000 in
set_option maxHeartbeats 1000000 in
theorem rCount (ss : List Nat) (v : Value) (w : World) (hv : intK.sl Anyw w v ss) (hs : ∀ s ∈ ss, s < 1000) :
    Calls Tryz.prog 17 #[v] w fun e w' => e = .returned (.int .i64 (countP ss : Nat)) ∧ w' = w := by
  obtain ⟨a, cap, rfl⟩ := Kind.slice hv
  have hl := hv.1.1
  have HV := hide hv
  have HS := hide hs
  clear hv hs
  go_enter Tryz.func17, Tryz.ntmps17
  go_wp2
  go_loopg [3, 8] ss.length (fun g n i wr => ∃ j : Nat, j + g = ss.length ∧ i = .int .i64 j ∧ n = .int .i64 (countP (ss.take j) : Nat) ∧ wr = w)
  case atStart => exact ⟨0, by omega, rfl, rfl, rfl⟩
  case round =>
    obtain ⟨j, hj, rfl, rfl, rfl⟩ := hrel
    by_cases hlt : j < ss.length
    · obtain ⟨s, hsj⟩ : ∃ x, ss[j]? = some x := ⟨_, List.getElem?_eq_getElem hlt⟩
      obtain ⟨b2, o2, _, rfl, hb2, rfl, hc2⟩ := Kind.sl_at HV.out hsj
      have e0 : wr.cell? ⟨b2, o2 + j, none⟩ = some (.int .i64 s) := by simpa [intK] using hc2 0 _ rfl
      have hs1 := HS.out s (List.mem_of_getElem? hsj)
      have hcl : countP (ss.take j) ≤ 1000 := countP_le fun t ht => HS.out t (List.mem_of_mem_take ht)
      have hck : countP (ss.take (j + 1)) = max (countP (ss.take j)) (s + 1) := by rw [List.take_add_one, hsj]; exact countP_snoc _ _
      have HCk := hide hck
      generalize countP (ss.take j) = cj at *
      have hmax : max (cj : Int) ((s : Int) + 1) = ((max cj (s + 1) : Nat) : Int) := by omega
      clear hc2 hsj hck
      go_wp2
      go_roundg (ss.length - (j + 1))
      case measure => omega
      case rel => exact ⟨j + 1, by omega, by go_num, by rw [HCk.out], rfl⟩
    · have e : ss.take j = ss := List.take_of_length_le (by omega)
      rw [e]
      go_wp2
      go_ret
      exact ⟨rfl, rfl⟩

end Go.Proofs.YtbohggoeebhdmaaGreatDoor
