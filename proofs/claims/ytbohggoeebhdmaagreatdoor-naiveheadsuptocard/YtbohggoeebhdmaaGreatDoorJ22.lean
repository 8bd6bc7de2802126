import Derived.Test.YtbohggoeebhdmaaGreatDoorJ21
import Derived.Test.YtbohggoeebhdmaaGreatDoorShpLay
import Derived.Test.YtbohggoeebhdmaaGreatDoorRows
import Derived.HandedShaped
import Derived.LaidHandle
import Derived.LaidLaws
import Derived.LaidMore
import Derived.Test.YtbohggoeebhdmaaGreatDoorJ13
import Derived.Test.YtbohggoeebhdmaaGreatDoorJ14
import Derived.ProofKit
import Derived.SliceStrings
import Derived.Deep.Slices
import Derived.Lib.SmallJoins
import Derived.SizedLaws
/- The wrap of a row that lists variables, the start's shape kept; and the variables that the rows of chapter 5 list. -/
namespace Go.Proofs.YtbohggoeebhdmaaGreatDoor
open Go.ChangeShapes Go.WideShapes Go.ChangeAt Go.RowKit

theorem handed_laid {H : Type} {enc : TypeId × Value → H} {a : Assume} {C : Checked} {os : Os} {f : FuncId} {fn : Func} {s : ChangeSpec} {conds : List PathCond} {apart fresh handsOn again : Bool} {X : World → Array Value → Prop}
    (own : ownKnob C.prog.godebug = none) (started : os.Started) (noInit : C.prog.inits.idxOf? f = none) (hfn : C.prog.funcs[f]? = some fn)
    (witness : ∃ (w : World) (tape : Tape) (i : Input), w.os = os ∧ (w.forCall tape i).Shaped C.prog ∧ i.vars = [] ∧ Input.okWide C.prog (w.forCall tape i) .any w.heap.size f i ∧
      ((s.pre enc C.prog fn conds apart (w.forCall tape i).memory i.args ∧ X (w.forCall tape i).memory i.args) ∧ sizedMet enc C.prog fn (OpenSpec.ofChange s) apart (w.forCall tape i).memory i.args) ∧ a.holds C.prog (lone (Frame.enter C.prog f i.args .normal) [] (w.forCall tape i)))
    (contract : ∀ (W : World) (base : Nat) (args : Array Value) (ds gs : List (DataW H)) (before : List MemPlace),
      (∀ (j : Nat) t v, fn.params[j]? = some t → args[j]? = some v → Value.okWide C.prog W .any base t v) →
      DataW.Whole enc C.prog fn.params.toList s.vars apart W args.toList ds gs before →
      (DataW.weightsEach C.prog (fn.params.toList ++ s.plain.varTypes C.prog) (ds ++ gs)).all (· ≤ reachBytes) = true →
      W.ShapedOpen C.prog →
      Calls C.prog f args W fun e W' => ∃ v, e = .returned v ∧ s.post enc C.prog fn apart fresh handsOn again W args v W') :
    ReturnsInHanded a C os f .any (fun w args => (s.pre enc C.prog fn conds apart w args ∧ X w args) ∧ sizedMet enc C.prog fn (OpenSpec.ofChange s) apart w args) (s.post enc C.prog fn apart fresh handsOn again) := by
  refine returnsInHanded_of_calls own started noInit witness ?_
  intro w tape i _ hsh _ hok hpre hholds
  obtain ⟨_, _, _, fn', hfn', _, _, _, _, hval⟩ := hok
  have e : fn' = fn := Option.some.inj (hfn'.symm.trans hfn)
  subst e
  obtain ⟨⟨⟨ds, gs, before, hw, hc⟩, hx⟩, hz⟩ := hpre
  have hw' := DataW.Whole.of_heap (w' := w.forCall tape i) (by rfl) hw
  refine (contract (w.forCall tape i) w.heap.size i.args ds gs before hval hw' (hz.weights hw) hsh).mono fun e W' ⟨v, he, hp⟩ => ?_
  subst he
  exact ChangeSpec.post_blind hp

/-- The start's shape makes MaxLen an int. -/
theorem maxLenN (w : World) (h : w.ShapedOpen Tryz.prog) : ∃ m, w.cell? ⟨3, 0, none⟩ = some (.int .i64 m) := Tryz.laysM145.s1_3 w h

def laid5 : List (String × DataW Unit) := [("math/bits.deBruijn32tab", Rows.laid_math_bits_deBruijn32tab), ("math/bits.deBruijn64tab", Rows.laid_math_bits_deBruijn64tab), ("internal/strconv.uint64pow10", Rows.laid_internal_strconv_uint64pow10)]

set_option maxRecDepth 100000 in
theorem door5_met (os : Os) (args : Array Value) : laidMetH Tryz.prog laid5 ((World.doorLaid Tryz.prog 1000 os).forCall (fun _ _ => 0) ⟨#[], args, []⟩).memory :=
  laidMetH_of_parts3 (fuel := 8) (laidMet_of_run' 8 (by kernel_rfl) (by kernel_rfl)) (by kernel_rfl) (by kernel_rfl)

end Go.Proofs.YtbohggoeebhdmaaGreatDoor

/- The document's answer: the walk of ref.Same, where the two lists hold the same. -/
namespace Go.Proofs.YtbohggoeebhdmaaGreatDoor
open Go.RowKit Go.Sort

set_option maxHeartbeats 1000000 in
theorem rSame (v1 v2 : Value) (l : List FactD) (w : World) (h1 : Facts w v1 l) (h2 : Facts w v2 l) :
    Calls Tryz.prog 14 #[v1, v2] w fun e w' => e = .returned (.bool true) ∧ Later w w' := by
  have mx := mixed
  have H1 := hide h1
  have H2 := hide h2
  obtain ⟨a, cap, rfl, hn, hz⟩ := h1.addr
  obtain ⟨a2, cap2, rfl, _, hz2⟩ := h2.addr
  clear h1 h2
  go_enter Tryz.func14, Tryz.ntmps14
  go_wp2
  go_loopw [13] (fun i wr => ∃ k : Nat, k ≤ l.length ∧ i = .int .i64 k ∧ Later w wr) (fun i _ => l.length - (intOf i).toNat)
  case atStart => exact ⟨0, by omega, rfl, Later.refl _⟩
  case round =>
    obtain ⟨k, hk, rfl, hL⟩ := hrel
    by_cases hlt : k < l.length
    · rcases hz with rfl | ⟨b, off, rfl⟩
      · simp at hlt
      rcases hz2 with rfl | ⟨b2, off2, rfl⟩
      · simp at hlt
      have hltz : (k : Int) < (l.length : Int) := by omega
      obtain ⟨ax, lx, cx, g1, g2, fx⟩ := (H1.out.later hL).grown hlt
      obtain ⟨ay, ly, cy, g3, g4, fy⟩ := (H2.out.later hL).grown hlt
      have hE : ∀ q os, Calls Tryz.prog 43 #[.agg #[.string (l.getD k noFact).1, .slice ax lx cx], .agg #[.string (l.getD k noFact).1, .slice ay ly cy]] (grow (wr.drewN q) os) fun e w'' => e = .returned (.bool true) ∧ Later (grow (wr.drewN q) os) w'' :=
        fun q os => (rEqual _ _ _ _ _ (fx.later ⟨q, os, rfl⟩) (fy.later ⟨q, os, rfl⟩)).mono fun e w' ⟨he, hw⟩ => ⟨by rw [he, sameF_iff.2 rfl], hw⟩
      have HE := hide hE
      clear hE fx fy
      generalize (l.getD k noFact).1 = nk at *
      go_wp2
      go_quiet_grown ((go_at_call 43; exact Calls.grown_of (HE.out _ _)))
      go_wp2
      go_roundw
      case rel => exact ⟨k + 1, by omega, by go_num, hL.trans ⟨_, _, rfl⟩⟩
      case measure => simp [intOf]; omega
    · go_wp2
      go_ret
      exact ⟨rfl, hL⟩

end Go.Proofs.YtbohggoeebhdmaaGreatDoor

/- The document's answer: the walks of ref.Small, Sign, Word, Named, Wrong. -/
namespace Go.Proofs.YtbohggoeebhdmaaGreatDoor
open Go.RowKit Go.Sort

set_option maxHeartbeats 400000 in
theorem rSmall (x : Int) (w : World) : Calls Tryz.prog 114 #[.int .u8 x] w fun e w' => e = .returned (.bool (smallB x)) ∧ w' = w := by
  go_enter Tryz.func114, Tryz.ntmps114
  go_wp2
  all_goals
    go_ret
    refine ⟨ret_bool ?_, rfl⟩
    rw [Bool.eq_iff_iff]
    simp [smallB]
    omega

set_option maxHeartbeats 400000 in
theorem rSign (x : Int) (w : World) : Calls Tryz.prog 145 #[.int .u8 x] w fun e w' => e = .returned (.bool (signB x)) ∧ w' = w := by
  cases hs : smallB x
  · go_enter Tryz.func145, Tryz.ntmps145
    go_wp2_with (go_at_call 114; refine (rSmall _ _).mono ?_; rintro e w' ⟨rfl, rfl⟩; rw [hs])
    all_goals
      go_ret
      refine ⟨ret_bool ?_, rfl⟩
      rw [Bool.eq_iff_iff]
      simp [signB, hs]
      omega
  · go_enter Tryz.func145, Tryz.ntmps145
    go_wp2_with (go_at_call 114; refine (rSmall _ _).mono ?_; rintro e w' ⟨rfl, rfl⟩; rw [hs])
    go_ret
    exact ⟨ret_bool (by simp [signB, hs]), rfl⟩

theorem bytesOf (s : ByteArray) (w : World) : ∃ cp arr fr, (convert 9 154 (.string s)).run Tryz.prog w = .ok (.slice (some ⟨w.heap.size, 0, none⟩) s.size cp) (w.drew.alloc (.cells arr 5 fr)) ∧
    ∀ (j : Nat) (h : j < s.size), (w.drew.alloc (.cells arr 5 fr)).cell? ⟨w.heap.size, j, none⟩ = some (.int .u8 (s[j].toNat : Int)) := by
  refine ⟨_, _, _, run_bytes_of_string (P := Tryz.prog) w 9 154 5 s Tryz.underlying9 Tryz.underlying154 Tryz.underlying5, fun j h => ?_⟩
  rw [show w.heap.size = w.drew.heap.size from rfl, World.cell?_alloc_mark]
  rw [bytesRow_at s _ j h]
  rfl

/-- Signs alone, not too many. -/
def wordB (s : ByteArray) : Bool := restB s 0 && decide (0 < s.size ∧ s.size ≤ 12)

set_option maxHeartbeats 1000000 in
theorem rWord (s : ByteArray) (w : World) (hs : s.size ≤ 9223372036854775807) : Calls Tryz.prog 113 #[.string s] w fun e w' => e = .returned (.bool (wordB s)) ∧ Later w w' := by
  obtain ⟨cp, arr, fr, hcv, hcell⟩ := bytesOf s w
  have HC := hide hcell
  clear hcell
  unfold wordB
  go_enter Tryz.func113, Tryz.ntmps113
  go_wp2
  go_loop [8] (fun i => ∃ k : Nat, k ≤ s.size ∧ i = .int .i64 k ∧ Hid (restB s 0 = restB s k)) (fun i => s.size - (intOf i).toNat)
  case atStart => exact ⟨0, by omega, rfl, (rfl : _ = _)⟩
  case round =>
    obtain ⟨k, hk, rfl, HE⟩ := hrel
    by_cases hlt : k < s.size
    · have hcl : (w.alloc (.cells arr 5 fr)).cell? ⟨w.heap.size, k, none⟩ = some (.int .u8 (s[k].toNat : Int)) := HC.out k hlt
      have hltz : (k : Int) < (s.size : Int) := by omega
      have ha := restB_step hlt
      generalize (s[k].toNat : Int) = ch at *
      cases hc : signB ch
      · have F : Hid (restB s 0 = false) := by show _ = _; rw [HE.out, ha, hc]; rfl
        clear ha
        go_wp2_with (go_at_call 145; refine (rSign _ _).mono ?_; rintro e w' ⟨rfl, rfl⟩; rw [hc])
        go_ret
        exact ⟨ret_bool (by rw [F.out]; rfl), (by repeat (first | exact Later.refl _ | assumption | refine Later.drewN ?_ _ | refine Later.drew ?_ | refine Later.alloc ?_ _ | refine Later.grow ?_ _))⟩
      · have F : Hid (restB s 0 = restB s (k + 1)) := by show _ = _; rw [HE.out, ha, hc]; rfl
        clear ha
        go_wp2_with (go_at_call 145; refine (rSign _ _).mono ?_; rintro e w' ⟨rfl, rfl⟩; rw [hc])
        go_round
        case rel => exact ⟨k + 1, by omega, by go_num, F⟩
        case measure => simp [intOf]; omega
    · have F : Hid (restB s 0 = true) := by show _ = _; rw [HE.out, restB_end (by omega)]
      by_cases h0 : 0 < s.size
      · have h0z : (0 : Int) < (s.size : Int) := by omega
        go_wp2
        all_goals
          go_ret
          exact ⟨ret_bool (by rw [F.out, Bool.eq_iff_iff]; simp; omega), (by repeat (first | exact Later.refl _ | assumption | refine Later.drewN ?_ _ | refine Later.drew ?_ | refine Later.alloc ?_ _ | refine Later.grow ?_ _))⟩
      · have h0z : ¬ (0 : Int) < (s.size : Int) := by omega
        go_wp2
        go_ret
        exact ⟨ret_bool rfl, (by repeat (first | exact Later.refl _ | assumption | refine Later.drewN ?_ _ | refine Later.drew ?_ | refine Later.alloc ?_ _ | refine Later.grow ?_ _))⟩

theorem small_sign {x : Int} (h : smallB x = true) : signB x = true := by simp [signB, h]

theorem wordB_no {s : ByteArray} (h : wordB s = false) : namedB s = false := by
  unfold wordB at h
  by_cases hr : 0 < s.size ∧ s.size ≤ 12
  · rw [decide_eq_true hr, Bool.and_true, restB_step hr.1] at h
    rw [namedB_in hr.1 hr.2]
    cases hb : smallB s[0].toNat
    · rfl
    · rw [small_sign hb, Bool.true_and] at h
      rw [h]; rfl
  · unfold namedB; rw [decide_eq_false hr]; rfl

theorem wordB_yes {s : ByteArray} (h : wordB s = true) : ∃ h0 : 0 < s.size, namedB s = smallB s[0].toNat := by
  unfold wordB at h
  rw [Bool.and_eq_true, decide_eq_true_eq] at h
  refine ⟨h.2.1, ?_⟩
  rw [namedB_in h.2.1 h.2.2]
  have h1 := h.1
  rw [restB_step h.2.1, Bool.and_eq_true] at h1
  rw [h1.2, Bool.and_true]

set_option maxHeartbeats 400000 in
theorem rNamed (s : ByteArray) (w : World) (hs : s.size ≤ 9223372036854775807) : Calls Tryz.prog 67 #[.string s] w fun e w' => e = .returned (.bool (namedB s)) ∧ Later w w' := by
  cases hw : wordB s
  · have hn := wordB_no hw
    rw [hn]
    go_enter Tryz.func67, Tryz.ntmps67
    go_wp2_with (go_at_call 113; refine (rWord _ _ hs).mono ?_; rintro e w1 ⟨rfl, hL⟩; rw [hw])
    go_ret
    exact ⟨rfl, hL⟩
  · obtain ⟨h0, hn⟩ := wordB_yes hw
    rw [hn]
    have h0z : (0 : Int) < (s.size : Int) := by omega
    go_enter Tryz.func67, Tryz.ntmps67
    go_wp2_with (first
      | (go_at_call 113; refine (rWord _ _ hs).mono ?_; rintro e w1 ⟨rfl, hL⟩; rw [hw])
      | (go_at_call 114; refine (rSmall _ _).mono ?_; rintro e w2 ⟨rfl, rfl⟩))
    go_ret
    exact ⟨rfl, by assumption⟩

/-- Texts as long as Go's may be. -/
def okF (f : FactD) : Prop := f.1.size ≤ 9223372036854775807 ∧ ∀ s ∈ f.2, s.size ≤ 9223372036854775807

theorem okF_getD {f : FactD} (h : okF f) (k : Nat) : (f.2.getD k ByteArray.empty).size ≤ 9223372036854775807 := by
  rw [List.getD_eq_getElem?_getD]
  cases e : f.2[k]? with
  | none => simp
  | some s => exact h.2 s (List.mem_of_getElem? e)

set_option maxHeartbeats 1000000 in
theorem rWrong (v : Value) (f : FactD) (w : World) (h : FactV w v f) (hok : okF f) :
    Calls Tryz.prog 71 #[v] w fun e w' => e = .returned (.int .i64 (wrongF f)) ∧ Later w w' := by
  obtain ⟨s, rfl, l0, a, c, rfl, hc⟩ := h
  have HC := hide hc
  have HOK := hide hok
  have hn0 := hok.1
  clear hc hok
  obtain ⟨n, x⟩ := f
  unfold wrongF
  dsimp only at *
  cases hn : namedB n
  · go_enter Tryz.func71, Tryz.ntmps71
    go_wp2_with (go_at_call 67; refine (rNamed _ _ hn0).mono ?_; rintro e w1 ⟨rfl, hL⟩; rw [hn])
    go_ret
    exact ⟨rfl, ((Later.refl _).alloc _).trans hL⟩
  · by_cases h4 : 4 < x.length
    · rw [if_pos h4]
      go_enter Tryz.func71, Tryz.ntmps71
      go_wp2_with fail
      refine (rNamed _ _ hn0).mono ?_
      rintro e w1 ⟨rfl, hL⟩
      rw [hn]
      have z1 : w1.cell? ⟨w.heap.size, 1, none⟩ = some (.slice a x.length c) := by rw [hL.cell (by simp)]; simp
      go_wp2
      go_ret
      exact ⟨rfl, ((Later.refl _).alloc _).trans hL⟩
    · rw [if_neg h4]
      simp only [Bool.not_true, Bool.false_eq_true, if_false]
      generalize hres : (if noName x 0 = true then (7 : Int) else 0) = r
      have HRES := hide hres
      clear hres
      go_enter Tryz.func71, Tryz.ntmps71
      go_wp2_with fail
      refine (rNamed _ _ hn0).mono ?_
      rintro e w1 ⟨rfl, hL⟩
      rw [hn]
      have hL0 : Later w w1 := ((Later.refl _).alloc _).trans hL
      have z1 : w1.cell? ⟨w.heap.size, 1, none⟩ = some (.slice a x.length c) := by rw [hL.cell (by simp)]; simp
      go_wp2
      go_loopw [16] (fun i wr => ∃ k : Nat, k ≤ x.length ∧ i = .int .i64 k ∧ Later w1 wr ∧ Hid (noName x 0 = noName x k)) (fun i _ => x.length - (intOf i).toNat)
      case atStart => exact ⟨0, by omega, rfl, Later.refl _, (rfl : _ = _)⟩
      case round =>
        obtain ⟨k, hk, rfl, hLr, HE⟩ := hrel
        by_cases hlt : k < x.length
        · obtain ⟨b, off, rfl, hb, hcell⟩ := HC.out (by intro e; rw [e] at hlt; simp at hlt)
          have hltz : (k : Int) < (x.length : Int) := by omega
          have g1 := hcell k hlt
          rw [← (hL0.trans hLr).cell (p := ⟨b, off + k, none⟩) hb] at g1
          have hs := noName_step hlt
          have hsz := okF_getD HOK.out k
          dsimp only at hsz
          clear hcell
          generalize x.getD k ByteArray.empty = s at *
          cases hns : namedB s
          · have F : Hid (noName x 0 = true) := by show _ = _; rw [HE.out, hs, hns]; rfl
            clear hs
            go_wp2_with (go_at_call 67; refine (rNamed _ _ hsz).mono ?_; rintro e w2 ⟨rfl, hL2⟩; rw [hns])
            go_ret
            exact ⟨ret_int (by rw [← HRES.out, F.out]; rfl), hL0.trans (hLr.trans hL2)⟩
          · have F : Hid (noName x 0 = noName x (k + 1)) := by show _ = _; rw [HE.out, hs, hns]; rfl
            clear hs
            go_wp2_with (go_at_call 67; refine (rNamed _ _ hsz).mono ?_; rintro e w2 ⟨rfl, hL2⟩; rw [hns])
            go_roundw
            case rel => exact ⟨k + 1, by omega, by go_num, hLr.trans hL2, F⟩
            case measure => simp [intOf]; omega
        · have F : Hid (noName x 0 = false) := by show _ = _; rw [HE.out, noName_end (by omega)]
          go_wp2
          go_ret
          exact ⟨ret_int (by rw [← HRES.out, F.out]; rfl), hL0.trans hLr⟩

end Go.Proofs.YtbohggoeebhdmaaGreatDoor

/- Facts and lists of facts among a call's arguments, opened. -/
namespace Go.Proofs.YtbohggoeebhdmaaGreatDoor
open Go.RowKit Go.Sort Go.ChangeShapes Go.WideShapes Go.ChangeAt

theorem cellsFact : Tryz.prog.cellsOf 54 = 2 := by kernel_rfl
theorem cellsStr : Tryz.prog.cellsOf 9 = 1 := by kernel_rfl
theorem cellsStrs : Tryz.prog.cellsOf 52 = 1 := by kernel_rfl
theorem ownT : ownKnob Tryz.prog.godebug = none := by kernel_rfl
theorem laidOutT : laidOutB Tryz.prog = true := by kernel_rfl

variable {H : Type} {enc : TypeId × Value → H} {W : World}

theorem addr_plain {a : Addr} {i : Nat} {v : Value} (h : W.cell? (a.add i) = some v) (hi : i = 0) : ∃ b off, a = ⟨b, off, none⟩ := by
  subst hi
  obtain ⟨b, off, spot⟩ := a
  have hspot : spot = none := by simpa [Addr.add] using World.cell?_spot h
  subst hspot
  exact ⟨b, off, rfl⟩

/-- A slice of texts, read: its texts. -/
theorem trodStrs {n : Nat} {v : Value} {x : DataW H × List MemPlace} (h : DataW.trod enc Tryz.prog W 0 (fun _ => true) true n 52 [v] = some x) (hb : ∀ es sp, x.1 = .slice es sp → es.length ≤ 8796093022208) : ∃ l, Strs W v l ∧ ∀ s ∈ l, s.size ≤ 9223372036854775807 := by
  rcases open_strings Tryz.underlying52 Tryz.underlying9 cellsStr h with ⟨hcs, hx⟩ | ⟨a, len, cap, ss, hcs, _, hl, hm, hz, hx, hcell, hws⟩
  · simp only [List.cons.injEq, and_true] at hcs
    exact ⟨[], ⟨by simp, none, 0, by simpa using hcs, fun e => absurd rfl e⟩, fun s hs => by cases hs⟩
  · simp only [List.cons.injEq, and_true] at hcs
    simp only [if_true] at hz
    have hlen : (ss.take len).length = len := by rw [List.length_take]; omega
    have hbd := hb _ _ (by rw [hx])
    rw [strs, List.length_map] at hbd
    refine ⟨ss.take len, ⟨hbd, some a, cap, by rw [hlen]; exact hcs, fun hne => ?_⟩, fun s hs => by simpa [maxLen] using hws s (List.mem_of_mem_take hs)⟩
    have h0 : 0 < len := by
      refine Nat.pos_of_ne_zero fun e => hne ?_
      rw [e]; rfl
    obtain ⟨b, off, rfl⟩ := addr_plain (hcell 0 (by omega)) rfl
    refine ⟨b, off, rfl, World.block_lt_of_cell? W _ (hcell 0 (by omega)), fun i hi => ?_⟩
    rw [hlen] at hi
    have := hcell i (by omega)
    rw [Addr.add_lit] at this
    rw [this, List.getD_eq_getElem?_getD, List.getD_eq_getElem?_getD, List.getElem?_take, if_pos hi]

set_option maxRecDepth 100000 in
/-- A fact, read. -/
theorem trodFact {n : Nat} {cs : List Value} {x : DataW H × List MemPlace} (h : DataW.trod enc Tryz.prog W 0 (fun _ => true) true n 54 cs = some x) (hb : ∀ y es sp, x.1 = .agg [y, .slice es sp] → es.length ≤ 8796093022208) : ∃ f c0 c1, cs = [c0, c1] ∧ FactV W (.agg #[c0, c1]) f ∧ okF f := by
  obtain ⟨y0, y1, m, hx, hl, h0, h1⟩ := trod_struct2 Tryz.underlying54 h
  rw [cellsFact] at hl
  match cs, hl with
  | [c0, c1], _ =>
    have e0 : Tryz.prog.cellsOf 9 = 1 := cellsStr
    have e1 : Tryz.prog.cellsOf 52 = 1 := cellsStrs
    simp only [e0, e1, List.drop_zero, List.drop_succ_cons, List.take_succ_cons, List.take_zero] at h0 h1
    obtain ⟨s, hs, hy0, hsz⟩ := DataW.trod_string Tryz.underlying9 h0
    simp only [List.cons.injEq, and_true] at hs
    obtain ⟨l, hl, hlk⟩ := trodStrs h1 (fun es sp e => hb y0.1 es sp (by rw [hx]; simp [e]))
    exact ⟨(s, l), c0, c1, rfl, ⟨c1, by rw [hs], hl⟩, by simpa [maxLen] using hsz, hlk⟩

set_option maxRecDepth 100000 in
theorem openFact {b0 : Nat} {v : Value} {d : DataW H} {p : List MemPlace} (hv : Value.okWide Tryz.prog W .any b0 54 v) (h : DataW.Trod enc Tryz.prog W 0 (fun _ => true) true 54 v d p) (hb : ∀ y es sp, d = .agg [y, .slice es sp] → es.length ≤ 8796093022208) : ∃ f, FactV W v f ∧ okF f := by
  obtain ⟨cs, rfl, hsz⟩ := okWide_struct Tryz.underlying54 hv
  obtain ⟨fuel, hf⟩ := h
  obtain ⟨f, c0, c1, e, hF, hk⟩ := trodFact (by simpa [Value.cells] using hf) hb
  refine ⟨f, ?_, hk⟩
  have : cs = #[c0, c1] := by cases cs; simp_all
  rw [this]; exact hF

end Go.Proofs.YtbohggoeebhdmaaGreatDoor
