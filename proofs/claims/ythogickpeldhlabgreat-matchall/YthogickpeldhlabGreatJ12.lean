import Derived.Test.YthogickpeldhlabGreatJ11
import Derived.Laws.StructEq
import Derived.Shelf.Strings.OnBuilder
import Derived.Shelf.Strings.BuilderK
import Derived.Shelf.Strconv.Clone
import Derived.Shelf.Strings.Cut
import Derived.Shelf.Strings.Prefix
import Derived.Test.YthogickpeldhlabGreatProg
import Derived.Test.YthogickpeldhlabGreatJ3
/- The walks of the reference's LessBinds and SameBinds (where both hold the same), and of match.All. -/
namespace Go.Proofs.YthogickpeldhlabGreat
open Go.RowKit Go.Sort

theorem neqBind (x y : BindD) (w : World) : (binOp .neq 38 (.agg #[.string x.1, .string x.2]) (.agg #[.string y.1, .string y.2])).run Tryz.prog w = .ok (.bool (!decide (x = y))) w := by
  have e : decide (x = y) = (x.1.toList == y.1.toList && x.2.toList == y.2.toList) := by
    rw [eq_list, eq_list]
    obtain ⟨x1, x2⟩ := x
    obtain ⟨y1, y2⟩ := y
    rw [Bool.eq_iff_iff]; simp
  rw [e]
  generalize x.1 = a
  generalize x.2 = b
  generalize y.1 = c
  generalize y.2 = d
  go_simp
  by_cases h1 : a.toList = c.toList <;> by_cases h2 : b.toList = d.toList <;> simp [h1, h2]

def lessBs (l m : List BindD) : Bool := decide (cmpBs l m < 0)

theorem lessBs_step {l m : List BindD} {j : Nat} {x y : BindD} (hx : l[j]? = some x) (hy : m[j]? = some y) : lessBs (l.drop j) (m.drop j) = if x = y then lessBs (l.drop (j + 1)) (m.drop (j + 1)) else decide (cmpB x y < 0) := by
  obtain ⟨h1, e1⟩ := List.getElem?_eq_some_iff.1 hx
  obtain ⟨h2, e2⟩ := List.getElem?_eq_some_iff.1 hy
  rw [List.drop_eq_getElem_cons h1, List.drop_eq_getElem_cons h2, e1, e2]
  unfold lessBs
  show decide ((if cmpB x y ≠ 0 then cmpB x y else cmpX cmpB _ _) < 0) = _
  by_cases h : x = y
  · rw [if_pos h, if_neg (by rw [h, three_cmpB.refl]; simp)]
  · rw [if_neg h, if_pos (fun e => h (three_cmpB.zero _ _ e))]

theorem cmpB_lt (x y : BindD) : decide (cmpB x y < 0) = (Op.bytesLess x.1.toList y.1.toList || (x.1.toList == y.1.toList && Op.bytesLess x.2.toList y.2.toList)) := by
  unfold cmpB
  by_cases h : x.1.toList = y.1.toList
  · have h' : (x.1.toList == y.1.toList) = true := by simpa using h
    rw [if_neg (by rw [cmpS_eq h']; simp), cmpS_lt, h', h, bl_irrefl]; rfl
  · have h' : (x.1.toList == y.1.toList) = false := by simpa using h
    rw [if_pos (cmpS_ne h'), cmpS_lt, h']; simp

set_option maxRecDepth 100000 in
set_option maxHeartbeats 4000000 in
theorem lessBinds (u v : Value) (l m : List BindD) (w : World) (hu : bindK.sl Anyw w u l) (hv : bindK.sl Anyw w v m) :
    Calls Tryz.prog 21 #[u, v] w fun e w' => e = .returned (.bool (lessBs l m)) ∧ Later w w' := by
  obtain ⟨a, cap, rfl⟩ := Kind.slice hu
  obtain ⟨a', cap', rfl⟩ := Kind.slice hv
  have hl := hu.1.1
  have hm := hv.1.1
  have HU := hide hu
  have HV := hide hv
  clear hu hv
  generalize hR : lessBs l m = R at *
  have H0 : Hid (R = lessBs (l.drop 0) (m.drop 0)) := hR.symm
  clear hR
  go_enter Tryz.func21, Tryz.ntmps21
  go_wp2
  go_loopg [8] l.length (fun g i wr => ∃ j : Nat, j + g = l.length ∧ i = .int .i64 j ∧ Hid (R = lessBs (l.drop j) (m.drop j)) ∧ Hid (j ≤ m.length) ∧ Hid (Later w wr))
  case atStart => exact ⟨0, by omega, rfl, H0, (Nat.zero_le _ : _ ≤ _), Later.refl _⟩
  case round =>
    obtain ⟨j, hj, rfl, HE, HJ, HL⟩ := hrel
    have hjm := HJ.out
    by_cases hlt : j < l.length
    · obtain ⟨x, hx⟩ : ∃ x, l[j]? = some x := ⟨_, List.getElem?_eq_getElem hlt⟩
      obtain ⟨b1, o1, _, rfl, hb1, rfl, hc⟩ := Kind.sl_at HU.out hx
      by_cases hlm : j < m.length
      · obtain ⟨y, hy⟩ : ∃ y, m[j]? = some y := ⟨_, List.getElem?_eq_getElem hlm⟩
        obtain ⟨b2, o2, _, rfl, hb2, rfl, hc2⟩ := Kind.sl_at HV.out hy
        have d0 : wr.cell? ⟨b1, o1 + j * 2, none⟩ = some (.string x.1) := by rw [HL.out.cell hb1]; exact hc 0 _ rfl
        have d1 : wr.cell? ⟨b1, o1 + j * 2 + 1, none⟩ = some (.string x.2) := by rw [HL.out.cell hb1]; exact hc 1 _ rfl
        have d2 : wr.cell? ⟨b2, o2 + j * 2, none⟩ = some (.string y.1) := by rw [HL.out.cell hb2]; exact hc2 0 _ rfl
        have d3 : wr.cell? ⟨b2, o2 + j * 2 + 1, none⟩ = some (.string y.2) := by rw [HL.out.cell hb2]; exact hc2 1 _ rfl
        have hbr : b1 < wr.heap.size := Nat.lt_of_lt_of_le hb1 HL.out.size
        have hbr2 : b2 < wr.heap.size := Nat.lt_of_lt_of_le hb2 HL.out.size
        have E := lessBs_step hx hy
        have hq := neqBind x y
        have hjz : (j : Int) < (m.length : Int) := by omega
        have hjz2 : ¬ ((m.length : Int) ≤ (j : Int)) := by omega
        by_cases hxy : x = y
        · rw [if_pos hxy] at E
          rw [decide_eq_true hxy] at hq
          have HE1 : Hid (R = lessBs (l.drop (j + 1)) (m.drop (j + 1))) := by show _ = _; rw [HE.out, E]
          clear E HE hc hc2 hx hy hxy
          obtain ⟨x1, x2⟩ := x
          obtain ⟨y1, y2⟩ := y
          dsimp only at *
          go_wp2
          go_quiet (fail)
          go_wp2
          go_roundg (l.length - (j + 1))
          case measure => omega
          case rel => exact ⟨j + 1, by omega, by go_num, HE1, (by omega : j + 1 ≤ m.length), HL.out.drewN _⟩
        · rw [if_neg hxy, cmpB_lt] at E
          rw [decide_eq_false hxy] at hq
          obtain ⟨x1, x2⟩ := x
          obtain ⟨y1, y2⟩ := y
          dsimp only at *
          cases h1 : Op.bytesLess x1.toList y1.toList
          · cases h2 : (x1.toList == y1.toList)
            · have HE1 : Hid (R = false) := by show _ = _; rw [HE.out, E, h1, h2]; rfl
              clear E HE hc hc2 hx hy hxy
              go_wp2
              go_quiet (fail)
              go_wp2
              go_quiet (fail)
              go_wp2
              go_ret
              exact ⟨by rw [HE1.out]; rfl, (HL.out.drewN _).drewN _⟩
            · have HE1 : Hid (R = Op.bytesLess x2.toList y2.toList) := by show _ = _; rw [HE.out, E, h1, h2]; rfl
              clear E HE hc hc2 hx hy hxy
              go_wp2
              go_quiet (fail)
              go_wp2
              go_quiet (fail)
              go_wp2
              go_ret
              exact ⟨by rw [HE1.out]; rfl, (HL.out.drewN _).drewN _⟩
          · have HE1 : Hid (R = true) := by show _ = _; rw [HE.out, E, h1]; rfl
            clear E HE hc hc2 hx hy hxy
            go_wp2
            go_quiet (fail)
            go_wp2
            go_quiet (fail)
            go_wp2
            go_ret
            exact ⟨by rw [HE1.out]; rfl, (HL.out.drewN _).drewN _⟩
      · have HE1 : Hid (R = false) := by
          show _ = _
          obtain ⟨h1, e1⟩ := List.getElem?_eq_some_iff.1 hx
          rw [HE.out, List.drop_eq_getElem_cons h1, List.drop_eq_nil_of_le (by omega : m.length ≤ j)]; rfl
        have hjz : (m.length : Int) ≤ (j : Int) := by omega
        clear hc hx HE
        go_wp2
        go_ret
        exact ⟨by rw [HE1.out]; rfl, HL.out⟩
    · have e : j = l.length := by omega
      have HE1 : Hid (R = decide (l.length < m.length)) := by
        show _ = _
        rw [HE.out, List.drop_eq_nil_of_le (by omega : l.length ≤ j)]
        by_cases hlm : j < m.length
        · rw [List.drop_eq_getElem_cons hlm, decide_eq_true (by omega)]; rfl
        · rw [List.drop_eq_nil_of_le (by omega : m.length ≤ j), decide_eq_false (by omega)]; rfl
      clear HE
      go_wp2
      go_ret
      exact ⟨by rw [HE1.out]; rfl, HL.out⟩

set_option maxRecDepth 100000 in
set_option maxHeartbeats 2000000 in
theorem sameBinds (u v : Value) (ls : List (List BindD)) (w : World) (hu : listK.sl Anyw w u ls) (hv : listK.sl Anyw w v ls) :
    Calls Tryz.prog 11 #[u, v] w fun e w' => e = .returned (.bool true) ∧ Later w w' := by
  obtain ⟨a, cap, rfl⟩ := Kind.slice hu
  obtain ⟨a', cap', rfl⟩ := Kind.slice hv
  have hl := hu.1.1
  have HU := hide hu
  have HV := hide hv
  clear hu hv
  have hqq : ((ls.length : Int) != (ls.length : Int)) = false := by simp
  have mx := mixed
  go_enter Tryz.func11, Tryz.ntmps11
  go_wp2
  go_loopg [13] ls.length (fun g i wr => ∃ j : Nat, j + g = ls.length ∧ i = .int .i64 j ∧ Hid (Later w wr))
  case atStart => exact ⟨0, by omega, rfl, Later.refl _⟩
  case round =>
    obtain ⟨j, hj, rfl, HL⟩ := hrel
    by_cases hlt : j < ls.length
    · obtain ⟨l, hx⟩ : ∃ x, ls[j]? = some x := ⟨_, List.getElem?_eq_getElem hlt⟩
      obtain ⟨b1, o1, _, rfl, hb1, ⟨x, rfl, hxs⟩, hc⟩ := Kind.sl_at HU.out hx
      obtain ⟨b2, o2, _, rfl, hb2, ⟨y, rfl, hys⟩, hc2⟩ := Kind.sl_at HV.out hx
      have d0 : ∀ q os, (grow (wr.drewN q) os).cell? ⟨b1, o1 + j, none⟩ = some x := fun q os => by
        have hL2 : Later w (grow (wr.drewN q) os) := HL.out.trans ⟨q, os, rfl⟩
        rw [hL2.cell hb1]; simpa [slK] using hc 0 _ rfl
      have d1 : ∀ q os, (grow (wr.drewN q) os).cell? ⟨b2, o2 + j, none⟩ = some y := fun q os => by
        have hL2 : Later w (grow (wr.drewN q) os) := HL.out.trans ⟨q, os, rfl⟩
        rw [hL2.cell hb2]; simpa [slK] using hc2 0 _ rfl
      have hself : lessBs l l = false := by unfold lessBs; rw [three_cmpBs.refl]; rfl
      have H1 : Hid (∀ q os, Calls Tryz.prog 21 #[x, y] (grow (wr.drewN q) os) fun e w2 => e = .returned (.bool false) ∧ Later (grow (wr.drewN q) os) w2) := fun q os => by
        have hL2 : Later w (grow (wr.drewN q) os) := HL.out.trans ⟨q, os, rfl⟩
        have := lessBinds x y l l (grow (wr.drewN q) os) (Kind.sl_later hxs hL2) (Kind.sl_later hys hL2)
        rwa [hself] at this
      have H2 : Hid (∀ q os, Calls Tryz.prog 21 #[y, x] (grow (wr.drewN q) os) fun e w2 => e = .returned (.bool false) ∧ Later (grow (wr.drewN q) os) w2) := fun q os => by
        have hL2 : Later w (grow (wr.drewN q) os) := HL.out.trans ⟨q, os, rfl⟩
        have := lessBinds y x l l (grow (wr.drewN q) os) (Kind.sl_later hys hL2) (Kind.sl_later hxs hL2)
        rwa [hself] at this
      obtain ⟨xa, xc, rfl⟩ := Kind.slice hxs
      obtain ⟨ya, yc, rfl⟩ := Kind.slice hys
      have hjz : (j : Int) < (ls.length : Int) := by omega
      clear hc hc2 hx hxs hys hself
      go_wp2
      go_quiet_grown ((first | (go_at_call_of 21 (#[Value.slice xa l.length xc, Value.slice ya l.length yc]); exact Calls.grown_of (H1.out _ _)) | (go_at_call_of 21 (#[Value.slice ya l.length yc, Value.slice xa l.length xc]); exact Calls.grown_of (H2.out _ _))))
      go_wp2
      go_roundg (ls.length - (j + 1))
      case measure => omega
      case rel => exact ⟨j + 1, by omega, by go_num, HL.out.trans ⟨_, _, rfl⟩⟩
    · go_wp2
      go_ret
      exact ⟨rfl, HL.out⟩

theorem facts_nil (w : World) : Facts w (.slice none 0 0) [] := ⟨by simp, none, 0, rfl, fun h => absurd rfl h⟩

set_option maxHeartbeats 1000000 in
theorem allC (body : List AtomD) (v fv : Value) (fs : List FactD) (w : World) (hv : atomK.sl Anyw w v body) (hf : Facts w fv fs) :
    Calls Tryz.prog 6 #[v, fv] w fun e w' => ∃ v' er, e = .returned (.tuple #[v', .int .i64 er]) ∧ WithT w' v' er body fs (-1) [] ∧ Below w.heap.size w w' := by
  have HW := hide (withC body v fv (.slice none 0 0) fs [] (-1) w hv hf (facts_nil w))
  obtain ⟨a, cap, rfl⟩ := Kind.slice hv
  obtain ⟨fa, fc, rfl⟩ := sliceFacts hf
  clear hv hf
  go_enter Tryz.func6, Tryz.ntmps6
  go_wp2_with fail
  refine HW.out.mono ?_
  rintro e w1 ⟨v', er, rfl, hT, hB⟩
  have HT := hide hT
  have HB := hide hB
  clear hT hB HW
  go_wp2
  go_ret2
  exact ⟨v', er, rfl, HT.out, HB.out⟩

theorem pick_all' {fs : List FactD} : pickB fs (-1) [] = fun _ => fs := by
  funext n
  unfold pickB
  rw [if_neg (by omega)]

end Go.Proofs.YthogickpeldhlabGreat

/-
  DERIVED: THE SHELF's CONTRACTS AT THIS DUMP, IN PLAIN WORDS (tools/lay-plain.mjs out of 'TryzStrLay.lean', which tools/lay-shelf.mjs wrote): THE SAME DECLARATIONS UNDER THE SAME NAMES: 'import', 'namespace', 'open', 'def', 'theorem' AND NOTHING ELSE: no command of the shelf's: FOR A HAND-IN. Each laying: the table of numbers ('.._ren') and one theorem, a field a fact of the dump's own or the kernel's comparison; each contract: ONE APPLICATION.
-/
namespace Go.Proofs
open Go.Shelf
def Tryz.laysM316_ren : Go.Shelf.Ren := ⟨fun | 316 => 121 | n => n, fun | 9 => 9 | 3 => 3 | 4 => 4 | 37 => 162 | 0 => 0 | 127 => 163 | 5 => 5 | n => n, fun | n => n⟩
theorem Tryz.laysM316 : Go.Proofs.LaysM.n316 Tryz.prog Tryz.laysM316_ren := {
  mixed := by kernel_rfl
  f316 := Tryz.func121.trans (congrArg some (by kernel_rfl))
  t0 := Tryz.underlying0
  a0 := Tryz.isAgg0
  z0 := Tryz.sizeOf0
  v0 := Tryz.zeroValue0
  t3 := Tryz.underlying3
  a3 := Tryz.isAgg3
  z3 := Tryz.sizeOf3
  v3 := Tryz.zeroValue3
  t4 := Tryz.underlying4
  a4 := Tryz.isAgg4
  z4 := Tryz.sizeOf4
  v4 := Tryz.zeroValue4
  t9 := Tryz.underlying9
  a9 := Tryz.isAgg9
  z9 := Tryz.sizeOf9
  v9 := Tryz.zeroValue9
  t37 := Tryz.underlying162
  a37 := Tryz.isAgg162
  z37 := Tryz.sizeOf162
  v37 := Tryz.zeroValue162
  t127 := Tryz.underlying163
  a127 := Tryz.isAgg163
  z127 := Tryz.sizeOf163
  v127 := Tryz.zeroValue163
  t5 := Tryz.underlying5
  a5 := Tryz.isAgg5
  z5 := Tryz.sizeOf5
  v5 := Tryz.zeroValue5
  i0 := by kernel_rfl
  i3 := by kernel_rfl
  i4 := by kernel_rfl
  i5 := by kernel_rfl
  i9 := by kernel_rfl
  i37 := by kernel_rfl
  i127 := by kernel_rfl }
open Go.RowKit in
/-- internal/stringslite.Clone (what strings.Clone calls): "Clone returns a fresh copy of s.": THE SAME BYTES. Of what was there nothing has turned (a new row is laid, and frozen, where s is not empty). (LAID: no walk: one application.) -/
theorem Tryz.stringslite_Clone (s : ByteArray) (w : World) (hlim : s.size ≤ 281474976710656) :
    Calls Tryz.prog 121 #[.string s] w fun e w' => e = .returned (.string s) ∧ Below w.heap.size w w' := Any.stringslite_Clone Tryz.laysM316 s w hlim
def Tryz.lays145_ren : Go.Shelf.Ren := ⟨fun | 145 => 98 | 220 => 117 | 219 => 122 | 217 => 123 | 225 => 124 | 224 => 125 | 267 => 126 | 266 => 127 | 314 => 128 | n => n, fun | 9 => 9 | 4 => 4 | 59 => 142 | 3 => 3 | 5 => 5 | 46 => 98 | 146 => 166 | 51 => 129 | n => n, fun | 1 => 0 | n => n⟩
theorem Tryz.lays145 : Go.Proofs.Lays.n145 Tryz.prog Tryz.lays145_ren := {
  mixed := by kernel_rfl
  f145 := Tryz.func98.trans (congrArg some (by kernel_rfl))
  f217 := Tryz.func123.trans (congrArg some (by kernel_rfl))
  f219 := Tryz.func122.trans (congrArg some (by kernel_rfl))
  f220 := Tryz.func117.trans (congrArg some (by kernel_rfl))
  f224 := Tryz.func125.trans (congrArg some (by kernel_rfl))
  f225 := Tryz.func124.trans (congrArg some (by kernel_rfl))
  f266 := Tryz.func127.trans (congrArg some (by kernel_rfl))
  f267 := Tryz.func126.trans (congrArg some (by kernel_rfl))
  f314 := Tryz.func128.trans (congrArg some (by kernel_rfl))
  t3 := Tryz.underlying3
  a3 := Tryz.isAgg3
  z3 := Tryz.sizeOf3
  v3 := Tryz.zeroValue3
  t4 := Tryz.underlying4
  a4 := Tryz.isAgg4
  z4 := Tryz.sizeOf4
  v4 := Tryz.zeroValue4
  t5 := Tryz.underlying5
  a5 := Tryz.isAgg5
  z5 := Tryz.sizeOf5
  v5 := Tryz.zeroValue5
  t9 := Tryz.underlying9
  a9 := Tryz.isAgg9
  z9 := Tryz.sizeOf9
  v9 := Tryz.zeroValue9
  t46 := Tryz.underlying98
  a46 := Tryz.isAgg98
  z46 := Tryz.sizeOf98
  v46 := Tryz.zeroValue98
  t51 := Tryz.underlying129
  a51 := Tryz.isAgg129
  z51 := Tryz.sizeOf129
  v51 := Tryz.zeroValue129
  t59 := Tryz.underlying142
  a59 := Tryz.isAgg142
  z59 := Tryz.sizeOf142
  v59 := Tryz.zeroValue142
  t146 := Tryz.underlying166
  a146 := Tryz.isAgg166
  z146 := Tryz.sizeOf166
  v146 := Tryz.zeroValue166
  g1 := by kernel_rfl }
open Go.RowKit Go.Lib in
/-- strings.Cut: "Cut slices s around the first instance of sep, returning the text before and after sep. The found result reports whether sep appears in s. If sep does not appear in s, cut returns s, "", false.": IT RETURNS 'Lib.cut s sep'; the world is as it was but for the count of draws. (LAID: no walk: one application.) -/
theorem Tryz.strings_Cut (s sep : ByteArray) (m : Int) (w : World) (hs : s.size < 4294967281) (hm : w.cell? ⟨0, 0, none⟩ = some (.int .i64 m)) :
    Calls Tryz.prog 98 #[.string s, .string sep] w fun e w' => e = .returned (.tuple #[.string ⟨(Lib.cut s.data.toList sep.data.toList).1.toArray⟩, .string ⟨(Lib.cut s.data.toList sep.data.toList).2.1.toArray⟩, .bool (Lib.cut s.data.toList sep.data.toList).2.2]) ∧ ∃ n, w' = w.drewN n := Any.strings_Cut Tryz.lays145 s sep m w hs hm
def Tryz.lays99_ren : Go.Shelf.Ren := ⟨fun | 99 => 94 | 206 => 113 | n => n, fun | 9 => 9 | 4 => 4 | 3 => 3 | n => n, fun | n => n⟩
theorem Tryz.lays99 : Go.Proofs.Lays.n99 Tryz.prog Tryz.lays99_ren := {
  mixed := by kernel_rfl
  f99 := Tryz.func94.trans (congrArg some (by kernel_rfl))
  f206 := Tryz.func113.trans (congrArg some (by kernel_rfl))
  t3 := Tryz.underlying3
  a3 := Tryz.isAgg3
  z3 := Tryz.sizeOf3
  v3 := Tryz.zeroValue3
  t4 := Tryz.underlying4
  a4 := Tryz.isAgg4
  z4 := Tryz.sizeOf4
  v4 := Tryz.zeroValue4
  t9 := Tryz.underlying9
  a9 := Tryz.isAgg9
  z9 := Tryz.sizeOf9
  v9 := Tryz.zeroValue9 }
open Go.RowKit Go.Lib in
/-- strings.HasPrefix: "HasPrefix reports whether the string s begins with prefix.": IT RETURNS 'Lib.hasPrefix s prefix'; the world is as it was. (LAID: no walk: one application.) -/
theorem Tryz.strings_HasPrefix (s p : ByteArray) (w : World) :
    Calls Tryz.prog 94 #[.string s, .string p] w fun e w' => e = .returned (.bool (Lib.hasPrefix s.data.toList p.data.toList)) ∧ w' = w := Any.strings_HasPrefix Tryz.lays99 s p w
end Go.Proofs

/- A reader of a text in memory, and the worlds in which only it has turned. -/
namespace Go.Proofs.YthogickpeldhlabGreat
open Go.RowKit Go.Sort

/-- Where a text stands that this follows of. -/
def pos (s : ByteArray) (l : Bs) : Nat := s.size - l.length

/-- A reader at block p: its text is s, and l follows. -/
structure Rd (w : World) (p : Nat) (s : ByteArray) (l : Bs) : Prop where
  short : s.size ≤ 3000
  suf : l <:+ raw s
  lt : p < w.heap.size
  ne : p ≠ 0
  c0 : w.cell? ⟨p, 0, none⟩ = some (.string s)
  c1 : w.cell? ⟨p, 1, none⟩ = some (.int .i64 (pos s l))
  fz : w.frozen? ⟨p, 1, none⟩ = false
  g : ∃ m, w.cell? ⟨0, 0, none⟩ = some (.int .i64 m)

theorem drop_pos {s : ByteArray} {l : Bs} (h : l <:+ raw s) : (raw s).drop (pos s l) = l := by
  obtain ⟨t, e⟩ := h
  have : (raw s).length = t.length + l.length := by rw [← e, List.length_append]
  rw [length_raw] at this
  rw [← e, pos, this, Nat.add_sub_cancel, List.drop_left]

theorem pos_le (s : ByteArray) (l : Bs) : pos s l ≤ s.size := Nat.sub_le _ _
theorem len_le {s : ByteArray} {l : Bs} (h : l <:+ raw s) : l.length ≤ s.size := by rw [← length_raw]; exact h.length_le
theorem pos_add {s : ByteArray} {l : Bs} (h : l <:+ raw s) {n : Nat} (hn : n ≤ l.length) : pos s (l.drop n) = pos s l + n := by
  have := len_le h
  simp only [pos, List.length_drop]; omega
theorem suf_drop {s : ByteArray} {l : Bs} (h : l <:+ raw s) (n : Nat) : l.drop n <:+ raw s := (List.drop_suffix n l).trans h
theorem cut_bs {s : ByteArray} {l : Bs} (h : l <:+ raw s) : s.extract (pos s l) s.size = bs l := by
  apply raw_inj
  rw [raw_bs]
  have e := drop_pos h
  unfold raw at e ⊢
  rw [ByteArray.data_extract]
  simp only [Array.toList_extract, List.extract_eq_take_drop]
  rw [e, List.take_of_length_le]
  simp only [pos]; have := len_le h; omega

theorem Rd.turned {w w' : World} {p q : Nat} {s : ByteArray} {l : Bs} (h : Rd w p s l) (k : Tn q w w') (hq : q ≠ p) (h0 : q ≠ 0) : Rd w' p s l :=
  ⟨h.short, h.suf, Nat.lt_of_lt_of_le h.lt k.size, h.ne, by rw [k.cell (x := ⟨p, 0, none⟩) h.lt (fun e => hq e.symm)]; exact h.c0, by rw [k.cell (x := ⟨p, 1, none⟩) h.lt (fun e => hq e.symm)]; exact h.c1,
    by rw [World.frozen?_of_block (w := w) (a := ⟨p, 1, none⟩) (k.block p h.lt (fun e => hq e.symm))]; exact h.fz,
    by obtain ⟨m, e⟩ := h.g; exact ⟨m, by rw [k.cell (x := ⟨0, 0, none⟩) (by have := h.lt; show 0 < w.heap.size; omega) (fun e => h0 e.symm)]; exact e⟩⟩

theorem Rd.below {w w' : World} {p : Nat} {s : ByteArray} {l : Bs} (h : Rd w p s l) (k : Below w.heap.size w w') : Rd w' p s l :=
  h.turned (Tn.of_below (p := p + 1) k) (by omega) (by omega)

theorem Rd.set {w : World} {p : Nat} {s : ByteArray} {l : Bs} (h : Rd w p s l) {r : Bs} (hr : r <:+ raw s) : Rd (w.setCell ⟨p, 1, none⟩ (.int .i64 (pos s r))) p s r := by
  have hc := h.c1
  refine ⟨h.short, hr, by rw [size_setCell]; exact h.lt, h.ne, ?_, ?_, ?_, ?_⟩
  · rw [World.cell?_setCell_other _ _ _ _ (by simp)]; exact h.c0
  · exact World.cell?_setCell_same _ _ _ hc
  · rw [World.frozen?_setCell]; exact h.fz
  · obtain ⟨m, e⟩ := h.g
    exact ⟨m, by rw [World.cell?_setCell_other _ _ _ _ (by intro e; simp at e)]; exact e⟩

theorem Rd.drewN {w : World} {p : Nat} {s : ByteArray} {l : Bs} (h : Rd w p s l) (q : Nat) : Rd (w.drewN q) p s l := ⟨h.short, h.suf, h.lt, h.ne, h.c0, h.c1, h.fz, h.g⟩
theorem Rd.moved {w : World} {p : Nat} {s : ByteArray} {l : Bs} (h : Rd w p s l) {n : Nat} (hn : n ≤ l.length) {x : Int} (hx : x = (pos s l : Int) + n) : Rd (w.setCell ⟨p, 1, none⟩ (.int .i64 x)) p s (l.drop n) := by
  have := h.set (suf_drop h.suf n)
  rw [pos_add h.suf hn] at this
  rw [hx]
  exact this

theorem Tn.moved {w w' : World} {p : Nat} (h : Tn p w w') (v : Value) (o : Nat) : Tn p w (w'.setCell ⟨p, o, none⟩ v) := h.setCell (Or.inl rfl) v

end Go.Proofs.YthogickpeldhlabGreat

/- The walks of syntax.text's methods. -/
namespace Go.Proofs.YthogickpeldhlabGreat
open Go.RowKit Go.Sort

theorem cut_nl : ∀ l : Bs, (Lib.cut l [10]).1 = l.takeWhile (fun c => c != 10) := by
  intro l
  induction l with
  | nil => simp [Lib.cut, Lib.index]
  | cons c t ih =>
    by_cases h : c = 10
    · subst h; simp [Lib.cut, Lib.index, List.isPrefixOf]
    · have h' : ¬ (10 : UInt8) = c := fun e => h e.symm
      rw [List.takeWhile_cons, if_pos (by simpa using h)]
      have hg := Lib.index_ge t [10]
      unfold Lib.cut at ih ⊢
      have e : Lib.index (c :: t) [10] = if Lib.index t [10] == -1 then -1 else Lib.index t [10] + 1 := by
        rw [Lib.index]; simp [List.isPrefixOf, h']
      rw [e]
      by_cases hi : Lib.index t [10] = -1
      · rw [hi] at ih ⊢
        simp at ih ⊢
        exact ih
      · have h0 : 0 ≤ Lib.index t [10] := by omega
        have hb : (Lib.index t [10] == -1) = false := by simpa using hi
        rw [hb, if_neg (c := false = true) (by simp), if_pos (by omega)]
        rw [if_pos h0] at ih
        rw [show (Lib.index t [10] + 1).toNat = (Lib.index t [10]).toNat + 1 by omega, List.take_succ_cons]
        exact congrArg _ ih

/-- Behind a note's bytes it goes on as behind the note. -/
theorem skip_line : ∀ l : Bs, skip (l.drop (l.takeWhile (fun c => c != 10)).length) = skipM true l := by
  intro l
  induction l with
  | nil => rfl
  | cons c t ih =>
    by_cases h : c = 10
    · subst h; simp [note_end, skip, skip_blank]
    · rw [note_on h, List.takeWhile_cons, if_pos (by simpa using h)]; simpa using ih

set_option maxHeartbeats 1000000 in
theorem skipNote (p : Nat) (s : ByteArray) (l : Bs) (w : World) (h : Rd w p s l) :
    Calls Tryz.prog 68 #[.pointer (some ⟨p, 0, none⟩)] w fun e w' => e = .returned (.tuple #[]) ∧ Rd w' p s (l.drop (l.takeWhile (fun c => c != 10)).length) ∧ Tn p w w' := by
  have H := hide h
  have c0 := h.c0; have c1 := h.c1; have fz := h.fz
  obtain ⟨m, hm⟩ := h.g
  have hcut := cut_bs h.suf
  have hps := pos_le s l
  have hs := h.short
  have hll := len_le h.suf
  have HC : Hid (∀ q, Calls Tryz.prog 98 #[.string (bs l), .string { data := #[10] }] (w.drewN q) fun e w' => e = .returned (.tuple #[.string (bs (l.takeWhile (fun c => c != 10))), .string ⟨(Lib.cut l [10]).2.1.toArray⟩, .bool (Lib.cut l [10]).2.2]) ∧ ∃ n, w' = (w.drewN q).drewN n) := fun q => by
    have := Tryz.strings_Cut (bs l) { data := #[10] } m (w.drewN q) (by rw [size_bs]; omega) hm
    have e : (bs l).data.toList = l := raw_bs l
    rw [e] at this
    refine this.mono ?_
    rintro e w' ⟨rfl, hw⟩
    exact ⟨by rw [← cut_nl]; rfl, hw⟩
  generalize ht : l.takeWhile (fun c => c != 10) = t at HC ⊢
  have hle : t.length ≤ l.length := by rw [← ht]; exact (List.takeWhile_prefix _).length_le
  have hn : (bs t).size = t.length := size_bs t
  have HP := hide (pos_add h.suf hle)
  clear h hm ht
  go_enter Tryz.func68, Tryz.ntmps68
  go_wp2
  go_quiet ((go_at_call 98; exact Calls.quiet_of (HC.out _)))
  go_wp2
  go_end0
  exact ⟨rfl, (H.out.drewN _).moved hle rfl, ((Tn.refl p w).drewN _).moved _ _⟩

theorem raw_get {s : ByteArray} {l : Bs} {c : UInt8} (h : (c :: l) <:+ raw s) : ∃ hk : pos s (c :: l) < s.size, s[pos s (c :: l)] = c := by
  have hl := len_le h
  have hk : pos s (c :: l) < s.size := by simp only [pos, List.length_cons] at *; omega
  refine ⟨hk, ?_⟩
  have e := drop_pos h
  have hk' : pos s (c :: l) < (raw s).length := by rw [length_raw]; exact hk
  rw [List.drop_eq_getElem_cons hk'] at e
  have := (List.cons.inj e).1
  rw [getRaw hk hk'] at this
  exact this

theorem byte_ne {c d : UInt8} (h : ¬ c = d) : ((c.toNat : Int) == (d.toNat : Int)) = false := by
  rw [beq_eq_false_iff_ne]; intro e; exact h (UInt8.toNat_inj.1 (by omega))

theorem pos_end {s : ByteArray} {l : Bs} (h : l <:+ raw s) (he : ¬ pos s l < s.size) : l = [] := by
  have := len_le h
  simp only [pos] at he
  exact List.eq_nil_of_length_eq_zero (by omega)

set_option maxHeartbeats 2000000 in
theorem skipC (p : Nat) (s : ByteArray) (l : Bs) (w : World) (h : Rd w p s l) :
    Calls Tryz.prog 54 #[.pointer (some ⟨p, 0, none⟩)] w fun e w' => e = .returned (.tuple #[]) ∧ Rd w' p s (skip l) ∧ Tn p w w' := by
  have H := hide h
  clear h
  go_enter Tryz.func54, Tryz.ntmps54
  go_wp2
  go_loopg [] (l.length + 1) (fun k wr => ∃ l', l'.length < k ∧ Rd wr p s l' ∧ skip l' = skip l ∧ Tn p w wr)
  case atStart => exact ⟨l, by omega, H.out, rfl, Tn.refl _ _⟩
  case round =>
    obtain ⟨l', hk, hR, hE, hT⟩ := hrel
    have HR := hide hR
    have HE := hide hE
    have HT := hide hT
    have c0 := hR.c0; have c1 := hR.c1; have fz := hR.fz
    have hps := pos_le s l'
    have hs := hR.short
    have hsuf := hR.suf
    clear hR hE hT
    cases l' with
    | nil =>
      have hend : ¬ pos s [] < s.size := by simp [pos]
      go_wp2
      go_quiet (fail)
      go_wp2
      go_end0
      refine ⟨rfl, ?_, HT.out.drewN _⟩
      have : Rd wr p s [] := HR.out
      rw [← HE.out]
      exact this.drewN _
    | cons c t =>
      obtain ⟨hlt, hget⟩ := raw_get hsuf
      have HS := hide hsuf
      clear hsuf
      by_cases hb : c = 32 ∨ c = 10
      · have HQ : Hid (skip t = skip l) := by show _ = _; rw [← HE.out, skip, skip, skip_blank hb]
        have HM : Hid (∀ q, Rd ((wr.drewN q).setCell ⟨p, 1, none⟩ (.int .i64 ((pos s (c :: t) : Int) + 1))) p s t) := fun q => (HR.out.drewN q).moved (n := 1) (by simp) rfl
        have HN := hide (by simpa using hk : t.length + 1 < gk)
        rcases hb with rfl | rfl
        · generalize pos s (32 :: t) = k at *
          go_wp2
          go_quiet (fail)
          go_wp2
          go_quiet (fail)
          go_wp2
          go_roundg (t.length + 1)
          case measure => exact HN.out
          case rel => exact ⟨t, by omega, HM.out _, HQ.out, (HT.out.drewN _).moved _ _⟩
        · generalize pos s (10 :: t) = k at *
          go_wp2
          go_quiet (fail)
          go_wp2
          go_quiet (fail)
          go_wp2
          go_roundg (t.length + 1)
          case measure => exact HN.out
          case rel => exact ⟨t, by omega, HM.out _, HQ.out, (HT.out.drewN _).moved _ _⟩
      · by_cases h37 : c = 37
        · subst h37
          have HQ : Hid (skip ((37 :: t).drop ((37 :: t).takeWhile (fun c => c != 10)).length) = skip l) := by
            show _ = _; rw [← HE.out, skip_line, skip, skip_note, note_on (by decide)]
          have HN : Hid (((37 :: t).drop ((37 :: t).takeWhile (fun c => c != 10)).length).length + 1 < gk) := by
            show _ < _
            rw [List.takeWhile_cons, if_pos (by decide)]
            simp at hk ⊢; omega
          have HC := hide (fun w' (hw : Rd w' p s (37 :: t)) => skipNote p s (37 :: t) w' hw)
          generalize (37 :: t).drop ((37 :: t).takeWhile (fun c => c != 10)).length = t' at *
          generalize pos s (37 :: t) = k at *
          go_wp2
          go_quiet (fail)
          go_wp2
          go_quiet (fail)
          go_wp2_with fail
          refine (HC.out _ (HR.out.drewN _)).mono ?_
          rintro e w1 ⟨rfl, hR1, hT1⟩
          have HR1 := hide hR1
          have HT1 := hide ((HT.out.drewN _).trans hT1)
          clear hR1 hT1
          go_wp2
          go_roundg (t'.length + 1)
          case measure => exact HN.out
          case rel => exact ⟨t', by omega, HR1.out, HQ.out, HT1.out⟩
        · have HQ : Hid (c :: t = skip l) := by show _ = _; rw [← HE.out, skip, skip_other hb h37]
          have n1 : ((c.toNat : Int) == 32) = false := byte_ne (d := 32) (fun e => hb (Or.inl e))
          have n2 : ((c.toNat : Int) == 10) = false := byte_ne (d := 10) (fun e => hb (Or.inr e))
          have n3 : ((c.toNat : Int) == 37) = false := byte_ne (d := 37) h37
          clear hb h37
          generalize pos s (c :: t) = k at *
          go_wp2
          go_quiet (fail)
          go_wp2
          go_quiet (fail)
          go_wp2
          first | go_end0 | refine bodyPost_ret (results_none rfl _ _ _) rfl ?_
          refine ⟨rfl, ?_, HT.out.drewN _⟩
          rw [← HQ.out]
          exact HR.out.drewN _

end Go.Proofs.YthogickpeldhlabGreat
