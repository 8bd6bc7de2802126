/- Texts of this claim, one behind the other. -/
import Derived.Test.YtbohggoeebhdmaaGreatDoorJ7
import Derived.Test.YtbohggoeebhdmaaGreatDoorJ12
import Derived.Shelf.Strings.OnBuilder
import Derived.Shelf.Strings.BuilderK
import Derived.Shelf.Strconv.Clone
import Derived.Shelf.Strings.Cut
import Derived.Shelf.Strings.Prefix
import Derived.Test.YtbohggoeebhdmaaGreatDoorProg
import Derived.Shelf.Strconv.Itoa3
import Derived.Shelf.Slices.Turned
import Derived.Lib.ItoaNum
import Derived.Test.YtbohggoeebhdmaaGreatDoorJ2
/- Lists of what variables stand for, in the reference: rows of maps. -/
namespace Go.Proofs.YtbohggoeebhdmaaGreatDoor
open Go.RowKit Go.Sort Go.Maps

/-- A list of binds, as a map in a cell. -/
def envK (n : Nat) : Kind (List BindD) where
  size := 1
  is := fun B w c l => ∃ b, c = [.map (some b)] ∧ B b ∧ EnvM w b n l
  len := fun ⟨b, h, _, _⟩ => by subst h; rfl
  one := fun ⟨b, h, _, _⟩ u hu => by subst h; simp at hu; subst hu; rfl
  kept := fun ⟨b, h, hB, he⟩ _ h2 => ⟨b, h, hB, he.block (h2 b he.lt hB)⟩
  mono := fun ⟨b, h, hB, he⟩ h1 => ⟨b, h, h1 b he.lt hB, he⟩

theorem envK_more {n m : Nat} {B : Nat → Prop} {w : World} {v : Value} {L : List (List BindD)} (h : (envK n).sl B w v L) (hn : n ≤ m) : (envK m).sl B w v L := by
  obtain ⟨h0, a, cap, e, h1⟩ := h
  refine ⟨h0, a, cap, e, fun hl => ?_⟩
  obtain ⟨b, off, ea, hB, hb, hc⟩ := h1 hl
  refine ⟨b, off, ea, hB, hb, fun i x hx => ?_⟩
  obtain ⟨c, ⟨b', hc1, hB', he⟩, hc2⟩ := hc i x hx
  exact ⟨c, ⟨b', hc1, hB', he.mono hn⟩, hc2⟩

theorem infoEnv : ∃ i, Tryz.prog.info? 118 = some i ∧ i.zero = some (.map none) ∧ i.size = 1 ∧ i.bytes = 8 := ⟨Tryz.t118, by kernel_rfl, by kernel_rfl, by kernel_rfl, by kernel_rfl⟩

theorem own_rowcells {α : Type} {K : Kind α} {ty : TypeId} {lo : Nat} {w : World} {v : Value} {l : List α} (h : K.own ty lo w v l) {k : Nat} (hk : v.ownBlock = some k) : ∃ cs, w.heap[k]? = some (.cells cs ty (0, 0)) := by
  obtain ⟨xs, ho, _⟩ := h
  rcases ho.2 with ⟨rfl, _⟩ | ⟨g, cap, cur, rfl, _, hg, _⟩
  · simp [Value.ownBlock] at hk
  · simp only [Value.ownBlock, Option.some.injEq] at hk
    subst hk
    exact ⟨cur, hg⟩

theorem env_not_row {α : Type} {K : Kind α} {ty : TypeId} {lo : Nat} {w : World} {v : Value} {l : List α} (h : K.own ty lo w v l) {b n : Nat} {e : List BindD} (he : EnvM w b n e) : v.ownBlock ≠ some b := fun hk => by
  obtain ⟨cs, h1⟩ := own_rowcells h hk
  obtain ⟨es, c, h2⟩ := he.isMap
  rw [h1] at h2
  cases h2

/-- One more. -/
theorem appendEnv {n lo : Nat} {w : World} {v : Value} {L : List (List BindD)} (h : (envK n).own 118 lo w v L) {b : Nat} {l : List BindD} (he : EnvM w b n l) (hb : lo ≤ b) (hl : L.length + 1 ≤ 10000000) (hlo : lo ≤ w.heap.size) :
    ∃ v' w', (Builtin.append_ #[84, 84] 84 #[v, .slice (some ⟨w.heap.size, 0, none⟩) 1 1]).run Tryz.prog (w.alloc (.cells #[.map (some b)] 118)) = .ok v' w' ∧ (envK n).own 118 lo w' v' (L ++ [l]) ∧ (w.alloc (.cells #[.map (some b)] 118)).grownBy w' v.ownBlock ∧ w.drawn ≤ w'.drawn ∧
      ∀ k, v'.ownBlock = some k → v.ownBlock = some k ∨ w.heap.size < k := by
  obtain ⟨i, i1, i2, i3, i4⟩ := infoEnv
  exact Kind.own_more h Tryz.underlying84 i1 i2 i3 i4 rfl (Nat.one_pos) (c := [.map (some b)]) ⟨b, rfl, ⟨hb, env_not_row h he⟩, he⟩ (by omega) (by simp [maxLen]; omega) hlo

theorem enters_envs1 : ∀ args w, (callFunc 81 args).run Tryz.prog w = .ok (.enter 81 args) w := enters_of Tryz.func81 (by kernel_rfl) rfl

set_option maxRecDepth 100000 in
set_option maxHeartbeats 400000 in
/-- Of which facts an atom is met. -/
theorem rPick (B : Nat) (i at_ : Int) (fa oa : Option Addr) (fn fc on oc : Nat) (w : World) (h0 : w.cell? ⟨B, 0, none⟩ = some (.slice fa fn fc)) (h1 : w.cell? ⟨B + 1, 0, none⟩ = some (.int .i64 at_)) (h2 : w.cell? ⟨B + 2, 0, none⟩ = some (.slice oa on oc)) :
    Calls Tryz.prog 81 #[.int .i64 i, .pointer (some ⟨B + 1, 0, none⟩), .pointer (some ⟨B + 2, 0, none⟩), .pointer (some ⟨B, 0, none⟩)] w fun e w' => e = .returned (if i = at_ then .slice oa on oc else .slice fa fn fc) ∧ w' = w := by
  by_cases h : i = at_
  · subst h
    have hq : (i == i) = true := by simp
    go_enter Tryz.func81, Tryz.ntmps81
    go_wp2
    go_ret
    exact ⟨by simp, rfl⟩
  · have hq : (i == at_) = false := by simpa using h
    go_enter Tryz.func81, Tryz.ntmps81
    go_wp2
    go_ret
    exact ⟨rfl, rfl⟩

/-! ### plain steps -/

theorem metAt_step {pick : Nat → List FactB} {body : List AtomD} {j : Nat} {a : AtomD} {ms : List (List BindD)} (h : body[j]? = some a) :
    metGo pick j (body.drop j) ms = if a.no then metGo pick (j + 1) (body.drop (j + 1)) ms else if 20000 < (meetAllB a (pick j) ms).length then none else metGo pick (j + 1) (body.drop (j + 1)) (meetAllB a (pick j) ms) := by
  have h1 : body.drop j = a :: body.drop (j + 1) := by
    obtain ⟨h, e⟩ := List.getElem?_eq_some_iff.1 h
    rw [List.drop_eq_getElem_cons h, e]
  rw [h1]
  rfl

theorem meetAll_take {a : AtomD} {fs : List FactB} {ms : List (List BindD)} {p : Nat} {l : List BindD} (h : ms[p]? = some l) : meetAllB a fs (ms.take (p + 1)) = meetAllB a fs (ms.take p) ++ fs.filterMap fun f => meetB a f l := by
  rw [List.take_add_one, h]
  unfold meetAllB
  rw [List.flatMap_append]
  simp

theorem filterMap_take {α β : Type} {g : α → Option β} {fs : List α} {q : Nat} {x : α} (h : fs[q]? = some x) : (fs.take (q + 1)).filterMap g = (fs.take q).filterMap g ++ (g x).toList := by
  rw [List.take_add_one, h, List.filterMap_append]
  simp only [Option.toList_some, List.filterMap_cons, List.filterMap_nil]
  cases g x <;> rfl

theorem meetAll_len {a : AtomD} {fs : List FactB} (hf : fs.length ≤ 200) : ∀ (ms : List (List BindD)), (meetAllB a fs ms).length ≤ 200 * ms.length
  | [] => by simp [meetAllB]
  | l :: ms => by
    have h1 := meetAll_len (a := a) hf ms
    have h2 : (fs.filterMap fun f => meetB a f l).length ≤ fs.length := List.length_filterMap_le _ _
    unfold meetAllB at *
    rw [List.flatMap_cons, List.length_append, List.length_cons]; omega

theorem barred_take {pick : Nat → List FactB} {l : List BindD} : ∀ (ats : List AtomD) (n i : Nat) {a : AtomD}, ats[i]? = some a →
    barredB pick n (ats.take (i + 1)) l = (barredB pick n (ats.take i) l || (a.no && (match fillB a l with | some f => inB (pick (n + i)) f | none => false)))
  | [], _, _, _, h => by simp at h
  | x :: ats, n, 0, a, h => by
    simp at h
    subst h
    simp only [List.take_succ_cons, List.take_zero, barredB, Bool.or_false, Bool.false_or, Nat.add_zero]
    rfl
  | x :: ats, n, i + 1, a, h => by
    have := barred_take (pick := pick) (l := l) ats (n + 1) i (a := a) (by simpa using h)
    rw [List.take_succ_cons, List.take_succ_cons]
    simp only [barredB]
    rw [this, Bool.or_assoc, show n + 1 + i = n + (i + 1) by omega]

end Go.Proofs.YtbohggoeebhdmaaGreatDoor

/-
  DERIVED: THE SHELF's CONTRACTS AT THIS DUMP, IN PLAIN WORDS (tools/lay-plain.mjs out of 'TryzStrLay.lean', which tools/lay-shelf.mjs wrote): THE SAME DECLARATIONS UNDER THE SAME NAMES: 'import', 'namespace', 'open', 'def', 'theorem' AND NOTHING ELSE: no command of the shelf's: FOR A HAND-IN. Each laying: the table of numbers ('.._ren') and one theorem, a field a fact of the dump's own or the kernel's comparison; each contract: ONE APPLICATION.
-/
namespace Go.Proofs
open Go.Shelf
def Tryz.lays169_ren : Go.Shelf.Ren := ⟨fun | 169 => 120 | n => n, fun | 70 => 153 | 9 => 9 | 0 => 0 | 72 => 156 | 37 => 154 | 127 => 189 | 3 => 3 | 5 => 5 | n => n, fun | n => n⟩
theorem Tryz.lays169 : Go.Proofs.Lays.n169 Tryz.prog Tryz.lays169_ren := {
  mixed := by kernel_rfl
  f169 := Tryz.func120.trans (congrArg some (by kernel_rfl))
  t0 := Tryz.underlying0
  a0 := Tryz.isAgg0
  z0 := Tryz.sizeOf0
  v0 := Tryz.zeroValue0
  t3 := Tryz.underlying3
  a3 := Tryz.isAgg3
  z3 := Tryz.sizeOf3
  v3 := Tryz.zeroValue3
  t9 := Tryz.underlying9
  a9 := Tryz.isAgg9
  z9 := Tryz.sizeOf9
  v9 := Tryz.zeroValue9
  t37 := Tryz.underlying154
  a37 := Tryz.isAgg154
  z37 := Tryz.sizeOf154
  v37 := Tryz.zeroValue154
  t70 := Tryz.underlying153
  a70 := Tryz.isAgg153
  z70 := Tryz.sizeOf153
  v70 := Tryz.zeroValue153
  t72 := Tryz.underlying156
  a72 := Tryz.isAgg156
  z72 := Tryz.sizeOf156
  v72 := Tryz.zeroValue156
  t127 := Tryz.underlying189
  a127 := Tryz.isAgg189
  z127 := Tryz.sizeOf189
  v127 := Tryz.zeroValue189 }
theorem Tryz.Builder_Extra_169 : Builder.Extra Tryz.prog Tryz.lays169_ren := {
  sizeBuilder := by kernel_rfl
  liesBuilder := by kernel_rfl
  t5 := Tryz.underlying5
  a5 := Tryz.isAgg5
  z5 := Tryz.sizeOf5
  v5 := Tryz.zeroValue5
  infoByte := by kernel_rfl
  cellsByte := by kernel_rfl
  sizeByte := by kernel_rfl
  neB5 := by decide }
open Go.RowKit in
/-- (*strings.Builder).String: "String returns the accumulated string.": WHATEVER THE BUILDER HOLDS; THE FORM '_k': OVER 'Lib.IsBuilderF' (a builder that 'String()' may have read), AND WITH THE FRAME THAT REACHES ABOVE THE BUILDER: 'Lib.OthersKept': every block that is not b and is no row of uint8's stands as it stood: the iterator of a range among them. (LAID: no walk: one application.) -/
theorem Tryz.Builder_String_any_k (B b : Nat) (l : List UInt8) (w : World) (h : Lib.IsBuilderF 156 5 B b (Lib.byteCells l) w) (hBw : B ≤ w.heap.size) :
    Calls Tryz.prog 120 #[.pointer (some ⟨b, 0, none⟩)] w fun e w' => e = .returned (.string ⟨l.toArray⟩) ∧ (Lib.IsBuilderF 156 5 B b (Lib.byteCells l) w' ∧ Below B w w' ∧ Lib.OthersKept 5 (some b) w w') := Any.Builder_String_any_k Tryz.lays169 Tryz.Builder_Extra_169 B b l w h hBw
def Tryz.laysM316_ren : Go.Shelf.Ren := ⟨fun | 316 => 224 | n => n, fun | 9 => 9 | 3 => 3 | 4 => 4 | 37 => 154 | 0 => 0 | 127 => 189 | 5 => 5 | n => n, fun | n => n⟩
theorem Tryz.laysM316 : Go.Proofs.LaysM.n316 Tryz.prog Tryz.laysM316_ren := {
  mixed := by kernel_rfl
  f316 := Tryz.func224.trans (congrArg some (by kernel_rfl))
  t0 := Tryz.underlying0
  a0 := Tryz.isAgg0
  z0 := Tryz.sizeOf0
  v0 := Tryz.zeroValue0
  t3 := Tryz.underlying3
  a3 := Tryz.isAgg3
  z3 := Tryz.sizeOf3
  v3 := Tryz.zeroValue3
  t4 := Tryz.underlying4
  a4 := Tryz.isAgg4
  z4 := Tryz.sizeOf4
  v4 := Tryz.zeroValue4
  t9 := Tryz.underlying9
  a9 := Tryz.isAgg9
  z9 := Tryz.sizeOf9
  v9 := Tryz.zeroValue9
  t37 := Tryz.underlying154
  a37 := Tryz.isAgg154
  z37 := Tryz.sizeOf154
  v37 := Tryz.zeroValue154
  t127 := Tryz.underlying189
  a127 := Tryz.isAgg189
  z127 := Tryz.sizeOf189
  v127 := Tryz.zeroValue189
  t5 := Tryz.underlying5
  a5 := Tryz.isAgg5
  z5 := Tryz.sizeOf5
  v5 := Tryz.zeroValue5
  i0 := by kernel_rfl
  i3 := by kernel_rfl
  i4 := by kernel_rfl
  i5 := by kernel_rfl
  i9 := by kernel_rfl
  i37 := by kernel_rfl
  i127 := by kernel_rfl }
open Go.RowKit in
/-- internal/stringslite.Clone (what strings.Clone calls): "Clone returns a fresh copy of s.": THE SAME BYTES. Of what was there nothing has turned (a new row is laid, and frozen, where s is not empty). (LAID: no walk: one application.) -/
theorem Tryz.stringslite_Clone (s : ByteArray) (w : World) (hlim : s.size ≤ 281474976710656) :
    Calls Tryz.prog 224 #[.string s] w fun e w' => e = .returned (.string s) ∧ Below w.heap.size w w' := Any.stringslite_Clone Tryz.laysM316 s w hlim
def Tryz.lays145_ren : Go.Shelf.Ren := ⟨fun | 145 => 206 | 220 => 223 | 219 => 229 | 217 => 230 | 225 => 231 | 224 => 232 | 267 => 233 | 266 => 234 | 314 => 235 | n => n, fun | 9 => 9 | 4 => 4 | 59 => 242 | 3 => 3 | 5 => 5 | 46 => 174 | 146 => 261 | 51 => 202 | n => n, fun | 1 => 3 | n => n⟩
theorem Tryz.lays145 : Go.Proofs.Lays.n145 Tryz.prog Tryz.lays145_ren := {
  mixed := by kernel_rfl
  f145 := Tryz.func206.trans (congrArg some (by kernel_rfl))
  f217 := Tryz.func230.trans (congrArg some (by kernel_rfl))
  f219 := Tryz.func229.trans (congrArg some (by kernel_rfl))
  f220 := Tryz.func223.trans (congrArg some (by kernel_rfl))
  f224 := Tryz.func232.trans (congrArg some (by kernel_rfl))
  f225 := Tryz.func231.trans (congrArg some (by kernel_rfl))
  f266 := Tryz.func234.trans (congrArg some (by kernel_rfl))
  f267 := Tryz.func233.trans (congrArg some (by kernel_rfl))
  f314 := Tryz.func235.trans (congrArg some (by kernel_rfl))
  t3 := Tryz.underlying3
  a3 := Tryz.isAgg3
  z3 := Tryz.sizeOf3
  v3 := Tryz.zeroValue3
  t4 := Tryz.underlying4
  a4 := Tryz.isAgg4
  z4 := Tryz.sizeOf4
  v4 := Tryz.zeroValue4
  t5 := Tryz.underlying5
  a5 := Tryz.isAgg5
  z5 := Tryz.sizeOf5
  v5 := Tryz.zeroValue5
  t9 := Tryz.underlying9
  a9 := Tryz.isAgg9
  z9 := Tryz.sizeOf9
  v9 := Tryz.zeroValue9
  t46 := Tryz.underlying174
  a46 := Tryz.isAgg174
  z46 := Tryz.sizeOf174
  v46 := Tryz.zeroValue174
  t51 := Tryz.underlying202
  a51 := Tryz.isAgg202
  z51 := Tryz.sizeOf202
  v51 := Tryz.zeroValue202
  t59 := Tryz.underlying242
  a59 := Tryz.isAgg242
  z59 := Tryz.sizeOf242
  v59 := Tryz.zeroValue242
  t146 := Tryz.underlying261
  a146 := Tryz.isAgg261
  z146 := Tryz.sizeOf261
  v146 := Tryz.zeroValue261
  g1 := by kernel_rfl }
open Go.RowKit Go.Lib in
/-- strings.Cut: "Cut slices s around the first instance of sep, returning the text before and after sep. The found result reports whether sep appears in s. If sep does not appear in s, cut returns s, "", false.": IT RETURNS 'Lib.cut s sep'; the world is as it was but for the count of draws. (LAID: no walk: one application.) -/
theorem Tryz.strings_Cut (s sep : ByteArray) (m : Int) (w : World) (hs : s.size < 4294967281) (hm : w.cell? ⟨3, 0, none⟩ = some (.int .i64 m)) :
    Calls Tryz.prog 206 #[.string s, .string sep] w fun e w' => e = .returned (.tuple #[.string ⟨(Lib.cut s.data.toList sep.data.toList).1.toArray⟩, .string ⟨(Lib.cut s.data.toList sep.data.toList).2.1.toArray⟩, .bool (Lib.cut s.data.toList sep.data.toList).2.2]) ∧ ∃ n, w' = w.drewN n := Any.strings_Cut Tryz.lays145 s sep m w hs hm
def Tryz.lays99_ren : Go.Shelf.Ren := ⟨fun | 99 => 176 | 206 => 210 | n => n, fun | 9 => 9 | 4 => 4 | 3 => 3 | n => n, fun | n => n⟩
theorem Tryz.lays99 : Go.Proofs.Lays.n99 Tryz.prog Tryz.lays99_ren := {
  mixed := by kernel_rfl
  f99 := Tryz.func176.trans (congrArg some (by kernel_rfl))
  f206 := Tryz.func210.trans (congrArg some (by kernel_rfl))
  t3 := Tryz.underlying3
  a3 := Tryz.isAgg3
  z3 := Tryz.sizeOf3
  v3 := Tryz.zeroValue3
  t4 := Tryz.underlying4
  a4 := Tryz.isAgg4
  z4 := Tryz.sizeOf4
  v4 := Tryz.zeroValue4
  t9 := Tryz.underlying9
  a9 := Tryz.isAgg9
  z9 := Tryz.sizeOf9
  v9 := Tryz.zeroValue9 }
open Go.RowKit Go.Lib in
/-- strings.HasPrefix: "HasPrefix reports whether the string s begins with prefix.": IT RETURNS 'Lib.hasPrefix s prefix'; the world is as it was. (LAID: no walk: one application.) -/
theorem Tryz.strings_HasPrefix (s p : ByteArray) (w : World) :
    Calls Tryz.prog 176 #[.string s, .string p] w fun e w' => e = .returned (.bool (Lib.hasPrefix s.data.toList p.data.toList)) ∧ w' = w := Any.strings_HasPrefix Tryz.lays99 s p w
end Go.Proofs

/-
  DERIVED: THE SHELF's CONTRACTS AT THIS DUMP, IN PLAIN WORDS (tools/lay-plain.mjs out of 'TryzNaiLay.lean', which tools/lay-shelf.mjs wrote): THE SAME DECLARATIONS UNDER THE SAME NAMES: 'import', 'namespace', 'open', 'def', 'theorem' AND NOTHING ELSE: no command of the shelf's: FOR A HAND-IN. Each laying: the table of numbers ('.._ren') and one theorem, a field a fact of the dump's own or the kernel's comparison; each contract: ONE APPLICATION.
-/
namespace Go.Proofs
open Go.Shelf
def Tryz.laysM171_ren : Go.Shelf.Ren := ⟨fun | 171 => 118 | 243 => 147 | 246 => 171 | 283 => 202 | 284 => 203 | 285 => 204 | 286 => 205 | 129 => 163 | 317 => 219 | 318 => 220 | 319 => 221 | 320 => 222 | 337 => 227 | 338 => 228 | n => n, fun | 3 => 3 | 9 => 9 | 2 => 2 | 4 => 4 | 171 => 238 | 0 => 0 | 53 => 204 | 37 => 154 | 5 => 5 | 173 => 240 | 212 => 254 | 51 => 202 | 20 => 20 | 213 => 255 | 46 => 174 | 232 => 258 | 233 => 259 | n => n, fun | 17 => 0 | 18 => 1 | 19 => 2 | n => n⟩
theorem Tryz.laysM171 : Go.Proofs.LaysM.n171 Tryz.prog Tryz.laysM171_ren := {
  mixed := by kernel_rfl
  f129 := Tryz.func163.trans (congrArg some (by kernel_rfl))
  f171 := Tryz.func118.trans (congrArg some (by kernel_rfl))
  f243 := Tryz.func147.trans (congrArg some (by kernel_rfl))
  f246 := Tryz.func171.trans (congrArg some (by kernel_rfl))
  f283 := Tryz.func202.trans (congrArg some (by kernel_rfl))
  f284 := Tryz.func203.trans (congrArg some (by kernel_rfl))
  f285 := Tryz.func204.trans (congrArg some (by kernel_rfl))
  f286 := Tryz.func205.trans (congrArg some (by kernel_rfl))
  f317 := Tryz.func219.trans (congrArg some (by kernel_rfl))
  f318 := Tryz.func220.trans (congrArg some (by kernel_rfl))
  f319 := Tryz.func221.trans (congrArg some (by kernel_rfl))
  f320 := Tryz.func222.trans (congrArg some (by kernel_rfl))
  f337 := Tryz.func227.trans (congrArg some (by kernel_rfl))
  f338 := Tryz.func228.trans (congrArg some (by kernel_rfl))
  t0 := Tryz.underlying0
  a0 := Tryz.isAgg0
  z0 := Tryz.sizeOf0
  v0 := Tryz.zeroValue0
  t2 := Tryz.underlying2
  a2 := Tryz.isAgg2
  z2 := Tryz.sizeOf2
  v2 := Tryz.zeroValue2
  t3 := Tryz.underlying3
  a3 := Tryz.isAgg3
  z3 := Tryz.sizeOf3
  v3 := Tryz.zeroValue3
  t4 := Tryz.underlying4
  a4 := Tryz.isAgg4
  z4 := Tryz.sizeOf4
  v4 := Tryz.zeroValue4
  t5 := Tryz.underlying5
  a5 := Tryz.isAgg5
  z5 := Tryz.sizeOf5
  v5 := Tryz.zeroValue5
  t9 := Tryz.underlying9
  a9 := Tryz.isAgg9
  z9 := Tryz.sizeOf9
  v9 := Tryz.zeroValue9
  t20 := Tryz.underlying20
  a20 := Tryz.isAgg20
  z20 := Tryz.sizeOf20
  v20 := Tryz.zeroValue20
  t37 := Tryz.underlying154
  a37 := Tryz.isAgg154
  z37 := Tryz.sizeOf154
  v37 := Tryz.zeroValue154
  t46 := Tryz.underlying174
  a46 := Tryz.isAgg174
  z46 := Tryz.sizeOf174
  v46 := Tryz.zeroValue174
  t51 := Tryz.underlying202
  a51 := Tryz.isAgg202
  z51 := Tryz.sizeOf202
  v51 := Tryz.zeroValue202
  t53 := Tryz.underlying204
  a53 := Tryz.isAgg204
  z53 := Tryz.sizeOf204
  v53 := Tryz.zeroValue204
  t171 := Tryz.underlying238
  a171 := Tryz.isAgg238
  z171 := Tryz.sizeOf238
  v171 := Tryz.zeroValue238
  t173 := Tryz.underlying240
  a173 := Tryz.isAgg240
  z173 := Tryz.sizeOf240
  v173 := Tryz.zeroValue240
  t212 := Tryz.underlying254
  a212 := Tryz.isAgg254
  z212 := Tryz.sizeOf254
  v212 := Tryz.zeroValue254
  t213 := Tryz.underlying255
  a213 := Tryz.isAgg255
  z213 := Tryz.sizeOf255
  t232 := Tryz.underlying258
  a232 := Tryz.isAgg258
  z232 := Tryz.sizeOf258
  v232 := Tryz.zeroValue258
  t233 := Tryz.underlying259
  a233 := Tryz.isAgg259
  z233 := Tryz.sizeOf259
  v233 := Tryz.zeroValue259
  g17 := by kernel_rfl
  g18 := by kernel_rfl
  g19 := by kernel_rfl
  i0 := by kernel_rfl
  i2 := by kernel_rfl
  i3 := by kernel_rfl
  i4 := by kernel_rfl
  i5 := by kernel_rfl
  i9 := by kernel_rfl
  i20 := by kernel_rfl
  i37 := by kernel_rfl
  i46 := by kernel_rfl
  i51 := by kernel_rfl
  i53 := by kernel_rfl
  i171 := by kernel_rfl
  i173 := by kernel_rfl
  i212 := by kernel_rfl
  i232 := by kernel_rfl
  i233 := by kernel_rfl
  m17 := by kernel_rfl
  m18 := by kernel_rfl
  m19 := by kernel_rfl }
open Go.RowKit Go.Sort Go.Lib in
/-- strconv.Itoa: "Itoa is equivalent to FormatInt(int64(i), 10).": i's DECIMAL NUMERAL ('Lib.itoa': a '-' where i is negative, then the digits), FOR EVERY int. The world behind the call: the world before it, new blocks behind the heap (the library's 'var a [24]byte'), draws. (LAID: no walk: one application.) -/
theorem Tryz.strconv_Itoa (n : Int) (h0 : -9223372036854775808 ≤ n) (h1 : n ≤ 9223372036854775807) (w : World) (htab : Lib.TabIs Tryz.prog w "internal/strconv.uint64pow10" .u64 Lib.pow10Tab) :
    Calls Tryz.prog 118 #[.int .i64 n] w fun e w' => e = .returned (.string ⟨(Lib.itoa n).toArray⟩) ∧ ∃ k os, w' = grow (w.drewN k) os := Any.strconv_Itoa Tryz.laysM171 n h0 h1 w htab
def Tryz.lays171_ren : Go.Shelf.Ren := ⟨fun | 171 => 118 | 243 => 147 | 246 => 171 | 283 => 202 | 284 => 203 | 285 => 204 | 286 => 205 | 129 => 163 | 317 => 219 | 318 => 220 | 319 => 221 | 320 => 222 | 337 => 227 | 338 => 228 | n => n, fun | 3 => 3 | 9 => 9 | 2 => 2 | 4 => 4 | 171 => 238 | 0 => 0 | 53 => 204 | 37 => 154 | 5 => 5 | 173 => 240 | 212 => 254 | 51 => 202 | 20 => 20 | 213 => 255 | 46 => 174 | 232 => 258 | 233 => 259 | n => n, fun | 17 => 0 | 18 => 1 | 19 => 2 | n => n⟩
theorem Tryz.lays171 : Go.Proofs.Lays.n171 Tryz.prog Tryz.lays171_ren := {
  mixed := by kernel_rfl
  f129 := Tryz.func163.trans (congrArg some (by kernel_rfl))
  f171 := Tryz.func118.trans (congrArg some (by kernel_rfl))
  f243 := Tryz.func147.trans (congrArg some (by kernel_rfl))
  f246 := Tryz.func171.trans (congrArg some (by kernel_rfl))
  f283 := Tryz.func202.trans (congrArg some (by kernel_rfl))
  f284 := Tryz.func203.trans (congrArg some (by kernel_rfl))
  f285 := Tryz.func204.trans (congrArg some (by kernel_rfl))
  f286 := Tryz.func205.trans (congrArg some (by kernel_rfl))
  f317 := Tryz.func219.trans (congrArg some (by kernel_rfl))
  f318 := Tryz.func220.trans (congrArg some (by kernel_rfl))
  f319 := Tryz.func221.trans (congrArg some (by kernel_rfl))
  f320 := Tryz.func222.trans (congrArg some (by kernel_rfl))
  f337 := Tryz.func227.trans (congrArg some (by kernel_rfl))
  f338 := Tryz.func228.trans (congrArg some (by kernel_rfl))
  t0 := Tryz.underlying0
  a0 := Tryz.isAgg0
  z0 := Tryz.sizeOf0
  v0 := Tryz.zeroValue0
  t2 := Tryz.underlying2
  a2 := Tryz.isAgg2
  z2 := Tryz.sizeOf2
  v2 := Tryz.zeroValue2
  t3 := Tryz.underlying3
  a3 := Tryz.isAgg3
  z3 := Tryz.sizeOf3
  v3 := Tryz.zeroValue3
  t4 := Tryz.underlying4
  a4 := Tryz.isAgg4
  z4 := Tryz.sizeOf4
  v4 := Tryz.zeroValue4
  t5 := Tryz.underlying5
  a5 := Tryz.isAgg5
  z5 := Tryz.sizeOf5
  v5 := Tryz.zeroValue5
  t9 := Tryz.underlying9
  a9 := Tryz.isAgg9
  z9 := Tryz.sizeOf9
  v9 := Tryz.zeroValue9
  t20 := Tryz.underlying20
  a20 := Tryz.isAgg20
  z20 := Tryz.sizeOf20
  v20 := Tryz.zeroValue20
  t37 := Tryz.underlying154
  a37 := Tryz.isAgg154
  z37 := Tryz.sizeOf154
  v37 := Tryz.zeroValue154
  t46 := Tryz.underlying174
  a46 := Tryz.isAgg174
  z46 := Tryz.sizeOf174
  v46 := Tryz.zeroValue174
  t51 := Tryz.underlying202
  a51 := Tryz.isAgg202
  z51 := Tryz.sizeOf202
  v51 := Tryz.zeroValue202
  t53 := Tryz.underlying204
  a53 := Tryz.isAgg204
  z53 := Tryz.sizeOf204
  v53 := Tryz.zeroValue204
  t171 := Tryz.underlying238
  a171 := Tryz.isAgg238
  z171 := Tryz.sizeOf238
  v171 := Tryz.zeroValue238
  t173 := Tryz.underlying240
  a173 := Tryz.isAgg240
  z173 := Tryz.sizeOf240
  v173 := Tryz.zeroValue240
  t212 := Tryz.underlying254
  a212 := Tryz.isAgg254
  z212 := Tryz.sizeOf254
  v212 := Tryz.zeroValue254
  t213 := Tryz.underlying255
  a213 := Tryz.isAgg255
  z213 := Tryz.sizeOf255
  t232 := Tryz.underlying258
  a232 := Tryz.isAgg258
  z232 := Tryz.sizeOf258
  v232 := Tryz.zeroValue258
  t233 := Tryz.underlying259
  a233 := Tryz.isAgg259
  z233 := Tryz.sizeOf259
  v233 := Tryz.zeroValue259
  g17 := by kernel_rfl
  g18 := by kernel_rfl
  g19 := by kernel_rfl }
open Go.RowKit Go.Sort Go.Lib in
/-- THE ROAD WITHOUT THE TABLE: 0 <= i < 100: NO PREMISE ON THE WORLD, AND THE WORLD IS AS IT WAS: a row that keeps its argument in that range need list no table ('laid = []'). (LAID: no walk: one application.) -/
theorem Tryz.strconv_Itoa_small (i : Nat) (hi : i < 100) (w : World) :
    Calls Tryz.prog 118 #[.int .i64 i] w fun e w' => e = .returned (.string ⟨(Lib.decDigits i).toArray⟩) ∧ w' = w := Any.strconv_Itoa_small Tryz.lays171 i hi w
def Tryz.lays113_ren : Go.Shelf.Ren := ⟨fun | 113 => 45 | n => n, fun | 28 => 33 | 3 => 3 | 4 => 4 | 9 => 9 | 20 => 20 | 0 => 0 | n => n, fun | n => n⟩
theorem Tryz.lays113 : Go.Proofs.Lays.n113 Tryz.prog Tryz.lays113_ren := {
  mixed := by kernel_rfl
  f113 := Tryz.func45.trans (congrArg some (by kernel_rfl))
  t0 := Tryz.underlying0
  a0 := Tryz.isAgg0
  z0 := Tryz.sizeOf0
  v0 := Tryz.zeroValue0
  t3 := Tryz.underlying3
  a3 := Tryz.isAgg3
  z3 := Tryz.sizeOf3
  v3 := Tryz.zeroValue3
  t4 := Tryz.underlying4
  a4 := Tryz.isAgg4
  z4 := Tryz.sizeOf4
  v4 := Tryz.zeroValue4
  t9 := Tryz.underlying9
  a9 := Tryz.isAgg9
  z9 := Tryz.sizeOf9
  v9 := Tryz.zeroValue9
  t20 := Tryz.underlying20
  a20 := Tryz.isAgg20
  z20 := Tryz.sizeOf20
  v20 := Tryz.zeroValue20
  t28 := Tryz.underlying33
  a28 := Tryz.isAgg33
  z28 := Tryz.sizeOf33
  v28 := Tryz.zeroValue33 }
open Go.Lib in
/-- slices.Max at []int: "Max returns the maximal value in x. It panics if x is empty.": OF A SLICE THAT IS NOT EMPTY IT RETURNS 'Lib.maxOf (the elements)'; the world is as it was. (Of an empty one it panics: no contract here.) (LAID: no walk: one application.) -/
theorem Tryz.slices_Max_int (b off n c : Nat) (zs : List Int) (w : World) (hn : 0 < n) (hz : n ≤ zs.length) (hbig : n ≤ 9223372036854775807) (hc : ∀ j, j < zs.length → w.cell? ⟨b, off + j, none⟩ = some (.int .i64 (zs.getD j 0))) :
    Calls Tryz.prog 45 #[.slice (some ⟨b, off, none⟩) n c] w fun e w' => e = .returned (.int .i64 (Lib.maxOf (zs.take n))) ∧ w' = w := Any.slices_Max_int Tryz.lays113 b off n c zs w hn hz hbig hc
end Go.Proofs

/- What tells facts apart: each text behind its length; facts in a map by it. Nothing of the program. -/
namespace Go.Proofs.YtbohggoeebhdmaaGreatDoor
open Go.RowKit Go.Sort Go.Maps

theorem digit_val {a : Nat} (h : a < 10) : (UInt8.ofNat (48 + a)).toNat = 48 + a := by
  rw [UInt8.toNat_ofNat']; exact Nat.mod_eq_of_lt (by omega)

theorem decDigits_ne (u : Nat) : Lib.decDigits u ≠ [] := by
  rw [Lib.decDigits]
  split <;> simp

theorem decDigits_inj : ∀ (u v : Nat), Lib.decDigits u = Lib.decDigits v → u = v := by
  intro u
  induction u using Nat.strongRecOn with
  | ind u ih =>
    intro v h
    rw [Lib.decDigits, Lib.decDigits.eq_1 v] at h
    split at h <;> split at h
    · rename_i h1 h2
      have := List.cons.inj h
      have := congrArg UInt8.toNat this.1
      rw [digit_val h1, digit_val h2] at this
      omega
    · rename_i h1 h2
      have := congrArg List.length h
      have h3 := List.length_pos_iff.2 (decDigits_ne (v / 10))
      rw [List.length_append, List.length_singleton, List.length_singleton] at this; omega
    · rename_i h1 h2
      have := congrArg List.length h
      have h3 := List.length_pos_iff.2 (decDigits_ne (u / 10))
      rw [List.length_append, List.length_singleton, List.length_singleton] at this; omega
    · rename_i h1 h2
      obtain ⟨h3, h4⟩ := List.append_inj' h rfl
      have h5 := ih (u / 10) (by omega) (v / 10) h3
      have h6 := congrArg UInt8.toNat (List.cons.inj h4).1
      rw [digit_val (Nat.mod_lt _ (by omega)), digit_val (Nat.mod_lt _ (by omega))] at h6
      omega

theorem decDigits_no32 : ∀ (u : Nat), (32 : UInt8) ∉ Lib.decDigits u := by
  intro u
  induction u using Nat.strongRecOn with
  | ind u ih =>
    have key : ∀ a, a < 10 → (32 : UInt8) ≠ UInt8.ofNat (48 + a) := fun a ha e => by
      have := congrArg UInt8.toNat e
      rw [digit_val ha] at this
      have h32 : (32 : UInt8).toNat = 32 := rfl
      omega
    rw [Lib.decDigits]
    split
    · rename_i h
      simp only [List.mem_singleton]
      exact key u h
    · rename_i h
      rw [List.mem_append]
      rintro (h1 | h1)
      · exact ih (u / 10) (by omega) h1
      · simp only [List.mem_singleton] at h1
        exact key _ (Nat.mod_lt _ (by omega)) h1

theorem cut32 : ∀ {a b x y : Bs}, 32 ∉ a → 32 ∉ b → a ++ 32 :: x = b ++ 32 :: y → a = b ∧ x = y
  | [], [], x, y, _, _, h => ⟨rfl, (List.cons.inj h).2⟩
  | [], c :: b, x, y, _, hb, h => by
    have := (List.cons.inj h).1
    exact absurd (by rw [this]; simp) hb
  | c :: a, [], x, y, ha, _, h => by
    have := (List.cons.inj h).1
    exact absurd (by rw [← this]; simp) ha
  | c :: a, d :: b, x, y, ha, hb, h => by
    obtain ⟨h1, h2⟩ := List.cons.inj h
    obtain ⟨h3, h4⟩ := cut32 (a := a) (b := b) (fun h => ha (by simp [h])) (fun h => hb (by simp [h])) h2
    exact ⟨by rw [h1, h3], h4⟩

/-- A text behind its length. -/
def partK (s : Bs) : Bs := Lib.decDigits s.length ++ 32 :: s
theorem partK_cut {s t x y : Bs} (h : partK s ++ x = partK t ++ y) : s = t ∧ x = y := by
  unfold partK at h
  rw [List.append_assoc, List.append_assoc, List.cons_append, List.cons_append] at h
  obtain ⟨h1, h2⟩ := cut32 (decDigits_no32 _) (decDigits_no32 _) h
  exact List.append_inj h2 (decDigits_inj _ _ h1)

def partsK : List ByteArray → Bs
  | [] => []
  | s :: l => partK (raw s) ++ partsK l
theorem partsK_inj : ∀ {l m : List ByteArray}, partsK l = partsK m → l = m
  | [], [], _ => rfl
  | [], s :: m, h => by simp [partsK, partK] at h
  | s :: l, [], h => by simp [partsK, partK] at h
  | s :: l, t :: m, h => by
    obtain ⟨h1, h2⟩ := partK_cut h
    rw [← bs_raw s, h1, bs_raw, partsK_inj h2]
theorem partsK_append : ∀ (l m : List ByteArray), partsK (l ++ m) = partsK l ++ partsK m
  | [], m => rfl
  | s :: l, m => by simp [partsK, partsK_append l m]

/-- What tells a fact apart. -/
def keyF (f : FactB) : Bs := partsK (f.1 :: f.2)
theorem keyF_inj {f g : FactB} (h : keyF f = keyF g) : f = g := by
  have := partsK_inj h
  obtain ⟨h1, h2⟩ := List.cons.inj this
  exact Prod.ext h1 h2

/-! ### facts in a map -/

/-- A fact's two cells. -/
abbrev Two := ByteArray × Option Addr × Nat × Nat
def encT (x : Two) : Value := .agg #[.string x.1, .slice x.2.1 x.2.2.1 x.2.2.2]
def twoOf (v : Value) : Option Two := match v with
  | .agg a => match a.toList with
    | [.string s, .slice p n c] => some (s, p, n, c)
    | _ => none
  | _ => none
theorem twoOf_enc (x : Two) : twoOf (encT x) = some x := rfl
theorem twoOf_inv {v : Value} {x : Two} (h : twoOf v = some x) : v = encT x := by
  unfold twoOf at h
  split at h
  · rename_i a
    obtain ⟨l, rfl⟩ : ∃ l : List Value, a = l.toArray := ⟨a.toList, by simp⟩
    simp only at h
    split at h
    · cases h
      rfl
    · cases h
  · cases h
/-- How such a value reads: as it is. -/
def twoElem (v : Value) : Option (DataW Two × List MemPlace) := (twoOf v).map fun x => (.held x, [])
theorem twoElem_mk (x : Two) : twoElem (encT x) = some (.held x, []) := rfl
theorem twoElem_inv {v : Value} {z : DataW Two × List MemPlace} (h : twoElem v = some z) : ∃ x, v = encT x ∧ z = (.held x, []) := by
  unfold twoElem at h
  cases e : twoOf v with
  | none => rw [e] at h; cases h
  | some x => rw [e] at h; cases h; exact ⟨x, twoOf_inv e, rfl⟩

theorem encT_inj {x y : Two} (h : encT x = encT y) : x = y := by
  have := twoOf_enc x
  rw [h, twoOf_enc] at this
  exact (Option.some.inj this).symm

theorem factV_two {w : World} {v : Value} {f : FactD} (h : FactV w v f) : ∃ x, v = encT x := by
  obtain ⟨s, rfl, hs⟩ := h
  obtain ⟨a, c, rfl⟩ := sliceStr hs
  exact ⟨(f.1, a, _, c), rfl⟩

/-- Block b holds facts, each by what tells it apart: those of L. -/
def KnownM (P : Program) (K : TypeId) (w : World) (b n : Nat) (L : List FactB) : Prop :=
  ∃ D : DataW Two, w.ownsMap P K twoElem b n D ∧ (∀ s, Maps.has D (.string s) = true ↔ ∃ f ∈ L, keyF f = s) ∧ (∀ f ∈ L, ∃ x, D.atKey (.string (keyF f)) .nil = .held x ∧ FactV w (encT x) f) ∧ Maps.size D = (setF L).length

theorem KnownM.made (P : Program) (K : TypeId) (w : World) : KnownM P K (w.alloc (.map #[] 0)) w.heap.size 0 [] :=
  ⟨.map [], World.ownsMap_made _ _ _ _, fun s => by simp [Maps.has], fun f hf => (by cases hf), by simp [Maps.size, setF, dropTwice, sortBy]⟩

section
variable {P : Program} {K : TypeId} {w w' : World} {b n : Nat} {L : List FactB}
theorem KnownM.lt (h : KnownM P K w b n L) : b < w.heap.size := by obtain ⟨D, h, _⟩ := h; exact h.lt
theorem KnownM.later (h : KnownM P K w b n L) (k : Later w w') : KnownM P K w' b n L := by
  obtain ⟨D, h, h1, h2, h3⟩ := h
  exact ⟨D, owns_block h (k.block h.lt), h1, fun f hf => by obtain ⟨x, e, hx⟩ := h2 f hf; exact ⟨x, e, hx.later k⟩, h3⟩
theorem KnownM.mono (h : KnownM P K w b n L) {n' : Nat} (hn : n ≤ n') : KnownM P K w b n' L := by obtain ⟨D, h, hf⟩ := h; exact ⟨D, h.mono hn, hf⟩
theorem KnownM.few (h : KnownM P K w b n L) : (setF L).length ≤ n := by obtain ⟨D, h, _, _, h3⟩ := h; rw [← h3]; exact h.size_le

theorem setF_more {L : List FactB} {f : FactB} : (setF (L ++ [f])).length = if inB L f then (setF L).length else (setF L).length + 1 := by
  split
  · rename_i h
    have h := inB_iff.1 h
    rw [setF_congr (l := L ++ [f]) (m := L) fun g => by
      rw [List.mem_append, List.mem_singleton]
      exact ⟨fun h' => h'.elim id (fun e => by rw [e]; exact h), Or.inl⟩]
  · rename_i h
    have h : f ∉ L := fun h' => h (inB_iff.2 h')
    have h1 : (f :: setF L).Nodup := List.nodup_cons.2 ⟨fun h' => h (mem_setF.1 h'), up_nodup (setF_up L)⟩
    have e : ∀ g, g ∈ setF (L ++ [f]) ↔ g ∈ f :: setF L := fun g => by
      rw [mem_setF, List.mem_append, List.mem_singleton, List.mem_cons, mem_setF]
      exact ⟨fun h => h.symm, fun h => h.symm⟩
    have a := sub_len (up_nodup (setF_up (L ++ [f]))) fun g hg => (e g).1 hg
    have b := sub_len h1 fun g hg => (e g).2 hg
    simp only [List.length_cons] at a b
    omega

theorem KnownM.store {E T : TypeId} (h : KnownM P K w b n L) (hk : P.underlying K = some .string) (ht : P.underlying T = some (.map K E)) (hn : n < maxLen) {f : FactB} {v : Value} (hv : FactV w v f) (hf : (keyF f).length ≤ maxLen) :
    ∃ w', (Instr.mapUpdate T (.map (some b)) (.string (bs (keyF f))) v).run P w = .ok () w' ∧ w.grownBy w' (some b) ∧ ((∀ g ∈ L ++ [f], ∀ u, FactV w u g → FactV w' u g) → KnownM P K w' b (n + 1) (L ++ [f])) := by
  obtain ⟨D, hown, h1, h2, h3⟩ := h
  obtain ⟨x, rfl⟩ := factV_two hv
  obtain ⟨w', hrun, r1, r2⟩ := hown.update (string_keyed hk) ht hn (key_mk hk hf) (twoElem_mk x)
  have hhas : Maps.has D (.string (keyF f)) = inB L f := by
    cases e : inB L f with
    | true => exact (h1 _).2 ⟨f, inB_iff.1 e, rfl⟩
    | false =>
      cases e2 : Maps.has D (.string (keyF f)) with
      | false => rfl
      | true =>
        obtain ⟨g, hg, hgf⟩ := (h1 _).1 e2
        rw [keyF_inj hgf] at hg
        rw [inB_iff.2 hg] at e; cases e
  refine ⟨w', hrun, r2, fun hkeep => ⟨_, r1, fun s => ?_, fun g hg => ?_, ?_⟩⟩
  · by_cases e : s = keyF f
    · subst e
      rw [has_put_same hown.isMap (keyS _)]
      simp only [true_iff]
      exact ⟨f, by simp, rfl⟩
    · rw [has_put_other (str_ne e), h1]
      constructor
      · rintro ⟨g, hg, hs⟩; exact ⟨g, by simp [hg], hs⟩
      · rintro ⟨g, hg, hs⟩
        rcases List.mem_append.1 hg with hg | hg
        · exact ⟨g, hg, hs⟩
        · simp only [List.mem_singleton] at hg
          subst hg; exact absurd hs.symm e
  · by_cases e : g = f
    · subst e
      exact ⟨x, by rw [atKey_put_same hown.isMap (keyS _)], hkeep g hg _ hv⟩
    · have hgL : g ∈ L := (List.mem_append.1 hg).elim id (fun h => absurd (List.mem_singleton.1 h) e)
      obtain ⟨y, hy, hfy⟩ := h2 g hgL
      exact ⟨y, by rw [atKey_put_other (str_ne fun h => e (keyF_inj h))]; exact hy, hkeep g hg _ hfy⟩
  · rw [size_put (hown.tidy (string_keyed hk)), hhas, setF_more, h3]

theorem KnownM.len {E T : TypeId} (h : KnownM P K w b n L) (ht : P.underlying T = some (.map K E)) (ty : TypeId) : (Builtin.len_ #[T] ty #[.map (some b)]).run P w = .ok (.int .i64 ((setF L).length : Nat)) w := by
  obtain ⟨D, hown, _, _, h3⟩ := h
  rw [hown.len ht, h3]
end

end Go.Proofs.YtbohggoeebhdmaaGreatDoor
