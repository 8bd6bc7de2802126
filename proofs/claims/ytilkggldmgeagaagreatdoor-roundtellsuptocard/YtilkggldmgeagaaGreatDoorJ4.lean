/- Texts of this claim, one behind the other. -/
import Derived.Lib.ItoaNum
import Derived.Test.YtilkggldmgeagaaGreatDoorJ2
import Derived.Test.YtilkggldmgeagaaGreatDoorJ3
import Derived.Test.YtilkggldmgeagaaGreatDoorChecked
import Derived.WalkKit
import Derived.WalkSpells
import Derived.WalkLawsBesides
import Derived.Shelf.SlSortCmp.QuietGrown
import Derived.Deep.QuietTactic
import Derived.BigQuiet
/- What tells facts apart: each text behind its length; facts in a map by it. Nothing of the program. -/
namespace Go.Proofs.YtilkggldmgeagaaGreatDoor
open Go.RowKit Go.Sort Go.Maps

theorem digit_val {a : Nat} (h : a < 10) : (UInt8.ofNat (48 + a)).toNat = 48 + a := by
  rw [UInt8.toNat_ofNat']; exact Nat.mod_eq_of_lt (by omega)

theorem decDigits_ne (u : Nat) : Lib.decDigits u ≠ [] := by
  rw [Lib.decDigits]
  split <;> simp

theorem decDigits_inj : ∀ (u v : Nat), Lib.decDigits u = Lib.decDigits v → u = v := by
  intro u
  induction u using Nat.strongRecOn with
  | ind u ih =>
    intro v h
    rw [Lib.decDigits, Lib.decDigits.eq_1 v] at h
    split at h <;> split at h
    · rename_i h1 h2
      have := List.cons.inj h
      have := congrArg UInt8.toNat this.1
      rw [digit_val h1, digit_val h2] at this
      omega
    · rename_i h1 h2
      have := congrArg List.length h
      have h3 := List.length_pos_iff.2 (decDigits_ne (v / 10))
      rw [List.length_append, List.length_singleton, List.length_singleton] at this; omega
    · rename_i h1 h2
      have := congrArg List.length h
      have h3 := List.length_pos_iff.2 (decDigits_ne (u / 10))
      rw [List.length_append, List.length_singleton, List.length_singleton] at this; omega
    · rename_i h1 h2
      obtain ⟨h3, h4⟩ := List.append_inj' h rfl
      have h5 := ih (u / 10) (by omega) (v / 10) h3
      have h6 := congrArg UInt8.toNat (List.cons.inj h4).1
      rw [digit_val (Nat.mod_lt _ (by omega)), digit_val (Nat.mod_lt _ (by omega))] at h6
      omega

theorem decDigits_no32 : ∀ (u : Nat), (32 : UInt8) ∉ Lib.decDigits u := by
  intro u
  induction u using Nat.strongRecOn with
  | ind u ih =>
    have key : ∀ a, a < 10 → (32 : UInt8) ≠ UInt8.ofNat (48 + a) := fun a ha e => by
      have := congrArg UInt8.toNat e
      rw [digit_val ha] at this
      have h32 : (32 : UInt8).toNat = 32 := rfl
      omega
    rw [Lib.decDigits]
    split
    · rename_i h
      simp only [List.mem_singleton]
      exact key u h
    · rename_i h
      rw [List.mem_append]
      rintro (h1 | h1)
      · exact ih (u / 10) (by omega) h1
      · simp only [List.mem_singleton] at h1
        exact key _ (Nat.mod_lt _ (by omega)) h1

theorem cut32 : ∀ {a b x y : Bs}, 32 ∉ a → 32 ∉ b → a ++ 32 :: x = b ++ 32 :: y → a = b ∧ x = y
  | [], [], x, y, _, _, h => ⟨rfl, (List.cons.inj h).2⟩
  | [], c :: b, x, y, _, hb, h => by
    have := (List.cons.inj h).1
    exact absurd (by rw [this]; simp) hb
  | c :: a, [], x, y, ha, _, h => by
    have := (List.cons.inj h).1
    exact absurd (by rw [← this]; simp) ha
  | c :: a, d :: b, x, y, ha, hb, h => by
    obtain ⟨h1, h2⟩ := List.cons.inj h
    obtain ⟨h3, h4⟩ := cut32 (a := a) (b := b) (fun h => ha (by simp [h])) (fun h => hb (by simp [h])) h2
    exact ⟨by rw [h1, h3], h4⟩

def partK (s : Bs) : Bs := Lib.decDigits s.length ++ 32 :: s
theorem partK_cut {s t x y : Bs} (h : partK s ++ x = partK t ++ y) : s = t ∧ x = y := by
  unfold partK at h
  rw [List.append_assoc, List.append_assoc, List.cons_append, List.cons_append] at h
  obtain ⟨h1, h2⟩ := cut32 (decDigits_no32 _) (decDigits_no32 _) h
  exact List.append_inj h2 (decDigits_inj _ _ h1)

def partsK : List ByteArray → Bs
  | [] => []
  | s :: l => partK (raw s) ++ partsK l
theorem partsK_inj : ∀ {l m : List ByteArray}, partsK l = partsK m → l = m
  | [], [], _ => rfl
  | [], s :: m, h => by simp [partsK, partK] at h
  | s :: l, [], h => by simp [partsK, partK] at h
  | s :: l, t :: m, h => by
    obtain ⟨h1, h2⟩ := partK_cut h
    rw [← bs_raw s, h1, bs_raw, partsK_inj h2]
theorem partsK_append : ∀ (l m : List ByteArray), partsK (l ++ m) = partsK l ++ partsK m
  | [], m => rfl
  | s :: l, m => by simp [partsK, partsK_append l m]

def keyF (f : FactB) : Bs := partsK (f.1 :: f.2)
theorem keyF_inj {f g : FactB} (h : keyF f = keyF g) : f = g := by
  have := partsK_inj h
  obtain ⟨h1, h2⟩ := List.cons.inj this
  exact Prod.ext h1 h2


abbrev Two := ByteArray × Option Addr × Nat × Nat
def encT (x : Two) : Value := .agg #[.string x.1, .slice x.2.1 x.2.2.1 x.2.2.2]
def twoOf (v : Value) : Option Two := match v with
  | .agg a => match a.toList with
    | [.string s, .slice p n c] => some (s, p, n, c)
    | _ => none
  | _ => none
theorem twoOf_enc (x : Two) : twoOf (encT x) = some x := rfl
theorem twoOf_inv {v : Value} {x : Two} (h : twoOf v = some x) : v = encT x := by
  unfold twoOf at h
  split at h
  · rename_i a
    obtain ⟨l, rfl⟩ : ∃ l : List Value, a = l.toArray := ⟨a.toList, by simp⟩
    simp only at h
    split at h
    · cases h
      rfl
    · cases h
  · cases h
def twoElem (v : Value) : Option (DataW Two × List MemPlace) := (twoOf v).map fun x => (.held x, [])
theorem twoElem_mk (x : Two) : twoElem (encT x) = some (.held x, []) := rfl
theorem twoElem_inv {v : Value} {z : DataW Two × List MemPlace} (h : twoElem v = some z) : ∃ x, v = encT x ∧ z = (.held x, []) := by
  unfold twoElem at h
  cases e : twoOf v with
  | none => rw [e] at h; cases h
  | some x => rw [e] at h; cases h; exact ⟨x, twoOf_inv e, rfl⟩

theorem encT_inj {x y : Two} (h : encT x = encT y) : x = y := by
  have := twoOf_enc x
  rw [h, twoOf_enc] at this
  exact (Option.some.inj this).symm

theorem factV_two {w : World} {v : Value} {f : FactD} (h : FactV w v f) : ∃ x, v = encT x := by
  obtain ⟨s, rfl, hs⟩ := h
  obtain ⟨a, c, rfl⟩ := sliceStr hs
  exact ⟨(f.1, a, _, c), rfl⟩

def KnownM (P : Program) (K : TypeId) (w : World) (b n : Nat) (L : List FactB) : Prop :=
  ∃ D : DataW Two, w.ownsMap P K twoElem b n D ∧ (∀ s, Maps.has D (.string s) = true ↔ ∃ f ∈ L, keyF f = s) ∧ (∀ f ∈ L, ∃ x, D.atKey (.string (keyF f)) .nil = .held x ∧ FactV w (encT x) f) ∧ Maps.size D = (setF L).length

theorem KnownM.made (P : Program) (K : TypeId) (w : World) : KnownM P K (w.alloc (.map #[] 0)) w.heap.size 0 [] :=
  ⟨.map [], World.ownsMap_made _ _ _ _, fun s => by simp [Maps.has], fun f hf => (by cases hf), by simp [Maps.size, setF, dropTwice, sortBy]⟩

section
variable {P : Program} {K : TypeId} {w w' : World} {b n : Nat} {L : List FactB}
theorem KnownM.lt (h : KnownM P K w b n L) : b < w.heap.size := by obtain ⟨D, h, _⟩ := h; exact h.lt
theorem KnownM.later (h : KnownM P K w b n L) (k : Later w w') : KnownM P K w' b n L := by
  obtain ⟨D, h, h1, h2, h3⟩ := h
  exact ⟨D, owns_block h (k.block h.lt), h1, fun f hf => by obtain ⟨x, e, hx⟩ := h2 f hf; exact ⟨x, e, hx.later k⟩, h3⟩
theorem KnownM.mono (h : KnownM P K w b n L) {n' : Nat} (hn : n ≤ n') : KnownM P K w b n' L := by obtain ⟨D, h, hf⟩ := h; exact ⟨D, h.mono hn, hf⟩
theorem KnownM.few (h : KnownM P K w b n L) : (setF L).length ≤ n := by obtain ⟨D, h, _, _, h3⟩ := h; rw [← h3]; exact h.size_le

theorem setF_more {L : List FactB} {f : FactB} : (setF (L ++ [f])).length = if inB L f then (setF L).length else (setF L).length + 1 := by
  split
  · rename_i h
    have h := inB_iff.1 h
    rw [setF_congr (l := L ++ [f]) (m := L) fun g => by
      rw [List.mem_append, List.mem_singleton]
      exact ⟨fun h' => h'.elim id (fun e => by rw [e]; exact h), Or.inl⟩]
  · rename_i h
    have h : f ∉ L := fun h' => h (inB_iff.2 h')
    have h1 : (f :: setF L).Nodup := List.nodup_cons.2 ⟨fun h' => h (mem_setF.1 h'), up_nodup (setF_up L)⟩
    have e : ∀ g, g ∈ setF (L ++ [f]) ↔ g ∈ f :: setF L := fun g => by
      rw [mem_setF, List.mem_append, List.mem_singleton, List.mem_cons, mem_setF]
      exact ⟨fun h => h.symm, fun h => h.symm⟩
    have a := sub_len (up_nodup (setF_up (L ++ [f]))) fun g hg => (e g).1 hg
    have b := sub_len h1 fun g hg => (e g).2 hg
    simp only [List.length_cons] at a b
    omega

theorem KnownM.store {E T : TypeId} (h : KnownM P K w b n L) (hk : P.underlying K = some .string) (ht : P.underlying T = some (.map K E)) (hn : n < maxLen) {f : FactB} {v : Value} (hv : FactV w v f) (hf : (keyF f).length ≤ maxLen) :
    ∃ w', (Instr.mapUpdate T (.map (some b)) (.string (bs (keyF f))) v).run P w = .ok () w' ∧ w.grownBy w' (some b) ∧ ((∀ g ∈ L ++ [f], ∀ u, FactV w u g → FactV w' u g) → KnownM P K w' b (n + 1) (L ++ [f])) := by
  obtain ⟨D, hown, h1, h2, h3⟩ := h
  obtain ⟨x, rfl⟩ := factV_two hv
  obtain ⟨w', hrun, r1, r2⟩ := hown.update (string_keyed hk) ht hn (key_mk hk hf) (twoElem_mk x)
  have hhas : Maps.has D (.string (keyF f)) = inB L f := by
    cases e : inB L f with
    | true => exact (h1 _).2 ⟨f, inB_iff.1 e, rfl⟩
    | false =>
      cases e2 : Maps.has D (.string (keyF f)) with
      | false => rfl
      | true =>
        obtain ⟨g, hg, hgf⟩ := (h1 _).1 e2
        rw [keyF_inj hgf] at hg
        rw [inB_iff.2 hg] at e; cases e
  refine ⟨w', hrun, r2, fun hkeep => ⟨_, r1, fun s => ?_, fun g hg => ?_, ?_⟩⟩
  · by_cases e : s = keyF f
    · subst e
      rw [has_put_same hown.isMap (keyS _)]
      simp only [true_iff]
      exact ⟨f, by simp, rfl⟩
    · rw [has_put_other (str_ne e), h1]
      constructor
      · rintro ⟨g, hg, hs⟩; exact ⟨g, by simp [hg], hs⟩
      · rintro ⟨g, hg, hs⟩
        rcases List.mem_append.1 hg with hg | hg
        · exact ⟨g, hg, hs⟩
        · simp only [List.mem_singleton] at hg
          subst hg; exact absurd hs.symm e
  · by_cases e : g = f
    · subst e
      exact ⟨x, by rw [atKey_put_same hown.isMap (keyS _)], hkeep g hg _ hv⟩
    · have hgL : g ∈ L := (List.mem_append.1 hg).elim id (fun h => absurd (List.mem_singleton.1 h) e)
      obtain ⟨y, hy, hfy⟩ := h2 g hgL
      exact ⟨y, by rw [atKey_put_other (str_ne fun h => e (keyF_inj h))]; exact hy, hkeep g hg _ hfy⟩
  · rw [size_put (hown.tidy (string_keyed hk)), hhas, setF_more, h3]

theorem KnownM.len {E T : TypeId} (h : KnownM P K w b n L) (ht : P.underlying T = some (.map K E)) (ty : TypeId) : (Builtin.len_ #[T] ty #[.map (some b)]).run P w = .ok (.int .i64 ((setF L).length : Nat)) w := by
  obtain ⟨D, hown, _, _, h3⟩ := h
  rw [hown.len ht, h3]
end

end Go.Proofs.YtilkggldmgeagaaGreatDoor

/- The walks of cmp.Compare at texts and whole numbers, slices.Compare at texts, and fact.Compare. -/
namespace Go.Proofs.YtilkggldmgeagaaGreatDoor
open Go.RowKit Go.Sort

set_option maxHeartbeats 400000 in
theorem isNaNS (x : ByteArray) (w : World) : Calls Tryz.prog 100 #[.string x] w fun e w' => e = .returned (.bool false) ∧ w' = w := by
  go_enter Tryz.func100, Tryz.ntmps100
  go_wp2
  go_ret
  exact ⟨by simp, rfl⟩

set_option maxHeartbeats 400000 in
theorem isNaNI (x : Int) (w : World) : Calls Tryz.prog 101 #[.int .i64 x] w fun e w' => e = .returned (.bool false) ∧ w' = w := by
  go_enter Tryz.func101, Tryz.ntmps101
  go_wp2
  go_ret
  exact ⟨by simp, rfl⟩

set_option maxHeartbeats 400000 in
theorem compareS (x y : ByteArray) (w : World) : Calls Tryz.prog 75 #[.string x, .string y] w fun e w' => e = .returned (.int .i64 (cmpS x y)) ∧ w' = w := by
  unfold cmpS
  cases h : Op.bytesLess x.toList y.toList
  · cases h2 : (x.toList == y.toList)
    · go_enter Tryz.func75, Tryz.ntmps75
      go_wp2_with (go_at_call 100; refine (isNaNS _ _).mono ?_; rintro e w' ⟨rfl, rfl⟩)
      go_ret
      exact ⟨by simp, rfl⟩
    · go_enter Tryz.func75, Tryz.ntmps75
      go_wp2_with (go_at_call 100; refine (isNaNS _ _).mono ?_; rintro e w' ⟨rfl, rfl⟩)
      go_ret
      exact ⟨by simp, rfl⟩
  · go_enter Tryz.func75, Tryz.ntmps75
    go_wp2_with (go_at_call 100; refine (isNaNS _ _).mono ?_; rintro e w' ⟨rfl, rfl⟩)
    go_ret
    exact ⟨by simp, rfl⟩

set_option maxHeartbeats 400000 in
theorem compareI (x y : Int) (w : World) : Calls Tryz.prog 76 #[.int .i64 x, .int .i64 y] w fun e w' => e = .returned (.int .i64 (cmpI x y)) ∧ w' = w := by
  unfold cmpI
  by_cases h : x < y
  · go_enter Tryz.func76, Tryz.ntmps76
    go_wp2_with (go_at_call 101; refine (isNaNI _ _).mono ?_; rintro e w' ⟨rfl, rfl⟩)
    go_ret
    exact ⟨by simp, rfl⟩
  · by_cases h2 : y < x
    · go_enter Tryz.func76, Tryz.ntmps76
      go_wp2_with (go_at_call 101; refine (isNaNI _ _).mono ?_; rintro e w' ⟨rfl, rfl⟩)
      go_ret
      exact ⟨by simp, rfl⟩
    · go_enter Tryz.func76, Tryz.ntmps76
      go_wp2_with (go_at_call 101; refine (isNaNI _ _).mono ?_; rintro e w' ⟨rfl, rfl⟩)
      go_ret
      exact ⟨by simp, rfl⟩

set_option maxHeartbeats 400000 in
theorem sCompare_nil (a : Option Addr) (cap : Nat) (b : Option Addr) (n capb : Nat) (w : World) (hn : n ≤ 9223372036854775807) :
    Calls Tryz.prog 77 #[.slice a 0 cap, .slice b n capb] w fun e w' => e = .returned (.int .i64 (if 0 < n then -1 else 0)) ∧ w' = w := by
  by_cases h : 0 < n
  · rw [if_pos h]
    have h' : (0 : Int) < (n : Int) := by omega
    go_enter Tryz.func77, Tryz.ntmps77
    go_wp2
    refine wp_loop_rounds 1 ?_; rw [rounds_succ]
    go_wp2
    go_ret
    exact ⟨rfl, rfl⟩
  · rw [if_neg h]
    obtain rfl : n = 0 := by omega
    go_enter Tryz.func77, Tryz.ntmps77
    go_wp2
    refine wp_loop_rounds 1 ?_; rw [rounds_succ]
    go_wp2
    go_ret
    exact ⟨rfl, rfl⟩

set_option maxHeartbeats 400000 in
theorem sCompare_nil' (b off n cap : Nat) (a2 : Option Addr) (cap2 : Nat) (s0 : ByteArray) (w : World) (h0 : 0 < n) (hn : n ≤ 9223372036854775807) (hc : w.cell? ⟨b, off, none⟩ = some (.string s0)) :
    Calls Tryz.prog 77 #[.slice (some ⟨b, off, none⟩) n cap, .slice a2 0 cap2] w fun e w' => e = .returned (.int .i64 1) ∧ w' = w := by
  have h' : (0 : Int) < (n : Int) := by omega
  go_enter Tryz.func77, Tryz.ntmps77
  go_wp2
  refine wp_loop_rounds 1 ?_; rw [rounds_succ]
  go_wp2
  go_ret
  exact ⟨rfl, rfl⟩

set_option maxHeartbeats 1000000 in
theorem sCompare_both (b off cap b2 off2 cap2 : Nat) (x y : List ByteArray) (w : World) (hx : x.length ≤ 9223372036854775807) (_hy : y.length ≤ 9223372036854775807)
    (hc : ∀ i, i < x.length → w.cell? ⟨b, off + i, none⟩ = some (.string (x.getD i ByteArray.empty))) (hd : ∀ i, i < y.length → w.cell? ⟨b2, off2 + i, none⟩ = some (.string (y.getD i ByteArray.empty))) :
    Calls Tryz.prog 77 #[.slice (some ⟨b, off, none⟩) x.length cap, .slice (some ⟨b2, off2, none⟩) y.length cap2] w fun e w' => e = .returned (.int .i64 (cmpL x y)) ∧ w' = w := by
  have HC : Hid _ := hc
  have HD : Hid _ := hd
  clear hc hd
  go_enter Tryz.func77, Tryz.ntmps77
  go_wp2
  go_loop [11] (fun i => ∃ k : Nat, k ≤ x.length ∧ k ≤ y.length ∧ i = .int .i64 k ∧ Hid (cmpL x y = cmpL (x.drop k) (y.drop k))) (fun i => x.length - (intOf i).toNat)
  case atStart => exact ⟨0, Nat.zero_le _, Nat.zero_le _, rfl, (by simp : cmpL x y = cmpL (x.drop 0) (y.drop 0))⟩
  case round =>
    obtain ⟨k, hk, hk2, rfl, HE⟩ := hrel
    by_cases hlt : k < x.length
    · have h1 := HC.out k hlt
      by_cases hlt2 : k < y.length
      · have h2 := HD.out k hlt2
        have e := cmpL_drop x y k hlt hlt2
        generalize x.getD k ByteArray.empty = sx at *
        generalize y.getD k ByteArray.empty = sy at *
        have E : Hid _ := e
        clear e
        by_cases hz : cmpS sx sy = 0
        · go_wp2_with (go_at_call 75; refine (compareS _ _ _).mono ?_; rintro e w' ⟨rfl, rfl⟩; rw [hz])
          go_round
          case rel =>
            refine ⟨k + 1, by omega, by omega, by go_num, ?_⟩
            show cmpL x y = _
            rw [HE.out, E.out, if_neg (by omega)]
          case measure => simp [intOf]; omega
        · have hz' : (cmpS sx sy == 0) = false := by simpa using hz
          have F : Hid (cmpL x y = cmpS sx sy) := by show _ = _; rw [HE.out, E.out, if_pos hz]
          generalize hr : cmpS sx sy = r at *
          have R : Hid _ := hr
          clear hr
          go_wp2_with (go_at_call 75; refine (compareS _ _ _).mono ?_; rintro e w' ⟨rfl, rfl⟩; rw [R.out])
          go_ret
          exact ⟨ret_int F.out.symm, rfl⟩
      · have F : Hid (cmpL x y = 1) := by show _ = _; rw [HE.out, cmpL_drop_end' x y k hlt (by omega)]
        go_wp2
        go_ret
        exact ⟨ret_int F.out.symm, rfl⟩
    · have F : Hid (cmpL x y = if k < y.length then -1 else 0) := by show _ = _; rw [HE.out, cmpL_drop_end x y k (by omega)]
      obtain rfl : k = x.length := by omega
      by_cases hy2 : x.length < y.length
      · go_wp2
        go_ret
        exact ⟨ret_int (by rw [F.out, if_pos hy2]), rfl⟩
      · go_wp2
        go_ret
        exact ⟨ret_int (by rw [F.out, if_neg hy2]), rfl⟩

theorem sCompare (v1 v2 : Value) (x y : List ByteArray) (w : World) (h1 : Strs w v1 x) (h2 : Strs w v2 y) :
    Calls Tryz.prog 77 #[v1, v2] w fun e w' => e = .returned (.int .i64 (cmpL x y)) ∧ w' = w := by
  obtain ⟨l1, a1, c1, rfl, r1⟩ := h1
  obtain ⟨l2, a2, c2, rfl, r2⟩ := h2
  cases x with
  | nil =>
    have e : cmpL [] y = if 0 < y.length then -1 else 0 := by cases y <;> simp [cmpL]
    rw [e]
    exact sCompare_nil a1 c1 a2 y.length c2 w (by omega)
  | cons p x =>
    obtain ⟨b, off, rfl, _, hc⟩ := r1 (by simp)
    cases y with
    | nil => exact sCompare_nil' b off _ c1 a2 c2 p w (by simp) (by omega) (by simpa using hc 0 (by simp))
    | cons q y =>
      obtain ⟨b2, off2, rfl, _, hd⟩ := r2 (by simp)
      exact sCompare_both b off c1 b2 off2 c2 (p :: x) (q :: y) w (by omega) (by omega) hc hd

set_option maxHeartbeats 1000000 in
theorem compareF (v1 v2 : Value) (f g : FactD) (w : World) (h1 : FactV w v1 f) (h2 : FactV w v2 g) :
    Calls Tryz.prog 60 #[v1, v2] w fun e w' => e = .returned (.int .i64 (cmpF f g)) ∧ Later w w' := by
  obtain ⟨s1, rfl, k1⟩ := h1
  obtain ⟨s2, rfl, k2⟩ := h2
  have l1 := k1.1; have l2 := k2.1
  have hL : Hid (∀ w', Later w w' → Calls Tryz.prog 77 #[s1, s2] w' fun e w'' => e = .returned (.int .i64 (cmpL f.2 g.2)) ∧ w'' = w') := fun w' hw => sCompare s1 s2 _ _ w' (k1.later hw) (k2.later hw)
  obtain ⟨a1, c1, rfl⟩ := sliceStr k1
  obtain ⟨a2, c2, rfl⟩ := sliceStr k2
  clear k1 k2
  obtain ⟨n1, x⟩ := f
  obtain ⟨n2, y⟩ := g
  unfold cmpF
  dsimp only at *
  by_cases hz : cmpS n1 n2 = 0
  · by_cases hi : cmpI x.length y.length = 0
    · rw [if_neg (by omega), if_neg (by omega)]
      go_enter Tryz.func60, Tryz.ntmps60
      go_wp2_with (first
        | (go_at_call 75; refine (compareS _ _ _).mono ?_; rintro e w' ⟨rfl, rfl⟩; rw [hz])
        | (go_at_call 76; refine (compareI _ _ _).mono ?_; rintro e w' ⟨rfl, rfl⟩; rw [hi])
        | (go_at_call 77; refine (hL.out _ (((Later.refl _).alloc _).alloc _)).mono ?_; rintro e w' ⟨rfl, rfl⟩))
      go_ret
      exact ⟨rfl, ((Later.refl _).alloc _).alloc _⟩
    · rw [if_neg (by omega), if_pos hi]
      have hi' : (cmpI x.length y.length == 0) = false := by simpa using hi
      generalize hr : cmpI x.length y.length = r at *
      have R : Hid _ := hr
      clear hr
      go_enter Tryz.func60, Tryz.ntmps60
      go_wp2_with (first
        | (go_at_call 75; refine (compareS _ _ _).mono ?_; rintro e w' ⟨rfl, rfl⟩; rw [hz])
        | (go_at_call 76; refine (compareI _ _ _).mono ?_; rintro e w' ⟨rfl, rfl⟩; rw [R.out]))
      go_ret
      exact ⟨rfl, ((Later.refl _).alloc _).alloc _⟩
  · rw [if_pos hz]
    have hz' : (cmpS n1 n2 == 0) = false := by simpa using hz
    generalize hr : cmpS n1 n2 = r at *
    have R : Hid _ := hr
    clear hr
    go_enter Tryz.func60, Tryz.ntmps60
    go_wp2_with (go_at_call 75; refine (compareS _ _ _).mono ?_; rintro e w' ⟨rfl, rfl⟩; rw [R.out])
    go_ret
    exact ⟨rfl, ((Later.refl _).alloc _).alloc _⟩

end Go.Proofs.YtilkggldmgeagaaGreatDoor

/- The walks of fact.Named, fact.Wrong and what they call. -/
namespace Go.Proofs.YtilkggldmgeagaaGreatDoor
open Go.RowKit Go.Sort

set_option maxHeartbeats 400000 in
theorem begins (x : Int) (w : World) : Calls Tryz.prog 97 #[.int .u8 x] w fun e w' => e = .returned (.bool (smallB x)) ∧ w' = w := by
  go_enter Tryz.func97, Tryz.ntmps97
  go_wp2
  all_goals
    go_ret
    refine ⟨ret_bool ?_, rfl⟩
    rw [Bool.eq_iff_iff]
    simp [smallB]
    omega

set_option maxHeartbeats 400000 in
theorem goesOn (x : Int) (w : World) : Calls Tryz.prog 122 #[.int .u8 x] w fun e w' => e = .returned (.bool (signB x)) ∧ w' = w := by
  cases hs : smallB x
  · go_enter Tryz.func122, Tryz.ntmps122
    go_wp2_with (go_at_call 97; refine (begins _ _).mono ?_; rintro e w' ⟨rfl, rfl⟩; rw [hs])
    all_goals
      go_ret
      refine ⟨ret_bool ?_, rfl⟩
      rw [Bool.eq_iff_iff]
      simp [signB, hs]
      omega
  · go_enter Tryz.func122, Tryz.ntmps122
    go_wp2_with (go_at_call 97; refine (begins _ _).mono ?_; rintro e w' ⟨rfl, rfl⟩; rw [hs])
    go_ret
    exact ⟨ret_bool (by simp [signB, hs]), rfl⟩

def namedB (s : ByteArray) : Bool :=
  decide (0 < s.size ∧ s.size ≤ 12) && (match s.data.toList with | [] => false | c :: r => smallB c.toNat && r.all fun c => signB c.toNat)

theorem namedB_long {s : ByteArray} (h : s.size = 0 ∨ 12 < s.size) : namedB s = false := by
  unfold namedB; rw [decide_eq_false (by omega)]; rfl

theorem size_data (s : ByteArray) : s.data.toList.length = s.size := Array.length_toList

def restB (s : ByteArray) (k : Nat) : Bool := (s.data.toList.drop k).all fun c => signB c.toNat

theorem restB_step {s : ByteArray} {k : Nat} (h : k < s.size) : restB s k = (signB s[k].toNat && restB s (k + 1)) := by
  have hl : k < s.data.toList.length := by rw [size_data]; exact h
  unfold restB
  rw [List.drop_eq_getElem_cons hl, List.all_cons]
  rfl

theorem restB_end {s : ByteArray} {k : Nat} (h : s.size ≤ k) : restB s k = true := by
  unfold restB; rw [List.drop_eq_nil_of_le (by rw [size_data]; exact h)]; rfl

theorem namedB_in {s : ByteArray} (h0 : 0 < s.size) (h1 : s.size ≤ 12) : namedB s = (smallB (s[0].toNat) && restB s 1) := by
  unfold namedB
  have hl := size_data s
  rw [decide_eq_true ⟨h0, h1⟩]
  cases h : s.data.toList with
  | nil => rw [h] at hl; simp at hl; omega
  | cons c r =>
    have : s[0] = c := by
      have : s[0] = s.data.toList[0]'(by omega) := rfl
      rw [this]; simp [h]
    simp [this, restB, h]

theorem extract_bs (s : ByteArray) (k : Nat) : s.extract 0 k = bs ((raw s).take k) := by
  apply raw_inj
  rw [raw_bs]
  unfold raw
  rw [ByteArray.data_extract]
  simp

theorem getRaw {s : ByteArray} {k : Nat} (h : k < s.size) (h' : k < (raw s).length) : (raw s)[k]'h' = s[k]'h := rfl

def goes (s : ByteArray) (k : Nat) : Bs := (raw s).take k ++ ((raw s).drop k).takeWhile isSign

theorem goes_step {s : ByteArray} {k : Nat} (h : k < s.size) : goes s k = if signB s[k].toNat then goes s (k + 1) else (raw s).take k := by
  have hl : k < (raw s).length := by rw [length_raw]; exact h
  unfold goes
  rw [List.drop_eq_getElem_cons hl, List.takeWhile_cons, getRaw h hl]
  by_cases hc : signB (s[k]'h).toNat = true
  · rw [if_pos hc, if_pos (show isSign (s[k]'h) = true from hc), List.take_succ_eq_append_getElem hl, getRaw h hl]; simp
  · rw [if_neg hc, if_neg (show ¬ isSign (s[k]'h) = true from hc)]; simp

theorem goes_end {s : ByteArray} {k : Nat} (h : s.size ≤ k) : goes s k = (raw s).take k := by
  unfold goes
  rw [List.drop_eq_nil_of_le (by rw [length_raw]; exact h)]; simp

set_option maxHeartbeats 1000000 in
theorem wordC (s : ByteArray) (w : World) (hs : s.size ≤ 4294967296) : Calls Tryz.prog 98 #[.string s] w fun e w' => e = .returned (.string (bs ((raw s).takeWhile isSign))) ∧ w' = w := by
  have h0 : goes s 0 = (raw s).takeWhile isSign := by simp [goes]
  rw [← h0]
  clear h0
  go_enter Tryz.func98, Tryz.ntmps98
  go_wp2
  go_loop [3] (fun i => ∃ k : Nat, k ≤ s.size ∧ i = .int .i64 k ∧ Hid (goes s 0 = goes s k)) (fun i => s.size - (intOf i).toNat)
  case atStart => exact ⟨0, by omega, rfl, (rfl : _ = _)⟩
  case round =>
    obtain ⟨k, hk, rfl, HE⟩ := hrel
    by_cases hlt : k < s.size
    · have ha := goes_step hlt
      cases hc : signB (s[k]'hlt).toNat
      · have F : Hid (goes s 0 = (raw s).take k) := by show _ = _; rw [HE.out, ha, hc]; rfl
        clear ha
        go_wp2_with (go_at_call 122; refine (goesOn _ _).mono ?_; rintro e w' ⟨rfl, rfl⟩; rw [hc])
        go_ret
        exact ⟨by rw [F.out, ← extract_bs]; rfl, rfl⟩
      · have F : Hid (goes s 0 = goes s (k + 1)) := by show _ = _; rw [HE.out, ha, hc]; rfl
        clear ha
        have HK : Hid (k + 1 ≤ s.size) := hlt
        go_wp2_with (go_at_call 122; refine (goesOn _ _).mono ?_; rintro e w' ⟨rfl, rfl⟩; rw [hc])
        go_round
        case rel => exact ⟨k + 1, HK.out, by go_num, F⟩
        case measure => have := HK.out; simp [intOf]; omega
    · have F : Hid (goes s 0 = (raw s).take k) := by show _ = _; rw [HE.out, goes_end (by omega)]
      go_wp2
      go_ret
      exact ⟨by rw [F.out, ← extract_bs]; rfl, rfl⟩

theorem takeWhile_len (f : UInt8 → Bool) : ∀ l : Bs, decide ((l.takeWhile f).length = l.length) = l.all f := by
  intro l
  induction l with
  | nil => rfl
  | cons c t ih =>
    rw [List.takeWhile_cons, List.all_cons]
    cases hc : f c
    · simp
    · simp [← ih]

theorem namedB_word {s : ByteArray} (h0 : 0 < s.size) (h1 : s.size ≤ 12) (hb : smallB s[0].toNat = true) : namedB s = decide ((bs ((raw s).takeWhile isSign)).size = s.size) := by
  rw [size_bs, ← length_raw s, takeWhile_len, namedB_in h0 h1, hb]
  have hl : 0 < (raw s).length := by rw [length_raw]; exact h0
  have e : raw s = (s[0]'h0) :: (raw s).drop 1 := by
    have := List.drop_eq_getElem_cons hl
    rw [List.drop_zero, getRaw h0 hl] at this
    exact this
  have hs : isSign (s[0]'h0) = true := by unfold isSign signB; rw [hb]; rfl
  rw [e, List.all_cons, hs]
  rfl

theorem namedB_eq (s : ByteArray) : namedB s = isNamed (raw s) := by
  unfold namedB isNamed
  rw [length_raw]
  show (decide (0 < s.size ∧ s.size ≤ 12) && match raw s with | [] => false | c :: r => smallB c.toNat && r.all fun c => signB c.toNat) = _
  have hl := length_raw s
  cases h : raw s with
  | nil => simp
  | cons c t =>
    rw [h] at hl
    have : 0 < s.size := by rw [← hl]; simp
    simp only [List.all_cons]
    rw [show (t.all fun c => signB c.toNat) = t.all isSign from rfl]
    by_cases h12 : s.size ≤ 12
    · rw [decide_eq_true ⟨this, h12⟩, decide_eq_true h12]
      cases hc : smallB c.toNat
      · simp
      · rw [show isSign c = true by unfold isSign signB; rw [hc]; rfl]; simp
    · rw [decide_eq_false (fun h => h12 h.2), decide_eq_false h12]; rfl

set_option maxHeartbeats 1000000 in
theorem named (s : ByteArray) (w : World) : Calls Tryz.prog 72 #[.string s] w fun e w' => e = .returned (.bool (namedB s)) ∧ w' = w := by
  by_cases h0 : 0 < s.size
  · by_cases h1 : s.size ≤ 12
    · have h0' : ((s.size : Int) == 0) = false := by rw [beq_eq_false_iff_ne]; omega
      cases hb : smallB s[0].toNat
      · have F : Hid (namedB s = false) := by show _ = _; rw [namedB_in h0 h1, hb]; rfl
        go_enter Tryz.func72, Tryz.ntmps72
        go_wp2_with (go_at_call 97; refine (begins _ _).mono ?_; rintro e w' ⟨rfl, rfl⟩; rw [hb])
        go_ret
        exact ⟨ret_bool F.out.symm, rfl⟩
      · have F : Hid (namedB s = decide ((bs ((raw s).takeWhile isSign)).size = s.size)) := namedB_word h0 h1 hb
        generalize hx : bs ((raw s).takeWhile isSign) = x at F
        have HX := hide hx
        clear hx
        go_enter Tryz.func72, Tryz.ntmps72
        go_wp2_with (first
          | (go_at_call 97; refine (begins _ _).mono ?_; rintro e w' ⟨rfl, rfl⟩; rw [hb])
          | (go_at_call 98; refine (wordC _ _ (by omega)).mono ?_; rintro e w' ⟨rfl, rfl⟩; rw [HX.out]))
        go_ret
        refine ⟨ret_bool ?_, rfl⟩
        rw [F.out, Bool.eq_iff_iff]
        simp
        omega
    · rw [namedB_long (Or.inr (by omega))]
      have h0' : ((s.size : Int) == 0) = false := by rw [beq_eq_false_iff_ne]; omega
      go_enter Tryz.func72, Tryz.ntmps72
      go_wp2
      go_ret
      exact ⟨rfl, rfl⟩
  · rw [namedB_long (Or.inl (by omega))]
    have h0' : ((s.size : Int) == 0) = true := by rw [beq_iff_eq]; omega
    go_enter Tryz.func72, Tryz.ntmps72
    go_wp2
    go_ret
    exact ⟨rfl, rfl⟩

set_option maxHeartbeats 400000 in
theorem wrong1 (s : ByteArray) (w : World) : Calls Tryz.prog 74 #[.string s] w fun e w' => e = .returned (.bool (!namedB s)) ∧ w' = w := by
  generalize hr : namedB s = r
  have R : Hid _ := hr
  clear hr
  go_enter Tryz.func74, Tryz.ntmps74
  go_wp2_with (go_at_call 72; refine (named _ _).mono ?_; rintro e w' ⟨rfl, rfl⟩; rw [R.out])
  go_ret
  exact ⟨rfl, rfl⟩

def noName (l : List ByteArray) (k : Nat) : Bool := (l.drop k).any fun s => !namedB s

theorem noName_step {l : List ByteArray} {k : Nat} (h : k < l.length) : noName l k = (!namedB (l.getD k ByteArray.empty) || noName l (k + 1)) := by
  unfold noName
  rw [List.drop_eq_getElem_cons h, List.any_cons, List.getD_eq_getElem?_getD, List.getElem?_eq_getElem h]; rfl

theorem noName_end {l : List ByteArray} {k : Nat} (h : l.length ≤ k) : noName l k = false := by
  unfold noName; rw [List.drop_eq_nil_of_le h]; rfl

set_option maxHeartbeats 1000000 in
theorem indexFunc (v : Value) (l : List ByteArray) (w : World) (h : Strs w v l) :
    Calls Tryz.prog 99 #[v, .func (.func 74) #[] #[]] w fun e w' => ∃ n : Int, e = .returned (.int .i64 n) ∧ decide (0 ≤ n) = noName l 0 ∧ w' = w := by
  obtain ⟨h0, a, cap, rfl, hc⟩ := h
  have HC : Hid _ := hc
  clear hc
  go_enter Tryz.func99, Tryz.ntmps99
  go_wp2
  go_loop [8] (fun i => ∃ k : Nat, k ≤ l.length ∧ i = .int .i64 k ∧ Hid (noName l 0 = noName l k)) (fun i => l.length - (intOf i).toNat)
  case atStart => exact ⟨0, by omega, rfl, (rfl : _ = _)⟩
  case round =>
    obtain ⟨k, hk, rfl, HE⟩ := hrel
    by_cases hlt : k < l.length
    · obtain ⟨b, off, rfl, _, hcell⟩ := HC.out (by intro e; rw [e] at hlt; simp at hlt)
      have h1 := hcell k hlt
      have hs := noName_step hlt
      clear hcell
      generalize l.getD k ByteArray.empty = s at *
      cases hn : namedB s
      · have F : Hid (noName l 0 = true) := by show _ = _; rw [HE.out, hs, hn]; rfl
        clear hs
        go_wp2_with (go_at_call 74; refine (wrong1 _ _).mono ?_; rintro e w' ⟨rfl, rfl⟩; rw [hn])
        go_ret
        exact ⟨_, rfl, by rw [F.out]; simp, rfl⟩
      · have F : Hid (noName l 0 = noName l (k + 1)) := by show _ = _; rw [HE.out, hs, hn]; rfl
        clear hs
        go_wp2_with (go_at_call 74; refine (wrong1 _ _).mono ?_; rintro e w' ⟨rfl, rfl⟩; rw [hn])
        go_round
        case rel => exact ⟨k + 1, by omega, by go_num, F⟩
        case measure => simp [intOf]; omega
    · have F : Hid (noName l 0 = false) := by show _ = _; rw [HE.out, noName_end (by omega)]
      go_wp2
      go_ret
      exact ⟨_, rfl, by rw [F.out]; simp, rfl⟩

set_option maxHeartbeats 400000 in
theorem containsFunc (v : Value) (l : List ByteArray) (w : World) (h : Strs w v l) :
    Calls Tryz.prog 73 #[v, .func (.func 74) #[] #[]] w fun e w' => e = .returned (.bool (noName l 0)) ∧ w' = w := by
  have hI := indexFunc v l w h
  obtain ⟨h0, a, cap, rfl, hc⟩ := h
  have HI := hide hI
  clear hc hI
  go_enter Tryz.func73, Tryz.ntmps73
  go_wp2_with (go_at_call 99; refine HI.out.mono ?_; rintro e w' ⟨n, rfl, hn, rfl⟩; replace hn := hide hn)
  go_ret
  exact ⟨ret_bool (unhide hn), rfl⟩

def wrongF (f : FactD) : Int := if !namedB f.1 then 7 else if 4 < f.2.length then 5 else if noName f.2 0 then 7 else 0

set_option maxHeartbeats 1000000 in
theorem wrong (v : Value) (f : FactD) (w : World) (h : FactV w v f) :
    Calls Tryz.prog 59 #[v] w fun e w' => e = .returned (.int .i64 (wrongF f)) ∧ Later w w' := by
  obtain ⟨s, rfl, k⟩ := h
  have HC : Hid (∀ w', Later w w' → Calls Tryz.prog 73 #[s, .func (.func 74) #[] #[]] w' fun e w'' => e = .returned (.bool (noName f.2 0)) ∧ w'' = w') := fun w' hw => containsFunc s f.2 w' (k.later hw)
  have l0 := k.1
  obtain ⟨a, c, rfl⟩ := sliceStr k
  clear k
  obtain ⟨n, x⟩ := f
  unfold wrongF
  dsimp only at *
  cases hn : namedB n
  · go_enter Tryz.func59, Tryz.ntmps59
    go_wp2_with (go_at_call 72; refine (named _ _).mono ?_; rintro e w' ⟨rfl, rfl⟩; rw [hn])
    go_ret
    exact ⟨rfl, (Later.refl _).alloc _⟩
  · by_cases h4 : 4 < x.length
    · rw [if_pos h4]
      go_enter Tryz.func59, Tryz.ntmps59
      go_wp2_with (go_at_call 72; refine (named _ _).mono ?_; rintro e w' ⟨rfl, rfl⟩; rw [hn])
      go_ret
      exact ⟨rfl, (Later.refl _).alloc _⟩
    · rw [if_neg h4]
      cases hb : noName x 0
      all_goals
        rw [hb] at HC
        go_enter Tryz.func59, Tryz.ntmps59
        go_wp2_with (first
          | (go_at_call 72; refine (named _ _).mono ?_; rintro e w' ⟨rfl, rfl⟩; rw [hn])
          | (go_at_call 73; refine (HC.out _ ((Later.refl _).alloc _)).mono ?_; rintro e w' ⟨rfl, rfl⟩))
        go_ret
        exact ⟨rfl, (Later.refl _).alloc _⟩

end Go.Proofs.YtilkggldmgeagaaGreatDoor

/- The document's answer: the walks of ref.Less, ref.Equal, ref.In. -/
namespace Go.Proofs.YtilkggldmgeagaaGreatDoor
open Go.RowKit Go.Sort

def lessF (f g : FactD) : Bool := decide (cmpF f g < 0)

theorem cmpS_lt (a b : ByteArray) : decide (cmpS a b < 0) = Op.bytesLess a.toList b.toList := by
  unfold cmpS
  cases h : Op.bytesLess a.toList b.toList
  · cases h2 : (a.toList == b.toList) <;> simp
  · simp

theorem cmpS_ne {a b : ByteArray} (h : (a.toList == b.toList) = false) : cmpS a b ≠ 0 := by
  intro e
  rw [three_cmpS.zero _ _ e] at h
  simp at h

theorem cmpS_eq {a b : ByteArray} (h : (a.toList == b.toList) = true) : cmpS a b = 0 := by
  have : a.toList = b.toList := by simpa using h
  rw [toList_inj this]; exact three_cmpS.refl b

theorem lessF_name {f g : FactD} (h : (f.1.toList == g.1.toList) = false) : lessF f g = Op.bytesLess f.1.toList g.1.toList := by
  unfold lessF cmpF; rw [if_pos (cmpS_ne h), cmpS_lt]

theorem lessF_len {f g : FactD} (h : (f.1.toList == g.1.toList) = true) (hl : ((f.2.length : Int) == (g.2.length : Int)) = false) : lessF f g = decide ((f.2.length : Int) < (g.2.length : Int)) := by
  have hl' : (f.2.length : Int) ≠ (g.2.length : Int) := by simpa using hl
  unfold lessF cmpF; rw [if_neg (by rw [cmpS_eq h]; simp)]
  unfold cmpI
  by_cases hh : (f.2.length : Int) < (g.2.length : Int)
  · simp [hh]
  · have h2 : (g.2.length : Int) < (f.2.length : Int) := by omega
    rw [if_neg hh, if_pos h2, decide_eq_false hh]; rfl

theorem lessF_args {f g : FactD} (h : (f.1.toList == g.1.toList) = true) (hl : f.2.length = g.2.length) : lessF f g = decide (cmpL f.2 g.2 < 0) := by
  unfold lessF cmpF; rw [if_neg (by rw [cmpS_eq h]; simp), if_neg (by rw [hl, three_cmpI.refl]; simp)]

set_option maxHeartbeats 1000000 in
theorem rLess_args (n1 n2 : ByteArray) (x y : List ByteArray) (a1 a2 : Option Addr) (c1 c2 : Nat) (w : World) (hn : (n1.toList == n2.toList) = true) (hl : x.length = y.length) (hx : x.length ≤ 8796093022208)
    (k1 : x ≠ [] → ∃ b off, a1 = some ⟨b, off, none⟩ ∧ b < w.heap.size ∧ ∀ i, i < x.length → w.cell? ⟨b, off + i, none⟩ = some (.string (x.getD i ByteArray.empty)))
    (k2 : y ≠ [] → ∃ b off, a2 = some ⟨b, off, none⟩ ∧ b < w.heap.size ∧ ∀ i, i < y.length → w.cell? ⟨b, off + i, none⟩ = some (.string (y.getD i ByteArray.empty))) :
    Calls Tryz.prog 41 #[.agg #[.string n1, .slice a1 x.length c1], .agg #[.string n2, .slice a2 y.length c2]] w fun e w' => e = .returned (.bool (decide (cmpL x y < 0))) ∧ Later w w' := by
  have K1 := hide k1
  have K2 := hide k2
  clear k1 k2
  have hl2 : ((x.length : Int) == (y.length : Int)) = true := by rw [hl]; simp
  have HL := hide hl
  clear hl
  go_enter Tryz.func41, Tryz.ntmps41
  go_wp2
  go_loopw [33] (fun i wr => ∃ k q : Nat, k ≤ x.length ∧ i = .int .i64 k ∧ wr = ((w.alloc (.cells #[.string n1, .slice a1 x.length c1] 50)).alloc (.cells #[.string n2, .slice a2 y.length c2] 50)).drewN q ∧ Hid (cmpL x y = cmpL (x.drop k) (y.drop k))) (fun i _ => x.length - (intOf i).toNat)
  case atStart => exact ⟨0, 0, Nat.zero_le _, rfl, rfl, (by simp : cmpL x y = cmpL (x.drop 0) (y.drop 0))⟩
  case round =>
    obtain ⟨k, q, hk, rfl, rfl, HE⟩ := hrel
    by_cases hlt : k < x.length
    · have hne : x ≠ [] := by intro e; rw [e] at hlt; simp at hlt
      have hlt2 : k < y.length := by have := HL.out; omega
      have hne2 : y ≠ [] := by intro e; rw [e] at hlt2; simp at hlt2
      obtain ⟨b, off, rfl, hb, hc⟩ := K1.out hne
      obtain ⟨b2, off2, rfl, hb2, hd⟩ := K2.out hne2
      have g1 := hc k hlt
      have g2 := hd k hlt2
      have e := cmpL_drop x y k hlt hlt2
      clear hc hd
      have hltz : (k : Int) < (x.length : Int) := by omega
      have hltz2 : (k : Int) < (y.length : Int) := by omega
      generalize x.getD k ByteArray.empty = sx at *
      generalize y.getD k ByteArray.empty = sy at *
      have E := hide e
      clear e
      have b1 : b < w.heap.size + 1 := by omega
      have b3 : b2 < w.heap.size + 1 := by omega
      cases hs : (sx.toList == sy.toList)
      · have F : Hid (decide (cmpL x y < 0) = Op.bytesLess sx.toList sy.toList) := by show _ = _; rw [HE.out, E.out, if_pos (cmpS_ne hs), cmpS_lt]
        go_wp2
        go_quiet (fail)
        go_wp2
        go_quiet (fail)
        go_wp2
        go_ret
        exact ⟨ret_bool F.out.symm, (by repeat (first | exact Later.refl _ | assumption | refine Later.drewN ?_ _ | refine Later.drew ?_ | refine Later.alloc ?_ _ | refine Later.grow ?_ _))⟩
      · have F : Hid (cmpL x y = cmpL (x.drop (k + 1)) (y.drop (k + 1))) := by show _ = _; rw [HE.out, E.out, if_neg (by rw [cmpS_eq hs]; simp)]
        go_wp2
        go_quiet (fail)
        go_wp2
        go_roundw
        case rel => exact ⟨k + 1, _, by omega, by go_num, rfl, F⟩
        case measure => simp [intOf]; omega
    · have F : Hid (cmpL x y = 0) := by
        show _ = _
        rw [HE.out, cmpL_drop_end x y k (by omega), if_neg (by have := HL.out; omega)]
      go_wp2
      go_ret
      exact ⟨ret_bool (by rw [F.out]; simp), (by repeat (first | exact Later.refl _ | assumption | refine Later.drewN ?_ _ | refine Later.drew ?_ | refine Later.alloc ?_ _ | refine Later.grow ?_ _))⟩

set_option maxHeartbeats 400000 in
theorem rLess (v1 v2 : Value) (f g : FactD) (w : World) (h1 : FactV w v1 f) (h2 : FactV w v2 g) :
    Calls Tryz.prog 41 #[v1, v2] w fun e w' => e = .returned (.bool (lessF f g)) ∧ Later w w' := by
  obtain ⟨s1, rfl, l1, a1, c1, rfl, k1⟩ := h1
  obtain ⟨s2, rfl, l2, a2, c2, rfl, k2⟩ := h2
  cases hn : (f.1.toList == g.1.toList)
  · rw [lessF_name hn]
    clear k1 k2
    go_enter Tryz.func41, Tryz.ntmps41
    go_wp2
    go_ret
    exact ⟨rfl, (by repeat (first | exact Later.refl _ | assumption | refine Later.drewN ?_ _ | refine Later.drew ?_ | refine Later.alloc ?_ _ | refine Later.grow ?_ _))⟩
  · cases hl : ((f.2.length : Int) == (g.2.length : Int))
    · rw [lessF_len hn hl]
      clear k1 k2
      go_enter Tryz.func41, Tryz.ntmps41
      go_wp2
      go_ret
      exact ⟨ret_bool (by simp), (by repeat (first | exact Later.refl _ | assumption | refine Later.drewN ?_ _ | refine Later.drew ?_ | refine Later.alloc ?_ _ | refine Later.grow ?_ _))⟩
    · have hl' : f.2.length = g.2.length := by have : (f.2.length : Int) = (g.2.length : Int) := by simpa using hl
                                               omega
      rw [lessF_args hn hl']
      exact rLess_args f.1 g.1 f.2 g.2 a1 a2 c1 c2 w hn hl' l1 k1 k2

def sameF (f g : FactD) : Bool := decide (cmpF f g = 0)

theorem sameF_less (f g : FactD) : sameF f g = (!lessF f g && !lessF g f) := by
  have := three_cmpF.swap f g
  unfold sameF lessF
  rw [Bool.eq_iff_iff]; simp; omega

theorem sameF_iff {f g : FactD} : sameF f g = true ↔ f = g := by
  unfold sameF
  rw [decide_eq_true_eq]
  exact ⟨three_cmpF.zero f g, fun e => by rw [e]; exact three_cmpF.refl g⟩

set_option maxHeartbeats 400000 in
theorem rEqual (v1 v2 : Value) (f g : FactD) (w : World) (h1 : FactV w v1 f) (h2 : FactV w v2 g) :
    Calls Tryz.prog 37 #[v1, v2] w fun e w' => e = .returned (.bool (sameF f g)) ∧ Later w w' := by
  have H1 : Hid (∀ w', Later w w' → Calls Tryz.prog 41 #[v1, v2] w' fun e w'' => e = .returned (.bool (lessF f g)) ∧ Later w' w'') := fun w' hw => rLess v1 v2 f g w' (h1.later hw) (h2.later hw)
  have H2 : Hid (∀ w', Later w w' → Calls Tryz.prog 41 #[v2, v1] w' fun e w'' => e = .returned (.bool (lessF g f)) ∧ Later w' w'') := fun w' hw => rLess v2 v1 g f w' (h2.later hw) (h1.later hw)
  obtain ⟨s1, rfl, l1, a1, c1, rfl, k1⟩ := h1
  obtain ⟨s2, rfl, l2, a2, c2, rfl, k2⟩ := h2
  clear k1 k2
  rw [sameF_less]
  generalize lessF f g = x at *
  generalize lessF g f = y at *
  obtain ⟨n1, ar1⟩ := f
  obtain ⟨n2, ar2⟩ := g
  dsimp only at *
  cases x
  · go_enter Tryz.func37, Tryz.ntmps37
    go_wp2_with fail
    refine (H1.out _ (by repeat (first | exact Later.refl _ | refine Later.alloc ?_ _))).mono ?_
    rintro e w1 ⟨rfl, hL⟩
    have z1 : w1.cell? ⟨w.heap.size, 0, none⟩ = some (.string n1) := by rw [hL.cell (by simp; omega)]; simp
    have z2 : w1.cell? ⟨w.heap.size, 1, none⟩ = some (.slice a1 ar1.length c1) := by rw [hL.cell (by simp; omega)]; simp
    have z3 : w1.cell? ⟨w.heap.size + 1, 0, none⟩ = some (.string n2) := by rw [hL.cell (by simp)]; simp
    have z4 : w1.cell? ⟨w.heap.size + 1, 1, none⟩ = some (.slice a2 ar2.length c2) := by rw [hL.cell (by simp)]; simp
    go_wp2_with fail
    refine (H2.out _ (Later.trans (((Later.refl _).alloc _).alloc _) hL)).mono ?_
    rintro e w2 ⟨rfl, hL2⟩
    go_wp2
    go_ret
    exact ⟨by simp, (((Later.refl _).alloc _).alloc _).trans (hL.trans hL2)⟩
  · go_enter Tryz.func37, Tryz.ntmps37
    go_wp2_with fail
    refine (H1.out _ (by repeat (first | exact Later.refl _ | refine Later.alloc ?_ _))).mono ?_
    rintro e w1 ⟨rfl, hL⟩
    go_wp2
    go_ret
    exact ⟨by simp, (((Later.refl _).alloc _).alloc _).trans hL⟩

def inFrom (l : List FactD) (f : FactD) (k : Nat) : Bool := (l.drop k).any fun x => sameF x f

theorem inFrom_step {l : List FactD} {f : FactD} {k : Nat} (h : k < l.length) : inFrom l f k = (sameF (l.getD k noFact) f || inFrom l f (k + 1)) := by
  unfold inFrom
  rw [List.drop_eq_getElem_cons h, List.any_cons, List.getD_eq_getElem?_getD, List.getElem?_eq_getElem h]; rfl

theorem inFrom_end {l : List FactD} {f : FactD} {k : Nat} (h : l.length ≤ k) : inFrom l f k = false := by
  unfold inFrom; rw [List.drop_eq_nil_of_le h]; rfl

theorem Facts.at {w : World} {b off : Nat} {n cap : Nat} {l : List FactD} (h : Facts w (.slice (some ⟨b, off, none⟩) n cap) l) {k : Nat} (hk : k < l.length) :
    b < w.heap.size ∧ ∃ a len c, w.cell? ⟨b, off + k * 2, none⟩ = some (.string (l.getD k noFact).1) ∧ w.cell? ⟨b, off + k * 2 + 1, none⟩ = some (.slice a len c) ∧ FactV w (.agg #[.string (l.getD k noFact).1, .slice a len c]) (l.getD k noFact) := by
  obtain ⟨_, a, cap', e, h1⟩ := h
  obtain ⟨b', off', e', hb, hc⟩ := h1 (by intro e; rw [e] at hk; simp at hk)
  rw [e'] at e
  simp only [Value.slice.injEq, Option.some.injEq, Addr.mk.injEq] at e
  obtain ⟨⟨rfl, rfl, _⟩, _, _⟩ := e
  obtain ⟨c1, s, c2, c3⟩ := hc k hk
  obtain ⟨a2, cp, rfl⟩ := sliceStr c3
  exact ⟨hb, a2, _, cp, c1, c2, _, rfl, c3⟩

theorem Facts.addr {w : World} {v : Value} {l : List FactD} (h : Facts w v l) : ∃ a cap, v = .slice a l.length cap ∧ l.length ≤ 3518437208883 ∧ (l = [] ∨ ∃ b off, a = some ⟨b, off, none⟩) := by
  obtain ⟨h0, a, cap, rfl, h1⟩ := h
  refine ⟨a, cap, rfl, h0, ?_⟩
  by_cases e : l = []
  · exact Or.inl e
  · obtain ⟨b, off, rfl, _⟩ := h1 e
    exact Or.inr ⟨b, off, rfl⟩

set_option maxHeartbeats 1000000 in
theorem rIn (v1 v2 : Value) (l : List FactD) (f : FactD) (w : World) (h1 : Facts w v1 l) (h2 : FactV w v2 f) :
    Calls Tryz.prog 22 #[v1, v2] w fun e w' => e = .returned (.bool (inFrom l f 0)) ∧ Later w w' := by
  have H1 := hide h1
  have H2 := hide h2
  obtain ⟨s2, rfl, l2, a2, c2, rfl, _⟩ := h2
  obtain ⟨a, cap, rfl, hn, hz⟩ := h1.addr
  clear h1
  go_enter Tryz.func22, Tryz.ntmps22
  go_wp2
  go_loopw [9] (fun i wr => ∃ k : Nat, k ≤ l.length ∧ i = .int .i64 k ∧ Later (w.alloc (.cells #[.string f.1, .slice a2 f.2.length c2] 50)) wr ∧ Hid (inFrom l f 0 = inFrom l f k)) (fun i _ => l.length - (intOf i).toNat)
  case atStart => exact ⟨0, by omega, rfl, Later.refl _, (rfl : _ = _)⟩
  case round =>
    obtain ⟨k, hk, rfl, hL, HE⟩ := hrel
    by_cases hlt : k < l.length
    · rcases hz with rfl | ⟨b, off, rfl⟩
      · simp at hlt
      have hL0 : Later w wr := ((Later.refl _).alloc _).trans hL
      obtain ⟨hb, ax, lx, cx, g1, g2, fx⟩ := (H1.out.later hL0).at hlt
      have z0 : wr.cell? ⟨w.heap.size, 0, none⟩ = some (.string f.1) := by rw [hL.cell (by simp)]; simp
      have z1 : wr.cell? ⟨w.heap.size, 1, none⟩ = some (.slice a2 f.2.length c2) := by rw [hL.cell (by simp)]; simp
      have z2 : w.heap.size < wr.heap.size := by have := hL.size; simp at this; omega
      have hs := inFrom_step (f := f) hlt
      have hltz : (k : Int) < (l.length : Int) := by omega
      have HC : Hid (∀ w', Later wr w' → Calls Tryz.prog 37 #[.agg #[.string (l.getD k noFact).1, .slice ax lx cx], .agg #[.string f.1, .slice a2 f.2.length c2]] w' fun e w'' => e = .returned (.bool (sameF (l.getD k noFact) f)) ∧ Later w' w'') :=
        fun w' hw => rEqual _ _ _ _ w' (fx.later hw) ((H2.out.later hL0).later hw)
      generalize (l.getD k noFact).1 = nk at *
      generalize sameF (l.getD k noFact) f = r at *
      clear fx
      cases r
      · have F : Hid (inFrom l f 0 = inFrom l f (k + 1)) := by show _ = _; rw [HE.out, hs]; rfl
        clear hs
        go_wp2_with (go_at_call 37; refine (HC.out _ ((Later.refl _).alloc _)).mono ?_; rintro e w1 ⟨rfl, hL1⟩)
        go_roundw
        case rel => exact ⟨k + 1, by omega, by go_num, hL.trans (((Later.refl _).alloc _).trans hL1), F⟩
        case measure => simp [intOf]; omega
      · have F : Hid (inFrom l f 0 = true) := by show _ = _; rw [HE.out, hs]; rfl
        clear hs
        go_wp2_with (go_at_call 37; refine (HC.out _ ((Later.refl _).alloc _)).mono ?_; rintro e w1 ⟨rfl, hL1⟩)
        go_ret
        exact ⟨ret_bool F.out.symm, hL0.trans (((Later.refl _).alloc _).trans hL1)⟩
    · have F : Hid (inFrom l f 0 = false) := by show _ = _; rw [HE.out, inFrom_end (by omega)]
      go_wp2
      go_ret
      exact ⟨ret_bool F.out.symm, ((Later.refl _).alloc _).trans hL⟩

end Go.Proofs.YtilkggldmgeagaaGreatDoor
