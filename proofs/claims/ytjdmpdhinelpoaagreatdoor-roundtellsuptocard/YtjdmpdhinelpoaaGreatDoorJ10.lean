/- Texts of this claim, one behind the other. -/
import Derived.Shelf.SlSortCmp.WholeK
import Derived.Test.YtjdmpdhinelpoaaGreatDoorProg
import Derived.Shelf.SlSortCmp.Whole1
import Derived.Test.YtjdmpdhinelpoaaGreatDoorJ9
import Derived.Shelf.SlSortCmp.NoneTotal
/-
  DERIVED: THE SHELF's CONTRACTS AT THIS DUMP, IN PLAIN WORDS (tools/lay-plain.mjs out of 'TryzSortBLay.lean', which tools/lay-shelf.mjs wrote): THE SAME DECLARATIONS UNDER THE SAME NAMES: 'import', 'namespace', 'open', 'def', 'theorem' AND NOTHING ELSE: no command of the shelf's: FOR A HAND-IN. Each laying: the table of numbers ('.._ren') and one theorem, a field a fact of the dump's own or the kernel's comparison; each contract: ONE APPLICATION.
-/
namespace Go.Proofs
open Go.Shelf
def Tryz.sortBinds_ren : Go.Shelf.Ren := ⟨fun | 6 => 170 | 15 => 141 | 14 => 197 | 28 => 183 | 29 => 184 | 20 => 211 | 21 => 212 | 22 => 213 | 23 => 214 | 24 => 215 | 25 => 216 | 26 => 217 | 27 => 218 | 46 => 234 | 47 => 201 | 48 => 202 | 49 => 235 | 50 => 236 | 57 => 248 | n => n, fun | 22 => 164 | 24 => 212 | 25 => 213 | 3 => 3 | 39 => 135 | 0 => 0 | 53 => 225 | 55 => 227 | 4 => 4 | 46 => 219 | 45 => 218 | 50 => 103 | 5 => 5 | 9 => 9 | 66 => 241 | 70 => 245 | 76 => 261 | 77 => 262 | n => n, fun | n => n⟩
theorem Tryz.sortBinds : Go.Proofs.SlLaysF0.n6 Tryz.prog Tryz.sortBinds_ren := {
  mixed := by kernel_rfl
  f6 := ⟨Tryz.f170.name, by decide, Tryz.func170.trans (congrArg some (by kernel_rfl))⟩
  f14 := ⟨Tryz.f197.name, by decide, Tryz.func197.trans (congrArg some (by kernel_rfl))⟩
  f15 := Tryz.func141.trans (congrArg some (by kernel_rfl))
  f20 := ⟨Tryz.f211.name, by decide, Tryz.func211.trans (congrArg some (by kernel_rfl))⟩
  f21 := ⟨Tryz.f212.name, by decide, Tryz.func212.trans (congrArg some (by kernel_rfl))⟩
  f22 := ⟨Tryz.f213.name, by decide, Tryz.func213.trans (congrArg some (by kernel_rfl))⟩
  f23 := ⟨Tryz.f214.name, by decide, Tryz.func214.trans (congrArg some (by kernel_rfl))⟩
  f24 := ⟨Tryz.f215.name, by decide, Tryz.func215.trans (congrArg some (by kernel_rfl))⟩
  f25 := ⟨Tryz.f216.name, by decide, Tryz.func216.trans (congrArg some (by kernel_rfl))⟩
  f26 := ⟨Tryz.f217.name, by decide, Tryz.func217.trans (congrArg some (by kernel_rfl))⟩
  f27 := ⟨Tryz.f218.name, by decide, Tryz.func218.trans (congrArg some (by kernel_rfl))⟩
  f28 := Tryz.func183.trans (congrArg some (by kernel_rfl))
  f29 := Tryz.func184.trans (congrArg some (by kernel_rfl))
  f46 := ⟨Tryz.f234.name, by decide, Tryz.func234.trans (congrArg some (by kernel_rfl))⟩
  f47 := Tryz.func201.trans (congrArg some (by kernel_rfl))
  f48 := Tryz.func202.trans (congrArg some (by kernel_rfl))
  f49 := ⟨Tryz.f235.name, by decide, Tryz.func235.trans (congrArg some (by kernel_rfl))⟩
  f50 := ⟨Tryz.f236.name, by decide, Tryz.func236.trans (congrArg some (by kernel_rfl))⟩
  f57 := ⟨Tryz.f248.name, by decide, Tryz.func248.trans (congrArg some (by kernel_rfl))⟩
  t0 := Tryz.underlying0
  a0 := Tryz.isAgg0
  z0 := Tryz.sizeOf0
  v0 := Tryz.zeroValue0
  t3 := Tryz.underlying3
  a3 := Tryz.isAgg3
  z3 := Tryz.sizeOf3
  v3 := Tryz.zeroValue3
  t4 := Tryz.underlying4
  a4 := Tryz.isAgg4
  z4 := Tryz.sizeOf4
  v4 := Tryz.zeroValue4
  t5 := Tryz.underlying5
  a5 := Tryz.isAgg5
  z5 := Tryz.sizeOf5
  v5 := Tryz.zeroValue5
  t9 := Tryz.underlying9
  a9 := Tryz.isAgg9
  z9 := Tryz.sizeOf9
  v9 := Tryz.zeroValue9
  t22 := Tryz.underlying164
  a22 := Tryz.isAgg164
  z22 := Tryz.sizeOf164
  v22 := Tryz.zeroValue164
  t25 := Tryz.underlying213
  a25 := Tryz.isAgg213
  z25 := Tryz.sizeOf213
  v25 := Tryz.zeroValue213
  t39 := Tryz.underlying135
  a39 := Tryz.isAgg135
  z39 := Tryz.sizeOf135
  v39 := Tryz.zeroValue135
  t45 := Tryz.underlying218
  a45 := Tryz.isAgg218
  z45 := Tryz.sizeOf218
  v45 := Tryz.zeroValue218
  t46 := Tryz.underlying219
  a46 := Tryz.isAgg219
  z46 := Tryz.sizeOf219
  v46 := Tryz.zeroValue219
  t50 := Tryz.underlying103
  a50 := Tryz.isAgg103
  z50 := Tryz.sizeOf103
  v50 := Tryz.zeroValue103
  t53 := Tryz.underlying225
  a53 := Tryz.isAgg225
  z53 := Tryz.sizeOf225
  v53 := Tryz.zeroValue225
  t55 := Tryz.underlying227
  a55 := Tryz.isAgg227
  z55 := Tryz.sizeOf227
  v55 := Tryz.zeroValue227
  t66 := Tryz.underlying241
  a66 := Tryz.isAgg241
  z66 := Tryz.sizeOf241
  v66 := Tryz.zeroValue241
  t70 := Tryz.underlying245
  a70 := Tryz.isAgg245
  z70 := Tryz.sizeOf245
  v70 := Tryz.zeroValue245
  t76 := Tryz.underlying261
  a76 := Tryz.isAgg261
  z76 := Tryz.sizeOf261
  v76 := Tryz.zeroValue261
  t77 := Tryz.underlying262
  a77 := Tryz.isAgg262
  z77 := Tryz.sizeOf262
  v77 := Tryz.zeroValue262 }
end Go.Proofs

/-
  DERIVED: THE SHELF's CONTRACTS AT THIS DUMP, IN PLAIN WORDS (tools/lay-plain.mjs out of 'TryzSortLLay.lean', which tools/lay-shelf.mjs wrote): THE SAME DECLARATIONS UNDER THE SAME NAMES: 'import', 'namespace', 'open', 'def', 'theorem' AND NOTHING ELSE: no command of the shelf's: FOR A HAND-IN. Each laying: the table of numbers ('.._ren') and one theorem, a field a fact of the dump's own or the kernel's comparison; each contract: ONE APPLICATION.
-/
namespace Go.Proofs
open Go.Shelf
def Tryz.sortLists_ren : Go.Shelf.Ren := ⟨fun | 6 => 172 | 15 => 141 | 14 => 199 | 28 => 183 | 29 => 184 | 20 => 219 | 21 => 220 | 22 => 221 | 23 => 222 | 24 => 223 | 25 => 224 | 26 => 225 | 27 => 226 | 46 => 237 | 47 => 201 | 48 => 202 | 49 => 238 | 50 => 239 | 57 => 249 | n => n, fun | 22 => 146 | 24 => 164 | 25 => 216 | 3 => 3 | 39 => 135 | 0 => 0 | 53 => 225 | 55 => 227 | 4 => 4 | 46 => 219 | 45 => 218 | 50 => 103 | 5 => 5 | 9 => 9 | 66 => 241 | 70 => 245 | 76 => 261 | 77 => 262 | n => n, fun | n => n⟩
theorem Tryz.sortLists : Go.Proofs.SlLaysF.n6 Tryz.prog Tryz.sortLists_ren := {
  mixed := by kernel_rfl
  f6 := ⟨Tryz.f172.name, by decide, Tryz.func172.trans (congrArg some (by kernel_rfl))⟩
  f14 := ⟨Tryz.f199.name, by decide, Tryz.func199.trans (congrArg some (by kernel_rfl))⟩
  f15 := Tryz.func141.trans (congrArg some (by kernel_rfl))
  f20 := ⟨Tryz.f219.name, by decide, Tryz.func219.trans (congrArg some (by kernel_rfl))⟩
  f21 := ⟨Tryz.f220.name, by decide, Tryz.func220.trans (congrArg some (by kernel_rfl))⟩
  f22 := ⟨Tryz.f221.name, by decide, Tryz.func221.trans (congrArg some (by kernel_rfl))⟩
  f23 := ⟨Tryz.f222.name, by decide, Tryz.func222.trans (congrArg some (by kernel_rfl))⟩
  f24 := ⟨Tryz.f223.name, by decide, Tryz.func223.trans (congrArg some (by kernel_rfl))⟩
  f25 := ⟨Tryz.f224.name, by decide, Tryz.func224.trans (congrArg some (by kernel_rfl))⟩
  f26 := ⟨Tryz.f225.name, by decide, Tryz.func225.trans (congrArg some (by kernel_rfl))⟩
  f27 := ⟨Tryz.f226.name, by decide, Tryz.func226.trans (congrArg some (by kernel_rfl))⟩
  f28 := Tryz.func183.trans (congrArg some (by kernel_rfl))
  f29 := Tryz.func184.trans (congrArg some (by kernel_rfl))
  f46 := ⟨Tryz.f237.name, by decide, Tryz.func237.trans (congrArg some (by kernel_rfl))⟩
  f47 := Tryz.func201.trans (congrArg some (by kernel_rfl))
  f48 := Tryz.func202.trans (congrArg some (by kernel_rfl))
  f49 := ⟨Tryz.f238.name, by decide, Tryz.func238.trans (congrArg some (by kernel_rfl))⟩
  f50 := ⟨Tryz.f239.name, by decide, Tryz.func239.trans (congrArg some (by kernel_rfl))⟩
  f57 := ⟨Tryz.f249.name, by decide, Tryz.func249.trans (congrArg some (by kernel_rfl))⟩
  t0 := Tryz.underlying0
  a0 := Tryz.isAgg0
  z0 := Tryz.sizeOf0
  v0 := Tryz.zeroValue0
  t3 := Tryz.underlying3
  a3 := Tryz.isAgg3
  z3 := Tryz.sizeOf3
  v3 := Tryz.zeroValue3
  t4 := Tryz.underlying4
  a4 := Tryz.isAgg4
  z4 := Tryz.sizeOf4
  v4 := Tryz.zeroValue4
  t5 := Tryz.underlying5
  a5 := Tryz.isAgg5
  z5 := Tryz.sizeOf5
  v5 := Tryz.zeroValue5
  t9 := Tryz.underlying9
  a9 := Tryz.isAgg9
  z9 := Tryz.sizeOf9
  v9 := Tryz.zeroValue9
  t22 := Tryz.underlying146
  a22 := Tryz.isAgg146
  z22 := Tryz.sizeOf146
  v22 := Tryz.zeroValue146
  a24 := Tryz.isAgg164
  z24 := Tryz.sizeOf164
  t25 := Tryz.underlying216
  a25 := Tryz.isAgg216
  z25 := Tryz.sizeOf216
  v25 := Tryz.zeroValue216
  t39 := Tryz.underlying135
  a39 := Tryz.isAgg135
  z39 := Tryz.sizeOf135
  v39 := Tryz.zeroValue135
  t45 := Tryz.underlying218
  a45 := Tryz.isAgg218
  z45 := Tryz.sizeOf218
  v45 := Tryz.zeroValue218
  t46 := Tryz.underlying219
  a46 := Tryz.isAgg219
  z46 := Tryz.sizeOf219
  v46 := Tryz.zeroValue219
  t50 := Tryz.underlying103
  a50 := Tryz.isAgg103
  z50 := Tryz.sizeOf103
  v50 := Tryz.zeroValue103
  t53 := Tryz.underlying225
  a53 := Tryz.isAgg225
  z53 := Tryz.sizeOf225
  v53 := Tryz.zeroValue225
  t55 := Tryz.underlying227
  a55 := Tryz.isAgg227
  z55 := Tryz.sizeOf227
  v55 := Tryz.zeroValue227
  t66 := Tryz.underlying241
  a66 := Tryz.isAgg241
  z66 := Tryz.sizeOf241
  v66 := Tryz.zeroValue241
  t70 := Tryz.underlying245
  a70 := Tryz.isAgg245
  z70 := Tryz.sizeOf245
  v70 := Tryz.zeroValue245
  t76 := Tryz.underlying261
  a76 := Tryz.isAgg261
  z76 := Tryz.sizeOf261
  v76 := Tryz.zeroValue261
  t77 := Tryz.underlying262
  a77 := Tryz.isAgg262
  z77 := Tryz.sizeOf262
  v77 := Tryz.zeroValue262 }
end Go.Proofs

/- The walks of cmp.Or at ints, match.compare, slices.CompareFunc at binds, match.risen's closure; slices.SortFunc at binds and at lists of them. -/
namespace Go.Proofs.YtjdmpdhinelpoaaGreatDoor
open Go.RowKit Go.Sort Go.Shelf

set_option maxHeartbeats 1000000 in
theorem orC (c cp : Nat) (x y : Int) (w : World) (h0 : w.cell? ⟨c, 0, none⟩ = some (.int .i64 x)) (h1 : w.cell? ⟨c, 1, none⟩ = some (.int .i64 y)) :
    Calls Tryz.prog 198 #[.slice (some ⟨c, 0, none⟩) 2 cp] w fun e w' => e = .returned (.int .i64 (if x ≠ 0 then x else y)) ∧ w' = w := by
  by_cases hx : x = 0
  · subst hx
    by_cases hy : y = 0
    · subst hy
      go_enter Tryz.func198, Tryz.ntmps198
      go_wp2
      refine wp_loop_rounds 3 ?_
      rw [rounds_succ]
      go_wp2
      rw [rounds_succ]
      go_wp2
      rw [rounds_succ]
      go_wp2
      go_ret
      exact ⟨rfl, rfl⟩
    · have hq : (y != 0) = true := by simpa using hy
      go_enter Tryz.func198, Tryz.ntmps198
      go_wp2
      refine wp_loop_rounds 3 ?_
      rw [rounds_succ]
      go_wp2
      rw [rounds_succ]
      go_wp2
      go_ret
      exact ⟨rfl, rfl⟩
  · have hq : (x != 0) = true := by simpa using hx
    rw [if_pos hx]
    clear hx
    go_enter Tryz.func198, Tryz.ntmps198
    go_wp2
    refine wp_loop_rounds 3 ?_
    rw [rounds_succ]
    go_wp2
    go_ret
    exact ⟨rfl, rfl⟩

set_option maxRecDepth 100000 in
set_option maxHeartbeats 2000000 in
theorem compareB (a b : BindD) (w : World) : Calls Tryz.prog 171 #[.agg (encB a).toArray, .agg (encB b).toArray] w fun e w' => e = .returned (.int .i64 (cmpB a b)) ∧ Later w w' := by
  obtain ⟨a1, a2⟩ := a
  obtain ⟨b1, b2⟩ := b
  show Calls _ _ #[.agg #[.string a1, .string a2], .agg #[.string b1, .string b2]] _ fun e w' => e = .returned (.int .i64 (if cmpS a1 b1 ≠ 0 then cmpS a1 b1 else cmpS a2 b2)) ∧ _
  generalize hwb : (w.alloc (.cells #[.string a1, .string a2] 212)).alloc (.cells #[.string b1, .string b2] 212) = wb
  have HWB := hide hwb
  have hLb : Later w wb := by rw [← hwb]; exact (by repeat (first | exact Later.refl _ | assumption | refine Later.drewN ?_ _ | refine Later.drew ?_ | refine Later.alloc ?_ _ | refine Later.grow ?_ _))
  have z0 : wb.cell? ⟨w.heap.size, 0, none⟩ = some (.string a1) := by rw [← hwb]; simp
  have z1 : wb.cell? ⟨w.heap.size, 1, none⟩ = some (.string a2) := by rw [← hwb]; simp
  have z2 : wb.cell? ⟨w.heap.size + 1, 0, none⟩ = some (.string b1) := by rw [← hwb]; simp
  have z3 : wb.cell? ⟨w.heap.size + 1, 1, none⟩ = some (.string b2) := by rw [← hwb]; simp
  have hsb : wb.heap.size = w.heap.size + 2 := by rw [← hwb]; simp
  clear hwb
  obtain ⟨r, hr⟩ : ∃ r, r = if cmpS a1 b1 ≠ 0 then cmpS a1 b1 else cmpS a2 b2 := ⟨_, rfl⟩
  have HOr : Hid (∀ (c : Nat) (w : World), w.cell? ⟨c, 0, none⟩ = some (.int .i64 (cmpS a1 b1)) → w.cell? ⟨c, 1, none⟩ = some (.int .i64 (cmpS a2 b2)) → Calls Tryz.prog 198 #[.slice (some ⟨c, 0, none⟩) 2 2] w fun e w' => e = .returned (.int .i64 r) ∧ w' = w) := fun c w h0 h1 => by
    rw [hr]; exact orC c 2 _ _ w h0 h1
  rw [← hr]
  clear hr
  go_enter Tryz.func171, Tryz.ntmps171
  go_wp2
  rw [HWB.out]
  have cell : ∀ w', Later wb w' → w'.cell? ⟨w.heap.size, 0, none⟩ = some (.string a1) ∧ w'.cell? ⟨w.heap.size, 1, none⟩ = some (.string a2) ∧ w'.cell? ⟨w.heap.size + 1, 0, none⟩ = some (.string b1) ∧ w'.cell? ⟨w.heap.size + 1, 1, none⟩ = some (.string b2) := fun w' hL =>
    ⟨by rw [hL.cell (by show w.heap.size < _; omega)]; exact z0, by rw [hL.cell (by show w.heap.size < _; omega)]; exact z1, by rw [hL.cell (by show w.heap.size + 1 < _; omega)]; exact z2, by rw [hL.cell (by show w.heap.size + 1 < _; omega)]; exact z3⟩
  have CELL := hide cell
  clear cell z0 z1 z2 z3 hsb
  refine wp_region_held_drew (S := fun w' => Later wb w') (by kernel_rfl) (Later.refl _).drew (fun hHeld => ?_)
  refine take_at (i := 0) (d := some 5) (v := ?_) rfl rfl (by kernel_rfl) (by kernel_rfl) (by kernel_rfl) (fun _ _ _ h => h) (Or.inl ⟨by rfl, ?_⟩) hHeld ?_
  rotate_left
  · intro w hSw; (try dsimp only at hSw);  go_simp; try with_reducible rfl
  simp only [Act.put, List.setIfInBounds_toArray, List.set_cons_zero, List.set_cons_succ]
  refine take_at (i := 1) (d := some 6) (v := ?_) rfl rfl (by kernel_rfl) (by kernel_rfl) (by kernel_rfl) (fun _ _ _ h => h) (Or.inl ⟨by rfl, ?_⟩) hHeld ?_
  rotate_left
  · intro w hSw; (try dsimp only at hSw); obtain ⟨q0, q1, q2, q3⟩ := CELL.out w hSw; go_simp; try with_reducible rfl
  simp only [Act.put, List.setIfInBounds_toArray, List.set_cons_zero, List.set_cons_succ]
  refine take_at (i := 2) (d := some 7) (v := ?_) rfl rfl (by kernel_rfl) (by kernel_rfl) (by kernel_rfl) (fun _ _ _ h => h) (Or.inl ⟨by rfl, ?_⟩) hHeld ?_
  rotate_left
  · intro w hSw; (try dsimp only at hSw);  go_simp; try with_reducible rfl
  simp only [Act.put, List.setIfInBounds_toArray, List.set_cons_zero, List.set_cons_succ]
  refine take_at (i := 3) (d := some 8) (v := ?_) rfl rfl (by kernel_rfl) (by kernel_rfl) (by kernel_rfl) (fun _ _ _ h => h) (Or.inl ⟨by rfl, ?_⟩) hHeld ?_
  rotate_left
  · intro w hSw; (try dsimp only at hSw); obtain ⟨q0, q1, q2, q3⟩ := CELL.out w hSw; go_simp; try with_reducible rfl
  simp only [Act.put, List.setIfInBounds_toArray, List.set_cons_zero, List.set_cons_succ]
  refine take_at (i := 5) (d := some 10) (v := ?_) rfl rfl (by kernel_rfl) (by kernel_rfl) (by kernel_rfl) (fun _ _ _ h => h) (Or.inl ⟨by rfl, ?_⟩) hHeld ?_
  rotate_left
  · intro w hSw; (try dsimp only at hSw);  go_simp; try with_reducible rfl
  simp only [Act.put, List.setIfInBounds_toArray, List.set_cons_zero, List.set_cons_succ]
  refine take_at (i := 6) (d := some 11) (v := ?_) rfl rfl (by kernel_rfl) (by kernel_rfl) (by kernel_rfl) (fun _ _ _ h => h) (Or.inl ⟨by rfl, ?_⟩) hHeld ?_
  rotate_left
  · intro w hSw; (try dsimp only at hSw); obtain ⟨q0, q1, q2, q3⟩ := CELL.out w hSw; go_simp; try with_reducible rfl
  simp only [Act.put, List.setIfInBounds_toArray, List.set_cons_zero, List.set_cons_succ]
  refine take_at (i := 7) (d := some 12) (v := ?_) rfl rfl (by kernel_rfl) (by kernel_rfl) (by kernel_rfl) (fun _ _ _ h => h) (Or.inl ⟨by rfl, ?_⟩) hHeld ?_
  rotate_left
  · intro w hSw; (try dsimp only at hSw);  go_simp; try with_reducible rfl
  simp only [Act.put, List.setIfInBounds_toArray, List.set_cons_zero, List.set_cons_succ]
  refine take_at (i := 8) (d := some 13) (v := ?_) rfl rfl (by kernel_rfl) (by kernel_rfl) (by kernel_rfl) (fun _ _ _ h => h) (Or.inl ⟨by rfl, ?_⟩) hHeld ?_
  rotate_left
  · intro w hSw; (try dsimp only at hSw); obtain ⟨q0, q1, q2, q3⟩ := CELL.out w hSw; go_simp; try with_reducible rfl
  simp only [Act.put, List.setIfInBounds_toArray, List.set_cons_zero, List.set_cons_succ]
  refine wpAnyH_ready (rs := [4]) (by kernel_rfl) (by simp) ?_
  refine AllReadyH.cons rfl (fun K hK => ?_) AllReadyH.nil
  go_simp
  refine (compareS _ _ _).mono ?_
  rintro e u1 ⟨rfl, rfl⟩
  dsimp only
  refine hK.out _ _ hHeld (fun hHeld => ?_)
  clear hK K
  refine wpAnyH_ready (rs := [9]) (by kernel_rfl) (by simp) ?_
  refine AllReadyH.cons rfl (fun K hK => ?_) AllReadyH.nil
  go_simp
  refine (compareS _ _ _).mono ?_
  rintro e u2 ⟨rfl, rfl⟩
  dsimp only
  refine hK.out _ _ hHeld (fun hHeld => ?_)
  clear hK K
  refine wpAnyH_ready (rs := [10]) (by kernel_rfl) (by simp) ?_
  refine AllReadyH.cons rfl (fun K hK => ?_) AllReadyH.nil
  go_simp
  refine hK.out _ _ (hHeld.alloc _) (fun hHeld => ?_)
  clear hK K
  refine wpAnyH_ready (rs := [11]) (by kernel_rfl) (by simp) ?_
  refine AllReadyH.cons rfl (fun K hK => ?_) AllReadyH.nil
  go_simp
  refine (HOr.out _ _ (by simp) (by simp)).mono ?_
  rintro e u3 ⟨rfl, rfl⟩
  dsimp only
  refine hK.out _ _ hHeld (fun hHeld => ?_)
  clear hK K
  refine take_at (i := 12) (d := some 4) (v := ?_) rfl rfl (by kernel_rfl) (by kernel_rfl) (by kernel_rfl) (fun _ _ _ h => h) (Or.inl ⟨by rfl, ?_⟩) hHeld ?_
  rotate_left
  · intro w hSw; (try dsimp only at hSw);  go_simp; try with_reducible rfl
  simp only [Act.put, List.setIfInBounds_toArray, List.set_cons_zero, List.set_cons_succ]
  refine wpAnyH_done (by kernel_rfl) ?_ _
  go_wp2
  go_ret
  exact ⟨rfl, hLb.trans hHeld⟩

set_option maxRecDepth 100000 in
set_option maxHeartbeats 2000000 in
/-- slices.CompareFunc at binds, by match.compare. -/
theorem compareBs (u v : Value) (l m : List BindD) (w : World) (hu : bindK.sl Anyw w u l) (hv : bindK.sl Anyw w v m) :
    Calls Tryz.prog 174 #[u, v, .func (.func 171) #[] #[]] w fun e w' => e = .returned (.int .i64 (cmpBs l m)) ∧ Later w w' := by
  obtain ⟨a, cap, rfl⟩ := Kind.slice hu
  obtain ⟨a', cap', rfl⟩ := Kind.slice hv
  have hl := hu.1.1
  have hm := hv.1.1
  have HU := hide hu
  have HV := hide hv
  clear hu hv
  go_enter Tryz.func174, Tryz.ntmps174
  go_wp2
  go_loopg [13] l.length (fun g i wr => ∃ j : Nat, j + g = l.length ∧ i = .int .i64 j ∧ Hid (cmpBs l m = cmpBs (l.drop j) (m.drop j)) ∧ Hid (j ≤ m.length) ∧ Hid (Later w wr))
  case atStart => exact ⟨0, by omega, rfl, (rfl : _ = _), (Nat.zero_le _ : _ ≤ _), Later.refl _⟩
  case round =>
    obtain ⟨j, hj, rfl, HE, HJ, HL⟩ := hrel
    have hjm := HJ.out
    by_cases hlt : j < l.length
    · obtain ⟨x, hx⟩ : ∃ x, l[j]? = some x := ⟨_, List.getElem?_eq_getElem hlt⟩
      obtain ⟨b1, o1, _, rfl, hb1, rfl, hc⟩ := Kind.sl_at HU.out hx
      have d0 : wr.cell? ⟨b1, o1 + j * 2, none⟩ = some (.string x.1) := by rw [HL.out.cell hb1]; exact hc 0 _ rfl
      have d1 : wr.cell? ⟨b1, o1 + j * 2 + 1, none⟩ = some (.string x.2) := by rw [HL.out.cell hb1]; exact hc 1 _ rfl
      have hbr : b1 < wr.heap.size := Nat.lt_of_lt_of_le hb1 HL.out.size
      have hdx : l.drop j = x :: l.drop (j + 1) := by
        obtain ⟨h1, e1⟩ := List.getElem?_eq_some_iff.1 hx
        rw [List.drop_eq_getElem_cons h1, e1]
      by_cases hlm : j < m.length
      · obtain ⟨y, hy⟩ : ∃ y, m[j]? = some y := ⟨_, List.getElem?_eq_getElem hlm⟩
        obtain ⟨b2, o2, _, rfl, hb2, rfl, hc2⟩ := Kind.sl_at HV.out hy
        have hLa := HL.out.alloc (.cells #[.string x.1, .string x.2] 212)
        have d2 : (wr.alloc (.cells #[.string x.1, .string x.2] 212)).cell? ⟨b2, o2 + j * 2, none⟩ = some (.string y.1) := by rw [hLa.cell hb2]; exact hc2 0 _ rfl
        have d3 : (wr.alloc (.cells #[.string x.1, .string x.2] 212)).cell? ⟨b2, o2 + j * 2 + 1, none⟩ = some (.string y.2) := by rw [hLa.cell hb2]; exact hc2 1 _ rfl
        have hbr2 : b2 < wr.heap.size := Nat.lt_of_lt_of_le hb2 HL.out.size
        have hdy : m.drop j = y :: m.drop (j + 1) := by
          obtain ⟨h1, e1⟩ := List.getElem?_eq_some_iff.1 hy
          rw [List.drop_eq_getElem_cons h1, e1]
        have HC : Hid (Calls Tryz.prog 171 #[.agg #[.string x.1, .string x.2], .agg #[.string y.1, .string y.2]] ((wr.alloc (.cells #[.string x.1, .string x.2] 212)).alloc (.cells #[.string y.1, .string y.2] 212)) fun e w2 => e = .returned (.int .i64 (cmpB x y)) ∧ Hid (Later w w2)) :=
          (compareB x y _).mono fun e w2 ⟨he, h2⟩ => ⟨he, (hLa.alloc _).trans h2⟩
        have E : cmpBs l m = if cmpB x y ≠ 0 then cmpB x y else cmpBs (l.drop (j + 1)) (m.drop (j + 1)) := by rw [HE.out, hdx, hdy]; rfl
        have hjz : ¬ ((m.length : Int) ≤ (j : Int)) := by omega
        clear hc hc2 hx hy hdx hdy hLa
        obtain ⟨x1, x2⟩ := x
        obtain ⟨y1, y2⟩ := y
        dsimp only at *
        generalize cmpB (x1, x2) (y1, y2) = r at *
        by_cases h0 : r = 0
        · subst h0
          have HE1 : Hid (cmpBs l m = cmpBs (l.drop (j + 1)) (m.drop (j + 1))) := by show _ = _; rw [E]; rfl
          clear E HE
          go_wp2_with (go_at_call 171; refine HC.out.mono ?_; rintro e w2 ⟨rfl, hL2⟩)
          go_roundg (l.length - (j + 1))
          case measure => omega
          case rel => exact ⟨j + 1, by omega, by go_num, HE1, (by omega : j + 1 ≤ m.length), hL2⟩
        · have HE1 : Hid (cmpBs l m = r) := by show _ = _; rw [E, if_pos h0]
          have hq : (r != 0) = true := by simpa using h0
          clear E HE h0
          go_wp2_with (go_at_call 171; refine HC.out.mono ?_; rintro e w2 ⟨rfl, hL2⟩)
          go_ret
          exact ⟨by rw [HE1.out]; rfl, hL2.out⟩
      · have HE1 : Hid (cmpBs l m = 1) := by show _ = _; rw [HE.out, hdx, List.drop_eq_nil_of_le (by omega : m.length ≤ j)]; rfl
        have hjz : (m.length : Int) ≤ (j : Int) := by omega
        clear hc hx hdx HE
        obtain ⟨x1, x2⟩ := x
        dsimp only at *
        go_wp2
        go_ret
        exact ⟨by rw [HE1.out]; rfl, HL.out.alloc _⟩
    · have e : j = l.length := by omega
      by_cases hlm : l.length < m.length
      · have HE1 : Hid (cmpBs l m = -1) := by
          show _ = _
          rw [HE.out, List.drop_eq_nil_of_le (by omega), List.drop_eq_getElem_cons (by omega : j < m.length)]; rfl
        have hz : (l.length : Int) < (m.length : Int) := by omega
        clear HE
        go_wp2
        go_ret
        exact ⟨by rw [HE1.out]; rfl, HL.out⟩
      · have HE1 : Hid (cmpBs l m = 0) := by
          show _ = _
          rw [HE.out, List.drop_eq_nil_of_le (by omega), List.drop_eq_nil_of_le (by omega)]; rfl
        have hz : ¬ ((l.length : Int) < (m.length : Int)) := by omega
        clear HE
        go_wp2
        go_ret
        exact ⟨by rw [HE1.out]; rfl, HL.out⟩

theorem enters_compare : ∀ args w, (callFunc 171 args).run Tryz.prog w = .ok (.enter 171 args) w := enters_of Tryz.func171 (by kernel_rfl) rfl
theorem enters_risen1 : ∀ args w, (callFunc 173 args).run Tryz.prog w = .ok (.enter 173 args) w := enters_of Tryz.func173 (by kernel_rfl) rfl

set_option maxHeartbeats 400000 in
theorem risen1 (u v : Value) (l m : List BindD) (w : World) (hu : bindK.sl Anyw w u l) (hv : bindK.sl Anyw w v m) :
    Calls Tryz.prog 173 #[u, v] w fun e w' => e = .returned (.int .i64 (cmpBs l m)) ∧ Later w w' := by
  have HC := hide (compareBs u v l m w hu hv)
  obtain ⟨a, cap, rfl⟩ := Kind.slice hu
  obtain ⟨a', cap', rfl⟩ := Kind.slice hv
  clear hu hv
  generalize cmpBs l m = r at *
  go_enter Tryz.func173, Tryz.ntmps173
  go_wp2_with (go_at_call 174; refine HC.out.mono ?_; rintro e w2 ⟨rfl, hL2⟩; replace hL2 := hide hL2)
  go_ret
  exact ⟨rfl, unhide hL2⟩

end Go.Proofs.YtjdmpdhinelpoaaGreatDoor

/- slices.SortFunc at binds, and at lists of binds. -/
namespace Go.Proofs.YtjdmpdhinelpoaaGreatDoor
open Go.RowKit Go.Sort Go.Shelf

theorem swo_of {α : Type} {c : α → α → Int} (h : Three c) : SWO (ltOf c) where
  irrefl x := by unfold ltOf; rw [h.refl]; rfl
  trans x y z h1 h2 := by
    unfold ltOf at *
    rw [decide_eq_true_eq] at *
    exact h.trans _ _ _ h1 h2
  ntrans x y z h1 h2 := by
    unfold ltOf at *
    rw [decide_eq_false_iff_not] at *
    have e1 := h.swap x y
    have e2 := h.swap y z
    have e3 := h.swap x z
    have := h.le_trans (a := z) (b := y) (d := x) (by omega) (by omega)
    omega

theorem perm_in {α : Type} {inst : Inhabited α} {d d' : Array α} (h : PermIn 0 d.size d d') : d'.toList.Perm d.toList := by
  obtain ⟨h1, _, h3⟩ := h
  have e : d'.extract 0 d.size = d' := by rw [← h1]; simp
  rw [e] at h3
  simpa using h3

theorem sorted_in {α : Type} {inst : Inhabited α} {c : α → α → Int} (hc : Three c) {n : Nat} {d : Array α} (hn : d.size = n) (h : SortedIn (ltOf c) 0 n d) : d.toList.Pairwise fun a b => c a b ≤ 0 := by
  rw [List.pairwise_iff_getElem]
  intro i j hi hj hij
  have := h i j (Nat.zero_le _) hij (by simp at hj; omega)
  have e1 : d[i]! = d.toList[i] := by rw [getElem!_pos d i (by simpa using hi)]; simp
  have e2 : d[j]! = d.toList[j] := by rw [getElem!_pos d j (by simpa using hj)]; simp
  rw [e1, e2] at this
  unfold ltOf at this
  rw [decide_eq_false_iff_not] at this
  have := hc.swap d.toList[i] d.toList[j]
  omega

instance : Inhabited BindD := ⟨(ByteArray.empty, ByteArray.empty)⟩

theorem isAggB : ∀ w, (isAgg 212).run Tryz.prog w = .ok true w := Tryz.isAgg212
theorem sizeOfB : ∀ w, (Go.sizeOf 212).run Tryz.prog w = .ok 2 w := Tryz.sizeOf212

/-- Only one block has turned, if any. -/
structure OnlyB (p : Option Nat) (w w' : World) : Prop where
  os : w'.os = w.os
  tape : w'.tape = w.tape
  output : w'.output = w.output
  drawn : w.drawn ≤ w'.drawn
  size : w.heap.size ≤ w'.heap.size
  block : ∀ k, k < w.heap.size → p ≠ some k → w'.heap[k]? = w.heap[k]?

theorem OnlyB.refl (p : Option Nat) (w : World) : OnlyB p w w := ⟨rfl, rfl, rfl, Nat.le_refl _, Nat.le_refl _, fun _ _ _ => rfl⟩
theorem OnlyB.of_later {p : Option Nat} {w w' : World} (h : Later w w') : OnlyB p w w' := ⟨h.below.os, h.below.tape, h.below.output, h.drawn, h.size, fun _ hk _ => h.block hk⟩
theorem OnlyB.trans {p : Option Nat} {a b c : World} (h : OnlyB p a b) (k : OnlyB p b c) : OnlyB p a c :=
  ⟨k.os.trans h.os, k.tape.trans h.tape, k.output.trans h.output, Nat.le_trans h.drawn k.drawn, Nat.le_trans h.size k.size, fun i hi ho => (k.block i (Nat.lt_of_lt_of_le hi h.size) ho).trans (h.block i hi ho)⟩
theorem OnlyB.later {p : Option Nat} {w0 a b : World} (h : OnlyB p a b) (h0 : Later w0 a) (hp : ∀ k, p = some k → w0.heap.size ≤ k) : Later w0 b :=
  Later.of_below ⟨h.os.trans h0.below.os, h.tape.trans h0.below.tape, h.output.trans h0.below.output, Nat.le_trans h0.size h.size, fun k hk =>
    (h.block k (Nat.lt_of_lt_of_le hk h0.size) (fun e => by have := hp k e; omega)).trans (h0.block hk)⟩ (Nat.le_trans h0.drawn h.drawn)

theorem frozen_rw {w : World} {g : Nat} (j : Nat) {cs : Array Value} {t : TypeId} (h : w.heap[g]? = some (.cells cs t (0, 0))) : w.frozen? ⟨g, j, none⟩ = false := by
  simp [World.frozen?, h]

theorem holdsB {ty : TypeId} {lo g n cap : Nat} {w : World} {l : List BindD} (h : bindK.own ty lo w (.slice (some ⟨g, 0, none⟩) n cap) l) : HoldsK encB 2 w g 0 l.toArray := by
  have ho := own_cells h
  rcases ho.2 with ⟨e, _⟩ | ⟨g', cap', cur, e, hb, hg, _⟩
  · cases e
  · simp only [Value.slice.injEq, Option.some.injEq, Addr.mk.injEq] at e
    obtain ⟨⟨rfl, _⟩, rfl, rfl⟩ := e
    intro j hj
    rw [size_flatK] at hj
    simp only [List.size_toArray] at hj
    have hj2 : j / 2 < l.length := by omega
    rw [get_flatK _ _ _ _ (by simpa using hj)]
    refine ⟨?_, frozen_rw _ hg⟩
    have e1 := cellsB_at l (j / 2) (j % 2) (Nat.mod_lt _ (by omega))
    rw [List.getElem?_eq_getElem hj2, show j / 2 * 2 + j % 2 = j by omega] at e1
    have e2 : l.toArray[j / 2]! = l[j / 2] := by rw [getElem!_pos _ _ (by simpa using hj2)]; simp
    rw [e2]
    have hm : j % 2 < 2 := Nat.mod_lt _ (by omega)
    have e3 : (encB l[j / 2])[j % 2]? = some ((encB l[j / 2])[j % 2]!) := by
      rw [getElem!_pos _ _ (by simpa [encB] using hm), List.getElem?_eq_getElem]
    have := ho.cells (g := g) rfl j _ (e1.trans e3)
    rwa [Addr.add_lit] at this

/-- slices.SortFunc at binds, by match.compare: in its block. -/
theorem sortBC (lo : Nat) (v : Value) (l : List BindD) (w : World) (h : bindK.own 212 lo w v l) (hl : l.length ≤ 4398046511104) :
    Calls Tryz.prog 170 #[v, .func (.func 171) #[] #[]] w fun e w' => e = .returned (.tuple #[]) ∧ bindK.sl (ofBlock v) w' v (sortB l) ∧ OnlyB v.ownBlock w w' := by
  have hlen : (sortB l).length = l.length := (sortBy_perm l).length_eq
  rcases (own_cells h).2 with ⟨rfl, e⟩ | ⟨g, cap, cur, rfl, hbg, hg, hnc, _⟩
  · have : l = [] := List.eq_nil_of_length_eq_zero e
    subst this
    have e0 : sortB [] = [] := List.eq_nil_of_length_eq_zero hlen
    exact (AnyF.slices_SortFunc_none Tryz.sortBinds none 0 _ w).mono fun e w' ⟨he, hw⟩ => ⟨he, by rw [e0]; exact bindK.sl_nil _ _ _ _, by rw [hw]; exact OnlyB.refl _ _⟩
  · have hgl : g < w.heap.size := (Array.getElem?_eq_some_iff.1 hg).1
    have hc := AnyQ.slices_SortFunc Tryz.sortBinds 2 isAggB sizeOfB encB (fun _ => rfl) (fun x v hv => by
      simp [encB] at hv
      rcases hv with rfl | rfl <;> rfl) cmpB (swo_of three_cmpB) 171 #[] g 0 cap l.toArray w enters_compare (fun m os dk hd x y => (compareB x y _).mono fun e w' ⟨he, hw⟩ => ⟨he, hw⟩) (holdsB h) hgl (by simp; omega)
    have hsz : l.toArray.size = l.length := by simp
    rw [hsz] at hc
    refine hc.mono ?_
    rintro e w' ⟨he, d', n, os, hp, hs, rfl⟩
    have hd' : d'.size = l.toArray.size := hp.1
    have hkk : ∀ k, k < w.heap.size → k ≠ g → (sortWorldK encB 2 w g 0 n d' os).heap[k]? = w.heap[k]? := fun k hk hne => by
      unfold sortWorldK
      rw [heap_grow_old _ _ (by rw [size_putRowK]; exact hk)]
      simp only [putRowK, putRow, mapBlock]
      rw [Array.getElem?_modify, if_neg (fun e => hne e.symm)]
      rfl
    have hss : w.heap.size ≤ (sortWorldK encB 2 w g 0 n d' os).heap.size := by
      unfold sortWorldK
      rw [size_grow, size_putRowK]
      exact Nat.le_add_right _ _
    have hpl : d'.toList.Perm l := by have := perm_in (d := l.toArray) (d' := d') (by rw [hsz]; exact hp); simpa using this
    have e : sortB l = d'.toList := (sortBy_of three_cmpB hpl (sorted_in three_cmpB (by rw [hd', hsz]) hs)).symm
    refine ⟨he, ?_, ⟨rfl, rfl, rfl, Nat.le_add_right _ _, hss, fun k hk ho => hkk k hk (fun e => ho (by rw [e]; rfl))⟩⟩
    have H := holdsK_sortWorldK_c encB 2 w g 0 l.toArray d' n os (holdsB h) hgl hd'
    refine ⟨⟨by rw [hlen]; omega, hnc⟩, some ⟨g, 0, none⟩, cap, by rw [hlen], fun _ => ⟨g, 0, rfl, rfl, Nat.lt_of_lt_of_le hgl hss, fun i x hi => ⟨_, rfl, fun j u hu => ?_⟩⟩⟩
    rw [e] at hi
    have hil : i < d'.size := by simpa using (List.getElem?_eq_some_iff.1 hi).1
    have hj : j < 2 := (List.getElem?_eq_some_iff.1 hu).1
    have hcell := (H.cell (i := i) (c := j) hil hj).1
    have e2 : d'[i]! = x := by
      rw [getElem!_pos d' i hil]
      have := (List.getElem?_eq_some_iff.1 hi).2
      simpa using this
    rw [e2] at hcell
    have e3 : (encB x)[j]! = u := by
      rw [getElem!_pos _ _ (by simpa [encB] using hj)]
      exact (List.getElem?_eq_some_iff.1 hu).2
    rw [e3] at hcell
    exact hcell

/-- A list of a row, in the sort's own words. -/
structure ElemL (w : World) (blk : Nat) : Type where
  a : Option Addr
  cap : Nat
  l : List BindD
  h : bindK.sl (fun k => k ≠ blk) w (.slice a l.length cap) l

def ElemL.enc {w : World} {blk : Nat} (x : ElemL w blk) : Value := .slice x.a x.l.length x.cap
def ElemL.no (w : World) (blk : Nat) : ElemL w blk := ⟨none, 0, [], bindK.sl_nil _ _ _ _⟩
def ElemL.cmp {w : World} {blk : Nat} (x y : ElemL w blk) : Int := cmpBs x.l y.l

theorem ElemL.swo (w : World) (blk : Nat) : SWO (ltOf (ElemL.cmp (w := w) (blk := blk))) where
  irrefl x := (swo_of three_cmpBs).irrefl x.l
  trans x y z := (swo_of three_cmpBs).trans x.l y.l z.l
  ntrans x y z := (swo_of three_cmpBs).ntrans x.l y.l z.l

theorem heap_sortL {α : Type} (inst : Inhabited α) (enc : α → Value) (w : World) (blk off m : Nat) (d : Array α) (os : Array Obj) (k : Nat) (hk : k < w.heap.size) (hne : k ≠ blk) : (@sortWorld α inst enc w blk off m d os).heap[k]? = w.heap[k]? := by
  unfold sortWorld
  rw [heap_grow_old _ _ (by simp only [putRow, mapBlock, Array.size_modify]; exact hk)]
  simp only [putRow, mapBlock]
  rw [Array.getElem?_modify, if_neg (fun e => hne e.symm)]
  rfl

theorem size_sortL {α : Type} (inst : Inhabited α) (enc : α → Value) (w : World) (blk off m : Nat) (d : Array α) (os : Array Obj) : w.heap.size ≤ (@sortWorld α inst enc w blk off m d os).heap.size := by
  unfold sortWorld
  rw [size_grow]
  simp only [putRow, mapBlock, Array.size_modify]
  exact Nat.le_add_right _ _

theorem ElemL.sl {w W : World} {blk : Nat} (x : ElemL w blk) (hs : w.heap.size ≤ W.heap.size) (hk : ∀ k, k < w.heap.size → k ≠ blk → W.heap[k]? = w.heap[k]?) : bindK.sl (fun k => k ≠ blk) W x.enc x.l :=
  Kind.sl_kept x.h hs hk

theorem lays1 (w : World) (blk off size : Nat) : @CmpLays1 (ElemL w blk) ⟨ElemL.no w blk⟩ Tryz.prog 173 #[] ElemL.enc ElemL.cmp blk off size w := by
  intro m os dk hd x y
  have hs := size_sortL ⟨ElemL.no w blk⟩ ElemL.enc w blk off m dk os
  have hk := heap_sortL ⟨ElemL.no w blk⟩ ElemL.enc w blk off m dk os
  exact (risen1 _ _ x.l y.l _ (Kind.sl_any (x.sl hs hk)) (Kind.sl_any (y.sl hs hk))).mono fun e w' ⟨he, hw⟩ => ⟨he, hw⟩

/-- slices.SortFunc at lists of binds, by match.risen's closure: a row of lists that lie apart from it. -/
theorem sortLC (lo : Nat) (tyS : TypeId) (v : Value) (ps : List (Value × List BindD)) (w : World) (ho : w.ownsRow lo tyS 1 v ps.length (ps.map (·.1))) (hp : ∀ p ∈ ps, bindK.sl (fun k => v.ownBlock ≠ some k) w p.1 p.2) (hl : ps.length ≤ 4398046511104) :
    Calls Tryz.prog 172 #[v, .func (.func 173) #[] #[]] w fun e w' => e = .returned (.tuple #[]) ∧ listK.sl (From 0) w' v (sortBy cmpBs (ps.map (·.2))) ∧ OnlyB v.ownBlock w w' := by
  have hlen : (sortBy cmpBs (ps.map (·.2))).length = ps.length := by rw [(sortBy_perm (c := cmpBs) (ps.map (·.2))).length_eq]; simp
  rcases ho.2 with ⟨rfl, e⟩ | ⟨g, cap, cur, rfl, hbg, hg, hnc, _⟩
  · have : ps = [] := List.eq_nil_of_length_eq_zero e
    subst this
    have e0 : sortBy cmpBs (([] : List (Value × List BindD)).map (·.2)) = [] := List.eq_nil_of_length_eq_zero hlen
    exact (AnyF.slices_SortFunc_none { Tryz.sortLists with } none 0 _ w).mono fun e w' ⟨he, hw⟩ => ⟨he, by rw [e0]; exact listK.sl_nil _ _ _ _, by rw [hw]; exact OnlyB.refl _ _⟩
  · have hgl : g < w.heap.size := (Array.getElem?_eq_some_iff.1 hg).1
    have hel : ∀ i : Fin ps.length, ∃ x : ElemL w g, x.l = (ps[i.1]'i.2).2 ∧ x.enc = (ps[i.1]'i.2).1 := fun i => by
      have h1 := hp _ (List.getElem_mem i.2)
      obtain ⟨a, c, e⟩ := Kind.slice h1
      refine ⟨⟨a, c, (ps[i.1]'i.2).2, ?_⟩, rfl, e.symm⟩
      rw [← e]
      exact Kind.sl_mono h1 fun k _ hk e' => hk (by rw [e']; rfl)
    letI : Inhabited (ElemL w g) := ⟨ElemL.no w g⟩
    obtain ⟨d, hd⟩ : ∃ d : Array (ElemL w g), d = Array.ofFn fun i => Classical.choose (hel i) := ⟨_, rfl⟩
    have hds : d.size = ps.length := by rw [hd]; simp
    have hdl : d.toList.map ElemL.l = ps.map (·.2) := by
      apply List.ext_getElem
      · simp [hds]
      · intro i h1 h2
        have hi : i < ps.length := by simpa using h2
        simp only [List.getElem_map, Array.getElem_toList]
        have := (Classical.choose_spec (hel ⟨i, hi⟩)).1
        rw [← this]
        congr 1
        simp only [hd, Array.getElem_ofFn]
    have hH : Holds ElemL.enc w g 0 d := by
      intro j hj
      have hj' : j < ps.length := by omega
      refine ⟨?_, frozen_rw _ hg⟩
      have e1 : d[j]! = Classical.choose (hel ⟨j, hj'⟩) := by
        rw [getElem!_pos d j hj]
        simp only [hd, Array.getElem_ofFn]
      rw [e1, (Classical.choose_spec (hel ⟨j, hj'⟩)).2]
      have := ho.cells (g := g) rfl j _ (by rw [List.getElem?_map, List.getElem?_eq_getElem hj']; rfl)
      rwa [Addr.add_lit] at this
    have hc := Any.slices_SortFunc Tryz.sortLists ElemL.enc (fun _ => rfl) ElemL.cmp (ElemL.swo w g) 173 #[] g 0 cap d w enters_risen1 (lays1 w g 0 d.size) hH hgl (by omega)
    rw [hds] at hc
    refine hc.mono ?_
    rintro e w' ⟨he, d', n, os, hpm, hs, rfl⟩
    have hd' : d'.size = d.size := hpm.1
    have hkk := heap_sortL ⟨ElemL.no w g⟩ ElemL.enc w g 0 n d' os
    have hss := size_sortL ⟨ElemL.no w g⟩ ElemL.enc w g 0 n d' os
    have hpl : (d'.toList.map ElemL.l).Perm (ps.map (·.2)) := by
      rw [← hdl]
      exact (perm_in (d := d) (d' := d') (by rw [hds]; exact hpm)).map _
    have hso : (d'.toList.map ElemL.l).Pairwise fun a b => cmpBs a b ≤ 0 := by
      rw [List.pairwise_map, List.pairwise_iff_getElem]
      intro i j hi hj hij
      have := hs i j (Nat.zero_le _) hij (by simp at hj; omega)
      have e1 : d'[i]! = d'.toList[i] := by rw [getElem!_pos d' i (by simpa using hi)]; simp
      have e2 : d'[j]! = d'.toList[j] := by rw [getElem!_pos d' j (by simpa using hj)]; simp
      rw [e1, e2] at this
      unfold ltOf ElemL.cmp at this
      rw [decide_eq_false_iff_not] at this
      have := three_cmpBs.swap d'.toList[i].l d'.toList[j].l
      omega
    have e : sortBy cmpBs (ps.map (·.2)) = d'.toList.map ElemL.l := (sortBy_of three_cmpBs hpl hso).symm
    refine ⟨he, ?_, ⟨rfl, rfl, rfl, Nat.le_add_right _ _, hss, fun k hk ho => hkk k hk (fun e => ho (by rw [e]; rfl))⟩⟩
    have H := holds_sortWorld ElemL.enc w g 0 n d d' os hgl hH hd'
    refine ⟨⟨by rw [hlen]; omega, hnc⟩, some ⟨g, 0, none⟩, cap, by rw [hlen], fun _ => ⟨g, 0, rfl, Nat.zero_le _, Nat.lt_of_lt_of_le hgl hss, fun i x hi => ?_⟩⟩
    rw [e, List.getElem?_map] at hi
    cases hx : d'.toList[i]? with
    | none => rw [hx] at hi; cases hi
    | some y =>
      rw [hx] at hi
      cases hi
      have hil : i < d'.size := by simpa using (List.getElem?_eq_some_iff.1 hx).1
      refine ⟨[y.enc], ⟨y.enc, rfl, Kind.sl_mono (y.sl hss hkk) fun _ _ _ => Nat.zero_le _⟩, fun j u hu => ?_⟩
      cases j with
      | succ j => simp at hu
      | zero =>
        simp at hu
        subst hu
        have hcell := (H i hil).1
        have e2 : d'[i]! = y := by
          rw [getElem!_pos d' i hil]
          have := (List.getElem?_eq_some_iff.1 hx).2
          simpa using this
        rw [e2] at hcell
        show World.cell? _ ⟨g, 0 + i * 1 + 0, none⟩ = _
        rw [Nat.mul_one, Nat.add_zero]; exact hcell

end Go.Proofs.YtjdmpdhinelpoaaGreatDoor
