/- The walk of fact.keep, whatever the closure that is asked, and whatever it keeps to itself. -/
import Derived.Test.YthogickpeldhlaaOwn
import Derived.Shelf.Abstract
namespace Go.Proofs.Ythogickpeldhlaa
open Go.RowKit Go.Sort

/-- The first k facts, those of them that p takes. -/
def pick (p : Nat → Bool) (l : List FactD) : Nat → List FactD
  | 0 => []
  | k + 1 => if p k then pick p l k ++ [l.getD k noFact] else pick p l k

theorem pick_le (p : Nat → Bool) (l : List FactD) : ∀ k, (pick p l k).length ≤ k
  | 0 => Nat.le_refl _
  | k + 1 => by
    have := pick_le p l k
    unfold pick
    split <;> simp <;> omega

/-- What is asked of a closure: in every round it tells p k; it turns nothing but its own blocks (from lo up to hi), and its own state goes on. -/
structure Asked (g : Nat) (cb : Array Value) (lo hi : Nat) (w0 : World) (l : List FactD) (p : Nat → Bool) (S : Nat → World → Prop) : Prop where
  ask : ∀ k w' v, k < l.length → Later w0 w' → hi ≤ w'.heap.size → S k w' → FactV w0 v (l.getD k noFact) →
    Calls Try.prog g (#[v] ++ cb) w' fun e w'' => e = .returned (.bool (p k)) ∧ Only lo hi w' w'' ∧ S (k + 1) w''
  kept : ∀ k w' w'', S k w' → (∀ j, j < hi → w''.heap[j]? = w'.heap[j]?) → w'.heap.size ≤ w''.heap.size → S k w''

set_option maxHeartbeats 1000000 in
theorem keep (g : Nat) (cb : Array Value) (eg : ∀ args w, (callFunc g args).run Try.prog w = .ok (.enter g args) w) (lo hi : Nat) (w0 w : World) (v : Value) (l : List FactD) (p : Nat → Bool) (S : Nat → World → Prop)
    (hf : Facts w0 v l) (h0 : Later w0 w) (hlo : w0.heap.size ≤ lo) (hhi : hi ≤ w.heap.size) (hA : Asked g cb lo hi w0 l p S) (hS : S 0 w) :
    Calls Try.prog 61 #[v, .func (.func g) #[] cb] w fun e w' => ∃ v', e = .returned v' ∧ OwnF w' w.heap.size v' (pick p l l.length) ∧ Only lo hi w w' ∧ S l.length w' := by
  have HF := hide hf
  have HA := hide hA
  have HS := hide hS
  obtain ⟨a, cap, rfl, hn, hz⟩ := hf.addr
  clear hf hA hS
  go_enter Try.func61, Try.ntmps61
  go_wp2
  go_loopw [5, 10] (fun o i wr => ∃ k : Nat, k ≤ l.length ∧ i = .int .i64 k ∧ Hid (OwnF wr w.heap.size o (pick p l k)) ∧ Hid (Only lo hi w wr) ∧ Hid (S k wr)) (fun _ i _ => l.length - (intOf i).toNat)
  case atStart => exact ⟨0, by omega, rfl, OwnF.nil _ _, Only.refl _ _ _, HS⟩
  case round =>
    obtain ⟨k, hk, rfl, HO, HW, HK⟩ := hrel
    by_cases hlt : k < l.length
    · rcases hz with rfl | ⟨b, off, rfl⟩
      · simp at hlt
      have hL0 : Later w0 wr := HW.out.later h0 hlo
      obtain ⟨hb0, ax, lx, cx, g1, g2, fx⟩ := HF.out.at hlt
      have hb : b < wr.heap.size := Nat.lt_of_lt_of_le hb0 hL0.size
      rw [← hL0.cell (p := ⟨b, off + k * 2, none⟩) hb0] at g1
      rw [← hL0.cell (p := ⟨b, off + k * 2 + 1, none⟩) hb0] at g2
      have hltz : (k : Int) < (l.length : Int) := by omega
      have hwr : w.heap.size ≤ wr.heap.size := HW.out.size
      have hp : pick p l (k + 1) = if p k then pick p l k ++ [l.getD k noFact] else pick p l k := rfl
      have hpl := pick_le p l k
      have hlast : pick p l (k + 1) = pick p l (k + 1) := rfl
      generalize hfk : l.getD k noFact = f at *
      have HFK := hide hfk
      have HP := hide hp
      clear hfk hp hlast
      obtain ⟨nk, lk⟩ := f
      dsimp only at *
      have hcall := fun w' (h1 : Later w0 w') (h2 : hi ≤ w'.heap.size) (h3 : S k w') => HA.out.ask k w' (.agg #[.string nk, .slice ax lx cx]) hlt h1 h2 h3 (by rw [HFK.out]; exact fx)
      have HC := hide hcall
      clear hcall
      have hS1 : S k (wr.alloc (.cells #[.string nk, .slice ax lx cx] 25)) := HA.out.kept k wr _ HK.out (fun j hj => Below.heap_alloc _ _ _ (by omega)) (by simp)
      go_wp2_with fail
      refine (HC.out _ (hL0.alloc _) (by simp; omega) hS1).mono ?_
      rintro e w1 ⟨rfl, hO1, hS2⟩
      have z0 : w1.cell? ⟨wr.heap.size, 0, none⟩ = some (.string nk) := by rw [hO1.cell (by simp) (Or.inr (by show hi ≤ wr.heap.size; omega))]; simp
      have z1 : w1.cell? ⟨wr.heap.size, 1, none⟩ = some (.slice ax lx cx) := by rw [hO1.cell (by simp) (Or.inr (by show hi ≤ wr.heap.size; omega))]; simp
      have hsz : wr.heap.size < w1.heap.size := by have := hO1.size; simp at this; omega
      have hW1 : Only lo hi w w1 := HW.out.trans ((((Later.refl wr).alloc _).only).trans hO1)
      have hOw : OwnF w1 w.heap.size u5 (pick p l k) := ((HO.out.later ((Later.refl wr).alloc _)).only hO1 hhi)
      have hL1 : Later w0 w1 := hW1.later h0 hlo
      have HO1 := hide hOw
      have HW1 := hide hW1
      have HS2 := hide hS2
      clear hOw hW1 hS2
      cases hpk : p k
      · have HN : Hid (pick p l (k + 1) = pick p l k) := by show _ = _; rw [HP.out, hpk]; rfl
        go_wp2
        go_roundw
        case rel => exact ⟨k + 1, by omega, by go_num, (by rw [HN.out]; exact HO1.out : OwnF _ _ _ _), HW1, HS2⟩
        case measure => simp [intOf]; omega
      · have HN : Hid (pick p l (k + 1) = pick p l k ++ [(nk, lk)]) := by show _ = _; rw [HP.out, hpk]; rfl
        go_wp2_with fail
        refine (copied _ (nk, lk) _ (fx.later hL1)).mono ?_
        rintro e w2 ⟨sv, rfl, hs, hL2, hsb⟩
        have HO2 := hide (HO1.out.later hL2)
        obtain ⟨a3, c3, rfl⟩ := sliceStr hs
        obtain ⟨v', w', hrun, hO3, hg3, hd3⟩ := HO2.out.append (nk, lk) _ hs (fun q hq => ⟨by have := (hsb q hq).1; omega, (hsb q hq).2, fun e => by
          obtain ⟨xs, ho, _⟩ := HO1.out
          have := (ho.lt q e).2
          have := (hsb q hq).1
          omega⟩) (by omega) (by have := hL2.size; omega) rfl
        dsimp only at hrun hg3 hd3
        have hown : ∀ q, u5.ownBlock = some q → w.heap.size ≤ q := fun q e => by obtain ⟨xs, ho, _⟩ := HO1.out; exact (ho.lt q e).1
        have HR := hide hrun
        have HW3 : Hid (Only lo hi w w') := Only.grown (HW1.out.trans ((hL2.alloc _).only)) hg3 hd3 hown rfl rfl
        have HO3 := hide hO3
        have HS3 : Hid (S (k + 1) w') := HA.out.kept (k + 1) w1 _ HS2.out (fun j hj => by
          rw [hg3.block j (by have := hL2.size; simp; omega) (fun e => by have := hown j e.symm; omega), Below.heap_alloc _ _ _ (by have := hL2.size; omega)]
          exact hL2.block (by omega)) (by have := hg3.size; have := hL2.size; simp at *; omega)
        clear hrun hO3 hg3
        go_wp2_with (at_builtin; refine wpList_append_run rfl (.tmp 17) (.tmp 20) 22 rfl _ _ _ _ rfl rfl HR.out ?_)
        go_roundw
        case rel => exact ⟨k + 1, by omega, by go_num, (by rw [HN.out]; exact HO3.out : OwnF _ _ _ _), HW3, HS3⟩
        case measure => simp [intOf]; omega
    · go_wp2
      go_ret
      obtain rfl : k = l.length := by omega
      exact ⟨_, rfl, HO.out, HW.out, HK.out⟩

end Go.Proofs.Ythogickpeldhlaa
