/- The reference's WrongProgram: its closure. -/
import Derived.Test.YthogickpeldhlaaCrD
namespace Go.Proofs.Ythogickpeldhlaa
open Go.RowKit Go.Sort Go.Maps

set_option maxRecDepth 100000 in
set_option maxHeartbeats 400000 in
theorem badC (e i : Int) (g : Nat) (w : World) (h : w.cell? ⟨g, 0, none⟩ = some (.int .i64 i)) :
    Calls Try.prog 88 #[.int .i64 e, .pointer (some ⟨g, 0, none⟩)] w fun x w' => x = .returned (.agg #[.int .i64 e, .int .i64 i]) ∧ Later w w' := by
  have hg := World.block_lt_of_cell? w _ h
  have hg' : g < w.heap.size := hg
  have hgn : g ≠ w.heap.size := by omega
  go_enter Try.func88, Try.ntmps88
  go_wp2
  exact bodyPost_ret (v := .agg #[.int .i64 e, .int .i64 i]) (by simp [results, Try.results88, go_sem]) rfl ⟨rfl, (by repeat (first | exact Later.refl _ | assumption | refine Later.drewN ?_ _ | refine Later.drew ?_ | refine Later.alloc ?_ _ | refine Later.grow ?_ _))⟩

end Go.Proofs.Ythogickpeldhlaa
