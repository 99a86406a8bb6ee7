/- Cells that stay, and cells of new blocks. -/
import Derived.Test.YtoklohfpkaiidaaGreatBase
namespace Go.Proofs.YtoklohfpkaiidaaGreat.Base
open Go.Proofs.YtoklohfpkaiidaaGreat.Gen Go.RowKit
theorem Gr.keep {w w' : World} (h : Gr w w') {b o : Nat} {v : Value} (hc : w.cell? ⟨b, o, none⟩ = some v) : w'.cell? ⟨b, o, none⟩ = some v := by
  rw [h.cell _ _ (World.block_lt_of_cell? _ _ hc)]; exact hc
theorem keep_alloc {w : World} {b o : Nat} {v : Value} (c : Obj) (hc : w.cell? ⟨b, o, none⟩ = some v) : (w.alloc c).cell? ⟨b, o, none⟩ = some v := by
  rw [World.cell?_alloc_lt _ _ _ (World.block_lt_of_cell? _ _ hc)]; exact hc
theorem new_cell (w : World) (c : Array Value) (t : TypeId) {i : Nat} {v : Value} (h : c[i]? = some v) : (w.alloc (.cells c t)).cell? ⟨w.heap.size, i, none⟩ = some v := by
  rw [World.cell?_alloc_new]; exact h
theorem lt_of_cell {w : World} {b o : Nat} {v : Value} (hc : w.cell? ⟨b, o, none⟩ = some v) : b < w.heap.size := World.block_lt_of_cell? _ _ hc
end Go.Proofs.YtoklohfpkaiidaaGreat.Base
