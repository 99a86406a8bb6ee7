/- Frames: no further out. -/
import Derived.Test.YtoklohfpkaiidaaGreatFw2
namespace Go.Proofs.YtoklohfpkaiidaaGreat.Obj
open Go.Proofs.YtoklohfpkaiidaaGreat.Gen Go.Proofs.YtoklohfpkaiidaaGreat.Base Go.ChangeShapes Go.WideShapes Go.ChangeAt Go.RowKit
set_option linter.unusedVariables false
section
variable {w u : World} {m li : Nat} {lv dv : Value} {M : MS}
set_option maxRecDepth 100000 in
theorem fr_further0 (h : MemAt w m li lv dv M) {id sn mn bn : Int} (hI : M.isF id sn mn bn) : Calls Tryz.prog 85 #[.pointer (some ⟨m, 0, none⟩), .int .i64 id, .int .i64 0] w fun e w' => e = .returned (.tuple #[.int .i64 id, .bool true]) ∧ Below w.heap.size w w' := by
  have hIs := fr_Is h hI
  clear h hI
  go_enter Tryz.func85, Tryz.ntmps85
  go_wp2_with fail
  apply wp_scope_straight
  go_wp2_with (go_at_call 41; (with_reducible refine hIs.mono ?_); rintro e u1 ⟨rfl, hb1⟩; have HB := Lib.hid hb1; clear hb1; dsimp only)
  go_step3
  go_wp2_with fail
  go_loopw [1, 8, 23] (fun v1 v8 v23 wr => v1 = .int .i64 id ∧ v8 = .bool true ∧ v23 = .int .i64 0 ∧ Below w.heap.size w wr) (fun _ _ _ _ => 0)
  case atStart => exact ⟨rfl, rfl, rfl, HB.out⟩
  case round =>
    obtain ⟨rfl, rfl, rfl, hb⟩ := hrel
    have HBR := Lib.hid hb
    clear hb
    go_wp2_with fail
    rw [Exit.noGoto_ret]
    go_ret2
    exact ⟨rfl, HBR.out⟩
end
end Go.Proofs.YtoklohfpkaiidaaGreat.Obj
