/- Small laws that the walks share: endings, numbers that are well formed, bits, new blocks, and a number as a place. -/
import Derived.Test.YtoklohfpkaiidaaGreatRows
import Derived.WalkKit
import Derived.ProofKit
import Derived.OpenShut
import Derived.WalkLawsBesides
import Derived.Handy
import Derived.Laws.Bits64
import Derived.Laws.BitsAllLaws
import Derived.Lib.Hide
import Derived.Deep.QuietTactic
import Derived.BigQuiet
import Derived.Test.YtoklohfpkaiidaaGreatGen
namespace Go.Proofs.YtoklohfpkaiidaaGreat.Base
open Go.Proofs.YtoklohfpkaiidaaGreat.Gen Go.ChangeShapes Go.WideShapes Go.ChangeAt Go.RowKit
set_option linter.unusedVariables false

theorem ret_u32 {a b : Int} (h : a = b) : Ending.returned (.int .u32 a) = .returned (.int .u32 b) := by rw [h]
theorem ret_i64 {a b : Int} (h : a = b) : Ending.returned (.int .i64 a) = .returned (.int .i64 b) := by rw [h]
theorem ret_bool {a b : Bool} (h : a = b) : Ending.returned (.bool a) = .returned (.bool b) := by rw [h]
theorem ret_2i {a b a' b' : Int} (h : a = a') (h2 : b = b') : Ending.returned (.tuple #[.int .i64 a, .int .i64 b]) = .returned (.tuple #[.int .i64 a', .int .i64 b']) := by rw [h, h2]
theorem ret_ib {a a' : Int} {b b' : Bool} (h : a = a') (h2 : b = b') : Ending.returned (.tuple #[.int .i64 a, .bool b]) = .returned (.tuple #[.int .i64 a', .bool b']) := by rw [h, h2]
theorem u32_wf {v : Int} (h0 : 0 ≤ v) (h1 : v ≤ 4294967295) : (Lit.int .u32 v).wf = true := by go_wf
theorem i64_wf {v : Int} (h0 : -9223372036854775808 ≤ v) (h1 : v ≤ 9223372036854775807) : (Lit.int .i64 v).wf = true := WalkArith.wf_i64 ⟨h0, h1⟩

theorem grown_trans {a b c : World} (h : Grown a b) (k : Grown b c) : Grown a c :=
  ⟨World.keptBut_trans h.1 k.1, fun p => (k.2.1 p).trans (h.2.1 p), Nat.le_trans h.2.2 k.2.2⟩

theorem grown_drewN {W w' : World} (h : Grown W w') (n : Nat) : Grown W (w'.drewN n) := h
/-- The world has at most new blocks: of what was there nothing turns. -/
def Gr (w w' : World) : Prop := Grown w w' ∧ Below w.heap.size w w'
theorem Gr.refl (w : World) : Gr w w := ⟨Grown.refl w, Below.refl _ w⟩
theorem Gr.alloc {w w' : World} (h : Gr w w') (c : Array Value) (t : TypeId) : Gr w (w'.alloc (.cells c t)) := ⟨Grown.alloc h.1 c t, Below.alloc h.2 h.2.size _⟩
theorem Gr.drew {w w' : World} (h : Gr w w') : Gr w w'.drew := ⟨Grown.drew h.1, Below.drew h.2⟩
theorem Gr.drewN {w w' : World} (h : Gr w w') (n : Nat) : Gr w (w'.drewN n) := ⟨grown_drewN h.1 n, below_drewN h.2 n⟩
theorem Gr.trans {a b c : World} (h : Gr a b) (k : Gr b c) : Gr a c := ⟨grown_trans h.1 k.1, h.2.trans (k.2.mono h.2.size)⟩
theorem Gr.setCell {w w' : World} (h : Gr w w') {a : Addr} (ha : w.heap.size ≤ a.block) (v : Value) : Gr w (w'.setCell a v) := ⟨Grown.setCell h.1 ha v, Below.setCell h.2 ha v⟩
theorem Gr.size {w w' : World} (h : Gr w w') : w.heap.size ≤ w'.heap.size := h.2.size
theorem Gr.cell {w w' : World} (h : Gr w w') : ∀ b o, b < w.heap.size → w'.cell? ⟨b, o, none⟩ = w.cell? ⟨b, o, none⟩ := fun b o hb => h.2.cell (p := ⟨b, o, none⟩) hb
theorem Gr.frozen {w w' : World} (h : Gr w w') : ∀ b o, b < w.heap.size → w'.frozen? ⟨b, o, none⟩ = w.frozen? ⟨b, o, none⟩ := fun b o hb => h.2.frozen (p := ⟨b, o, none⟩) hb
theorem Gr.toGrown {w w' : World} (h : Gr w w') : Grown w w' := h.1
theorem two_cells {w : World} {b : Nat} {u0 u1 x y : Value} (h0 : w.cell? ⟨b, 0, none⟩ = some u0) (h1 : w.cell? ⟨b, 1, none⟩ = some u1) :
    ((w.setCell ⟨b, 0, none⟩ x).setCell ⟨b, 1, none⟩ y).cell? ⟨b, 0, none⟩ = some x ∧ ((w.setCell ⟨b, 0, none⟩ x).setCell ⟨b, 1, none⟩ y).cell? ⟨b, 1, none⟩ = some y := by
  have e1 : (w.setCell ⟨b, 0, none⟩ x).cell? ⟨b, 1, none⟩ = some u1 := by rw [World.cell?_setCell_other _ _ _ _ (by simp)]; exact h1
  refine ⟨?_, World.cell?_setCell_same _ _ _ e1⟩
  rw [World.cell?_setCell_other _ _ _ _ (by simp)]; exact World.cell?_setCell_same _ _ _ h0
theorem same_quiet {P : Program} {f : FuncId} {args : Array Value} {w : World} {n : Nat} {v : Value}
    (h : Calls P f args (w.drewN n) fun e w' => e = .returned v ∧ w.drewN n = w') : Calls P f args (w.drewN n) fun e w'' => e = .returned v ∧ ∃ m, w'' = w.drewN m :=
  Calls.mono h fun _ _ hh => ⟨hh.1, n, hh.2.symm⟩

theorem u32_mask (k : Nat) (x : Int) (hk : k ≤ 31) (h0 : 0 ≤ x) (h1 : x < 4294967296) : bits .and .u32 x ((2 ^ k - 1 : Nat) : Int) = x % ((2 ^ k : Nat) : Int) := by
  have hp : (2 : Nat) ^ k ≤ 2 ^ 31 := Nat.pow_le_pow_right (by decide) hk
  have hq : 0 < (2 : Nat) ^ k := Nat.two_pow_pos k
  rw [u32_and x _ h0 h1 (Int.natCast_nonneg _) (by omega), Int.toNat_natCast, Nat.and_two_pow_sub_one_eq_mod]
  obtain ⟨n, rfl⟩ := Int.eq_ofNat_of_zero_le h0
  simp
theorem u32_join (k : Nat) (x y : Int) (h0 : 0 ≤ x) (h1 : x < 4294967296) (h2 : x % ((2 ^ k : Nat) : Int) = 0) (h3 : 0 ≤ y) (h4 : y < ((2 ^ k : Nat) : Int)) (h5 : y < 4294967296) : bits .or .u32 x y = x + y := by
  obtain ⟨a, rfl⟩ := Int.eq_ofNat_of_zero_le h0
  obtain ⟨b, rfl⟩ := Int.eq_ofNat_of_zero_le h3
  rw [u32_or _ _ h0 h1 h3 h5, Int.toNat_natCast, Int.toNat_natCast, nat_join k a b (by exact_mod_cast h2) (by exact_mod_cast h4)]
  simp
theorem u32_join' (k : Nat) (x y : Int) (h0 : 0 ≤ x) (h1 : x < 4294967296) (h2 : y % ((2 ^ k : Nat) : Int) = 0) (h3 : 0 ≤ y) (h4 : x < ((2 ^ k : Nat) : Int)) (h5 : y < 4294967296) : bits .or .u32 x y = x + y := by
  obtain ⟨a, rfl⟩ := Int.eq_ofNat_of_zero_le h0
  obtain ⟨b, rfl⟩ := Int.eq_ofNat_of_zero_le h3
  rw [u32_or _ _ h0 h1 h3 h5, Int.toNat_natCast, Int.toNat_natCast, Nat.or_comm, nat_join k b a (by exact_mod_cast h2) (by exact_mod_cast h4)]
  simp [Int.add_comm]
theorem i64_mask (k : Nat) (x : Int) (hk : k ≤ 62) : bits .and .i64 x ((2 ^ k - 1 : Nat) : Int) = x % ((2 ^ k : Nat) : Int) := by
  have hp : (2 : Nat) ^ k ≤ 2 ^ 62 := Nat.pow_le_pow_right (by decide) hk
  have hq : 0 < (2 : Nat) ^ k := Nat.two_pow_pos k
  have hm : (2 ^ k - 1 : Nat) % 2 ^ 64 = 2 ^ k - 1 := Nat.mod_eq_of_lt (by omega)
  have e1 : (BitVec.ofInt 64 ((2 ^ k - 1 : Nat) : Int)).toNat = 2 ^ k - 1 := by
    rw [BitVec.ofInt_natCast, BitVec.toNat_ofNat, hm]
  have e2 : ((BitVec.ofInt 64 x).toNat : Int) = x % 18446744073709551616 := by
    rw [BitVec.toNat_ofInt]
    have : 0 ≤ x % ((2 ^ 64 : Nat) : Int) := Int.emod_nonneg _ (by decide)
    rw [Int.toNat_of_nonneg this]; rfl
  have e3 : bits .and .i64 x ((2 ^ k - 1 : Nat) : Int) = IntKind.i64.wrap (((BitVec.ofInt 64 x).toNat &&& (2 ^ k - 1) : Nat) : Int) := by
    show IntKind.i64.wrap ((BitVec.ofInt 64 x &&& BitVec.ofInt 64 _).toNat : Int) = _
    rw [BitVec.toNat_and, e1]
  rw [e3, Nat.and_two_pow_sub_one_eq_mod, Int.natCast_emod, e2]
  have hd : ((2 ^ k : Nat) : Int) ∣ 18446744073709551616 := by
    show ((2 ^ k : Nat) : Int) ∣ ((2 ^ 64 : Nat) : Int)
    exact Int.natCast_dvd_natCast.2 (Nat.pow_dvd_pow 2 (by omega))
  rw [Int.emod_emod_of_dvd x hd]
  have l0 : 0 ≤ x % ((2 ^ k : Nat) : Int) := Int.emod_nonneg _ (by omega)
  have l1 : x % ((2 ^ k : Nat) : Int) < ((2 ^ k : Nat) : Int) := Int.emod_lt_of_pos _ (by omega)
  rw [IntWalk.i64_in _ ⟨by omega, by omega⟩]

theorem emod_lo {v n : Int} (hn : 0 < n) (h : v.tmod n < 0) : v % n = v.tmod n + n := by
  rcases Int.lt_or_le v 0 with h0 | h0
  · rw [Int.tmod_eq_emod] at *
    have hd : ¬ n ∣ v := by
      intro hd
      have : v.tmod n = 0 := Int.tmod_eq_zero_of_dvd hd
      rw [Int.tmod_eq_emod] at this; omega
    simp [hd, show ¬ 0 ≤ v by omega] at h ⊢
    omega
  · have := Int.tmod_nonneg n h0; omega
theorem emod_hi {v n : Int} (hn : 0 < n) (h : 0 ≤ v.tmod n) : v % n = v.tmod n := by
  rcases Int.lt_or_le v 0 with h0 | h0
  · by_cases hd : n ∣ v
    · rw [Int.tmod_eq_zero_of_dvd hd, Int.emod_eq_zero_of_dvd hd]
    · exfalso
      rw [Int.tmod_eq_emod] at h
      simp [hd, show ¬ 0 ≤ v by omega] at h
      have := Int.emod_lt_of_pos v hn; omega
  · rw [Int.tmod_eq_emod_of_nonneg h0]
theorem place_any (v n : Int) (hn : 0 < n) (hn2 : n ≤ 4611686018427387904) (hv : (Lit.int .i64 v).wf = true) (w : World) :
    Calls Tryz.prog 14 #[.int .i64 v, .int .i64 n] w fun e w' => e = .returned (.int .i64 (v % n)) ∧ w = w' := by
  have hb := bounds_i64 hv
  have hlt : v.tmod n < n := Int.tmod_lt_of_pos v hn
  have hgt : -n < v.tmod n := by have := Int.lt_tmod_of_pos v hn; omega
  by_cases h : v.tmod n < 0
  · have E := Lib.hid (emod_lo (v := v) hn h)
    go_enter Tryz.func14, Tryz.ntmps14
    go_wp2
    go_ret
    exact ⟨ret_i64 (by rw [E.out]; try (rw [IntWalk.wrap64_in _ ⟨by omega, by omega⟩])), rfl⟩
  · have E := Lib.hid (emod_hi (v := v) hn (by omega))
    go_enter Tryz.func14, Tryz.ntmps14
    go_wp2
    go_ret
    exact ⟨ret_i64 (by rw [E.out]), rfl⟩
theorem place_gen (v n : Int) (hn : 0 < n) (hn2 : n ≤ 4611686018427387904) (hv : (Lit.int .i64 v).wf = true) (w : World) :
    Calls Tryz.prog 14 #[.int .i64 v, .int .i64 n] w fun e w' => ∃ k : Int, 0 ≤ k ∧ k < n ∧ e = .returned (.int .i64 k) ∧ w = w' :=
  (place_any v n hn hn2 hv w).mono fun e w' ⟨he, hw⟩ => ⟨v % n, Int.emod_nonneg _ (by omega), Int.emod_lt_of_pos _ hn, he, hw⟩
theorem place_gr (v n : Int) (hn : 0 < n) (hn2 : n ≤ 4611686018427387904) (hv : (Lit.int .i64 v).wf = true) (w : World) :
    Calls Tryz.prog 14 #[.int .i64 v, .int .i64 n] w fun e w' => e = .returned (.int .i64 (v % n)) ∧ Gr w w' :=
  (place_any v n hn hn2 hv w).mono fun e w' ⟨he, hw⟩ => ⟨he, hw ▸ Gr.refl w⟩
end Go.Proofs.YtoklohfpkaiidaaGreat.Base
