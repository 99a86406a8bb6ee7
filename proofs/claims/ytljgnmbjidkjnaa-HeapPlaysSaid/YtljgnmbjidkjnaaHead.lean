/- The calls of package header, and of the document's own answers to it, return what plain functions on integers say. -/
import Derived.Test.YtljgnmbjidkjnaaBase
namespace Go.Proofs.Ytljgnmbjidkjnaa.Hd
open Go.Proofs.Ytljgnmbjidkjnaa.Gen Go.Proofs.Ytljgnmbjidkjnaa.Base Go.ChangeShapes Go.WideShapes Go.ChangeAt Go.RowKit
set_option linter.unusedVariables false

def b2 (b : Bool) : Int := if b then 1 else 0
def hput (s f o c : Int) (fi l : Bool) : Int := s % 65536 + f % 4 * 65536 + o % 4 * 262144 + c % 4 * 1048576 + b2 fi * 4194304 + b2 l * 8388608
def hsiz (w : Int) : Int := w % 65536
def hfmt (w : Int) : Int := w / 65536 % 4
def hodd (w : Int) : Int := w / 262144 % 4
def hcol (w : Int) : Int := w / 1048576 % 4
def hfin (w : Int) : Bool := w / 4194304 % 2 == 1
def hliv (w : Int) : Bool := w / 8388608 % 2 == 1

theorem m16 (x : Int) : bits .and .i64 x 65535 = x % 65536 := i64_mask 16 x (by decide)
theorem m2 (x : Int) : bits .and .i64 x 3 = x % 4 := i64_mask 2 x (by decide)
theorem u16 (x : Int) (h0 : 0 ≤ x) (h1 : x < 4294967296) : bits .and .u32 x 65535 = x % 65536 := u32_mask 16 x (by decide) h0 h1
theorem u2 (x : Int) (h0 : 0 ≤ x) (h1 : x < 4294967296) : bits .and .u32 x 3 = x % 4 := u32_mask 2 x (by decide) h0 h1
theorem u1 (x : Int) (h0 : 0 ≤ x) (h1 : x < 4294967296) : bits .and .u32 x 1 = x % 2 := u32_mask 1 x (by decide) h0 h1
theorem b2_bd (b : Bool) : 0 ≤ b2 b ∧ b2 b ≤ 1 := by cases b <;> decide

theorem hd_Size (x : Int) (hv : (Lit.int .u32 x).wf = true) (w : World) :
    Calls Try.prog 53 #[.int .u32 x] w fun e w' => e = .returned (.int .i64 (hsiz x)) ∧ w = w' := by
  have hb := bounds_u32 hv
  have E := u16 x (by omega) (by omega)
  go_enter Try.func53, Try.ntmps53
  go_wp2
  go_ret
  exact ⟨rfl, rfl⟩
theorem hd_Fmt (x : Int) (hv : (Lit.int .u32 x).wf = true) (w : World) :
    Calls Try.prog 64 #[.int .u32 x] w fun e w' => e = .returned (.int .i64 (hfmt x)) ∧ w = w' := by
  have hb := bounds_u32 hv
  have E := u2 (x / 65536) (by omega) (by omega)
  go_enter Try.func64, Try.ntmps64
  go_wp2
  go_ret
  exact ⟨rfl, rfl⟩
theorem hd_Odd (x : Int) (hv : (Lit.int .u32 x).wf = true) (w : World) :
    Calls Try.prog 65 #[.int .u32 x] w fun e w' => e = .returned (.int .i64 (hodd x)) ∧ w = w' := by
  have hb := bounds_u32 hv
  have E := u2 (x / 262144) (by omega) (by omega)
  go_enter Try.func65, Try.ntmps65
  go_wp2
  go_ret
  exact ⟨rfl, rfl⟩
theorem hd_Colour (x : Int) (hv : (Lit.int .u32 x).wf = true) (w : World) :
    Calls Try.prog 76 #[.int .u32 x] w fun e w' => e = .returned (.int .i64 (hcol x)) ∧ w = w' := by
  have hb := bounds_u32 hv
  have E := u2 (x / 1048576) (by omega) (by omega)
  go_enter Try.func76, Try.ntmps76
  go_wp2
  go_ret
  exact ⟨rfl, rfl⟩
theorem hd_Get (x : Int) (hv : (Lit.int .u32 x).wf = true) (w : World) :
    Calls Try.prog 62 #[.int .u32 x] w fun e w' => e = .returned (.agg #[.int .i64 (hsiz x), .int .i64 (hfmt x), .int .i64 (hodd x), .int .i64 (hcol x), .bool (hfin x), .bool (hliv x)]) ∧ Gr w w' := by
  have hb := bounds_u32 hv
  have E1 := u1 (x / 4194304) (by omega) (by omega)
  have E2 := u1 (x / 8388608) (by omega) (by omega)
  go_enter Try.func62, Try.ntmps62
  go_wp2_with (first
    | (go_at_call 53; refine (hd_Size x hv _).mono ?_; rintro e w' ⟨rfl, rfl⟩)
    | (go_at_call 64; refine (hd_Fmt x hv _).mono ?_; rintro e w' ⟨rfl, rfl⟩)
    | (go_at_call 65; refine (hd_Odd x hv _).mono ?_; rintro e w' ⟨rfl, rfl⟩)
    | (go_at_call 76; refine (hd_Colour x hv _).mono ?_; rintro e w' ⟨rfl, rfl⟩))
  go_returns
  exact ⟨rfl, by repeat' (first | with_reducible exact Gr.refl _ | with_reducible refine Gr.drewN ?_ _ | with_reducible refine Gr.drew ?_ | with_reducible refine Gr.alloc ?_ _ _)⟩
theorem j1 (s f : Int) : bits .or .u32 (s % 65536) (f % 4 * 65536) = s % 65536 + f % 4 * 65536 := u32_join' 16 _ _ (by omega) (by omega) (by omega) (by omega) (by omega) (by omega)
theorem j2 (s f o : Int) : bits .or .u32 (s % 65536 + f % 4 * 65536) (o % 4 * 262144) = s % 65536 + f % 4 * 65536 + o % 4 * 262144 := u32_join' 18 _ _ (by omega) (by omega) (by omega) (by omega) (by omega) (by omega)
theorem j3 (s f o c : Int) : bits .or .u32 (s % 65536 + f % 4 * 65536 + o % 4 * 262144) (c % 4 * 1048576) = s % 65536 + f % 4 * 65536 + o % 4 * 262144 + c % 4 * 1048576 := u32_join' 20 _ _ (by omega) (by omega) (by omega) (by omega) (by omega) (by omega)
theorem j4 (s f o c d : Int) (d0 : 0 ≤ d) (d1 : d ≤ 1) : bits .or .u32 (s % 65536 + f % 4 * 65536 + o % 4 * 262144 + c % 4 * 1048576) (d * 4194304) = s % 65536 + f % 4 * 65536 + o % 4 * 262144 + c % 4 * 1048576 + d * 4194304 := u32_join' 22 _ _ (by omega) (by omega) (by omega) (by omega) (by omega) (by omega)
theorem j5 (s f o c d e : Int) (d0 : 0 ≤ d) (d1 : d ≤ 1) (e0 : 0 ≤ e) (e1 : e ≤ 1) : bits .or .u32 (s % 65536 + f % 4 * 65536 + o % 4 * 262144 + c % 4 * 1048576 + d * 4194304) (e * 8388608) = s % 65536 + f % 4 * 65536 + o % 4 * 262144 + c % 4 * 1048576 + d * 4194304 + e * 8388608 := u32_join' 23 _ _ (by omega) (by omega) (by omega) (by omega) (by omega) (by omega)
theorem j4' (s f o c : Int) : bits .or .u32 (s % 65536 + f % 4 * 65536 + o % 4 * 262144 + c % 4 * 1048576) 4194304 = s % 65536 + f % 4 * 65536 + o % 4 * 262144 + c % 4 * 1048576 + 4194304 := j4 s f o c 1 (by decide) (by decide)
theorem j5' (s f o c : Int) : bits .or .u32 (s % 65536 + f % 4 * 65536 + o % 4 * 262144 + c % 4 * 1048576 + 4194304) 8388608 = s % 65536 + f % 4 * 65536 + o % 4 * 262144 + c % 4 * 1048576 + 4194304 + 8388608 := j5 s f o c 1 1 (by decide) (by decide) (by decide) (by decide)
theorem j5'' (s f o c : Int) : bits .or .u32 (s % 65536 + f % 4 * 65536 + o % 4 * 262144 + c % 4 * 1048576) 8388608 = s % 65536 + f % 4 * 65536 + o % 4 * 262144 + c % 4 * 1048576 + 8388608 := by have := j5 s f o c 0 1 (by decide) (by decide) (by decide) (by decide); simpa using this
theorem hd_Put (s f o c : Int) (fi l : Bool) (w : World) :
    Calls Try.prog 40 #[.agg #[.int .i64 s, .int .i64 f, .int .i64 o, .int .i64 c, .bool fi, .bool l]] w fun e w' => e = .returned (.int .u32 (hput s f o c fi l)) ∧ Gr w w' := by
  have E1 := m16 s
  have E2 := m2 f
  have E3 := m2 o
  have E4 := m2 c
  have J1 := j1 s f
  have J2 := j2 s f o
  have J3 := j3 s f o c
  have J4 := j4' s f o c
  have J5 := j5' s f o c
  have J6 := j5'' s f o c
  cases fi <;> cases l
  all_goals
    go_enter Try.func40, Try.ntmps40
    go_wp2
    go_ret
    refine ⟨ret_u32 (by simp [hput, b2]), by repeat' (first | with_reducible exact Gr.refl _ | with_reducible refine Gr.drewN ?_ _ | with_reducible refine Gr.drew ?_ | with_reducible refine Gr.alloc ?_ _ _)⟩
theorem u16' (x : Int) : bits .and .u32 (x % 4294967296) 65535 = x % 65536 := by rw [u16 _ (by omega) (by omega)]; omega
theorem u2' (x : Int) : bits .and .u32 (x % 4294967296) 3 = x % 4 := by rw [u2 _ (by omega) (by omega)]; omega
end Go.Proofs.Ytljgnmbjidkjnaa.Hd
