/- The walk of CellsActs, over the model: all its cases. -/
import Derived.Test.YtfndjklpjjcelaaActsLo
import Derived.Test.YtfndjklpjjcelaaActsHi
namespace Go.Proofs.Ytfndjklpjjcelaa
open Go.RowKit

set_option maxHeartbeats 1000000 in
set_option maxRecDepth 100000 in
theorem acts_long (C : Cells) (n : Int) (a : Option Addr) (len cap : Nat) (hl : 60 < len) (w : World) : Calls Try.prog 3 #[.int .i64 n, .slice a len cap] w fun e w' => e = .returned (.bool true) ∧ Kept w w' := by
  go_enter Try.func3, Try.ntmps3
  go_wp2_with fail
  refine (awake_any C _).mono ?_
  rintro e w' ⟨rfl, k'⟩
  go_wp2
  go_ret
  exact ⟨rfl, k'⟩

set_option maxHeartbeats 1000000 in
set_option maxRecDepth 100000 in
theorem acts_mid (C : Cells) (n : Int) (a : Option Addr) (len cap : Nat) (hl : len ≤ 60) (h1 : 200 ≤ n) (h2 : n ≤ 4000) (w : World) : Calls Try.prog 3 #[.int .i64 n, .slice a len cap] w fun e w' => e = .returned (.bool true) ∧ Kept w w' := by
  go_enter Try.func3, Try.ntmps3
  go_wp2_with fail
  refine (awake_any C _).mono ?_
  rintro e w' ⟨rfl, k'⟩
  go_wp2
  go_ret
  exact ⟨rfl, k'⟩

set_option maxHeartbeats 2000000 in
set_option maxRecDepth 100000 in
theorem acts_none_lo (C : Cells) (n : Int) (a : Option Addr) (len cap : Nat) (hl : len ≤ 60) (h1 : n < 1) (w : World) : Calls Try.prog 3 #[.int .i64 n, .slice a len cap] w fun e w' => e = .returned (.bool true) ∧ Kept w w' := by
  have H1 := Lib.hid h1
  go_enter Try.func3, Try.ntmps3
  go_wp2_with fail
  refine (C.new_no n _ (Or.inl H1.out)).mono ?_
  rintro e w1 ⟨rfl, k1⟩
  go_wp2_with fail
  refine (refNew_no n (Or.inl H1.out) _).mono ?_
  rintro e w2 ⟨rfl, rfl⟩
  go_wp2_with fail
  refine wp_loop_rounds 1 ?_
  rw [rounds_succ]
  go_wp2_with fail
  refine (awake_any C _).mono ?_
  rintro e w' ⟨rfl, k'⟩
  go_wp2
  go_ret
  exact ⟨rfl, k1.trans k'⟩

set_option maxHeartbeats 2000000 in
set_option maxRecDepth 100000 in
theorem acts_none_hi (C : Cells) (n : Int) (a : Option Addr) (len cap : Nat) (hl : len ≤ 60) (h1 : 4096 < n) (w : World) : Calls Try.prog 3 #[.int .i64 n, .slice a len cap] w fun e w' => e = .returned (.bool true) ∧ Kept w w' := by
  have H1 := Lib.hid h1
  have h2 : 4000 < n := by omega
  go_enter Try.func3, Try.ntmps3
  go_wp2_with fail
  refine (C.new_no n _ (Or.inr H1.out)).mono ?_
  rintro e w1 ⟨rfl, k1⟩
  go_wp2_with fail
  refine (refNew_no n (Or.inr H1.out) _).mono ?_
  rintro e w2 ⟨rfl, rfl⟩
  go_wp2_with fail
  refine wp_loop_rounds 1 ?_
  rw [rounds_succ]
  go_wp2_with fail
  refine (awake_any C _).mono ?_
  rintro e w' ⟨rfl, k'⟩
  go_wp2
  go_ret
  exact ⟨rfl, k1.trans k'⟩

set_option maxHeartbeats 2000000 in
set_option maxRecDepth 100000 in
theorem acts_empty (C : Cells) (n : Nat) (h1 : 1 ≤ n) (h2 : n ≤ 4096) (hno : n < 200 ∨ 4000 < n) (a : Option Addr) (cap : Nat) (w : World) : Calls Try.prog 3 #[.int .i64 n, .slice a 0 cap] w fun e w' => e = .returned (.bool true) ∧ Kept w w' := by
  have H1 := Lib.hid h1
  have H2 := Lib.hid h2
  clear h1 h2
  rcases hno with hno | hno
  all_goals
    go_enter Try.func3, Try.ntmps3
    go_wp2_with fail
    refine (C.new_yes n _ H1.out H2.out).mono ?_
    rintro e w1 ⟨M, S, rfl, _, _, k1⟩
    go_wp2_with fail
    refine (refNew_yes n H1.out H2.out _).mono ?_
    rintro e w2 ⟨M', B', rfl, _, _, _, _, _, k2⟩
    go_wp2_with fail
    refine wp_loop_rounds 1 ?_
    rw [rounds_succ]
    go_wp2_with fail
    refine (awake_any C _).mono ?_
    rintro e w' ⟨rfl, k'⟩
    go_wp2
    go_ret
    exact ⟨rfl, (k1.trans k2).trans k'⟩

theorem cellsActs_any (C : Cells) (n : Int) (a : Option Addr) (len cap : Nat) (w : World) (wt : IsTable w a len cap 4 actR) : Calls Try.prog 3 #[.int .i64 n, .slice a len cap] w fun e w' => e = .returned (.bool true) ∧ Kept w w' := by
  by_cases hl : len ≤ 60
  · by_cases hm : 200 ≤ n ∧ n ≤ 4000
    · exact acts_mid C n a len cap hl hm.1 hm.2 w
    · by_cases h1 : n < 1
      · exact acts_none_lo C n a len cap hl h1 w
      · by_cases h2 : 4096 < n
        · exact acts_none_hi C n a len cap hl h2 w
        · obtain ⟨m, rfl⟩ := Int.eq_ofNat_of_zero_le (show 0 ≤ n by omega)
          rcases Nat.eq_zero_or_pos len with rfl | h0
          · exact acts_empty C m (by omega) (by omega) (by omega) a cap w
          · obtain ⟨b, off, rfl, _, _, _, hc⟩ := wt.at h0 (by decide)
            by_cases hs : m < 200
            · exact acts_loop_lo C m (by omega) (by omega) hs b off len cap _ hl w hc
            · exact acts_loop_hi C m (by omega) (by omega) (by omega) b off len cap _ hl w hc
  · exact acts_long C n a len cap (by omega) w
end Go.Proofs.Ytfndjklpjjcelaa
