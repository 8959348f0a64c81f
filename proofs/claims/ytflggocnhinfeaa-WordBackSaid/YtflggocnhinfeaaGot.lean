/- Get of each kind in one form. -/
import Derived.Test.YtflggocnhinfeaaHelp
namespace Go.Proofs.Ytflggocnhinfeaa
open Go.RowKit

def gri (n : Int) : Int := bif goodRef n then rIdx n else 0
def grg (n : Int) : Int := bif goodRef n then rGen n else 0
def grm (n : Int) : Bool := bif goodRef n then markOf n else false
def gre (n : Int) : Int := bif goodRef n then 0 else 5
theorem get_ref (n : Int) (w : World) (h0 : 0 ≤ n) (h1 : n < 18446744073709551616) : Calls Try.prog 18 #[.int .u64 n] w fun e w' => e = .returned (.tuple #[.agg #[.int .i64 (gri n), .int .i64 (grg n), .bool (grm n)], .int .i64 (gre n)]) ∧ Kept w w' := by
  cases hg : goodRef n with
  | true =>
    have h := get_ref_yes n w h0 h1 hg
    simp only [gri, grg, grm, gre, hg, cond_true]
    exact h
  | false =>
    simp only [gri, grg, grm, gre, hg, cond_false]
    rcases pair_no hg with hb | ⟨hb, ha⟩
    · exact get_ref_err n w h0 h1 hb
    · exact get_ref_word n w h0 h1 hb ha

theorem refget_ref (n : Int) (w : World) (h0 : 0 ≤ n) (h1 : n < 18446744073709551616) : Calls Try.prog 19 #[.int .u64 n] w fun e w' => e = .returned (.tuple #[.agg #[.int .i64 (gri n), .int .i64 (grg n), .bool (grm n)], .int .i64 (gre n)]) ∧ Kept w w' := by
  cases hg : goodRef n with
  | true =>
    have h := refget_ref_yes n w h0 h1 hg
    simp only [gri, grg, grm, gre, hg, cond_true]
    exact h
  | false =>
    simp only [gri, grg, grm, gre, hg, cond_false]
    rcases pair_no hg with hb | ⟨hb, ha⟩
    · exact refget_ref_err n w h0 h1 hb
    · exact refget_ref_word n w h0 h1 hb ha

def gsl (n : Int) : Int := bif goodSlot n then sLap n else 0
def gsf (n : Int) : Bool := bif goodSlot n then sFull n else false
def gsv (n : Int) : Int := bif goodSlot n then sVal n else 0
def gse (n : Int) : Int := bif goodSlot n then 0 else 5
theorem get_slot (n : Int) (w : World) (h0 : 0 ≤ n) (h1 : n < 18446744073709551616) : Calls Try.prog 22 #[.int .u64 n] w fun e w' => e = .returned (.tuple #[.agg #[.int .i64 (gsl n), .bool (gsf n), .int .i64 (gsv n)], .int .i64 (gse n)]) ∧ Kept w w' := by
  cases hg : goodSlot n with
  | true =>
    have h := get_slot_yes n w h0 h1 hg
    simp only [gsl, gsf, gsv, gse, hg, cond_true]
    exact h
  | false =>
    simp only [gsl, gsf, gsv, gse, hg, cond_false]
    rcases pair_no hg with hb | ⟨hb, ha⟩
    · exact get_slot_err n w h0 h1 hb
    · exact get_slot_word n w h0 h1 hb ha

theorem refget_slot (n : Int) (w : World) (h0 : 0 ≤ n) (h1 : n < 18446744073709551616) : Calls Try.prog 23 #[.int .u64 n] w fun e w' => e = .returned (.tuple #[.agg #[.int .i64 (gsl n), .bool (gsf n), .int .i64 (gsv n)], .int .i64 (gse n)]) ∧ Kept w w' := by
  cases hg : goodSlot n with
  | true =>
    have h := refget_slot_yes n w h0 h1 hg
    simp only [gsl, gsf, gsv, gse, hg, cond_true]
    exact h
  | false =>
    simp only [gsl, gsf, gsv, gse, hg, cond_false]
    rcases pair_no hg with hb | ⟨hb, ha⟩
    · exact refget_slot_err n w h0 h1 hb
    · exact refget_slot_word n w h0 h1 hb ha

def gkp (n : Int) : Int := bif goodKey n then kPrio n else 0
def gks (n : Int) : Int := bif goodKey n then kSeq n else 0
def gkr (n : Int) : Int := bif goodKey n then sVal n else 0
def gke (n : Int) : Int := bif goodKey n then 0 else 5
theorem get_key (n : Int) (w : World) (h0 : 0 ≤ n) (h1 : n < 18446744073709551616) : Calls Try.prog 24 #[.int .u64 n] w fun e w' => e = .returned (.tuple #[.agg #[.int .i64 (gkp n), .int .i64 (gks n), .int .i64 (gkr n)], .int .i64 (gke n)]) ∧ Kept w w' := by
  cases hg : goodKey n with
  | true =>
    have h := get_key_yes n w h0 h1 hg
    simp only [gkp, gks, gkr, gke, hg, cond_true]
    exact h
  | false =>
    simp only [gkp, gks, gkr, gke, hg, cond_false]
    rcases pair_no hg with hb | ⟨hb, ha⟩
    · exact get_key_err n w h0 h1 hb
    · exact get_key_word n w h0 h1 hb ha

theorem refget_key (n : Int) (w : World) (h0 : 0 ≤ n) (h1 : n < 18446744073709551616) : Calls Try.prog 25 #[.int .u64 n] w fun e w' => e = .returned (.tuple #[.agg #[.int .i64 (gkp n), .int .i64 (gks n), .int .i64 (gkr n)], .int .i64 (gke n)]) ∧ Kept w w' := by
  cases hg : goodKey n with
  | true =>
    have h := refget_key_yes n w h0 h1 hg
    simp only [gkp, gks, gkr, gke, hg, cond_true]
    exact h
  | false =>
    simp only [gkp, gks, gkr, gke, hg, cond_false]
    rcases pair_no hg with hb | ⟨hb, ha⟩
    · exact refget_key_err n w h0 h1 hb
    · exact absurd (key_word n h0 h1 hb) ha

theorem get_top (n : Int) (w : World) (h0 : 0 ≤ n) (h1 : n < 18446744073709551616) : Calls Try.prog 20 #[.int .u64 n] w fun e w' => e = .returned (.tuple #[.agg #[.int .i64 (rIdx n), .int .i64 (tTag n)], .int .i64 0]) ∧ Kept w w' := get_top_yes n w h0 h1
theorem refget_top (n : Int) (w : World) (h0 : 0 ≤ n) (h1 : n < 18446744073709551616) : Calls Try.prog 21 #[.int .u64 n] w fun e w' => e = .returned (.tuple #[.agg #[.int .i64 (rIdx n), .int .i64 (tTag n)], .int .i64 0]) ∧ Kept w w' := refget_top_yes n w h0 h1
end Go.Proofs.Ytflggocnhinfeaa
