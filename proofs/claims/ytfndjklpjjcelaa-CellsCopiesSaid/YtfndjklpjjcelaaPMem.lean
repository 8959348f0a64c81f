/- The program's memory: what it looks like, and the functions that only look at it. -/
import Derived.Test.YtfndjklpjjcelaaReach
import Derived.Test.YtfndjklpjjcelaaModel
namespace Go.Proofs.Ytfndjklpjjcelaa
open Go.RowKit

/-- A memory of the program's: block M points to block B, in which all lies. -/
structure PMem (w : World) (M B n : Nat) (s : St) : Prop where
  p : w.cell? ⟨M, 0, none⟩ = some (.pointer (some ⟨B, 0, none⟩))
  words : ∀ i, i < 4096 → ∃ x, w.cell? ⟨B, i, none⟩ = some (.int .u64 x) ∧ (i < n → x = s.ws i)
  size : w.cell? ⟨B, 4096, none⟩ = some (.int .i64 n)
  c0 : w.cell? ⟨B, 4097, none⟩ = some (.int .i64 s.kind)
  c1 : w.cell? ⟨B, 4098, none⟩ = some (.int .i64 s.at_)
  c2 : w.cell? ⟨B, 4099, none⟩ = some (.int .u64 s.old)
  c3 : w.cell? ⟨B, 4100, none⟩ = some (.int .u64 s.new)
  c4 : w.cell? ⟨B, 4101, none⟩ = some (.bool s.held)
  cnt : w.cell? ⟨B, 4102, none⟩ = some (.int .i64 s.cnt)
  fB : ∀ i, w.frozen? ⟨B, i, none⟩ = false
  ne : M ≠ B
  hn : 1 ≤ n ∧ n ≤ 4096

theorem PMem.frame {w w' : World} {M B n : Nat} {s : St} (hm : PMem w M B n s) {T : Nat → Prop} (hb : But T w w') (hM : ¬ T M) (hB : ¬ T B) : PMem w' M B n s :=
  ⟨hb.some hm.p hM, fun i hi => by obtain ⟨x, h, h'⟩ := hm.words i hi; exact ⟨x, hb.some h hB, h'⟩, hb.some hm.size hB, hb.some hm.c0 hB, hb.some hm.c1 hB, hb.some hm.c2 hB, hb.some hm.c3 hB, hb.some hm.c4 hB, hb.some hm.cnt hB,
   fun i => (hb.froze _).trans (hm.fB i), hm.ne, hm.hn⟩
theorem PMem.kept {w w' : World} {M B n : Nat} {s : St} (hm : PMem w M B n s) (k : Kept w w') : PMem w' M B n s := hm.frame (k.but (fun _ => False)) id id
theorem PMem.lt {w : World} {M B n : Nat} {s : St} (hm : PMem w M B n s) : M < w.heap.size ∧ B < w.heap.size := ⟨lt_of_cell hm.p, lt_of_cell hm.size⟩

set_option maxHeartbeats 1000000 in
theorem valid_yes (M : Nat) (a : Addr) (w : World) (hp : w.cell? ⟨M, 0, none⟩ = some (.pointer (some a))) : Calls Try.prog 39 #[.pointer (some ⟨M, 0, none⟩)] w fun e w' => e = .returned (.bool true) ∧ w = w' := by
  go_enter Try.func39, Try.ntmps39
  go_wp2
  go_ret
  exact ⟨rfl, rfl⟩

set_option maxHeartbeats 1000000 in
theorem size_any (M B n : Nat) (w : World) (hp : w.cell? ⟨M, 0, none⟩ = some (.pointer (some ⟨B, 0, none⟩))) (hs : w.cell? ⟨B, 4096, none⟩ = some (.int .i64 n)) : Calls Try.prog 22 #[.pointer (some ⟨M, 0, none⟩)] w fun e w' => e = .returned (.int .i64 n) ∧ w = w' := by
  go_enter Try.func22, Try.ntmps22
  go_wp2_with fail
  refine (valid_yes M _ _ hp).mono ?_
  rintro e w' ⟨rfl, rfl⟩
  go_wp2
  go_ret
  exact ⟨rfl, rfl⟩

set_option maxHeartbeats 1000000 in
theorem count_any (M B : Nat) (c : Int) (w : World) (hp : w.cell? ⟨M, 0, none⟩ = some (.pointer (some ⟨B, 0, none⟩))) (hs : w.cell? ⟨B, 4102, none⟩ = some (.int .i64 c)) : Calls Try.prog 21 #[.pointer (some ⟨M, 0, none⟩)] w fun e w' => e = .returned (.int .i64 c) ∧ w = w' := by
  go_enter Try.func21, Try.ntmps21
  go_wp2_with fail
  refine (valid_yes M _ _ hp).mono ?_
  rintro e w' ⟨rfl, rfl⟩
  go_wp2
  go_ret
  exact ⟨rfl, rfl⟩

set_option maxHeartbeats 1000000 in
theorem cell_out (M B n : Nat) (a : Int) (w : World) (hp : w.cell? ⟨M, 0, none⟩ = some (.pointer (some ⟨B, 0, none⟩))) (hs : w.cell? ⟨B, 4096, none⟩ = some (.int .i64 n)) (ha : a < 0 ∨ n ≤ a) : Calls Try.prog 32 #[.pointer (some ⟨M, 0, none⟩), .int .i64 a] w fun e w' => e = .returned (.pointer none) ∧ w = w' := by
  rcases ha with ha | ha
  · go_enter Try.func32, Try.ntmps32
    go_wp2
    go_ret
    exact ⟨rfl, rfl⟩
  · go_enter Try.func32, Try.ntmps32
    go_wp2_with fail
    refine (size_any M B n _ hp hs).mono ?_
    rintro e w' ⟨rfl, rfl⟩
    go_wp2
    go_ret
    exact ⟨rfl, rfl⟩
set_option maxHeartbeats 1000000 in
theorem cell_in (M B n a : Nat) (w : World) (hp : w.cell? ⟨M, 0, none⟩ = some (.pointer (some ⟨B, 0, none⟩))) (hs : w.cell? ⟨B, 4096, none⟩ = some (.int .i64 n)) (ha : a < n) (hn : n ≤ 4096) : Calls Try.prog 32 #[.pointer (some ⟨M, 0, none⟩), .int .i64 a] w fun e w' => e = .returned (.pointer (some ⟨B, a, none⟩)) ∧ w = w' := by
  go_enter Try.func32, Try.ntmps32
  go_wp2_with fail
  refine (size_any M B n _ hp hs).mono ?_
  rintro e w' ⟨rfl, rfl⟩
  go_wp2
  go_ret
  exact ⟨rfl, rfl⟩
set_option maxHeartbeats 1000000 in
theorem last_any (M B n : Nat) (s : St) (w : World) (hm : PMem w M B n s) : Calls Try.prog 20 #[.pointer (some ⟨M, 0, none⟩)] w fun e w' => e = .returned (.agg #[.int .i64 s.kind, .int .i64 s.at_, .int .u64 s.old, .int .u64 s.new, .bool s.held]) ∧ Kept w w' := by
  obtain ⟨p, _, _, c0, c1, c2, c3, c4, _, _, _, _⟩ := hm
  have hM := lt_of_cell p
  have hB := lt_of_cell c0
  go_enter Try.func20, Try.ntmps20
  go_wp2_with fail
  refine (valid_yes M _ _ (Kept.some (w := w) (by (go_light; repeat (first | (with_reducible exact Kept.refl _) | (with_reducible assumption) | (with_reducible refine Kept.alloc ?_ _ _) | (with_reducible refine Kept.drew ?_) | (with_reducible refine Kept.drewN ?_ _) | ((with_reducible refine Kept.setCell ?_ ?_ _); rotate_left; focus (first | (simp; done) | (simp; omega))) | refine Kept.trans ?_ (by assumption)))) p)).mono ?_
  rintro e w' ⟨rfl, rfl⟩
  go_wp2
  refine bodyPost_ret (v := .agg #[.int .i64 s.kind, .int .i64 s.at_, .int .u64 s.old, .int .u64 s.new, .bool s.held]) (by simp [results, Try.results20, go_sem]) rfl ⟨rfl, ?_⟩
  (go_light; repeat (first | (with_reducible exact Kept.refl _) | (with_reducible assumption) | (with_reducible refine Kept.alloc ?_ _ _) | (with_reducible refine Kept.drew ?_) | (with_reducible refine Kept.drewN ?_ _) | ((with_reducible refine Kept.setCell ?_ ?_ _); rotate_left; focus (first | (simp; done) | (simp; omega))) | refine Kept.trans ?_ (by assumption)))
end Go.Proofs.Ytfndjklpjjcelaa
