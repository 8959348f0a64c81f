/- The program's accesses: what each does to a memory, and tells. -/
import Derived.Test.YtfndjklpjjcelaaPAccess
namespace Go.Proofs.Ytfndjklpjjcelaa
open Go.RowKit

theorem done_kept {w w1 w2 : World} {B : Nat} (k0 : Kept w w1) (k : Kept w1 w2) (hB : B < w.heap.size) (o n : Int) (h : Bool) : Done B (fun j => w.cell? ⟨B, j, none⟩) o n h w1 (.returned (.agg #[.int .i64 0, .int .i64 0, .int .u64 (o), .int .u64 (n), .bool h])) w2 :=
  ⟨rfl, k.but _, fun j => by rw [(k0.trans k).cell B j hB]⟩
theorem done_wrote {w w1 w2 : World} {B i : Nat} {v : Int} (k0 : Kept w w1) (k : Wrote B i v w1 w2) (hB : B < w.heap.size) (o n : Int) (h : Bool) : Done B (fun j => if j = i then some (.int .u64 v) else w.cell? ⟨B, j, none⟩) o n h w1 (.returned (.agg #[.int .i64 0, .int .i64 0, .int .u64 (o), .int .u64 (n), .bool h])) w2 :=
  ⟨rfl, k.but, fun j => by rw [k.cell, k0.cell B j hB]⟩

theorem PMem.read {w w' : World} {M B n : Nat} {s : St} {kind at_ o nw : Int} {h : Bool} (hm : PMem w M B n s) (hb : But (fun k => k = B) w w')
    (hc : ∀ j, w'.cell? ⟨B, j, none⟩ = accCells (fun j => w.cell? ⟨B, j, none⟩) kind at_ o nw h s.cnt j) :
    PMem w' M B n { ws := s.ws, kind := kind, at_ := at_, old := o, new := nw, held := h, cnt := s.cnt + 1 } := by
  refine ⟨hb.some hm.p hm.ne, fun i hi => ?_, ?_, ?_, ?_, ?_, ?_, ?_, ?_, fun i => (hb.froze _).trans (hm.fB i), hm.ne, hm.hn⟩
  · obtain ⟨x, h1, h2⟩ := hm.words i hi
    refine ⟨x, ?_, h2⟩
    rw [hc]; unfold accCells
    rw [if_neg (by omega), if_neg (by omega), if_neg (by omega), if_neg (by omega), if_neg (by omega), if_neg (by omega)]
    exact h1
  · rw [hc]; exact hm.size
  all_goals (rw [hc]; rfl)

theorem PMem.wrote {w w' : World} {M B n i : Nat} {s : St} {kind at_ o nw v : Int} {h : Bool} (hm : PMem w M B n s) (hb : But (fun k => k = B) w w') (hi : i < 4096)
    (hc : ∀ j, w'.cell? ⟨B, j, none⟩ = accCells (fun j => if j = i then some (.int .u64 v) else w.cell? ⟨B, j, none⟩) kind at_ o nw h s.cnt j) :
    PMem w' M B n { ws := fun j => if j = i then v else s.ws j, kind := kind, at_ := at_, old := o, new := nw, held := h, cnt := s.cnt + 1 } := by
  refine ⟨hb.some hm.p hm.ne, fun k hk => ?_, ?_, ?_, ?_, ?_, ?_, ?_, ?_, fun i => (hb.froze _).trans (hm.fB i), hm.ne, hm.hn⟩
  · obtain ⟨x, h1, h2⟩ := hm.words k hk
    rw [hc]; unfold accCells
    rw [if_neg (by omega), if_neg (by omega), if_neg (by omega), if_neg (by omega), if_neg (by omega), if_neg (by omega)]
    by_cases hki : k = i
    · exact ⟨v, if_pos hki, fun _ => (if_pos hki).symm⟩
    · exact ⟨x, (if_neg hki).trans h1, fun h => (h2 h).trans (if_neg hki).symm⟩
  · rw [hc]; unfold accCells
    rw [if_neg (by omega), if_neg (by omega), if_neg (by omega), if_neg (by omega), if_neg (by omega), if_neg (by omega)]
    exact (if_neg (by omega)).trans hm.size
  all_goals (rw [hc]; rfl)

theorem acc_out {n : Nat} {s : St} {kind at_ : Int} {wr : Bool} {v : Int} (h : ¬ (0 ≤ at_ ∧ at_ < n)) : acc n s kind at_ wr v = { ws := s.ws, kind := kind, at_ := at_, old := 0, new := 0, held := false, cnt := s.cnt + 1 } := by
  unfold acc; rw [if_neg h]
theorem acc_read {n : Nat} {s : St} {kind : Int} {a : Nat} {v : Int} (h : a < n) : acc n s kind (a : Int) false v = { ws := s.ws, kind := kind, at_ := a, old := s.ws a, new := s.ws a, held := false, cnt := s.cnt + 1 } := by
  unfold acc; rw [if_pos (by omega)]; rfl
theorem acc_write {n : Nat} {s : St} {kind : Int} {a : Nat} {v : Int} (h : a < n) : acc n s kind (a : Int) true v = { ws := fun j => if j = a then v else s.ws j, kind := kind, at_ := a, old := s.ws a, new := v, held := true, cnt := s.cnt + 1 } := by
  unfold acc; rw [if_pos (by omega)]; rfl
theorem wordAt_in {n : Nat} {s : St} {a : Nat} (h : a < n) : wordAt n s (a : Int) = s.ws a := by
  unfold wordAt; rw [if_pos (by omega)]; rfl

theorem field_new (k a o n : Int) (h : Bool) (w : World) : (Instr.field 41 (.agg #[.int .i64 k, .int .i64 a, .int .u64 o, .int .u64 n, .bool h]) 3).run Try.prog w = .ok (.int .u64 n) w := by kernel_rfl
theorem field_held (k a o n : Int) (h : Bool) (w : World) : (Instr.field 41 (.agg #[.int .i64 k, .int .i64 a, .int .u64 o, .int .u64 n, .bool h]) 4).run Try.prog w = .ok (.bool h) w := by kernel_rfl

set_option maxHeartbeats 1000000 in
theorem pLoad_out (M B n : Nat) (s : St) (at_ : Int) (w : World) (hm : PMem w M B n s) (h0 : 0 ≤ s.cnt) (h1 : s.cnt ≤ 1000000) (ha : ¬ (0 ≤ at_ ∧ at_ < n)) : Calls Try.prog 11 #[.pointer (some ⟨M, 0, none⟩), .int .i64 at_] w fun e w' => e = .returned (.int .u64 (acc n s 1 at_ false 0).new) ∧ PMem w' M B n (acc n s 1 at_ false 0) ∧ But (fun k => k = B) w w' := by
  have hp := hm.p
  have hs := hm.size
  have hB := hm.lt.2
  have HC : Hid (∀ w1, Kept w w1 → Calls Try.prog 33 #[(.agg #[.pointer none, .int .u64 0, .int .u64 0])] w1 (Done B (fun j => w.cell? ⟨B, j, none⟩) 0 0 false w1)) := Lib.hid (fun w1 k0 => (load_nil _ _ _).mono (by rintro e w2 ⟨rfl, k⟩; exact done_kept k0 k hB 0 0 false))
  rw [acc_out ha]
  have HM := Lib.hid hm
  have HA : Hid (at_ < 0 ∨ n ≤ at_) := Lib.hid (by omega)
  clear hm ha
  have hfn := field_new
  have hfh := field_held
  go_enter Try.func11, Try.ntmps11
  go_wp2_with fail
  refine (cell_out M B n at_ _ hp hs HA.out).mono ?_
  rintro e w' ⟨rfl, rfl⟩
  go_wp2_with fail
  refine (access_load (.agg #[.pointer none, .int .u64 0, .int .u64 0]) M B n s (fun j => w.cell? ⟨B, j, none⟩) 1 at_ (0) (0) false w HM.out h0 h1 (fun j hj => rfl) HC.out).mono ?_
  rintro e w' ⟨rfl, hb, hc⟩
  have HB := Lib.hid hb
  have HQ := Lib.hid hc
  clear hb hc
  go_wp2
  go_ret
  exact ⟨rfl, HM.out.read HB.out HQ.out, HB.out⟩
set_option maxHeartbeats 1000000 in
theorem pLoad_in (M B n : Nat) (s : St) (a : Nat) (w : World) (hm : PMem w M B n s) (h0 : 0 ≤ s.cnt) (h1 : s.cnt ≤ 1000000) (ha : a < n) : Calls Try.prog 11 #[.pointer (some ⟨M, 0, none⟩), .int .i64 a] w fun e w' => e = .returned (.int .u64 (acc n s 1 a false 0).new) ∧ PMem w' M B n (acc n s 1 a false 0) ∧ But (fun k => k = B) w w' := by
  have hp := hm.p
  have hs := hm.size
  have hB := hm.lt.2
  have hn := hm.hn.2
  obtain ⟨x, hx, hxs⟩ := hm.words a (by omega)
  obtain rfl := hxs ha
  have hf := hm.fB a
  have HC : Hid (∀ w1, Kept w w1 → Calls Try.prog 33 #[(.agg #[.pointer (some ⟨B, a, none⟩), .int .u64 0, .int .u64 0])] w1 (Done B (fun j => w.cell? ⟨B, j, none⟩) (s.ws a) (s.ws a) false w1)) := Lib.hid (fun w1 k0 => (load_at B a _ _ _ _ (k0.some hx)).mono (by rintro e w2 ⟨rfl, k⟩; exact done_kept k0 k hB _ _ _))
  rw [acc_read ha]
  have HM := Lib.hid hm
  clear hm hx hxs hf
  have hfn := field_new
  have hfh := field_held
  go_enter Try.func11, Try.ntmps11
  go_wp2_with fail
  refine (cell_in M B n a _ hp hs ha hn).mono ?_
  rintro e w' ⟨rfl, rfl⟩
  go_wp2_with fail
  refine (access_load (.agg #[.pointer (some ⟨B, a, none⟩), .int .u64 0, .int .u64 0]) M B n s (fun j => w.cell? ⟨B, j, none⟩) 1 (a : Int) (s.ws a) (s.ws a) false w HM.out h0 h1 (fun j hj => rfl) HC.out).mono ?_
  rintro e w' ⟨rfl, hb, hc⟩
  have HB := Lib.hid hb
  have HQ := Lib.hid hc
  clear hb hc
  go_wp2
  go_ret
  exact ⟨rfl, HM.out.read HB.out HQ.out, HB.out⟩
theorem pLoad (M B n : Nat) (s : St) (at_ : Int) (w : World) (hm : PMem w M B n s) (h0 : 0 ≤ s.cnt) (h1 : s.cnt ≤ 1000000) : Calls Try.prog 11 #[.pointer (some ⟨M, 0, none⟩), .int .i64 at_] w fun e w' => e = .returned (.int .u64 (acc n s 1 at_ false 0).new) ∧ PMem w' M B n (acc n s 1 at_ false 0) ∧ But (fun k => k = B) w w' := by
  by_cases ha : 0 ≤ at_ ∧ at_ < n
  · obtain ⟨a, rfl⟩ := Int.eq_ofNat_of_zero_le ha.1
    exact pLoad_in M B n s a w hm h0 h1 (by omega)
  · exact pLoad_out M B n s at_ w hm h0 h1 ha

set_option maxHeartbeats 1000000 in
theorem pStore_out (M B n : Nat) (s : St) (at_ v : Int) (w : World) (hm : PMem w M B n s) (h0 : 0 ≤ s.cnt) (h1 : s.cnt ≤ 1000000) (ha : ¬ (0 ≤ at_ ∧ at_ < n)) : Calls Try.prog 13 #[.pointer (some ⟨M, 0, none⟩), .int .i64 at_, .int .u64 v] w fun e w' => e = .returned (.tuple #[]) ∧ PMem w' M B n (acc n s 2 at_ true v) ∧ But (fun k => k = B) w w' := by
  have hp := hm.p
  have hs := hm.size
  have hB := hm.lt.2
  have HC : Hid (∀ w1, Kept w w1 → Calls Try.prog 35 #[(.agg #[.pointer none, .int .u64 0, .int .u64 v])] w1 (Done B (fun j => w.cell? ⟨B, j, none⟩) 0 0 false w1)) := Lib.hid (fun w1 k0 => (store_nil _ _ _).mono (by rintro e w2 ⟨rfl, k⟩; exact done_kept k0 k hB 0 0 false))
  rw [acc_out ha]
  have HM := Lib.hid hm
  have HA : Hid (at_ < 0 ∨ n ≤ at_) := Lib.hid (by omega)
  clear hm ha
  have hfn := field_new
  have hfh := field_held
  go_enter Try.func13, Try.ntmps13
  go_wp2_with fail
  refine (cell_out M B n at_ _ hp hs HA.out).mono ?_
  rintro e w' ⟨rfl, rfl⟩
  go_wp2_with fail
  refine (access_store (.agg #[.pointer none, .int .u64 0, .int .u64 v]) M B n s (fun j => w.cell? ⟨B, j, none⟩) 2 at_ (0) (0) false w HM.out h0 h1 (fun j hj => rfl) HC.out).mono ?_
  rintro e w' ⟨rfl, hb, hc⟩
  have HB := Lib.hid hb
  have HQ := Lib.hid hc
  clear hb hc
  go_wp2
  go_end0
  exact ⟨rfl, HM.out.read HB.out HQ.out, HB.out⟩
set_option maxHeartbeats 1000000 in
theorem pStore_in (M B n : Nat) (s : St) (a : Nat) (v : Int) (w : World) (hm : PMem w M B n s) (h0 : 0 ≤ s.cnt) (h1 : s.cnt ≤ 1000000) (ha : a < n) : Calls Try.prog 13 #[.pointer (some ⟨M, 0, none⟩), .int .i64 a, .int .u64 v] w fun e w' => e = .returned (.tuple #[]) ∧ PMem w' M B n (acc n s 2 a true v) ∧ But (fun k => k = B) w w' := by
  have hp := hm.p
  have hs := hm.size
  have hB := hm.lt.2
  have hn := hm.hn.2
  obtain ⟨x, hx, hxs⟩ := hm.words a (by omega)
  obtain rfl := hxs ha
  have hf := hm.fB a
  have HC : Hid (∀ w1, Kept w w1 → Calls Try.prog 35 #[(.agg #[.pointer (some ⟨B, a, none⟩), .int .u64 0, .int .u64 v])] w1 (Done B (fun j => if j = a then some (.int .u64 v) else w.cell? ⟨B, j, none⟩) (s.ws a) (v) true w1)) := Lib.hid (fun w1 k0 => (store_at B a _ _ _ _ (k0.some hx) ((k0.froze _).trans hf)).mono (by rintro e w2 ⟨rfl, k⟩; exact done_wrote k0 k hB _ _ _))
  rw [acc_write ha]
  have HM := Lib.hid hm
  clear hm hx hxs hf
  have hfn := field_new
  have hfh := field_held
  go_enter Try.func13, Try.ntmps13
  go_wp2_with fail
  refine (cell_in M B n a _ hp hs ha hn).mono ?_
  rintro e w' ⟨rfl, rfl⟩
  go_wp2_with fail
  refine (access_store (.agg #[.pointer (some ⟨B, a, none⟩), .int .u64 0, .int .u64 v]) M B n s (fun j => if j = a then some (.int .u64 v) else w.cell? ⟨B, j, none⟩) 2 (a : Int) (s.ws a) (v) true w HM.out h0 h1 (fun j hj => if_neg (by omega)) HC.out).mono ?_
  rintro e w' ⟨rfl, hb, hc⟩
  have HB := Lib.hid hb
  have HQ := Lib.hid hc
  clear hb hc
  go_wp2
  go_end0
  exact ⟨rfl, HM.out.wrote HB.out (by omega) HQ.out, HB.out⟩
theorem pStore (M B n : Nat) (s : St) (at_ v : Int) (w : World) (hm : PMem w M B n s) (h0 : 0 ≤ s.cnt) (h1 : s.cnt ≤ 1000000) : Calls Try.prog 13 #[.pointer (some ⟨M, 0, none⟩), .int .i64 at_, .int .u64 v] w fun e w' => e = .returned (.tuple #[]) ∧ PMem w' M B n (acc n s 2 at_ true v) ∧ But (fun k => k = B) w w' := by
  by_cases ha : 0 ≤ at_ ∧ at_ < n
  · obtain ⟨a, rfl⟩ := Int.eq_ofNat_of_zero_le ha.1
    exact pStore_in M B n s a v w hm h0 h1 (by omega)
  · exact pStore_out M B n s at_ v w hm h0 h1 ha

set_option maxHeartbeats 1000000 in
theorem pCAS_out (M B n : Nat) (s : St) (at_ o v : Int) (w : World) (hm : PMem w M B n s) (h0 : 0 ≤ s.cnt) (h1 : s.cnt ≤ 1000000) (ha : ¬ (0 ≤ at_ ∧ at_ < n)) : Calls Try.prog 15 #[.pointer (some ⟨M, 0, none⟩), .int .i64 at_, .int .u64 o, .int .u64 v] w fun e w' => e = .returned (.bool (acc n s 3 at_ (wordAt n s at_ == o) v).held) ∧ PMem w' M B n (acc n s 3 at_ (wordAt n s at_ == o) v) ∧ But (fun k => k = B) w w' := by
  have hp := hm.p
  have hs := hm.size
  have hB := hm.lt.2
  have HC : Hid (∀ w1, Kept w w1 → Calls Try.prog 36 #[(.agg #[.pointer none, .int .u64 o, .int .u64 v])] w1 (Done B (fun j => w.cell? ⟨B, j, none⟩) 0 0 false w1)) := Lib.hid (fun w1 k0 => (swap_nil _ _ _).mono (by rintro e w2 ⟨rfl, k⟩; exact done_kept k0 k hB 0 0 false))
  rw [acc_out ha]
  have HM := Lib.hid hm
  have HA : Hid (at_ < 0 ∨ n ≤ at_) := Lib.hid (by omega)
  clear hm ha
  have hfn := field_new
  have hfh := field_held
  go_enter Try.func15, Try.ntmps15
  go_wp2_with fail
  refine (cell_out M B n at_ _ hp hs HA.out).mono ?_
  rintro e w' ⟨rfl, rfl⟩
  go_wp2_with fail
  refine (access_swap (.agg #[.pointer none, .int .u64 o, .int .u64 v]) M B n s (fun j => w.cell? ⟨B, j, none⟩) 3 at_ (0) (0) false w HM.out h0 h1 (fun j hj => rfl) HC.out).mono ?_
  rintro e w' ⟨rfl, hb, hc⟩
  have HB := Lib.hid hb
  have HQ := Lib.hid hc
  clear hb hc
  go_wp2
  go_ret
  exact ⟨rfl, HM.out.read HB.out HQ.out, HB.out⟩
set_option maxHeartbeats 1000000 in
theorem pCAS_no (M B n : Nat) (s : St) (a : Nat) (o v : Int) (w : World) (hm : PMem w M B n s) (h0 : 0 ≤ s.cnt) (h1 : s.cnt ≤ 1000000) (ha : a < n) (hq : (s.ws a != o) = true) : Calls Try.prog 15 #[.pointer (some ⟨M, 0, none⟩), .int .i64 a, .int .u64 o, .int .u64 v] w fun e w' => e = .returned (.bool false) ∧ PMem w' M B n (acc n s 3 a false v) ∧ But (fun k => k = B) w w' := by
  have hp := hm.p
  have hs := hm.size
  have hB := hm.lt.2
  have hn := hm.hn.2
  obtain ⟨x, hx, hxs⟩ := hm.words a (by omega)
  obtain rfl := hxs ha
  have hf := hm.fB a
  have HC : Hid (∀ w1, Kept w w1 → Calls Try.prog 36 #[(.agg #[.pointer (some ⟨B, a, none⟩), .int .u64 o, .int .u64 v])] w1 (Done B (fun j => w.cell? ⟨B, j, none⟩) (s.ws a) (s.ws a) false w1)) := Lib.hid (fun w1 k0 => (swap_no B a _ _ _ _ (k0.some hx) hq).mono (by rintro e w2 ⟨rfl, k⟩; exact done_kept k0 k hB _ _ _))
  rw [acc_read ha]
  clear hq
  have HM := Lib.hid hm
  clear hm hx hxs hf
  have hfn := field_new
  have hfh := field_held
  go_enter Try.func15, Try.ntmps15
  go_wp2_with fail
  refine (cell_in M B n a _ hp hs ha hn).mono ?_
  rintro e w' ⟨rfl, rfl⟩
  go_wp2_with fail
  refine (access_swap (.agg #[.pointer (some ⟨B, a, none⟩), .int .u64 o, .int .u64 v]) M B n s (fun j => w.cell? ⟨B, j, none⟩) 3 (a : Int) (s.ws a) (s.ws a) false w HM.out h0 h1 (fun j hj => rfl) HC.out).mono ?_
  rintro e w' ⟨rfl, hb, hc⟩
  have HB := Lib.hid hb
  have HQ := Lib.hid hc
  clear hb hc
  go_wp2
  go_ret
  exact ⟨rfl, HM.out.read HB.out HQ.out, HB.out⟩
set_option maxHeartbeats 1000000 in
theorem pCAS_yes (M B n : Nat) (s : St) (a : Nat) (v : Int) (w : World) (hm : PMem w M B n s) (h0 : 0 ≤ s.cnt) (h1 : s.cnt ≤ 1000000) (ha : a < n) : Calls Try.prog 15 #[.pointer (some ⟨M, 0, none⟩), .int .i64 a, .int .u64 (s.ws a), .int .u64 v] w fun e w' => e = .returned (.bool true) ∧ PMem w' M B n (acc n s 3 a true v) ∧ But (fun k => k = B) w w' := by
  have hp := hm.p
  have hs := hm.size
  have hB := hm.lt.2
  have hn := hm.hn.2
  obtain ⟨x, hx, hxs⟩ := hm.words a (by omega)
  obtain rfl := hxs ha
  have hf := hm.fB a
  have HC : Hid (∀ w1, Kept w w1 → Calls Try.prog 36 #[(.agg #[.pointer (some ⟨B, a, none⟩), .int .u64 (s.ws a), .int .u64 v])] w1 (Done B (fun j => if j = a then some (.int .u64 v) else w.cell? ⟨B, j, none⟩) (s.ws a) (v) true w1)) := Lib.hid (fun w1 k0 => (swap_yes B a _ _ _ (k0.some hx) ((k0.froze _).trans hf)).mono (by rintro e w2 ⟨rfl, k⟩; exact done_wrote k0 k hB _ _ _))
  rw [acc_write ha]
  have HM := Lib.hid hm
  clear hm hx hxs hf
  have hfn := field_new
  have hfh := field_held
  go_enter Try.func15, Try.ntmps15
  go_wp2_with fail
  refine (cell_in M B n a _ hp hs ha hn).mono ?_
  rintro e w' ⟨rfl, rfl⟩
  go_wp2_with fail
  refine (access_swap (.agg #[.pointer (some ⟨B, a, none⟩), .int .u64 (s.ws a), .int .u64 v]) M B n s (fun j => if j = a then some (.int .u64 v) else w.cell? ⟨B, j, none⟩) 3 (a : Int) (s.ws a) (v) true w HM.out h0 h1 (fun j hj => if_neg (by omega)) HC.out).mono ?_
  rintro e w' ⟨rfl, hb, hc⟩
  have HB := Lib.hid hb
  have HQ := Lib.hid hc
  clear hb hc
  go_wp2
  go_ret
  exact ⟨rfl, HM.out.wrote HB.out (by omega) HQ.out, HB.out⟩
set_option maxHeartbeats 1000000 in
theorem pCAS (M B n : Nat) (s : St) (at_ o v : Int) (w : World) (hm : PMem w M B n s) (h0 : 0 ≤ s.cnt) (h1 : s.cnt ≤ 1000000) : Calls Try.prog 15 #[.pointer (some ⟨M, 0, none⟩), .int .i64 at_, .int .u64 o, .int .u64 v] w fun e w' => e = .returned (.bool (acc n s 3 at_ (wordAt n s at_ == o) v).held) ∧ PMem w' M B n (acc n s 3 at_ (wordAt n s at_ == o) v) ∧ But (fun k => k = B) w w' := by
  by_cases ha : 0 ≤ at_ ∧ at_ < n
  · obtain ⟨a, rfl⟩ := Int.eq_ofNat_of_zero_le ha.1
    have han : a < n := by omega
    rw [wordAt_in han]
    by_cases hq : s.ws a = o
    · rw [show (s.ws a == o) = true by simp [hq], acc_write han]
      subst hq
      have h := pCAS_yes M B n s a v w hm h0 h1 han
      rw [acc_write han] at h
      exact h
    · rw [show (s.ws a == o) = false by simp [hq], acc_read han]
      have h := pCAS_no M B n s a o v w hm h0 h1 han (by simp [hq])
      rw [acc_read han] at h
      exact h
  · exact pCAS_out M B n s at_ o v w hm h0 h1 ha

set_option maxHeartbeats 1000000 in
theorem pAdd_out (M B n : Nat) (s : St) (at_ v : Int) (w : World) (hm : PMem w M B n s) (h0 : 0 ≤ s.cnt) (h1 : s.cnt ≤ 1000000) (ha : ¬ (0 ≤ at_ ∧ at_ < n)) : Calls Try.prog 17 #[.pointer (some ⟨M, 0, none⟩), .int .i64 at_, .int .u64 v] w fun e w' => e = .returned (.int .u64 (acc n s 4 at_ true (IntKind.u64.wrap (wordAt n s at_ + v))).new) ∧ PMem w' M B n (acc n s 4 at_ true (IntKind.u64.wrap (wordAt n s at_ + v))) ∧ But (fun k => k = B) w w' := by
  have hp := hm.p
  have hs := hm.size
  have hB := hm.lt.2
  have HC : Hid (∀ w1, Kept w w1 → Calls Try.prog 38 #[(.agg #[.pointer none, .int .u64 0, .int .u64 v])] w1 (Done B (fun j => w.cell? ⟨B, j, none⟩) 0 0 false w1)) := Lib.hid (fun w1 k0 => (add_nil _ _ _).mono (by rintro e w2 ⟨rfl, k⟩; exact done_kept k0 k hB 0 0 false))
  rw [acc_out ha]
  have HM := Lib.hid hm
  have HA : Hid (at_ < 0 ∨ n ≤ at_) := Lib.hid (by omega)
  clear hm ha
  have hfn := field_new
  have hfh := field_held
  go_enter Try.func17, Try.ntmps17
  go_wp2_with fail
  refine (cell_out M B n at_ _ hp hs HA.out).mono ?_
  rintro e w' ⟨rfl, rfl⟩
  go_wp2_with fail
  refine (access_add (.agg #[.pointer none, .int .u64 0, .int .u64 v]) M B n s (fun j => w.cell? ⟨B, j, none⟩) 4 at_ (0) (0) false w HM.out h0 h1 (fun j hj => rfl) HC.out).mono ?_
  rintro e w' ⟨rfl, hb, hc⟩
  have HB := Lib.hid hb
  have HQ := Lib.hid hc
  clear hb hc
  go_wp2
  go_ret
  exact ⟨rfl, HM.out.read HB.out HQ.out, HB.out⟩
set_option maxHeartbeats 1000000 in
theorem pAdd_in (M B n : Nat) (s : St) (a : Nat) (v : Int) (w : World) (hm : PMem w M B n s) (h0 : 0 ≤ s.cnt) (h1 : s.cnt ≤ 1000000) (ha : a < n) : Calls Try.prog 17 #[.pointer (some ⟨M, 0, none⟩), .int .i64 a, .int .u64 v] w fun e w' => e = .returned (.int .u64 (acc n s 4 a true (IntKind.u64.wrap (wordAt n s a + v))).new) ∧ PMem w' M B n (acc n s 4 a true (IntKind.u64.wrap (wordAt n s a + v))) ∧ But (fun k => k = B) w w' := by
  have hp := hm.p
  have hs := hm.size
  have hB := hm.lt.2
  have hn := hm.hn.2
  obtain ⟨x, hx, hxs⟩ := hm.words a (by omega)
  obtain rfl := hxs ha
  have hf := hm.fB a
  have HC : Hid (∀ w1, Kept w w1 → Calls Try.prog 38 #[(.agg #[.pointer (some ⟨B, a, none⟩), .int .u64 0, .int .u64 v])] w1 (Done B (fun j => if j = a then some (.int .u64 (IntKind.u64.wrap (s.ws a + v))) else w.cell? ⟨B, j, none⟩) (s.ws a) (IntKind.u64.wrap (s.ws a + v)) true w1)) := Lib.hid (fun w1 k0 => (add_at B a _ _ _ _ (k0.some hx) ((k0.froze _).trans hf)).mono (by rintro e w2 ⟨rfl, k⟩; exact done_wrote k0 k hB _ _ _))
  rw [wordAt_in ha, acc_write ha]
  have HM := Lib.hid hm
  clear hm hx hxs hf
  have hfn := field_new
  have hfh := field_held
  go_enter Try.func17, Try.ntmps17
  go_wp2_with fail
  refine (cell_in M B n a _ hp hs ha hn).mono ?_
  rintro e w' ⟨rfl, rfl⟩
  go_wp2_with fail
  refine (access_add (.agg #[.pointer (some ⟨B, a, none⟩), .int .u64 0, .int .u64 v]) M B n s (fun j => if j = a then some (.int .u64 (IntKind.u64.wrap (s.ws a + v))) else w.cell? ⟨B, j, none⟩) 4 (a : Int) (s.ws a) (IntKind.u64.wrap (s.ws a + v)) true w HM.out h0 h1 (fun j hj => if_neg (by omega)) HC.out).mono ?_
  rintro e w' ⟨rfl, hb, hc⟩
  have HB := Lib.hid hb
  have HQ := Lib.hid hc
  clear hb hc
  go_wp2
  go_ret
  exact ⟨rfl, HM.out.wrote HB.out (by omega) HQ.out, HB.out⟩
theorem pAdd (M B n : Nat) (s : St) (at_ v : Int) (w : World) (hm : PMem w M B n s) (h0 : 0 ≤ s.cnt) (h1 : s.cnt ≤ 1000000) : Calls Try.prog 17 #[.pointer (some ⟨M, 0, none⟩), .int .i64 at_, .int .u64 v] w fun e w' => e = .returned (.int .u64 (acc n s 4 at_ true (IntKind.u64.wrap (wordAt n s at_ + v))).new) ∧ PMem w' M B n (acc n s 4 at_ true (IntKind.u64.wrap (wordAt n s at_ + v))) ∧ But (fun k => k = B) w w' := by
  by_cases ha : 0 ≤ at_ ∧ at_ < n
  · obtain ⟨a, rfl⟩ := Int.eq_ofNat_of_zero_le ha.1
    exact pAdd_in M B n s a v w hm h0 h1 (by omega)
  · exact pAdd_out M B n s at_ v w hm h0 h1 ha

end Go.Proofs.Ytfndjklpjjcelaa
