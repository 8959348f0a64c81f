/- The program's accesses: what each does to a memory, and tells. -/
import Derived.Test.YtlfdiffbepfgbaaGreatG03
import Derived.Deep.MidRow
import Derived.Laws.Tables
import Derived.Great.Walk
import Derived.Test.YtlfdiffbepfgbaaGreatG01
import Derived.Test.YtlfdiffbepfgbaaGreatG00
set_option linter.unusedVariables false
set_option linter.unusedSimpArgs false

namespace Go.Proofs.YtlfdiffbepfgbaaGreat.Wo
set_option maxRecDepth 20000
open Go.RowKit

theorem done_kept {w w1 w2 : World} {B : Nat} (k0 : Kept w w1) (k : Kept w1 w2) (hB : B < w.heap.size) (o n : Int) (h : Bool) : Done B (fun j => w.cell? ⟨B, j, none⟩) o n h w1 (.returned (.agg #[.int .i64 0, .int .i64 0, .int .u64 (o), .int .u64 (n), .bool h])) w2 :=
  ⟨rfl, k.but _, fun j => by rw [(k0.trans k).cell B j hB]⟩
theorem done_wrote {w w1 w2 : World} {B i : Nat} {v : Int} (k0 : Kept w w1) (k : Wrote B i v w1 w2) (hB : B < w.heap.size) (o n : Int) (h : Bool) : Done B (fun j => if j = i then some (.int .u64 v) else w.cell? ⟨B, j, none⟩) o n h w1 (.returned (.agg #[.int .i64 0, .int .i64 0, .int .u64 (o), .int .u64 (n), .bool h])) w2 :=
  ⟨rfl, k.but, fun j => by rw [k.cell, k0.cell B j hB]⟩

theorem PMem.read {w w' : World} {M B n : Nat} {s : St} {kind at_ o nw : Int} {h : Bool} (hm : PMem w M B n s) (hb : But (fun k => k = B) w w')
    (hc : ∀ j, w'.cell? ⟨B, j, none⟩ = accCells (fun j => w.cell? ⟨B, j, none⟩) kind at_ o nw h s.cnt j) :
    PMem w' M B n { ws := s.ws, kind := kind, at_ := at_, old := o, new := nw, held := h, cnt := s.cnt + 1 } := by
  refine ⟨hb.some hm.p hm.ne, fun i hi => ?_, ?_, ?_, ?_, ?_, ?_, ?_, ?_, fun i => (hb.froze _).trans (hm.fB i), hm.ne, hm.hn⟩
  · obtain ⟨x, h1, h2⟩ := hm.words i hi
    refine ⟨x, ?_, h2⟩
    rw [hc]; unfold accCells
    rw [if_neg (by omega), if_neg (by omega), if_neg (by omega), if_neg (by omega), if_neg (by omega), if_neg (by omega)]
    exact h1
  · rw [hc]; exact hm.size
  all_goals (rw [hc]; rfl)

theorem PMem.wrote {w w' : World} {M B n i : Nat} {s : St} {kind at_ o nw v : Int} {h : Bool} (hm : PMem w M B n s) (hb : But (fun k => k = B) w w') (hi : i < 4096)
    (hc : ∀ j, w'.cell? ⟨B, j, none⟩ = accCells (fun j => if j = i then some (.int .u64 v) else w.cell? ⟨B, j, none⟩) kind at_ o nw h s.cnt j) :
    PMem w' M B n { ws := fun j => if j = i then v else s.ws j, kind := kind, at_ := at_, old := o, new := nw, held := h, cnt := s.cnt + 1 } := by
  refine ⟨hb.some hm.p hm.ne, fun k hk => ?_, ?_, ?_, ?_, ?_, ?_, ?_, ?_, fun i => (hb.froze _).trans (hm.fB i), hm.ne, hm.hn⟩
  · obtain ⟨x, h1, h2⟩ := hm.words k hk
    rw [hc]; unfold accCells
    rw [if_neg (by omega), if_neg (by omega), if_neg (by omega), if_neg (by omega), if_neg (by omega), if_neg (by omega)]
    by_cases hki : k = i
    · exact ⟨v, if_pos hki, fun _ => (if_pos hki).symm⟩
    · exact ⟨x, (if_neg hki).trans h1, fun h => (h2 h).trans (if_neg hki).symm⟩
  · rw [hc]; unfold accCells
    rw [if_neg (by omega), if_neg (by omega), if_neg (by omega), if_neg (by omega), if_neg (by omega), if_neg (by omega)]
    exact (if_neg (by omega)).trans hm.size
  all_goals (rw [hc]; rfl)

theorem acc_out {n : Nat} {s : St} {kind at_ : Int} {wr : Bool} {v : Int} (h : ¬ (0 ≤ at_ ∧ at_ < n)) : acc n s kind at_ wr v = { ws := s.ws, kind := kind, at_ := at_, old := 0, new := 0, held := false, cnt := s.cnt + 1 } := by
  unfold acc; rw [if_neg h]
theorem acc_read {n : Nat} {s : St} {kind : Int} {a : Nat} {v : Int} (h : a < n) : acc n s kind (a : Int) false v = { ws := s.ws, kind := kind, at_ := a, old := s.ws a, new := s.ws a, held := false, cnt := s.cnt + 1 } := by
  unfold acc; rw [if_pos (by omega)]; rfl
theorem acc_write {n : Nat} {s : St} {kind : Int} {a : Nat} {v : Int} (h : a < n) : acc n s kind (a : Int) true v = { ws := fun j => if j = a then v else s.ws j, kind := kind, at_ := a, old := s.ws a, new := v, held := true, cnt := s.cnt + 1 } := by
  unfold acc; rw [if_pos (by omega)]; rfl
theorem wordAt_in {n : Nat} {s : St} {a : Nat} (h : a < n) : wordAt n s (a : Int) = s.ws a := by
  unfold wordAt; rw [if_pos (by omega)]; rfl

theorem field_new (k a o n : Int) (h : Bool) (w : World) : (Instr.field 72 (.agg #[.int .i64 k, .int .i64 a, .int .u64 o, .int .u64 n, .bool h]) 3).run Tryz.prog w = .ok (.int .u64 n) w := by kernel_rfl
theorem field_held (k a o n : Int) (h : Bool) (w : World) : (Instr.field 72 (.agg #[.int .i64 k, .int .i64 a, .int .u64 o, .int .u64 n, .bool h]) 4).run Tryz.prog w = .ok (.bool h) w := by kernel_rfl

set_option maxHeartbeats 1000000 in
theorem pLoad_out (M B n : Nat) (s : St) (at_ : Int) (w : World) (hm : PMem w M B n s) (h0 : 0 ≤ s.cnt) (h1 : s.cnt ≤ 1000000) (ha : ¬ (0 ≤ at_ ∧ at_ < n)) : Calls Tryz.prog 147 #[.pointer (some ⟨M, 0, none⟩), .int .i64 at_] w fun e w' => e = .returned (.int .u64 (acc n s 1 at_ false 0).new) ∧ PMem w' M B n (acc n s 1 at_ false 0) ∧ But (fun k => k = B) w w' := by
  have hp := hm.p
  have hs := hm.size
  have hB := hm.lt.2
  have HC : Hid (∀ w1, Kept w w1 → Calls Tryz.prog 238 #[(.agg #[.pointer none, .int .u64 0, .int .u64 0])] w1 (Done B (fun j => w.cell? ⟨B, j, none⟩) 0 0 false w1)) := Lib.hid (fun w1 k0 => (load_nil _ _ _).mono (by rintro e w2 ⟨rfl, k⟩; exact done_kept k0 k hB 0 0 false))
  rw [acc_out ha]
  have HM := Lib.hid hm
  have HA : Hid (at_ < 0 ∨ n ≤ at_) := Lib.hid (by omega)
  clear hm ha
  have hfn := field_new
  have hfh := field_held
  go_enter Tryz.func147, Tryz.ntmps147
  go_wp2_with fail
  refine (cell_out M B n at_ _ hp hs HA.out).mono ?_
  rintro e w' ⟨rfl, rfl⟩
  go_wp2_with fail
  refine (access_load (.agg #[.pointer none, .int .u64 0, .int .u64 0]) M B n s (fun j => w.cell? ⟨B, j, none⟩) 1 at_ (0) (0) false w HM.out h0 h1 (fun j hj => rfl) HC.out).mono ?_
  rintro e w' ⟨rfl, hb, hc⟩
  have HB := Lib.hid hb
  have HQ := Lib.hid hc
  clear hb hc
  go_wp2
  go_ret
  exact ⟨rfl, HM.out.read HB.out HQ.out, HB.out⟩
set_option maxHeartbeats 1000000 in
theorem pLoad_in (M B n : Nat) (s : St) (a : Nat) (w : World) (hm : PMem w M B n s) (h0 : 0 ≤ s.cnt) (h1 : s.cnt ≤ 1000000) (ha : a < n) : Calls Tryz.prog 147 #[.pointer (some ⟨M, 0, none⟩), .int .i64 a] w fun e w' => e = .returned (.int .u64 (acc n s 1 a false 0).new) ∧ PMem w' M B n (acc n s 1 a false 0) ∧ But (fun k => k = B) w w' := by
  have hp := hm.p
  have hs := hm.size
  have hB := hm.lt.2
  have hn := hm.hn.2
  obtain ⟨x, hx, hxs⟩ := hm.words a (by omega)
  obtain rfl := hxs ha
  have hf := hm.fB a
  have HC : Hid (∀ w1, Kept w w1 → Calls Tryz.prog 238 #[(.agg #[.pointer (some ⟨B, a, none⟩), .int .u64 0, .int .u64 0])] w1 (Done B (fun j => w.cell? ⟨B, j, none⟩) (s.ws a) (s.ws a) false w1)) := Lib.hid (fun w1 k0 => (load_at B a _ _ _ _ (k0.some hx)).mono (by rintro e w2 ⟨rfl, k⟩; exact done_kept k0 k hB _ _ _))
  rw [acc_read ha]
  have HM := Lib.hid hm
  clear hm hx hxs hf
  have hfn := field_new
  have hfh := field_held
  go_enter Tryz.func147, Tryz.ntmps147
  go_wp2_with fail
  refine (cell_in M B n a _ hp hs ha hn).mono ?_
  rintro e w' ⟨rfl, rfl⟩
  go_wp2_with fail
  refine (access_load (.agg #[.pointer (some ⟨B, a, none⟩), .int .u64 0, .int .u64 0]) M B n s (fun j => w.cell? ⟨B, j, none⟩) 1 (a : Int) (s.ws a) (s.ws a) false w HM.out h0 h1 (fun j hj => rfl) HC.out).mono ?_
  rintro e w' ⟨rfl, hb, hc⟩
  have HB := Lib.hid hb
  have HQ := Lib.hid hc
  clear hb hc
  go_wp2
  go_ret
  exact ⟨rfl, HM.out.read HB.out HQ.out, HB.out⟩
theorem pLoad (M B n : Nat) (s : St) (at_ : Int) (w : World) (hm : PMem w M B n s) (h0 : 0 ≤ s.cnt) (h1 : s.cnt ≤ 1000000) : Calls Tryz.prog 147 #[.pointer (some ⟨M, 0, none⟩), .int .i64 at_] w fun e w' => e = .returned (.int .u64 (acc n s 1 at_ false 0).new) ∧ PMem w' M B n (acc n s 1 at_ false 0) ∧ But (fun k => k = B) w w' := by
  by_cases ha : 0 ≤ at_ ∧ at_ < n
  · obtain ⟨a, rfl⟩ := Int.eq_ofNat_of_zero_le ha.1
    exact pLoad_in M B n s a w hm h0 h1 (by omega)
  · exact pLoad_out M B n s at_ w hm h0 h1 ha

set_option maxHeartbeats 1000000 in
theorem pStore_out (M B n : Nat) (s : St) (at_ v : Int) (w : World) (hm : PMem w M B n s) (h0 : 0 ≤ s.cnt) (h1 : s.cnt ≤ 1000000) (ha : ¬ (0 ≤ at_ ∧ at_ < n)) : Calls Tryz.prog 78 #[.pointer (some ⟨M, 0, none⟩), .int .i64 at_, .int .u64 v] w fun e w' => e = .returned (.tuple #[]) ∧ PMem w' M B n (acc n s 2 at_ true v) ∧ But (fun k => k = B) w w' := by
  have hp := hm.p
  have hs := hm.size
  have hB := hm.lt.2
  have HC : Hid (∀ w1, Kept w w1 → Calls Tryz.prog 174 #[(.agg #[.pointer none, .int .u64 0, .int .u64 v])] w1 (Done B (fun j => w.cell? ⟨B, j, none⟩) 0 0 false w1)) := Lib.hid (fun w1 k0 => (store_nil _ _ _).mono (by rintro e w2 ⟨rfl, k⟩; exact done_kept k0 k hB 0 0 false))
  rw [acc_out ha]
  have HM := Lib.hid hm
  have HA : Hid (at_ < 0 ∨ n ≤ at_) := Lib.hid (by omega)
  clear hm ha
  have hfn := field_new
  have hfh := field_held
  go_enter Tryz.func78, Tryz.ntmps78
  go_wp2_with fail
  refine (cell_out M B n at_ _ hp hs HA.out).mono ?_
  rintro e w' ⟨rfl, rfl⟩
  go_wp2_with fail
  refine (access_store (.agg #[.pointer none, .int .u64 0, .int .u64 v]) M B n s (fun j => w.cell? ⟨B, j, none⟩) 2 at_ (0) (0) false w HM.out h0 h1 (fun j hj => rfl) HC.out).mono ?_
  rintro e w' ⟨rfl, hb, hc⟩
  have HB := Lib.hid hb
  have HQ := Lib.hid hc
  clear hb hc
  go_wp2
  go_end0
  exact ⟨rfl, HM.out.read HB.out HQ.out, HB.out⟩
set_option maxHeartbeats 1000000 in
theorem pStore_in (M B n : Nat) (s : St) (a : Nat) (v : Int) (w : World) (hm : PMem w M B n s) (h0 : 0 ≤ s.cnt) (h1 : s.cnt ≤ 1000000) (ha : a < n) : Calls Tryz.prog 78 #[.pointer (some ⟨M, 0, none⟩), .int .i64 a, .int .u64 v] w fun e w' => e = .returned (.tuple #[]) ∧ PMem w' M B n (acc n s 2 a true v) ∧ But (fun k => k = B) w w' := by
  have hp := hm.p
  have hs := hm.size
  have hB := hm.lt.2
  have hn := hm.hn.2
  obtain ⟨x, hx, hxs⟩ := hm.words a (by omega)
  obtain rfl := hxs ha
  have hf := hm.fB a
  have HC : Hid (∀ w1, Kept w w1 → Calls Tryz.prog 174 #[(.agg #[.pointer (some ⟨B, a, none⟩), .int .u64 0, .int .u64 v])] w1 (Done B (fun j => if j = a then some (.int .u64 v) else w.cell? ⟨B, j, none⟩) (s.ws a) (v) true w1)) := Lib.hid (fun w1 k0 => (store_at B a _ _ _ _ (k0.some hx) ((k0.froze _).trans hf)).mono (by rintro e w2 ⟨rfl, k⟩; exact done_wrote k0 k hB _ _ _))
  rw [acc_write ha]
  have HM := Lib.hid hm
  clear hm hx hxs hf
  have hfn := field_new
  have hfh := field_held
  go_enter Tryz.func78, Tryz.ntmps78
  go_wp2_with fail
  refine (cell_in M B n a _ hp hs ha hn).mono ?_
  rintro e w' ⟨rfl, rfl⟩
  go_wp2_with fail
  refine (access_store (.agg #[.pointer (some ⟨B, a, none⟩), .int .u64 0, .int .u64 v]) M B n s (fun j => if j = a then some (.int .u64 v) else w.cell? ⟨B, j, none⟩) 2 (a : Int) (s.ws a) (v) true w HM.out h0 h1 (fun j hj => if_neg (by omega)) HC.out).mono ?_
  rintro e w' ⟨rfl, hb, hc⟩
  have HB := Lib.hid hb
  have HQ := Lib.hid hc
  clear hb hc
  go_wp2
  go_end0
  exact ⟨rfl, HM.out.wrote HB.out (by omega) HQ.out, HB.out⟩
theorem pStore (M B n : Nat) (s : St) (at_ v : Int) (w : World) (hm : PMem w M B n s) (h0 : 0 ≤ s.cnt) (h1 : s.cnt ≤ 1000000) : Calls Tryz.prog 78 #[.pointer (some ⟨M, 0, none⟩), .int .i64 at_, .int .u64 v] w fun e w' => e = .returned (.tuple #[]) ∧ PMem w' M B n (acc n s 2 at_ true v) ∧ But (fun k => k = B) w w' := by
  by_cases ha : 0 ≤ at_ ∧ at_ < n
  · obtain ⟨a, rfl⟩ := Int.eq_ofNat_of_zero_le ha.1
    exact pStore_in M B n s a v w hm h0 h1 (by omega)
  · exact pStore_out M B n s at_ v w hm h0 h1 ha

set_option maxHeartbeats 1000000 in
theorem pCAS_out (M B n : Nat) (s : St) (at_ o v : Int) (w : World) (hm : PMem w M B n s) (h0 : 0 ≤ s.cnt) (h1 : s.cnt ≤ 1000000) (ha : ¬ (0 ≤ at_ ∧ at_ < n)) : Calls Tryz.prog 273 #[.pointer (some ⟨M, 0, none⟩), .int .i64 at_, .int .u64 o, .int .u64 v] w fun e w' => e = .returned (.bool (acc n s 3 at_ (wordAt n s at_ == o) v).held) ∧ PMem w' M B n (acc n s 3 at_ (wordAt n s at_ == o) v) ∧ But (fun k => k = B) w w' := by
  have hp := hm.p
  have hs := hm.size
  have hB := hm.lt.2
  have HC : Hid (∀ w1, Kept w w1 → Calls Tryz.prog 312 #[(.agg #[.pointer none, .int .u64 o, .int .u64 v])] w1 (Done B (fun j => w.cell? ⟨B, j, none⟩) 0 0 false w1)) := Lib.hid (fun w1 k0 => (swap_nil _ _ _).mono (by rintro e w2 ⟨rfl, k⟩; exact done_kept k0 k hB 0 0 false))
  rw [acc_out ha]
  have HM := Lib.hid hm
  have HA : Hid (at_ < 0 ∨ n ≤ at_) := Lib.hid (by omega)
  clear hm ha
  have hfn := field_new
  have hfh := field_held
  go_enter Tryz.func273, Tryz.ntmps273
  go_wp2_with fail
  refine (cell_out M B n at_ _ hp hs HA.out).mono ?_
  rintro e w' ⟨rfl, rfl⟩
  go_wp2_with fail
  refine (access_swap (.agg #[.pointer none, .int .u64 o, .int .u64 v]) M B n s (fun j => w.cell? ⟨B, j, none⟩) 3 at_ (0) (0) false w HM.out h0 h1 (fun j hj => rfl) HC.out).mono ?_
  rintro e w' ⟨rfl, hb, hc⟩
  have HB := Lib.hid hb
  have HQ := Lib.hid hc
  clear hb hc
  go_wp2
  go_ret
  exact ⟨rfl, HM.out.read HB.out HQ.out, HB.out⟩
set_option maxHeartbeats 1000000 in
theorem pCAS_no (M B n : Nat) (s : St) (a : Nat) (o v : Int) (w : World) (hm : PMem w M B n s) (h0 : 0 ≤ s.cnt) (h1 : s.cnt ≤ 1000000) (ha : a < n) (hq : (s.ws a != o) = true) : Calls Tryz.prog 273 #[.pointer (some ⟨M, 0, none⟩), .int .i64 a, .int .u64 o, .int .u64 v] w fun e w' => e = .returned (.bool false) ∧ PMem w' M B n (acc n s 3 a false v) ∧ But (fun k => k = B) w w' := by
  have hp := hm.p
  have hs := hm.size
  have hB := hm.lt.2
  have hn := hm.hn.2
  obtain ⟨x, hx, hxs⟩ := hm.words a (by omega)
  obtain rfl := hxs ha
  have hf := hm.fB a
  have HC : Hid (∀ w1, Kept w w1 → Calls Tryz.prog 312 #[(.agg #[.pointer (some ⟨B, a, none⟩), .int .u64 o, .int .u64 v])] w1 (Done B (fun j => w.cell? ⟨B, j, none⟩) (s.ws a) (s.ws a) false w1)) := Lib.hid (fun w1 k0 => (swap_no B a _ _ _ _ (k0.some hx) hq).mono (by rintro e w2 ⟨rfl, k⟩; exact done_kept k0 k hB _ _ _))
  rw [acc_read ha]
  clear hq
  have HM := Lib.hid hm
  clear hm hx hxs hf
  have hfn := field_new
  have hfh := field_held
  go_enter Tryz.func273, Tryz.ntmps273
  go_wp2_with fail
  refine (cell_in M B n a _ hp hs ha hn).mono ?_
  rintro e w' ⟨rfl, rfl⟩
  go_wp2_with fail
  refine (access_swap (.agg #[.pointer (some ⟨B, a, none⟩), .int .u64 o, .int .u64 v]) M B n s (fun j => w.cell? ⟨B, j, none⟩) 3 (a : Int) (s.ws a) (s.ws a) false w HM.out h0 h1 (fun j hj => rfl) HC.out).mono ?_
  rintro e w' ⟨rfl, hb, hc⟩
  have HB := Lib.hid hb
  have HQ := Lib.hid hc
  clear hb hc
  go_wp2
  go_ret
  exact ⟨rfl, HM.out.read HB.out HQ.out, HB.out⟩
set_option maxHeartbeats 1000000 in
theorem pCAS_yes (M B n : Nat) (s : St) (a : Nat) (v : Int) (w : World) (hm : PMem w M B n s) (h0 : 0 ≤ s.cnt) (h1 : s.cnt ≤ 1000000) (ha : a < n) : Calls Tryz.prog 273 #[.pointer (some ⟨M, 0, none⟩), .int .i64 a, .int .u64 (s.ws a), .int .u64 v] w fun e w' => e = .returned (.bool true) ∧ PMem w' M B n (acc n s 3 a true v) ∧ But (fun k => k = B) w w' := by
  have hp := hm.p
  have hs := hm.size
  have hB := hm.lt.2
  have hn := hm.hn.2
  obtain ⟨x, hx, hxs⟩ := hm.words a (by omega)
  obtain rfl := hxs ha
  have hf := hm.fB a
  have HC : Hid (∀ w1, Kept w w1 → Calls Tryz.prog 312 #[(.agg #[.pointer (some ⟨B, a, none⟩), .int .u64 (s.ws a), .int .u64 v])] w1 (Done B (fun j => if j = a then some (.int .u64 v) else w.cell? ⟨B, j, none⟩) (s.ws a) (v) true w1)) := Lib.hid (fun w1 k0 => (swap_yes B a _ _ _ (k0.some hx) ((k0.froze _).trans hf)).mono (by rintro e w2 ⟨rfl, k⟩; exact done_wrote k0 k hB _ _ _))
  rw [acc_write ha]
  have HM := Lib.hid hm
  clear hm hx hxs hf
  have hfn := field_new
  have hfh := field_held
  go_enter Tryz.func273, Tryz.ntmps273
  go_wp2_with fail
  refine (cell_in M B n a _ hp hs ha hn).mono ?_
  rintro e w' ⟨rfl, rfl⟩
  go_wp2_with fail
  refine (access_swap (.agg #[.pointer (some ⟨B, a, none⟩), .int .u64 (s.ws a), .int .u64 v]) M B n s (fun j => if j = a then some (.int .u64 v) else w.cell? ⟨B, j, none⟩) 3 (a : Int) (s.ws a) (v) true w HM.out h0 h1 (fun j hj => if_neg (by omega)) HC.out).mono ?_
  rintro e w' ⟨rfl, hb, hc⟩
  have HB := Lib.hid hb
  have HQ := Lib.hid hc
  clear hb hc
  go_wp2
  go_ret
  exact ⟨rfl, HM.out.wrote HB.out (by omega) HQ.out, HB.out⟩
set_option maxHeartbeats 1000000 in
theorem pCAS (M B n : Nat) (s : St) (at_ o v : Int) (w : World) (hm : PMem w M B n s) (h0 : 0 ≤ s.cnt) (h1 : s.cnt ≤ 1000000) : Calls Tryz.prog 273 #[.pointer (some ⟨M, 0, none⟩), .int .i64 at_, .int .u64 o, .int .u64 v] w fun e w' => e = .returned (.bool (acc n s 3 at_ (wordAt n s at_ == o) v).held) ∧ PMem w' M B n (acc n s 3 at_ (wordAt n s at_ == o) v) ∧ But (fun k => k = B) w w' := by
  by_cases ha : 0 ≤ at_ ∧ at_ < n
  · obtain ⟨a, rfl⟩ := Int.eq_ofNat_of_zero_le ha.1
    have han : a < n := by omega
    rw [wordAt_in han]
    by_cases hq : s.ws a = o
    · rw [show (s.ws a == o) = true by simp [hq], acc_write han]
      subst hq
      have h := pCAS_yes M B n s a v w hm h0 h1 han
      rw [acc_write han] at h
      exact h
    · rw [show (s.ws a == o) = false by simp [hq], acc_read han]
      have h := pCAS_no M B n s a o v w hm h0 h1 han (by simp [hq])
      rw [acc_read han] at h
      exact h
  · exact pCAS_out M B n s at_ o v w hm h0 h1 ha

set_option maxHeartbeats 1000000 in
theorem pAdd_out (M B n : Nat) (s : St) (at_ v : Int) (w : World) (hm : PMem w M B n s) (h0 : 0 ≤ s.cnt) (h1 : s.cnt ≤ 1000000) (ha : ¬ (0 ≤ at_ ∧ at_ < n)) : Calls Tryz.prog 301 #[.pointer (some ⟨M, 0, none⟩), .int .i64 at_, .int .u64 v] w fun e w' => e = .returned (.int .u64 (acc n s 4 at_ true (IntKind.u64.wrap (wordAt n s at_ + v))).new) ∧ PMem w' M B n (acc n s 4 at_ true (IntKind.u64.wrap (wordAt n s at_ + v))) ∧ But (fun k => k = B) w w' := by
  have hp := hm.p
  have hs := hm.size
  have hB := hm.lt.2
  have HC : Hid (∀ w1, Kept w w1 → Calls Tryz.prog 330 #[(.agg #[.pointer none, .int .u64 0, .int .u64 v])] w1 (Done B (fun j => w.cell? ⟨B, j, none⟩) 0 0 false w1)) := Lib.hid (fun w1 k0 => (add_nil _ _ _).mono (by rintro e w2 ⟨rfl, k⟩; exact done_kept k0 k hB 0 0 false))
  rw [acc_out ha]
  have HM := Lib.hid hm
  have HA : Hid (at_ < 0 ∨ n ≤ at_) := Lib.hid (by omega)
  clear hm ha
  have hfn := field_new
  have hfh := field_held
  go_enter Tryz.func301, Tryz.ntmps301
  go_wp2_with fail
  refine (cell_out M B n at_ _ hp hs HA.out).mono ?_
  rintro e w' ⟨rfl, rfl⟩
  go_wp2_with fail
  refine (access_add (.agg #[.pointer none, .int .u64 0, .int .u64 v]) M B n s (fun j => w.cell? ⟨B, j, none⟩) 4 at_ (0) (0) false w HM.out h0 h1 (fun j hj => rfl) HC.out).mono ?_
  rintro e w' ⟨rfl, hb, hc⟩
  have HB := Lib.hid hb
  have HQ := Lib.hid hc
  clear hb hc
  go_wp2
  go_ret
  exact ⟨rfl, HM.out.read HB.out HQ.out, HB.out⟩
set_option maxHeartbeats 1000000 in
theorem pAdd_in (M B n : Nat) (s : St) (a : Nat) (v : Int) (w : World) (hm : PMem w M B n s) (h0 : 0 ≤ s.cnt) (h1 : s.cnt ≤ 1000000) (ha : a < n) : Calls Tryz.prog 301 #[.pointer (some ⟨M, 0, none⟩), .int .i64 a, .int .u64 v] w fun e w' => e = .returned (.int .u64 (acc n s 4 a true (IntKind.u64.wrap (wordAt n s a + v))).new) ∧ PMem w' M B n (acc n s 4 a true (IntKind.u64.wrap (wordAt n s a + v))) ∧ But (fun k => k = B) w w' := by
  have hp := hm.p
  have hs := hm.size
  have hB := hm.lt.2
  have hn := hm.hn.2
  obtain ⟨x, hx, hxs⟩ := hm.words a (by omega)
  obtain rfl := hxs ha
  have hf := hm.fB a
  have HC : Hid (∀ w1, Kept w w1 → Calls Tryz.prog 330 #[(.agg #[.pointer (some ⟨B, a, none⟩), .int .u64 0, .int .u64 v])] w1 (Done B (fun j => if j = a then some (.int .u64 (IntKind.u64.wrap (s.ws a + v))) else w.cell? ⟨B, j, none⟩) (s.ws a) (IntKind.u64.wrap (s.ws a + v)) true w1)) := Lib.hid (fun w1 k0 => (add_at B a _ _ _ _ (k0.some hx) ((k0.froze _).trans hf)).mono (by rintro e w2 ⟨rfl, k⟩; exact done_wrote k0 k hB _ _ _))
  rw [wordAt_in ha, acc_write ha]
  have HM := Lib.hid hm
  clear hm hx hxs hf
  have hfn := field_new
  have hfh := field_held
  go_enter Tryz.func301, Tryz.ntmps301
  go_wp2_with fail
  refine (cell_in M B n a _ hp hs ha hn).mono ?_
  rintro e w' ⟨rfl, rfl⟩
  go_wp2_with fail
  refine (access_add (.agg #[.pointer (some ⟨B, a, none⟩), .int .u64 0, .int .u64 v]) M B n s (fun j => if j = a then some (.int .u64 (IntKind.u64.wrap (s.ws a + v))) else w.cell? ⟨B, j, none⟩) 4 (a : Int) (s.ws a) (IntKind.u64.wrap (s.ws a + v)) true w HM.out h0 h1 (fun j hj => if_neg (by omega)) HC.out).mono ?_
  rintro e w' ⟨rfl, hb, hc⟩
  have HB := Lib.hid hb
  have HQ := Lib.hid hc
  clear hb hc
  go_wp2
  go_ret
  exact ⟨rfl, HM.out.wrote HB.out (by omega) HQ.out, HB.out⟩
theorem pAdd (M B n : Nat) (s : St) (at_ v : Int) (w : World) (hm : PMem w M B n s) (h0 : 0 ≤ s.cnt) (h1 : s.cnt ≤ 1000000) : Calls Tryz.prog 301 #[.pointer (some ⟨M, 0, none⟩), .int .i64 at_, .int .u64 v] w fun e w' => e = .returned (.int .u64 (acc n s 4 at_ true (IntKind.u64.wrap (wordAt n s at_ + v))).new) ∧ PMem w' M B n (acc n s 4 at_ true (IntKind.u64.wrap (wordAt n s at_ + v))) ∧ But (fun k => k = B) w w' := by
  by_cases ha : 0 ≤ at_ ∧ at_ < n
  · obtain ⟨a, rfl⟩ := Int.eq_ofNat_of_zero_le ha.1
    exact pAdd_in M B n s a v w hm h0 h1 (by omega)
  · exact pAdd_out M B n s at_ v w hm h0 h1 ha

end Go.Proofs.YtlfdiffbepfgbaaGreat.Wo

namespace Go.Proofs.YtlfdiffbepfgbaaGreat.Wo
set_option maxRecDepth 20000
open Go.RowKit

def zeroCells : List Value := List.replicate 4096 (.int .u64 0) ++ [.int .i64 0, .int .i64 0, .int .i64 0, .int .u64 0, .int .u64 0, .bool false, .int .i64 0]
theorem infoContents : (Tryz.prog.info? 145).map (fun i => (i.zero, i.size)) = some (some (.agg zeroCells.toArray), 4103) := by kernel_rfl
theorem zero_lo (i : Nat) (h : i < 4096) : zeroCells[i]? = some (.int .u64 0) := by
  unfold zeroCells
  rw [List.getElem?_append_left (by rw [List.length_replicate]; exact h)]
  rw [List.getElem?_replicate, if_pos h]
theorem zero_hi (j : Nat) : zeroCells[4096 + j]? = ([.int .i64 0, .int .i64 0, .int .i64 0, .int .u64 0, .int .u64 0, .bool false, .int .i64 0] : List Value)[j]? := by
  unfold zeroCells
  rw [List.getElem?_append_right (by rw [List.length_replicate]; omega), List.length_replicate, Nat.add_sub_cancel_left]
theorem zero_len : zeroCells.length = 4103 := by
  unfold zeroCells
  rw [List.length_append, List.length_replicate]
  rfl

theorem zeroed : ∃ Z : Array Value, Z.size = 4103 ∧ (∀ i, i < 4096 → Z[i]? = some (.int .u64 0)) ∧ (∀ j, Z[4096 + j]? = ([.int .i64 0, .int .i64 0, .int .i64 0, .int .u64 0, .int .u64 0, .bool false, .int .i64 0] : List Value)[j]?) ∧
    ∀ w, (zeroValue 145).run Tryz.prog w = .ok (.agg Z) w := by
  obtain ⟨x, hx, hxx⟩ := Option.map_eq_some_iff.1 infoContents
  simp only [Prod.mk.injEq] at hxx
  exact ⟨zeroCells.toArray, by rw [List.size_toArray]; exact zero_len, fun i h => by rw [List.getElem?_toArray]; exact zero_lo i h, fun j => by rw [List.getElem?_toArray]; exact zero_hi j,
    fun w => by simp [zeroValue, typeInfo, hx, hxx.1]⟩

set_option maxHeartbeats 1000000 in
theorem new_no_any (n : Int) (h : n < 1 ∨ 4096 < n) (w : World) : Calls Tryz.prog 28 #[.int .i64 n] w fun e w' => e = .returned (.tuple #[.pointer none, .int .i64 3]) ∧ w = w' := by
  rcases h with h | h
  · go_enter Tryz.func28, Tryz.ntmps28
    go_wp2
    go_ret2
    exact ⟨rfl, rfl⟩
  · have h' : ¬ n < 1 := by omega
    go_enter Tryz.func28, Tryz.ntmps28
    go_wp2
    go_ret2
    exact ⟨rfl, rfl⟩

set_option maxRecDepth 100000 in
set_option maxHeartbeats 1000000 in
theorem new_yes_any (n : Nat) (h : 1 ≤ n) (h' : n ≤ 4096) (w : World) : Calls Tryz.prog 28 #[.int .i64 n] w fun e w' => e = .returned (.tuple #[.pointer (some ⟨w.heap.size + 1, 0, none⟩), .int .i64 0]) ∧ PMem w' (w.heap.size + 1) w.heap.size n St.zero ∧ w'.heap.size = w.heap.size + 2 ∧ Kept w w' := by
  obtain ⟨Z, hZ, hlo, hhi, hz⟩ := zeroed
  have HLO := Lib.hid hlo
  have HHI := Lib.hid hhi
  have HZ := Lib.hid hZ
  clear hlo hhi
  go_enter Tryz.func28, Tryz.ntmps28
  go_wp2
  go_ret2
  go_light
  refine ⟨rfl, ⟨?_, fun i hi => ⟨0, ?_, fun _ => rfl⟩, ?_, ?_, ?_, ?_, ?_, ?_, ?_, fun i => ?_, by omega, h, h'⟩, by simp, ?_⟩
  · simp
  · have := HLO.out i hi
    simpa [show ¬ 4096 = i by omega] using this
  · simp [HZ.out]
  · have := HHI.out 1
    simpa [St.zero] using this
  · have := HHI.out 2
    simpa [St.zero] using this
  · have := HHI.out 3
    simpa [St.zero] using this
  · have := HHI.out 4
    simpa [St.zero] using this
  · have := HHI.out 5
    simpa [St.zero] using this
  · have := HHI.out 6
    simpa [St.zero] using this
  · simp
  · (go_light; repeat (first | (with_reducible exact Kept.refl _) | (with_reducible assumption) | (with_reducible refine Kept.alloc ?_ _ _) | (with_reducible refine Kept.drew ?_) | (with_reducible refine Kept.drewN ?_ _) | ((with_reducible refine Kept.setCell ?_ ?_ _); rotate_left; focus (first | (simp; done) | (simp; omega))) | refine Kept.trans ?_ (by assumption)))

theorem But.hereN {b : Nat} {a : World} : ∀ (vs : List Value) (o : Nat) (w : World), But (fun k => k = b) a w → But (fun k => k = b) a (w.setCells b o vs)
  | [], _, _, h => h
  | v :: r, o, w, h => But.hereN r (o + 1) _ (h.here o v)

theorem size_setCells {b : Nat} : ∀ (vs : List Value) (o : Nat) (w : World), (w.setCells b o vs).heap.size = w.heap.size
  | [], _, _ => rfl
  | v :: r, o, w => (size_setCells r (o + 1) _).trans (by simp)

theorem infoSize : (Tryz.prog.info? 145).map (·.size) = some 4103 := by
  obtain ⟨x, hx, hxx⟩ := Option.map_eq_some_iff.1 infoContents
  simp only [Prod.mk.injEq] at hxx
  rw [hx]; simp [hxx.2]

theorem PMem.range {w : World} {M B n : Nat} {s : St} (hm : PMem w M B n s) : ∃ cs : List Value, cs.length = 4103 ∧ w.rangeAt B 0 cs ∧ (∀ v ∈ cs, v.oneCell' = true) ∧ ∀ i, i < 4103 → cs[i]? = w.cell? ⟨B, i, none⟩ := by
  have h : ∀ i, i < 4103 → ∃ v, w.cell? ⟨B, i, none⟩ = some v ∧ v.oneCell' = true := by
    intro i hi
    by_cases h : i < 4096
    · obtain ⟨x, hx, _⟩ := hm.words i h
      exact ⟨_, hx, rfl⟩
    · have hc : i = 4096 ∨ i = 4097 ∨ i = 4098 ∨ i = 4099 ∨ i = 4100 ∨ i = 4101 ∨ i = 4102 := by omega
      rcases hc with rfl | rfl | rfl | rfl | rfl | rfl | rfl
      · exact ⟨_, hm.size, rfl⟩
      · exact ⟨_, hm.c0, rfl⟩
      · exact ⟨_, hm.c1, rfl⟩
      · exact ⟨_, hm.c2, rfl⟩
      · exact ⟨_, hm.c3, rfl⟩
      · exact ⟨_, hm.c4, rfl⟩
      · exact ⟨_, hm.cnt, rfl⟩
  refine ⟨(List.range 4103).map (fun i => (w.cell? ⟨B, i, none⟩).getD undef), by rw [List.length_map, List.length_range], fun j v hv => ?_, fun v hv => ?_, fun i hi => ?_⟩
  · rw [List.getElem?_map] at hv
    by_cases hj : j < 4103
    · rw [List.getElem?_range hj] at hv
      obtain ⟨u, hu, _⟩ := h j hj
      simp only [Option.map_some, hu, Option.getD_some, Option.some.injEq] at hv
      rw [Nat.zero_add, hu, hv]
    · rw [List.getElem?_eq_none (by rw [List.length_range]; omega)] at hv
      exact absurd hv (by simp)
  · obtain ⟨i, hi, rfl⟩ := List.mem_map.1 hv
    obtain ⟨u, hu, h1⟩ := h i (List.mem_range.1 hi)
    rw [hu]; exact h1
  · obtain ⟨u, hu, _⟩ := h i hi
    rw [List.getElem?_map, List.getElem?_range hi, Option.map_some, hu, Option.getD_some]

end Go.Proofs.YtlfdiffbepfgbaaGreat.Wo

namespace Go.Proofs.YtlfdiffbepfgbaaGreat.Wo
set_option maxRecDepth 20000
open Go.RowKit

set_option maxHeartbeats 2000000 in
theorem words_any (M B n : Nat) (s : St) (w : World) (hm : PMem w M B n s) : Calls Tryz.prog 14 #[.pointer (some ⟨M, 0, none⟩)] w (WordsPost n s w) := by
  have hp := hm.p
  have hs := hm.size
  have hn := hm.hn
  have hM := hm.lt.1
  have hB := hm.lt.2
  obtain ⟨Z, hZ, hmk⟩ := make_words n (by omega)
  have HZ := Lib.hid hZ
  have HM := Lib.hid hm
  clear hm hZ
  go_enter Tryz.func14, Tryz.ntmps14
  go_wp2_with fail
  refine (valid_yes M _ _ hp).mono ?_
  rintro e w' ⟨rfl, rfl⟩
  go_wp2_with fail
  go_loopw [18] (fun i wr => ∃ k : Nat, k ≤ n ∧ i = .int .i64 k ∧ Kept w wr ∧ w.heap.size < wr.heap.size ∧ (∀ j, wr.frozen? ⟨w.heap.size, j, none⟩ = false) ∧ (∀ j, j < k → wr.cell? ⟨w.heap.size, j, none⟩ = some (.int .u64 (s.ws j))) ∧
    (∀ j, k ≤ j → j < n → wr.cell? ⟨w.heap.size, j, none⟩ = some (.int .u64 0))) (fun i _ => n - (intOf i).toNat)
  case atStart =>
    refine ⟨0, Nat.zero_le _, rfl, ?_, by simp, fun j => by simp, fun j h => absurd h (by omega), fun j _ h => ?_⟩
    · (go_light; repeat (first | (with_reducible exact Kept.refl _) | (with_reducible assumption) | (with_reducible refine Kept.alloc ?_ _ _) | (with_reducible refine Kept.drew ?_) | (with_reducible refine Kept.drewN ?_ _) | ((with_reducible refine Kept.setCell ?_ ?_ _); rotate_left; focus (first | (simp; done) | (simp; omega))) | refine Kept.trans ?_ (by assumption)))
    · rw [cell_new _ _ _ _ _ rfl]; exact HZ.out j h
  case round =>
    obtain ⟨k, hk, rfl, kw, hz, hf, h1, h2⟩ := hrel
    have H1 := Lib.hid h1
    have H2 := Lib.hid h2
    clear h1 h2
    by_cases hlt : k < n
    · have c1 := kw.some hp
      have c2 := H2.out k (Nat.le_refl _) hlt
      obtain ⟨x, hx, hxs⟩ := HM.out.words k (by omega)
      obtain rfl := hxs hlt
      have c3 := kw.some hx
      clear hx hxs
      go_wp2_with fail
      refine (word_at B k _ _ c3).mono ?_
      rintro e w' ⟨rfl, rfl⟩
      go_wp2
      go_roundw
      case rel => exact ⟨k + 1, by omega, by go_num, kw.setCell (Nat.le_refl _) _, by simpa using hz, fun j => by rw [World.frozen?_setCell]; exact hf j, fun j h => by
        rw [cell_set]
        by_cases e : k = j
        · subst e; simp [c2]
        · rw [if_neg e]; exact H1.out j (by omega), fun j h h' => by
        rw [cell_set, if_neg (by omega)]; exact H2.out j (by omega) h'⟩
      case measure => simp [intOf]; omega
    · have e : k = n := by omega
      go_wp2
      go_ret
      exact ⟨w.heap.size, n, rfl, Nat.le_refl _, hz, fun i hi => H1.out i (by omega), hf, kw⟩

def Has (w : World) (M : Nat) (S : Nat → Prop) (n : Nat) (s : St) : Prop := ∃ B, (∀ k, S k ↔ k = M ∨ k = B) ∧ PMem w M B n s

theorem Has.op {w w' : World} {M B n : Nat} {S : Nat → Prop} {s : St} (hS : ∀ k, S k ↔ k = M ∨ k = B) (hm : PMem w' M B n s) (hb : But (fun k => k = B) w w') : Has w' M S n s ∧ But S w w' :=
  ⟨⟨B, hS, hm⟩, hb.mono (fun k _ h => (hS k).2 (Or.inr h))⟩

end Go.Proofs.YtlfdiffbepfgbaaGreat.Wo

namespace Go.Proofs.YtlfdiffbepfgbaaGreat.Sk
open Go.RowKit
open Wo (St acc wordAt PMem RefIs)

theorem kept_of {w w' : World} (h : Wo.Kept w w') : Kept w w' := ⟨h.below⟩
theorem kept_eq {w w' : World} (h : w = w') : Kept w w' := h ▸ Kept.refl _
theorem but_of {S : Nat → Prop} {w w' : World} (h : Wo.But S w w') : But S w w' := ⟨h.os, h.tape, h.output, h.size, h.block, fun a _ => h.froze a⟩

theorem pmem_lt {w : World} {M B n : Nat} {s : St} (hm : PMem w M B n s) : M < w.heap.size ∧ B < w.heap.size := ⟨lt_of_cell hm.p, lt_of_cell hm.size⟩
theorem pmem_frame {w w' : World} {M B n : Nat} {s : St} (hm : PMem w M B n s) {T : Nat → Prop} (hb : But T w w') (hM : ¬ T M) (hB : ¬ T B) : PMem w' M B n s :=
  ⟨hb.some hm.p hM, fun i hi => by obtain ⟨x, h, h'⟩ := hm.words i hi; exact ⟨x, hb.some h hB, h'⟩, hb.some hm.size hB, hb.some hm.c0 hB, hb.some hm.c1 hB, hb.some hm.c2 hB, hb.some hm.c3 hB, hb.some hm.c4 hB, hb.some hm.cnt hB,
   fun i => hb.soft (lt_of_cell hm.size) (hm.fB i), hm.ne, hm.hn⟩
theorem pmem_kept {w w' : World} {M B n : Nat} {s : St} (hm : PMem w M B n s) (k : Kept w w') : PMem w' M B n s := pmem_frame hm (k.but (fun _ => False)) id id
theorem ref_lt {w : World} {M B n : Nat} {s : St} (hm : RefIs w M B n s) (hn : 1 ≤ n) : M < w.heap.size ∧ B < w.heap.size := ⟨lt_of_cell hm.c0, lt_of_cell (hm.words 0 hn)⟩
theorem ref_frame {w w' : World} {M B n : Nat} {s : St} (hm : RefIs w M B n s) (hn : 1 ≤ n) {T : Nat → Prop} (hb : But T w w') (hM : ¬ T M) (hB : ¬ T B) : RefIs w' M B n s :=
  ⟨hb.some hm.c0 hM, hb.some hm.c1 hM, hb.some hm.c2 hM, hb.some hm.c3 hM, hb.some hm.c4 hM, hb.some hm.c5 hM, hb.some hm.c6 hM,
   fun i hi => hb.some (hm.words i hi) hB, fun i => hb.soft (ref_lt hm hn).1 (hm.fM i), fun i => hb.soft (ref_lt hm hn).2 (hm.fB i), hm.ne⟩
theorem ref_kept {w w' : World} {M B n : Nat} {s : St} (hm : RefIs w M B n s) (hn : 1 ≤ n) (k : Kept w w') : RefIs w' M B n s := ref_frame hm hn (k.but (fun _ => False)) id id

theorem p_load (M B n : Nat) (s : St) (a : Int) (w : World) (hm : PMem w M B n s) (h0 : 0 ≤ s.cnt) (h1 : s.cnt ≤ 1000000) :
    Calls Tryz.prog 147 #[.pointer (some ⟨M, 0, none⟩), .int .i64 a] w fun e w' => e = .returned (.int .u64 (wordAt n s a)) ∧ PMem w' M B n (acc n s 1 a false 0) ∧ But (fun k => k = B) w w' :=
  (Wo.pLoad M B n s a w hm h0 h1).mono fun _ _ ⟨x, y, z⟩ => ⟨by rw [x, acc_new], y, but_of z⟩
theorem p_store (M B n : Nat) (s : St) (a v : Int) (w : World) (hm : PMem w M B n s) (h0 : 0 ≤ s.cnt) (h1 : s.cnt ≤ 1000000) :
    Calls Tryz.prog 78 #[.pointer (some ⟨M, 0, none⟩), .int .i64 a, .int .u64 v] w fun e w' => e = .returned (.tuple #[]) ∧ PMem w' M B n (acc n s 2 a true v) ∧ But (fun k => k = B) w w' :=
  (Wo.pStore M B n s a v w hm h0 h1).mono fun _ _ ⟨x, y, z⟩ => ⟨x, y, but_of z⟩
theorem p_cas (M B n : Nat) (s : St) (a o v : Int) (w : World) (hm : PMem w M B n s) (h0 : 0 ≤ s.cnt) (h1 : s.cnt ≤ 1000000) (a0 : 0 ≤ a) (a1 : a < n) :
    Calls Tryz.prog 273 #[.pointer (some ⟨M, 0, none⟩), .int .i64 a, .int .u64 o, .int .u64 v] w fun e w' => e = .returned (.bool (wordAt n s a == o)) ∧ PMem w' M B n (acc n s 3 a (wordAt n s a == o) v) ∧ But (fun k => k = B) w w' :=
  (Wo.pCAS M B n s a o v w hm h0 h1).mono fun _ _ ⟨x, y, z⟩ => ⟨by rw [x, acc_held _ _ _ _ _ _ a0 a1], y, but_of z⟩
theorem p_add (M B n : Nat) (s : St) (a v : Int) (w : World) (hm : PMem w M B n s) (h0 : 0 ≤ s.cnt) (h1 : s.cnt ≤ 1000000) :
    Calls Tryz.prog 301 #[.pointer (some ⟨M, 0, none⟩), .int .i64 a, .int .u64 v] w fun e w' => e = .returned (.int .u64 (acc n s 4 a true (IntKind.u64.wrap (wordAt n s a + v))).new) ∧ PMem w' M B n (acc n s 4 a true (IntKind.u64.wrap (wordAt n s a + v))) ∧ But (fun k => k = B) w w' :=
  (Wo.pAdd M B n s a v w hm h0 h1).mono fun _ _ ⟨x, y, z⟩ => ⟨x, y, but_of z⟩
def WordsPost (n : Nat) (s : St) (w : World) (e : Ending) (w' : World) : Prop :=
  ∃ b c, e = .returned (.slice (some ⟨b, 0, none⟩) n c) ∧ w.heap.size ≤ b ∧ b < w'.heap.size ∧ (∀ i, i < n → w'.cell? ⟨b, i, none⟩ = some (.int .u64 (s.ws i))) ∧ (∀ i, w'.frozen? ⟨b, i, none⟩ = false) ∧ Kept w w'
theorem p_words (M B n : Nat) (s : St) (w : World) (hm : PMem w M B n s) : Calls Tryz.prog 14 #[.pointer (some ⟨M, 0, none⟩)] w (WordsPost n s w) :=
  (Wo.words_any M B n s w hm).mono fun _ _ ⟨b, c, x, y, z, u, v, k⟩ => ⟨b, c, x, y, z, u, v, kept_of k⟩
theorem p_last (M B n : Nat) (s : St) (w : World) (hm : PMem w M B n s) : Calls Tryz.prog 24 #[.pointer (some ⟨M, 0, none⟩)] w
    fun e w' => e = .returned (.agg #[.int .i64 s.kind, .int .i64 s.at_, .int .u64 s.old, .int .u64 s.new, .bool s.held]) ∧ Kept w w' :=
  (Wo.last_any M B n s w hm).mono fun _ _ ⟨x, k⟩ => ⟨x, kept_of k⟩
theorem p_count (M B n : Nat) (s : St) (w : World) (hm : PMem w M B n s) : Calls Tryz.prog 26 #[.pointer (some ⟨M, 0, none⟩)] w
    fun e w' => e = .returned (.int .i64 s.cnt) ∧ w = w' := Wo.count_any M B _ w hm.p hm.cnt
theorem p_new (n : Nat) (h : 1 ≤ n) (h' : n ≤ 4096) (w : World) : Calls Tryz.prog 28 #[.int .i64 n] w
    fun e w' => e = .returned (.tuple #[.pointer (some ⟨w.heap.size + 1, 0, none⟩), .int .i64 0]) ∧ PMem w' (w.heap.size + 1) w.heap.size n Wo.St.zero ∧ w'.heap.size = w.heap.size + 2 ∧ Kept w w' :=
  (Wo.new_yes_any n h h' w).mono fun _ _ ⟨x, y, z, k⟩ => ⟨x, y, z, kept_of k⟩

theorem r_load (M B n : Nat) (s : St) (a : Int) (w : World) (hm : RefIs w M B n s) (h0 : 0 ≤ s.cnt) (h1 : s.cnt ≤ 1000000) (hn : n ≤ 4096) :
    Calls Tryz.prog 176 #[.pointer (some ⟨M, 0, none⟩), .int .i64 a] w fun e w' => e = .returned (.int .u64 (wordAt n s a)) ∧ RefIs w' M B n (acc n s 1 a false 0) ∧ But (fun k => k = M ∨ k = B) w w' :=
  (Wo.refLoad_any M B n s a w hm h0 h1 (by omega)).mono fun _ _ ⟨x, y, z⟩ => ⟨by rw [x, acc_new], y, but_of z⟩
theorem r_store (M B n : Nat) (s : St) (a v : Int) (w : World) (hm : RefIs w M B n s) (h0 : 0 ≤ s.cnt) (h1 : s.cnt ≤ 1000000) (hn : n ≤ 4096) :
    Calls Tryz.prog 79 #[.pointer (some ⟨M, 0, none⟩), .int .i64 a, .int .u64 v] w fun e w' => e = .returned (.tuple #[]) ∧ RefIs w' M B n (acc n s 2 a true v) ∧ But (fun k => k = M ∨ k = B) w w' :=
  (Wo.refStore_any M B n s a v w hm h0 h1 (by omega)).mono fun _ _ ⟨x, y, z⟩ => ⟨x, y, but_of z⟩
theorem r_cas (M B n : Nat) (s : St) (a o v : Int) (w : World) (hm : RefIs w M B n s) (h0 : 0 ≤ s.cnt) (h1 : s.cnt ≤ 1000000) (hn : n ≤ 4096) (a0 : 0 ≤ a) (a1 : a < n) :
    Calls Tryz.prog 220 #[.pointer (some ⟨M, 0, none⟩), .int .i64 a, .int .u64 o, .int .u64 v] w fun e w' => e = .returned (.bool (wordAt n s a == o)) ∧ RefIs w' M B n (acc n s 3 a (wordAt n s a == o) v) ∧ But (fun k => k = M ∨ k = B) w w' :=
  (Wo.refCAS_any M B n s a o v w hm h0 h1 (by omega)).mono fun _ _ ⟨x, y, z⟩ => ⟨by rw [x, acc_held _ _ _ _ _ _ a0 a1], y, but_of z⟩
theorem r_add (M B n : Nat) (s : St) (a v : Int) (w : World) (hm : RefIs w M B n s) (h0 : 0 ≤ s.cnt) (h1 : s.cnt ≤ 1000000) (hn : n ≤ 4096) :
    Calls Tryz.prog 268 #[.pointer (some ⟨M, 0, none⟩), .int .i64 a, .int .u64 v] w fun e w' => e = .returned (.int .u64 (acc n s 4 a true (IntKind.u64.wrap (wordAt n s a + v))).new) ∧ RefIs w' M B n (acc n s 4 a true (IntKind.u64.wrap (wordAt n s a + v))) ∧ But (fun k => k = M ∨ k = B) w w' :=
  (Wo.refAdd_any M B n s a v w hm h0 h1 (by omega)).mono fun _ _ ⟨x, y, z⟩ => ⟨x, y, but_of z⟩
theorem r_at (M B n : Nat) (s : St) (a : Int) (w : World) (hm : RefIs w M B n s) :
    Calls Tryz.prog 135 #[.pointer (some ⟨M, 0, none⟩), .int .i64 a] w fun e w' => e = .returned (.int .u64 (wordAt n s a)) ∧ w = w' := Wo.refAt_any M B n s a w hm
def RNewPost (n : Nat) (w : World) (e : Ending) (w' : World) : Prop :=
  ∃ M B, e = .returned (.tuple #[.pointer (some ⟨M, 0, none⟩), .int .i64 0]) ∧ RefIs w' M B n Wo.St.zero ∧ w.heap.size ≤ M ∧ w.heap.size ≤ B ∧ M < w'.heap.size ∧ B < w'.heap.size ∧ Kept w w'
theorem r_new (n : Nat) (h : 1 ≤ n) (h' : n ≤ 4096) (w : World) : Calls Tryz.prog 75 #[.int .i64 n] w (RNewPost n w) :=
  (Wo.refNew_yes n h h' w).mono fun _ _ ⟨M, B, x, y, a, b, c, d, k⟩ => ⟨M, B, x, y, a, b, c, d, kept_of k⟩
end Go.Proofs.YtlfdiffbepfgbaaGreat.Sk
