/- The program's New, and its Copy: a block of 4,103 cells, taken whole. -/
import Derived.Test.YtejiogggocnldaaGreatG02
import Derived.Deep.MidRow
import Derived.Laws.Tables
import Derived.Great.Walk
import Derived.Test.YtejiogggocnldaaGreatG00
import Derived.WalkKit
import Derived.Laws.BitsAllLaws
import Derived.Laws.Bits64
set_option linter.unusedVariables false
set_option linter.unusedSimpArgs false

namespace Go.Proofs.YtejiogggocnldaaGreat.Wo
set_option maxRecDepth 20000
open Go.RowKit

def zeroCells : List Value := List.replicate 4096 (.int .u64 0) ++ [.int .i64 0, .int .i64 0, .int .i64 0, .int .u64 0, .int .u64 0, .bool false, .int .i64 0]
theorem infoContents : (Tryz.prog.info? 155).map (fun i => (i.zero, i.size)) = some (some (.agg zeroCells.toArray), 4103) := by kernel_rfl
theorem zero_lo (i : Nat) (h : i < 4096) : zeroCells[i]? = some (.int .u64 0) := by
  unfold zeroCells
  rw [List.getElem?_append_left (by rw [List.length_replicate]; exact h)]
  rw [List.getElem?_replicate, if_pos h]
theorem zero_hi (j : Nat) : zeroCells[4096 + j]? = ([.int .i64 0, .int .i64 0, .int .i64 0, .int .u64 0, .int .u64 0, .bool false, .int .i64 0] : List Value)[j]? := by
  unfold zeroCells
  rw [List.getElem?_append_right (by rw [List.length_replicate]; omega), List.length_replicate, Nat.add_sub_cancel_left]
theorem zero_len : zeroCells.length = 4103 := by
  unfold zeroCells
  rw [List.length_append, List.length_replicate]
  rfl

theorem zeroed : ∃ Z : Array Value, Z.size = 4103 ∧ (∀ i, i < 4096 → Z[i]? = some (.int .u64 0)) ∧ (∀ j, Z[4096 + j]? = ([.int .i64 0, .int .i64 0, .int .i64 0, .int .u64 0, .int .u64 0, .bool false, .int .i64 0] : List Value)[j]?) ∧
    ∀ w, (zeroValue 155).run Tryz.prog w = .ok (.agg Z) w := by
  obtain ⟨x, hx, hxx⟩ := Option.map_eq_some_iff.1 infoContents
  simp only [Prod.mk.injEq] at hxx
  exact ⟨zeroCells.toArray, by rw [List.size_toArray]; exact zero_len, fun i h => by rw [List.getElem?_toArray]; exact zero_lo i h, fun j => by rw [List.getElem?_toArray]; exact zero_hi j,
    fun w => by simp [zeroValue, typeInfo, hx, hxx.1]⟩

set_option maxHeartbeats 1000000 in
theorem new_no_any (n : Int) (h : n < 1 ∨ 4096 < n) (w : World) : Calls Tryz.prog 43 #[.int .i64 n] w fun e w' => e = .returned (.tuple #[.pointer none, .int .i64 3]) ∧ w = w' := by
  rcases h with h | h
  · go_enter Tryz.func43, Tryz.ntmps43
    go_wp2
    go_ret2
    exact ⟨rfl, rfl⟩
  · have h' : ¬ n < 1 := by omega
    go_enter Tryz.func43, Tryz.ntmps43
    go_wp2
    go_ret2
    exact ⟨rfl, rfl⟩

set_option maxRecDepth 100000 in
set_option maxHeartbeats 1000000 in
theorem new_yes_any (n : Nat) (h : 1 ≤ n) (h' : n ≤ 4096) (w : World) : Calls Tryz.prog 43 #[.int .i64 n] w fun e w' => e = .returned (.tuple #[.pointer (some ⟨w.heap.size + 1, 0, none⟩), .int .i64 0]) ∧ PMem w' (w.heap.size + 1) w.heap.size n St.zero ∧ w'.heap.size = w.heap.size + 2 ∧ Kept w w' := by
  obtain ⟨Z, hZ, hlo, hhi, hz⟩ := zeroed
  have HLO := Lib.hid hlo
  have HHI := Lib.hid hhi
  have HZ := Lib.hid hZ
  clear hlo hhi
  go_enter Tryz.func43, Tryz.ntmps43
  go_wp2
  go_ret2
  go_light
  refine ⟨rfl, ⟨?_, fun i hi => ⟨0, ?_, fun _ => rfl⟩, ?_, ?_, ?_, ?_, ?_, ?_, ?_, fun i => ?_, by omega, h, h'⟩, by simp, ?_⟩
  · simp
  · have := HLO.out i hi
    simpa [show ¬ 4096 = i by omega] using this
  · simp [HZ.out]
  · have := HHI.out 1
    simpa [St.zero] using this
  · have := HHI.out 2
    simpa [St.zero] using this
  · have := HHI.out 3
    simpa [St.zero] using this
  · have := HHI.out 4
    simpa [St.zero] using this
  · have := HHI.out 5
    simpa [St.zero] using this
  · have := HHI.out 6
    simpa [St.zero] using this
  · simp
  · (go_light; repeat (first | (with_reducible exact Kept.refl _) | (with_reducible assumption) | (with_reducible refine Kept.alloc ?_ _ _) | (with_reducible refine Kept.drew ?_) | (with_reducible refine Kept.drewN ?_ _) | ((with_reducible refine Kept.setCell ?_ ?_ _); rotate_left; focus (first | (simp; done) | (simp; omega))) | refine Kept.trans ?_ (by assumption)))

theorem But.hereN {b : Nat} {a : World} : ∀ (vs : List Value) (o : Nat) (w : World), But (fun k => k = b) a w → But (fun k => k = b) a (w.setCells b o vs)
  | [], _, _, h => h
  | v :: r, o, w, h => But.hereN r (o + 1) _ (h.here o v)

theorem size_setCells {b : Nat} : ∀ (vs : List Value) (o : Nat) (w : World), (w.setCells b o vs).heap.size = w.heap.size
  | [], _, _ => rfl
  | v :: r, o, w => (size_setCells r (o + 1) _).trans (by simp)

theorem infoSize : (Tryz.prog.info? 155).map (·.size) = some 4103 := by
  obtain ⟨x, hx, hxx⟩ := Option.map_eq_some_iff.1 infoContents
  simp only [Prod.mk.injEq] at hxx
  rw [hx]; simp [hxx.2]

theorem PMem.range {w : World} {M B n : Nat} {s : St} (hm : PMem w M B n s) : ∃ cs : List Value, cs.length = 4103 ∧ w.rangeAt B 0 cs ∧ (∀ v ∈ cs, v.oneCell' = true) ∧ ∀ i, i < 4103 → cs[i]? = w.cell? ⟨B, i, none⟩ := by
  have h : ∀ i, i < 4103 → ∃ v, w.cell? ⟨B, i, none⟩ = some v ∧ v.oneCell' = true := by
    intro i hi
    by_cases h : i < 4096
    · obtain ⟨x, hx, _⟩ := hm.words i h
      exact ⟨_, hx, rfl⟩
    · have hc : i = 4096 ∨ i = 4097 ∨ i = 4098 ∨ i = 4099 ∨ i = 4100 ∨ i = 4101 ∨ i = 4102 := by omega
      rcases hc with rfl | rfl | rfl | rfl | rfl | rfl | rfl
      · exact ⟨_, hm.size, rfl⟩
      · exact ⟨_, hm.c0, rfl⟩
      · exact ⟨_, hm.c1, rfl⟩
      · exact ⟨_, hm.c2, rfl⟩
      · exact ⟨_, hm.c3, rfl⟩
      · exact ⟨_, hm.c4, rfl⟩
      · exact ⟨_, hm.cnt, rfl⟩
  refine ⟨(List.range 4103).map (fun i => (w.cell? ⟨B, i, none⟩).getD undef), by rw [List.length_map, List.length_range], fun j v hv => ?_, fun v hv => ?_, fun i hi => ?_⟩
  · rw [List.getElem?_map] at hv
    by_cases hj : j < 4103
    · rw [List.getElem?_range hj] at hv
      obtain ⟨u, hu, _⟩ := h j hj
      simp only [Option.map_some, hu, Option.getD_some, Option.some.injEq] at hv
      rw [Nat.zero_add, hu, hv]
    · rw [List.getElem?_eq_none (by rw [List.length_range]; omega)] at hv
      exact absurd hv (by simp)
  · obtain ⟨i, hi, rfl⟩ := List.mem_map.1 hv
    obtain ⟨u, hu, h1⟩ := h i (List.mem_range.1 hi)
    rw [hu]; exact h1
  · obtain ⟨u, hu, _⟩ := h i hi
    rw [List.getElem?_map, List.getElem?_range hi, Option.map_some, hu, Option.getD_some]

end Go.Proofs.YtejiogggocnldaaGreat.Wo

namespace Go.Proofs.YtejiogggocnldaaGreat.Wo
set_option maxRecDepth 20000
open Go.RowKit

set_option maxHeartbeats 2000000 in
theorem words_any (M B n : Nat) (s : St) (w : World) (hm : PMem w M B n s) : Calls Tryz.prog 29 #[.pointer (some ⟨M, 0, none⟩)] w (WordsPost n s w) := by
  have hp := hm.p
  have hs := hm.size
  have hn := hm.hn
  have hM := hm.lt.1
  have hB := hm.lt.2
  obtain ⟨Z, hZ, hmk⟩ := make_words n (by omega)
  have HZ := Lib.hid hZ
  have HM := Lib.hid hm
  clear hm hZ
  go_enter Tryz.func29, Tryz.ntmps29
  go_wp2_with fail
  refine (valid_yes M _ _ hp).mono ?_
  rintro e w' ⟨rfl, rfl⟩
  go_wp2_with fail
  go_loopw [18] (fun i wr => ∃ k : Nat, k ≤ n ∧ i = .int .i64 k ∧ Kept w wr ∧ w.heap.size < wr.heap.size ∧ (∀ j, wr.frozen? ⟨w.heap.size, j, none⟩ = false) ∧ (∀ j, j < k → wr.cell? ⟨w.heap.size, j, none⟩ = some (.int .u64 (s.ws j))) ∧
    (∀ j, k ≤ j → j < n → wr.cell? ⟨w.heap.size, j, none⟩ = some (.int .u64 0))) (fun i _ => n - (intOf i).toNat)
  case atStart =>
    refine ⟨0, Nat.zero_le _, rfl, ?_, by simp, fun j => by simp, fun j h => absurd h (by omega), fun j _ h => ?_⟩
    · (go_light; repeat (first | (with_reducible exact Kept.refl _) | (with_reducible assumption) | (with_reducible refine Kept.alloc ?_ _ _) | (with_reducible refine Kept.drew ?_) | (with_reducible refine Kept.drewN ?_ _) | ((with_reducible refine Kept.setCell ?_ ?_ _); rotate_left; focus (first | (simp; done) | (simp; omega))) | refine Kept.trans ?_ (by assumption)))
    · rw [cell_new _ _ _ _ _ rfl]; exact HZ.out j h
  case round =>
    obtain ⟨k, hk, rfl, kw, hz, hf, h1, h2⟩ := hrel
    have H1 := Lib.hid h1
    have H2 := Lib.hid h2
    clear h1 h2
    by_cases hlt : k < n
    · have c1 := kw.some hp
      have c2 := H2.out k (Nat.le_refl _) hlt
      obtain ⟨x, hx, hxs⟩ := HM.out.words k (by omega)
      obtain rfl := hxs hlt
      have c3 := kw.some hx
      clear hx hxs
      go_wp2_with fail
      refine (word_at B k _ _ c3).mono ?_
      rintro e w' ⟨rfl, rfl⟩
      go_wp2
      go_roundw
      case rel => exact ⟨k + 1, by omega, by go_num, kw.setCell (Nat.le_refl _) _, by simpa using hz, fun j => by rw [World.frozen?_setCell]; exact hf j, fun j h => by
        rw [cell_set]
        by_cases e : k = j
        · subst e; simp [c2]
        · rw [if_neg e]; exact H1.out j (by omega), fun j h h' => by
        rw [cell_set, if_neg (by omega)]; exact H2.out j (by omega) h'⟩
      case measure => simp [intOf]; omega
    · have e : k = n := by omega
      go_wp2
      go_ret
      exact ⟨w.heap.size, n, rfl, Nat.le_refl _, hz, fun i hi => H1.out i (by omega), hf, kw⟩

def Has (w : World) (M : Nat) (S : Nat → Prop) (n : Nat) (s : St) : Prop := ∃ B, (∀ k, S k ↔ k = M ∨ k = B) ∧ PMem w M B n s

theorem Has.op {w w' : World} {M B n : Nat} {S : Nat → Prop} {s : St} (hS : ∀ k, S k ↔ k = M ∨ k = B) (hm : PMem w' M B n s) (hb : But (fun k => k = B) w w') : Has w' M S n s ∧ But S w w' :=
  ⟨⟨B, hS, hm⟩, hb.mono (fun k _ h => (hS k).2 (Or.inr h))⟩

end Go.Proofs.YtejiogggocnldaaGreat.Wo

namespace Go.Proofs.YtejiogggocnldaaGreat.Sk
open Go.RowKit
open Wo (St acc wordAt PMem RefIs)

theorem kept_of {w w' : World} (h : Wo.Kept w w') : Kept w w' := ⟨h.below⟩
theorem kept_eq {w w' : World} (h : w = w') : Kept w w' := h ▸ Kept.refl _
theorem but_of {S : Nat → Prop} {w w' : World} (h : Wo.But S w w') : But S w w' := ⟨h.os, h.tape, h.output, h.size, h.block, fun a _ => h.froze a⟩

theorem pmem_lt {w : World} {M B n : Nat} {s : St} (hm : PMem w M B n s) : M < w.heap.size ∧ B < w.heap.size := ⟨lt_of_cell hm.p, lt_of_cell hm.size⟩
theorem pmem_frame {w w' : World} {M B n : Nat} {s : St} (hm : PMem w M B n s) {T : Nat → Prop} (hb : But T w w') (hM : ¬ T M) (hB : ¬ T B) : PMem w' M B n s :=
  ⟨hb.some hm.p hM, fun i hi => by obtain ⟨x, h, h'⟩ := hm.words i hi; exact ⟨x, hb.some h hB, h'⟩, hb.some hm.size hB, hb.some hm.c0 hB, hb.some hm.c1 hB, hb.some hm.c2 hB, hb.some hm.c3 hB, hb.some hm.c4 hB, hb.some hm.cnt hB,
   fun i => hb.soft (lt_of_cell hm.size) (hm.fB i), hm.ne, hm.hn⟩
theorem pmem_kept {w w' : World} {M B n : Nat} {s : St} (hm : PMem w M B n s) (k : Kept w w') : PMem w' M B n s := pmem_frame hm (k.but (fun _ => False)) id id
theorem ref_lt {w : World} {M B n : Nat} {s : St} (hm : RefIs w M B n s) (hn : 1 ≤ n) : M < w.heap.size ∧ B < w.heap.size := ⟨lt_of_cell hm.c0, lt_of_cell (hm.words 0 hn)⟩
theorem ref_frame {w w' : World} {M B n : Nat} {s : St} (hm : RefIs w M B n s) (hn : 1 ≤ n) {T : Nat → Prop} (hb : But T w w') (hM : ¬ T M) (hB : ¬ T B) : RefIs w' M B n s :=
  ⟨hb.some hm.c0 hM, hb.some hm.c1 hM, hb.some hm.c2 hM, hb.some hm.c3 hM, hb.some hm.c4 hM, hb.some hm.c5 hM, hb.some hm.c6 hM,
   fun i hi => hb.some (hm.words i hi) hB, fun i => hb.soft (ref_lt hm hn).1 (hm.fM i), fun i => hb.soft (ref_lt hm hn).2 (hm.fB i), hm.ne⟩
theorem ref_kept {w w' : World} {M B n : Nat} {s : St} (hm : RefIs w M B n s) (hn : 1 ≤ n) (k : Kept w w') : RefIs w' M B n s := ref_frame hm hn (k.but (fun _ => False)) id id

theorem p_load (M B n : Nat) (s : St) (a : Int) (w : World) (hm : PMem w M B n s) (h0 : 0 ≤ s.cnt) (h1 : s.cnt ≤ 1000000) :
    Calls Tryz.prog 141 #[.pointer (some ⟨M, 0, none⟩), .int .i64 a] w fun e w' => e = .returned (.int .u64 (wordAt n s a)) ∧ PMem w' M B n (acc n s 1 a false 0) ∧ But (fun k => k = B) w w' :=
  (Wo.pLoad M B n s a w hm h0 h1).mono fun _ _ ⟨x, y, z⟩ => ⟨by rw [x, acc_new], y, but_of z⟩
theorem p_store (M B n : Nat) (s : St) (a v : Int) (w : World) (hm : PMem w M B n s) (h0 : 0 ≤ s.cnt) (h1 : s.cnt ≤ 1000000) :
    Calls Tryz.prog 36 #[.pointer (some ⟨M, 0, none⟩), .int .i64 a, .int .u64 v] w fun e w' => e = .returned (.tuple #[]) ∧ PMem w' M B n (acc n s 2 a true v) ∧ But (fun k => k = B) w w' :=
  (Wo.pStore M B n s a v w hm h0 h1).mono fun _ _ ⟨x, y, z⟩ => ⟨x, y, but_of z⟩
theorem p_cas (M B n : Nat) (s : St) (a o v : Int) (w : World) (hm : PMem w M B n s) (h0 : 0 ≤ s.cnt) (h1 : s.cnt ≤ 1000000) (a0 : 0 ≤ a) (a1 : a < n) :
    Calls Tryz.prog 210 #[.pointer (some ⟨M, 0, none⟩), .int .i64 a, .int .u64 o, .int .u64 v] w fun e w' => e = .returned (.bool (wordAt n s a == o)) ∧ PMem w' M B n (acc n s 3 a (wordAt n s a == o) v) ∧ But (fun k => k = B) w w' :=
  (Wo.pCAS M B n s a o v w hm h0 h1).mono fun _ _ ⟨x, y, z⟩ => ⟨by rw [x, acc_held _ _ _ _ _ _ a0 a1], y, but_of z⟩
def WordsPost (n : Nat) (s : St) (w : World) (e : Ending) (w' : World) : Prop :=
  ∃ b c, e = .returned (.slice (some ⟨b, 0, none⟩) n c) ∧ w.heap.size ≤ b ∧ b < w'.heap.size ∧ (∀ i, i < n → w'.cell? ⟨b, i, none⟩ = some (.int .u64 (s.ws i))) ∧ (∀ i, w'.frozen? ⟨b, i, none⟩ = false) ∧ Kept w w'
theorem p_words (M B n : Nat) (s : St) (w : World) (hm : PMem w M B n s) : Calls Tryz.prog 29 #[.pointer (some ⟨M, 0, none⟩)] w (WordsPost n s w) :=
  (Wo.words_any M B n s w hm).mono fun _ _ ⟨b, c, x, y, z, u, v, k⟩ => ⟨b, c, x, y, z, u, v, kept_of k⟩
theorem p_last (M B n : Nat) (s : St) (w : World) (hm : PMem w M B n s) : Calls Tryz.prog 24 #[.pointer (some ⟨M, 0, none⟩)] w
    fun e w' => e = .returned (.agg #[.int .i64 s.kind, .int .i64 s.at_, .int .u64 s.old, .int .u64 s.new, .bool s.held]) ∧ Kept w w' :=
  (Wo.last_any M B n s w hm).mono fun _ _ ⟨x, k⟩ => ⟨x, kept_of k⟩
theorem p_count (M B n : Nat) (s : St) (w : World) (hm : PMem w M B n s) : Calls Tryz.prog 26 #[.pointer (some ⟨M, 0, none⟩)] w
    fun e w' => e = .returned (.int .i64 s.cnt) ∧ w = w' := Wo.count_any M B _ w hm.p hm.cnt
theorem p_new (n : Nat) (h : 1 ≤ n) (h' : n ≤ 4096) (w : World) : Calls Tryz.prog 43 #[.int .i64 n] w
    fun e w' => e = .returned (.tuple #[.pointer (some ⟨w.heap.size + 1, 0, none⟩), .int .i64 0]) ∧ PMem w' (w.heap.size + 1) w.heap.size n Wo.St.zero ∧ w'.heap.size = w.heap.size + 2 ∧ Kept w w' :=
  (Wo.new_yes_any n h h' w).mono fun _ _ ⟨x, y, z, k⟩ => ⟨x, y, z, kept_of k⟩

theorem r_load (M B n : Nat) (s : St) (a : Int) (w : World) (hm : RefIs w M B n s) (h0 : 0 ≤ s.cnt) (h1 : s.cnt ≤ 1000000) (hn : n ≤ 4096) :
    Calls Tryz.prog 123 #[.pointer (some ⟨M, 0, none⟩), .int .i64 a] w fun e w' => e = .returned (.int .u64 (wordAt n s a)) ∧ RefIs w' M B n (acc n s 1 a false 0) ∧ But (fun k => k = M ∨ k = B) w w' :=
  (Wo.refLoad_any M B n s a w hm h0 h1 (by omega)).mono fun _ _ ⟨x, y, z⟩ => ⟨by rw [x, acc_new], y, but_of z⟩
theorem r_store (M B n : Nat) (s : St) (a v : Int) (w : World) (hm : RefIs w M B n s) (h0 : 0 ≤ s.cnt) (h1 : s.cnt ≤ 1000000) (hn : n ≤ 4096) :
    Calls Tryz.prog 54 #[.pointer (some ⟨M, 0, none⟩), .int .i64 a, .int .u64 v] w fun e w' => e = .returned (.tuple #[]) ∧ RefIs w' M B n (acc n s 2 a true v) ∧ But (fun k => k = M ∨ k = B) w w' :=
  (Wo.refStore_any M B n s a v w hm h0 h1 (by omega)).mono fun _ _ ⟨x, y, z⟩ => ⟨x, y, but_of z⟩
theorem r_cas (M B n : Nat) (s : St) (a o v : Int) (w : World) (hm : RefIs w M B n s) (h0 : 0 ≤ s.cnt) (h1 : s.cnt ≤ 1000000) (hn : n ≤ 4096) (a0 : 0 ≤ a) (a1 : a < n) :
    Calls Tryz.prog 127 #[.pointer (some ⟨M, 0, none⟩), .int .i64 a, .int .u64 o, .int .u64 v] w fun e w' => e = .returned (.bool (wordAt n s a == o)) ∧ RefIs w' M B n (acc n s 3 a (wordAt n s a == o) v) ∧ But (fun k => k = M ∨ k = B) w w' :=
  (Wo.refCAS_any M B n s a o v w hm h0 h1 (by omega)).mono fun _ _ ⟨x, y, z⟩ => ⟨by rw [x, acc_held _ _ _ _ _ _ a0 a1], y, but_of z⟩
theorem r_at (M B n : Nat) (s : St) (a : Int) (w : World) (hm : RefIs w M B n s) :
    Calls Tryz.prog 158 #[.pointer (some ⟨M, 0, none⟩), .int .i64 a] w fun e w' => e = .returned (.int .u64 (wordAt n s a)) ∧ w = w' := Wo.refAt_any M B n s a w hm
def RNewPost (n : Nat) (w : World) (e : Ending) (w' : World) : Prop :=
  ∃ M B, e = .returned (.tuple #[.pointer (some ⟨M, 0, none⟩), .int .i64 0]) ∧ RefIs w' M B n Wo.St.zero ∧ w.heap.size ≤ M ∧ w.heap.size ≤ B ∧ M < w'.heap.size ∧ B < w'.heap.size ∧ Kept w w'
theorem r_new (n : Nat) (h : 1 ≤ n) (h' : n ≤ 4096) (w : World) : Calls Tryz.prog 79 #[.int .i64 n] w (RNewPost n w) :=
  (Wo.refNew_yes n h h' w).mono fun _ _ ⟨M, B, x, y, a, b, c, d, k⟩ => ⟨M, B, x, y, a, b, c, d, kept_of k⟩
end Go.Proofs.YtejiogggocnldaaGreat.Sk

namespace Go.Proofs.YtejiogggocnldaaGreat.Wo
set_option maxRecDepth 20000
open Go.RowKit

theorem wu (n : Int) (h0 : 0 ≤ n) (h1 : n < 18446744073709551616) : IntKind.u64.wrap n = n := by
  rw [IntKind.wrap_u64]; omega
theorem wi (n : Int) (h0 : 0 ≤ n) (h1 : n < 9223372036854775808) : wrap64 n = n := by
  unfold wrap64; omega

theorem or_up (i : Nat) (x y : Int) (hx0 : 0 ≤ x) (hx : x < 2 ^ i) (hxl : x < 18446744073709551616) (hy0 : 0 ≤ y) (hy : y % 2 ^ i = 0) (hyl : y < 18446744073709551616) : bits .or .u64 x y = x + y := by
  obtain ⟨a, rfl⟩ := Int.eq_ofNat_of_zero_le hx0
  obtain ⟨b, rfl⟩ := Int.eq_ofNat_of_zero_le hy0
  rw [u64_or_nat a b (by omega) (by omega), Nat.or_comm, nat_join i b a (by exact_mod_cast hy) (by exact_mod_cast hx)]
  push_cast; omega
theorem or_down (i : Nat) (x y : Int) (hx0 : 0 ≤ x) (hx : x < 2 ^ i) (hxl : x < 18446744073709551616) (hy0 : 0 ≤ y) (hy : y % 2 ^ i = 0) (hyl : y < 18446744073709551616) : bits .or .u64 y x = y + x := by
  obtain ⟨a, rfl⟩ := Int.eq_ofNat_of_zero_le hx0
  obtain ⟨b, rfl⟩ := Int.eq_ofNat_of_zero_le hy0
  rw [u64_or_nat b a (by omega) (by omega), nat_join i b a (by exact_mod_cast hy) (by exact_mod_cast hx)]
  push_cast; omega
theorem and_mask (i : Nat) (hi : i ≤ 64) (x : Int) (h0 : 0 ≤ x) (h1 : x < 18446744073709551616) : bits .and .u64 x (2 ^ i - 1) = x % 2 ^ i :=
  bits_mask .u64 64 (by decide) (fun n a b => wu n a (by omega)) i hi x h0 (by omega)

theorem mask1 (x : Int) (h0 : 0 ≤ x) (h1 : x < 18446744073709551616) : bits .and .u64 x 1 = x % 2 := and_mask 1 (by decide) x h0 h1
theorem mask8 (x : Int) (h0 : 0 ≤ x) (h1 : x < 18446744073709551616) : bits .and .u64 x 255 = x % 256 := and_mask 8 (by decide) x h0 h1
theorem mask16 (x : Int) (h0 : 0 ≤ x) (h1 : x < 18446744073709551616) : bits .and .u64 x 65535 = x % 65536 := and_mask 16 (by decide) x h0 h1
theorem mask32 (x : Int) (h0 : 0 ≤ x) (h1 : x < 18446744073709551616) : bits .and .u64 x 4294967295 = x % 4294967296 := and_mask 32 (by decide) x h0 h1
theorem mask40 (x : Int) (h0 : 0 ≤ x) (h1 : x < 18446744073709551616) : bits .and .u64 x 1099511627775 = x % 1099511627776 := and_mask 40 (by decide) x h0 h1
theorem mask48 (x : Int) (h0 : 0 ≤ x) (h1 : x < 18446744073709551616) : bits .and .u64 x 281474976710655 = x % 281474976710656 := and_mask 48 (by decide) x h0 h1
theorem mask63 (x : Int) (h0 : 0 ≤ x) (h1 : x < 18446744073709551616) : bits .and .u64 x 9223372036854775807 = x % 9223372036854775808 := and_mask 63 (by decide) x h0 h1
theorem mask0 (x : Int) (h0 : 0 ≤ x) (h1 : x < 18446744073709551616) : bits .and .u64 x 0 = 0 := by
  have := and_mask 0 (by decide) x h0 h1
  simp at this
  rw [this]

def setMark (w : Int) (b : Bool) : Int := w % 9223372036854775808 + (if b then 9223372036854775808 else 0)
theorem or_mark (w : Int) (h0 : 0 ≤ w) (h1 : w < 18446744073709551616) : bits .or .u64 w 9223372036854775808 = setMark w true := by
  unfold setMark
  obtain ⟨a, rfl⟩ := Int.eq_ofNat_of_zero_le h0
  have ha : a < 18446744073709551616 := by omega
  have e : bits .or .u64 (a : Int) 9223372036854775808 = ((a ||| 9223372036854775808 : Nat) : Int) := u64_or_nat a 9223372036854775808 ha (by decide)
  rw [e]
  have hd : a = 9223372036854775808 * (a / 9223372036854775808) + a % 9223372036854775808 := (Nat.div_add_mod _ _).symm
  have hl : a % 9223372036854775808 < 2 ^ 63 := Nat.mod_lt _ (by decide)
  have key : a ||| 9223372036854775808 = a % 9223372036854775808 + 9223372036854775808 := by
    have hq : a / 9223372036854775808 < 2 := by omega
    have h2 : a / 9223372036854775808 = 0 ∨ a / 9223372036854775808 = 1 := by omega
    rcases h2 with h2 | h2
    · rw [h2] at hd
      have : a % 9223372036854775808 = a := by omega
      rw [this, Nat.or_comm, nat_join 63 9223372036854775808 a (by decide) (by omega)]; omega
    · rw [h2] at hd
      have e1 : a = 9223372036854775808 ||| (a % 9223372036854775808) := by
        rw [nat_join 63 9223372036854775808 (a % 9223372036854775808) (by decide) hl]; omega
      have e2 : a ||| 9223372036854775808 = a := by
        conv => lhs; rw [e1]
        rw [Nat.or_comm, ← Nat.or_assoc, Nat.or_self]; exact e1.symm
      rw [e2]; omega
  rw [key]; simp
theorem andNot_mark (w : Int) (h0 : 0 ≤ w) (h1 : w < 18446744073709551616) : bits .andNot .u64 w 9223372036854775808 = setMark w false := by
  unfold setMark
  obtain ⟨a, rfl⟩ := Int.eq_ofNat_of_zero_le h0
  have ha : a < 18446744073709551616 := by omega
  have e : bits .andNot .u64 (a : Int) 9223372036854775808 = ((a &&& (18446744073709551615 - 9223372036854775808) : Nat) : Int) := u64_andNot_nat a 9223372036854775808 ha (by decide)
  rw [e]
  have := Nat.and_two_pow_sub_one_eq_mod a 63
  simp at this
  simp [this]

def inB (n lo hi : Int) : Bool := decide (lo ≤ n) && decide (n ≤ hi)
theorem inB_yes {n lo hi : Int} (h : lo ≤ n ∧ n ≤ hi) : inB n lo hi = true := by simp [inB, h.1, h.2]
theorem inB_no {n lo hi : Int} (h : ¬ (lo ≤ n ∧ n ≤ hi)) : inB n lo hi = false := by
  cases e : inB n lo hi with
  | false => rfl
  | true => simp [inB] at e; exact absurd e h

def bitOf (b : Bool) : Int := if b then 1 else 0
theorem bitOf_lo (b : Bool) : 0 ≤ bitOf b := by cases b <;> decide
theorem bitOf_hi (b : Bool) : bitOf b < 2 := by cases b <;> decide

def putRef (i g : Int) (m : Bool) : Int × Int :=
  if -1 ≤ i ∧ i ≤ 65534 ∧ 0 ≤ g ∧ g ≤ 4294967295 then (if i = -1 ∧ g ≠ 0 then (0, 5) else (i + 1 + g * 65536 + bitOf m * 9223372036854775808, 0)) else (0, 3)
def putTop (i t : Int) : Int × Int := if -1 ≤ i ∧ i ≤ 65534 ∧ 0 ≤ t ∧ t ≤ 281474976710655 then (i + 1 + t * 65536, 0) else (0, 3)
def putSlot (l : Int) (f : Bool) (v : Int) : Int × Int :=
  if 0 ≤ l ∧ l ≤ 4294967295 ∧ 0 ≤ v ∧ v ≤ 65535 then (if f = false ∧ v ≠ 0 then (0, 5) else (v + bitOf f * 65536 + l * 4294967296, 0)) else (0, 3)
def putKey (p s r : Int) : Int × Int :=
  if 0 ≤ p ∧ p ≤ 254 ∧ 0 ≤ s ∧ s ≤ 1099511627775 ∧ 0 ≤ r ∧ r ≤ 65535 then (r + s * 65536 + p * 72057594037927936, 0) else (0, 3)

theorem putRef_bad {i g : Int} (m : Bool) (h : ¬ (-1 ≤ i ∧ i ≤ 65534 ∧ 0 ≤ g ∧ g ≤ 4294967295)) : putRef i g m = (0, 3) := by unfold putRef; rw [if_neg h]
theorem putRef_form {i g : Int} (m : Bool) (h : -1 ≤ i ∧ i ≤ 65534 ∧ 0 ≤ g ∧ g ≤ 4294967295) (h' : i = -1 ∧ g ≠ 0) : putRef i g m = (0, 5) := by unfold putRef; rw [if_pos h, if_pos h']
theorem putRef_good {i g : Int} (m : Bool) (h : -1 ≤ i ∧ i ≤ 65534 ∧ 0 ≤ g ∧ g ≤ 4294967295) (h' : ¬ (i = -1 ∧ g ≠ 0)) : putRef i g m = (i + 1 + g * 65536 + bitOf m * 9223372036854775808, 0) := by unfold putRef; rw [if_pos h, if_neg h']
theorem putTop_bad {i t : Int} (h : ¬ (-1 ≤ i ∧ i ≤ 65534 ∧ 0 ≤ t ∧ t ≤ 281474976710655)) : putTop i t = (0, 3) := by unfold putTop; rw [if_neg h]
theorem putTop_good {i t : Int} (h : -1 ≤ i ∧ i ≤ 65534 ∧ 0 ≤ t ∧ t ≤ 281474976710655) : putTop i t = (i + 1 + t * 65536, 0) := by unfold putTop; rw [if_pos h]
theorem putSlot_bad {l v : Int} (f : Bool) (h : ¬ (0 ≤ l ∧ l ≤ 4294967295 ∧ 0 ≤ v ∧ v ≤ 65535)) : putSlot l f v = (0, 3) := by unfold putSlot; rw [if_neg h]
theorem putSlot_form {l v : Int} {f : Bool} (h : 0 ≤ l ∧ l ≤ 4294967295 ∧ 0 ≤ v ∧ v ≤ 65535) (h' : f = false ∧ v ≠ 0) : putSlot l f v = (0, 5) := by unfold putSlot; rw [if_pos h, if_pos h']
theorem putSlot_good {l v : Int} {f : Bool} (h : 0 ≤ l ∧ l ≤ 4294967295 ∧ 0 ≤ v ∧ v ≤ 65535) (h' : ¬ (f = false ∧ v ≠ 0)) : putSlot l f v = (v + bitOf f * 65536 + l * 4294967296, 0) := by unfold putSlot; rw [if_pos h, if_neg h']
theorem putKey_bad {p s r : Int} (h : ¬ (0 ≤ p ∧ p ≤ 254 ∧ 0 ≤ s ∧ s ≤ 1099511627775 ∧ 0 ≤ r ∧ r ≤ 65535)) : putKey p s r = (0, 3) := by unfold putKey; rw [if_neg h]
theorem putKey_good {p s r : Int} (h : 0 ≤ p ∧ p ≤ 254 ∧ 0 ≤ s ∧ s ≤ 1099511627775 ∧ 0 ≤ r ∧ r ≤ 65535) : putKey p s r = (r + s * 65536 + p * 72057594037927936, 0) := by unfold putKey; rw [if_pos h]

def markOf (w : Int) : Bool := w / 9223372036854775808 == 1
def rIdx (w : Int) : Int := w % 65536 - 1
def rGen (w : Int) : Int := w / 65536 % 4294967296
def tTag (w : Int) : Int := w / 65536 % 281474976710656
def sLap (w : Int) : Int := w / 4294967296 % 4294967296
def sFull (w : Int) : Bool := w / 65536 % 2 == 1
def sVal (w : Int) : Int := w % 65536
def kPrio (w : Int) : Int := w / 72057594037927936 % 256
def kSeq (w : Int) : Int := w / 65536 % 1099511627776

def goodRef (w : Int) : Bool := putRef (rIdx w) (rGen w) (markOf w) == (w, 0)
def goodSlot (w : Int) : Bool := putSlot (sLap w) (sFull w) (sVal w) == (w, 0)
def goodKey (w : Int) : Bool := putKey (kPrio w) (kSeq w) (sVal w) == (w, 0)

theorem join_ref (a b c : Int) (ha : 0 ≤ a) (ha' : a < 65536) (hb : 0 ≤ b) (hb' : b < 4294967296) (hc : 0 ≤ c) (hc' : c < 2) :
    bits .or .u64 (bits .or .u64 (bits .or .u64 0 (IntKind.u64.wrap (IntKind.u64.wrap a))) (IntKind.u64.wrap (IntKind.u64.wrap b * 65536))) (IntKind.u64.wrap (IntKind.u64.wrap c * 9223372036854775808)) = a + b * 65536 + c * 9223372036854775808 := by
  rw [wu a (by omega) (by omega), wu a (by omega) (by omega), wu b (by omega) (by omega), wu (b * 65536) (by omega) (by omega), wu c (by omega) (by omega), wu (c * 9223372036854775808) (by omega) (by omega)]
  rw [or_up 0 0 a (by omega) (by omega) (by omega) (by omega) (by omega) (by omega), or_up 16 (0 + a) (b * 65536) (by omega) (by omega) (by omega) (by omega) (by omega) (by omega), or_up 63 (0 + a + b * 65536) (c * 9223372036854775808) (by omega) (by omega) (by omega) (by omega) (by omega) (by omega)]
  omega
theorem join_top (a b : Int) (ha : 0 ≤ a) (ha' : a < 65536) (hb : 0 ≤ b) (hb' : b < 281474976710656) :
    bits .or .u64 (bits .or .u64 (bits .or .u64 0 (IntKind.u64.wrap (IntKind.u64.wrap a))) (IntKind.u64.wrap (IntKind.u64.wrap b * 65536))) 0 = a + b * 65536 := by
  rw [wu a (by omega) (by omega), wu a (by omega) (by omega), wu b (by omega) (by omega), wu (b * 65536) (by omega) (by omega)]
  rw [or_up 0 0 a (by omega) (by omega) (by omega) (by omega) (by omega) (by omega), or_up 16 (0 + a) (b * 65536) (by omega) (by omega) (by omega) (by omega) (by omega) (by omega), or_up 64 (0 + a + b * 65536) 0 (by omega) (by omega) (by omega) (by omega) (by omega) (by omega)]
  omega
theorem join_slot (a b c : Int) (ha : 0 ≤ a) (ha' : a < 65536) (hb : 0 ≤ b) (hb' : b < 2) (hc : 0 ≤ c) (hc' : c < 4294967296) :
    bits .or .u64 (bits .or .u64 (bits .or .u64 0 (IntKind.u64.wrap (IntKind.u64.wrap a))) (IntKind.u64.wrap (IntKind.u64.wrap b * 65536))) (IntKind.u64.wrap (IntKind.u64.wrap c * 4294967296)) = a + b * 65536 + c * 4294967296 := by
  rw [wu a (by omega) (by omega), wu a (by omega) (by omega), wu b (by omega) (by omega), wu (b * 65536) (by omega) (by omega), wu c (by omega) (by omega), wu (c * 4294967296) (by omega) (by omega)]
  rw [or_up 0 0 a (by omega) (by omega) (by omega) (by omega) (by omega) (by omega), or_up 16 (0 + a) (b * 65536) (by omega) (by omega) (by omega) (by omega) (by omega) (by omega), or_up 32 (0 + a + b * 65536) (c * 4294967296) (by omega) (by omega) (by omega) (by omega) (by omega) (by omega)]
  omega
theorem join_key (a b c : Int) (ha : 0 ≤ a) (ha' : a < 65536) (hb : 0 ≤ b) (hb' : b < 1099511627776) (hc : 0 ≤ c) (hc' : c < 256) :
    bits .or .u64 (bits .or .u64 (bits .or .u64 0 (IntKind.u64.wrap (IntKind.u64.wrap a))) (IntKind.u64.wrap (IntKind.u64.wrap b * 65536))) (IntKind.u64.wrap (IntKind.u64.wrap c * 72057594037927936)) = a + b * 65536 + c * 72057594037927936 := by
  rw [wu a (by omega) (by omega), wu a (by omega) (by omega), wu b (by omega) (by omega), wu (b * 65536) (by omega) (by omega), wu c (by omega) (by omega), wu (c * 72057594037927936) (by omega) (by omega)]
  rw [or_up 0 0 a (by omega) (by omega) (by omega) (by omega) (by omega) (by omega), or_up 16 (0 + a) (b * 65536) (by omega) (by omega) (by omega) (by omega) (by omega) (by omega), or_up 56 (0 + a + b * 65536) (c * 72057594037927936) (by omega) (by omega) (by omega) (by omega) (by omega) (by omega)]
  omega
theorem raw_ref {i g : Int} (m : Bool) (h : -1 ≤ i ∧ i ≤ 65534 ∧ 0 ≤ g ∧ g ≤ 4294967295) : bits .or .u64 (i + 1) (IntKind.u64.wrap (IntKind.u64.wrap g * 65536)) = i + 1 + g * 65536 ∧ setMark (i + 1 + g * 65536) m = i + 1 + g * 65536 + bitOf m * 9223372036854775808 := by
  constructor
  · rw [wu g (by omega) (by omega), wu (g * 65536) (by omega) (by omega), or_up 16 (i + 1) (g * 65536) (by omega) (by omega) (by omega) (by omega) (by omega) (by omega)]
  · unfold setMark bitOf; cases m <;> simp <;> omega
theorem raw_top {i g : Int} (h : -1 ≤ i ∧ i ≤ 65534 ∧ 0 ≤ g ∧ g ≤ 281474976710655) : bits .or .u64 (i + 1) (IntKind.u64.wrap (IntKind.u64.wrap g * 65536)) = i + 1 + g * 65536 := by
  rw [wu g (by omega) (by omega), wu (g * 65536) (by omega) (by omega), or_up 16 (i + 1) (g * 65536) (by omega) (by omega) (by omega) (by omega) (by omega) (by omega)]
theorem raw_slot {l v : Int} (h : 0 ≤ l ∧ l ≤ 4294967295 ∧ 0 ≤ v ∧ v ≤ 65535) : bits .or .u64 (bits .or .u64 (IntKind.u64.wrap (IntKind.u64.wrap l * 4294967296)) 65536) (IntKind.u64.wrap v) = v + bitOf true * 65536 + l * 4294967296 := by
  rw [wu l (by omega) (by omega), wu (l * 4294967296) (by omega) (by omega), wu v (by omega) (by omega), or_down 32 65536 (l * 4294967296) (by omega) (by omega) (by omega) (by omega) (by omega) (by omega), or_down 16 v (l * 4294967296 + 65536) (by omega) (by omega) (by omega) (by omega) (by omega) (by omega)]
  show _ = v + 1 * 65536 + _; omega
theorem raw_slot' {l v : Int} (h : 0 ≤ l ∧ l ≤ 4294967295) (h' : v = 0) : IntKind.u64.wrap (IntKind.u64.wrap l * 4294967296) = v + bitOf false * 65536 + l * 4294967296 := by
  rw [wu l (by omega) (by omega), wu (l * 4294967296) (by omega) (by omega)]
  show _ = v + 0 * 65536 + _; omega
theorem raw_key {p s r : Int} (h : 0 ≤ p ∧ p ≤ 254 ∧ 0 ≤ s ∧ s ≤ 1099511627775 ∧ 0 ≤ r ∧ r ≤ 65535) : bits .or .u64 (bits .or .u64 (IntKind.u64.wrap (IntKind.u64.wrap p * 72057594037927936)) (IntKind.u64.wrap (IntKind.u64.wrap s * 65536))) (IntKind.u64.wrap r) = r + s * 65536 + p * 72057594037927936 := by
  rw [wu p (by omega) (by omega), wu (p * 72057594037927936) (by omega) (by omega), wu s (by omega) (by omega), wu (s * 65536) (by omega) (by omega), wu r (by omega) (by omega), or_down 56 (s * 65536) (p * 72057594037927936) (by omega) (by omega) (by omega) (by omega) (by omega) (by omega), or_down 16 r (p * 72057594037927936 + s * 65536) (by omega) (by omega) (by omega) (by omega) (by omega) (by omega)]
  omega
theorem pair_yes {x : Int × Int} {w : Int} (h : (x == (w, 0)) = true) : x = (w, 0) := by simpa using h
theorem pair_no {x : Int × Int} {w : Int} (h : (x == (w, 0)) = false) : x.2 ≠ 0 ∨ x.2 = 0 ∧ x.1 ≠ w := by
  obtain ⟨a, b⟩ := x
  by_cases hb : b = 0
  · right; refine ⟨hb, fun e => ?_⟩; subst hb; rw [show a = w from e] at h; simp at h
  · left; exact hb
theorem top_good (n : Int) (h0 : 0 ≤ n) (h1 : n < 18446744073709551616) : putTop (rIdx n) (tTag n) = (n, 0) := by
  unfold rIdx tTag
  rw [putTop_good (by omega), show n % 65536 - 1 + 1 + n / 65536 % 281474976710656 * 65536 = n by omega]
theorem key_word (n : Int) (h0 : 0 ≤ n) (h1 : n < 18446744073709551616) (h : (putKey (kPrio n) (kSeq n) (sVal n)).2 = 0) : (putKey (kPrio n) (kSeq n) (sVal n)).1 = n := by
  unfold kPrio kSeq sVal at *
  by_cases hr : 0 ≤ n / 72057594037927936 % 256 ∧ n / 72057594037927936 % 256 ≤ 254 ∧ 0 ≤ n / 65536 % 1099511627776 ∧ n / 65536 % 1099511627776 ≤ 1099511627775 ∧ 0 ≤ n % 65536 ∧ n % 65536 ≤ 65535
  · rw [putKey_good hr]; show n % 65536 + n / 65536 % 1099511627776 * 65536 + n / 72057594037927936 % 256 * 72057594037927936 = n; omega
  · rw [putKey_bad hr] at h; exact absurd (show (3 : Int) = 0 from h) (by decide)
theorem rIdx_lo (n : Int) : -1 ≤ rIdx n := by unfold rIdx; omega
theorem rIdx_hi (n : Int) : rIdx n ≤ 65534 := by unfold rIdx; omega
end Go.Proofs.YtejiogggocnldaaGreat.Wo
