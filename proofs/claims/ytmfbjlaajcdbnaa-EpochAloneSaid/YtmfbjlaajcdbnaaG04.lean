/- The program's New, and its Copy: a block of 4,103 cells, taken whole. -/
import Derived.Test.YtmfbjlaajcdbnaaG03
import Derived.Deep.MidRow
import Derived.Laws.Tables
import Derived.Great.Walk
import Derived.Test.YtmfbjlaajcdbnaaG00
import Derived.Test.YtmfbjlaajcdbnaaG01
import Derived.Lib.Hide
import Derived.Deep.Light
import Derived.Deep.RegionHeld3
import Derived.Laws.EntriesVeiled
set_option linter.unusedVariables false
set_option linter.unusedSimpArgs false

namespace Go.Proofs.Ytmfbjlaajcdbnaa.Wo
set_option maxRecDepth 20000
open Go.RowKit

def zeroCells : List Value := List.replicate 4096 (.int .u64 0) ++ [.int .i64 0, .int .i64 0, .int .i64 0, .int .u64 0, .int .u64 0, .bool false, .int .i64 0]
theorem infoContents : (Try.prog.info? 122).map (fun i => (i.zero, i.size)) = some (some (.agg zeroCells.toArray), 4103) := by kernel_rfl
theorem zero_lo (i : Nat) (h : i < 4096) : zeroCells[i]? = some (.int .u64 0) := by
  unfold zeroCells
  rw [List.getElem?_append_left (by rw [List.length_replicate]; exact h)]
  rw [List.getElem?_replicate, if_pos h]
theorem zero_hi (j : Nat) : zeroCells[4096 + j]? = ([.int .i64 0, .int .i64 0, .int .i64 0, .int .u64 0, .int .u64 0, .bool false, .int .i64 0] : List Value)[j]? := by
  unfold zeroCells
  rw [List.getElem?_append_right (by rw [List.length_replicate]; omega), List.length_replicate, Nat.add_sub_cancel_left]
theorem zero_len : zeroCells.length = 4103 := by
  unfold zeroCells
  rw [List.length_append, List.length_replicate]
  rfl

theorem zeroed : ∃ Z : Array Value, Z.size = 4103 ∧ (∀ i, i < 4096 → Z[i]? = some (.int .u64 0)) ∧ (∀ j, Z[4096 + j]? = ([.int .i64 0, .int .i64 0, .int .i64 0, .int .u64 0, .int .u64 0, .bool false, .int .i64 0] : List Value)[j]?) ∧
    ∀ w, (zeroValue 122).run Try.prog w = .ok (.agg Z) w := by
  obtain ⟨x, hx, hxx⟩ := Option.map_eq_some_iff.1 infoContents
  simp only [Prod.mk.injEq] at hxx
  exact ⟨zeroCells.toArray, by rw [List.size_toArray]; exact zero_len, fun i h => by rw [List.getElem?_toArray]; exact zero_lo i h, fun j => by rw [List.getElem?_toArray]; exact zero_hi j,
    fun w => by simp [zeroValue, typeInfo, hx, hxx.1]⟩

set_option maxHeartbeats 1000000 in
theorem new_no_any (n : Int) (h : n < 1 ∨ 4096 < n) (w : World) : Calls Try.prog 28 #[.int .i64 n] w fun e w' => e = .returned (.tuple #[.pointer none, .int .i64 3]) ∧ w = w' := by
  rcases h with h | h
  · go_enter Try.func28, Try.ntmps28
    go_wp2
    go_ret2
    exact ⟨rfl, rfl⟩
  · have h' : ¬ n < 1 := by omega
    go_enter Try.func28, Try.ntmps28
    go_wp2
    go_ret2
    exact ⟨rfl, rfl⟩

set_option maxRecDepth 100000 in
set_option maxHeartbeats 1000000 in
theorem new_yes_any (n : Nat) (h : 1 ≤ n) (h' : n ≤ 4096) (w : World) : Calls Try.prog 28 #[.int .i64 n] w fun e w' => e = .returned (.tuple #[.pointer (some ⟨w.heap.size + 1, 0, none⟩), .int .i64 0]) ∧ PMem w' (w.heap.size + 1) w.heap.size n St.zero ∧ w'.heap.size = w.heap.size + 2 ∧ Kept w w' := by
  obtain ⟨Z, hZ, hlo, hhi, hz⟩ := zeroed
  have HLO := Lib.hid hlo
  have HHI := Lib.hid hhi
  have HZ := Lib.hid hZ
  clear hlo hhi
  go_enter Try.func28, Try.ntmps28
  go_wp2
  go_ret2
  go_light
  refine ⟨rfl, ⟨?_, fun i hi => ⟨0, ?_, fun _ => rfl⟩, ?_, ?_, ?_, ?_, ?_, ?_, ?_, fun i => ?_, by omega, h, h'⟩, by simp, ?_⟩
  · simp
  · have := HLO.out i hi
    simpa [show ¬ 4096 = i by omega] using this
  · simp [HZ.out]
  · have := HHI.out 1
    simpa [St.zero] using this
  · have := HHI.out 2
    simpa [St.zero] using this
  · have := HHI.out 3
    simpa [St.zero] using this
  · have := HHI.out 4
    simpa [St.zero] using this
  · have := HHI.out 5
    simpa [St.zero] using this
  · have := HHI.out 6
    simpa [St.zero] using this
  · simp
  · (go_light; repeat (first | (with_reducible exact Kept.refl _) | (with_reducible assumption) | (with_reducible refine Kept.alloc ?_ _ _) | (with_reducible refine Kept.drew ?_) | (with_reducible refine Kept.drewN ?_ _) | ((with_reducible refine Kept.setCell ?_ ?_ _); rotate_left; focus (first | (simp; done) | (simp; omega))) | refine Kept.trans ?_ (by assumption)))

theorem But.hereN {b : Nat} {a : World} : ∀ (vs : List Value) (o : Nat) (w : World), But (fun k => k = b) a w → But (fun k => k = b) a (w.setCells b o vs)
  | [], _, _, h => h
  | v :: r, o, w, h => But.hereN r (o + 1) _ (h.here o v)

theorem size_setCells {b : Nat} : ∀ (vs : List Value) (o : Nat) (w : World), (w.setCells b o vs).heap.size = w.heap.size
  | [], _, _ => rfl
  | v :: r, o, w => (size_setCells r (o + 1) _).trans (by simp)

theorem infoSize : (Try.prog.info? 122).map (·.size) = some 4103 := by
  obtain ⟨x, hx, hxx⟩ := Option.map_eq_some_iff.1 infoContents
  simp only [Prod.mk.injEq] at hxx
  rw [hx]; simp [hxx.2]

theorem PMem.range {w : World} {M B n : Nat} {s : St} (hm : PMem w M B n s) : ∃ cs : List Value, cs.length = 4103 ∧ w.rangeAt B 0 cs ∧ (∀ v ∈ cs, v.oneCell' = true) ∧ ∀ i, i < 4103 → cs[i]? = w.cell? ⟨B, i, none⟩ := by
  have h : ∀ i, i < 4103 → ∃ v, w.cell? ⟨B, i, none⟩ = some v ∧ v.oneCell' = true := by
    intro i hi
    by_cases h : i < 4096
    · obtain ⟨x, hx, _⟩ := hm.words i h
      exact ⟨_, hx, rfl⟩
    · have hc : i = 4096 ∨ i = 4097 ∨ i = 4098 ∨ i = 4099 ∨ i = 4100 ∨ i = 4101 ∨ i = 4102 := by omega
      rcases hc with rfl | rfl | rfl | rfl | rfl | rfl | rfl
      · exact ⟨_, hm.size, rfl⟩
      · exact ⟨_, hm.c0, rfl⟩
      · exact ⟨_, hm.c1, rfl⟩
      · exact ⟨_, hm.c2, rfl⟩
      · exact ⟨_, hm.c3, rfl⟩
      · exact ⟨_, hm.c4, rfl⟩
      · exact ⟨_, hm.cnt, rfl⟩
  refine ⟨(List.range 4103).map (fun i => (w.cell? ⟨B, i, none⟩).getD undef), by rw [List.length_map, List.length_range], fun j v hv => ?_, fun v hv => ?_, fun i hi => ?_⟩
  · rw [List.getElem?_map] at hv
    by_cases hj : j < 4103
    · rw [List.getElem?_range hj] at hv
      obtain ⟨u, hu, _⟩ := h j hj
      simp only [Option.map_some, hu, Option.getD_some, Option.some.injEq] at hv
      rw [Nat.zero_add, hu, hv]
    · rw [List.getElem?_eq_none (by rw [List.length_range]; omega)] at hv
      exact absurd hv (by simp)
  · obtain ⟨i, hi, rfl⟩ := List.mem_map.1 hv
    obtain ⟨u, hu, h1⟩ := h i (List.mem_range.1 hi)
    rw [hu]; exact h1
  · obtain ⟨u, hu, _⟩ := h i hi
    rw [List.getElem?_map, List.getElem?_range hi, Option.map_some, hu, Option.getD_some]

end Go.Proofs.Ytmfbjlaajcdbnaa.Wo

namespace Go.Proofs.Ytmfbjlaajcdbnaa.Wo
set_option maxRecDepth 20000
open Go.RowKit

set_option maxHeartbeats 2000000 in
theorem words_any (M B n : Nat) (s : St) (w : World) (hm : PMem w M B n s) : Calls Try.prog 21 #[.pointer (some ⟨M, 0, none⟩)] w (WordsPost n s w) := by
  have hp := hm.p
  have hs := hm.size
  have hn := hm.hn
  have hM := hm.lt.1
  have hB := hm.lt.2
  obtain ⟨Z, hZ, hmk⟩ := make_words n (by omega)
  have HZ := Lib.hid hZ
  have HM := Lib.hid hm
  clear hm hZ
  go_enter Try.func21, Try.ntmps21
  go_wp2_with fail
  refine (valid_yes M _ _ hp).mono ?_
  rintro e w' ⟨rfl, rfl⟩
  go_wp2_with fail
  go_loopw [18] (fun i wr => ∃ k : Nat, k ≤ n ∧ i = .int .i64 k ∧ Kept w wr ∧ w.heap.size < wr.heap.size ∧ (∀ j, wr.frozen? ⟨w.heap.size, j, none⟩ = false) ∧ (∀ j, j < k → wr.cell? ⟨w.heap.size, j, none⟩ = some (.int .u64 (s.ws j))) ∧
    (∀ j, k ≤ j → j < n → wr.cell? ⟨w.heap.size, j, none⟩ = some (.int .u64 0))) (fun i _ => n - (intOf i).toNat)
  case atStart =>
    refine ⟨0, Nat.zero_le _, rfl, ?_, by simp, fun j => by simp, fun j h => absurd h (by omega), fun j _ h => ?_⟩
    · (go_light; repeat (first | (with_reducible exact Kept.refl _) | (with_reducible assumption) | (with_reducible refine Kept.alloc ?_ _ _) | (with_reducible refine Kept.drew ?_) | (with_reducible refine Kept.drewN ?_ _) | ((with_reducible refine Kept.setCell ?_ ?_ _); rotate_left; focus (first | (simp; done) | (simp; omega))) | refine Kept.trans ?_ (by assumption)))
    · rw [cell_new _ _ _ _ _ rfl]; exact HZ.out j h
  case round =>
    obtain ⟨k, hk, rfl, kw, hz, hf, h1, h2⟩ := hrel
    have H1 := Lib.hid h1
    have H2 := Lib.hid h2
    clear h1 h2
    by_cases hlt : k < n
    · have c1 := kw.some hp
      have c2 := H2.out k (Nat.le_refl _) hlt
      obtain ⟨x, hx, hxs⟩ := HM.out.words k (by omega)
      obtain rfl := hxs hlt
      have c3 := kw.some hx
      clear hx hxs
      go_wp2_with fail
      refine (word_at B k _ _ c3).mono ?_
      rintro e w' ⟨rfl, rfl⟩
      go_wp2
      go_roundw
      case rel => exact ⟨k + 1, by omega, by go_num, kw.setCell (Nat.le_refl _) _, by simpa using hz, fun j => by rw [World.frozen?_setCell]; exact hf j, fun j h => by
        rw [cell_set]
        by_cases e : k = j
        · subst e; simp [c2]
        · rw [if_neg e]; exact H1.out j (by omega), fun j h h' => by
        rw [cell_set, if_neg (by omega)]; exact H2.out j (by omega) h'⟩
      case measure => simp [intOf]; omega
    · have e : k = n := by omega
      go_wp2
      go_ret
      exact ⟨w.heap.size, n, rfl, Nat.le_refl _, hz, fun i hi => H1.out i (by omega), hf, kw⟩

def Has (w : World) (M : Nat) (S : Nat → Prop) (n : Nat) (s : St) : Prop := ∃ B, (∀ k, S k ↔ k = M ∨ k = B) ∧ PMem w M B n s

theorem Has.op {w w' : World} {M B n : Nat} {S : Nat → Prop} {s : St} (hS : ∀ k, S k ↔ k = M ∨ k = B) (hm : PMem w' M B n s) (hb : But (fun k => k = B) w w') : Has w' M S n s ∧ But S w w' :=
  ⟨⟨B, hS, hm⟩, hb.mono (fun k _ h => (hS k).2 (Or.inr h))⟩

end Go.Proofs.Ytmfbjlaajcdbnaa.Wo

namespace Go.Proofs.Ytmfbjlaajcdbnaa.Sk
open Go.RowKit
open Wo (St acc wordAt PMem RefIs)

theorem kept_of {w w' : World} (h : Wo.Kept w w') : Kept w w' := ⟨h.below⟩
theorem kept_eq {w w' : World} (h : w = w') : Kept w w' := h ▸ Kept.refl _
theorem but_of {S : Nat → Prop} {w w' : World} (h : Wo.But S w w') : But S w w' := ⟨h.os, h.tape, h.output, h.size, h.block, fun a _ => h.froze a⟩

theorem pmem_lt {w : World} {M B n : Nat} {s : St} (hm : PMem w M B n s) : M < w.heap.size ∧ B < w.heap.size := ⟨lt_of_cell hm.p, lt_of_cell hm.size⟩
theorem pmem_frame {w w' : World} {M B n : Nat} {s : St} (hm : PMem w M B n s) {T : Nat → Prop} (hb : But T w w') (hM : ¬ T M) (hB : ¬ T B) : PMem w' M B n s :=
  ⟨hb.some hm.p hM, fun i hi => by obtain ⟨x, h, h'⟩ := hm.words i hi; exact ⟨x, hb.some h hB, h'⟩, hb.some hm.size hB, hb.some hm.c0 hB, hb.some hm.c1 hB, hb.some hm.c2 hB, hb.some hm.c3 hB, hb.some hm.c4 hB, hb.some hm.cnt hB,
   fun i => hb.soft (lt_of_cell hm.size) (hm.fB i), hm.ne, hm.hn⟩
theorem pmem_kept {w w' : World} {M B n : Nat} {s : St} (hm : PMem w M B n s) (k : Kept w w') : PMem w' M B n s := pmem_frame hm (k.but (fun _ => False)) id id
theorem ref_lt {w : World} {M B n : Nat} {s : St} (hm : RefIs w M B n s) (hn : 1 ≤ n) : M < w.heap.size ∧ B < w.heap.size := ⟨lt_of_cell hm.c0, lt_of_cell (hm.words 0 hn)⟩
theorem ref_frame {w w' : World} {M B n : Nat} {s : St} (hm : RefIs w M B n s) (hn : 1 ≤ n) {T : Nat → Prop} (hb : But T w w') (hM : ¬ T M) (hB : ¬ T B) : RefIs w' M B n s :=
  ⟨hb.some hm.c0 hM, hb.some hm.c1 hM, hb.some hm.c2 hM, hb.some hm.c3 hM, hb.some hm.c4 hM, hb.some hm.c5 hM, hb.some hm.c6 hM,
   fun i hi => hb.some (hm.words i hi) hB, fun i => hb.soft (ref_lt hm hn).1 (hm.fM i), fun i => hb.soft (ref_lt hm hn).2 (hm.fB i), hm.ne⟩
theorem ref_kept {w w' : World} {M B n : Nat} {s : St} (hm : RefIs w M B n s) (hn : 1 ≤ n) (k : Kept w w') : RefIs w' M B n s := ref_frame hm hn (k.but (fun _ => False)) id id

theorem p_load (M B n : Nat) (s : St) (a : Int) (w : World) (hm : PMem w M B n s) (h0 : 0 ≤ s.cnt) (h1 : s.cnt ≤ 1000000) :
    Calls Try.prog 102 #[.pointer (some ⟨M, 0, none⟩), .int .i64 a] w fun e w' => e = .returned (.int .u64 (wordAt n s a)) ∧ PMem w' M B n (acc n s 1 a false 0) ∧ But (fun k => k = B) w w' :=
  (Wo.pLoad M B n s a w hm h0 h1).mono fun _ _ ⟨x, y, z⟩ => ⟨by rw [x, acc_new], y, but_of z⟩
theorem p_store (M B n : Nat) (s : St) (a v : Int) (w : World) (hm : PMem w M B n s) (h0 : 0 ≤ s.cnt) (h1 : s.cnt ≤ 1000000) :
    Calls Try.prog 53 #[.pointer (some ⟨M, 0, none⟩), .int .i64 a, .int .u64 v] w fun e w' => e = .returned (.tuple #[]) ∧ PMem w' M B n (acc n s 2 a true v) ∧ But (fun k => k = B) w w' :=
  (Wo.pStore M B n s a v w hm h0 h1).mono fun _ _ ⟨x, y, z⟩ => ⟨x, y, but_of z⟩
theorem p_cas (M B n : Nat) (s : St) (a o v : Int) (w : World) (hm : PMem w M B n s) (h0 : 0 ≤ s.cnt) (h1 : s.cnt ≤ 1000000) (a0 : 0 ≤ a) (a1 : a < n) :
    Calls Try.prog 105 #[.pointer (some ⟨M, 0, none⟩), .int .i64 a, .int .u64 o, .int .u64 v] w fun e w' => e = .returned (.bool (wordAt n s a == o)) ∧ PMem w' M B n (acc n s 3 a (wordAt n s a == o) v) ∧ But (fun k => k = B) w w' :=
  (Wo.pCAS M B n s a o v w hm h0 h1).mono fun _ _ ⟨x, y, z⟩ => ⟨by rw [x, acc_held _ _ _ _ _ _ a0 a1], y, but_of z⟩
def WordsPost (n : Nat) (s : St) (w : World) (e : Ending) (w' : World) : Prop :=
  ∃ b c, e = .returned (.slice (some ⟨b, 0, none⟩) n c) ∧ w.heap.size ≤ b ∧ b < w'.heap.size ∧ (∀ i, i < n → w'.cell? ⟨b, i, none⟩ = some (.int .u64 (s.ws i))) ∧ (∀ i, w'.frozen? ⟨b, i, none⟩ = false) ∧ Kept w w'
theorem p_words (M B n : Nat) (s : St) (w : World) (hm : PMem w M B n s) : Calls Try.prog 21 #[.pointer (some ⟨M, 0, none⟩)] w (WordsPost n s w) :=
  (Wo.words_any M B n s w hm).mono fun _ _ ⟨b, c, x, y, z, u, v, k⟩ => ⟨b, c, x, y, z, u, v, kept_of k⟩
theorem p_last (M B n : Nat) (s : St) (w : World) (hm : PMem w M B n s) : Calls Try.prog 23 #[.pointer (some ⟨M, 0, none⟩)] w
    fun e w' => e = .returned (.agg #[.int .i64 s.kind, .int .i64 s.at_, .int .u64 s.old, .int .u64 s.new, .bool s.held]) ∧ Kept w w' :=
  (Wo.last_any M B n s w hm).mono fun _ _ ⟨x, k⟩ => ⟨x, kept_of k⟩
theorem p_count (M B n : Nat) (s : St) (w : World) (hm : PMem w M B n s) : Calls Try.prog 25 #[.pointer (some ⟨M, 0, none⟩)] w
    fun e w' => e = .returned (.int .i64 s.cnt) ∧ w = w' := Wo.count_any M B _ w hm.p hm.cnt
theorem p_new (n : Nat) (h : 1 ≤ n) (h' : n ≤ 4096) (w : World) : Calls Try.prog 28 #[.int .i64 n] w
    fun e w' => e = .returned (.tuple #[.pointer (some ⟨w.heap.size + 1, 0, none⟩), .int .i64 0]) ∧ PMem w' (w.heap.size + 1) w.heap.size n Wo.St.zero ∧ w'.heap.size = w.heap.size + 2 ∧ Kept w w' :=
  (Wo.new_yes_any n h h' w).mono fun _ _ ⟨x, y, z, k⟩ => ⟨x, y, z, kept_of k⟩

theorem r_load (M B n : Nat) (s : St) (a : Int) (w : World) (hm : RefIs w M B n s) (h0 : 0 ≤ s.cnt) (h1 : s.cnt ≤ 1000000) (hn : n ≤ 4096) :
    Calls Try.prog 91 #[.pointer (some ⟨M, 0, none⟩), .int .i64 a] w fun e w' => e = .returned (.int .u64 (wordAt n s a)) ∧ RefIs w' M B n (acc n s 1 a false 0) ∧ But (fun k => k = M ∨ k = B) w w' :=
  (Wo.refLoad_any M B n s a w hm h0 h1 (by omega)).mono fun _ _ ⟨x, y, z⟩ => ⟨by rw [x, acc_new], y, but_of z⟩
theorem r_store (M B n : Nat) (s : St) (a v : Int) (w : World) (hm : RefIs w M B n s) (h0 : 0 ≤ s.cnt) (h1 : s.cnt ≤ 1000000) (hn : n ≤ 4096) :
    Calls Try.prog 54 #[.pointer (some ⟨M, 0, none⟩), .int .i64 a, .int .u64 v] w fun e w' => e = .returned (.tuple #[]) ∧ RefIs w' M B n (acc n s 2 a true v) ∧ But (fun k => k = M ∨ k = B) w w' :=
  (Wo.refStore_any M B n s a v w hm h0 h1 (by omega)).mono fun _ _ ⟨x, y, z⟩ => ⟨x, y, but_of z⟩
theorem r_cas (M B n : Nat) (s : St) (a o v : Int) (w : World) (hm : RefIs w M B n s) (h0 : 0 ≤ s.cnt) (h1 : s.cnt ≤ 1000000) (hn : n ≤ 4096) (a0 : 0 ≤ a) (a1 : a < n) :
    Calls Try.prog 95 #[.pointer (some ⟨M, 0, none⟩), .int .i64 a, .int .u64 o, .int .u64 v] w fun e w' => e = .returned (.bool (wordAt n s a == o)) ∧ RefIs w' M B n (acc n s 3 a (wordAt n s a == o) v) ∧ But (fun k => k = M ∨ k = B) w w' :=
  (Wo.refCAS_any M B n s a o v w hm h0 h1 (by omega)).mono fun _ _ ⟨x, y, z⟩ => ⟨by rw [x, acc_held _ _ _ _ _ _ a0 a1], y, but_of z⟩
theorem r_at (M B n : Nat) (s : St) (a : Int) (w : World) (hm : RefIs w M B n s) :
    Calls Try.prog 68 #[.pointer (some ⟨M, 0, none⟩), .int .i64 a] w fun e w' => e = .returned (.int .u64 (wordAt n s a)) ∧ w = w' := Wo.refAt_any M B n s a w hm
def RNewPost (n : Nat) (w : World) (e : Ending) (w' : World) : Prop :=
  ∃ M B, e = .returned (.tuple #[.pointer (some ⟨M, 0, none⟩), .int .i64 0]) ∧ RefIs w' M B n Wo.St.zero ∧ w.heap.size ≤ M ∧ w.heap.size ≤ B ∧ M < w'.heap.size ∧ B < w'.heap.size ∧ Kept w w'
theorem r_new (n : Nat) (h : 1 ≤ n) (h' : n ≤ 4096) (w : World) : Calls Try.prog 51 #[.int .i64 n] w (RNewPost n w) :=
  (Wo.refNew_yes n h h' w).mono fun _ _ ⟨M, B, x, y, a, b, c, d, k⟩ => ⟨M, B, x, y, a, b, c, d, kept_of k⟩
end Go.Proofs.Ytmfbjlaajcdbnaa.Sk

namespace Go.Proofs.Ytmfbjlaajcdbnaa.Ep
set_option maxRecDepth 20000
open Go.RowKit Go.Shelf
open Wo (St acc wordAt PMem RefIs)
open Sk (Stk Wd Blk)
attribute [local go_sem] Oper.semAt_some

def cs (i : Int) (k : Nat) : List Int := (List.range k).map (fun j : Nat => i + (j : Int))
theorem cs_succ (i : Int) (k : Nat) : cs i (k + 1) = cs i k ++ [i + (k : Int)] := by simp [cs, List.range_succ]
theorem cs_length (i : Int) (k : Nat) : (cs i k).length = k := by simp [cs]
structure PBoxes (w : World) (a b : Nat) (S : Stk) (i : Int) : Prop where
  a0 : w.cell? ⟨a, 0, none⟩ = some (.int .i64 S.T)
  a1 : w.cell? ⟨a, 1, none⟩ = some (.int .i64 S.K)
  a2 : w.cell? ⟨a, 2, none⟩ = some (.int .i64 S.N)
  b0 : w.cell? ⟨b, 0, none⟩ = some (.int .i64 i)
theorem PBoxes.kept {w w' : World} {a b : Nat} {S : Stk} {i : Int} (h : PBoxes w a b S i) (k : Kept w w') : PBoxes w' a b S i := ⟨k.some h.a0, k.some h.a1, k.some h.a2, k.some h.b0⟩
theorem PBoxes.blk {w w' : World} {a b : Nat} {S : Stk} {i : Int} (h : PBoxes w a b S i) {T : Nat → Prop} (k : Blk T w w') (ha : ¬ T a) (hb : ¬ T b) : PBoxes w' a b S i := by
  have cell : ∀ {b o : Nat} {u : Value}, w.cell? ⟨b, o, none⟩ = some u → ¬ T b → w'.cell? ⟨b, o, none⟩ = some u := fun {b o u} hc hT => (World.cell?_of_block (k.block b (lt_of_cell hc) hT)).trans hc
  exact ⟨cell h.a0 ha, cell h.a1 ha, cell h.a2 ha, cell h.b0 hb⟩

set_option maxHeartbeats 400000 in
theorem pins_any (S : Stk) (i : Int) (w : World) : Calls Try.prog 64 #[.agg #[.int .i64 S.T, .int .i64 S.K, .int .i64 S.N], .int .i64 i] w fun e w' => ∃ a b, e = .returned (.func (.func 96) #[] #[.pointer (some ⟨b, 0, none⟩), .pointer (some ⟨a, 0, none⟩)]) ∧ w.heap.size ≤ a ∧ w.heap.size ≤ b ∧ a < w'.heap.size ∧ b < w'.heap.size ∧ PBoxes w' a b S i ∧ Kept w w' := by
  go_enter Try.func64, Try.ntmps64
  go_wp2
  go_ret
  go_light
  refine ⟨w.heap.size, w.heap.size + 1, rfl, by omega, by omega, by simp; omega, by simp, ⟨?_, ?_, ?_, ?_⟩, by (go_light; repeat (first | (with_reducible exact Kept.refl _) | (with_reducible assumption) | (with_reducible refine Kept.alloc ?_ _ _) | (with_reducible refine Kept.drew ?_) | (with_reducible refine Kept.drewN ?_ _) | ((with_reducible refine Kept.setCell ?_ ?_ _); rotate_left; focus (first | (simp; done) | (simp; omega))) | refine Kept.trans ?_ (by assumption)))⟩
  · exact ((Kept.refl _).alloc _ _).some (cell_new w _ _ _ 0 rfl)
  · exact ((Kept.refl _).alloc _ _).some (cell_new w _ _ _ 1 rfl)
  · exact ((Kept.refl _).alloc _ _).some (cell_new w _ _ _ 2 rfl)
  · exact cell_new _ _ _ _ 0 (by simp)

theorem loop_ghost {F : Fence} {n : Nat} {P : Program} {Q : Exit → Act → World → Prop} {a : Act} {w : World} {c : Code} (NN : Nat) (Rel : Nat → Act → World → Prop) (h0 : Rel 0 a w)
    (hstep : ∀ k a w, Rel k a w → k < NN ∧ ∀ K : Act → World → Prop, (∀ a' w', Rel (k + 1) a' w' → K a' w') → c.wpIn F n P (Exit.then K Q) a w) : (Code.loop c).wpIn F n P Q a w := by
  have key : ∀ m k a w, Rel k a w → NN ≤ k + m → Code.roundsIn F n P c Q m a w := by
    intro m
    induction m with
    | zero => intro k a w h hk; have := (hstep k a w h).1; omega
    | succ m ih => intro k a w h hk; exact (hstep k a w h).2 _ fun a' w' h' => ih (k + 1) a' w' h' (by omega)
  exact wpIn_loop_rounds NN (key NN 0 a w h0 (by omega))
def PAct (l a b : Nat) (c : Int) (x5 x6 x7 x8 x9 x10 x11 x12 x13 x14 x15 x16 x17 x18 x19 x20 : Value) : Act :=
  { tmps := #[.func (.yield l) #[] #[], .pointer (some ⟨b, 0, none⟩), .pointer (some ⟨a, 0, none⟩), undef, .int .i64 c, x5, x6, x7, x8, x9, x10, x11, x12, x13, x14, x15, x16, x17, x18, x19, x20], defers := [] }
def PRel (J : List Int → World → Prop) (S : Stk) (i : Int) (l a b : Nat) (k : Nat) (A : Act) (w : World) : Prop :=
  (k = 0 ∨ i + k ≤ S.N) ∧ J (cs i k) w ∧ ∃ x5 x6 x7 x8 x9 x10 x11 x12 x13 x14 x15 x16 x17 x18 x19 x20, A = PAct l a b (i + k) x5 x6 x7 x8 x9 x10 x11 x12 x13 x14 x15 x16 x17 x18 x19 x20

set_option maxHeartbeats 4000000 in
theorem pins_in (m : Nat) (hm : 1 ≤ m) (l a b : Nat) (S : Stk) (i : Int) (i0 : 0 ≤ i) (i1 : i ≤ 100000) (hN : S.N ≤ 100000) (K0 : -1000000 ≤ S.K) (K1 : S.K ≤ 1000000) (J Jx : List Int → World → Prop)
    (hJk : ∀ pre W W', J pre W → Kept W W' → J pre W') (hJb : ∀ pre W, J pre W → PBoxes W a b S i)
    (hY : ∀ pre x W, J pre W → (pre = cs i pre.length ∧ x = i + (pre.length : Int) ∧ x < S.N) → YieldAt Fence.wide (m - 1) Try.prog l #[.int .i64 x, .int .i64 (S.K + x)] W fun e W' =>
      (e = .returned (.bool true) ∧ J (pre ++ [x]) W') ∨ (e = .returned (.bool false) ∧ Jx (pre ++ [x]) W'))
    (W : World) (h0 : J [] W) :
    CallsIn Fence.wide m Try.prog 96 #[.func (.yield l) #[] #[], .pointer (some ⟨b, 0, none⟩), .pointer (some ⟨a, 0, none⟩)] W fun e W' => (∃ v, e = .returned v) ∧
      ((∃ xs, (∃ k : Nat, xs = cs i k ∧ S.N ≤ i + k) ∧ J xs W') ∨ (∃ pre W1, Jx pre W1 ∧ Kept W1 W')) := by
  refine callsIn_of_wp Try.func96 rfl trivial ?_ rfl
  simp only [Try.ntmps96, List.size_toArray, List.length_cons, List.length_nil, Nat.reduceAdd, Nat.reduceSub, Array.replicate_succ, Array.replicate_zero, List.push_toArray, List.append_toArray, List.nil_append, List.cons_append]
  rw [wpIn_wide]
  obtain ⟨a0, a1, a2, b0⟩ := hJb _ _ h0
  have HY := Lib.hid hY
  have HK := Lib.hid hJk
  have HB := Lib.hid hJb
  clear hY hJk hJb
  have hfm : Try.prog.follows .mixedOrders = true := by kernel_rfl
  go_wp2_with fail
  rw [← wpIn_wide (n := m)]
  refine loop_ghost ((S.N - i).toNat + 1) (PRel J S i l a b) ⟨.inl rfl, h0, _, _, _, _, _, _, _, _, _, _, _, _, _, _, _, _, by rw [show i + ((0 : Nat) : Int) = i from by simp]; rfl⟩ ?_
  clear h0 a0 a1 a2 b0
  rintro k _ w ⟨hk, hj, x5, x6, x7, x8, x9, x10, x11, x12, x13, x14, x15, x16, x17, x18, x19, x20, rfl⟩
  refine ⟨by omega, fun K hK => ?_⟩
  obtain ⟨a0, a1, a2, b0⟩ := HB.out _ _ hj
  unfold PAct
  obtain ⟨x, hx⟩ : ∃ x : Int, x = i + (k : Int) := ⟨_, rfl⟩
  rw [← hx]
  have HX := Lib.hid hx
  by_cases hs : x < S.N
  · obtain ⟨fn, tmps, assign, body, hy, hR⟩ := HY.out _ x w hj ⟨by rw [cs_length], by rw [cs_length]; exact hx, hs⟩
    have qk : wrap64 (S.K + x) = S.K + x := by unfold wrap64; omega
    have qx : wrap64 (x + 1) = x + 1 := by unfold wrap64; omega
    have x0 : 0 ≤ x := by omega
    have x1 : x ≤ 100000 := by omega
    clear hx hk
    gi_wp2
    refine hR.mono ?_
    rintro e W3 (⟨rfl, hJ3⟩ | ⟨rfl, hJx3⟩)
    · have J3 := Lib.hid hJ3
      obtain ⟨c0, c1, c2, d0⟩ := HB.out _ _ hJ3
      clear hJ3 hy hR hj a0 a1 a2 b0
      gi_wp2
      refine ⟨?_, ?_, _, _, _, _, _, _, _, _, _, _, _, _, _, _, _, _, by rw [show i + ((k + 1 : Nat) : Int) = x + 1 from by rw [HX.out, Int.natCast_add]; omega]; rfl⟩
      · have := HX.out
        exact .inr (by omega)
      · rw [cs_succ, ← HX.out]
        exact J3.out
    · gi_wp2
      go_end0
      exact ⟨⟨_, rfl⟩, .inr ⟨_, _, hJx3, Kept.refl _⟩⟩
  · have HS : S.N ≤ i + (k : Int) := by omega
    have HSS := Lib.hid HS
    clear hx hk HS
    gi_wp2
    refine ⟨fun _ h => (by cases h), ?_⟩
    gi_wp2
    go_end0
    exact ⟨⟨_, rfl⟩, .inl ⟨_, ⟨k, rfl, HSS.out⟩, hj⟩⟩
end Go.Proofs.Ytmfbjlaajcdbnaa.Ep
