/- A copy in new memory (the program's, the kit's); a set with one item more (the program's). -/
import Derived.Test.YteomggjkdaddhaaHeBase
import Derived.Deep.QuietTactic
import Derived.BigQuiet
import Derived.OwnWalk
import Derived.Deep.DeepCutAuto
namespace Go.Proofs.Yteomggjkdaddhaa
open Go.RowKit

set_option maxHeartbeats 1000000 in
theorem copyItems_any {w : World} {v : Value} {l : List It} (h : Lay w v l.length (flatI l)) (hl : l.length ≤ 100000) : Calls Try.prog 10 #[v] w (RetI w l) := by
  obtain ⟨i0, hi0, hz0, hz1, hz2⟩ := info_parts infoI
  have L := Lib.hid h
  clear h
  go_enter Try.func10, Try.ntmps10
  go_wp2_with (at_builtin; refine wpList_append_lay _ rfl _ _ _ rfl w.heap.size 45 i0 _ 2 16 Try.underlying22 hi0 hz0 hz1 hz2 (by rfl) (by decide) (.slice (some ⟨w.heap.size, 0, none⟩) 0 0) 0 [] (by simp [Act.eval]) (World.ownsRow_made w #[] 0 (Nat.le_refl _) (by decide) rfl) _ l.length (flatI l) (by simp [Act.eval]) (flatI_length l) (L.out.kept ((Kept.refl w).alloc _ _)) (flatI_one _) (by unfold maxLen; omega) (by omega) (by simp) ?_; rintro a' c' w2 own2 but2 at2)
  go_ret
  refine ⟨a', c', by simp, ?_, ?_⟩
  · exact (((Kept.refl w).alloc _ _).but _).trans but2 (fun _ _ h => h) |>.kept (fun k hk e => by simp [Value.ownBlock] at e; omega)
  · simpa using own2

set_option maxHeartbeats 1000000 in
theorem fresh_any {w : World} {v : Value} {l : List It} (h : Lay w v l.length (flatI l)) (hl : l.length ≤ 100000) : Calls Try.prog 28 #[v] w (RetI w l) := by
  obtain ⟨i0, hi0, hz0, hz1, hz2⟩ := info_parts infoI
  have L := Lib.hid h
  clear h
  go_enter Try.func28, Try.ntmps28
  go_wp2_with (at_builtin; refine wpList_append_lay _ rfl _ _ _ rfl w.heap.size 45 i0 _ 2 16 Try.underlying22 hi0 hz0 hz1 hz2 (by rfl) (by decide) (.slice none 0 0) 0 [] (by simp [Act.eval]) (World.ownsRow_nil _ _ _ _) _ l.length (flatI l) (by simp [Act.eval]) (flatI_length l) L.out (flatI_one _) (by unfold maxLen; omega) (by omega) (Nat.le_refl _) ?_; rintro a' c' w2 own2 but2 at2)
  go_ret
  refine ⟨a', c', by simp, ?_, ?_⟩
  · exact but2.kept (fun k hk e => by simp [Value.ownBlock] at e)
  · simpa using own2

/-- A list with one item more, wherever. -/
def put1 (p : Nat) (x : It) (l : List It) : List It := l.take p ++ x :: l.drop p
theorem put1_length {p : Nat} {x : It} {l : List It} (h : p ≤ l.length) : (put1 p x l).length = l.length + 1 := by
  unfold put1
  rw [List.length_append, List.length_take, List.length_cons, List.length_drop]
  omega

set_option maxHeartbeats 4000000 in
theorem with_any {w : World} {a : Option Addr} {c p n : Nat} {x : It} {l : List It} (h : Lay w (.slice a n c) n (flatI l)) (hn : n = l.length) (hp : p ≤ n) (hl : n ≤ 100000) :
    Calls Try.prog 39 #[.slice a n c, .int .i64 p, .agg #[.int .u64 x.k, .int .i64 x.a]] w (RetL w (n + 1) (put1 p x l)) := by
  obtain ⟨i0, hi0, hz0, hz1, hz2⟩ := info_parts infoI
  obtain ⟨a', c', e, hnc, hcm⟩ := h.form
  cases e
  have hnil := h.nil_cap
  have s1 := run_head3 a n c p (by omega)
  have s2 := run_tail a n c p hp
  obtain ⟨A2, hA2⟩ : ∃ A2, (if c = p then a else a.map (·.add (p * 2))) = A2 := ⟨_, rfl⟩
  obtain ⟨W0, hW0⟩ : ∃ W0, w.alloc (.cells #[.int .u64 x.k, .int .i64 x.a] 45) = W0 := ⟨_, rfl⟩
  have k0 : Kept w W0 := by rw [← hW0]; exact (Kept.refl w).alloc _ _
  have H1 := Lib.hid ((h.first (m := p) (d := p) hp (Nat.le_refl _) (by omega) (fun e => by have := hnil e; omega)).kept k0)
  have H2 := Lib.hid (show Lay W0 (.slice A2 (n - p) (c - p)) (n - p) (flatI (l.drop p)) by rw [← hA2]; exact (h.tail hn hp hnc hcm hnil).kept k0)
  have b0 : W0.cell? ⟨w.heap.size, 0, none⟩ = some (.int .u64 x.k) := by rw [← hW0]; exact cell_new _ _ _ _ 0 rfl
  have b1 : W0.cell? ⟨w.heap.size, 1, none⟩ = some (.int .i64 x.a) := by rw [← hW0]; exact cell_new _ _ _ _ 1 rfl
  rw [hA2] at s2
  have HW := Lib.hid hW0
  have K0 := Lib.hid k0
  have HN := Lib.hid hn
  clear hW0 hA2 h hnil k0 hn
  go_enter Try.func39, Try.ntmps39
  go_upto_region 1 with fail
  rw [HW.out]
  have HM := Lib.hid (show ∀ k, k ≤ 100001 → k ≤ maxLen from fun k h => by unfold maxLen; omega)
  have hz0' : W0.heap.size = w.heap.size + 1 := by rw [← HW.out]; simp
  have HZ := Lib.hid hz0'
  clear hz0'
  go_region_law (first
    | (refine step_append_full _ (by rfl) (.tmp 10) (.tmp 12) _ (by rfl) 45 i0 _ 2 16 Try.underlying22 hi0 hz0 hz1 hz2 (by rfl) a p p (flatI (l.take p)) (by simp [Act.eval]) (by rw [flatI_length, List.length_take, ← HN.out, Nat.min_eq_left hp]) (H1.out.kept (by repeat (first | with_reducible exact Kept.refl _ | with_reducible refine Kept.alloc ?_ _ _ | with_reducible refine Kept.drew ?_))) (.slice (some ⟨W0.heap.size, 0, none⟩) 1 1) 1 (flatI [x]) (by simp [Act.eval]) (by rfl) (lay_new (heap_alloc_new _ _) (by decide)) (flatI_one _) (by omega) (HM.out _ (by omega)) (by omega) ?_
       intro b1 c1 w1 own1 k1
       have k01 : Kept W0 w1 := (((Kept.refl W0).drew).alloc _ _).trans k1
       have own1' := own_mono own1 (show W0.heap.size ≤ (World.alloc W0.drew (.cells #[.int .u64 x.k, .int .i64 x.a] 45)).heap.size by simp)
       have K01 := Lib.hid k01
       have O1 := Lib.hid own1'
       clear k01 k1 own1 own1')
    | (refine step_append_lay _ (by rfl) (.tmp 13) (.tmp 16) _ (by rfl) W0.heap.size 45 i0 _ 2 16 Try.underlying22 hi0 hz0 hz1 hz2 (by rfl) (by decide) _ (p + 1) (flatI (l.take p) ++ flatI [x]) (by simp [Act.eval]) O1.out (.slice A2 (n - p) (c - p)) (n - p) (flatI (l.drop p)) (by simp [Act.eval]) (by rw [flatI_length, List.length_drop, ← HN.out]) (H2.out.kept K01.out) (flatI_one _) (HM.out _ (by omega)) (by omega) K01.out.size ?_
       intro a2 c2 w2 own2 but2 at2
       have K02 := Lib.hid (K01.out.wrote but2 (fun g hg => (O1.out.lt g hg).1))
       have O2 := Lib.hid own2
       clear own2 but2 at2))
  go_wp2
  go_ret
  have e : p + 1 + (n - p) = n + 1 := by omega
  have o2 := O2.out
  rw [← flatI_append, ← flatI_append] at o2
  rw [e] at o2 ⊢
  refine ⟨a2, c2, rfl, K0.out.trans K02.out, ?_⟩
  have := own_mono o2 (show w.heap.size ≤ W0.heap.size by rw [HZ.out]; omega)
  simpa [put1] using this
end Go.Proofs.Yteomggjkdaddhaa
