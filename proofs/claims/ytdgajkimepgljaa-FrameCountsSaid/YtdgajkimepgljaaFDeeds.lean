/- Deeds and slices.Clone; the kit's SameDeeds and OverDeeds. -/
import Derived.Test.YtdgajkimepgljaaFAcc
import Derived.OwnWalk
import Derived.BigQuiet
import Derived.LoopN
import Derived.Lib.SliceRun
namespace Go.Proofs.Ytdgajkimepgljaa
open Go.RowKit

theorem but_kept {v : Value} {w w' : World} (h : But (fun k => v.ownBlock = some k) w w') (hv : ∀ g, v.ownBlock = some g → False) : Kept w w' := h.kept fun k _ e => hv k e

set_option maxHeartbeats 1000000 in
theorem clone_any {w : World} {base : Nat} {v : Value} {l : List Dd} (h : OwnD w base v l) (hl : l.length ≤ 2000) :
    Calls Try.prog 39 #[v] w fun e w' => ∃ a c, e = .returned (.slice a l.length c) ∧ Kept w w' ∧ OwnD w' w.heap.size (.slice a l.length c) l := by
  rcases h.2 with ⟨rfl, h0⟩ | ⟨g, cap, cur, rfl, hrest⟩
  · have hl0 : l = [] := List.eq_nil_of_length_eq_zero h0
    subst hl0
    clear h h0
    have q22 : ∀ (w : World) (a : Option Addr) (n c n' c' : Nat), (binOp .eql 41 (.slice a n c) (.slice none n' c')).run Try.prog w = .ok (.bool a.isNone) w := fun w a n c n' c' => Lib.run_eql_slice_nil w _ _ a n c n' c' Try.underlying41
    go_enter Try.func39, Try.ntmps39
    go_wp2
    go_ret
    exact ⟨_, _, rfl, Kept.refl _, World.ownsRow_nil _ _ _ _⟩
  · obtain ⟨i0, hi0, hz0, hz1, hz2⟩ := info_parts infoDeed
    have L := Lib.hid (own_lies h)
    clear h hrest
    have q22 : ∀ (w : World) (a : Option Addr) (n c n' c' : Nat), (binOp .eql 41 (.slice a n c) (.slice none n' c')).run Try.prog w = .ok (.bool a.isNone) w := fun w a n c n' c' => Lib.run_eql_slice_nil w _ _ a n c n' c' Try.underlying41
    go_enter Try.func39, Try.ntmps39
    go_wp2_with (at_builtin; refine wpList_append_any _ rfl _ _ _ rfl w.heap.size 59 i0 _ 3 24 Try.underlying41 hi0 hz0 hz1 hz2 (by rfl) (by decide) (.slice (some ⟨w.heap.size, 0, none⟩) 0 0) 0 [] (by simp [Act.eval, Act.put]) (World.ownsRow_made w #[] 0 (Nat.le_refl _) (by decide) rfl) _ l.length (flat l) (by simp [Act.eval, Act.put]) (flat_length l) (L.out.kept ((Kept.refl w).alloc _ _)) (flat_one _) (by unfold maxLen; omega) (by omega) (by simp) ?_; intro a' c' w2 own2 but2 at2)
    go_ret
    refine ⟨a', c', by simp, ?_, ?_⟩
    · exact (((Kept.refl w).alloc _ _).but _).trans but2 (fun _ _ h => h) |>.kept (fun k hk e => by simp [Value.ownBlock] at e; omega)
    · simpa using own2

/-- The program's deeds, as new memory. -/
theorem deeds_any {w : World} {F G T : Nat} {dv : Value} {base n m : Nat} {s : St} (h : PF w F G T dv base n m s) (hm : m ≤ 1000) :
    Calls Try.prog 19 #[.pointer (some ⟨F, 0, none⟩)] w fun e w' => ∃ a c, e = .returned (.slice a s.D.length c) ∧ Kept w w' ∧ OwnD w' w.heap.size (.slice a s.D.length c) s.D := by
  have c0 := h.ptr
  have c1 := h.dee
  have z1 := h.fine.dm
  obtain ⟨a, c, hd⟩ := own_form h.own
  subst hd
  have OW := Lib.hid h.own
  go_enter Try.func19, Try.ntmps19
  go_wp2_with fail; refine (valid_held h).mono ?_; rintro e w1 ⟨rfl, rfl⟩
  clear h
  go_wp2_with fail; refine (clone_any OW.out (by omega)).mono ?_; rintro e w2 ⟨a', c', rfl, k2, own2⟩
  go_wp2
  go_ret
  exact ⟨a', c', rfl, k2, own2⟩
theorem deeds_none {w : World} {p : Option Addr} (h : NobF w p) :
    Calls Try.prog 19 #[.pointer p] w fun e w' => e = .returned (.slice none 0 0) ∧ w' = w := by
  have H := Lib.hid h
  clear h
  go_enter Try.func19, Try.ntmps19
  go_wp2_with fail; refine (valid_none H.out).mono ?_; rintro e w1 ⟨rfl, rfl⟩
  go_wp2
  go_ret
  exact ⟨rfl, rfl⟩

/-- A deed's cells, for a reader. -/
theorem Lies.deed {w : World} {v : Value} {l : List Dd} (h : Lies w v l.length (flat l)) (hp : 0 < l.length) : ∃ g o c, v = .slice (some ⟨g, o, none⟩) l.length c ∧ l.length ≤ c ∧ c ≤ maxLen ∧
    ∀ i d, l[i]? = some d → w.cell? ⟨g, o + i * 3, none⟩ = some (.int .i64 d.1) ∧ w.cell? ⟨g, o + i * 3 + 1, none⟩ = some (.int .i64 d.2.1) ∧ w.cell? ⟨g, o + i * 3 + 2, none⟩ = some (.int .i64 d.2.2) := by
  rcases h with ⟨_, h, _⟩ | ⟨g, o, c, hv, h1, h2, hc⟩
  · omega
  · refine ⟨g, o, c, hv, h1, h2, fun i d hd => ?_⟩
    obtain ⟨e1, e2, e3⟩ := flat_get l i d hd
    exact ⟨hc _ _ e1, by rw [Nat.add_assoc]; exact hc _ _ e2, by rw [Nat.add_assoc]; exact hc _ _ e3⟩

set_option maxHeartbeats 2000000 in
theorem sameDeeds_yes {w : World} {v v' : Value} {l : List Dd} (h : Lies w v l.length (flat l)) (h' : Lies w v' l.length (flat l)) (hl : l.length ≤ 2000) :
    Calls Try.prog 26 #[v, v'] w fun e w' => e = .returned (.bool true) ∧ Kept w w' := by
  by_cases h0 : l = []
  · subst h0
    obtain ⟨a, c, rfl, _⟩ := h.form
    obtain ⟨a', c', rfl, _⟩ := h'.form
    clear h h' hl
    go_enter Try.func26, Try.ntmps26
    go_wp2
    go_loopw [5, 6] (fun s i wr => s = .bool true ∧ i = .int .i64 0 ∧ wr = w) (fun _ _ _ => 0)
    case atStart => exact ⟨rfl, rfl, rfl⟩
    case round =>
      obtain ⟨rfl, rfl, rfl⟩ := hrel
      go_wp2
      go_ret
      exact ⟨rfl, Kept.refl _⟩
  · have hp : 0 < l.length := List.length_pos_iff.2 h0
    obtain ⟨g, o, c, rfl, _, _, hc⟩ := h.deed hp
    obtain ⟨g', o', c', rfl, _, _, hc'⟩ := h'.deed hp
    have HC := Lib.hid hc
    have HC' := Lib.hid hc'
    have HE : ∀ (W : World) (x y z : Int), (binOp .eql 59 (.agg #[.int .i64 x, .int .i64 y, .int .i64 z]) (.agg #[.int .i64 x, .int .i64 y, .int .i64 z])).run Try.prog W = .ok (.bool true) W := by
      intro W x y z
      go_simp
    obtain ⟨n, hn⟩ : ∃ n, n = l.length := ⟨_, rfl⟩
    rw [← hn] at hl ⊢
    clear hc hc' h h' h0
    go_enter Try.func26, Try.ntmps26
    go_wp2
    go_loopw [5, 6] (fun s i wr => ∃ k : Nat, k ≤ n ∧ s = .bool true ∧ i = .int .i64 k ∧ (∃ q, wr = w.drewN q)) (fun _ i _ => n - (intOf i).toNat)
    case atStart => exact ⟨0, Nat.zero_le _, rfl, rfl, 0, rfl⟩
    case round =>
      obtain ⟨k, hk, rfl, rfl, q, rfl⟩ := hrel
      by_cases hlt : k < n
      · obtain ⟨d, hd⟩ : ∃ d, l[k]? = some d := ⟨_, List.getElem?_eq_getElem (by omega)⟩
        obtain ⟨x0, x1, x2⟩ := HC.out k d hd
        obtain ⟨y0, y1, y2⟩ := HC'.out k d hd
        go_wp2
        go_quiet (fail)
        go_wp2
        go_roundw
        case rel => exact ⟨k + 1, by omega, rfl, by go_num, q + nq, rfl⟩
        case measure => simp [intOf]; omega
      · go_wp2
        go_ret
        exact ⟨rfl, (Kept.refl _).drewN _⟩

set_option maxHeartbeats 2000000 in
theorem overDeeds_any {w : World} {base : Nat} {v : Value} {l : List Dd} (h : OwnD w base v l) (hl : l.length ≤ 2000) :
    Calls Try.prog 28 #[v] w fun e w' => e = .returned (.tuple #[]) ∧ But (fun k => v.ownBlock = some k) w w' := by
  by_cases h0 : l = []
  · subst h0
    obtain ⟨a, c, rfl⟩ := own_form h
    clear h hl
    go_enter Try.func28, Try.ntmps28
    go_wp2
    go_loopw [2] (fun i wr => i = .int .i64 0 ∧ wr = w) (fun _ _ => 0)
    case atStart => exact ⟨rfl, rfl⟩
    case round =>
      obtain ⟨rfl, rfl⟩ := hrel
      go_wp2
      go_end0
      exact ⟨rfl, But.refl _ _⟩
  · have hp : 0 < l.length := List.length_pos_iff.2 h0
    obtain ⟨g, o, c, rfl, _, _, hc⟩ := (own_lies h).deed hp
    have HF := Lib.hid (own_soft h g rfl)
    have hlt := (h.lt g rfl).2
    have HC := Lib.hid hc
    obtain ⟨n, hn⟩ : ∃ n, n = l.length := ⟨_, rfl⟩
    rw [← hn] at hl ⊢
    clear hc h h0
    go_enter Try.func28, Try.ntmps28
    go_wp2
    go_loopw [2] (fun i wr => ∃ k : Nat, k ≤ n ∧ i = .int .i64 k ∧ But (fun b => b = g) w wr ∧ ∀ j, k * 3 ≤ j → j < n * 3 → wr.cell? ⟨g, o + j, none⟩ = w.cell? ⟨g, o + j, none⟩) (fun i _ => n - (intOf i).toNat)
    case atStart => exact ⟨0, Nat.zero_le _, rfl, But.refl _ _, fun _ _ _ => rfl⟩
    case round =>
      obtain ⟨k, hk, rfl, hb, hr⟩ := hrel
      have HR := Lib.hid hr
      clear hr
      by_cases hlk : k < n
      · obtain ⟨d, hd⟩ : ∃ d, l[k]? = some d := ⟨_, List.getElem?_eq_getElem (by omega)⟩
        obtain ⟨z0, z1, z2⟩ := HC.out k d hd
        have x0 := (HR.out (k * 3) (by omega) (by omega)).trans z0
        have x1 : wr.cell? ⟨g, o + k * 3 + 1, none⟩ = some (.int .i64 d.2.1) := by rw [Nat.add_assoc]; exact (HR.out (k * 3 + 1) (by omega) (by omega)).trans (by rw [← Nat.add_assoc]; exact z1)
        have x2 : wr.cell? ⟨g, o + k * 3 + 2, none⟩ = some (.int .i64 d.2.2) := by rw [Nat.add_assoc]; exact (HR.out (k * 3 + 2) (by omega) (by omega)).trans (by rw [← Nat.add_assoc]; exact z2)
        have f0 := hb.soft hlt (HF.out (o + k * 3))
        have f1 := hb.soft hlt (HF.out (o + k * 3 + 1))
        have f2 := hb.soft hlt (HF.out (o + k * 3 + 2))
        clear z0 z1 z2
        go_wp2
        go_roundw
        case rel => exact ⟨k + 1, by omega, by go_num, ((hb.here _ _).here _ _).here _ _, fun j h1 h2 => by
          rw [cell_set, if_neg (by omega), cell_set, if_neg (by omega), cell_set, if_neg (by omega)]
          exact HR.out j (by omega) h2⟩
        case measure => simp [intOf]; omega
      · go_wp2
        go_end0
        exact ⟨rfl, hb.mono fun _ _ e => by subst e; rfl⟩
end Go.Proofs.Ytdgajkimepgljaa
