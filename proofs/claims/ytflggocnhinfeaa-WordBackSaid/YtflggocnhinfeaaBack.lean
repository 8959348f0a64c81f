/- The walk of WordBack: all its cases. -/
import Derived.Test.YtflggocnhinfeaaBackE
import Derived.Test.YtflggocnhinfeaaBackF
import Derived.Test.YtflggocnhinfeaaBackG
namespace Go.Proofs.Ytflggocnhinfeaa
open Go.RowKit

theorem wordBack_any (i : Int) (g : Int) (m : Bool) (i' : Int) (g' : Int) (m' : Bool) (l : Int) (f : Bool) (v : Int) (l' : Int) (f' : Bool) (v' : Int) (j : Int) (t : Int) (j' : Int) (t' : Int) (w0_0 : (Lit.int .i64 i).wf = true) (_w0_1 : (Lit.int .i64 g).wf = true) (w1_0 : (Lit.int .i64 i').wf = true) (_w1_1 : (Lit.int .i64 g').wf = true) (_w2_0 : (Lit.int .i64 l).wf = true) (_w2_2 : (Lit.int .i64 v).wf = true) (_w3_0 : (Lit.int .i64 l').wf = true) (_w3_2 : (Lit.int .i64 v').wf = true) (w4_0 : (Lit.int .i64 j).wf = true) (_w4_1 : (Lit.int .i64 t).wf = true) (w5_0 : (Lit.int .i64 j').wf = true) (_w5_1 : (Lit.int .i64 t').wf = true) (w : World) : Calls Try.prog 6 #[.agg #[.int .i64 i, .int .i64 g, .bool m], .agg #[.int .i64 i', .int .i64 g', .bool m'], .agg #[.int .i64 l, .bool f, .int .i64 v], .agg #[.int .i64 l', .bool f', .int .i64 v'], .agg #[.int .i64 j, .int .i64 t], .agg #[.int .i64 j', .int .i64 t']] w fun e W => e = .returned (.bool true) ∧ Kept w W := by
  obtain ⟨a, b, ha⟩ : ∃ a b, putRef i g m = (a, b) := ⟨_, _, rfl⟩
  obtain ⟨a', b', ha'⟩ : ∃ a b, putRef i' g' m' = (a, b) := ⟨_, _, rfl⟩
  obtain ⟨c, d, hc⟩ : ∃ a b, putSlot l f v = (a, b) := ⟨_, _, rfl⟩
  obtain ⟨c', d', hc'⟩ : ∃ a b, putSlot l' f' v' = (a, b) := ⟨_, _, rfl⟩
  obtain ⟨x, y, hx⟩ : ∃ a b, putTop j t = (a, b) := ⟨_, _, rfl⟩
  obtain ⟨x', y', hx'⟩ : ∃ a b, putTop j' t' = (a, b) := ⟨_, _, rfl⟩
  by_cases nb : b = 0
  · subst nb
    by_cases nb' : b' = 0
    · subst nb'
      by_cases nd : d = 0
      · subst nd
        by_cases nd' : d' = 0
        · subst nd'
          by_cases ny : y = 0
          · subst ny
            by_cases ny' : y' = 0
            · subst ny'
              exact back_GGG _ _ _ _ _ _ _ _ _ _ _ _ _ _ _ _ _ _ _ _ _ _ (put_ref_is i g m a 0 (bounds_i64 w0_0).1 (bounds_i64 w0_0).2 ha) (put_ref_is i' g' m' a' 0 (bounds_i64 w1_0).1 (bounds_i64 w1_0).2 ha') (get_ref_is i g m a ha) (putRef_apart ha ha') (put_slot_is l f v c 0 hc) (put_slot_is l' f' v' c' 0 hc') (get_slot_is l f v c hc) (putSlot_apart hc hc') (put_top_is j t x 0 (bounds_i64 w4_0).1 (bounds_i64 w4_0).2 hx) (put_top_is j' t' x' 0 (bounds_i64 w5_0).1 (bounds_i64 w5_0).2 hx') (get_top_is j t x hx) (putTop_apart hx hx') w
            · skip
              exact back_GGF _ _ _ _ _ _ _ _ _ _ _ _ _ _ _ _ _ _ _ _ _ _ _ (put_ref_is i g m a 0 (bounds_i64 w0_0).1 (bounds_i64 w0_0).2 ha) (put_ref_is i' g' m' a' 0 (bounds_i64 w1_0).1 (bounds_i64 w1_0).2 ha') (get_ref_is i g m a ha) (putRef_apart ha ha') (put_slot_is l f v c 0 hc) (put_slot_is l' f' v' c' 0 hc') (get_slot_is l f v c hc) (putSlot_apart hc hc') (put_top_is j t x 0 (bounds_i64 w4_0).1 (bounds_i64 w4_0).2 hx) (put_top_is j' t' x' y' (bounds_i64 w5_0).1 (bounds_i64 w5_0).2 hx') (get_top_is j t x hx) (by simp [ny']) w
          · skip
            exact back_GGE _ _ _ _ _ _ _ _ _ _ _ _ _ _ _ _ _ _ _ _ _ _ _ _ _ _ _ (put_ref_is i g m a 0 (bounds_i64 w0_0).1 (bounds_i64 w0_0).2 ha) (put_ref_is i' g' m' a' 0 (bounds_i64 w1_0).1 (bounds_i64 w1_0).2 ha') (get_ref_is i g m a ha) (putRef_apart ha ha') (put_slot_is l f v c 0 hc) (put_slot_is l' f' v' c' 0 hc') (get_slot_is l f v c hc) (putSlot_apart hc hc') (put_top_is j t x y (bounds_i64 w4_0).1 (bounds_i64 w4_0).2 hx) (put_top_is j' t' x' y' (bounds_i64 w5_0).1 (bounds_i64 w5_0).2 hx') (fun w => Lib.hid (get_top x w (by have := (putTop_range j t).1; rw [hx] at this; exact this) (by have := (putTop_range j t).2; rw [hx] at this; exact this))) (by simp [ny]) w
        · skip
          by_cases ny : y = 0
          · subst ny
            by_cases ny' : y' = 0
            · subst ny'
              exact back_GFG _ _ _ _ _ _ _ _ _ _ _ _ _ _ _ _ _ _ _ _ _ _ _ (put_ref_is i g m a 0 (bounds_i64 w0_0).1 (bounds_i64 w0_0).2 ha) (put_ref_is i' g' m' a' 0 (bounds_i64 w1_0).1 (bounds_i64 w1_0).2 ha') (get_ref_is i g m a ha) (putRef_apart ha ha') (put_slot_is l f v c 0 hc) (put_slot_is l' f' v' c' d' hc') (get_slot_is l f v c hc) (by simp [nd']) (put_top_is j t x 0 (bounds_i64 w4_0).1 (bounds_i64 w4_0).2 hx) (put_top_is j' t' x' 0 (bounds_i64 w5_0).1 (bounds_i64 w5_0).2 hx') (get_top_is j t x hx) (putTop_apart hx hx') w
            · skip
              exact back_GFF _ _ _ _ _ _ _ _ _ _ _ _ _ _ _ _ _ _ _ _ _ _ _ _ (put_ref_is i g m a 0 (bounds_i64 w0_0).1 (bounds_i64 w0_0).2 ha) (put_ref_is i' g' m' a' 0 (bounds_i64 w1_0).1 (bounds_i64 w1_0).2 ha') (get_ref_is i g m a ha) (putRef_apart ha ha') (put_slot_is l f v c 0 hc) (put_slot_is l' f' v' c' d' hc') (get_slot_is l f v c hc) (by simp [nd']) (put_top_is j t x 0 (bounds_i64 w4_0).1 (bounds_i64 w4_0).2 hx) (put_top_is j' t' x' y' (bounds_i64 w5_0).1 (bounds_i64 w5_0).2 hx') (get_top_is j t x hx) (by simp [ny']) w
          · skip
            exact back_GFE _ _ _ _ _ _ _ _ _ _ _ _ _ _ _ _ _ _ _ _ _ _ _ _ _ _ _ _ (put_ref_is i g m a 0 (bounds_i64 w0_0).1 (bounds_i64 w0_0).2 ha) (put_ref_is i' g' m' a' 0 (bounds_i64 w1_0).1 (bounds_i64 w1_0).2 ha') (get_ref_is i g m a ha) (putRef_apart ha ha') (put_slot_is l f v c 0 hc) (put_slot_is l' f' v' c' d' hc') (get_slot_is l f v c hc) (by simp [nd']) (put_top_is j t x y (bounds_i64 w4_0).1 (bounds_i64 w4_0).2 hx) (put_top_is j' t' x' y' (bounds_i64 w5_0).1 (bounds_i64 w5_0).2 hx') (fun w => Lib.hid (get_top x w (by have := (putTop_range j t).1; rw [hx] at this; exact this) (by have := (putTop_range j t).2; rw [hx] at this; exact this))) (by simp [ny]) w
      · skip
        by_cases ny : y = 0
        · subst ny
          by_cases ny' : y' = 0
          · subst ny'
            exact back_GEG _ _ _ _ _ _ _ _ _ _ _ _ _ _ _ _ _ _ _ _ _ _ _ _ _ _ _ _ (put_ref_is i g m a 0 (bounds_i64 w0_0).1 (bounds_i64 w0_0).2 ha) (put_ref_is i' g' m' a' 0 (bounds_i64 w1_0).1 (bounds_i64 w1_0).2 ha') (get_ref_is i g m a ha) (putRef_apart ha ha') (put_slot_is l f v c d hc) (put_slot_is l' f' v' c' d' hc') (fun w => Lib.hid (get_slot c w (by have := (putSlot_range l f v).1; rw [hc] at this; exact this) (by have := (putSlot_range l f v).2; rw [hc] at this; exact this))) (by simp [nd]) (put_top_is j t x 0 (bounds_i64 w4_0).1 (bounds_i64 w4_0).2 hx) (put_top_is j' t' x' 0 (bounds_i64 w5_0).1 (bounds_i64 w5_0).2 hx') (get_top_is j t x hx) (putTop_apart hx hx') w
          · skip
            exact back_GEF _ _ _ _ _ _ _ _ _ _ _ _ _ _ _ _ _ _ _ _ _ _ _ _ _ _ _ _ _ (put_ref_is i g m a 0 (bounds_i64 w0_0).1 (bounds_i64 w0_0).2 ha) (put_ref_is i' g' m' a' 0 (bounds_i64 w1_0).1 (bounds_i64 w1_0).2 ha') (get_ref_is i g m a ha) (putRef_apart ha ha') (put_slot_is l f v c d hc) (put_slot_is l' f' v' c' d' hc') (fun w => Lib.hid (get_slot c w (by have := (putSlot_range l f v).1; rw [hc] at this; exact this) (by have := (putSlot_range l f v).2; rw [hc] at this; exact this))) (by simp [nd]) (put_top_is j t x 0 (bounds_i64 w4_0).1 (bounds_i64 w4_0).2 hx) (put_top_is j' t' x' y' (bounds_i64 w5_0).1 (bounds_i64 w5_0).2 hx') (get_top_is j t x hx) (by simp [ny']) w
        · skip
          exact back_GEE _ _ _ _ _ _ _ _ _ _ _ _ _ _ _ _ _ _ _ _ _ _ _ _ _ _ _ _ _ _ _ _ _ (put_ref_is i g m a 0 (bounds_i64 w0_0).1 (bounds_i64 w0_0).2 ha) (put_ref_is i' g' m' a' 0 (bounds_i64 w1_0).1 (bounds_i64 w1_0).2 ha') (get_ref_is i g m a ha) (putRef_apart ha ha') (put_slot_is l f v c d hc) (put_slot_is l' f' v' c' d' hc') (fun w => Lib.hid (get_slot c w (by have := (putSlot_range l f v).1; rw [hc] at this; exact this) (by have := (putSlot_range l f v).2; rw [hc] at this; exact this))) (by simp [nd]) (put_top_is j t x y (bounds_i64 w4_0).1 (bounds_i64 w4_0).2 hx) (put_top_is j' t' x' y' (bounds_i64 w5_0).1 (bounds_i64 w5_0).2 hx') (fun w => Lib.hid (get_top x w (by have := (putTop_range j t).1; rw [hx] at this; exact this) (by have := (putTop_range j t).2; rw [hx] at this; exact this))) (by simp [ny]) w
    · skip
      by_cases nd : d = 0
      · subst nd
        by_cases nd' : d' = 0
        · subst nd'
          by_cases ny : y = 0
          · subst ny
            by_cases ny' : y' = 0
            · subst ny'
              exact back_FGG _ _ _ _ _ _ _ _ _ _ _ _ _ _ _ _ _ _ _ _ _ _ _ (put_ref_is i g m a 0 (bounds_i64 w0_0).1 (bounds_i64 w0_0).2 ha) (put_ref_is i' g' m' a' b' (bounds_i64 w1_0).1 (bounds_i64 w1_0).2 ha') (get_ref_is i g m a ha) (by simp [nb']) (put_slot_is l f v c 0 hc) (put_slot_is l' f' v' c' 0 hc') (get_slot_is l f v c hc) (putSlot_apart hc hc') (put_top_is j t x 0 (bounds_i64 w4_0).1 (bounds_i64 w4_0).2 hx) (put_top_is j' t' x' 0 (bounds_i64 w5_0).1 (bounds_i64 w5_0).2 hx') (get_top_is j t x hx) (putTop_apart hx hx') w
            · skip
              exact back_FGF _ _ _ _ _ _ _ _ _ _ _ _ _ _ _ _ _ _ _ _ _ _ _ _ (put_ref_is i g m a 0 (bounds_i64 w0_0).1 (bounds_i64 w0_0).2 ha) (put_ref_is i' g' m' a' b' (bounds_i64 w1_0).1 (bounds_i64 w1_0).2 ha') (get_ref_is i g m a ha) (by simp [nb']) (put_slot_is l f v c 0 hc) (put_slot_is l' f' v' c' 0 hc') (get_slot_is l f v c hc) (putSlot_apart hc hc') (put_top_is j t x 0 (bounds_i64 w4_0).1 (bounds_i64 w4_0).2 hx) (put_top_is j' t' x' y' (bounds_i64 w5_0).1 (bounds_i64 w5_0).2 hx') (get_top_is j t x hx) (by simp [ny']) w
          · skip
            exact back_FGE _ _ _ _ _ _ _ _ _ _ _ _ _ _ _ _ _ _ _ _ _ _ _ _ _ _ _ _ (put_ref_is i g m a 0 (bounds_i64 w0_0).1 (bounds_i64 w0_0).2 ha) (put_ref_is i' g' m' a' b' (bounds_i64 w1_0).1 (bounds_i64 w1_0).2 ha') (get_ref_is i g m a ha) (by simp [nb']) (put_slot_is l f v c 0 hc) (put_slot_is l' f' v' c' 0 hc') (get_slot_is l f v c hc) (putSlot_apart hc hc') (put_top_is j t x y (bounds_i64 w4_0).1 (bounds_i64 w4_0).2 hx) (put_top_is j' t' x' y' (bounds_i64 w5_0).1 (bounds_i64 w5_0).2 hx') (fun w => Lib.hid (get_top x w (by have := (putTop_range j t).1; rw [hx] at this; exact this) (by have := (putTop_range j t).2; rw [hx] at this; exact this))) (by simp [ny]) w
        · skip
          by_cases ny : y = 0
          · subst ny
            by_cases ny' : y' = 0
            · subst ny'
              exact back_FFG _ _ _ _ _ _ _ _ _ _ _ _ _ _ _ _ _ _ _ _ _ _ _ _ (put_ref_is i g m a 0 (bounds_i64 w0_0).1 (bounds_i64 w0_0).2 ha) (put_ref_is i' g' m' a' b' (bounds_i64 w1_0).1 (bounds_i64 w1_0).2 ha') (get_ref_is i g m a ha) (by simp [nb']) (put_slot_is l f v c 0 hc) (put_slot_is l' f' v' c' d' hc') (get_slot_is l f v c hc) (by simp [nd']) (put_top_is j t x 0 (bounds_i64 w4_0).1 (bounds_i64 w4_0).2 hx) (put_top_is j' t' x' 0 (bounds_i64 w5_0).1 (bounds_i64 w5_0).2 hx') (get_top_is j t x hx) (putTop_apart hx hx') w
            · skip
              exact back_FFF _ _ _ _ _ _ _ _ _ _ _ _ _ _ _ _ _ _ _ _ _ _ _ _ _ (put_ref_is i g m a 0 (bounds_i64 w0_0).1 (bounds_i64 w0_0).2 ha) (put_ref_is i' g' m' a' b' (bounds_i64 w1_0).1 (bounds_i64 w1_0).2 ha') (get_ref_is i g m a ha) (by simp [nb']) (put_slot_is l f v c 0 hc) (put_slot_is l' f' v' c' d' hc') (get_slot_is l f v c hc) (by simp [nd']) (put_top_is j t x 0 (bounds_i64 w4_0).1 (bounds_i64 w4_0).2 hx) (put_top_is j' t' x' y' (bounds_i64 w5_0).1 (bounds_i64 w5_0).2 hx') (get_top_is j t x hx) (by simp [ny']) w
          · skip
            exact back_FFE _ _ _ _ _ _ _ _ _ _ _ _ _ _ _ _ _ _ _ _ _ _ _ _ _ _ _ _ _ (put_ref_is i g m a 0 (bounds_i64 w0_0).1 (bounds_i64 w0_0).2 ha) (put_ref_is i' g' m' a' b' (bounds_i64 w1_0).1 (bounds_i64 w1_0).2 ha') (get_ref_is i g m a ha) (by simp [nb']) (put_slot_is l f v c 0 hc) (put_slot_is l' f' v' c' d' hc') (get_slot_is l f v c hc) (by simp [nd']) (put_top_is j t x y (bounds_i64 w4_0).1 (bounds_i64 w4_0).2 hx) (put_top_is j' t' x' y' (bounds_i64 w5_0).1 (bounds_i64 w5_0).2 hx') (fun w => Lib.hid (get_top x w (by have := (putTop_range j t).1; rw [hx] at this; exact this) (by have := (putTop_range j t).2; rw [hx] at this; exact this))) (by simp [ny]) w
      · skip
        by_cases ny : y = 0
        · subst ny
          by_cases ny' : y' = 0
          · subst ny'
            exact back_FEG _ _ _ _ _ _ _ _ _ _ _ _ _ _ _ _ _ _ _ _ _ _ _ _ _ _ _ _ _ (put_ref_is i g m a 0 (bounds_i64 w0_0).1 (bounds_i64 w0_0).2 ha) (put_ref_is i' g' m' a' b' (bounds_i64 w1_0).1 (bounds_i64 w1_0).2 ha') (get_ref_is i g m a ha) (by simp [nb']) (put_slot_is l f v c d hc) (put_slot_is l' f' v' c' d' hc') (fun w => Lib.hid (get_slot c w (by have := (putSlot_range l f v).1; rw [hc] at this; exact this) (by have := (putSlot_range l f v).2; rw [hc] at this; exact this))) (by simp [nd]) (put_top_is j t x 0 (bounds_i64 w4_0).1 (bounds_i64 w4_0).2 hx) (put_top_is j' t' x' 0 (bounds_i64 w5_0).1 (bounds_i64 w5_0).2 hx') (get_top_is j t x hx) (putTop_apart hx hx') w
          · skip
            exact back_FEF _ _ _ _ _ _ _ _ _ _ _ _ _ _ _ _ _ _ _ _ _ _ _ _ _ _ _ _ _ _ (put_ref_is i g m a 0 (bounds_i64 w0_0).1 (bounds_i64 w0_0).2 ha) (put_ref_is i' g' m' a' b' (bounds_i64 w1_0).1 (bounds_i64 w1_0).2 ha') (get_ref_is i g m a ha) (by simp [nb']) (put_slot_is l f v c d hc) (put_slot_is l' f' v' c' d' hc') (fun w => Lib.hid (get_slot c w (by have := (putSlot_range l f v).1; rw [hc] at this; exact this) (by have := (putSlot_range l f v).2; rw [hc] at this; exact this))) (by simp [nd]) (put_top_is j t x 0 (bounds_i64 w4_0).1 (bounds_i64 w4_0).2 hx) (put_top_is j' t' x' y' (bounds_i64 w5_0).1 (bounds_i64 w5_0).2 hx') (get_top_is j t x hx) (by simp [ny']) w
        · skip
          exact back_FEE _ _ _ _ _ _ _ _ _ _ _ _ _ _ _ _ _ _ _ _ _ _ _ _ _ _ _ _ _ _ _ _ _ _ (put_ref_is i g m a 0 (bounds_i64 w0_0).1 (bounds_i64 w0_0).2 ha) (put_ref_is i' g' m' a' b' (bounds_i64 w1_0).1 (bounds_i64 w1_0).2 ha') (get_ref_is i g m a ha) (by simp [nb']) (put_slot_is l f v c d hc) (put_slot_is l' f' v' c' d' hc') (fun w => Lib.hid (get_slot c w (by have := (putSlot_range l f v).1; rw [hc] at this; exact this) (by have := (putSlot_range l f v).2; rw [hc] at this; exact this))) (by simp [nd]) (put_top_is j t x y (bounds_i64 w4_0).1 (bounds_i64 w4_0).2 hx) (put_top_is j' t' x' y' (bounds_i64 w5_0).1 (bounds_i64 w5_0).2 hx') (fun w => Lib.hid (get_top x w (by have := (putTop_range j t).1; rw [hx] at this; exact this) (by have := (putTop_range j t).2; rw [hx] at this; exact this))) (by simp [ny]) w
  · skip
    by_cases nd : d = 0
    · subst nd
      by_cases nd' : d' = 0
      · subst nd'
        by_cases ny : y = 0
        · subst ny
          by_cases ny' : y' = 0
          · subst ny'
            exact back_EGG _ _ _ _ _ _ _ _ _ _ _ _ _ _ _ _ _ _ _ _ _ _ _ _ _ _ _ _ (put_ref_is i g m a b (bounds_i64 w0_0).1 (bounds_i64 w0_0).2 ha) (put_ref_is i' g' m' a' b' (bounds_i64 w1_0).1 (bounds_i64 w1_0).2 ha') (fun w => Lib.hid (get_ref a w (by have := (putRef_range i g m).1; rw [ha] at this; exact this) (by have := (putRef_range i g m).2; rw [ha] at this; exact this))) (by simp [nb]) (put_slot_is l f v c 0 hc) (put_slot_is l' f' v' c' 0 hc') (get_slot_is l f v c hc) (putSlot_apart hc hc') (put_top_is j t x 0 (bounds_i64 w4_0).1 (bounds_i64 w4_0).2 hx) (put_top_is j' t' x' 0 (bounds_i64 w5_0).1 (bounds_i64 w5_0).2 hx') (get_top_is j t x hx) (putTop_apart hx hx') w
          · skip
            exact back_EGF _ _ _ _ _ _ _ _ _ _ _ _ _ _ _ _ _ _ _ _ _ _ _ _ _ _ _ _ _ (put_ref_is i g m a b (bounds_i64 w0_0).1 (bounds_i64 w0_0).2 ha) (put_ref_is i' g' m' a' b' (bounds_i64 w1_0).1 (bounds_i64 w1_0).2 ha') (fun w => Lib.hid (get_ref a w (by have := (putRef_range i g m).1; rw [ha] at this; exact this) (by have := (putRef_range i g m).2; rw [ha] at this; exact this))) (by simp [nb]) (put_slot_is l f v c 0 hc) (put_slot_is l' f' v' c' 0 hc') (get_slot_is l f v c hc) (putSlot_apart hc hc') (put_top_is j t x 0 (bounds_i64 w4_0).1 (bounds_i64 w4_0).2 hx) (put_top_is j' t' x' y' (bounds_i64 w5_0).1 (bounds_i64 w5_0).2 hx') (get_top_is j t x hx) (by simp [ny']) w
        · skip
          exact back_EGE _ _ _ _ _ _ _ _ _ _ _ _ _ _ _ _ _ _ _ _ _ _ _ _ _ _ _ _ _ _ _ _ _ (put_ref_is i g m a b (bounds_i64 w0_0).1 (bounds_i64 w0_0).2 ha) (put_ref_is i' g' m' a' b' (bounds_i64 w1_0).1 (bounds_i64 w1_0).2 ha') (fun w => Lib.hid (get_ref a w (by have := (putRef_range i g m).1; rw [ha] at this; exact this) (by have := (putRef_range i g m).2; rw [ha] at this; exact this))) (by simp [nb]) (put_slot_is l f v c 0 hc) (put_slot_is l' f' v' c' 0 hc') (get_slot_is l f v c hc) (putSlot_apart hc hc') (put_top_is j t x y (bounds_i64 w4_0).1 (bounds_i64 w4_0).2 hx) (put_top_is j' t' x' y' (bounds_i64 w5_0).1 (bounds_i64 w5_0).2 hx') (fun w => Lib.hid (get_top x w (by have := (putTop_range j t).1; rw [hx] at this; exact this) (by have := (putTop_range j t).2; rw [hx] at this; exact this))) (by simp [ny]) w
      · skip
        by_cases ny : y = 0
        · subst ny
          by_cases ny' : y' = 0
          · subst ny'
            exact back_EFG _ _ _ _ _ _ _ _ _ _ _ _ _ _ _ _ _ _ _ _ _ _ _ _ _ _ _ _ _ (put_ref_is i g m a b (bounds_i64 w0_0).1 (bounds_i64 w0_0).2 ha) (put_ref_is i' g' m' a' b' (bounds_i64 w1_0).1 (bounds_i64 w1_0).2 ha') (fun w => Lib.hid (get_ref a w (by have := (putRef_range i g m).1; rw [ha] at this; exact this) (by have := (putRef_range i g m).2; rw [ha] at this; exact this))) (by simp [nb]) (put_slot_is l f v c 0 hc) (put_slot_is l' f' v' c' d' hc') (get_slot_is l f v c hc) (by simp [nd']) (put_top_is j t x 0 (bounds_i64 w4_0).1 (bounds_i64 w4_0).2 hx) (put_top_is j' t' x' 0 (bounds_i64 w5_0).1 (bounds_i64 w5_0).2 hx') (get_top_is j t x hx) (putTop_apart hx hx') w
          · skip
            exact back_EFF _ _ _ _ _ _ _ _ _ _ _ _ _ _ _ _ _ _ _ _ _ _ _ _ _ _ _ _ _ _ (put_ref_is i g m a b (bounds_i64 w0_0).1 (bounds_i64 w0_0).2 ha) (put_ref_is i' g' m' a' b' (bounds_i64 w1_0).1 (bounds_i64 w1_0).2 ha') (fun w => Lib.hid (get_ref a w (by have := (putRef_range i g m).1; rw [ha] at this; exact this) (by have := (putRef_range i g m).2; rw [ha] at this; exact this))) (by simp [nb]) (put_slot_is l f v c 0 hc) (put_slot_is l' f' v' c' d' hc') (get_slot_is l f v c hc) (by simp [nd']) (put_top_is j t x 0 (bounds_i64 w4_0).1 (bounds_i64 w4_0).2 hx) (put_top_is j' t' x' y' (bounds_i64 w5_0).1 (bounds_i64 w5_0).2 hx') (get_top_is j t x hx) (by simp [ny']) w
        · skip
          exact back_EFE _ _ _ _ _ _ _ _ _ _ _ _ _ _ _ _ _ _ _ _ _ _ _ _ _ _ _ _ _ _ _ _ _ _ (put_ref_is i g m a b (bounds_i64 w0_0).1 (bounds_i64 w0_0).2 ha) (put_ref_is i' g' m' a' b' (bounds_i64 w1_0).1 (bounds_i64 w1_0).2 ha') (fun w => Lib.hid (get_ref a w (by have := (putRef_range i g m).1; rw [ha] at this; exact this) (by have := (putRef_range i g m).2; rw [ha] at this; exact this))) (by simp [nb]) (put_slot_is l f v c 0 hc) (put_slot_is l' f' v' c' d' hc') (get_slot_is l f v c hc) (by simp [nd']) (put_top_is j t x y (bounds_i64 w4_0).1 (bounds_i64 w4_0).2 hx) (put_top_is j' t' x' y' (bounds_i64 w5_0).1 (bounds_i64 w5_0).2 hx') (fun w => Lib.hid (get_top x w (by have := (putTop_range j t).1; rw [hx] at this; exact this) (by have := (putTop_range j t).2; rw [hx] at this; exact this))) (by simp [ny]) w
    · skip
      by_cases ny : y = 0
      · subst ny
        by_cases ny' : y' = 0
        · subst ny'
          exact back_EEG _ _ _ _ _ _ _ _ _ _ _ _ _ _ _ _ _ _ _ _ _ _ _ _ _ _ _ _ _ _ _ _ _ _ (put_ref_is i g m a b (bounds_i64 w0_0).1 (bounds_i64 w0_0).2 ha) (put_ref_is i' g' m' a' b' (bounds_i64 w1_0).1 (bounds_i64 w1_0).2 ha') (fun w => Lib.hid (get_ref a w (by have := (putRef_range i g m).1; rw [ha] at this; exact this) (by have := (putRef_range i g m).2; rw [ha] at this; exact this))) (by simp [nb]) (put_slot_is l f v c d hc) (put_slot_is l' f' v' c' d' hc') (fun w => Lib.hid (get_slot c w (by have := (putSlot_range l f v).1; rw [hc] at this; exact this) (by have := (putSlot_range l f v).2; rw [hc] at this; exact this))) (by simp [nd]) (put_top_is j t x 0 (bounds_i64 w4_0).1 (bounds_i64 w4_0).2 hx) (put_top_is j' t' x' 0 (bounds_i64 w5_0).1 (bounds_i64 w5_0).2 hx') (get_top_is j t x hx) (putTop_apart hx hx') w
        · skip
          exact back_EEF _ _ _ _ _ _ _ _ _ _ _ _ _ _ _ _ _ _ _ _ _ _ _ _ _ _ _ _ _ _ _ _ _ _ _ (put_ref_is i g m a b (bounds_i64 w0_0).1 (bounds_i64 w0_0).2 ha) (put_ref_is i' g' m' a' b' (bounds_i64 w1_0).1 (bounds_i64 w1_0).2 ha') (fun w => Lib.hid (get_ref a w (by have := (putRef_range i g m).1; rw [ha] at this; exact this) (by have := (putRef_range i g m).2; rw [ha] at this; exact this))) (by simp [nb]) (put_slot_is l f v c d hc) (put_slot_is l' f' v' c' d' hc') (fun w => Lib.hid (get_slot c w (by have := (putSlot_range l f v).1; rw [hc] at this; exact this) (by have := (putSlot_range l f v).2; rw [hc] at this; exact this))) (by simp [nd]) (put_top_is j t x 0 (bounds_i64 w4_0).1 (bounds_i64 w4_0).2 hx) (put_top_is j' t' x' y' (bounds_i64 w5_0).1 (bounds_i64 w5_0).2 hx') (get_top_is j t x hx) (by simp [ny']) w
      · skip
        exact back_EEE _ _ _ _ _ _ _ _ _ _ _ _ _ _ _ _ _ _ _ _ _ _ _ _ _ _ _ _ _ _ _ _ _ _ _ _ _ _ _ (put_ref_is i g m a b (bounds_i64 w0_0).1 (bounds_i64 w0_0).2 ha) (put_ref_is i' g' m' a' b' (bounds_i64 w1_0).1 (bounds_i64 w1_0).2 ha') (fun w => Lib.hid (get_ref a w (by have := (putRef_range i g m).1; rw [ha] at this; exact this) (by have := (putRef_range i g m).2; rw [ha] at this; exact this))) (by simp [nb]) (put_slot_is l f v c d hc) (put_slot_is l' f' v' c' d' hc') (fun w => Lib.hid (get_slot c w (by have := (putSlot_range l f v).1; rw [hc] at this; exact this) (by have := (putSlot_range l f v).2; rw [hc] at this; exact this))) (by simp [nd]) (put_top_is j t x y (bounds_i64 w4_0).1 (bounds_i64 w4_0).2 hx) (put_top_is j' t' x' y' (bounds_i64 w5_0).1 (bounds_i64 w5_0).2 hx') (fun w => Lib.hid (get_top x w (by have := (putTop_range j t).1; rw [hx] at this; exact this) (by have := (putTop_range j t).2; rw [hx] at this; exact this))) (by simp [ny]) w
end Go.Proofs.Ytflggocnhinfeaa
