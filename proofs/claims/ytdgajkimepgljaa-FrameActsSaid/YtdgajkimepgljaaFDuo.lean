/- The program's frame and the document's, side by side: a contract of each call. -/
import Derived.Test.YtdgajkimepgljaaFRefEnd
import Derived.Test.YtdgajkimepgljaaFKnown
namespace Go.Proofs.Ytdgajkimepgljaa
open Go.RowKit

theorem refEnd_any {w : World} {R : Nat} {lv dv : Value} {base n m : Nat} {s : St} (h : RF w R lv dv base n m s) (hbase : base ≤ w.heap.size) (hm : m ≤ 1000) (c : Int) :
    Calls Try.prog 15 #[.pointer (some ⟨R, 0, none⟩), .int .i64 c] w fun e w' => e = .returned (.int .i64 (sErr s n c)) ∧ RWent w w' R lv dv base n (m + 1) (eSt s c) := by
  cases ho : s.on c with
  | true =>
    obtain ⟨h0, h1⟩ := h.fine.inn c ho
    obtain ⟨i, rfl⟩ := Int.eq_ofNat_of_zero_le h0
    rw [sErr_on h.fine ho]
    have e2 : eSt s i = s.fin i := by simp [eSt, ho]
    rw [e2]
    exact refEnd_on h hbase hm i (by omega) ho
  | false =>
    have e2 : eSt s c = s := by simp [eSt, ho]
    rw [e2]
    have H := Lib.hid h
    have HE := Lib.hid (sErr_not (n := n) ho)
    clear h e2
    rcases HE.out with he | he
    · go_enter Try.func15, Try.ntmps15
      go_wp2_with fail; refine (refAt_not H.out c ho).mono ?_; rintro e w1 ⟨rfl, rfl⟩
      rw [he]
      go_wp2
      go_ret
      exact ⟨by rw [he]; rfl, RWent.still H.out (Kept.refl _)⟩
    · go_enter Try.func15, Try.ntmps15
      go_wp2_with fail; refine (refAt_not H.out c ho).mono ?_; rintro e w1 ⟨rfl, rfl⟩
      rw [he]
      go_wp2
      go_ret
      exact ⟨by rw [he]; rfl, RWent.still H.out (Kept.refl _)⟩

def Duo (u w : World) (F R n m : Nat) (s t : St) (S : Nat → Prop) (lv dv : Value) : Prop := One u w F n m s S ∧ RF w R lv dv u.heap.size n m t ∧ ∀ k, S k → ¬ MineR R lv dv k
/-- What a call leaves: the blocks are the old ones, or new. -/
def Duo2 (u w : World) (F R n m : Nat) (s t : St) : Prop := ∃ S lv dv, Duo u w F R n m s t S lv dv

theorem Duo2.kept {u w w' : World} {F R n m : Nat} {s t : St} (h : Duo2 u w F R n m s t) (k : Kept w w') : Duo2 u w' F R n m s t := by
  obtain ⟨S, lv, dv, h1, h2, h3⟩ := h
  exact ⟨S, lv, dv, h1.kept k, h2.kept k, h3⟩
theorem Duo2.frame {u w : World} {F R n m : Nat} {s t : St} (h : Duo2 u w F R n m s t) : Kept u w := by
  obtain ⟨S, lv, dv, h1, h2, h3⟩ := h
  exact h1.frame
theorem Duo2.fine {u w : World} {F R n m : Nat} {s t : St} (h : Duo2 u w F R n m s t) : Fine n m s := by
  obtain ⟨S, lv, dv, h1, h2, h3⟩ := h
  exact h1.fine
/-- A block that is none of theirs, laid since some world in which they stood, is written. -/
theorem Duo2.fresh {u w0 w w' : World} {F R n m : Nat} {s t : St} {X : Nat → Prop} (h : Duo2 u w0 F R n m s t) (k : Kept w0 w) (b : But X w w') (hX : ∀ j, X j → w0.heap.size ≤ j) : Duo2 u w' F R n m s t := by
  obtain ⟨S, lv, dv, h1, h2, h3⟩ := h
  exact ⟨S, lv, dv, (h1.kept k).but b (fun j hj hx => by have := h1.lt j hj; have := hX j hx; omega) (fun j hx => Nat.le_trans h1.frame.size (hX j hx)),
    (h2.kept k).but b (fun j hj hx => by have := h2.lt j hj; have := hX j hx; omega), h3⟩

theorem Duo.prog {u w w' : World} {F R n m : Nat} {s t s' : St} {S : Nat → Prop} {lv dv : Value} (h : Duo u w F R n m s t S lv dv) (hw : Went u w w' F n (m + 1) s' S) : Duo2 u w' F R n (m + 1) s' t := by
  obtain ⟨S', h1, b, hS⟩ := hw
  refine ⟨S', lv, dv, h1, (h.2.1.but b (fun k hk hs => h.2.2 k hs hk)).mono (Nat.le_succ _), fun k hk hr => ?_⟩
  rcases hS k hk with h2 | h2
  · exact h.2.2 k h2 hr
  · have := h.2.1.lt k hr; omega
theorem Duo.ref {u w w' : World} {F R n m : Nat} {s t t' : St} {S : Nat → Prop} {lv dv : Value} (h : Duo u w F R n m s t S lv dv) (hw : RWent w w' R lv dv u.heap.size n (m + 1) t') : Duo2 u w' F R n (m + 1) s t' := by
  obtain ⟨b, lv', dv', h2, hS⟩ := hw
  refine ⟨S, lv', dv', (h.1.but b (fun k hk hr => h.2.2 k hk hr) (h.2.1.ge)).mono (Nat.le_succ _), h2, fun k hk hr => ?_⟩
  rcases hS k hr with h3 | h3
  · exact h.2.2 k hk h3
  · have := h.1.lt k hk; omega

theorem Duo2.begin {u w : World} {F R n m : Nat} {s t : St} (h : Duo2 u w F R n m s t) (c x : Int) :
    Calls Try.prog 10 #[.pointer (some ⟨F, 0, none⟩), .int .i64 c, .int .i64 x] w fun e w' => e = .returned (.int .i64 (bErr s n c)) ∧ Duo2 u w' F R n (m + 1) (bSt s n c x) t := by
  obtain ⟨S, lv, dv, h⟩ := h
  exact (h.1.begin c x).mono fun _ _ ⟨he, hw⟩ => ⟨he, h.prog hw⟩
theorem Duo2.step {u w : World} {F R n m : Nat} {s t : St} (h : Duo2 u w F R n m s t) (hm : m ≤ 1000) (c : Int) :
    Calls Try.prog 12 #[.pointer (some ⟨F, 0, none⟩), .int .i64 c] w fun e w' => e = .returned (.int .i64 (sErr s n c)) ∧ Duo2 u w' F R n (m + 1) (sSt s c) t := by
  obtain ⟨S, lv, dv, h⟩ := h
  exact (h.1.step hm c).mono fun _ _ ⟨he, hw⟩ => ⟨he, h.prog hw⟩
theorem Duo2.fin {u w : World} {F R n m : Nat} {s t : St} (h : Duo2 u w F R n m s t) (hm : m ≤ 1000) (c : Int) :
    Calls Try.prog 14 #[.pointer (some ⟨F, 0, none⟩), .int .i64 c] w fun e w' => e = .returned (.int .i64 (sErr s n c)) ∧ Duo2 u w' F R n (m + 1) (eSt s c) t := by
  obtain ⟨S, lv, dv, h⟩ := h
  exact (h.1.fin hm c).mono fun _ _ ⟨he, hw⟩ => ⟨he, h.prog hw⟩
theorem Duo2.refBegin {u w : World} {F R n m : Nat} {s t : St} (h : Duo2 u w F R n m s t) (c x : Int) :
    Calls Try.prog 11 #[.pointer (some ⟨R, 0, none⟩), .int .i64 c, .int .i64 x] w fun e w' => e = .returned (.int .i64 (bErr t n c)) ∧ Duo2 u w' F R n (m + 1) s (bSt t n c x) := by
  obtain ⟨S, lv, dv, h⟩ := h
  exact (refBegin_any h.2.1 h.1.frame.size c x).mono fun _ _ ⟨he, hw⟩ => ⟨he, h.ref hw⟩
theorem Duo2.refStep {u w : World} {F R n m : Nat} {s t : St} (h : Duo2 u w F R n m s t) (hm : m ≤ 1000) (c : Int) :
    Calls Try.prog 13 #[.pointer (some ⟨R, 0, none⟩), .int .i64 c] w fun e w' => e = .returned (.int .i64 (sErr t n c)) ∧ Duo2 u w' F R n (m + 1) s (sSt t c) := by
  obtain ⟨S, lv, dv, h⟩ := h
  exact (refStep_any h.2.1 hm c).mono fun _ _ ⟨he, hw⟩ => ⟨he, h.ref hw⟩
theorem Duo2.refFin {u w : World} {F R n m : Nat} {s t : St} (h : Duo2 u w F R n m s t) (hm : m ≤ 1000) (c : Int) :
    Calls Try.prog 15 #[.pointer (some ⟨R, 0, none⟩), .int .i64 c] w fun e w' => e = .returned (.int .i64 (sErr t n c)) ∧ Duo2 u w' F R n (m + 1) s (eSt t c) := by
  obtain ⟨S, lv, dv, h⟩ := h
  exact (refEnd_any h.2.1 h.1.frame.size hm c).mono fun _ _ ⟨he, hw⟩ => ⟨he, h.ref hw⟩
theorem Duo2.one {u w : World} {F R n m : Nat} {s t : St} (h : Duo2 u w F R n m s t) : ∃ S, One u w F n m s S := by
  obtain ⟨S, lv, dv, h⟩ := h
  exact ⟨S, h.1⟩
theorem Duo2.rf {u w : World} {F R n m : Nat} {s t : St} (h : Duo2 u w F R n m s t) : ∃ lv dv, RF w R lv dv u.heap.size n m t := by
  obtain ⟨S, lv, dv, h⟩ := h
  exact ⟨lv, dv, h.2.1⟩
theorem duo_new {u w w1 : World} {F R n : Nat} {S : Nat → Prop} (h : One u w F n 0 St.zero S) (h2 : RF w1 R (.slice none 0 0) (.slice none 0 0) w.heap.size n 0 St.zero) (k : Kept w w1) : Duo2 u w1 F R n 0 St.zero St.zero :=
  ⟨S, _, _, h.kept k, ⟨h2.fine, h2.num, h2.lst, h2.dee, h2.all, h2.soft, own_mono h2.ownL h.frame.size, own_mono h2.ownD h.frame.size, Nat.le_trans h.frame.size h2.bR, h2.lr, h2.dr, h2.ld⟩, fun j hj hr => by
    have h3 := h.lt j hj
    rcases hr with e | e | e
    · have := h2.bR; omega
    · simp [Value.ownBlock] at e
    · simp [Value.ownBlock] at e⟩
end Go.Proofs.Ytdgajkimepgljaa
