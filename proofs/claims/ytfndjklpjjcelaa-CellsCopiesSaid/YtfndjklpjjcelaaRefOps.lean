/- The document's memory, operation by operation, over what a memory is in numbers. -/
import Derived.Test.YtfndjklpjjcelaaRefMem
namespace Go.Proofs.Ytfndjklpjjcelaa
open Go.RowKit

/-- What a memory is: its words, its last access, how many there were. -/
structure St where
  ws : Nat → Int
  kind : Int
  at_ : Int
  old : Int
  new : Int
  held : Bool
  cnt : Int

/-- An access of a kind: does it write, and what? -/
def acc (n : Nat) (s : St) (kind at_ : Int) (wr : Bool) (v : Int) : St :=
  if 0 ≤ at_ ∧ at_ < n then
    (if wr then { ws := fun i => if i = at_.toNat then v else s.ws i, kind := kind, at_ := at_, old := s.ws at_.toNat, new := v, held := true, cnt := s.cnt + 1 }
     else { ws := s.ws, kind := kind, at_ := at_, old := s.ws at_.toNat, new := s.ws at_.toNat, held := false, cnt := s.cnt + 1 })
  else { ws := s.ws, kind := kind, at_ := at_, old := 0, new := 0, held := false, cnt := s.cnt + 1 }
def wordAt (n : Nat) (s : St) (at_ : Int) : Int := if 0 ≤ at_ ∧ at_ < n then s.ws at_.toNat else 0

def RefIs (w : World) (M B n : Nat) (s : St) : Prop := RefMem w M B n s.ws s.kind s.at_ s.old s.new s.held s.cnt

theorem refAccess_any (M B n : Nat) (s : St) (kind at_ v : Int) (wr : Bool) (w : World) (hm : RefIs w M B n s) (hc0 : 0 ≤ s.cnt) (hc1 : s.cnt ≤ 1000000) (hn : n ≤ 1000000) :
    Calls Try.prog 34 #[.pointer (some ⟨M, 0, none⟩), .int .i64 kind, .int .i64 at_, .bool wr, .int .u64 v] w
      fun e w' => e = .returned (.tuple #[]) ∧ RefIs w' M B n (acc n s kind at_ wr v) ∧ But (fun k => k = M ∨ k = B) w w' := by
  by_cases h : 0 ≤ at_ ∧ at_ < n
  · obtain ⟨a, rfl⟩ := Int.eq_ofNat_of_zero_le h.1
    cases wr with
    | true =>
      refine (refAccess_write M B n s.ws _ _ _ _ _ s.cnt kind v a w hm hc0 hc1 (by omega)).mono fun e w' ⟨he, h1, h2⟩ => ⟨he, ?_, h2⟩
      unfold RefIs acc
      rw [if_pos h]
      exact h1
    | false =>
      refine (refAccess_read M B n s.ws _ _ _ _ _ s.cnt kind v a w hm hc0 hc1 (by omega)).mono fun e w' ⟨he, h1, h2⟩ => ⟨he, ?_, h2⟩
      unfold RefIs acc
      rw [if_pos h]
      exact h1
  · refine (refAccess_out M B n s.ws _ _ _ _ _ s.cnt kind at_ v wr w hm hc0 hc1 (by omega) hn).mono fun e w' ⟨he, h1, h2⟩ => ⟨he, ?_, h2⟩
    unfold RefIs acc
    rw [if_neg h]
    exact h1

set_option maxHeartbeats 1000000 in
theorem refAt_any (M B n : Nat) (s : St) (at_ : Int) (w : World) (hm : RefIs w M B n s) :
    Calls Try.prog 37 #[.pointer (some ⟨M, 0, none⟩), .int .i64 at_] w
      fun e w' => e = .returned (.int .u64 (wordAt n s at_)) ∧ w = w' := by
  obtain ⟨c0, _, _, _, _, _, _, cw, _, _, _⟩ := hm
  by_cases h : 0 ≤ at_ ∧ at_ < n
  · obtain ⟨a, rfl⟩ := Int.eq_ofNat_of_zero_le h.1
    have hw := cw a (by omega)
    have hv : wordAt n s a = s.ws a := by unfold wordAt; rw [if_pos h]; simp
    rw [hv]
    have h1 : a < n := by omega
    clear cw hv h
    go_enter Try.func37, Try.ntmps37
    go_wp2
    go_ret
    exact ⟨rfl, rfl⟩
  · have hv : wordAt n s at_ = 0 := by unfold wordAt; rw [if_neg h]
    rw [hv]
    clear cw hv
    by_cases h1 : at_ < 0
    · clear h
      go_enter Try.func37, Try.ntmps37
      go_wp2
      go_ret
      exact ⟨rfl, rfl⟩
    · have h2 : (n : Int) ≤ at_ := by omega
      have h3 : 0 ≤ at_ := by omega
      clear h h1
      go_enter Try.func37, Try.ntmps37
      go_wp2
      go_ret
      exact ⟨rfl, rfl⟩

set_option maxHeartbeats 1000000 in
theorem refLoad_any (M B n : Nat) (s : St) (at_ : Int) (w : World) (hm : RefIs w M B n s) (hc0 : 0 ≤ s.cnt) (hc1 : s.cnt ≤ 1000000) (hn : n ≤ 1000000) :
    Calls Try.prog 12 #[.pointer (some ⟨M, 0, none⟩), .int .i64 at_] w
      fun e w' => e = .returned (.int .u64 (acc n s 1 at_ false 0).new) ∧ RefIs w' M B n (acc n s 1 at_ false 0) ∧ But (fun k => k = M ∨ k = B) w w' := by
  have H := Lib.hid (refAccess_any M B n s 1 at_ 0 false w hm hc0 hc1 hn)
  clear hm hc0 hc1 hn
  go_enter Try.func12, Try.ntmps12
  go_wp2_with fail
  refine H.out.mono ?_
  rintro e w1 ⟨rfl, h1, h2⟩
  have c4 := h1.c4
  have H1 := Lib.hid h1
  clear h1
  go_wp2
  go_ret
  exact ⟨rfl, H1.out, h2⟩

set_option maxHeartbeats 1000000 in
theorem refStore_any (M B n : Nat) (s : St) (at_ v : Int) (w : World) (hm : RefIs w M B n s) (hc0 : 0 ≤ s.cnt) (hc1 : s.cnt ≤ 1000000) (hn : n ≤ 1000000) :
    Calls Try.prog 14 #[.pointer (some ⟨M, 0, none⟩), .int .i64 at_, .int .u64 v] w
      fun e w' => e = .returned (.tuple #[]) ∧ RefIs w' M B n (acc n s 2 at_ true v) ∧ But (fun k => k = M ∨ k = B) w w' := by
  have H := Lib.hid (refAccess_any M B n s 2 at_ v true w hm hc0 hc1 hn)
  clear hm hc0 hc1 hn
  go_enter Try.func14, Try.ntmps14
  go_wp2_with fail
  refine H.out.mono ?_
  rintro e w1 ⟨rfl, h1, h2⟩
  have H1 := Lib.hid h1
  clear h1
  go_wp2
  go_end0
  exact ⟨rfl, H1.out, h2⟩

set_option maxHeartbeats 1000000 in
theorem refCAS_any (M B n : Nat) (s : St) (at_ o v : Int) (w : World) (hm : RefIs w M B n s) (hc0 : 0 ≤ s.cnt) (hc1 : s.cnt ≤ 1000000) (hn : n ≤ 1000000) :
    Calls Try.prog 16 #[.pointer (some ⟨M, 0, none⟩), .int .i64 at_, .int .u64 o, .int .u64 v] w
      fun e w' => e = .returned (.bool (acc n s 3 at_ (wordAt n s at_ == o) v).held) ∧ RefIs w' M B n (acc n s 3 at_ (wordAt n s at_ == o) v) ∧ But (fun k => k = M ∨ k = B) w w' := by
  have H := Lib.hid (refAccess_any M B n s 3 at_ v (wordAt n s at_ == o) w hm hc0 hc1 hn)
  have A := Lib.hid (refAt_any M B n s at_ w hm)
  clear hm hc0 hc1 hn
  go_enter Try.func16, Try.ntmps16
  go_wp2_with fail
  refine A.out.mono ?_
  rintro e w1 ⟨rfl, rfl⟩
  go_wp2_with fail
  refine H.out.mono ?_
  rintro e w1 ⟨rfl, h1, h2⟩
  have c5 := h1.c5
  have H1 := Lib.hid h1
  clear h1
  go_wp2
  go_ret
  exact ⟨rfl, H1.out, h2⟩

set_option maxHeartbeats 1000000 in
theorem refAdd_any (M B n : Nat) (s : St) (at_ v : Int) (w : World) (hm : RefIs w M B n s) (hc0 : 0 ≤ s.cnt) (hc1 : s.cnt ≤ 1000000) (hn : n ≤ 1000000) :
    Calls Try.prog 18 #[.pointer (some ⟨M, 0, none⟩), .int .i64 at_, .int .u64 v] w
      fun e w' => e = .returned (.int .u64 (acc n s 4 at_ true (IntKind.u64.wrap (wordAt n s at_ + v))).new) ∧ RefIs w' M B n (acc n s 4 at_ true (IntKind.u64.wrap (wordAt n s at_ + v))) ∧ But (fun k => k = M ∨ k = B) w w' := by
  have H := Lib.hid (refAccess_any M B n s 4 at_ (IntKind.u64.wrap (wordAt n s at_ + v)) true w hm hc0 hc1 hn)
  have A := Lib.hid (refAt_any M B n s at_ w hm)
  clear hm hc0 hc1 hn
  go_enter Try.func18, Try.ntmps18
  go_wp2_with fail
  refine A.out.mono ?_
  rintro e w1 ⟨rfl, rfl⟩
  go_wp2_with fail
  refine H.out.mono ?_
  rintro e w1 ⟨rfl, h1, h2⟩
  have c4 := h1.c4
  have H1 := Lib.hid h1
  clear h1
  go_wp2
  go_ret
  exact ⟨rfl, H1.out, h2⟩
end Go.Proofs.Ytfndjklpjjcelaa
