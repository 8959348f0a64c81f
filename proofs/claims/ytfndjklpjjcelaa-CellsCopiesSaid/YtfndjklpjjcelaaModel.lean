/- What is asked of the program's memory: contracts, operation by operation. The statements' walks lean on these alone. -/
import Derived.Test.YtfndjklpjjcelaaRefNew
namespace Go.Proofs.Ytfndjklpjjcelaa
open Go.RowKit

theorem RefMem.frame {w w' : World} {M B n : Nat} {ws : Nat → Int} {k a o v c : Int} {h : Bool} (hm : RefMem w M B n ws k a o v h c) {T : Nat → Prop} (hb : But T w w') (hM : ¬ T M) (hB : ¬ T B) : RefMem w' M B n ws k a o v h c :=
  ⟨hb.some hm.c0 hM, hb.some hm.c1 hM, hb.some hm.c2 hM, hb.some hm.c3 hM, hb.some hm.c4 hM, hb.some hm.c5 hM, hb.some hm.c6 hM,
   fun i hi => hb.some (hm.words i hi) hB, fun i => (hb.froze _).trans (hm.fM i), fun i => (hb.froze _).trans (hm.fB i), hm.ne⟩
theorem RefIs.frame {w w' : World} {M B n : Nat} {s : St} (hm : RefIs w M B n s) {T : Nat → Prop} (hb : But T w w') (hM : ¬ T M) (hB : ¬ T B) : RefIs w' M B n s := RefMem.frame hm hb hM hB

/-- The list that Words tells: new memory. -/
def WordsPost (n : Nat) (s : St) (w : World) (e : Ending) (w' : World) : Prop :=
  ∃ b c, e = .returned (.slice (some ⟨b, 0, none⟩) n c) ∧ w.heap.size ≤ b ∧ b < w'.heap.size ∧ (∀ i, i < n → w'.cell? ⟨b, i, none⟩ = some (.int .u64 (s.ws i))) ∧ (∀ i, w'.frozen? ⟨b, i, none⟩ = false) ∧ Kept w w'

/-- A new memory: its blocks S are new. -/
def MadePost (Is : World → Nat → (Nat → Prop) → Nat → St → Prop) (n : Nat) (s : St) (w : World) (e : Ending) (w' : World) : Prop :=
  ∃ M S, e = .returned (.tuple #[.pointer (some ⟨M, 0, none⟩), .int .i64 0]) ∧ Is w' M S n s ∧ (∀ k, S k → w.heap.size ≤ k ∧ k < w'.heap.size) ∧ Kept w w'

/-- The program's memory, whatever it is made of: 'Is w M S n s': behind the pointer to block M lies a memory of n cells in state s, in the blocks S. -/
structure Cells where
  Is : World → Nat → (Nat → Prop) → Nat → St → Prop
  frame : ∀ {w w' : World} {M : Nat} {S T : Nat → Prop} {n : Nat} {s : St}, Is w M S n s → But T w w' → (∀ k, S k → ¬ T k) → Is w' M S n s
  low : ∀ {w : World} {M : Nat} {S : Nat → Prop} {n : Nat} {s : St}, Is w M S n s → ∀ k, S k → k < w.heap.size
  new_no : ∀ (n : Int) (w : World), (n < 1 ∨ 4096 < n) → Calls Try.prog 9 #[.int .i64 n] w fun e w' => e = .returned (.tuple #[.pointer none, .int .i64 3]) ∧ Kept w w'
  new_yes : ∀ (n : Nat) (w : World), 1 ≤ n → n ≤ 4096 → Calls Try.prog 9 #[.int .i64 n] w (MadePost Is n St.zero w)
  load : ∀ (M : Nat) (S : Nat → Prop) (n : Nat) (s : St) (at_ : Int) (w : World), Is w M S n s → 0 ≤ s.cnt → s.cnt ≤ 1000000 →
    Calls Try.prog 11 #[.pointer (some ⟨M, 0, none⟩), .int .i64 at_] w
      fun e w' => e = .returned (.int .u64 (acc n s 1 at_ false 0).new) ∧ Is w' M S n (acc n s 1 at_ false 0) ∧ But S w w'
  store : ∀ (M : Nat) (S : Nat → Prop) (n : Nat) (s : St) (at_ v : Int) (w : World), Is w M S n s → 0 ≤ s.cnt → s.cnt ≤ 1000000 →
    Calls Try.prog 13 #[.pointer (some ⟨M, 0, none⟩), .int .i64 at_, .int .u64 v] w
      fun e w' => e = .returned (.tuple #[]) ∧ Is w' M S n (acc n s 2 at_ true v) ∧ But S w w'
  cas : ∀ (M : Nat) (S : Nat → Prop) (n : Nat) (s : St) (at_ o v : Int) (w : World), Is w M S n s → 0 ≤ s.cnt → s.cnt ≤ 1000000 →
    Calls Try.prog 15 #[.pointer (some ⟨M, 0, none⟩), .int .i64 at_, .int .u64 o, .int .u64 v] w
      fun e w' => e = .returned (.bool (acc n s 3 at_ (wordAt n s at_ == o) v).held) ∧ Is w' M S n (acc n s 3 at_ (wordAt n s at_ == o) v) ∧ But S w w'
  add : ∀ (M : Nat) (S : Nat → Prop) (n : Nat) (s : St) (at_ v : Int) (w : World), Is w M S n s → 0 ≤ s.cnt → s.cnt ≤ 1000000 →
    Calls Try.prog 17 #[.pointer (some ⟨M, 0, none⟩), .int .i64 at_, .int .u64 v] w
      fun e w' => e = .returned (.int .u64 (acc n s 4 at_ true (IntKind.u64.wrap (wordAt n s at_ + v))).new) ∧ Is w' M S n (acc n s 4 at_ true (IntKind.u64.wrap (wordAt n s at_ + v))) ∧ But S w w'
  words : ∀ (M : Nat) (S : Nat → Prop) (n : Nat) (s : St) (w : World), Is w M S n s → Calls Try.prog 19 #[.pointer (some ⟨M, 0, none⟩)] w (WordsPost n s w)
  last : ∀ (M : Nat) (S : Nat → Prop) (n : Nat) (s : St) (w : World), Is w M S n s → Calls Try.prog 20 #[.pointer (some ⟨M, 0, none⟩)] w
      fun e w' => e = .returned (.agg #[.int .i64 s.kind, .int .i64 s.at_, .int .u64 s.old, .int .u64 s.new, .bool s.held]) ∧ Kept w w'
  count : ∀ (M : Nat) (S : Nat → Prop) (n : Nat) (s : St) (w : World), Is w M S n s → Calls Try.prog 21 #[.pointer (some ⟨M, 0, none⟩)] w
      fun e w' => e = .returned (.int .i64 s.cnt) ∧ Kept w w'
  size : ∀ (M : Nat) (S : Nat → Prop) (n : Nat) (s : St) (w : World), Is w M S n s → Calls Try.prog 22 #[.pointer (some ⟨M, 0, none⟩)] w
      fun e w' => e = .returned (.int .i64 n) ∧ Kept w w'
  copy : ∀ (M : Nat) (S : Nat → Prop) (n : Nat) (s : St) (w : World), Is w M S n s → Calls Try.prog 25 #[.pointer (some ⟨M, 0, none⟩)] w
      fun e w' => ∃ M' S', e = .returned (.pointer (some ⟨M', 0, none⟩)) ∧ Is w' M' S' n s ∧ (∀ k, S' k → w.heap.size ≤ k ∧ k < w'.heap.size) ∧ Kept w w'
end Go.Proofs.Ytfndjklpjjcelaa
