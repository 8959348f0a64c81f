/- The chapter's examples, out of what is asked of the program's memory. -/
import Derived.Test.YtfndjklpjjcelaaModel
import Derived.Deep.Light
namespace Go.Proofs.Ytfndjklpjjcelaa
open Go.RowKit

def e1 : St := acc 3 St.zero 2 1 true 5
def e2 : St := acc 3 e1 3 1 (wordAt 3 e1 1 == 5) 7
def e3 : St := acc 3 e2 3 1 (wordAt 3 e2 1 == 5) 9
def e4 : St := acc 3 e3 4 1 true (IntKind.u64.wrap (wordAt 3 e3 1 + 18446744073709551615))
def e5 : St := acc 3 e4 1 1 false 0

def FirstPost (C : Cells) (w : World) (e : Ending) (w' : World) : Prop :=
  ∃ M S, e = .returned (.pointer (some ⟨M, 0, none⟩)) ∧ C.Is w' M S 3 e5 ∧ (∀ k, S k → w.heap.size ≤ k ∧ k < w'.heap.size) ∧ Kept w w'

set_option maxHeartbeats 2000000 in
theorem first_any (C : Cells) (w : World) : Calls Try.prog 26 #[] w (FirstPost C w) := by
  have HN : ∀ w, Hid (Calls Try.prog 9 #[.int .i64 3] w (MadePost C.Is 3 St.zero w)) := fun w => Lib.hid (C.new_yes 3 w (by decide) (by decide))
  go_enter Try.func26, Try.ntmps26
  go_wp2_with fail
  refine (HN _).out.mono ?_
  rintro e w1 ⟨M, S, rfl, h1, hs, k1⟩
  have hs := Lib.hid hs
  have H1 : Hid (C.Is w1 M S 3 St.zero) := Lib.hid h1
  clear h1 HN
  go_wp2_with fail
  refine (C.store M S 3 St.zero 1 5 w1 H1.out (by decide) (by decide)).mono ?_
  rintro e w2 ⟨rfl, h2, b2⟩
  have H2 : Hid (C.Is w2 M S 3 e1) := Lib.hid h2
  clear h2
  go_wp2_with fail
  refine (C.cas M S 3 e1 1 5 7 w2 H2.out (by decide) (by decide)).mono ?_
  rintro e w3 ⟨rfl, h3, b3⟩
  have H3 : Hid (C.Is w3 M S 3 e2) := Lib.hid h3
  clear h3
  rw [show (acc 3 e1 3 1 (wordAt 3 e1 1 == 5) 7).held = true by decide]
  go_wp2_with fail
  refine (C.last M S 3 e2 w3 H3.out).mono ?_
  rintro e w4 ⟨rfl, k4⟩
  have H4 : Hid (C.Is w4 M S 3 e2) := Lib.hid (C.frame H3.out (k4.but (fun _ => False)) (fun _ _ h => h))
  rw [show e2.kind = 3 by decide, show e2.at_ = 1 by decide, show e2.old = 5 by decide, show e2.new = 7 by decide, show e2.held = true by decide]
  go_wp2_with fail
  refine (C.cas M S 3 e2 1 5 9 w4 H4.out (by decide) (by decide)).mono ?_
  rintro e w5 ⟨rfl, h5, b5⟩
  have H5 : Hid (C.Is w5 M S 3 e3) := Lib.hid h5
  clear h5
  rw [show (acc 3 e2 3 1 (wordAt 3 e2 1 == 5) 9).held = false by decide]
  go_wp2_with fail
  refine (C.last M S 3 e3 w5 H5.out).mono ?_
  rintro e w6 ⟨rfl, k6⟩
  have H6 : Hid (C.Is w6 M S 3 e3) := Lib.hid (C.frame H5.out (k6.but (fun _ => False)) (fun _ _ h => h))
  rw [show e3.kind = 3 by decide, show e3.at_ = 1 by decide, show e3.old = 7 by decide, show e3.new = 7 by decide, show e3.held = false by decide]
  go_wp2_with fail
  refine (C.add M S 3 e3 1 18446744073709551615 w6 H6.out (by decide) (by decide)).mono ?_
  rintro e w7 ⟨rfl, h7, b7⟩
  have H7 : Hid (C.Is w7 M S 3 e4) := Lib.hid h7
  clear h7
  rw [show (acc 3 e3 4 1 true (IntKind.u64.wrap (wordAt 3 e3 1 + 18446744073709551615))).new = 6 by decide]
  go_wp2_with fail
  refine (C.load M S 3 e4 1 w7 H7.out (by decide) (by decide)).mono ?_
  rintro e w8 ⟨rfl, h8, b8⟩
  have H8 : Hid (C.Is w8 M S 3 e5) := Lib.hid h8
  clear h8
  rw [show (acc 3 e4 1 1 false 0).new = 6 by decide]
  go_wp2
  go_ret
  go_light
  have hk : But S w1 w8 := ((((b2.trans b3 (fun _ _ h => h)).then k4).trans b5 (fun _ _ h => h)).then k6).trans b7 (fun _ _ h => h) |>.trans b8 (fun _ _ h => h)
  refine ⟨M, S, rfl, H8.out, fun k h => ?_, ?_⟩
  · have := hs.out k h
    have := hk.size
    omega
  · exact (((k1.but S).trans hk (fun _ _ h => h)).kept (fun k hk h => by have := hs.out k h; omega))

set_option maxHeartbeats 1000000 in
theorem awake_any (C : Cells) (w : World) : Calls Try.prog 8 #[] w fun e w' => e = .returned (.bool true) ∧ Kept w w' := by
  go_enter Try.func8, Try.ntmps8
  go_wp2_with fail
  refine (first_any C _).mono ?_
  rintro e w1 ⟨M, S, rfl, h1, hs, k1⟩
  have H1 := Lib.hid h1
  clear h1 hs
  go_wp2_with fail
  refine (C.count M S 3 e5 w1 H1.out).mono ?_
  rintro e w2 ⟨rfl, k2⟩
  have H2 : Hid (C.Is w2 M S 3 e5) := Lib.hid (C.frame H1.out (k2.but (fun _ => False)) (fun _ _ h => h))
  rw [show e5.cnt = 5 by decide]
  go_wp2_with fail
  refine (C.words M S 3 e5 w2 H2.out).mono ?_
  rintro e w3 ⟨b, c, rfl, hb, hb', hw, hf, k3⟩
  have hw := Lib.hid hw
  clear hf
  go_wp2_with fail
  refine (sameWords_yes b 0 c w3.heap.size 0 3 3 (fun i => e5.ws i) _ (by decide) (fun i hi => ?_) (fun i hi => ?_)).mono ?_
  · rw [Nat.zero_add, World.cell?_alloc_past _ _ _ hb']
    exact hw.out i hi
  · have hc : i = 0 ∨ i = 1 ∨ i = 2 := by omega
    rcases hc with rfl | rfl | rfl
    · simp [show e5.ws 0 = 0 by decide]
    · simp [show e5.ws 1 = 6 by decide]
    · simp [show e5.ws 2 = 0 by decide]
  rintro e w4 ⟨rfl, k4⟩
  go_wp2
  go_ret
  go_light
  exact ⟨rfl, ((k1.trans k2).trans k3).alloc _ _ |>.trans k4⟩

def e6 : St := acc 3 e5 1 3 false 0
def e7 : St := acc 3 e6 4 (-1) true (IntKind.u64.wrap (wordAt 3 e6 (-1) + 5))
def e8 : St := acc 3 e7 3 9 (wordAt 3 e7 9 == 0) 0

set_option maxHeartbeats 2000000 in
theorem known_any (C : Cells) (w : World) : Calls Try.prog 5 #[] w fun e w' => e = .returned (.bool true) ∧ Kept w w' := by
  go_enter Try.func5, Try.ntmps5
  go_wp2_with fail
  refine (first_any C _).mono ?_
  rintro e w1 ⟨M, S, rfl, h1, hs0, k1⟩
  have hs := Lib.hid hs0
  have H1 := Lib.hid h1
  clear h1 hs0
  go_wp2_with fail
  refine (C.new_no 0 _ (by decide)).mono ?_
  rintro e w2 ⟨rfl, k2⟩
  go_wp2_with fail
  refine (C.new_no 4097 _ (by decide)).mono ?_
  rintro e w3 ⟨rfl, k3⟩
  have H3 : Hid (C.Is w3 M S 3 e5) := Lib.hid (C.frame H1.out ((k2.trans k3).but (fun _ => False)) (fun _ _ h => h))
  have b3 : But S w1 w3 := (k2.trans k3).but S
  clear k2 k3 H1
  go_wp2_with fail
  refine (C.load M S 3 e5 3 w3 H3.out (by decide) (by decide)).mono ?_
  rintro e w4 ⟨rfl, h4, b4⟩
  have H4 : Hid (C.Is w4 M S 3 e6) := Lib.hid h4
  have b5 := b3.trans b4 (fun _ _ h => h)
  clear h4 b3 b4 H3
  rw [show (acc 3 e5 1 3 false 0).new = 0 by decide]
  go_wp2_with fail
  refine (C.last M S 3 e6 w4 H4.out).mono ?_
  rintro e w5 ⟨rfl, k5⟩
  have H5 : Hid (C.Is w5 M S 3 e6) := Lib.hid (C.frame H4.out (k5.but (fun _ => False)) (fun _ _ h => h))
  have b6 := b5.then k5
  clear b5 k5 H4
  rw [show e6.kind = 1 by decide, show e6.at_ = 3 by decide, show e6.old = 0 by decide, show e6.new = 0 by decide, show e6.held = false by decide]
  go_wp2_with fail
  refine (awake_any C _).mono ?_
  rintro e w6 ⟨rfl, k6⟩
  have H6 : Hid (C.Is w6 M S 3 e6) := Lib.hid (C.frame H5.out (k6.but (fun _ => False)) (fun _ _ h => h))
  have b7 := b6.then k6
  clear b6 k6 H5
  go_wp2_with fail
  refine (C.add M S 3 e6 (-1) 5 w6 H6.out (by decide) (by decide)).mono ?_
  rintro e w7 ⟨rfl, h7, b8⟩
  have H7 : Hid (C.Is w7 M S 3 e7) := Lib.hid h7
  have b9 := b7.trans b8 (fun _ _ h => h)
  clear h7 b7 b8 H6
  rw [show (acc 3 e6 4 (-1) true (IntKind.u64.wrap (wordAt 3 e6 (-1) + 5))).new = 0 by decide]
  go_wp2_with fail
  refine (C.cas M S 3 e7 9 0 0 w7 H7.out (by decide) (by decide)).mono ?_
  rintro e w8 ⟨rfl, h8, b8⟩
  have H8 : Hid (C.Is w8 M S 3 e8) := Lib.hid h8
  have b7 := b9.trans b8 (fun _ _ h => h)
  clear h8 b9 b8 H7
  rw [show (acc 3 e7 3 9 (wordAt 3 e7 9 == 0) 0).held = false by decide]
  go_wp2_with fail
  refine (C.words M S 3 e8 w8 H8.out).mono ?_
  rintro e w9 ⟨b, c, rfl, hb, hb', hw0, _, k9⟩
  have hw := Lib.hid hw0
  have H9 : Hid (C.Is w9 M S 3 e8) := Lib.hid (C.frame H8.out (k9.but (fun _ => False)) (fun _ _ h => h))
  have b8 := b7.then k9
  clear hw0 b7 k9 H8
  go_wp2_with fail
  refine (sameWords_yes b 0 c w9.heap.size 0 3 3 (fun i => e8.ws i) _ (by decide) (fun i hi => ?_) (fun i hi => ?_)).mono ?_
  · rw [Nat.zero_add, World.cell?_alloc_past _ _ _ hb']
    exact hw.out i hi
  · have hc : i = 0 ∨ i = 1 ∨ i = 2 := by omega
    rcases hc with rfl | rfl | rfl
    · simp [show e8.ws 0 = 0 by decide]
    · simp [show e8.ws 1 = 6 by decide]
    · simp [show e8.ws 2 = 0 by decide]
  rintro e w10 ⟨rfl, k10⟩
  have k11 := (((Kept.refl w9).alloc _ _).trans k10)
  have H10 : Hid (C.Is w10 M S 3 e8) := Lib.hid (C.frame H9.out (k11.but (fun _ => False)) (fun _ _ h => h))
  have b9 := b8.then k11
  clear b8 k10 k11 H9
  go_wp2_with fail
  refine (C.count M S 3 e8 w10 H10.out).mono ?_
  rintro e w11 ⟨rfl, k11⟩
  rw [show e8.cnt = 8 by decide]
  go_wp2
  go_ret
  go_light
  exact ⟨rfl, ((k1.but S).trans (b9.then k11) (fun _ _ h => h)).kept (fun k hk h => by have := hs.out k h; omega)⟩
end Go.Proofs.Ytfndjklpjjcelaa
