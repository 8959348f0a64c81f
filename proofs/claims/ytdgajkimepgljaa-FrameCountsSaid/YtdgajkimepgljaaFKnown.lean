/- The chapter's examples: first, awake, FrameKnown; and FrameNone. -/
import Derived.Test.YtdgajkimepgljaaFOne
import Derived.KernelRfl
import Derived.Deep.RegionHeld3
namespace Go.Proofs.Ytdgajkimepgljaa
open Go.RowKit

/-- A call with its answer and its state named. -/
theorem Went.kept {u w w' : World} {F n m : Nat} {s : St} {S : Nat → Prop} (h : Went u w w' F n m s S) : ∃ S', One u w' F n m s S' := by
  obtain ⟨S', h, _⟩ := h; exact ⟨S', h⟩
theorem One.begin' {u w : World} {F n m : Nat} {s : St} {S : Nat → Prop} (h : One u w F n m s S) (c x v : Int) (s' : St) (hv : bErr s n c = v) (hs : bSt s n c x = s') :
    Calls Try.prog 10 #[.pointer (some ⟨F, 0, none⟩), .int .i64 c, .int .i64 x] w fun e w' => e = .returned (.int .i64 v) ∧ ∃ S', One u w' F n (m + 1) s' S' := by
  subst hv; subst hs
  exact (h.begin c x).mono fun _ _ ⟨he, hw⟩ => ⟨he, hw.kept⟩
theorem One.step' {u w : World} {F n m : Nat} {s : St} {S : Nat → Prop} (h : One u w F n m s S) (hm : m ≤ 1000) (c v : Int) (s' : St) (hv : sErr s n c = v) (hs : sSt s c = s') :
    Calls Try.prog 12 #[.pointer (some ⟨F, 0, none⟩), .int .i64 c] w fun e w' => e = .returned (.int .i64 v) ∧ ∃ S', One u w' F n (m + 1) s' S' := by
  subst hv; subst hs
  exact (h.step hm c).mono fun _ _ ⟨he, hw⟩ => ⟨he, hw.kept⟩
theorem One.fin' {u w : World} {F n m : Nat} {s : St} {S : Nat → Prop} (h : One u w F n m s S) (hm : m ≤ 1000) (c v : Int) (s' : St) (hv : sErr s n c = v) (hs : eSt s c = s') :
    Calls Try.prog 14 #[.pointer (some ⟨F, 0, none⟩), .int .i64 c] w fun e w' => e = .returned (.int .i64 v) ∧ ∃ S', One u w' F n (m + 1) s' S' := by
  subst hv; subst hs
  exact (h.fin hm c).mono fun _ _ ⟨he, hw⟩ => ⟨he, hw.kept⟩
theorem One.what' {u w : World} {F n m : Nat} {s : St} {S : Nat → Prop} (h : One u w F n m s S) (c x : Int) (b : Bool) (hx : s.what c = x) (hb : s.on c = b) :
    Calls Try.prog 16 #[.pointer (some ⟨F, 0, none⟩), .int .i64 c] w fun e w' => e = .returned (.tuple #[.int .i64 x, .bool b]) ∧ Kept w w' := by
  subst hx; subst hb; exact h.what c
theorem One.steps' {u w : World} {F n m : Nat} {s : St} {S : Nat → Prop} (h : One u w F n m s S) (c x : Int) (hx : s.steps c = x) :
    Calls Try.prog 20 #[.pointer (some ⟨F, 0, none⟩), .int .i64 c] w fun e w' => e = .returned (.int .i64 x) ∧ Kept w w' := by
  subst hx; exact h.steps c
theorem One.turn' {u w : World} {F n m : Nat} {s : St} {S : Nat → Prop} (h : One u w F n m s S) (x y : Int) (h1 : -9223372036854775808 ≤ x) (h2 : x ≤ 9223372036854775807) (hy : turnOf s n x = y) :
    Calls Try.prog 23 #[.pointer (some ⟨F, 0, none⟩), .int .i64 x] w fun e w' => e = .returned (.int .i64 y) ∧ Kept w w' := by
  subst hy; exact h.turn x h1 h2
theorem One.busy' {u w : World} {F n m : Nat} {s : St} {S : Nat → Prop} (h : One u w F n m s S) (l : List Int) (hl : cores s n = l) :
    Calls Try.prog 18 #[.pointer (some ⟨F, 0, none⟩)] w fun e w' => ∃ a c, e = .returned (.slice a l.length c) ∧ Kept w w' ∧ OwnI w' w.heap.size (.slice a l.length c) l := by
  subst hl; exact h.busy
theorem One.all' {u w : World} {F n m : Nat} {s : St} {S : Nat → Prop} (h : One u w F n m s S) (x : Int) (hx : s.all = x) :
    Calls Try.prog 25 #[.pointer (some ⟨F, 0, none⟩)] w fun e w' => e = .returned (.int .i64 x) ∧ w' = w := by
  subst hx; exact h.all
theorem One.deeds' {u w : World} {F n m : Nat} {s : St} {S : Nat → Prop} (h : One u w F n m s S) (hm : m ≤ 1000) (l : List Dd) (hl : s.D = l) :
    Calls Try.prog 19 #[.pointer (some ⟨F, 0, none⟩)] w fun e w' => ∃ a c, e = .returned (.slice a l.length c) ∧ Kept w w' ∧ OwnD w' w.heap.size (.slice a l.length c) l := by
  subst hl; exact h.deeds hm

def x1 : St := bSt St.zero 3 2 7
def x2 : St := bSt x1 3 0 9
def x3 : St := bSt x2 3 2 1
def x4 : St := sSt x3 2
def x5 : St := sSt x4 2
def x6 : St := sSt x5 0
def x7 : St := sSt x6 1
def x8 : St := eSt x7 2
def x9 : St := eSt x8 2

set_option maxHeartbeats 4000000 in
theorem first_any (w : World) :
    Calls Try.prog 29 #[] w fun e w' => ∃ F S, e = .returned (.pointer (some ⟨F, 0, none⟩)) ∧ Kept w w' ∧ One w w' F 3 7 x7 S := by
  go_enter Try.func29, Try.ntmps29
  go_wp2_with fail; refine (one_new 3 (by decide) (by decide)).mono ?_; rintro e w1 ⟨F, S, rfl, k1, h1, _⟩
  have H1 := Lib.hid h1
  clear h1 k1
  go_wp2_with fail; refine (H1.out.begin' 2 7 0 x1 (by decide +kernel) rfl).mono ?_; rintro e w2 ⟨rfl, S2, h2⟩
  have H2 := Lib.hid h2
  clear h2
  go_wp2_with fail; refine (H2.out.begin' 0 9 0 x2 (by decide +kernel) rfl).mono ?_; rintro e w3 ⟨rfl, S3, h3⟩
  have H3 := Lib.hid h3
  clear h3
  go_wp2_with fail; refine (H3.out.begin' 2 1 14 x3 (by decide +kernel) rfl).mono ?_; rintro e w4 ⟨rfl, S4, h4⟩
  have H4 := Lib.hid h4
  clear h4
  go_wp2_with fail; refine (H4.out.step' (by decide) 2 0 x4 (by decide +kernel) rfl).mono ?_; rintro e w5 ⟨rfl, S5, h5⟩
  have H5 := Lib.hid h5
  clear h5
  go_wp2_with fail; refine (H5.out.step' (by decide) 2 0 x5 (by decide +kernel) rfl).mono ?_; rintro e w6 ⟨rfl, S6, h6⟩
  have H6 := Lib.hid h6
  clear h6
  go_wp2_with fail; refine (H6.out.step' (by decide) 0 0 x6 (by decide +kernel) rfl).mono ?_; rintro e w7 ⟨rfl, S7, h7⟩
  have H7 := Lib.hid h7
  clear h7
  go_wp2_with fail; refine (H7.out.step' (by decide) 1 15 x7 (by decide +kernel) rfl).mono ?_; rintro e w8 ⟨rfl, S8, h8⟩
  have H8 := Lib.hid h8
  clear h8
  go_wp2
  go_ret
  exact ⟨F, S8, rfl, H8.out.frame, H8.out⟩

/-- A literal of ints that has just been laid. -/
theorem lies_ints {w : World} {g : Nat} {l : List Int} {t : TypeId} {fr : Nat × Nat} (h : w.heap[g]? = some (.cells (ints l).toArray t fr)) (hl : l.length ≤ 1000) : Lies w (.slice (some ⟨g, 0, none⟩) l.length l.length) l.length (ints l) :=
  .inr ⟨g, 0, l.length, rfl, Nat.le_refl _, by unfold maxLen; omega, fun j u hu => by
    have := World.news_of_block h j u (by simpa using hu)
    rwa [add_none] at this⟩

set_option maxHeartbeats 4000000 in
theorem awake_any (w : World) :
    Calls Try.prog 7 #[] w fun e w' => e = .returned (.bool true) ∧ Kept w w' := by
  go_enter Try.func7, Try.ntmps7
  go_wp2_with fail; refine (first_any w).mono ?_; rintro e w1 ⟨F, S, rfl, k1, h1⟩
  have H1 := Lib.hid h1
  have K1 := Lib.hid k1
  clear h1 k1
  go_wp2_with fail; refine (H1.out.what' 2 7 true (by decide +kernel) (by decide +kernel)).mono ?_; rintro e w2 ⟨rfl, k2⟩
  have H2 := Lib.hid (H1.out.kept k2)
  have K2 := Lib.hid (K1.out.trans k2)
  clear k2
  go_wp2_with fail; refine (H2.out.busy' [0, 2] (by decide +kernel)).mono ?_; rintro e w3 ⟨a, c, rfl, k3, own3⟩
  have H3 := Lib.hid (H2.out.kept k3)
  have K3 := Lib.hid (K2.out.trans k3)
  have L3 := Lib.hid (own_lies own3)
  clear k3 own3
  go_wp2_with fail; refine (sameInts_yes (l := [0, 2]) (L3.out.kept ((Kept.refl w3).alloc _ _)) (lies_ints (heap_alloc_new _ _) (by decide)) (by decide)).mono ?_; rintro e w4 ⟨rfl, k4⟩
  have H4 := Lib.hid ((H3.out.kept ((Kept.refl w3).alloc _ _)).kept k4)
  clear k4
  go_wp2_with fail; refine (H4.out.turn' 0 0 (by decide) (by decide) (by decide +kernel)).mono ?_; rintro e w5 ⟨rfl, k5⟩
  have H5 := Lib.hid (H4.out.kept k5)
  clear k5
  go_wp2_with fail; refine (H5.out.turn' 1 2 (by decide) (by decide) (by decide +kernel)).mono ?_; rintro e w6 ⟨rfl, k6⟩
  have H6 := Lib.hid (H5.out.kept k6)
  clear k6
  go_wp2_with fail; refine (H6.out.steps' 2 2 (by decide +kernel)).mono ?_; rintro e w7 ⟨rfl, k7⟩
  have H7 := Lib.hid (H6.out.kept k7)
  clear k7
  go_wp2
  go_ret
  exact ⟨rfl, H7.out.frame⟩

theorem new_no (w : World) (c : Int) (hc : ¬ (1 ≤ c ∧ c ≤ 64)) :
    Calls Try.prog 8 #[.int .i64 c] w fun e w' => e = .returned (.tuple #[.pointer none, .int .i64 3]) ∧ w' = w := new_out c hc

set_option maxHeartbeats 4000000 in
theorem known_any (w : World) :
    Calls Try.prog 5 #[] w fun e w' => e = .returned (.bool true) ∧ Kept w w' := by
  go_enter Try.func5, Try.ntmps5
  go_wp2_with fail; refine (first_any w).mono ?_; rintro e w1 ⟨F, S, rfl, k1, h1⟩
  have H1 := Lib.hid h1
  clear h1 k1
  go_wp2_with fail; refine (new_no _ 0 (by decide)).mono ?_; rintro e w2 ⟨rfl, rfl⟩
  go_wp2_with fail; refine (new_no _ 65 (by decide)).mono ?_; rintro e w2 ⟨rfl, rfl⟩
  go_wp2_with fail; refine (H1.out.what' 1 0 false (by decide +kernel) (by decide +kernel)).mono ?_; rintro e w3 ⟨rfl, k3⟩
  have H3 := Lib.hid (H1.out.kept k3)
  clear k3
  go_wp2_with fail; refine (H3.out.turn' 5 2 (by decide) (by decide) (by decide +kernel)).mono ?_; rintro e w4 ⟨rfl, k4⟩
  have H4 := Lib.hid (H3.out.kept k4)
  clear k4
  go_wp2_with fail; refine (H4.out.turn' (-1) 2 (by decide) (by decide) (by decide +kernel)).mono ?_; rintro e w5 ⟨rfl, k5⟩
  have H5 := Lib.hid (H4.out.kept k5)
  clear k5
  go_wp2_with fail; refine (H5.out.fin' (by decide) 2 0 x8 (by decide +kernel) rfl).mono ?_; rintro e w6 ⟨rfl, S6, h6⟩
  have H6 := Lib.hid h6
  clear h6
  go_wp2_with fail; refine (H6.out.fin' (by decide) 2 15 x9 (by decide +kernel) rfl).mono ?_; rintro e w7 ⟨rfl, S7, h7⟩
  have H7 := Lib.hid h7
  clear h7
  go_wp2_with fail; refine (awake_any _).mono ?_; rintro e w8 ⟨rfl, k8⟩
  have H8 := Lib.hid (H7.out.kept k8)
  clear k8
  go_wp2_with fail; refine (H8.out.deeds' (by decide) [(2, 7, 2)] (by decide +kernel)).mono ?_; rintro e w9 ⟨a, c, rfl, k9, own9⟩
  have H9 := Lib.hid (H8.out.kept k9)
  have L9 := Lib.hid (own_lies own9)
  clear k9 own9
  go_wp2_with fail; refine (sameDeeds_yes (l := [(2, 7, 2)]) (L9.out.kept ((Kept.refl w9).alloc _ _)) (lies_new (d := (2, 7, 2)) (heap_alloc_new _ _)) (by decide)).mono ?_; rintro e w10 ⟨rfl, k10⟩
  have H10 := Lib.hid ((H9.out.kept ((Kept.refl w9).alloc _ _)).kept k10)
  clear k10
  go_wp2_with fail; refine (H10.out.all' 3 (by decide +kernel)).mono ?_; rintro e w11 ⟨rfl, rfl⟩
  go_wp2_with fail; refine (H10.out.begin' 3 0 3 x9 (by decide +kernel) rfl).mono ?_; rintro e w12 ⟨rfl, S12, h12⟩
  have H12 := Lib.hid h12
  clear h12
  go_wp2_with fail; refine (H12.out.fin' (by decide) (-1) 3 x9 (by decide +kernel) rfl).mono ?_; rintro e w13 ⟨rfl, S13, h13⟩
  have H13 := Lib.hid h13
  clear h13
  go_wp2
  go_ret
  exact ⟨rfl, H13.out.frame⟩

theorem what_none {w : World} {p : Option Addr} (h : NobF w p) (c : Int) :
    Calls Try.prog 16 #[.pointer p, .int .i64 c] w fun e w' => e = .returned (.tuple #[.int .i64 0, .bool false]) ∧ w' = w := by
  have H := Lib.hid h
  clear h
  go_enter Try.func16, Try.ntmps16
  go_wp2_with fail; refine (within_none H.out c).mono ?_; rintro e w1 ⟨rfl, rfl⟩
  go_wp2
  refine bodyPost_ret (v := .tuple #[.int .i64 0, .bool false]) (by simp [results, Try.results16, go_sem]) rfl ⟨rfl, rfl⟩
theorem steps_none {w : World} {p : Option Addr} (h : NobF w p) (c : Int) :
    Calls Try.prog 20 #[.pointer p, .int .i64 c] w fun e w' => e = .returned (.int .i64 0) ∧ w' = w := by
  have H := Lib.hid h
  clear h
  go_enter Try.func20, Try.ntmps20
  go_wp2_with fail; refine (within_none H.out c).mono ?_; rintro e w1 ⟨rfl, rfl⟩
  go_wp2
  go_ret
  exact ⟨rfl, rfl⟩
theorem all_none {w : World} {p : Option Addr} (h : NobF w p) :
    Calls Try.prog 25 #[.pointer p] w fun e w' => e = .returned (.int .i64 0) ∧ w' = w := by
  have H := Lib.hid h
  clear h
  go_enter Try.func25, Try.ntmps25
  go_wp2_with fail; refine (valid_none H.out).mono ?_; rintro e w1 ⟨rfl, rfl⟩
  go_wp2
  go_ret
  exact ⟨rfl, rfl⟩

set_option maxHeartbeats 8000000 in
theorem none_any (c x : Int) (w : World) :
    Calls Try.prog 4 #[.int .i64 c, .int .i64 x] w fun e w' => e = .returned (.bool true) ∧ Kept w w' := by
  go_enter Try.func4, Try.ntmps4
  go_wp2_with fail
  obtain ⟨W0, hW0⟩ : ∃ W0, ((w.alloc (.cells #[.pointer none] 54)).alloc (.cells #[.pointer none, .pointer (some ⟨w.heap.size, 0, none⟩)] 24)) = W0 := ⟨_, rfl⟩
  have kW : Kept w W0 := by rw [← hW0]; exact ((Kept.refl w).alloc _ _).alloc _ _
  have cs : ∀ k : Nat, k < 2 → ∃ p, W0.cell? ⟨w.heap.size + 1, k, none⟩ = some (.pointer p) ∧ NobF W0 p := by
    intro k hk
    have hk' : k = 0 ∨ k = 1 := by omega
    rw [← hW0]
    rcases hk' with rfl | rfl
    · exact ⟨none, cell_new _ _ _ _ 0 (by simp), .inl rfl⟩
    · exact ⟨_, cell_new _ _ _ _ 1 (by simp), .inr ⟨_, rfl, ((Kept.refl _).alloc _ _).some (cell_new _ _ _ _ 0 rfl)⟩⟩
  rw [hW0]
  clear hW0
  have CS := Lib.hid cs
  have KW := Lib.hid kW
  clear cs kW
  go_loopw [6] (fun i wr => ∃ k : Nat, k ≤ 2 ∧ i = .int .i64 k ∧ Kept W0 wr) (fun i _ => 2 - (intOf i).toNat)
  case atStart => exact ⟨0, Nat.zero_le _, rfl, Kept.refl _⟩
  case round =>
    obtain ⟨k, hk, rfl, kr⟩ := hrel
    have KR := Lib.hid kr
    clear kr
    by_cases hlt : k < 2
    · obtain ⟨p, hc, hp⟩ := CS.out k hlt
      have c0 := KR.out.some hc
      have P := Lib.hid (hp.kept KR.out)
      clear hc hp
      go_wp2_with fail; refine (what_none P.out c).mono ?_; rintro e w1 ⟨rfl, rfl⟩
      go_wp2_with fail; refine (begin_none P.out c x).mono ?_; rintro e w1 ⟨rfl, rfl⟩
      go_wp2_with fail; refine (step_none P.out c).mono ?_; rintro e w1 ⟨rfl, rfl⟩
      go_wp2_with fail; refine (end_none P.out c).mono ?_; rintro e w1 ⟨rfl, rfl⟩
      go_wp2_with fail; refine (steps_none P.out c).mono ?_; rintro e w1 ⟨rfl, rfl⟩
      go_wp2_with fail; refine (busyL_none P.out).mono ?_; rintro e w1 ⟨rfl, k1⟩
      have P1 := Lib.hid (P.out.kept k1)
      go_wp2_with fail; refine (turn_none P1.out x).mono ?_; rintro e w2 ⟨rfl, k2⟩
      have P2 := Lib.hid (P1.out.kept k2)
      go_wp2_with fail; refine (all_none P2.out).mono ?_; rintro e w3 ⟨rfl, rfl⟩
      go_wp2_with fail; refine (deeds_none P2.out).mono ?_; rintro e w3 ⟨rfl, rfl⟩
      go_wp2
      go_roundw
      case rel => exact ⟨k + 1, by omega, by go_num, (KR.out.trans k1).trans k2⟩
      case measure => simp [intOf]; omega
    · go_wp2_with fail; refine (awake_any _).mono ?_; rintro e w1 ⟨rfl, k1⟩
      go_wp2
      go_ret
      exact ⟨rfl, (KW.out.trans KR.out).trans k1⟩
end Go.Proofs.Ytdgajkimepgljaa
