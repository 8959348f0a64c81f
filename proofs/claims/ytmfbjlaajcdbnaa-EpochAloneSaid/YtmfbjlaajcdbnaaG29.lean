/- busy, begins: what a core is within. -/
import Derived.Test.YtmfbjlaajcdbnaaG27
import Derived.Deep.RegionHeld3
import Derived.Deep.Light
import Derived.Deep.QuietTactic
import Derived.BigQuiet
set_option linter.unusedVariables false
set_option linter.unusedSimpArgs false

namespace Go.Proofs.Ytmfbjlaajcdbnaa.Ep
set_option maxRecDepth 20000
open Go.RowKit
open Wo (St acc wordAt PMem RefIs)
open Sk (Stk Wd pmem_kept pmem_lt pmem_frame)

set_option maxHeartbeats 2000000 in
theorem busy_any {w0 w : World} {L0 L M B P U A T X : Nat} {m : Md} {bl : Nat → Nat} (h : CM w0 w L0 L M B P U A T X m bl) {c : Nat} (hc : c < 3) :
    Calls Try.prog 46 #[.pointer (some ⟨X, 0, none⟩), .int .i64 c] w fun e w' => e = .returned (.bool (m.k c).busy) ∧ w = w' := by
  have x1 := h.x1
  have x2 := h.x2
  have x3 := h.x3
  have cp := h.cp c hc
  have cu := h.cu c hc
  have ca := h.ca c hc
  have hci : (c : Int) < 3 := by omega
  clear h
  cases hk : m.k c with
  | idle =>
    rw [hk] at cp cu ca
    dsimp only [Kd.p, Kd.u, Kd.a, Kd.busy] at cp cu ca ⊢
    clear hk
    go_enter Try.func46, Try.ntmps46
    go_wp2
    go_ret
    exact ⟨rfl, rfl⟩
  | pin x =>
    rw [hk] at cp cu ca
    dsimp only [Kd.p, Kd.u, Kd.a, Kd.busy] at cp cu ca ⊢
    clear hk
    have eqn : ∀ W, (binOp .neq 37 (.pointer (some ⟨bl c, 0, none⟩)) (.pointer none)).run Try.prog W = .ok (.bool true) W := fun W => by kernel_rfl
    go_enter Try.func46, Try.ntmps46
    go_wp2
    go_ret
    exact ⟨rfl, rfl⟩
  | unpin x =>
    rw [hk] at cp cu ca
    dsimp only [Kd.p, Kd.u, Kd.a, Kd.busy] at cp cu ca ⊢
    clear hk
    have eqn : ∀ W, (binOp .neq 39 (.pointer (some ⟨bl c, 0, none⟩)) (.pointer none)).run Try.prog W = .ok (.bool true) W := fun W => by kernel_rfl
    go_enter Try.func46, Try.ntmps46
    go_wp2
    go_ret
    exact ⟨rfl, rfl⟩
  | adv x =>
    rw [hk] at cp cu ca
    dsimp only [Kd.p, Kd.u, Kd.a, Kd.busy] at cp cu ca ⊢
    clear hk
    have eqn : ∀ W, (binOp .neq 41 (.pointer (some ⟨bl c, 0, none⟩)) (.pointer none)).run Try.prog W = .ok (.bool true) W := fun W => by kernel_rfl
    go_enter Try.func46, Try.ntmps46
    go_wp2
    go_ret
    exact ⟨rfl, rfl⟩

def BeginPost (w0 : World) (L0 L M B P U A T X : Nat) (m : Md) (e : Ending) (w' : World) : Prop := ∃ bl, e = .returned (.tuple #[]) ∧ CM w0 w' L0 L M B P U A T X m bl
theorem CM.fresh {w0 w u : World} {L0 L M B P U A T X : Nat} {m : Md} {bl : Nat → Nat} (h : CM w0 w L0 L M B P U A T X m bl) {b : Nat} (hb : w.heap.size ≤ b) : L ≤ b ∧ ∀ d, d < 3 → m.k d ≠ .idle → bl d ≠ b :=
  ⟨Nat.le_trans h.top hb, fun d hd hbd => by have := (h.lo d hd hbd).2; omega⟩
set_option maxHeartbeats 2000000 in
theorem begins_pin {w0 w : World} {L0 L M B P U A T X : Nat} {m : Md} {bl : Nat → Nat} (h : CM w0 w L0 L M B P U A T X m bl) {c : Nat} (hc : c < 3) (hi : m.k c = .idle) (n : Int) (ha : m.at_ c < 0) :
    Calls Try.prog 84 #[.pointer (some ⟨X, 0, none⟩), .int .i64 c, .int .i64 n] w (BeginPost w0 L0 L M B P U A T X (m.begin c n)) := by
  have eb : m.begin c n = ⟨m.s, putf m.k c (.pin EOp.new), m.at_⟩ := by unfold Md.begin; rw [if_pos ha]
  rw [eb]
  have x1 := h.x1
  have x2 := h.x2
  have x3 := h.x3
  have x4 := h.x4
  have cp := h.cp c hc
  have cu := h.cu c hc
  have ca := h.ca c hc
  have ct := h.ct c hc
  have fp := h.fp
  have fu := h.fu
  have fa := h.fa
  have ft := h.ft
  obtain ⟨sX, sP, sU, sA, sT⟩ := h.size
  obtain ⟨n1, n2, n3, n4, n5, n6, n7, n8, n9, n10⟩ := h.fx.ne
  have hci : (c : Int) < 3 := by omega
  have hc0 : (0 : Int) ≤ (c : Int) := by omega
  have HC := Lib.hid h
  have top := h.top
  rw [hi] at cp cu ca
  dsimp only [Kd.p, Kd.u, Kd.a] at cp cu ca
  clear h
  go_enter Try.func84, Try.ntmps84
  go_wp2_with fail
  go_region_held3 (fun w' => w'.cell? ⟨X, 1, none⟩ = some (.slice (some ⟨P, 0, none⟩) 3 3)) (first | go_keep | (exact KA.some x1) | (exact KB.some x1)) (first
    | (go_at_call 41; refine (three_any _).mono ?_; rintro e u1 ⟨rfl, k1⟩; have KA : Kept w u1 := Kept.trans (b := _) (by repeat (first | (with_reducible exact Kept.refl _) | (with_reducible refine Kept.drew ?_) | (with_reducible refine Kept.drewN ?_ _))) k1)
    | (go_at_call 37; refine (newPin_yes S3 c _ hc0 hci).mono ?_; rintro e u2 ⟨b, rfl, lb, gb, ob, k2⟩; have KQ : Kept u1 u2 := Kept.trans (b := _) (by repeat (first | (with_reducible exact Kept.refl _) | (with_reducible refine Kept.drew ?_) | (with_reducible refine Kept.drewN ?_ _))) k2; have lb1 : u1.heap.size ≤ b := lb; have KB := KA.trans KQ; have cpu := KB.some cp; have fpu : (∀ i, u2.frozen? ⟨P, i, none⟩ = false) := (fun i => KB.soft sP (fp i))))
  all_goals
    have lb0 : w.heap.size ≤ b := Nat.le_trans KA.size lb1
    have F := HC.out.fresh (u := u2) lb0
    have CN := Lib.hid ((HC.out.kept KB).bornP hc hi F.1 gb F.2 ob)
    clear KA KQ KB cpu fpu lb gb ob k1 k2 x1 x2 x3 x4 cp cu ca ct fp fu fa ft F
    go_wp2
    go_end0
    exact ⟨_, rfl, by first | exact CN.out | exact CN.out.kept (Kept.refl _).drew | exact CN.out.kept ((Kept.refl _).drewN _)⟩
set_option maxHeartbeats 2000000 in
theorem begins_unpin {w0 w : World} {L0 L M B P U A T X : Nat} {m : Md} {bl : Nat → Nat} (h : CM w0 w L0 L M B P U A T X m bl) {c : Nat} (hc : c < 3) (hi : m.k c = .idle) (n : Int) (hn0 : 0 ≤ n) (ha : 0 ≤ m.at_ c) (h3 : n % 3 = 0) :
    Calls Try.prog 84 #[.pointer (some ⟨X, 0, none⟩), .int .i64 c, .int .i64 n] w (BeginPost w0 L0 L M B P U A T X (m.begin c n)) := by
  have eb : m.begin c n = ⟨m.s, putf m.k c (.unpin EOp.new), putf m.at_ c (-1)⟩ := by unfold Md.begin; rw [if_neg (by omega), if_pos h3]
  rw [eb]
  have ht3 : n.tmod 3 = 0 := by rw [Int.tmod_eq_emod_of_nonneg hn0]; exact h3
  have hnk : ∀ x, putf m.k c (.unpin EOp.new) c ≠ .adv x := fun x => by rw [put_self]; simp
  have x1 := h.x1
  have x2 := h.x2
  have x3 := h.x3
  have x4 := h.x4
  have cp := h.cp c hc
  have cu := h.cu c hc
  have ca := h.ca c hc
  have ct := h.ct c hc
  have fp := h.fp
  have fu := h.fu
  have fa := h.fa
  have ft := h.ft
  obtain ⟨sX, sP, sU, sA, sT⟩ := h.size
  obtain ⟨n1, n2, n3, n4, n5, n6, n7, n8, n9, n10⟩ := h.fx.ne
  have hci : (c : Int) < 3 := by omega
  have hc0 : (0 : Int) ≤ (c : Int) := by omega
  have HC := Lib.hid h
  have top := h.top
  rw [hi] at cp cu ca
  dsimp only [Kd.p, Kd.u, Kd.a] at cp cu ca
  clear h
  go_enter Try.func84, Try.ntmps84
  go_wp2_with fail
  go_region_held3 (fun w' => w'.cell? ⟨X, 2, none⟩ = some (.slice (some ⟨U, 0, none⟩) 3 3)) (first | go_keep | (exact KA.some x2) | (exact KB.some x2)) (first
    | (go_at_call 41; refine (three_any _).mono ?_; rintro e u1 ⟨rfl, k1⟩; have KA : Kept w u1 := Kept.trans (b := _) (by repeat (first | (with_reducible exact Kept.refl _) | (with_reducible refine Kept.drew ?_) | (with_reducible refine Kept.drewN ?_ _))) k1)
    | (go_at_call 36; refine (newUnpin_yes S3 c _ hc0 hci).mono ?_; rintro e u2 ⟨b, rfl, lb, gb, ob, k2⟩; have KQ : Kept u1 u2 := Kept.trans (b := _) (by repeat (first | (with_reducible exact Kept.refl _) | (with_reducible refine Kept.drew ?_) | (with_reducible refine Kept.drewN ?_ _))) k2; have lb1 : u1.heap.size ≤ b := lb; have KB := KA.trans KQ; have cpu := KB.some cu; have fpu : (∀ i, u2.frozen? ⟨U, i, none⟩ = false) := (fun i => KB.soft sU (fu i))))
  all_goals
    have lb0 : w.heap.size ≤ b := Nat.le_trans KA.size lb1
    have F := HC.out.fresh (u := u2) lb0
    have CN0 := (HC.out.kept KB).bornU hc hi F.1 gb F.2 ob
    obtain ⟨u3, hu3⟩ : ∃ u3, u2.setCell ⟨U, c, none⟩ (.pointer (some ⟨b, 0, none⟩)) = u3 := ⟨_, rfl⟩
    rw [hu3] at CN0 ⊢
    have CN := Lib.hid CN0
    have y4 := CN0.x4
    have yt := CN0.ct c hc
    have yf := CN0.ft
    clear KA KQ KB cpu fpu lb gb ob k1 k2 x1 x2 x3 x4 cp cu ca ct fp fu fa ft F CN0 hu3
    go_wp2
    go_end0
    have CD := CN.out.setAt (c := c) (-1) hnk
    exact ⟨_, rfl, by first | exact CD | exact CD.kept (Kept.refl _).drew | exact CD.kept ((Kept.refl _).drewN _)⟩
set_option maxHeartbeats 2000000 in
theorem begins_adv {w0 w : World} {L0 L M B P U A T X : Nat} {m : Md} {bl : Nat → Nat} (h : CM w0 w L0 L M B P U A T X m bl) {c : Nat} (hc : c < 3) (hi : m.k c = .idle) (n : Int) (hn0 : 0 ≤ n) (ha : 0 ≤ m.at_ c) (h3 : n % 3 ≠ 0) :
    Calls Try.prog 84 #[.pointer (some ⟨X, 0, none⟩), .int .i64 c, .int .i64 n] w (BeginPost w0 L0 L M B P U A T X (m.begin c n)) := by
  have eb : m.begin c n = ⟨m.s, putf m.k c (.adv EOp.new), m.at_⟩ := by unfold Md.begin; rw [if_neg (by omega), if_neg h3]
  rw [eb]
  have ht3 : (n.tmod 3 == 0) = false := by rw [Int.tmod_eq_emod_of_nonneg hn0]; simpa using h3
  have x1 := h.x1
  have x2 := h.x2
  have x3 := h.x3
  have x4 := h.x4
  have cp := h.cp c hc
  have cu := h.cu c hc
  have ca := h.ca c hc
  have ct := h.ct c hc
  have fp := h.fp
  have fu := h.fu
  have fa := h.fa
  have ft := h.ft
  obtain ⟨sX, sP, sU, sA, sT⟩ := h.size
  obtain ⟨n1, n2, n3, n4, n5, n6, n7, n8, n9, n10⟩ := h.fx.ne
  have hci : (c : Int) < 3 := by omega
  have hc0 : (0 : Int) ≤ (c : Int) := by omega
  have HC := Lib.hid h
  have top := h.top
  rw [hi] at cp cu ca
  dsimp only [Kd.p, Kd.u, Kd.a] at cp cu ca
  clear h
  go_enter Try.func84, Try.ntmps84
  go_wp2_with fail
  go_region_held3 (fun w' => w'.cell? ⟨X, 3, none⟩ = some (.slice (some ⟨A, 0, none⟩) 3 3) ∧ w'.cell? ⟨X, 4, none⟩ = some (.slice (some ⟨T, 0, none⟩) 3 3) ∧ w'.cell? ⟨T, c, none⟩ = some (.int .i64 (m.at_ c))) (first | go_keep | (exact ⟨KA.some x3, KA.some x4, KA.some ct⟩) | (exact ⟨KB.some x3, KB.some x4, KB.some ct⟩) | (exact ⟨row_far (by omega) (KB.some x3), row_far (by omega) (KB.some x4), row_far (by omega) (KB.some ct)⟩)) (first
    | (go_at_call 41; refine (three_any _).mono ?_; rintro e u1 ⟨rfl, k1⟩; have KA : Kept w u1 := Kept.trans (b := _) (by repeat (first | (with_reducible exact Kept.refl _) | (with_reducible refine Kept.drew ?_) | (with_reducible refine Kept.drewN ?_ _))) k1)
    | (go_at_call 38; refine (newAdvance_yes S3 c (m.at_ c) _ hc0 hci).mono ?_; rintro e u2 ⟨b, rfl, lb, gb, ob, k2⟩; have KQ : Kept u1 u2 := Kept.trans (b := _) (by repeat (first | (with_reducible exact Kept.refl _) | (with_reducible refine Kept.drew ?_) | (with_reducible refine Kept.drewN ?_ _))) k2; have lb1 : u1.heap.size ≤ b := lb; have KB := KA.trans KQ; have cpu := KB.some ca; have fpu : (∀ i, u2.frozen? ⟨A, i, none⟩ = false) := (fun i => KB.soft sA (fa i))))
  all_goals
    have lb0 : w.heap.size ≤ b := Nat.le_trans KA.size lb1
    have F := HC.out.fresh (u := u2) lb0
    have CN := Lib.hid ((HC.out.kept KB).bornA hc hi F.1 gb F.2 ob)
    clear KA KQ KB cpu fpu lb gb ob k1 k2 x1 x2 x3 x4 cp cu ca ct fp fu fa ft F
    go_wp2
    go_end0
    exact ⟨_, rfl, by first | exact CN.out | exact CN.out.kept (Kept.refl _).drew | exact CN.out.kept ((Kept.refl _).drewN _)⟩
theorem begins_any {w0 w : World} {L0 L M B P U A T X : Nat} {m : Md} {bl : Nat → Nat} (h : CM w0 w L0 L M B P U A T X m bl) {c : Nat} (hc : c < 3) (hi : m.k c = .idle) (n : Int) (hn0 : 0 ≤ n) :
    Calls Try.prog 84 #[.pointer (some ⟨X, 0, none⟩), .int .i64 c, .int .i64 n] w (BeginPost w0 L0 L M B P U A T X (m.begin c n)) := by
  by_cases ha : m.at_ c < 0
  · exact begins_pin h hc hi n ha
  · by_cases h3 : n % 3 = 0
    · exact begins_unpin h hc hi n hn0 (by omega) h3
    · exact begins_adv h hc hi n hn0 (by omega) h3
end Go.Proofs.Ytmfbjlaajcdbnaa.Ep

namespace Go.Proofs.Ytmfbjlaajcdbnaa.Ep
set_option maxRecDepth 20000
open Go.RowKit
open Wo (St acc wordAt PMem RefIs)
open Sk (Stk Wd pmem_kept pmem_lt pmem_frame)

theorem Inv.now {m : Md} {t : Int} (h : Inv m t) : ep (hv 4 m.s.ws 0) = m.E  := by
  have e : hv 4 m.s.ws 0 = m.E := rfl
  rw [e]
  exact ep_small h.e0 (by have := h.e1; have := h.t1; omega)
theorem Inv.all {m : Md} {t : Int} (h : Inv m t) {c : Nat} (hc : c < 3) (h0 : 0 ≤ m.at_ c) : pinL 4 m.s.ws S3 c = m.at_ c := by
  obtain ⟨p, a, b⟩ := h.pins c hc h0
  have e : hv 4 m.s.ws (S3.K + (c : Int)) = m.at_ c + 1 := by
    rw [hv_word, wordc m.s c hc]; exact p
  have := h.e1
  have := h.t1
  unfold pinL pinV
  rw [e, if_neg (by omega), show m.at_ c + 1 - 1 = m.at_ c by omega]
  exact ep_small h0 (by omega)
set_option maxHeartbeats 8000000 in
theorem within_any {w0 w : World} {L0 L M B P U A T X : Nat} {m : Md} {bl : Nat → Nat} {t : Int} (h : CM w0 w L0 L M B P U A T X m bl) (hi : Inv m t) :
    Calls Try.prog 85 #[.pointer (some ⟨X, 0, none⟩)] w fun e w' => e = .returned (.bool true) ∧ Kept w w' := by
  have x0 := h.x0
  have HC := Lib.hid h
  have HI := Lib.hid hi
  have NW := Lib.hid (fun W (k : Kept w W) => now3 (HC.out.mem.grow k))
  rw [hi.now] at NW
  have PN := Lib.hid (fun W (k : Kept w W) => pinned_ints (HC.out.mem.grow k))
  clear h hi
  go_enter Try.func85, Try.ntmps85
  go_wp2_with fail
  go_region_held3 (fun w' => w'.cell? ⟨X, 0, none⟩ = some (.pointer (some ⟨M, 0, none⟩))) (first | go_keep | (exact KD.some x0) | (exact KC.some x0) | (exact KB.some x0) | (exact KA.some x0)) (first
    | (go_at_call 16; refine (NW.out _ (by first | exact KA | exact KA.drew | exact KA.drewN _)).mono ?_; rintro e u2 ⟨rfl, k2⟩; have KB : Kept w u2 := KA.trans (Kept.trans (b := _) (by repeat (first | (with_reducible exact Kept.refl _) | (with_reducible refine Kept.drew ?_) | (with_reducible refine Kept.drewN ?_ _))) k2))
    | (go_at_call 15; refine (PN.out _ (by first | exact KC | exact KC.drew | exact KC.drewN _)).mono ?_; rintro e u4 ⟨G, rfl, lG, cG, k4⟩; have KD : Kept w u4 := KC.trans (Kept.trans (b := _) (by repeat (first | (with_reducible exact Kept.refl _) | (with_reducible refine Kept.drew ?_) | (with_reducible refine Kept.drewN ?_ _))) k4); have HG := Lib.hid cG)
    | (go_at_call 41; refine (three_any _).mono ?_; rintro e u3 ⟨rfl, k3⟩; have KC : Kept w u3 := KB.trans (Kept.trans (b := _) (by repeat (first | (with_reducible exact Kept.refl _) | (with_reducible refine Kept.drew ?_) | (with_reducible refine Kept.drewN ?_ _))) k3))
    | (go_at_call 41; refine (three_any _).mono ?_; rintro e u1 ⟨rfl, k1⟩; have KA : Kept w u1 := Kept.trans (b := _) (by repeat (first | (with_reducible exact Kept.refl _) | (with_reducible refine Kept.drew ?_) | (with_reducible refine Kept.drewN ?_ _))) k1))
  have HK := Lib.hid KD
  clear KA KB KC KD k1 k2 k3 k4 lG cG x0
  rename_i hcells
  clear hcells
  go_wp2_with fail
  go_loopw [5] (fun i wr => ∃ k : Nat, k ≤ 3 ∧ i = .int .i64 k ∧ Kept u4 wr) (fun i _ => 3 - (intOf i).toNat)
  case atStart => exact ⟨0, by decide, rfl, Kept.refl _⟩
  case round =>
    obtain ⟨k, hk, rfl, kr⟩ := hrel
    have KR := Lib.hid kr
    clear kr
    by_cases hlt : k < 3
    · have hl : (k : Int) < 3 := by omega
      have hl0 : (0 : Int) ≤ (k : Int) := by omega
      have x4 := (HK.out.trans KR.out).some HC.out.x4
      have ct := (HK.out.trans KR.out).some (HC.out.ct k hlt)
      have cg := KR.out.some (HG.out k hlt)
      by_cases ha : m.at_ k < 0
      · have hd : decide (0 ≤ m.at_ k) = false := by simpa using ha
        go_wp2_with fail
        go_quiet (fail)
        go_wp2
        go_roundw
        case rel => exact ⟨k + 1, by omega, by go_num, by first | exact KR.out | exact KR.out.drew | exact KR.out.drewN _⟩
        case measure => simp [intOf]; omega
      · have h0 : 0 ≤ m.at_ k := by omega
        rw [HI.out.all hlt h0] at cg
        obtain ⟨_, b1, b2⟩ := HI.out.pins k hlt h0
        have e1 := HI.out.e1
        have t1 := HI.out.t1
        have hd : decide (0 ≤ m.at_ k) = true := by simpa using h0
        have hw : IntKind.i64.wrap (m.at_ k + 1) = m.at_ k + 1 := by rw [IntKind.wrap_i64]; omega
        by_cases he : m.E = m.at_ k
        · have hE : (m.E != m.at_ k) = false := by simpa using he
          clear b1 b2 e1 t1 he ha
          go_wp2_with fail
          go_quiet (fail)
          go_wp2
          go_roundw
          case rel => exact ⟨k + 1, by omega, by go_num, by first | exact KR.out | exact KR.out.drew | exact KR.out.drewN _⟩
          case measure => simp [intOf]; omega
        · have he2 : m.E = m.at_ k + 1 := by omega
          have hE : (m.E != m.at_ k) = true := by simpa using he
          have hE2 : (m.E != m.at_ k + 1) = false := by simpa using he2
          clear b1 b2 e1 t1 he he2 ha
          go_wp2_with fail
          go_quiet (fail)
          go_wp2
          go_roundw
          case rel => exact ⟨k + 1, by omega, by go_num, by first | exact KR.out | exact KR.out.drew | exact KR.out.drewN _⟩
          case measure => simp [intOf]; omega
    · have hge : ¬ (k : Int) < 3 := by omega
      go_wp2
      go_ret
      exact ⟨rfl, HK.out.trans KR.out⟩
end Go.Proofs.Ytmfbjlaajcdbnaa.Ep

namespace Go.Proofs.Ytmfbjlaajcdbnaa.Ep
set_option maxRecDepth 20000
open Go.RowKit
open Wo (St acc wordAt PMem RefIs)
open Sk (Stk Wd pmem_kept pmem_lt pmem_frame)

theorem infoPin : (Try.prog.info? 37).map (fun i => (i.zero, i.size, i.bytes)) = some (some (.pointer none), 1, 8) := by kernel_rfl
theorem infoUnpin : (Try.prog.info? 39).map (fun i => (i.zero, i.size, i.bytes)) = some (some (.pointer none), 1, 8) := by kernel_rfl
theorem infoAdv : (Try.prog.info? 41).map (fun i => (i.zero, i.size, i.bytes)) = some (some (.pointer none), 1, 8) := by kernel_rfl
theorem made3 (c : Nat) (h : c < 3) : (madeCells #[Value.pointer none] 3)[c]? = some (.pointer none) := by
  simp [madeCells, h, Array.getElem!_eq_getD, Array.getD_eq_getD_getElem?, Nat.mod_one]
theorem make_pins : ∃ Z : Array Value, (∀ c, c < 3 → Z[c]? = some (.pointer none)) ∧ ∀ w : World, (Instr.makeSlice 71 (.int .i64 3) (.int .i64 3)).run Try.prog w = .ok (.slice (some ⟨w.heap.size, 0, none⟩) 3 3) (w.alloc (.cells Z 37)) := by
  obtain ⟨i0, hi, hz0, hz1, hz2⟩ := info_parts infoPin
  refine ⟨madeCells #[.pointer none] 3, made3, fun w => ?_⟩
  have h := run_makeSlice (P := Try.prog) w 71 37 i0 (.pointer none) Try.underlying71 hi hz0 .i64 .i64 3 3 (by omega) (Int.le_refl _) (by rw [hz1]; decide) (by rw [hz2]; decide) (by decide)
  rw [h, hz1]
  rfl
theorem make_unpins : ∃ Z : Array Value, (∀ c, c < 3 → Z[c]? = some (.pointer none)) ∧ ∀ w : World, (Instr.makeSlice 75 (.int .i64 3) (.int .i64 3)).run Try.prog w = .ok (.slice (some ⟨w.heap.size, 0, none⟩) 3 3) (w.alloc (.cells Z 39)) := by
  obtain ⟨i0, hi, hz0, hz1, hz2⟩ := info_parts infoUnpin
  refine ⟨madeCells #[.pointer none] 3, made3, fun w => ?_⟩
  have h := run_makeSlice (P := Try.prog) w 75 39 i0 (.pointer none) Try.underlying75 hi hz0 .i64 .i64 3 3 (by omega) (Int.le_refl _) (by rw [hz1]; decide) (by rw [hz2]; decide) (by decide)
  rw [h, hz1]
  rfl
theorem make_advs : ∃ Z : Array Value, (∀ c, c < 3 → Z[c]? = some (.pointer none)) ∧ ∀ w : World, (Instr.makeSlice 77 (.int .i64 3) (.int .i64 3)).run Try.prog w = .ok (.slice (some ⟨w.heap.size, 0, none⟩) 3 3) (w.alloc (.cells Z 41)) := by
  obtain ⟨i0, hi, hz0, hz1, hz2⟩ := info_parts infoAdv
  refine ⟨madeCells #[.pointer none] 3, made3, fun w => ?_⟩
  have h := run_makeSlice (P := Try.prog) w 77 41 i0 (.pointer none) Try.underlying77 hi hz0 .i64 .i64 3 3 (by omega) (Int.le_refl _) (by rw [hz1]; decide) (by rw [hz2]; decide) (by decide)
  rw [h, hz1]
  rfl
def m0 : Md := ⟨s0, fun _ => .idle, fun _ => -1⟩
theorem m0_words : s0.ws 0 = 0 ∧ s0.ws 1 = 0 ∧ s0.ws 2 = 0 ∧ s0.ws 3 = 0 := by decide +kernel
theorem inv_m0 : Inv m0 0 := by
  obtain ⟨a0, a1, a2, a3⟩ := m0_words
  refine ⟨fillTo_wd (wd_zero 4) _, by show (0 : Int) ≤ s0.ws 0; rw [a0]; decide, by show s0.ws 0 ≤ (0 : Int); rw [a0]; decide, by decide, fun c _ h => ?_, fun c hc => ?_⟩
  · have h : (0 : Int) ≤ -1 := h
    omega
  · intro _
    show s0.ws (c + 1) = 0
    have : c = 0 ∨ c = 1 ∨ c = 2 := by omega
    rcases this with rfl | rfl | rfl
    · exact a1
    · exact a2
    · exact a3
structure BgL (w1 W : World) (P U A T X : Nat) : Prop where
  k : Kept w1 W
  b : w1.heap.size ≤ P ∧ w1.heap.size ≤ U ∧ w1.heap.size ≤ A ∧ w1.heap.size ≤ T ∧ w1.heap.size ≤ X
  s : P < w1.heap.size + 5 ∧ U < w1.heap.size + 5 ∧ A < w1.heap.size + 5 ∧ T < w1.heap.size + 5 ∧ X < w1.heap.size + 5
  ne : P ≠ U ∧ P ≠ A ∧ P ≠ T ∧ P ≠ X ∧ U ≠ A ∧ U ≠ T ∧ U ≠ X ∧ A ≠ T ∧ A ≠ X ∧ T ≠ X
  cp : ∀ c, c < 3 → W.cell? ⟨P, c, none⟩ = some (.pointer none)
  cu : ∀ c, c < 3 → W.cell? ⟨U, c, none⟩ = some (.pointer none)
  ca : ∀ c, c < 3 → W.cell? ⟨A, c, none⟩ = some (.pointer none)
  ct : ∀ c, c < 3 → W.cell? ⟨T, c, none⟩ = some (.int .i64 (-1))
  fp : ∀ i, W.frozen? ⟨P, i, none⟩ = false
  fu : ∀ i, W.frozen? ⟨U, i, none⟩ = false
  fa : ∀ i, W.frozen? ⟨A, i, none⟩ = false
  ft : ∀ i, W.frozen? ⟨T, i, none⟩ = false
def BgPost (w : World) (e : Ending) (w' : World) : Prop := ∃ L0 L M B P U A T X bl, e = .returned (.pointer (some ⟨X, 0, none⟩)) ∧ CM w w' L0 L M B P U A T X m0 bl
theorem bg_close {w w1 W : World} {M B X : Nat} (hX : w1.heap.size + 4 ≤ X) (i1 : In w M B s0 w1) (x0 : W.cell? ⟨X, 0, none⟩ = some (.pointer (some ⟨M, 0, none⟩)))
    (h : ∃ P U A T, W.cell? ⟨X, 1, none⟩ = some (.slice (some ⟨P, 0, none⟩) 3 3) ∧ W.cell? ⟨X, 2, none⟩ = some (.slice (some ⟨U, 0, none⟩) 3 3) ∧ W.cell? ⟨X, 3, none⟩ = some (.slice (some ⟨A, 0, none⟩) 3 3) ∧ W.cell? ⟨X, 4, none⟩ = some (.slice (some ⟨T, 0, none⟩) 3 3) ∧ BgL w1 W P U A T X) :
    BgPost w (.returned (.pointer (some ⟨X, 0, none⟩))) W := by
  obtain ⟨P, U, A, T, x1, x2, x3, x4, q⟩ := h
  obtain ⟨k, b, s, ne, cp, cu, ca, ct, fp, fu, fa, ft⟩ := q
  have hM := i1.hM
  have hB := i1.hB
  have hXW := lt_of_cell x0
  refine ⟨w1.heap.size, w1.heap.size + 5, M, B, P, U, A, T, X, fun _ => 0, rfl, ⟨⟨⟨i1.lM, i1.lB, i1.kept.size⟩, ⟨hM, hB⟩, b, s, ne⟩, i1.grow k, x0, x1, x2, x3, x4, cp, cu, ca, ct, fp, fu, fa, ft, fun c _ => trivial, fun c _ h => absurd rfl h, by omega, fun c d _ _ _ h => absurd rfl h⟩⟩
set_option maxHeartbeats 8000000 in
theorem begun_any3 (w : World) : Calls Try.prog 44 #[] w (BgPost w) := by
  obtain ⟨Z1, hz1, mk1⟩ := make_pins
  obtain ⟨Z2, hz2, mk2⟩ := make_unpins
  obtain ⟨Z3, hz3, mk3⟩ := make_advs
  have HZ1 := Lib.hid hz1
  have HZ2 := Lib.hid hz2
  have HZ3 := Lib.hid hz3
  clear hz1 hz2 hz3
  go_enter Try.func44, Try.ntmps44
  go_wp2_with fail
  refine (filled_any _).mono ?_
  rintro e w1 ⟨M, B, rfl, i1⟩
  have I1 := Lib.hid i1
  have eqn : ∀ W, (binOp .eql 29 (.pointer (some ⟨M, 0, none⟩)) (.pointer none)).run Try.prog W = .ok (.bool false) W := fun W => by kernel_rfl
  clear i1
  go_wp2_with fail
  go_region_held3 (fun _ => True) (first | trivial) (fail)
  all_goals go_wp2
  all_goals go_ret
  all_goals
    refine (bg_close (X := w1.heap.size + 1 + 1 + 1 + 1) (by omega) I1.out ?_ ?_ : BgPost w (.returned (.pointer (some ⟨w1.heap.size + 1 + 1 + 1 + 1, 0, none⟩))) _)
    · refine past3 ?_
      refine cell_new _ _ _ _ 0 ?_
      simp
    apply Exists.intro
    apply Exists.intro
    apply Exists.intro
    apply Exists.intro
    refine ⟨?_, ?_, ?_, ?_, ?_⟩
    · refine past3 ?_
      refine cell_new _ _ _ _ 1 ?_
      simp
    · refine past3 ?_
      refine cell_new _ _ _ _ 2 ?_
      simp
    · refine past3 ?_
      refine cell_new _ _ _ _ 3 ?_
      simp
    · refine past3 ?_
      refine cell_new _ _ _ _ 4 ?_
      simp
    refine ⟨?_, by omega, by omega, by omega, ?_, ?_, ?_, ?_, ?_, ?_, ?_, ?_⟩
    · repeat (first | (with_reducible exact Kept.refl _) | (with_reducible refine Kept.drew ?_) | (with_reducible refine Kept.alloc ?_ _ _))
    · intro c hc
      (repeat (first | (with_reducible refine past3 ?_) | (refine (cell_new _ _ _ _ c ?_).trans (HZ1.out c hc); focus (simp; done)) | (with_reducible refine past2 ?_)))
    · intro c hc
      (repeat (first | (with_reducible refine past3 ?_) | (refine (cell_new _ _ _ _ c ?_).trans (HZ2.out c hc); focus (simp; done)) | (with_reducible refine past2 ?_)))
    · intro c hc
      (repeat (first | (with_reducible refine past3 ?_) | (refine (cell_new _ _ _ _ c ?_).trans (HZ3.out c hc); focus (simp; done)) | (with_reducible refine past2 ?_)))
    · intro c hc
      have hcc : c = 0 ∨ c = 1 ∨ c = 2 := by omega
      rcases hcc with rfl | rfl | rfl
      · repeat (first | (with_reducible refine past3 ?_) | (refine cell_new _ _ _ _ 0 ?_; focus (simp; done)) | (with_reducible refine past2 ?_))
      · repeat (first | (with_reducible refine past3 ?_) | (refine cell_new _ _ _ _ 1 ?_; focus (simp; done)) | (with_reducible refine past2 ?_))
      · repeat (first | (with_reducible refine past3 ?_) | (refine cell_new _ _ _ _ 2 ?_; focus (simp; done)) | (with_reducible refine past2 ?_))
    · intro j
      (repeat (first | (with_reducible refine zast3 ?_) | (with_reducible refine frozen_at _ _ _ _ _ ?_; focus (simp; done)) | (with_reducible refine zast2 ?_ ?_; focus (first | (simp; done) | (simp; omega)))))
    · intro j
      (repeat (first | (with_reducible refine zast3 ?_) | (with_reducible refine frozen_at _ _ _ _ _ ?_; focus (simp; done)) | (with_reducible refine zast2 ?_ ?_; focus (first | (simp; done) | (simp; omega)))))
    · intro j
      (repeat (first | (with_reducible refine zast3 ?_) | (with_reducible refine frozen_at _ _ _ _ _ ?_; focus (simp; done)) | (with_reducible refine zast2 ?_ ?_; focus (first | (simp; done) | (simp; omega)))))
    · intro j
      (repeat (first | (with_reducible refine zast3 ?_) | (with_reducible refine frozen_at _ _ _ _ _ ?_; focus (simp; done)) | (with_reducible refine zast2 ?_ ?_; focus (first | (simp; done) | (simp; omega)))))
end Go.Proofs.Ytmfbjlaajcdbnaa.Ep
