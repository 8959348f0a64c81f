/- steps: a core makes a step of what it is within. Written by gen12g.py. -/
import Derived.Test.YtmfbjlaajcdbnaaG27
import Derived.Deep.RegionHeld3
import Derived.Deep.QuietTactic
import Derived.BigQuiet
import Derived.Deep.Light
set_option linter.unusedVariables false
set_option linter.unusedSimpArgs false

namespace Go.Proofs.Ytmfbjlaajcdbnaa.Ep
set_option maxRecDepth 20000
open Go.RowKit
open Wo (St acc wordAt PMem RefIs)
open Sk (Stk Wd pmem_kept pmem_lt pmem_frame)

theorem put_put {α : Type} (f : Nat → α) (c : Nat) (a b : α) : putf (putf f c a) c b = putf f c b := by
  funext d
  unfold putf
  split <;> rfl
theorem CM.bk {w0 w : World} {L0 L M B P U A T X : Nat} {m : Md} {bl : Nat → Nat} (h : CM w0 w L0 L M B P U A T X m bl) {c : Nat} (hc : c < 3) (hb : m.k c ≠ .idle) : Bk w0 M B (bl c) := by
  have l := h.lo c hc hb
  have z := h.fx.z
  have hm := h.fx.m
  have lo := h.fx.lo
  have hi := h.fx.hi
  exact ⟨by omega, by omega, by omega⟩
def StepsPost (w0 : World) (L0 L M B P U A T X : Nat) (on fine : Bool) (m : Md) (bl : Nat → Nat) (e : Ending) (w' : World) : Prop := e = .returned (.tuple #[.bool on, .bool fine]) ∧ CM w0 w' L0 L M B P U A T X m bl
set_option maxHeartbeats 4000000 in
theorem go_pin_on {w0 w : World} {L0 L M B P U A T X : Nat} {m : Md} {bl : Nat → Nat} (h : CM w0 w L0 L M B P U A T X m bl) {c : Nat} (hc : c < 3) {x : EOp} (hk : m.k c = .pin x) (hcnt : m.s.cnt < 900000) (hx : x.Ok) (h9 : ((pinOp 4 S3 m.s x).line == 9) = false) :
    Calls Try.prog 47 #[.pointer (some ⟨X, 0, none⟩), .int .i64 c] w (StepsPost w0 L0 L M B P U A T X false true ⟨pinSt 4 S3 c m.s x, putf m.k c (.pin (pinOp 4 S3 m.s x)), m.at_⟩ bl) := by
  have x0 := h.x0
  have x1 := h.x1
  have x2 := h.x2
  have x3 := h.x3
  have x4 := h.x4
  have cp := h.cp c hc
  have cu := h.cu c hc
  have ca := h.ca c hc
  have ct := h.ct c hc
  obtain ⟨sX, sP, sU, sA, sT⟩ := h.size
  obtain ⟨n1, n2, n3, n4, n5, n6, n7, n8, n9, n10⟩ := h.fx.ne
  obtain ⟨f1, f2, f3, f4, f5⟩ := h.fx.hi
  obtain ⟨g1, g2, g3, g4, g5⟩ := h.fx.lo
  have hMB := h.fx.m
  have hbz : m.k c ≠ .idle := by rw [hk]; simp
  have lb := h.lo c hc hbz
  have hci : (c : Int) < 3 := by omega
  have hc0 : (0 : Int) ≤ (c : Int) := by omega
  have HC := Lib.hid h
  rw [hk] at cp cu ca
  dsimp only [Kd.p, Kd.u, Kd.a] at cp cu ca
  have o : PinAt w (bl c) S3 c x := by have := h.op c hc; rw [hk] at this; exact this
  have ST : Hid (∀ W, Kept w W → Calls Try.prog 30 #[.pointer (some ⟨bl c, 0, none⟩), .pointer (some ⟨M, 0, none⟩)] W (Does (fun w' => PinAt w' (bl c) S3 c (pinOp 4 S3 m.s x)) w0 M B (pinSt 4 S3 c m.s x) (bl c) false W)) := Lib.hid (fun W k => by
    have z := pin3 (HC.out.mem.grow k) (o.kept k) (HC.out.bk hc hbz) hx hcnt hc0 hci
    rw [h9] at z
    exact z)
  have eqn : ∀ W, (binOp .neq 37 (.pointer (some ⟨bl c, 0, none⟩)) (.pointer none)).run Try.prog W = .ok (.bool true) W := fun W => by kernel_rfl
  clear h o
  go_enter Try.func47, Try.ntmps47
  go_wp2_with fail
  go_region_held3 (fun w' => w'.cell? ⟨X, 0, none⟩ = some (.pointer (some ⟨M, 0, none⟩)) ∧ w'.cell? ⟨X, 1, none⟩ = some (.slice (some ⟨P, 0, none⟩) 3 3) ∧ w'.cell? ⟨P, c, none⟩ = some (.pointer (some ⟨bl c, 0, none⟩))) (first | go_keep | (exact ⟨q0, q1, r1⟩)) (first
    | (go_at_call 30; refine (ST.out _ (by repeat (first | (with_reducible exact Kept.refl _) | (with_reducible refine Kept.drew ?_) | (with_reducible refine Kept.drewN ?_ _)))).mono ?_; rintro e v ⟨rfl, ov, iv, bv⟩; have BW : But (fun k => k = bl c ∨ k = B) w v := (Kept.but (w := w) (w' := _) (by repeat (first | (with_reducible exact Kept.refl _) | (with_reducible refine Kept.drew ?_) | (with_reducible refine Kept.drewN ?_ _))) _).trans bv (fun _ _ h => h); have CW : CM w0 v L0 L M B P U A T X ⟨pinSt 4 S3 c m.s x, putf m.k c (.pin (pinOp 4 S3 m.s x)), m.at_⟩ bl := HC.out.went hc hbz BW iv ov (by rw [hk]; rfl) (by rw [hk]; rfl) (by rw [hk]; rfl); have q0 := BW.some x0 (by rintro (e | e) <;> omega); have q1 := BW.some x1 (by rintro (e | e) <;> omega); have q2 := BW.some x2 (by rintro (e | e) <;> omega); have q3 := BW.some x3 (by rintro (e | e) <;> omega); have q4 := BW.some x4 (by rintro (e | e) <;> omega); have r1 := BW.some cp (by rintro (e | e) <;> omega); have r2 := BW.some cu (by rintro (e | e) <;> omega); have r3 := BW.some ca (by rintro (e | e) <;> omega); have r4 := BW.some ct (by rintro (e | e) <;> omega)))
  all_goals
    have CV := Lib.hid CW
    have OV := Lib.hid ov
    clear CW BW bv iv ov x0 x1 x2 x3 x4 cp cu ca ct
    go_wp2_with fail
    go_quiet (fail)
    go_wp2_with fail
    go_quiet (fail)
    go_wp2
    go_ret2
    exact ⟨rfl, by repeat (first | (exact CV.out) | (with_reducible refine CM.kept ?_ (Kept.refl _).drew) | (with_reducible refine CM.kept ?_ ((Kept.refl _).drewN _)))⟩
set_option maxHeartbeats 4000000 in
theorem go_pin_ends {w0 w : World} {L0 L M B P U A T X : Nat} {m : Md} {bl : Nat → Nat} (h : CM w0 w L0 L M B P U A T X m bl) {c : Nat} (hc : c < 3) {x : EOp} (hk : m.k c = .pin x) (hcnt : m.s.cnt < 900000) (hx : x.Ok) (h9 : ((pinOp 4 S3 m.s x).line == 9) = true) (her : (pinOp 4 S3 m.s x).er = 0) (hw : Wd 4 m.s) (ht : 0 ≤ toldAt (pinOp 4 S3 m.s x)) :
    Calls Try.prog 47 #[.pointer (some ⟨X, 0, none⟩), .int .i64 c] w (StepsPost w0 L0 L M B P U A T X false true ⟨pinSt 4 S3 c m.s x, putf m.k c .idle, putf m.at_ c (toldAt (pinOp 4 S3 m.s x))⟩ bl) := by
  have x0 := h.x0
  have x1 := h.x1
  have x2 := h.x2
  have x3 := h.x3
  have x4 := h.x4
  have cp := h.cp c hc
  have cu := h.cu c hc
  have ca := h.ca c hc
  have ct := h.ct c hc
  obtain ⟨sX, sP, sU, sA, sT⟩ := h.size
  obtain ⟨n1, n2, n3, n4, n5, n6, n7, n8, n9, n10⟩ := h.fx.ne
  obtain ⟨f1, f2, f3, f4, f5⟩ := h.fx.hi
  obtain ⟨g1, g2, g3, g4, g5⟩ := h.fx.lo
  have hMB := h.fx.m
  have hbz : m.k c ≠ .idle := by rw [hk]; simp
  have lb := h.lo c hc hbz
  have hci : (c : Int) < 3 := by omega
  have hc0 : (0 : Int) ≤ (c : Int) := by omega
  have HC := Lib.hid h
  rw [hk] at cp cu ca
  dsimp only [Kd.p, Kd.u, Kd.a] at cp cu ca
  have o : PinAt w (bl c) S3 c x := by have := h.op c hc; rw [hk] at this; exact this
  have ST : Hid (∀ W, Kept w W → Calls Try.prog 30 #[.pointer (some ⟨bl c, 0, none⟩), .pointer (some ⟨M, 0, none⟩)] W (Does (fun w' => PinAt w' (bl c) S3 c (pinOp 4 S3 m.s x)) w0 M B (pinSt 4 S3 c m.s x) (bl c) true W)) := Lib.hid (fun W k => by
    have z := pin3 (HC.out.mem.grow k) (o.kept k) (HC.out.bk hc hbz) hx hcnt hc0 hci
    rw [h9] at z
    exact z)
  have TL := Lib.hid (fun W (q : PinAt W (bl c) S3 c (pinOp 4 S3 m.s x)) => pin_told (bl c) S3 c _ W q (pin_ok hx hw).good (.inl her))
  rw [her] at TL
  have hgb : decide (0 ≤ toldAt (pinOp 4 S3 m.s x)) = true := by simpa using ht
  have eqn : ∀ W, (binOp .neq 37 (.pointer (some ⟨bl c, 0, none⟩)) (.pointer none)).run Try.prog W = .ok (.bool true) W := fun W => by kernel_rfl
  clear h o
  go_enter Try.func47, Try.ntmps47
  go_wp2_with fail
  go_region_held3 (fun w' => w'.cell? ⟨X, 0, none⟩ = some (.pointer (some ⟨M, 0, none⟩)) ∧ w'.cell? ⟨X, 1, none⟩ = some (.slice (some ⟨P, 0, none⟩) 3 3) ∧ w'.cell? ⟨P, c, none⟩ = some (.pointer (some ⟨bl c, 0, none⟩))) (first | go_keep | (exact ⟨q0, q1, r1⟩)) (first
    | (go_at_call 30; refine (ST.out _ (by repeat (first | (with_reducible exact Kept.refl _) | (with_reducible refine Kept.drew ?_) | (with_reducible refine Kept.drewN ?_ _)))).mono ?_; rintro e v ⟨rfl, ov, iv, bv⟩; have BW : But (fun k => k = bl c ∨ k = B) w v := (Kept.but (w := w) (w' := _) (by repeat (first | (with_reducible exact Kept.refl _) | (with_reducible refine Kept.drew ?_) | (with_reducible refine Kept.drewN ?_ _))) _).trans bv (fun _ _ h => h); have CW : CM w0 v L0 L M B P U A T X ⟨pinSt 4 S3 c m.s x, putf m.k c (.pin (pinOp 4 S3 m.s x)), m.at_⟩ bl := HC.out.went hc hbz BW iv ov (by rw [hk]; rfl) (by rw [hk]; rfl) (by rw [hk]; rfl); have q0 := BW.some x0 (by rintro (e | e) <;> omega); have q1 := BW.some x1 (by rintro (e | e) <;> omega); have q2 := BW.some x2 (by rintro (e | e) <;> omega); have q3 := BW.some x3 (by rintro (e | e) <;> omega); have q4 := BW.some x4 (by rintro (e | e) <;> omega); have r1 := BW.some cp (by rintro (e | e) <;> omega); have r2 := BW.some cu (by rintro (e | e) <;> omega); have r3 := BW.some ca (by rintro (e | e) <;> omega); have r4 := BW.some ct (by rintro (e | e) <;> omega)))
  all_goals
    have CV := Lib.hid CW
    have OV := Lib.hid ov
    clear CW BW bv iv ov x0 x1 x2 x3 x4 cp cu ca ct
    go_wp2_with fail
    refine (TL.out _ (by first | exact OV.out | exact OV.out.kept (Kept.refl _).drew | exact OV.out.kept ((Kept.refl _).drewN _))).mono ?_
    rintro e v2 ⟨rfl, k2⟩
    have C2 : CM w0 v2 L0 L M B P U A T X ⟨pinSt 4 S3 c m.s x, putf m.k c (.pin (pinOp 4 S3 m.s x)), m.at_⟩ bl := ((by first | exact CV.out | exact CV.out.kept (Kept.refl _).drew | exact CV.out.kept ((Kept.refl _).drewN _)) : CM w0 _ L0 L M B P U A T X _ bl).kept k2
    have C2H := Lib.hid C2
    have y1 := C2.x1
    have yc := C2.cp c hc
    have yf := C2.fp
    have y4 := C2.x4
    have yt := C2.ct c hc
    have yft := C2.ft
    have y4' := row_far (R := P) (o := c) (v := .pointer none) (show X ≠ P by omega) y4
    have yt' := row_far (R := P) (o := c) (v := .pointer none) (show T ≠ P by omega) yt
    dsimp only at yc
    rw [put_self] at yc
    dsimp only [Kd.p, Kd.u, Kd.a] at yc
    clear k2 C2 CV OV q0 q1 q2 q3 q4 r1 r2 r3 r4
    go_wp2
    go_ret2
    have CD := C2H.out.dropP hc (x := pinOp 4 S3 m.s x) (put_self _ _ _)
    dsimp only at CD
    rw [put_put] at CD
    have CE := CD.setAt (c := c) (toldAt (pinOp 4 S3 m.s x)) (fun x => by dsimp only; rw [put_self]; simp)
    exact ⟨by first | rfl | simp [hgb], CE⟩
set_option maxHeartbeats 4000000 in
theorem go_unpin_ends {w0 w : World} {L0 L M B P U A T X : Nat} {m : Md} {bl : Nat → Nat} (h : CM w0 w L0 L M B P U A T X m bl) {c : Nat} (hc : c < 3) {x : EOp} (hk : m.k c = .unpin x) (hcnt : m.s.cnt < 900000) (hx : x.line = 1 ∨ x.line = 9) (h9 : ((unOp x).line == 9) = true) (her : (unOp x).er = 0) :
    Calls Try.prog 47 #[.pointer (some ⟨X, 0, none⟩), .int .i64 c] w (StepsPost w0 L0 L M B P U A T X false true ⟨unSt 4 S3 c m.s x, putf m.k c .idle, m.at_⟩ bl) := by
  have x0 := h.x0
  have x1 := h.x1
  have x2 := h.x2
  have x3 := h.x3
  have x4 := h.x4
  have cp := h.cp c hc
  have cu := h.cu c hc
  have ca := h.ca c hc
  have ct := h.ct c hc
  obtain ⟨sX, sP, sU, sA, sT⟩ := h.size
  obtain ⟨n1, n2, n3, n4, n5, n6, n7, n8, n9, n10⟩ := h.fx.ne
  obtain ⟨f1, f2, f3, f4, f5⟩ := h.fx.hi
  obtain ⟨g1, g2, g3, g4, g5⟩ := h.fx.lo
  have hMB := h.fx.m
  have hbz : m.k c ≠ .idle := by rw [hk]; simp
  have lb := h.lo c hc hbz
  have hci : (c : Int) < 3 := by omega
  have hc0 : (0 : Int) ≤ (c : Int) := by omega
  have HC := Lib.hid h
  rw [hk] at cp cu ca
  dsimp only [Kd.p, Kd.u, Kd.a] at cp cu ca
  have o : UnpinAt w (bl c) S3 c x := by have := h.op c hc; rw [hk] at this; exact this
  have ST : Hid (∀ W, Kept w W → Calls Try.prog 31 #[.pointer (some ⟨bl c, 0, none⟩), .pointer (some ⟨M, 0, none⟩)] W (Does (fun w' => UnpinAt w' (bl c) S3 c (unOp x)) w0 M B (unSt 4 S3 c m.s x) (bl c) true W)) := Lib.hid (fun W k => by
    have z := un3 (HC.out.mem.grow k) (o.kept k) (HC.out.bk hc hbz) hx hcnt hc0 hci
    rw [h9] at z
    exact z)
  have TL := Lib.hid (fun W (q : UnpinAt W (bl c) S3 c (unOp x)) => unpin_told (bl c) S3 c _ W q)
  rw [her] at TL
  have eqn : ∀ W, (binOp .neq 39 (.pointer (some ⟨bl c, 0, none⟩)) (.pointer none)).run Try.prog W = .ok (.bool true) W := fun W => by kernel_rfl
  clear h o
  go_enter Try.func47, Try.ntmps47
  go_wp2_with fail
  go_quiet (fail)
  go_wp2_with fail
  go_region_held3 (fun w' => w'.cell? ⟨X, 0, none⟩ = some (.pointer (some ⟨M, 0, none⟩)) ∧ w'.cell? ⟨X, 2, none⟩ = some (.slice (some ⟨U, 0, none⟩) 3 3) ∧ w'.cell? ⟨U, c, none⟩ = some (.pointer (some ⟨bl c, 0, none⟩))) (first | go_keep | (exact ⟨q0, q2, r2⟩)) (first
    | (go_at_call 31; refine (ST.out _ (by repeat (first | (with_reducible exact Kept.refl _) | (with_reducible refine Kept.drew ?_) | (with_reducible refine Kept.drewN ?_ _)))).mono ?_; rintro e v ⟨rfl, ov, iv, bv⟩; have BW : But (fun k => k = bl c ∨ k = B) w v := (Kept.but (w := w) (w' := _) (by repeat (first | (with_reducible exact Kept.refl _) | (with_reducible refine Kept.drew ?_) | (with_reducible refine Kept.drewN ?_ _))) _).trans bv (fun _ _ h => h); have CW : CM w0 v L0 L M B P U A T X ⟨unSt 4 S3 c m.s x, putf m.k c (.unpin (unOp x)), m.at_⟩ bl := HC.out.went hc hbz BW iv ov (by rw [hk]; rfl) (by rw [hk]; rfl) (by rw [hk]; rfl); have q0 := BW.some x0 (by rintro (e | e) <;> omega); have q1 := BW.some x1 (by rintro (e | e) <;> omega); have q2 := BW.some x2 (by rintro (e | e) <;> omega); have q3 := BW.some x3 (by rintro (e | e) <;> omega); have q4 := BW.some x4 (by rintro (e | e) <;> omega); have r1 := BW.some cp (by rintro (e | e) <;> omega); have r2 := BW.some cu (by rintro (e | e) <;> omega); have r3 := BW.some ca (by rintro (e | e) <;> omega); have r4 := BW.some ct (by rintro (e | e) <;> omega)))
  all_goals
    have CV := Lib.hid CW
    have OV := Lib.hid ov
    clear CW BW bv iv ov x0 x1 x2 x3 x4 cp cu ca ct
    go_wp2_with fail
    refine (TL.out _ (by first | exact OV.out | exact OV.out.kept (Kept.refl _).drew | exact OV.out.kept ((Kept.refl _).drewN _))).mono ?_
    rintro e v2 ⟨rfl, k2⟩
    have C2 : CM w0 v2 L0 L M B P U A T X ⟨unSt 4 S3 c m.s x, putf m.k c (.unpin (unOp x)), m.at_⟩ bl := ((by first | exact CV.out | exact CV.out.kept (Kept.refl _).drew | exact CV.out.kept ((Kept.refl _).drewN _)) : CM w0 _ L0 L M B P U A T X _ bl).kept k2
    have C2H := Lib.hid C2
    have y1 := C2.x2
    have yc := C2.cu c hc
    have yf := C2.fu
    dsimp only at yc
    rw [put_self] at yc
    dsimp only [Kd.p, Kd.u, Kd.a] at yc
    clear k2 C2 CV OV q0 q1 q2 q3 q4 r1 r2 r3 r4
    go_wp2
    go_ret2
    have CD := C2H.out.dropU hc (x := unOp x) (put_self _ _ _)
    dsimp only at CD
    rw [put_put] at CD
    exact ⟨rfl, CD⟩
set_option maxHeartbeats 4000000 in
theorem go_adv_on {w0 w : World} {L0 L M B P U A T X : Nat} {m : Md} {bl : Nat → Nat} (h : CM w0 w L0 L M B P U A T X m bl) {c : Nat} (hc : c < 3) {x : EOp} (hk : m.k c = .adv x) (hcnt : m.s.cnt < 900000) (hx : x.Ok ∧ AOkN S3 x) (h9 : ((advOp 4 S3 c (m.at_ c) m.s x).line == 9) = false) :
    Calls Try.prog 47 #[.pointer (some ⟨X, 0, none⟩), .int .i64 c] w (StepsPost w0 L0 L M B P U A T X false true ⟨advSt 4 S3 m.s x, putf m.k c (.adv (advOp 4 S3 c (m.at_ c) m.s x)), m.at_⟩ bl) := by
  have x0 := h.x0
  have x1 := h.x1
  have x2 := h.x2
  have x3 := h.x3
  have x4 := h.x4
  have cp := h.cp c hc
  have cu := h.cu c hc
  have ca := h.ca c hc
  have ct := h.ct c hc
  obtain ⟨sX, sP, sU, sA, sT⟩ := h.size
  obtain ⟨n1, n2, n3, n4, n5, n6, n7, n8, n9, n10⟩ := h.fx.ne
  obtain ⟨f1, f2, f3, f4, f5⟩ := h.fx.hi
  obtain ⟨g1, g2, g3, g4, g5⟩ := h.fx.lo
  have hMB := h.fx.m
  have hbz : m.k c ≠ .idle := by rw [hk]; simp
  have lb := h.lo c hc hbz
  have hci : (c : Int) < 3 := by omega
  have hc0 : (0 : Int) ≤ (c : Int) := by omega
  have HC := Lib.hid h
  rw [hk] at cp cu ca
  dsimp only [Kd.p, Kd.u, Kd.a] at cp cu ca
  have o : AdvAt w (bl c) S3 c (m.at_ c) x := by have := h.op c hc; rw [hk] at this; exact this
  have ST : Hid (∀ W, Kept w W → Calls Try.prog 32 #[.pointer (some ⟨bl c, 0, none⟩), .pointer (some ⟨M, 0, none⟩)] W (Does (fun w' => AdvAt w' (bl c) S3 c (m.at_ c) (advOp 4 S3 c (m.at_ c) m.s x)) w0 M B (advSt 4 S3 m.s x) (bl c) false W)) := Lib.hid (fun W k => by
    have z := adv3 (HC.out.mem.grow k) (o.kept k) (HC.out.bk hc hbz) hx.1 hx.2 hcnt
    rw [h9] at z
    exact z)
  have eqn : ∀ W, (binOp .neq 41 (.pointer (some ⟨bl c, 0, none⟩)) (.pointer none)).run Try.prog W = .ok (.bool true) W := fun W => by kernel_rfl
  clear h o
  go_enter Try.func47, Try.ntmps47
  go_wp2_with fail
  go_quiet (fail)
  go_wp2_with fail
  go_quiet (fail)
  go_wp2_with fail
  go_region_held3 (fun w' => w'.cell? ⟨X, 0, none⟩ = some (.pointer (some ⟨M, 0, none⟩)) ∧ w'.cell? ⟨X, 3, none⟩ = some (.slice (some ⟨A, 0, none⟩) 3 3) ∧ w'.cell? ⟨A, c, none⟩ = some (.pointer (some ⟨bl c, 0, none⟩))) (first | go_keep | (exact ⟨q0, q3, r3⟩)) (first
    | (go_at_call 32; refine (ST.out _ (by repeat (first | (with_reducible exact Kept.refl _) | (with_reducible refine Kept.drew ?_) | (with_reducible refine Kept.drewN ?_ _)))).mono ?_; rintro e v ⟨rfl, ov, iv, bv⟩; have BW : But (fun k => k = bl c ∨ k = B) w v := (Kept.but (w := w) (w' := _) (by repeat (first | (with_reducible exact Kept.refl _) | (with_reducible refine Kept.drew ?_) | (with_reducible refine Kept.drewN ?_ _))) _).trans bv (fun _ _ h => h); have CW : CM w0 v L0 L M B P U A T X ⟨advSt 4 S3 m.s x, putf m.k c (.adv (advOp 4 S3 c (m.at_ c) m.s x)), m.at_⟩ bl := HC.out.went hc hbz BW iv ov (by rw [hk]; rfl) (by rw [hk]; rfl) (by rw [hk]; rfl); have q0 := BW.some x0 (by rintro (e | e) <;> omega); have q1 := BW.some x1 (by rintro (e | e) <;> omega); have q2 := BW.some x2 (by rintro (e | e) <;> omega); have q3 := BW.some x3 (by rintro (e | e) <;> omega); have q4 := BW.some x4 (by rintro (e | e) <;> omega); have r1 := BW.some cp (by rintro (e | e) <;> omega); have r2 := BW.some cu (by rintro (e | e) <;> omega); have r3 := BW.some ca (by rintro (e | e) <;> omega); have r4 := BW.some ct (by rintro (e | e) <;> omega)))
  all_goals
    have CV := Lib.hid CW
    have OV := Lib.hid ov
    clear CW BW bv iv ov x0 x1 x2 x3 x4 cp cu ca ct
    go_wp2
    go_ret2
    exact ⟨rfl, by repeat (first | (exact CV.out) | (with_reducible refine CM.kept ?_ (Kept.refl _).drew) | (with_reducible refine CM.kept ?_ ((Kept.refl _).drewN _)))⟩
set_option maxHeartbeats 4000000 in
theorem go_adv_ok {w0 w : World} {L0 L M B P U A T X : Nat} {m : Md} {bl : Nat → Nat} (h : CM w0 w L0 L M B P U A T X m bl) {c : Nat} (hc : c < 3) {x : EOp} (hk : m.k c = .adv x) (hcnt : m.s.cnt < 900000) (hx : x.Ok ∧ AOkN S3 x) (h9 : ((advOp 4 S3 c (m.at_ c) m.s x).line == 9) = true) (her : (advOp 4 S3 c (m.at_ c) m.s x).er = 0) :
    Calls Try.prog 47 #[.pointer (some ⟨X, 0, none⟩), .int .i64 c] w (StepsPost w0 L0 L M B P U A T X true true ⟨advSt 4 S3 m.s x, putf m.k c .idle, m.at_⟩ bl) := by
  have x0 := h.x0
  have x1 := h.x1
  have x2 := h.x2
  have x3 := h.x3
  have x4 := h.x4
  have cp := h.cp c hc
  have cu := h.cu c hc
  have ca := h.ca c hc
  have ct := h.ct c hc
  obtain ⟨sX, sP, sU, sA, sT⟩ := h.size
  obtain ⟨n1, n2, n3, n4, n5, n6, n7, n8, n9, n10⟩ := h.fx.ne
  obtain ⟨f1, f2, f3, f4, f5⟩ := h.fx.hi
  obtain ⟨g1, g2, g3, g4, g5⟩ := h.fx.lo
  have hMB := h.fx.m
  have hbz : m.k c ≠ .idle := by rw [hk]; simp
  have lb := h.lo c hc hbz
  have hci : (c : Int) < 3 := by omega
  have hc0 : (0 : Int) ≤ (c : Int) := by omega
  have HC := Lib.hid h
  rw [hk] at cp cu ca
  dsimp only [Kd.p, Kd.u, Kd.a] at cp cu ca
  have o : AdvAt w (bl c) S3 c (m.at_ c) x := by have := h.op c hc; rw [hk] at this; exact this
  have ST : Hid (∀ W, Kept w W → Calls Try.prog 32 #[.pointer (some ⟨bl c, 0, none⟩), .pointer (some ⟨M, 0, none⟩)] W (Does (fun w' => AdvAt w' (bl c) S3 c (m.at_ c) (advOp 4 S3 c (m.at_ c) m.s x)) w0 M B (advSt 4 S3 m.s x) (bl c) true W)) := Lib.hid (fun W k => by
    have z := adv3 (HC.out.mem.grow k) (o.kept k) (HC.out.bk hc hbz) hx.1 hx.2 hcnt
    rw [h9] at z
    exact z)
  have TL := Lib.hid (fun W (q : AdvAt W (bl c) S3 c (m.at_ c) (advOp 4 S3 c (m.at_ c) m.s x)) => adv_told (bl c) S3 c (m.at_ c) _ W q)
  rw [her] at TL
  have eqn : ∀ W, (binOp .neq 41 (.pointer (some ⟨bl c, 0, none⟩)) (.pointer none)).run Try.prog W = .ok (.bool true) W := fun W => by kernel_rfl
  clear h o
  go_enter Try.func47, Try.ntmps47
  go_wp2_with fail
  go_quiet (fail)
  go_wp2_with fail
  go_quiet (fail)
  go_wp2_with fail
  go_region_held3 (fun w' => w'.cell? ⟨X, 0, none⟩ = some (.pointer (some ⟨M, 0, none⟩)) ∧ w'.cell? ⟨X, 3, none⟩ = some (.slice (some ⟨A, 0, none⟩) 3 3) ∧ w'.cell? ⟨A, c, none⟩ = some (.pointer (some ⟨bl c, 0, none⟩))) (first | go_keep | (exact ⟨q0, q3, r3⟩)) (first
    | (go_at_call 32; refine (ST.out _ (by repeat (first | (with_reducible exact Kept.refl _) | (with_reducible refine Kept.drew ?_) | (with_reducible refine Kept.drewN ?_ _)))).mono ?_; rintro e v ⟨rfl, ov, iv, bv⟩; have BW : But (fun k => k = bl c ∨ k = B) w v := (Kept.but (w := w) (w' := _) (by repeat (first | (with_reducible exact Kept.refl _) | (with_reducible refine Kept.drew ?_) | (with_reducible refine Kept.drewN ?_ _))) _).trans bv (fun _ _ h => h); have CW : CM w0 v L0 L M B P U A T X ⟨advSt 4 S3 m.s x, putf m.k c (.adv (advOp 4 S3 c (m.at_ c) m.s x)), m.at_⟩ bl := HC.out.went hc hbz BW iv ov (by rw [hk]; rfl) (by rw [hk]; rfl) (by rw [hk]; rfl); have q0 := BW.some x0 (by rintro (e | e) <;> omega); have q1 := BW.some x1 (by rintro (e | e) <;> omega); have q2 := BW.some x2 (by rintro (e | e) <;> omega); have q3 := BW.some x3 (by rintro (e | e) <;> omega); have q4 := BW.some x4 (by rintro (e | e) <;> omega); have r1 := BW.some cp (by rintro (e | e) <;> omega); have r2 := BW.some cu (by rintro (e | e) <;> omega); have r3 := BW.some ca (by rintro (e | e) <;> omega); have r4 := BW.some ct (by rintro (e | e) <;> omega)))
  all_goals
    have CV := Lib.hid CW
    have OV := Lib.hid ov
    clear CW BW bv iv ov x0 x1 x2 x3 x4 cp cu ca ct
    go_wp2_with fail
    refine (TL.out _ (by first | exact OV.out | exact OV.out.kept (Kept.refl _).drew | exact OV.out.kept ((Kept.refl _).drewN _))).mono ?_
    rintro e v2 ⟨rfl, k2⟩
    have C2 : CM w0 v2 L0 L M B P U A T X ⟨advSt 4 S3 m.s x, putf m.k c (.adv (advOp 4 S3 c (m.at_ c) m.s x)), m.at_⟩ bl := ((by first | exact CV.out | exact CV.out.kept (Kept.refl _).drew | exact CV.out.kept ((Kept.refl _).drewN _)) : CM w0 _ L0 L M B P U A T X _ bl).kept k2
    have C2H := Lib.hid C2
    have y1 := C2.x3
    have yc := C2.ca c hc
    have yf := C2.fa
    dsimp only at yc
    rw [put_self] at yc
    dsimp only [Kd.p, Kd.u, Kd.a] at yc
    clear k2 C2 CV OV q0 q1 q2 q3 q4 r1 r2 r3 r4
    go_wp2
    go_ret2
    have CD := C2H.out.dropA hc (x := advOp 4 S3 c (m.at_ c) m.s x) (put_self _ _ _)
    dsimp only at CD
    rw [put_put] at CD
    exact ⟨rfl, CD⟩
set_option maxHeartbeats 4000000 in
theorem go_adv_busy {w0 w : World} {L0 L M B P U A T X : Nat} {m : Md} {bl : Nat → Nat} (h : CM w0 w L0 L M B P U A T X m bl) {c : Nat} (hc : c < 3) {x : EOp} (hk : m.k c = .adv x) (hcnt : m.s.cnt < 900000) (hx : x.Ok ∧ AOkN S3 x) (h9 : ((advOp 4 S3 c (m.at_ c) m.s x).line == 9) = true) (her : (advOp 4 S3 c (m.at_ c) m.s x).er = 14) :
    Calls Try.prog 47 #[.pointer (some ⟨X, 0, none⟩), .int .i64 c] w (StepsPost w0 L0 L M B P U A T X false true ⟨advSt 4 S3 m.s x, putf m.k c .idle, m.at_⟩ bl) := by
  have x0 := h.x0
  have x1 := h.x1
  have x2 := h.x2
  have x3 := h.x3
  have x4 := h.x4
  have cp := h.cp c hc
  have cu := h.cu c hc
  have ca := h.ca c hc
  have ct := h.ct c hc
  obtain ⟨sX, sP, sU, sA, sT⟩ := h.size
  obtain ⟨n1, n2, n3, n4, n5, n6, n7, n8, n9, n10⟩ := h.fx.ne
  obtain ⟨f1, f2, f3, f4, f5⟩ := h.fx.hi
  obtain ⟨g1, g2, g3, g4, g5⟩ := h.fx.lo
  have hMB := h.fx.m
  have hbz : m.k c ≠ .idle := by rw [hk]; simp
  have lb := h.lo c hc hbz
  have hci : (c : Int) < 3 := by omega
  have hc0 : (0 : Int) ≤ (c : Int) := by omega
  have HC := Lib.hid h
  rw [hk] at cp cu ca
  dsimp only [Kd.p, Kd.u, Kd.a] at cp cu ca
  have o : AdvAt w (bl c) S3 c (m.at_ c) x := by have := h.op c hc; rw [hk] at this; exact this
  have ST : Hid (∀ W, Kept w W → Calls Try.prog 32 #[.pointer (some ⟨bl c, 0, none⟩), .pointer (some ⟨M, 0, none⟩)] W (Does (fun w' => AdvAt w' (bl c) S3 c (m.at_ c) (advOp 4 S3 c (m.at_ c) m.s x)) w0 M B (advSt 4 S3 m.s x) (bl c) true W)) := Lib.hid (fun W k => by
    have z := adv3 (HC.out.mem.grow k) (o.kept k) (HC.out.bk hc hbz) hx.1 hx.2 hcnt
    rw [h9] at z
    exact z)
  have TL := Lib.hid (fun W (q : AdvAt W (bl c) S3 c (m.at_ c) (advOp 4 S3 c (m.at_ c) m.s x)) => adv_told (bl c) S3 c (m.at_ c) _ W q)
  rw [her] at TL
  have eqn : ∀ W, (binOp .neq 41 (.pointer (some ⟨bl c, 0, none⟩)) (.pointer none)).run Try.prog W = .ok (.bool true) W := fun W => by kernel_rfl
  clear h o
  go_enter Try.func47, Try.ntmps47
  go_wp2_with fail
  go_quiet (fail)
  go_wp2_with fail
  go_quiet (fail)
  go_wp2_with fail
  go_region_held3 (fun w' => w'.cell? ⟨X, 0, none⟩ = some (.pointer (some ⟨M, 0, none⟩)) ∧ w'.cell? ⟨X, 3, none⟩ = some (.slice (some ⟨A, 0, none⟩) 3 3) ∧ w'.cell? ⟨A, c, none⟩ = some (.pointer (some ⟨bl c, 0, none⟩))) (first | go_keep | (exact ⟨q0, q3, r3⟩)) (first
    | (go_at_call 32; refine (ST.out _ (by repeat (first | (with_reducible exact Kept.refl _) | (with_reducible refine Kept.drew ?_) | (with_reducible refine Kept.drewN ?_ _)))).mono ?_; rintro e v ⟨rfl, ov, iv, bv⟩; have BW : But (fun k => k = bl c ∨ k = B) w v := (Kept.but (w := w) (w' := _) (by repeat (first | (with_reducible exact Kept.refl _) | (with_reducible refine Kept.drew ?_) | (with_reducible refine Kept.drewN ?_ _))) _).trans bv (fun _ _ h => h); have CW : CM w0 v L0 L M B P U A T X ⟨advSt 4 S3 m.s x, putf m.k c (.adv (advOp 4 S3 c (m.at_ c) m.s x)), m.at_⟩ bl := HC.out.went hc hbz BW iv ov (by rw [hk]; rfl) (by rw [hk]; rfl) (by rw [hk]; rfl); have q0 := BW.some x0 (by rintro (e | e) <;> omega); have q1 := BW.some x1 (by rintro (e | e) <;> omega); have q2 := BW.some x2 (by rintro (e | e) <;> omega); have q3 := BW.some x3 (by rintro (e | e) <;> omega); have q4 := BW.some x4 (by rintro (e | e) <;> omega); have r1 := BW.some cp (by rintro (e | e) <;> omega); have r2 := BW.some cu (by rintro (e | e) <;> omega); have r3 := BW.some ca (by rintro (e | e) <;> omega); have r4 := BW.some ct (by rintro (e | e) <;> omega)))
  all_goals
    have CV := Lib.hid CW
    have OV := Lib.hid ov
    clear CW BW bv iv ov x0 x1 x2 x3 x4 cp cu ca ct
    go_wp2_with fail
    refine (TL.out _ (by first | exact OV.out | exact OV.out.kept (Kept.refl _).drew | exact OV.out.kept ((Kept.refl _).drewN _))).mono ?_
    rintro e v2 ⟨rfl, k2⟩
    have C2 : CM w0 v2 L0 L M B P U A T X ⟨advSt 4 S3 m.s x, putf m.k c (.adv (advOp 4 S3 c (m.at_ c) m.s x)), m.at_⟩ bl := ((by first | exact CV.out | exact CV.out.kept (Kept.refl _).drew | exact CV.out.kept ((Kept.refl _).drewN _)) : CM w0 _ L0 L M B P U A T X _ bl).kept k2
    have C2H := Lib.hid C2
    have y1 := C2.x3
    have yc := C2.ca c hc
    have yf := C2.fa
    dsimp only at yc
    rw [put_self] at yc
    dsimp only [Kd.p, Kd.u, Kd.a] at yc
    clear k2 C2 CV OV q0 q1 q2 q3 q4 r1 r2 r3 r4
    go_wp2
    go_ret2
    have CD := C2H.out.dropA hc (x := advOp 4 S3 c (m.at_ c) m.s x) (put_self _ _ _)
    dsimp only at CD
    rw [put_put] at CD
    exact ⟨rfl, CD⟩
end Go.Proofs.Ytmfbjlaajcdbnaa.Ep

namespace Go.Proofs.Ytmfbjlaajcdbnaa.Ep
set_option maxRecDepth 20000
open Go.RowKit
open Wo (St acc wordAt PMem RefIs)
open Sk (Stk Wd pmem_kept pmem_lt pmem_frame)

theorem step_cnt (m : Md) (c : Nat) : (m.step c).s.cnt ≤ m.s.cnt + 1 := by
  unfold Md.step
  cases m.k c with
  | idle => dsimp only; omega
  | pin x =>
    have := (@pin_cnt 4 S3 c m.s x).2
    dsimp only
    split <;> exact this
  | unpin x =>
    have := (@un_cnt 4 S3 c m.s x).2
    dsimp only
    split <;> exact this
  | adv x =>
    have := (@adv_cnt 4 S3 m.s x).2
    dsimp only
    split <;> exact this
theorem begin_busy (m : Md) (c : Nat) (n : Int) : (m.begin c n).k c ≠ .idle := by
  unfold Md.begin
  split
  · show putf m.k c _ c ≠ .idle; rw [put_self]; simp
  · split
    · show putf m.k c _ c ≠ .idle; rw [put_self]; simp
    · show putf m.k c _ c ≠ .idle; rw [put_self]; simp
theorem step_went {m : Md} {t : Int} (h : Inv m t) (ht : t < 1000000) {c : Nat} (hc : c < 3) (hb : m.k c ≠ .idle) : Went m (m.step c) c (m.on c) t := by
  cases hk : m.k c with
  | idle => exact absurd hk hb
  | pin x =>
    have e : m.on c = false := by unfold Md.on; rw [hk]
    rw [e]; exact (step_pin h ht hc hk).1
  | unpin x =>
    have e : m.on c = false := by unfold Md.on; rw [hk]
    rw [e]; exact (step_unpin h ht hc hk).1
  | adv x => exact (step_adv h ht hc hk).1
theorem steps_go {w0 w : World} {L0 L M B P U A T X : Nat} {m : Md} {bl : Nat → Nat} {t : Int} (h : CM w0 w L0 L M B P U A T X m bl) (hi : Inv m t) (ht : t < 1000000) {c : Nat} (hc : c < 3) (hb : m.k c ≠ .idle) (hcnt : m.s.cnt < 900000) :
    Calls Try.prog 47 #[.pointer (some ⟨X, 0, none⟩), .int .i64 c] w (StepsPost w0 L0 L M B P U A T X (m.on c) true (m.step c) bl) := by
  cases hk : m.k c with
  | idle => exact absurd hk hb
  | pin x =>
    obtain ⟨a0, ok, l9, _, _⟩ := (hi.core c hc).pin hk
    have e : m.on c = false := by unfold Md.on; rw [hk]
    have q := (step_pin hi ht hc hk).2
    by_cases h9 : (pinOp 4 S3 m.s x).line = 9
    · have es : m.step c = ⟨pinSt 4 S3 c m.s x, putf m.k c .idle, putf m.at_ c (toldAt (pinOp 4 S3 m.s x))⟩ := by unfold Md.step; rw [hk]; dsimp only; rw [if_pos h9]
      rw [e, es]
      exact go_pin_ends h hc hk hcnt ok (beq_iff_eq.2 h9) (q h9).1 hi.wd (q h9).2
    · have es : m.step c = ⟨pinSt 4 S3 c m.s x, putf m.k c (.pin (pinOp 4 S3 m.s x)), m.at_⟩ := by unfold Md.step; rw [hk]; dsimp only; rw [if_neg h9]
      rw [e, es]
      exact go_pin_on h hc hk hcnt ok (by simpa using h9)
  | unpin x =>
    obtain ⟨a0, rfl⟩ := (hi.core c hc).unpin hk
    have e : m.on c = false := by unfold Md.on; rw [hk]
    have es : m.step c = ⟨unSt 4 S3 c m.s EOp.new, putf m.k c .idle, m.at_⟩ := by unfold Md.step; rw [hk]; dsimp only; rw [if_pos (by decide)]
    rw [e, es]
    exact go_unpin_ends h hc hk hcnt (.inl rfl) (by decide) (by decide)
  | adv x =>
    obtain ⟨a0, ok, an, l9, _⟩ := (hi.core c hc).adv hk
    have q := (step_adv hi ht hc hk).2
    by_cases h9 : (advOp 4 S3 c (m.at_ c) m.s x).line = 9
    · have es : m.step c = ⟨advSt 4 S3 m.s x, putf m.k c .idle, m.at_⟩ := by unfold Md.step; rw [hk]; dsimp only; rw [if_pos h9]
      rw [es]
      rcases q h9 with er | er
      · have e : m.on c = true := by unfold Md.on; rw [hk]; dsimp only; rw [er, h9]; rfl
        rw [e]
        exact go_adv_ok h hc hk hcnt ⟨ok, an⟩ (beq_iff_eq.2 h9) er
      · have e : m.on c = false := by unfold Md.on; rw [hk]; dsimp only; rw [er, h9]; rfl
        rw [e]
        exact go_adv_busy h hc hk hcnt ⟨ok, an⟩ (beq_iff_eq.2 h9) er
    · have es : m.step c = ⟨advSt 4 S3 m.s x, putf m.k c (.adv (advOp 4 S3 c (m.at_ c) m.s x)), m.at_⟩ := by unfold Md.step; rw [hk]; dsimp only; rw [if_neg h9]
      have e : m.on c = false := by
        unfold Md.on; rw [hk]; dsimp only
        have : ((advOp 4 S3 c (m.at_ c) m.s x).line == 9) = false := by simpa using h9
        rw [this]; rfl
      rw [e, es]
      exact go_adv_on h hc hk hcnt ⟨ok, an⟩ (by simpa using h9)
end Go.Proofs.Ytmfbjlaajcdbnaa.Ep
