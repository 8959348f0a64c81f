/- EpochAlone. Written by gen12j.py. -/
import Derived.Test.YtmfbjlaajcdbnaaG30
set_option linter.unusedVariables false
set_option linter.unusedSimpArgs false

namespace Go.Proofs.Ytmfbjlaajcdbnaa.Ep
set_option maxRecDepth 20000
open Go.RowKit
open Wo (St acc wordAt PMem RefIs)
open Sk (Stk Wd pmem_kept pmem_lt pmem_frame)

def OutRel (w0 : World) (L0 L M B P U A T X : Nat) (t0 : Int) (i : Value) (wr : World) : Prop :=
  ∃ (c : Nat) (m : Md) (bl : Nat → Nat) (t : Int), c ≤ 3 ∧ i = .int .i64 c ∧ CM w0 wr L0 L M B P U A T X m bl ∧ Inv m t ∧ t ≤ t0 + 4 * c ∧ m.s.cnt ≤ 100 + t0 + 4 * c ∧ ∀ d, d < c → m.k d = .idle
def InRel (w0 : World) (L0 L M B P U A T X : Nat) (t0 : Int) (c : Nat) (i : Value) (wr : World) : Prop :=
  ∃ (k : Nat) (m : Md) (bl : Nat → Nat) (t : Int), k ≤ 4 ∧ i = .int .i64 k ∧ CM w0 wr L0 L M B P U A T X m bl ∧ Inv m t ∧ t ≤ t0 + 4 * c + k ∧ m.s.cnt ≤ 100 + t0 + 4 * c + k ∧ (∀ d, d < c → m.k d = .idle) ∧ rk m c + k ≤ 4 ∧ (1 ≤ k → (m.k c).isU = false)
def PinRel (w0 : World) (L0 L M B P U A T X : Nat) (t0 : Int) (c : Nat) (i : Value) (wr : World) : Prop :=
  ∃ (k : Nat) (m : Md) (bl : Nat → Nat) (t : Int), k ≤ 3 ∧ i = .int .i64 k ∧ CM w0 wr L0 L M B P U A T X m bl ∧ Inv m t ∧ t ≤ t0 + k ∧ m.s.cnt ≤ 100 + t0 + k ∧ (∀ d, d < 3 → d ≠ c → m.k d = .idle) ∧ rk m c + k ≤ 3 ∧ (m.k c = .idle → 0 ≤ m.at_ c) ∧ (m.k c ≠ .idle → ∃ x, m.k c = .pin x)
def DRel (u2 : World) (m : Md) (q : Nat) (mv i : Value) (wz : World) : Prop := ∃ (d : Nat) (b : Bool), d ≤ 3 ∧ i = .int .i64 d ∧ mv = .bool b ∧ (b = true ↔ m.at_ q = m.E ∧ ∀ e, e < d → m.at_ e < 0 ∨ m.at_ e = m.E) ∧ wz = u2
theorem busy_is {k : Kd} (h : k ≠ .idle) : k.busy = true := by
  cases k with
  | idle => exact absurd rfl h
  | pin x => rfl
  | unpin x => rfl
  | adv x => rfl
theorem u_none {k : Kd} {b : Nat} (h : k.isU = false) : k.u b = none := by
  cases k with
  | idle => rfl
  | pin x => rfl
  | unpin x => exact absurd h (by simp [Kd.isU])
  | adv x => rfl
theorem pin_step_at {m : Md} {t : Int} (h : Inv m t) (ht : t < 1000000) {c : Nat} (hc : c < 3) {x : EOp} (hk : m.k c = .pin x) : ((m.step c).k c = .idle → 0 ≤ (m.step c).at_ c) ∧ ((m.step c).k c ≠ .idle → ∃ y, (m.step c).k c = .pin y) := by
  have q := (step_pin h ht hc hk).2
  unfold Md.step
  rw [hk]
  dsimp only
  by_cases h9 : (pinOp 4 S3 m.s x).line = 9
  · rw [if_pos h9]
    refine ⟨fun _ => ?_, fun h => absurd (put_self _ _ _) h⟩
    show 0 ≤ putf m.at_ c (toldAt (pinOp 4 S3 m.s x)) c
    rw [put_self]
    exact (q h9).2
  · rw [if_neg h9]
    refine ⟨fun h => ?_, fun _ => ⟨_, put_self _ _ _⟩⟩
    have h : putf m.k c (.pin (pinOp 4 S3 m.s x)) c = .idle := h
    rw [put_self] at h
    exact absurd h (by simp)
set_option maxHeartbeats 400000 in
theorem boolean_true (w : World) : Calls Try.prog 48 #[.bool true] w fun e w' => e = .returned (.int .i64 1) ∧ w = w' := by
  go_enter Try.func48, Try.ntmps48
  go_wp2
  go_ret
  exact ⟨rfl, rfl⟩
structure YIs (w0 wY wr : World) (M B Y c : Nat) (m : Md) (s : St) (x : EOp) (j : Nat) : Prop where
  al : Al m c s x j
  i : In w0 M B s wr
  o : AdvAt wr Y S3 c (m.at_ c) x
  g : But (fun k => k = Y ∨ k = B) wY wr
  cn : s.cnt ≤ 1000 + j
def YRel (w0 wY : World) (M B Y c : Nat) (m : Md) (i : Value) (wr : World) : Prop := ∃ (j : Nat) (s : St) (x : EOp), j ≤ 3 ∧ i = .int .i64 j ∧ YIs w0 wY wr M B Y c m s x j
theorem now_s {w0 w : World} {M B : Nat} {s : St} (h : In w0 M B s w) {e : Int} (he : s.ws 0 = e) (h0 : 0 ≤ e) (h1 : e ≤ 1000000) {W : World} (k : Kept w W) :
    Calls Try.prog 16 #[.agg #[.int .i64 S3.T, .int .i64 S3.K, .int .i64 S3.N], .pointer (some ⟨M, 0, none⟩)] W fun e' w' => e' = .returned (.int .i64 e) ∧ Kept W w' := by
  have q := now3 (h.grow k)
  rw [show hv 4 s.ws 0 = e from he, ep_small h0 h1] at q
  exact q
set_option maxHeartbeats 16000000 in
theorem alone_any {a : Option Addr} {len cap : Nat} {f : Nat → Int} {w : World} (who : Int) (hr : Go.Proofs.Ytmfbjlaajcdbnaa.Row w a len cap f) (hl : len ≤ 200) : Calls Try.prog 7 #[.slice a len cap, .int .i64 who] w fun e w' => e = .returned (.bool true) ∧ Kept w w' := by
  have h2 : (len : Int) ≤ 200 := by omega
  have HR := Lib.hid hr
  clear hr
  go_enter Try.func7, Try.ntmps7
  go_wp2_with fail
  refine (known_any _).mono ?_
  rintro e w1 ⟨rfl, k1⟩
  have K1 := Lib.hid k1
  clear k1
  go_wp2_with fail
  refine (begun_any3 _).mono ?_
  rintro e w2 ⟨L0, L, M, B, P, U, A, T, X, bl, rfl, cm⟩
  have eqn : ∀ W, (binOp .eql 92 (.pointer (some ⟨X, 0, none⟩)) (.pointer none)).run Try.prog W = .ok (.bool false) W := fun W => by kernel_rfl
  have PL := Lib.hid (plays_any cm (HR.out.kept K1.out) (by omega))
  clear cm
  go_wp2_with fail
  refine PL.out.mono ?_
  rintro e w3 ⟨rfl, m, bl', c3, i3, n3⟩
  have C3 := Lib.hid c3
  have I3 := Lib.hid i3
  clear c3 i3 PL
  go_wp2_with fail
  go_loopw [7] (OutRel w1 L0 L M B P U A T X len) (fun i _ => 3 - (intOf i).toNat)
  case atStart => exact ⟨0, m, bl', len, by decide, rfl, C3.out, I3.out, by omega, by omega, fun d h => absurd h (Nat.not_lt_zero _)⟩
  case round =>
    clear C3 I3 n3 m bl'
    obtain ⟨c, m, bl, t, hc, rfl, hcm, hinv, ht, hcnt, hid⟩ := hrel
    have C1 := Lib.hid hcm
    have I1 := Lib.hid hinv
    clear hcm hinv
    by_cases hc3 : c < 3
    · have hcl : (c : Int) < 3 := by omega
      have hc0 : (0 : Int) ≤ (c : Int) := by omega
      go_wp2_with fail
      go_loopw [8] (InRel w1 L0 L M B P U A T X len c) (fun i _ => 4 - (intOf i).toNat)
      case atStart => exact ⟨0, m, bl, t, by decide, rfl, C1.out, I1.out, by omega, by omega, hid, by have := rk_le m c; omega, fun h => absurd h (by decide)⟩
      case round =>
        clear C1 I1 hid hcnt ht m bl t
        obtain ⟨k, m, bl, t, hk, rfl, hcm, hinv, ht, hcnt, hid, hrk, hu⟩ := hrel
        have C1 := Lib.hid hcm
        have I1 := Lib.hid hinv
        have BY := Lib.hid (busy_any hcm hc3)
        have x2 := hcm.x2
        have cu := hcm.cu c hc3
        clear hcm hinv
        by_cases hidl : m.k c = .idle
        · have eb : (m.k c).busy = false := by rw [hidl]; rfl
          rw [eb] at BY
          clear x2 cu
          have hidn : ∀ d, d < c + 1 → m.k d = .idle := fun d hd => by
            by_cases e : d = c
            · rw [e]; exact hidl
            · exact hid d (by omega)
          by_cases hk4 : k < 4
          · have hkl : (k : Int) < 4 := by omega
            go_wp2_with fail
            refine BY.out.mono ?_
            rintro e _ ⟨rfl, rfl⟩
            go_wp2_with fail
            refine BY.out.mono ?_
            rintro e _ ⟨rfl, rfl⟩
            go_wp2
            go_roundw
            case rel => exact ⟨c + 1, m, bl, t, by omega, by go_num, C1.out, I1.out, by omega, by omega, hidn⟩
            case measure => simp [intOf]; omega
          · have hkl : ¬ (k : Int) < 4 := by omega
            go_wp2_with fail
            refine BY.out.mono ?_
            rintro e _ ⟨rfl, rfl⟩
            go_wp2
            go_roundw
            case rel => exact ⟨c + 1, m, bl, t, by omega, by go_num, C1.out, I1.out, by omega, by omega, hidn⟩
            case measure => simp [intOf]; omega
        · have eb := busy_is hidl
          rw [eb] at BY
          have hk4 : k < 4 := by
            have : rk m c ≠ 0 := fun h => hidl (rk_pos h)
            omega
          have hkl : (k : Int) < 4 := by omega
          have RS := rk_step I1.out hc3 hidl
          have WN := step_went I1.out (by omega) hc3 hidl
          have SG := Lib.hid (steps_go C1.out I1.out (by omega) hc3 hidl (by omega))
          have I2 := Lib.hid WN.inv
          have n2 := step_cnt m c
          have hid2 : ∀ d, d < c → (m.step c).k d = .idle := fun d hd => by rw [step_other m (by omega : d ≠ c)]; exact hid d hd
          clear WN
          by_cases hk1 : k = 1
          · have hkb : ((k : Int) == 1) = true := by simp [hk1]
            rw [u_none (hu (by omega))] at cu
            go_wp2_with fail
            refine BY.out.mono ?_
            rintro e _ ⟨rfl, rfl⟩
            go_wp2_with fail
            refine SG.out.mono ?_
            rintro e v ⟨rfl, cv⟩
            have C2 := Lib.hid cv
            clear cv
            go_wp2
            go_roundw
            case rel => exact ⟨k + 1, m.step c, bl, t + 1, by omega, by go_num, C2.out, I2.out, by omega, by omega, hid2, by omega, fun _ => RS.2⟩
            case measure => simp [intOf]; omega
          · have hkb : ((k : Int) == 1) = false := by simp; omega
            clear cu
            go_wp2_with fail
            refine BY.out.mono ?_
            rintro e _ ⟨rfl, rfl⟩
            go_wp2_with fail
            refine SG.out.mono ?_
            rintro e v ⟨rfl, cv⟩
            have C2 := Lib.hid cv
            clear cv
            go_wp2
            go_roundw
            case rel => exact ⟨k + 1, m.step c, bl, t + 1, by omega, by go_num, C2.out, I2.out, by omega, by omega, hid2, by omega, fun _ => RS.2⟩
            case measure => simp [intOf]; omega
    · have hcl : ¬ (c : Int) < 3 := by omega
      have hid3 : ∀ d, d < 3 → m.k d = .idle := fun d hd => hid d (by omega)
      obtain ⟨q, hq3, hpk⟩ : ∃ q : Nat, q < 3 ∧ ∀ w, Hid (Calls Try.prog 12 #[.int .i64 who, .int .i64 3] w fun e w' => e = .returned (.int .i64 (q : Int)) ∧ w = w') := by
        refine ⟨(who % 3).toNat, by omega, fun w => Lib.hid ?_⟩
        have h := Wo.pick_any who 3 (by decide) (by decide) w
        rw [show (((who % 3).toNat : Nat) : Int) = who % 3 by omega]
        exact h
      have hqi : (q : Int) < 3 := by omega
      have hq0 : (0 : Int) ≤ (q : Int) := by omega
      clear hid hc3
      have x4 := C1.out.x4
      have ct := C1.out.ct q hq3
      go_wp2_with fail
      refine (hpk _).out.mono ?_
      rintro e _ ⟨rfl, rfl⟩
      by_cases ha : m.at_ q < 0
      · have x1 := C1.out.x1
        have cp := C1.out.cp q hq3
        rw [hid3 q hq3] at cp
        dsimp only [Kd.p] at cp
        have fp := C1.out.fp
        have sP := C1.out.size.2.1
        have nXP : X ≠ P := fun e => C1.out.fx.ne.2.2.2.1 e.symm
        go_wp2_with fail
        go_region_held3 (fun w' => w'.cell? ⟨X, 1, none⟩ = some (.slice (some ⟨P, 0, none⟩) 3 3)) (first | go_keep | (exact KA.some x1) | (exact KB.some x1) | (exact row_far nXP (KB.some x1))) (first
          | (go_at_call 41; refine (three_any _).mono ?_; rintro e u1 ⟨rfl, k1⟩; have KA : Kept wr u1 := Kept.trans (b := _) (by repeat (first | (with_reducible exact Kept.refl _) | (with_reducible refine Kept.drew ?_) | (with_reducible refine Kept.drewN ?_ _))) k1)
          | (go_at_call 37; refine (newPin_yes S3 q _ hq0 hqi).mono ?_; rintro e u2 ⟨b, rfl, lb, gb, ob, k2⟩; have KQ : Kept u1 u2 := Kept.trans (b := _) (by repeat (first | (with_reducible exact Kept.refl _) | (with_reducible refine Kept.drew ?_) | (with_reducible refine Kept.drewN ?_ _))) k2; have lb1 : u1.heap.size ≤ b := lb; have KB := KA.trans KQ; have cpu := KB.some cp; have fpu : (∀ i, u2.frozen? ⟨P, i, none⟩ = false) := (fun i => KB.soft sP (fp i))))
        all_goals
          have lb0 : wr.heap.size ≤ b := Nat.le_trans KA.size lb1
          have F := C1.out.fresh (u := u2) lb0
          have CN := Lib.hid ((C1.out.kept KB).bornP hq3 (hid3 q hq3) F.1 gb F.2 ob)
          have BI := begin_inv I1.out hq3 (hid3 q hq3) 0
          have eb : m.begin q 0 = ⟨m.s, putf m.k q (.pin EOp.new), m.at_⟩ := by unfold Md.begin; rw [if_pos ha]
          rw [eb] at BI
          have I2 := Lib.hid BI.1
          clear KA KQ KB cpu fpu lb gb ob k1 k2 x1 x4 cp ct fp F BI eb
          go_wp2_with fail
          go_loopw [10] (PinRel w1 L0 L M B P U A T X (len + 12) q) (fun i _ => 3 - (intOf i).toNat)
          case atStart => exact ⟨0, _, _, t, by decide, rfl, by first | exact CN.out | exact CN.out.kept (Kept.refl _).drew | exact CN.out.kept ((Kept.refl _).drewN _), I2.out, by omega, by show m.s.cnt ≤ _; omega, fun d hd hdq => by show putf m.k q _ d = _; rw [put_ne _ _ hdq]; exact hid3 d hd, by
            unfold rk
            show (match putf m.k q (.pin EOp.new) q with | .idle => 0 | .pin x => _ | .unpin _ => 1 | .adv x => _) + 0 ≤ 3
            rw [put_self]
            dsimp only
            rw [if_pos (show EOp.new.line = 1 from rfl)]
            omega, fun h => by
            have h : putf m.k q (.pin EOp.new) q = .idle := h
            rw [put_self] at h; exact absurd h (by simp), fun _ => ⟨EOp.new, put_self _ _ _⟩⟩
          case round =>
            clear CN I2 hid3 ha ht hcnt C1 I1
            obtain ⟨k, m, bl, t, hk, rfl, hcm, hinv, ht, hcnt, hid, hrk, hat, hpn⟩ := hrel
            have C1 := Lib.hid hcm
            have I1 := Lib.hid hinv
            have BY := Lib.hid (busy_any hcm hq3)
            clear hcm hinv
            by_cases hidl : m.k q = .idle
            · have eb : (m.k q).busy = false := by rw [hidl]; rfl
              rw [eb] at BY
              have hid3 : ∀ d, d < 3 → m.k d = .idle := fun d hd => by
                by_cases e : d = q
                · rw [e]; exact hidl
                · exact hid d hd e
              have ha := hat hidl
              have htt : t ≤ 300 := by omega
              have hnn : m.s.cnt ≤ 500 := by omega
              by_cases hk4 : k < 3
              · have hkl : (k : Int) < 3 := by omega
                go_wp2_with fail
                refine BY.out.mono ?_
                rintro e _ ⟨rfl, rfl⟩
                clear BY hk hrk hat hpn hk4 hkl hid hidl eb ht hcnt
                have x0 := C1.out.x0
                have x4 := C1.out.x4
                have ct := C1.out.ct q hq3
                obtain ⟨wa, hwa⟩ : ∃ wa, wa = wr := ⟨_, rfl⟩
                subst hwa
                go_wp2_with fail
                go_region_held3 (fun w' => w'.cell? ⟨X, 0, none⟩ = some (.pointer (some ⟨M, 0, none⟩)) ∧ w'.cell? ⟨X, 4, none⟩ = some (.slice (some ⟨T, 0, none⟩) 3 3) ∧ w'.cell? ⟨T, q, none⟩ = some (.int .i64 (m.at_ q))) (first | go_keep | (exact ⟨KB.some x0, KB.some x4, KB.some ct⟩) | (exact ⟨KA.some x0, KA.some x4, KA.some ct⟩)) (first
                  | (go_at_call 16; refine (now_c C1.out I1.out (by first | exact KA | exact KA.drew | exact KA.drewN _)).mono ?_; rintro e u2 ⟨rfl, k2⟩; have KB : Kept wa u2 := KA.trans (Kept.trans (b := _) (by repeat (first | (with_reducible exact Kept.refl _) | (with_reducible refine Kept.drew ?_) | (with_reducible refine Kept.drewN ?_ _))) k2))
                  | (go_at_call 41; refine (three_any _).mono ?_; rintro e u1 ⟨rfl, k1⟩; have KA : Kept wa u1 := Kept.trans (b := _) (by repeat (first | (with_reducible exact Kept.refl _) | (with_reducible refine Kept.drew ?_) | (with_reducible refine Kept.drewN ?_ _))) k1))
                all_goals
                  have C3 := Lib.hid (C1.out.kept KB)
                  clear KA KB k1 k2 x0 x4 ct
                  rename_i hcells
                  clear hcells
                  have y4 := C3.out.x4
                  go_wp2_with fail
                  go_loopw [13, 14] (DRel u2 m q) (fun _ i _ => 3 - (intOf i).toNat)
                  case atStart => exact ⟨0, m.at_ q == m.E, by decide, rfl, rfl, ⟨fun h => ⟨beq_iff_eq.1 h, fun e he => absurd he (Nat.not_lt_zero _)⟩, fun h => beq_iff_eq.2 h.1⟩, rfl⟩
                  case round =>
                    obtain ⟨d, b, hd, rfl, rfl, hb, hwz⟩ := hrel
                    subst hwz
                    by_cases hd3 : d < 3
                    · have hdl : (d : Int) < 3 := by omega
                      have hd0 : (0 : Int) ≤ (d : Int) := by omega
                      have cd := C3.out.ct d hd3
                      cases b with
                      | false =>
                        have HB := Lib.hid hb
                        clear hb
                        go_wp2
                        go_roundw
                        case rel => exact ⟨d + 1, false, by omega, by go_num, rfl, ⟨fun h => absurd h (by decide), fun h => HB.out.2 ⟨h.1, fun e he => h.2 e (by omega)⟩⟩, rfl⟩
                        case measure => simp [intOf]; omega
                      | true =>
                        have HB := Lib.hid hb
                        clear hb
                        by_cases hneg : m.at_ d < 0
                        · go_wp2
                          go_roundw
                          case rel => exact ⟨d + 1, true, by omega, by go_num, rfl, ⟨fun h => ⟨(HB.out.1 h).1, fun e he => by
                            by_cases e2 : e = d
                            · rw [e2]; exact .inl hneg
                            · exact (HB.out.1 h).2 e (by omega)⟩, fun h => rfl⟩, rfl⟩
                          case measure => simp [intOf]; omega
                        · have hnb : ¬ m.at_ d < 0 := hneg
                          go_wp2
                          go_roundw
                          case rel => exact ⟨d + 1, m.at_ d == m.E, by omega, by go_num, rfl, ⟨fun h => ⟨(HB.out.1 rfl).1, fun e he => by
                            by_cases e2 : e = d
                            · rw [e2]; exact .inr (beq_iff_eq.1 h)
                            · exact (HB.out.1 rfl).2 e (by omega)⟩, fun h => by
                            rcases h.2 d (by omega) with g | g
                            · exact absurd g hneg
                            · exact beq_iff_eq.2 g⟩, rfl⟩
                          case measure => simp [intOf]; omega
                    · have hdl : ¬ (d : Int) < 3 := by omega
                      obtain rfl : d = 3 := by omega
                      replace hb : b = true ↔ May m q := hb
                      clear y4 hd hd3
                      go_wp2_with fail
                      refine (three_any _).mono ?_
                      rintro e v1 ⟨rfl, q1⟩
                      have C4 := Lib.hid (C3.out.kept q1)
                      clear q1
                      go_wp2_with fail
                      refine (newAdvance_yes S3 q (m.at_ q) _ hq0 hqi).mono ?_
                      rintro e v2 ⟨Y, rfl, lY, gY, oY, q2⟩
                      have C5 := Lib.hid (C4.out.kept q2)
                      have OY := Lib.hid oY
                      have FR := C4.out.fresh (u := v2) lY
                      have YB : Bk w1 M B Y := by
                        have z := C5.out.fx.z
                        have hm := C5.out.fx.m
                        have lo := C5.out.fx.lo
                        have hi := C5.out.fx.hi
                        have f1 := FR.1
                        exact ⟨by omega, by omega, by omega⟩
                      have nXY : X ≠ Y := by
                        have hi := C5.out.fx.hi
                        have f1 := FR.1
                        omega
                      have nXB : X ≠ B := by
                        have hm := C5.out.fx.m
                        have lo := C5.out.fx.lo
                        omega
                      have z0 := C5.out.x0
                      have e0 := I1.out.e0
                      have e1 := I1.out.e1
                      have t1 := I1.out.t1
                      clear q2 oY lY gY FR
                      go_wp2_with fail
                      go_loopw [16] (YRel w1 v2 M B Y q m) (fun i _ => 3 - (intOf i).toNat)
                      case atStart => exact ⟨0, m.s, EOp.new, by decide, rfl, al_new I1.out, C5.out.mem, OY.out, But.refl _ _, by omega⟩
                      case round =>
                        obtain ⟨j, s, x, hj, rfl, hy⟩ := hrel
                        have HY := Lib.hid hy
                        have x0 := hy.g.some z0 (by rintro (e | e) <;> omega)
                        have ST := Lib.hid (fun W (k : Kept wr W) => adv3 (hy.i.grow k) (hy.o.kept k) YB hy.al.ok hy.al.an (by have := hy.cn; omega))
                        have AS := al_step I1.out hid3 hq3 hy.al
                        have acn := (@adv_cnt 4 S3 s x).2
                        have hcn := hy.cn
                        clear hy
                        by_cases hj3 : j < 3
                        · have hjl : (j : Int) < 3 := by omega
                          rcases AS with ⟨a9, ae, am, _, aw⟩ | ⟨a9, _, al2⟩ | ⟨_, _, _, aj, _, _⟩
                          · have hbf : b = false := by
                              cases b with
                              | false => rfl
                              | true => exact absurd (hb.1 rfl) am
                            subst hbf
                            have a9b : ((advOp 4 S3 q (m.at_ q) s x).line == 9) = true := beq_iff_eq.2 a9
                            rw [a9b] at ST
                            have TL := Lib.hid (fun W (o : AdvAt W Y S3 q (m.at_ q) (advOp 4 S3 q (m.at_ q) s x)) => adv_told Y S3 q (m.at_ q) _ W o)
                            rw [ae] at TL
                            have hw0 : (advSt 4 S3 s x).ws 0 = m.E := congrFun aw 0
                            clear a9 ae am aw hb acn hcn
                            go_wp2_with fail
                            refine (ST.out _ (Kept.refl _)).mono ?_
                            rintro e v ⟨rfl, ov, iv, gv⟩
                            have OV := Lib.hid ov
                            have IV := Lib.hid iv
                            have xv := gv.some x0 (by rintro (e | e) <;> omega)
                            have xvd := (Kept.refl v).drew.some xv
                            clear ov iv gv ST
                            go_wp2_with fail
                            go_region_held3 (fun w' => w'.cell? ⟨X, 0, none⟩ = some (.pointer (some ⟨M, 0, none⟩))) (first | (exact xvd) | (exact KC.some xv) | (exact KB.some xv) | (exact KA.some xv) | (exact xv) | go_keep) (first
                              | (go_at_call 16; refine (now_s IV.out hw0 e0 (by omega) (by first | exact KB | exact KB.drew | exact KB.drewN _)).mono ?_; rintro e u8 ⟨rfl, k8⟩; have KC : Kept v u8 := KB.trans (Kept.trans (b := _) (by repeat (first | (with_reducible exact Kept.refl _) | (with_reducible refine Kept.drew ?_) | (with_reducible refine Kept.drewN ?_ _))) k8))
                              | (go_at_call 34; refine (TL.out _ (OV.out.kept (by repeat (first | (with_reducible exact Kept.refl _) | (with_reducible refine Kept.drew ?_) | (with_reducible refine Kept.drewN ?_ _))))).mono ?_; rintro e u6 ⟨rfl, k6⟩; have KA : Kept v u6 := Kept.trans (b := _) (by repeat (first | (with_reducible exact Kept.refl _) | (with_reducible refine Kept.drew ?_) | (with_reducible refine Kept.drewN ?_ _))) k6)
                              | (go_at_call 41; refine (three_any _).mono ?_; rintro e u7 ⟨rfl, k7⟩; have KB : Kept v u7 := KA.trans (Kept.trans (b := _) (by repeat (first | (with_reducible exact Kept.refl _) | (with_reducible refine Kept.drew ?_) | (with_reducible refine Kept.drewN ?_ _))) k7)))
                            all_goals
                              have KF := Lib.hid (K1.out.trans (IV.out.kept.trans KC))
                              clear KA KB KC k6 k7 k8
                              rename_i hcells
                              clear hcells
                              go_wp2
                              go_ret
                              exact ⟨by first | rfl | simp, by first | exact KF.out | exact KF.out.drew | exact KF.out.drewN _⟩
                          · have a9b : ((advOp 4 S3 q (m.at_ q) s x).line == 9) = false := by simpa using a9
                            rw [a9b] at ST
                            have AL := Lib.hid al2
                            clear al2 a9
                            go_wp2_with fail
                            refine (ST.out _ (Kept.refl _)).mono ?_
                            rintro e v ⟨rfl, ov, iv, gv⟩
                            have OV := Lib.hid ov
                            have IV := Lib.hid iv
                            have GV := Lib.hid gv
                            clear ov iv gv ST
                            go_wp2
                            go_roundw
                            case rel => exact ⟨j + 1, _, _, by omega, by go_num, AL.out, IV.out, OV.out, HY.out.g.trans GV.out (fun _ _ h => h), by omega⟩
                            case measure => simp [intOf]; omega
                          · omega
                        · have hjl : ¬ (j : Int) < 3 := by omega
                          rcases AS with ⟨_, _, _, aj, _⟩ | ⟨_, aj, _⟩ | ⟨a9, ae, am, _, aw, _⟩
                          · omega
                          · omega
                          · have hbt : b = true := hb.2 am
                            subst hbt
                            have a9b : ((advOp 4 S3 q (m.at_ q) s x).line == 9) = true := beq_iff_eq.2 a9
                            rw [a9b] at ST
                            have TL := Lib.hid (fun W (o : AdvAt W Y S3 q (m.at_ q) (advOp 4 S3 q (m.at_ q) s x)) => adv_told Y S3 q (m.at_ q) _ W o)
                            rw [ae] at TL
                            have hpd : decide (0 ≤ m.at_ q) = true := by simpa using ha
                            have hwr : IntKind.i64.wrap (m.E + 1) = m.E + 1 := by rw [IntKind.wrap_i64]; omega
                            clear a9 ae am hb acn hcn
                            have x0d := (Kept.refl wr).drew.some x0
                            go_wp2_with fail
                            go_region_held3 (fun w' => w'.cell? ⟨X, 0, none⟩ = some (.pointer (some ⟨M, 0, none⟩))) (first | (exact x0d) | (exact KC.some xv) | (exact KB.some xv) | (exact KA.some xv) | (exact xv) | go_keep) (first
                              | (go_at_call 32; refine (ST.out _ (by repeat (first | (with_reducible exact Kept.refl _) | (with_reducible refine Kept.drew ?_) | (with_reducible refine Kept.drewN ?_ _)))).mono ?_; rintro e v ⟨rfl, ov, iv, gv⟩; have OV := Lib.hid ov; have IV := Lib.hid iv; have GW : But (fun k => k = Y ∨ k = B) wr v := (Kept.but (w := wr) (w' := _) (by repeat (first | (with_reducible exact Kept.refl _) | (with_reducible refine Kept.drew ?_) | (with_reducible refine Kept.drewN ?_ _))) _).trans gv (fun _ _ h => h); have xv := GW.some x0 (by rintro (e | e) <;> omega))
                              | (go_at_call 16; refine (now_s IV.out aw (by omega) (by omega) (by first | exact KB | exact KB.drew | exact KB.drewN _)).mono ?_; rintro e u8 ⟨rfl, k8⟩; have KC : Kept v u8 := KB.trans (Kept.trans (b := _) (by repeat (first | (with_reducible exact Kept.refl _) | (with_reducible refine Kept.drew ?_) | (with_reducible refine Kept.drewN ?_ _))) k8))
                              | (go_at_call 48; refine (boolean_true _).mono ?_; rintro e _ ⟨rfl, rfl⟩)
                              | (go_at_call 34; refine (TL.out _ (OV.out.kept (by repeat (first | (with_reducible exact Kept.refl _) | (with_reducible refine Kept.drew ?_) | (with_reducible refine Kept.drewN ?_ _))))).mono ?_; rintro e u6 ⟨rfl, k6⟩; have KA : Kept v u6 := Kept.trans (b := _) (by repeat (first | (with_reducible exact Kept.refl _) | (with_reducible refine Kept.drew ?_) | (with_reducible refine Kept.drewN ?_ _))) k6)
                              | (go_at_call 41; refine (three_any _).mono ?_; rintro e u7 ⟨rfl, k7⟩; have KB : Kept v u7 := KA.trans (Kept.trans (b := _) (by repeat (first | (with_reducible exact Kept.refl _) | (with_reducible refine Kept.drew ?_) | (with_reducible refine Kept.drewN ?_ _))) k7)))
                            all_goals
                              have KF := Lib.hid (K1.out.trans (IV.out.kept.trans KC))
                              clear KA KB KC k6 k7 k8 ov iv gv GW
                              rename_i hcells
                              clear hcells
                              go_wp2
                              go_ret
                              exact ⟨by first | rfl | simp, by first | exact KF.out | exact KF.out.drew | exact KF.out.drewN _⟩
              · have hkl : ¬ (k : Int) < 3 := by omega
                clear BY hk hrk hat hpn hk4 hid hidl eb ht hcnt
                have x0 := C1.out.x0
                have x4 := C1.out.x4
                have ct := C1.out.ct q hq3
                obtain ⟨wa, hwa⟩ : ∃ wa, wa = wr := ⟨_, rfl⟩
                subst hwa
                go_wp2_with fail
                go_region_held3 (fun w' => w'.cell? ⟨X, 0, none⟩ = some (.pointer (some ⟨M, 0, none⟩)) ∧ w'.cell? ⟨X, 4, none⟩ = some (.slice (some ⟨T, 0, none⟩) 3 3) ∧ w'.cell? ⟨T, q, none⟩ = some (.int .i64 (m.at_ q))) (first | go_keep | (exact ⟨KB.some x0, KB.some x4, KB.some ct⟩) | (exact ⟨KA.some x0, KA.some x4, KA.some ct⟩)) (first
                  | (go_at_call 16; refine (now_c C1.out I1.out (by first | exact KA | exact KA.drew | exact KA.drewN _)).mono ?_; rintro e u2 ⟨rfl, k2⟩; have KB : Kept wa u2 := KA.trans (Kept.trans (b := _) (by repeat (first | (with_reducible exact Kept.refl _) | (with_reducible refine Kept.drew ?_) | (with_reducible refine Kept.drewN ?_ _))) k2))
                  | (go_at_call 41; refine (three_any _).mono ?_; rintro e u1 ⟨rfl, k1⟩; have KA : Kept wa u1 := Kept.trans (b := _) (by repeat (first | (with_reducible exact Kept.refl _) | (with_reducible refine Kept.drew ?_) | (with_reducible refine Kept.drewN ?_ _))) k1))
                all_goals
                  have C3 := Lib.hid (C1.out.kept KB)
                  clear KA KB k1 k2 x0 x4 ct
                  rename_i hcells
                  clear hcells
                  have y4 := C3.out.x4
                  go_wp2_with fail
                  go_loopw [13, 14] (DRel u2 m q) (fun _ i _ => 3 - (intOf i).toNat)
                  case atStart => exact ⟨0, m.at_ q == m.E, by decide, rfl, rfl, ⟨fun h => ⟨beq_iff_eq.1 h, fun e he => absurd he (Nat.not_lt_zero _)⟩, fun h => beq_iff_eq.2 h.1⟩, rfl⟩
                  case round =>
                    obtain ⟨d, b, hd, rfl, rfl, hb, hwz⟩ := hrel
                    subst hwz
                    by_cases hd3 : d < 3
                    · have hdl : (d : Int) < 3 := by omega
                      have hd0 : (0 : Int) ≤ (d : Int) := by omega
                      have cd := C3.out.ct d hd3
                      cases b with
                      | false =>
                        have HB := Lib.hid hb
                        clear hb
                        go_wp2
                        go_roundw
                        case rel => exact ⟨d + 1, false, by omega, by go_num, rfl, ⟨fun h => absurd h (by decide), fun h => HB.out.2 ⟨h.1, fun e he => h.2 e (by omega)⟩⟩, rfl⟩
                        case measure => simp [intOf]; omega
                      | true =>
                        have HB := Lib.hid hb
                        clear hb
                        by_cases hneg : m.at_ d < 0
                        · go_wp2
                          go_roundw
                          case rel => exact ⟨d + 1, true, by omega, by go_num, rfl, ⟨fun h => ⟨(HB.out.1 h).1, fun e he => by
                            by_cases e2 : e = d
                            · rw [e2]; exact .inl hneg
                            · exact (HB.out.1 h).2 e (by omega)⟩, fun h => rfl⟩, rfl⟩
                          case measure => simp [intOf]; omega
                        · have hnb : ¬ m.at_ d < 0 := hneg
                          go_wp2
                          go_roundw
                          case rel => exact ⟨d + 1, m.at_ d == m.E, by omega, by go_num, rfl, ⟨fun h => ⟨(HB.out.1 rfl).1, fun e he => by
                            by_cases e2 : e = d
                            · rw [e2]; exact .inr (beq_iff_eq.1 h)
                            · exact (HB.out.1 rfl).2 e (by omega)⟩, fun h => by
                            rcases h.2 d (by omega) with g | g
                            · exact absurd g hneg
                            · exact beq_iff_eq.2 g⟩, rfl⟩
                          case measure => simp [intOf]; omega
                    · have hdl : ¬ (d : Int) < 3 := by omega
                      obtain rfl : d = 3 := by omega
                      replace hb : b = true ↔ May m q := hb
                      clear y4 hd hd3
                      go_wp2_with fail
                      refine (three_any _).mono ?_
                      rintro e v1 ⟨rfl, q1⟩
                      have C4 := Lib.hid (C3.out.kept q1)
                      clear q1
                      go_wp2_with fail
                      refine (newAdvance_yes S3 q (m.at_ q) _ hq0 hqi).mono ?_
                      rintro e v2 ⟨Y, rfl, lY, gY, oY, q2⟩
                      have C5 := Lib.hid (C4.out.kept q2)
                      have OY := Lib.hid oY
                      have FR := C4.out.fresh (u := v2) lY
                      have YB : Bk w1 M B Y := by
                        have z := C5.out.fx.z
                        have hm := C5.out.fx.m
                        have lo := C5.out.fx.lo
                        have hi := C5.out.fx.hi
                        have f1 := FR.1
                        exact ⟨by omega, by omega, by omega⟩
                      have nXY : X ≠ Y := by
                        have hi := C5.out.fx.hi
                        have f1 := FR.1
                        omega
                      have nXB : X ≠ B := by
                        have hm := C5.out.fx.m
                        have lo := C5.out.fx.lo
                        omega
                      have z0 := C5.out.x0
                      have e0 := I1.out.e0
                      have e1 := I1.out.e1
                      have t1 := I1.out.t1
                      clear q2 oY lY gY FR
                      go_wp2_with fail
                      go_loopw [16] (YRel w1 v2 M B Y q m) (fun i _ => 3 - (intOf i).toNat)
                      case atStart => exact ⟨0, m.s, EOp.new, by decide, rfl, al_new I1.out, C5.out.mem, OY.out, But.refl _ _, by omega⟩
                      case round =>
                        obtain ⟨j, s, x, hj, rfl, hy⟩ := hrel
                        have HY := Lib.hid hy
                        have x0 := hy.g.some z0 (by rintro (e | e) <;> omega)
                        have ST := Lib.hid (fun W (k : Kept wr W) => adv3 (hy.i.grow k) (hy.o.kept k) YB hy.al.ok hy.al.an (by have := hy.cn; omega))
                        have AS := al_step I1.out hid3 hq3 hy.al
                        have acn := (@adv_cnt 4 S3 s x).2
                        have hcn := hy.cn
                        clear hy
                        by_cases hj3 : j < 3
                        · have hjl : (j : Int) < 3 := by omega
                          rcases AS with ⟨a9, ae, am, _, aw⟩ | ⟨a9, _, al2⟩ | ⟨_, _, _, aj, _, _⟩
                          · have hbf : b = false := by
                              cases b with
                              | false => rfl
                              | true => exact absurd (hb.1 rfl) am
                            subst hbf
                            have a9b : ((advOp 4 S3 q (m.at_ q) s x).line == 9) = true := beq_iff_eq.2 a9
                            rw [a9b] at ST
                            have TL := Lib.hid (fun W (o : AdvAt W Y S3 q (m.at_ q) (advOp 4 S3 q (m.at_ q) s x)) => adv_told Y S3 q (m.at_ q) _ W o)
                            rw [ae] at TL
                            have hw0 : (advSt 4 S3 s x).ws 0 = m.E := congrFun aw 0
                            clear a9 ae am aw hb acn hcn
                            go_wp2_with fail
                            refine (ST.out _ (Kept.refl _)).mono ?_
                            rintro e v ⟨rfl, ov, iv, gv⟩
                            have OV := Lib.hid ov
                            have IV := Lib.hid iv
                            have xv := gv.some x0 (by rintro (e | e) <;> omega)
                            have xvd := (Kept.refl v).drew.some xv
                            clear ov iv gv ST
                            go_wp2_with fail
                            go_region_held3 (fun w' => w'.cell? ⟨X, 0, none⟩ = some (.pointer (some ⟨M, 0, none⟩))) (first | (exact xvd) | (exact KC.some xv) | (exact KB.some xv) | (exact KA.some xv) | (exact xv) | go_keep) (first
                              | (go_at_call 16; refine (now_s IV.out hw0 e0 (by omega) (by first | exact KB | exact KB.drew | exact KB.drewN _)).mono ?_; rintro e u8 ⟨rfl, k8⟩; have KC : Kept v u8 := KB.trans (Kept.trans (b := _) (by repeat (first | (with_reducible exact Kept.refl _) | (with_reducible refine Kept.drew ?_) | (with_reducible refine Kept.drewN ?_ _))) k8))
                              | (go_at_call 34; refine (TL.out _ (OV.out.kept (by repeat (first | (with_reducible exact Kept.refl _) | (with_reducible refine Kept.drew ?_) | (with_reducible refine Kept.drewN ?_ _))))).mono ?_; rintro e u6 ⟨rfl, k6⟩; have KA : Kept v u6 := Kept.trans (b := _) (by repeat (first | (with_reducible exact Kept.refl _) | (with_reducible refine Kept.drew ?_) | (with_reducible refine Kept.drewN ?_ _))) k6)
                              | (go_at_call 41; refine (three_any _).mono ?_; rintro e u7 ⟨rfl, k7⟩; have KB : Kept v u7 := KA.trans (Kept.trans (b := _) (by repeat (first | (with_reducible exact Kept.refl _) | (with_reducible refine Kept.drew ?_) | (with_reducible refine Kept.drewN ?_ _))) k7)))
                            all_goals
                              have KF := Lib.hid (K1.out.trans (IV.out.kept.trans KC))
                              clear KA KB KC k6 k7 k8
                              rename_i hcells
                              clear hcells
                              go_wp2
                              go_ret
                              exact ⟨by first | rfl | simp, by first | exact KF.out | exact KF.out.drew | exact KF.out.drewN _⟩
                          · have a9b : ((advOp 4 S3 q (m.at_ q) s x).line == 9) = false := by simpa using a9
                            rw [a9b] at ST
                            have AL := Lib.hid al2
                            clear al2 a9
                            go_wp2_with fail
                            refine (ST.out _ (Kept.refl _)).mono ?_
                            rintro e v ⟨rfl, ov, iv, gv⟩
                            have OV := Lib.hid ov
                            have IV := Lib.hid iv
                            have GV := Lib.hid gv
                            clear ov iv gv ST
                            go_wp2
                            go_roundw
                            case rel => exact ⟨j + 1, _, _, by omega, by go_num, AL.out, IV.out, OV.out, HY.out.g.trans GV.out (fun _ _ h => h), by omega⟩
                            case measure => simp [intOf]; omega
                          · omega
                        · have hjl : ¬ (j : Int) < 3 := by omega
                          rcases AS with ⟨_, _, _, aj, _⟩ | ⟨_, aj, _⟩ | ⟨a9, ae, am, _, aw, _⟩
                          · omega
                          · omega
                          · have hbt : b = true := hb.2 am
                            subst hbt
                            have a9b : ((advOp 4 S3 q (m.at_ q) s x).line == 9) = true := beq_iff_eq.2 a9
                            rw [a9b] at ST
                            have TL := Lib.hid (fun W (o : AdvAt W Y S3 q (m.at_ q) (advOp 4 S3 q (m.at_ q) s x)) => adv_told Y S3 q (m.at_ q) _ W o)
                            rw [ae] at TL
                            have hpd : decide (0 ≤ m.at_ q) = true := by simpa using ha
                            have hwr : IntKind.i64.wrap (m.E + 1) = m.E + 1 := by rw [IntKind.wrap_i64]; omega
                            clear a9 ae am hb acn hcn
                            have x0d := (Kept.refl wr).drew.some x0
                            go_wp2_with fail
                            go_region_held3 (fun w' => w'.cell? ⟨X, 0, none⟩ = some (.pointer (some ⟨M, 0, none⟩))) (first | (exact x0d) | (exact KC.some xv) | (exact KB.some xv) | (exact KA.some xv) | (exact xv) | go_keep) (first
                              | (go_at_call 32; refine (ST.out _ (by repeat (first | (with_reducible exact Kept.refl _) | (with_reducible refine Kept.drew ?_) | (with_reducible refine Kept.drewN ?_ _)))).mono ?_; rintro e v ⟨rfl, ov, iv, gv⟩; have OV := Lib.hid ov; have IV := Lib.hid iv; have GW : But (fun k => k = Y ∨ k = B) wr v := (Kept.but (w := wr) (w' := _) (by repeat (first | (with_reducible exact Kept.refl _) | (with_reducible refine Kept.drew ?_) | (with_reducible refine Kept.drewN ?_ _))) _).trans gv (fun _ _ h => h); have xv := GW.some x0 (by rintro (e | e) <;> omega))
                              | (go_at_call 16; refine (now_s IV.out aw (by omega) (by omega) (by first | exact KB | exact KB.drew | exact KB.drewN _)).mono ?_; rintro e u8 ⟨rfl, k8⟩; have KC : Kept v u8 := KB.trans (Kept.trans (b := _) (by repeat (first | (with_reducible exact Kept.refl _) | (with_reducible refine Kept.drew ?_) | (with_reducible refine Kept.drewN ?_ _))) k8))
                              | (go_at_call 48; refine (boolean_true _).mono ?_; rintro e _ ⟨rfl, rfl⟩)
                              | (go_at_call 34; refine (TL.out _ (OV.out.kept (by repeat (first | (with_reducible exact Kept.refl _) | (with_reducible refine Kept.drew ?_) | (with_reducible refine Kept.drewN ?_ _))))).mono ?_; rintro e u6 ⟨rfl, k6⟩; have KA : Kept v u6 := Kept.trans (b := _) (by repeat (first | (with_reducible exact Kept.refl _) | (with_reducible refine Kept.drew ?_) | (with_reducible refine Kept.drewN ?_ _))) k6)
                              | (go_at_call 41; refine (three_any _).mono ?_; rintro e u7 ⟨rfl, k7⟩; have KB : Kept v u7 := KA.trans (Kept.trans (b := _) (by repeat (first | (with_reducible exact Kept.refl _) | (with_reducible refine Kept.drew ?_) | (with_reducible refine Kept.drewN ?_ _))) k7)))
                            all_goals
                              have KF := Lib.hid (K1.out.trans (IV.out.kept.trans KC))
                              clear KA KB KC k6 k7 k8 ov iv gv GW
                              rename_i hcells
                              clear hcells
                              go_wp2
                              go_ret
                              exact ⟨by first | rfl | simp, by first | exact KF.out | exact KF.out.drew | exact KF.out.drewN _⟩
            · have eb := busy_is hidl
              rw [eb] at BY
              have hk4 : k < 3 := by
                have : rk m q ≠ 0 := fun h => hidl (rk_pos h)
                omega
              have hkl : (k : Int) < 3 := by omega
              obtain ⟨x, hkx⟩ := hpn hidl
              have RS := rk_step I1.out hq3 hidl
              have WN := step_went I1.out (by omega) hq3 hidl
              have SG := Lib.hid (steps_go C1.out I1.out (by omega) hq3 hidl (by omega))
              have I2 := Lib.hid WN.inv
              have n2 := step_cnt m q
              have PA := pin_step_at I1.out (by omega) hq3 hkx
              have hid2 : ∀ d, d < 3 → d ≠ q → (m.step q).k d = .idle := fun d hd hdq => by rw [step_other m hdq]; exact hid d hd hdq
              clear WN
              go_wp2_with fail
              refine BY.out.mono ?_
              rintro e _ ⟨rfl, rfl⟩
              go_wp2_with fail
              refine SG.out.mono ?_
              rintro e v ⟨rfl, cv⟩
              have C2 := Lib.hid cv
              clear cv
              go_wp2
              go_roundw
              case rel => exact ⟨k + 1, m.step q, bl, t + 1, by omega, by go_num, C2.out, I2.out, by omega, by omega, hid2, by omega, PA.1, PA.2⟩
              case measure => simp [intOf]; omega
      · have h0 : 0 ≤ m.at_ q := by omega
        have ha := h0
        have htt : t ≤ 300 := by omega
        have hnn : m.s.cnt ≤ 500 := by omega
        clear h0 ht hcnt hc hcl x4 ct
        have x0 := C1.out.x0
        have x4 := C1.out.x4
        have ct := C1.out.ct q hq3
        obtain ⟨wa, hwa⟩ : ∃ wa, wa = wr := ⟨_, rfl⟩
        subst hwa
        go_wp2_with fail
        go_region_held3 (fun w' => w'.cell? ⟨X, 0, none⟩ = some (.pointer (some ⟨M, 0, none⟩)) ∧ w'.cell? ⟨X, 4, none⟩ = some (.slice (some ⟨T, 0, none⟩) 3 3) ∧ w'.cell? ⟨T, q, none⟩ = some (.int .i64 (m.at_ q))) (first | go_keep | (exact ⟨KB.some x0, KB.some x4, KB.some ct⟩) | (exact ⟨KA.some x0, KA.some x4, KA.some ct⟩)) (first
          | (go_at_call 16; refine (now_c C1.out I1.out (by first | exact KA | exact KA.drew | exact KA.drewN _)).mono ?_; rintro e u2 ⟨rfl, k2⟩; have KB : Kept wa u2 := KA.trans (Kept.trans (b := _) (by repeat (first | (with_reducible exact Kept.refl _) | (with_reducible refine Kept.drew ?_) | (with_reducible refine Kept.drewN ?_ _))) k2))
          | (go_at_call 41; refine (three_any _).mono ?_; rintro e u1 ⟨rfl, k1⟩; have KA : Kept wa u1 := Kept.trans (b := _) (by repeat (first | (with_reducible exact Kept.refl _) | (with_reducible refine Kept.drew ?_) | (with_reducible refine Kept.drewN ?_ _))) k1))
        all_goals
          have C3 := Lib.hid (C1.out.kept KB)
          clear KA KB k1 k2 x0 x4 ct
          rename_i hcells
          clear hcells
          have y4 := C3.out.x4
          go_wp2_with fail
          go_loopw [13, 14] (DRel u2 m q) (fun _ i _ => 3 - (intOf i).toNat)
          case atStart => exact ⟨0, m.at_ q == m.E, by decide, rfl, rfl, ⟨fun h => ⟨beq_iff_eq.1 h, fun e he => absurd he (Nat.not_lt_zero _)⟩, fun h => beq_iff_eq.2 h.1⟩, rfl⟩
          case round =>
            obtain ⟨d, b, hd, rfl, rfl, hb, hwz⟩ := hrel
            subst hwz
            by_cases hd3 : d < 3
            · have hdl : (d : Int) < 3 := by omega
              have hd0 : (0 : Int) ≤ (d : Int) := by omega
              have cd := C3.out.ct d hd3
              cases b with
              | false =>
                have HB := Lib.hid hb
                clear hb
                go_wp2
                go_roundw
                case rel => exact ⟨d + 1, false, by omega, by go_num, rfl, ⟨fun h => absurd h (by decide), fun h => HB.out.2 ⟨h.1, fun e he => h.2 e (by omega)⟩⟩, rfl⟩
                case measure => simp [intOf]; omega
              | true =>
                have HB := Lib.hid hb
                clear hb
                by_cases hneg : m.at_ d < 0
                · go_wp2
                  go_roundw
                  case rel => exact ⟨d + 1, true, by omega, by go_num, rfl, ⟨fun h => ⟨(HB.out.1 h).1, fun e he => by
                    by_cases e2 : e = d
                    · rw [e2]; exact .inl hneg
                    · exact (HB.out.1 h).2 e (by omega)⟩, fun h => rfl⟩, rfl⟩
                  case measure => simp [intOf]; omega
                · have hnb : ¬ m.at_ d < 0 := hneg
                  go_wp2
                  go_roundw
                  case rel => exact ⟨d + 1, m.at_ d == m.E, by omega, by go_num, rfl, ⟨fun h => ⟨(HB.out.1 rfl).1, fun e he => by
                    by_cases e2 : e = d
                    · rw [e2]; exact .inr (beq_iff_eq.1 h)
                    · exact (HB.out.1 rfl).2 e (by omega)⟩, fun h => by
                    rcases h.2 d (by omega) with g | g
                    · exact absurd g hneg
                    · exact beq_iff_eq.2 g⟩, rfl⟩
                  case measure => simp [intOf]; omega
            · have hdl : ¬ (d : Int) < 3 := by omega
              obtain rfl : d = 3 := by omega
              replace hb : b = true ↔ May m q := hb
              clear y4 hd hd3
              go_wp2_with fail
              refine (three_any _).mono ?_
              rintro e v1 ⟨rfl, q1⟩
              have C4 := Lib.hid (C3.out.kept q1)
              clear q1
              go_wp2_with fail
              refine (newAdvance_yes S3 q (m.at_ q) _ hq0 hqi).mono ?_
              rintro e v2 ⟨Y, rfl, lY, gY, oY, q2⟩
              have C5 := Lib.hid (C4.out.kept q2)
              have OY := Lib.hid oY
              have FR := C4.out.fresh (u := v2) lY
              have YB : Bk w1 M B Y := by
                have z := C5.out.fx.z
                have hm := C5.out.fx.m
                have lo := C5.out.fx.lo
                have hi := C5.out.fx.hi
                have f1 := FR.1
                exact ⟨by omega, by omega, by omega⟩
              have nXY : X ≠ Y := by
                have hi := C5.out.fx.hi
                have f1 := FR.1
                omega
              have nXB : X ≠ B := by
                have hm := C5.out.fx.m
                have lo := C5.out.fx.lo
                omega
              have z0 := C5.out.x0
              have e0 := I1.out.e0
              have e1 := I1.out.e1
              have t1 := I1.out.t1
              clear q2 oY lY gY FR
              go_wp2_with fail
              go_loopw [16] (YRel w1 v2 M B Y q m) (fun i _ => 3 - (intOf i).toNat)
              case atStart => exact ⟨0, m.s, EOp.new, by decide, rfl, al_new I1.out, C5.out.mem, OY.out, But.refl _ _, by omega⟩
              case round =>
                obtain ⟨j, s, x, hj, rfl, hy⟩ := hrel
                have HY := Lib.hid hy
                have x0 := hy.g.some z0 (by rintro (e | e) <;> omega)
                have ST := Lib.hid (fun W (k : Kept wr W) => adv3 (hy.i.grow k) (hy.o.kept k) YB hy.al.ok hy.al.an (by have := hy.cn; omega))
                have AS := al_step I1.out hid3 hq3 hy.al
                have acn := (@adv_cnt 4 S3 s x).2
                have hcn := hy.cn
                clear hy
                by_cases hj3 : j < 3
                · have hjl : (j : Int) < 3 := by omega
                  rcases AS with ⟨a9, ae, am, _, aw⟩ | ⟨a9, _, al2⟩ | ⟨_, _, _, aj, _, _⟩
                  · have hbf : b = false := by
                      cases b with
                      | false => rfl
                      | true => exact absurd (hb.1 rfl) am
                    subst hbf
                    have a9b : ((advOp 4 S3 q (m.at_ q) s x).line == 9) = true := beq_iff_eq.2 a9
                    rw [a9b] at ST
                    have TL := Lib.hid (fun W (o : AdvAt W Y S3 q (m.at_ q) (advOp 4 S3 q (m.at_ q) s x)) => adv_told Y S3 q (m.at_ q) _ W o)
                    rw [ae] at TL
                    have hw0 : (advSt 4 S3 s x).ws 0 = m.E := congrFun aw 0
                    clear a9 ae am aw hb acn hcn
                    go_wp2_with fail
                    refine (ST.out _ (Kept.refl _)).mono ?_
                    rintro e v ⟨rfl, ov, iv, gv⟩
                    have OV := Lib.hid ov
                    have IV := Lib.hid iv
                    have xv := gv.some x0 (by rintro (e | e) <;> omega)
                    have xvd := (Kept.refl v).drew.some xv
                    clear ov iv gv ST
                    go_wp2_with fail
                    go_region_held3 (fun w' => w'.cell? ⟨X, 0, none⟩ = some (.pointer (some ⟨M, 0, none⟩))) (first | (exact xvd) | (exact KC.some xv) | (exact KB.some xv) | (exact KA.some xv) | (exact xv) | go_keep) (first
                      | (go_at_call 16; refine (now_s IV.out hw0 e0 (by omega) (by first | exact KB | exact KB.drew | exact KB.drewN _)).mono ?_; rintro e u8 ⟨rfl, k8⟩; have KC : Kept v u8 := KB.trans (Kept.trans (b := _) (by repeat (first | (with_reducible exact Kept.refl _) | (with_reducible refine Kept.drew ?_) | (with_reducible refine Kept.drewN ?_ _))) k8))
                      | (go_at_call 34; refine (TL.out _ (OV.out.kept (by repeat (first | (with_reducible exact Kept.refl _) | (with_reducible refine Kept.drew ?_) | (with_reducible refine Kept.drewN ?_ _))))).mono ?_; rintro e u6 ⟨rfl, k6⟩; have KA : Kept v u6 := Kept.trans (b := _) (by repeat (first | (with_reducible exact Kept.refl _) | (with_reducible refine Kept.drew ?_) | (with_reducible refine Kept.drewN ?_ _))) k6)
                      | (go_at_call 41; refine (three_any _).mono ?_; rintro e u7 ⟨rfl, k7⟩; have KB : Kept v u7 := KA.trans (Kept.trans (b := _) (by repeat (first | (with_reducible exact Kept.refl _) | (with_reducible refine Kept.drew ?_) | (with_reducible refine Kept.drewN ?_ _))) k7)))
                    all_goals
                      have KF := Lib.hid (K1.out.trans (IV.out.kept.trans KC))
                      clear KA KB KC k6 k7 k8
                      rename_i hcells
                      clear hcells
                      go_wp2
                      go_ret
                      exact ⟨by first | rfl | simp, by first | exact KF.out | exact KF.out.drew | exact KF.out.drewN _⟩
                  · have a9b : ((advOp 4 S3 q (m.at_ q) s x).line == 9) = false := by simpa using a9
                    rw [a9b] at ST
                    have AL := Lib.hid al2
                    clear al2 a9
                    go_wp2_with fail
                    refine (ST.out _ (Kept.refl _)).mono ?_
                    rintro e v ⟨rfl, ov, iv, gv⟩
                    have OV := Lib.hid ov
                    have IV := Lib.hid iv
                    have GV := Lib.hid gv
                    clear ov iv gv ST
                    go_wp2
                    go_roundw
                    case rel => exact ⟨j + 1, _, _, by omega, by go_num, AL.out, IV.out, OV.out, HY.out.g.trans GV.out (fun _ _ h => h), by omega⟩
                    case measure => simp [intOf]; omega
                  · omega
                · have hjl : ¬ (j : Int) < 3 := by omega
                  rcases AS with ⟨_, _, _, aj, _⟩ | ⟨_, aj, _⟩ | ⟨a9, ae, am, _, aw, _⟩
                  · omega
                  · omega
                  · have hbt : b = true := hb.2 am
                    subst hbt
                    have a9b : ((advOp 4 S3 q (m.at_ q) s x).line == 9) = true := beq_iff_eq.2 a9
                    rw [a9b] at ST
                    have TL := Lib.hid (fun W (o : AdvAt W Y S3 q (m.at_ q) (advOp 4 S3 q (m.at_ q) s x)) => adv_told Y S3 q (m.at_ q) _ W o)
                    rw [ae] at TL
                    have hpd : decide (0 ≤ m.at_ q) = true := by simpa using ha
                    have hwr : IntKind.i64.wrap (m.E + 1) = m.E + 1 := by rw [IntKind.wrap_i64]; omega
                    clear a9 ae am hb acn hcn
                    have x0d := (Kept.refl wr).drew.some x0
                    go_wp2_with fail
                    go_region_held3 (fun w' => w'.cell? ⟨X, 0, none⟩ = some (.pointer (some ⟨M, 0, none⟩))) (first | (exact x0d) | (exact KC.some xv) | (exact KB.some xv) | (exact KA.some xv) | (exact xv) | go_keep) (first
                      | (go_at_call 32; refine (ST.out _ (by repeat (first | (with_reducible exact Kept.refl _) | (with_reducible refine Kept.drew ?_) | (with_reducible refine Kept.drewN ?_ _)))).mono ?_; rintro e v ⟨rfl, ov, iv, gv⟩; have OV := Lib.hid ov; have IV := Lib.hid iv; have GW : But (fun k => k = Y ∨ k = B) wr v := (Kept.but (w := wr) (w' := _) (by repeat (first | (with_reducible exact Kept.refl _) | (with_reducible refine Kept.drew ?_) | (with_reducible refine Kept.drewN ?_ _))) _).trans gv (fun _ _ h => h); have xv := GW.some x0 (by rintro (e | e) <;> omega))
                      | (go_at_call 16; refine (now_s IV.out aw (by omega) (by omega) (by first | exact KB | exact KB.drew | exact KB.drewN _)).mono ?_; rintro e u8 ⟨rfl, k8⟩; have KC : Kept v u8 := KB.trans (Kept.trans (b := _) (by repeat (first | (with_reducible exact Kept.refl _) | (with_reducible refine Kept.drew ?_) | (with_reducible refine Kept.drewN ?_ _))) k8))
                      | (go_at_call 48; refine (boolean_true _).mono ?_; rintro e _ ⟨rfl, rfl⟩)
                      | (go_at_call 34; refine (TL.out _ (OV.out.kept (by repeat (first | (with_reducible exact Kept.refl _) | (with_reducible refine Kept.drew ?_) | (with_reducible refine Kept.drewN ?_ _))))).mono ?_; rintro e u6 ⟨rfl, k6⟩; have KA : Kept v u6 := Kept.trans (b := _) (by repeat (first | (with_reducible exact Kept.refl _) | (with_reducible refine Kept.drew ?_) | (with_reducible refine Kept.drewN ?_ _))) k6)
                      | (go_at_call 41; refine (three_any _).mono ?_; rintro e u7 ⟨rfl, k7⟩; have KB : Kept v u7 := KA.trans (Kept.trans (b := _) (by repeat (first | (with_reducible exact Kept.refl _) | (with_reducible refine Kept.drew ?_) | (with_reducible refine Kept.drewN ?_ _))) k7)))
                    all_goals
                      have KF := Lib.hid (K1.out.trans (IV.out.kept.trans KC))
                      clear KA KB KC k6 k7 k8 ov iv gv GW
                      rename_i hcells
                      clear hcells
                      go_wp2
                      go_ret
                      exact ⟨by first | rfl | simp, by first | exact KF.out | exact KF.out.drew | exact KF.out.drewN _⟩

set_option maxHeartbeats 1000000 in
theorem alone_big (a : Option Addr) (len cap : Nat) (who : Int) (w : World) (h : 200 < len) : Calls Try.prog 7 #[.slice a len cap, .int .i64 who] w fun e w' => e = .returned (.bool true) ∧ Kept w w' := by
  have h2 : (200 : Int) < len := by omega
  go_enter Try.func7, Try.ntmps7
  go_wp2_with fail
  refine (known_any _).mono ?_
  rintro e w1 ⟨rfl, k1⟩
  go_wp2
  go_ret
  exact ⟨rfl, k1⟩
theorem alone_law {a : Option Addr} {len cap : Nat} {f : Nat → Int} {w : World} (who : Int) (hr : Go.Proofs.Ytmfbjlaajcdbnaa.Row w a len cap f) : Calls Try.prog 7 #[.slice a len cap, .int .i64 who] w fun e w' => e = .returned (.bool true) ∧ Kept w w' := by
  by_cases h : len ≤ 200
  · exact alone_any who hr h
  · exact alone_big a len cap who w (by omega)
end Go.Proofs.Ytmfbjlaajcdbnaa.Ep
