/- plays: acts by numbers; EpochGuards. Written by gen12h.py. -/
import Derived.Test.YtmfbjlaajcdbnaaG28
import Derived.Test.YtmfbjlaajcdbnaaG29
import Derived.Test.YtmfbjlaajcdbnaaG15
import Derived.Test.YtmfbjlaajcdbnaaG27
set_option linter.unusedVariables false
set_option linter.unusedSimpArgs false

namespace Go.Proofs.Ytmfbjlaajcdbnaa.Ep
set_option maxRecDepth 20000
open Go.RowKit
open Wo (St acc wordAt PMem RefIs)
open Sk (Stk Wd pmem_kept pmem_lt pmem_frame)

theorem now_c {w0 w : World} {L0 L M B P U A T X : Nat} {m : Md} {bl : Nat → Nat} {t : Int} (h : CM w0 w L0 L M B P U A T X m bl) (hi : Inv m t) {W : World} (k : Kept w W) :
    Calls Try.prog 16 #[.agg #[.int .i64 S3.T, .int .i64 S3.K, .int .i64 S3.N], .pointer (some ⟨M, 0, none⟩)] W fun e w' => e = .returned (.int .i64 m.E) ∧ Kept W w' := by
  have q := now3 (h.mem.grow k)
  rw [hi.now] at q
  exact q
def PlRel (w0 : World) (L0 L M B P U A T X len : Nat) (i : Value) (wr : World) : Prop :=
  ∃ (k : Nat) (m : Md) (bl : Nat → Nat), k ≤ len ∧ i = .int .i64 k ∧ CM w0 wr L0 L M B P U A T X m bl ∧ Inv m k ∧ m.s.cnt ≤ 100 + k
def PlPost (w0 : World) (L0 L M B P U A T X len : Nat) (e : Ending) (w' : World) : Prop := e = .returned (.bool true) ∧ ∃ (m : Md) (bl : Nat → Nat), CM w0 w' L0 L M B P U A T X m bl ∧ Inv m len ∧ m.s.cnt ≤ 100 + len
theorem cnt_m0 : m0.s.cnt ≤ 100 := by decide +kernel
set_option maxHeartbeats 16000000 in
theorem plays_any {w0 w : World} {L0 L M B P U A T X : Nat} {bl : Nat → Nat} (h : CM w0 w L0 L M B P U A T X m0 bl) {a : Option Addr} {len cap : Nat} {f : Nat → Int} (hr : Go.Proofs.Ytmfbjlaajcdbnaa.Row w0 a len cap f) (hl : len ≤ 300) :
    Calls Try.prog 45 #[.pointer (some ⟨X, 0, none⟩), .slice a len cap] w (PlPost w0 L0 L M B P U A T X len) := by
  have h2 : (len : Int) ≤ 300 := by omega
  have HC := Lib.hid h
  have HR := Lib.hid hr
  clear h hr
  go_enter Try.func45, Try.ntmps45
  go_wp2_with fail
  go_loopw [5] (PlRel w0 L0 L M B P U A T X len) (fun i _ => len - (intOf i).toNat)
  case atStart => exact ⟨0, m0, bl, Nat.zero_le _, rfl, HC.out, inv_m0, by have := cnt_m0; omega⟩
  case round =>
    obtain ⟨k, m, bl, hk, rfl, hcm, hinv, hcnt⟩ := hrel
    have C1 := Lib.hid hcm
    have I1 := Lib.hid hinv
    by_cases hlt : k < len
    · obtain ⟨b, off, rfl, hcc⟩ : ∃ b off, a = some ⟨b, off, none⟩ ∧ ∀ i, i < len → w0.cell? ⟨b, off + i, none⟩ = some (.int .i64 (f i)) := by
        rcases HR.out.2.2.2 with ⟨_, h, _⟩ | ⟨_, _, h⟩ | ⟨b, off, h, _, hc⟩
        · omega
        · omega
        · exact ⟨b, off, h, hc⟩
      have cl := hcm.mem.kept.some (hcc k hlt)
      clear hcc hcm hinv
      go_wp2_with fail
      refine (Wo.pick_any (f k) 300 (by omega) (by omega) _).mono ?_
      rintro e _ ⟨rfl, rfl⟩
      obtain ⟨n, hn⟩ : ∃ n, n = f k % 300 := ⟨_, rfl⟩
      have hn0 : 0 ≤ n := by omega
      have hn1 : n < 300 := by omega
      rw [← hn]
      clear hn cl
      have tm3 : Int.tmod n 3 = n % 3 := Int.tmod_eq_emod_of_nonneg hn0
      have td3 : Int.tdiv n 3 = n / 3 := Int.tdiv_eq_ediv_of_nonneg hn0
      obtain ⟨c, hc⟩ : ∃ c : Nat, n % 3 = c := ⟨(n % 3).toNat, by omega⟩
      have hc3 : c < 3 := by omega
      have hci : (c : Int) < 3 := by omega
      have hc0 : (0 : Int) ≤ (c : Int) := by omega
      rw [hc] at tm3
      have hq0 : 0 ≤ n / 3 := by omega
      clear hc
      have hkt : ((k : Nat) : Int) + 1 ≤ 1000000 := by omega
      have BY := Lib.hid (busy_any C1.out hc3)
      by_cases hid : m.k c = .idle
      · have eb : (m.k c).busy = false := by rw [hid]; rfl
        rw [eb] at BY
        go_wp2_with fail
        refine BY.out.mono ?_
        rintro e _ ⟨rfl, rfl⟩
        go_wp2_with fail
        refine (begins_any C1.out hc3 hid (n / 3) hq0).mono ?_
        rintro e wb ⟨bl1, rfl, cb⟩
        have C2 := Lib.hid cb
        have BI := begin_inv I1.out hc3 hid (n / 3)
        have I2 := Lib.hid BI.1
        have hb2 := begin_busy m c (n / 3)
        have hs2 : (m.begin c (n / 3)).s.cnt ≤ 100 + k := by rw [BI.2]; exact hcnt
        clear cb BI
        obtain ⟨m1, hm1⟩ : ∃ m1, m1 = m.begin c (n / 3) := ⟨_, rfl⟩
        rw [← hm1] at C2 I2 hb2 hs2
        clear hm1
        have x0 := C2.out.x0
        have x4 := C2.out.x4
        have ct := C2.out.ct c hc3
        go_wp2_with fail
        go_region_held3 (fun w' => w'.cell? ⟨X, 0, none⟩ = some (.pointer (some ⟨M, 0, none⟩)) ∧ w'.cell? ⟨X, 4, none⟩ = some (.slice (some ⟨T, 0, none⟩) 3 3) ∧ w'.cell? ⟨T, c, none⟩ = some (.int .i64 (m1.at_ c))) (first | go_keep | (exact ⟨KB.some x0, KB.some x4, KB.some ct⟩) | (exact ⟨KA.some x0, KA.some x4, KA.some ct⟩)) (first
          | (go_at_call 16; refine (now_c C2.out I2.out (by first | exact KA | exact KA.drew | exact KA.drewN _)).mono ?_; rintro e u2 ⟨rfl, k2⟩; have KB : Kept wb u2 := KA.trans (Kept.trans (b := _) (by repeat (first | (with_reducible exact Kept.refl _) | (with_reducible refine Kept.drew ?_) | (with_reducible refine Kept.drewN ?_ _))) k2))
          | (go_at_call 41; refine (three_any _).mono ?_; rintro e u1 ⟨rfl, k1⟩; have KA : Kept wb u1 := Kept.trans (b := _) (by repeat (first | (with_reducible exact Kept.refl _) | (with_reducible refine Kept.drew ?_) | (with_reducible refine Kept.drewN ?_ _))) k1))
        all_goals
          have C3 := Lib.hid (C2.out.kept KB)
          clear KA KB k1 k2 x0 x4 ct
          rename_i hcells
          clear hcells
          have WN := step_went I2.out (by omega) hc3 hb2
          have C3S := Lib.hid (steps_go C3.out I2.out (by omega) hc3 hb2 (by omega))
          have I3 := Lib.hid WN.inv
          have hs3 : (m1.step c).s.cnt ≤ 100 + ((k + 1 : Nat) : Int) := by have := step_cnt m1 c; omega
          have hon := WN.on
          have hoff := WN.off
          clear WN
          obtain ⟨m2, hm2⟩ : ∃ m2, m2 = m1.step c := ⟨_, rfl⟩
          rw [← hm2] at C3S I3 hs3 hon hoff
          clear hm2
          have hwr : IntKind.i64.wrap (m1.E + 1) = m1.E + 1 := by
            have := I2.out.e0
            have := I2.out.e1
            rw [IntKind.wrap_i64]; omega
          cases hob : m1.on c with
          | true =>
            rw [hob] at C3S
            obtain ⟨hE1, hE2⟩ := hon hob
            have hn1 : (m2.E != m1.E + 1) = false := by simpa using hE1
            have hn2 : (m1.E != m1.at_ c) = false := by simpa using hE2
            clear hon hoff hob hE1 hE2
            go_wp2_with fail
            refine C3S.out.mono ?_
            rintro e v ⟨rfl, cv⟩
            have C4 := Lib.hid cv
            have x0 := cv.x0
            clear cv
            go_wp2_with fail
            go_region_held3 (fun w' => w'.cell? ⟨X, 0, none⟩ = some (.pointer (some ⟨M, 0, none⟩))) (first | go_keep | (exact KB.some x0) | (exact KA.some x0)) (first
              | (go_at_call 16; refine (now_c C4.out I3.out (by first | exact KA | exact KA.drew | exact KA.drewN _)).mono ?_; rintro e u2 ⟨rfl, k2⟩; have KB : Kept v u2 := KA.trans (Kept.trans (b := _) (by repeat (first | (with_reducible exact Kept.refl _) | (with_reducible refine Kept.drew ?_) | (with_reducible refine Kept.drewN ?_ _))) k2))
              | (go_at_call 41; refine (three_any _).mono ?_; rintro e u1 ⟨rfl, k1⟩; have KA : Kept v u1 := Kept.trans (b := _) (by repeat (first | (with_reducible exact Kept.refl _) | (with_reducible refine Kept.drew ?_) | (with_reducible refine Kept.drewN ?_ _))) k1))
            all_goals
              have C5 := Lib.hid (C4.out.kept KB)
              clear KA KB k1 k2 x0
              rename_i hcells
              clear hcells
              go_wp2_with fail
              refine (within_any C5.out I3.out).mono ?_
              rintro e v2 ⟨rfl, k2⟩
              have C6 := Lib.hid (C5.out.kept k2)
              clear k2
              go_wp2
              go_roundw
              case rel => exact ⟨k + 1, m2, bl1, by omega, by go_num, C6.out, by have := I3.out; exact this, hs3⟩
              case measure => simp [intOf]; omega
          | false =>
            rw [hob] at C3S
            have hE1 := hoff hob
            have hn3 : (m2.E != m1.E) = false := by simpa using hE1
            clear hon hoff hob hE1
            go_wp2_with fail
            refine C3S.out.mono ?_
            rintro e v ⟨rfl, cv⟩
            have C4 := Lib.hid cv
            have x0 := cv.x0
            clear cv
            go_wp2_with fail
            go_region_held3 (fun w' => w'.cell? ⟨X, 0, none⟩ = some (.pointer (some ⟨M, 0, none⟩))) (first | go_keep | (exact KB.some x0) | (exact KA.some x0)) (first
              | (go_at_call 16; refine (now_c C4.out I3.out (by first | exact KA | exact KA.drew | exact KA.drewN _)).mono ?_; rintro e u2 ⟨rfl, k2⟩; have KB : Kept v u2 := KA.trans (Kept.trans (b := _) (by repeat (first | (with_reducible exact Kept.refl _) | (with_reducible refine Kept.drew ?_) | (with_reducible refine Kept.drewN ?_ _))) k2))
              | (go_at_call 41; refine (three_any _).mono ?_; rintro e u1 ⟨rfl, k1⟩; have KA : Kept v u1 := Kept.trans (b := _) (by repeat (first | (with_reducible exact Kept.refl _) | (with_reducible refine Kept.drew ?_) | (with_reducible refine Kept.drewN ?_ _))) k1))
            all_goals
              have C5 := Lib.hid (C4.out.kept KB)
              clear KA KB k1 k2 x0
              rename_i hcells
              clear hcells
              go_wp2_with fail
              refine (within_any C5.out I3.out).mono ?_
              rintro e v2 ⟨rfl, k2⟩
              have C6 := Lib.hid (C5.out.kept k2)
              clear k2
              go_wp2
              go_roundw
              case rel => exact ⟨k + 1, m2, bl1, by omega, by go_num, C6.out, by have := I3.out; exact this, hs3⟩
              case measure => simp [intOf]; omega
      · have eb : (m.k c).busy = true := by
          cases hx : m.k c with
          | idle => exact absurd hx hid
          | pin x => rfl
          | unpin x => rfl
          | adv x => rfl
        rw [eb] at BY
        go_wp2_with fail
        refine BY.out.mono ?_
        rintro e _ ⟨rfl, rfl⟩
        obtain ⟨m1, hm1⟩ : ∃ m1, m1 = m := ⟨_, rfl⟩
        obtain ⟨wb, hwb⟩ : ∃ wb, wb = wr := ⟨_, rfl⟩
        obtain ⟨bl1, hbl⟩ : ∃ bl1, bl1 = bl := ⟨_, rfl⟩
        subst hm1 hwb hbl
        have C2 := C1
        have I2 := I1
        have hb2 := hid
        have hs2 := hcnt
        have x0 := C2.out.x0
        have x4 := C2.out.x4
        have ct := C2.out.ct c hc3
        go_wp2_with fail
        go_region_held3 (fun w' => w'.cell? ⟨X, 0, none⟩ = some (.pointer (some ⟨M, 0, none⟩)) ∧ w'.cell? ⟨X, 4, none⟩ = some (.slice (some ⟨T, 0, none⟩) 3 3) ∧ w'.cell? ⟨T, c, none⟩ = some (.int .i64 (m1.at_ c))) (first | go_keep | (exact ⟨KB.some x0, KB.some x4, KB.some ct⟩) | (exact ⟨KA.some x0, KA.some x4, KA.some ct⟩)) (first
          | (go_at_call 16; refine (now_c C2.out I2.out (by first | exact KA | exact KA.drew | exact KA.drewN _)).mono ?_; rintro e u2 ⟨rfl, k2⟩; have KB : Kept wb u2 := KA.trans (Kept.trans (b := _) (by repeat (first | (with_reducible exact Kept.refl _) | (with_reducible refine Kept.drew ?_) | (with_reducible refine Kept.drewN ?_ _))) k2))
          | (go_at_call 41; refine (three_any _).mono ?_; rintro e u1 ⟨rfl, k1⟩; have KA : Kept wb u1 := Kept.trans (b := _) (by repeat (first | (with_reducible exact Kept.refl _) | (with_reducible refine Kept.drew ?_) | (with_reducible refine Kept.drewN ?_ _))) k1))
        all_goals
          have C3 := Lib.hid (C2.out.kept KB)
          clear KA KB k1 k2 x0 x4 ct
          rename_i hcells
          clear hcells
          have WN := step_went I2.out (by omega) hc3 hb2
          have C3S := Lib.hid (steps_go C3.out I2.out (by omega) hc3 hb2 (by omega))
          have I3 := Lib.hid WN.inv
          have hs3 : (m1.step c).s.cnt ≤ 100 + ((k + 1 : Nat) : Int) := by have := step_cnt m1 c; omega
          have hon := WN.on
          have hoff := WN.off
          clear WN
          obtain ⟨m2, hm2⟩ : ∃ m2, m2 = m1.step c := ⟨_, rfl⟩
          rw [← hm2] at C3S I3 hs3 hon hoff
          clear hm2
          have hwr : IntKind.i64.wrap (m1.E + 1) = m1.E + 1 := by
            have := I2.out.e0
            have := I2.out.e1
            rw [IntKind.wrap_i64]; omega
          cases hob : m1.on c with
          | true =>
            rw [hob] at C3S
            obtain ⟨hE1, hE2⟩ := hon hob
            have hn1 : (m2.E != m1.E + 1) = false := by simpa using hE1
            have hn2 : (m1.E != m1.at_ c) = false := by simpa using hE2
            clear hon hoff hob hE1 hE2
            go_wp2_with fail
            refine C3S.out.mono ?_
            rintro e v ⟨rfl, cv⟩
            have C4 := Lib.hid cv
            have x0 := cv.x0
            clear cv
            go_wp2_with fail
            go_region_held3 (fun w' => w'.cell? ⟨X, 0, none⟩ = some (.pointer (some ⟨M, 0, none⟩))) (first | go_keep | (exact KB.some x0) | (exact KA.some x0)) (first
              | (go_at_call 16; refine (now_c C4.out I3.out (by first | exact KA | exact KA.drew | exact KA.drewN _)).mono ?_; rintro e u2 ⟨rfl, k2⟩; have KB : Kept v u2 := KA.trans (Kept.trans (b := _) (by repeat (first | (with_reducible exact Kept.refl _) | (with_reducible refine Kept.drew ?_) | (with_reducible refine Kept.drewN ?_ _))) k2))
              | (go_at_call 41; refine (three_any _).mono ?_; rintro e u1 ⟨rfl, k1⟩; have KA : Kept v u1 := Kept.trans (b := _) (by repeat (first | (with_reducible exact Kept.refl _) | (with_reducible refine Kept.drew ?_) | (with_reducible refine Kept.drewN ?_ _))) k1))
            all_goals
              have C5 := Lib.hid (C4.out.kept KB)
              clear KA KB k1 k2 x0
              rename_i hcells
              clear hcells
              go_wp2_with fail
              refine (within_any C5.out I3.out).mono ?_
              rintro e v2 ⟨rfl, k2⟩
              have C6 := Lib.hid (C5.out.kept k2)
              clear k2
              go_wp2
              go_roundw
              case rel => exact ⟨k + 1, m2, bl1, by omega, by go_num, C6.out, by have := I3.out; exact this, hs3⟩
              case measure => simp [intOf]; omega
          | false =>
            rw [hob] at C3S
            have hE1 := hoff hob
            have hn3 : (m2.E != m1.E) = false := by simpa using hE1
            clear hon hoff hob hE1
            go_wp2_with fail
            refine C3S.out.mono ?_
            rintro e v ⟨rfl, cv⟩
            have C4 := Lib.hid cv
            have x0 := cv.x0
            clear cv
            go_wp2_with fail
            go_region_held3 (fun w' => w'.cell? ⟨X, 0, none⟩ = some (.pointer (some ⟨M, 0, none⟩))) (first | go_keep | (exact KB.some x0) | (exact KA.some x0)) (first
              | (go_at_call 16; refine (now_c C4.out I3.out (by first | exact KA | exact KA.drew | exact KA.drewN _)).mono ?_; rintro e u2 ⟨rfl, k2⟩; have KB : Kept v u2 := KA.trans (Kept.trans (b := _) (by repeat (first | (with_reducible exact Kept.refl _) | (with_reducible refine Kept.drew ?_) | (with_reducible refine Kept.drewN ?_ _))) k2))
              | (go_at_call 41; refine (three_any _).mono ?_; rintro e u1 ⟨rfl, k1⟩; have KA : Kept v u1 := Kept.trans (b := _) (by repeat (first | (with_reducible exact Kept.refl _) | (with_reducible refine Kept.drew ?_) | (with_reducible refine Kept.drewN ?_ _))) k1))
            all_goals
              have C5 := Lib.hid (C4.out.kept KB)
              clear KA KB k1 k2 x0
              rename_i hcells
              clear hcells
              go_wp2_with fail
              refine (within_any C5.out I3.out).mono ?_
              rintro e v2 ⟨rfl, k2⟩
              have C6 := Lib.hid (C5.out.kept k2)
              clear k2
              go_wp2
              go_roundw
              case rel => exact ⟨k + 1, m2, bl1, by omega, by go_num, C6.out, by have := I3.out; exact this, hs3⟩
              case measure => simp [intOf]; omega
    · have hge : ¬ ((k : Int) < (len : Int)) := by omega
      have hkl : k = len := by omega
      clear hcm hinv
      go_wp2
      go_ret
      refine ⟨rfl, m, bl, C1.out, ?_, ?_⟩
      · rw [← hkl]; exact I1.out
      · rw [← hkl]; exact hcnt

set_option maxHeartbeats 1000000 in
theorem guards_big (a : Option Addr) (len cap : Nat) (w : World) (h : 300 < len) : Calls Try.prog 6 #[.slice a len cap] w fun e w' => e = .returned (.bool true) ∧ Kept w w' := by
  have h2 : (300 : Int) < len := by omega
  go_enter Try.func6, Try.ntmps6
  go_wp2_with fail
  refine (known_any _).mono ?_
  rintro e w1 ⟨rfl, k1⟩
  go_wp2
  go_ret
  exact ⟨rfl, k1⟩
set_option maxHeartbeats 1000000 in
theorem guards_any {a : Option Addr} {len cap : Nat} {f : Nat → Int} {w : World} (hr : Go.Proofs.Ytmfbjlaajcdbnaa.Row w a len cap f) (hl : len ≤ 300) : Calls Try.prog 6 #[.slice a len cap] w fun e w' => e = .returned (.bool true) ∧ Kept w w' := by
  have h2 : (len : Int) ≤ 300 := by omega
  have HR := Lib.hid hr
  clear hr
  go_enter Try.func6, Try.ntmps6
  go_wp2_with fail
  refine (known_any _).mono ?_
  rintro e w1 ⟨rfl, k1⟩
  have K1 := Lib.hid k1
  clear k1
  go_wp2_with fail
  refine (begun_any3 _).mono ?_
  rintro e w2 ⟨L0, L, M, B, P, U, A, T, X, bl, rfl, cm⟩
  have eqn : ∀ W, (binOp .neq 92 (.pointer (some ⟨X, 0, none⟩)) (.pointer none)).run Try.prog W = .ok (.bool true) W := fun W => by kernel_rfl
  have PL := Lib.hid (plays_any cm (HR.out.kept K1.out) hl)
  clear cm
  go_wp2_with fail
  refine PL.out.mono ?_
  rintro e w3 ⟨rfl, m, bl', c3, _, _⟩
  have K3 := Lib.hid (K1.out.trans c3.mem.kept)
  clear c3
  go_wp2
  go_ret
  exact ⟨rfl, K3.out⟩
theorem guards_law {a : Option Addr} {len cap : Nat} {f : Nat → Int} {w : World} (hr : Go.Proofs.Ytmfbjlaajcdbnaa.Row w a len cap f) : Calls Try.prog 6 #[.slice a len cap] w fun e w' => e = .returned (.bool true) ∧ Kept w w' := by
  by_cases h : len ≤ 300
  · exact guards_any hr h
  · exact guards_big a len cap w (by omega)
end Go.Proofs.Ytmfbjlaajcdbnaa.Ep

namespace Go.Proofs.Ytmfbjlaajcdbnaa.Ep
open Wo (St acc wordAt)
open Sk (Stk Wd)

def lf (c : Nat) (L : Int) : Nat := (if L ≤ 0 ∧ (c ≠ 0 ∨ L = 0) then 1 else 0) + (if L ≤ 1 ∧ (c ≠ 1 ∨ L = 1) then 1 else 0) + (if L ≤ 2 ∧ (c ≠ 2 ∨ L = 2) then 1 else 0)
def rk (m : Md) (c : Nat) : Nat := match m.k c with
  | .idle => 0
  | .pin x => if x.line = 1 then 3 else if x.line = 2 then (if x.W = m.E then 2 else 4) else (if x.W = m.E then 1 else 3)
  | .unpin _ => 1
  | .adv x => if x.line = 1 then 4 else if x.line = 2 then lf c x.L + 1 else 1
def Kd.isU : Kd → Bool
  | .unpin _ => true
  | _ => false
theorem step_other (m : Md) {c d : Nat} (h : d ≠ c) : (m.step c).k d = m.k d := by
  unfold Md.step
  cases m.k c with
  | idle => rfl
  | pin x => dsimp only; split <;> exact put_ne _ _ h
  | unpin x => dsimp only; split <;> exact put_ne _ _ h
  | adv x => dsimp only; split <;> exact put_ne _ _ h
theorem rk_pos {m : Md} {c : Nat} (h : rk m c = 0) : m.k c = .idle := by
  unfold rk at h
  cases hk : m.k c with
  | idle => rfl
  | pin x => rw [hk] at h; dsimp only at h; split at h; omega; split at h <;> split at h <;> omega
  | unpin x => rw [hk] at h; dsimp only at h; omega
  | adv x => rw [hk] at h; dsimp only at h; split at h; omega; split at h <;> omega
theorem rk_le (m : Md) (c : Nat) : rk m c ≤ 4 := by
  unfold rk
  cases m.k c with
  | idle => dsimp only; omega
  | pin x => dsimp only; split; omega; split <;> split <;> omega
  | unpin x => dsimp only; omega
  | adv x => dsimp only; split; omega; split; (have : lf c x.L ≤ 3 := by unfold lf; split <;> split <;> split <;> omega); omega; omega
theorem rk_step {m : Md} {t : Int} (h : Inv m t) {c : Nat} (hc : c < 3) (hb : m.k c ≠ .idle) : rk (m.step c) c + 1 ≤ rk m c ∧ ((m.step c).k c).isU = false := by
  have e0 := h.e0
  have e1 := h.e1
  have t1 := h.t1
  have hE : ep m.E = m.E := ep_small e0 (by omega)
  cases hk : m.k c with
  | idle => exact absurd hk hb
  | unpin x =>
    obtain ⟨_, rfl⟩ := (h.core c hc).unpin hk
    have es : m.step c = ⟨unSt 4 S3 c m.s EOp.new, putf m.k c .idle, m.at_⟩ := by unfold Md.step; rw [hk]; dsimp only; rw [if_pos (by decide)]
    have ek : (m.step c).k c = .idle := by rw [es]; exact put_self _ _ _
    refine ⟨?_, by rw [ek]; rfl⟩
    unfold rk
    rw [ek, hk]
    dsimp only
    omega
  | pin x =>
    obtain ⟨a0, ok, l9, hw, _⟩ := (h.core c hc).pin hk
    by_cases h9 : (pinOp 4 S3 m.s x).line = 9
    · have es : m.step c = ⟨pinSt 4 S3 c m.s x, putf m.k c .idle, putf m.at_ c (toldAt (pinOp 4 S3 m.s x))⟩ := by unfold Md.step; rw [hk]; dsimp only; rw [if_pos h9]
      have ek : (m.step c).k c = .idle := by rw [es]; exact put_self _ _ _
      refine ⟨?_, by rw [ek]; rfl⟩
      have : rk m c ≠ 0 := fun h0 => hb (rk_pos h0)
      have e : rk (m.step c) c = 0 := by unfold rk; rw [ek]
      omega
    · have es : m.step c = ⟨pinSt 4 S3 c m.s x, putf m.k c (.pin (pinOp 4 S3 m.s x)), m.at_⟩ := by unfold Md.step; rw [hk]; dsimp only; rw [if_neg h9]
      have ek : (m.step c).k c = .pin (pinOp 4 S3 m.s x) := by rw [es]; exact put_self _ _ _
      refine ⟨?_, by rw [ek]; rfl⟩
      unfold rk
      rw [ek, hk]
      dsimp only
      rcases ok.ln with l | l | l | l
      · have eo : pinOp 4 S3 m.s x = ⟨2, m.E, x.L, x.er⟩ := by unfold pinOp; rw [if_pos l]; rfl
        have eE : (m.step c).E = m.E := by rw [es]; show (pinSt 4 S3 c m.s x).ws 0 = m.s.ws 0; unfold pinSt; rw [if_pos l]; exact congrFun (E_load m.s S3.T) 0
        rw [eo, eE]
        simp [l]
      · have hwx := hw (by omega)
        have eo : pinOp 4 S3 m.s x = ⟨3, x.W, x.L, x.er⟩ := by unfold pinOp; rw [if_neg (by omega), if_pos l]
        have eE : (m.step c).E = m.E := by rw [es]; show (pinSt 4 S3 c m.s x).ws 0 = m.s.ws 0; unfold pinSt; rw [if_neg (by omega), if_pos l]; exact store_0 m.s c _ hc
        rw [eo, eE]
        simp [l]
        split <;> omega
      · have hwx := hw (by omega)
        have hep : ep x.W = x.W := ep_small hwx.1 (by omega)
        have eE : (m.step c).E = m.E := by rw [es]; show (pinSt 4 S3 c m.s x).ws 0 = m.s.ws 0; unfold pinSt; rw [if_neg (by omega), if_neg (by omega), if_pos l]; exact congrFun (E_load m.s S3.T) 0
        by_cases he : m.E = x.W
        · exfalso
          apply h9
          unfold pinOp
          rw [if_neg (by omega), if_neg (by omega), if_pos l, if_pos (by show ep m.E = ep x.W; rw [he])]
        · have eo : pinOp 4 S3 m.s x = ⟨2, m.E, x.L, x.er⟩ := by
            unfold pinOp
            rw [if_neg (by omega), if_neg (by omega), if_pos l, if_neg (by show ¬ ep m.E = ep x.W; rw [hE, hep]; exact he)]
            rfl
          rw [eo, eE]
          have hne : ¬ x.W = m.E := fun e => he e.symm
          simp [l, hne]
      · exact absurd l l9
  | adv x =>
    obtain ⟨a0, ok, an, l9, hh⟩ := (h.core c hc).adv hk
    by_cases h9 : (advOp 4 S3 c (m.at_ c) m.s x).line = 9
    · have es : m.step c = ⟨advSt 4 S3 m.s x, putf m.k c .idle, m.at_⟩ := by unfold Md.step; rw [hk]; dsimp only; rw [if_pos h9]
      have ek : (m.step c).k c = .idle := by rw [es]; exact put_self _ _ _
      refine ⟨?_, by rw [ek]; rfl⟩
      have : rk m c ≠ 0 := fun h0 => hb (rk_pos h0)
      have e : rk (m.step c) c = 0 := by unfold rk; rw [ek]
      omega
    · have es : m.step c = ⟨advSt 4 S3 m.s x, putf m.k c (.adv (advOp 4 S3 c (m.at_ c) m.s x)), m.at_⟩ := by unfold Md.step; rw [hk]; dsimp only; rw [if_neg h9]
      have ek : (m.step c).k c = .adv (advOp 4 S3 c (m.at_ c) m.s x) := by rw [es]; exact put_self _ _ _
      refine ⟨?_, by rw [ek]; rfl⟩
      have hN : S3.N = 3 := rfl
      have SEEK : ∀ (W i : Int), advOp 4 S3 c (m.at_ c) m.s x = seekOp S3 c W x.er i → (i = 0 ∧ x.line = 1) ∨ (x.line = 2 ∧ i = x.L + 1) → rk (m.step c) c + 1 ≤ rk m c := by
        intro W i eo hi
        unfold rk
        rw [ek, hk, eo]
        dsimp only
        by_cases hs : skip (c : Int) i < S3.N
        · have e2 : seekOp S3 c W x.er i = ⟨2, W, skip (c : Int) i, x.er⟩ := by unfold seekOp; rw [if_pos hs]
          rw [e2]
          dsimp only
          rw [if_neg (by decide), if_pos rfl]
          have hcc : c = 0 ∨ c = 1 ∨ c = 2 := by omega
          rcases hi with ⟨rfl, l1⟩ | ⟨l2, rfl⟩
          · rw [if_pos l1]
            rcases hcc with rfl | rfl | rfl <;> decide
          · have L2 := an.l2 l2
            rw [if_neg (by omega), if_pos l2]
            have hL : x.L = 0 ∨ x.L = 1 ∨ x.L = 2 := by omega
            rcases hL with hL | hL | hL <;> rw [hL] at hs ⊢ <;> rcases hcc with rfl | rfl | rfl <;> first | decide | exact absurd hs (by decide)
        · have e2 : (seekOp S3 c W x.er i).line = 3 := seek_three hs
          rw [if_neg (by omega), if_neg (by omega)]
          rcases hi with ⟨rfl, l1⟩ | ⟨l2, rfl⟩
          · rw [if_pos l1]; omega
          · have L2 := an.l2 l2
            rw [if_neg (by omega), if_pos l2]
            have hL : x.L = 0 ∨ x.L = 1 ∨ x.L = 2 := by omega
            have h1 : 1 ≤ lf c x.L := by
              rcases hL with hL | hL | hL <;> rw [hL] <;> unfold lf <;> simp <;> omega
            omega
      rcases ok.ln with l | l | l | l
      · by_cases hp : m.E = m.at_ c
        · exact SEEK m.E 0 (by unfold advOp; rw [if_pos l, if_pos (by show ep m.E = m.at_ c; rw [hE, hp]), an.l1 l]; rfl) (.inl ⟨rfl, l⟩)
        · exact absurd (by unfold advOp; rw [if_pos l, if_neg (by show ¬ ep m.E = m.at_ c; rw [hE]; exact hp)]) h9
      · by_cases hb2 : wordAt 4 m.s (S3.K + x.L) ≠ 0 ∧ wordAt 4 m.s (S3.K + x.L) ≠ ep x.W + 1
        · exact absurd (by unfold advOp; rw [if_neg (by omega), if_pos l, if_pos hb2]) h9
        · exact SEEK x.W (x.L + 1) (by unfold advOp; rw [if_neg (by omega), if_pos l, if_neg hb2]) (.inr ⟨l, rfl⟩)
      · exact absurd (by unfold advOp; rw [if_neg (by omega), if_neg (by omega), if_pos l]) h9
      · exact absurd l l9
end Go.Proofs.Ytmfbjlaajcdbnaa.Ep

namespace Go.Proofs.Ytmfbjlaajcdbnaa.Ep
open Wo (St acc wordAt)
open Sk (Stk Wd)

def May (m : Md) (c : Nat) : Prop := m.at_ c = m.E ∧ ∀ d, d < 3 → m.at_ d < 0 ∨ m.at_ d = m.E
structure Al (m : Md) (c : Nat) (s : St) (x : EOp) (j : Nat) : Prop where
  ws : s.ws = m.s.ws
  ok : x.Ok
  an : AOkN S3 x
  wd : Wd 4 s
  l9 : x.line ≠ 9
  one : j = 0 → x = EOp.new
  W : x.line ≠ 1 → x.W = m.E ∧ m.at_ c = m.E
  two : x.line = 2 → (c : Int) ≠ x.L ∧ ∀ d, d < 3 → d ≠ c → (d : Int) < x.L → m.at_ d < 0 ∨ m.at_ d = m.E
  rk1 : x.line = 2 → j + lf c x.L ≤ 3
  rk2 : x.line = 3 → ∀ d, d < 3 → d ≠ c → m.at_ d < 0 ∨ m.at_ d = m.E
  lo : x.line = 1 → j = 0
  mid : x.line = 2 → 1 ≤ j ∧ j + lf c x.L = 3
  hi : x.line = 3 → j = 3
theorem al_new {m : Md} {t : Int} (h : Inv m t) {c : Nat} : Al m c m.s EOp.new 0 :=
  ⟨rfl, ok_new, at_new S3, h.wd, by decide, fun _ => rfl, fun h => absurd rfl h, fun h => absurd h (by decide), fun h => absurd h (by decide), fun h => absurd h (by decide), fun _ => rfl, fun h => absurd h (by decide), fun h => absurd h (by decide)⟩
theorem al_step {m : Md} {t : Int} (h : Inv m t) (hid : ∀ d, d < 3 → m.k d = .idle) {c : Nat} (hc : c < 3) {s : St} {x : EOp} {j : Nat} (a : Al m c s x j) :
    ((advOp 4 S3 c (m.at_ c) s x).line = 9 ∧ (advOp 4 S3 c (m.at_ c) s x).er = 14 ∧ ¬ May m c ∧ j < 3 ∧ (advSt 4 S3 s x).ws = m.s.ws) ∨
    ((advOp 4 S3 c (m.at_ c) s x).line ≠ 9 ∧ j < 3 ∧ Al m c (advSt 4 S3 s x) (advOp 4 S3 c (m.at_ c) s x) (j + 1)) ∨
    ((advOp 4 S3 c (m.at_ c) s x).line = 9 ∧ (advOp 4 S3 c (m.at_ c) s x).er = 0 ∧ May m c ∧ j = 3 ∧ (advSt 4 S3 s x).ws 0 = m.E + 1 ∧ Wd 4 (advSt 4 S3 s x)) := by
  have e0 := h.e0
  have e1 := h.e1
  have t1 := h.t1
  have hE : ep m.E = m.E := ep_small e0 (by omega)
  have sE : s.ws 0 = m.E := congrFun a.ws 0
  have hN : S3.N = 3 := rfl
  have okp := adv_ok (S := S3) (c := (c : Int)) (p := m.at_ c) a.ok a.wd
  have anp := adv_at (n := 4) (s := s) (c := (c : Int)) (p := m.at_ c) a.an
  have wdp : Wd 4 (advSt 4 S3 s x) := adv_wd a.wd
  have hcc : c = 0 ∨ c = 1 ∨ c = 2 := by omega
  -- it goes on: a seek from i on
  have GOES : ∀ i : Int, 0 ≤ i → i ≤ 3 → advOp 4 S3 c (m.at_ c) s x = seekOp S3 c m.E x.er i → (advSt 4 S3 s x).ws = m.s.ws → m.at_ c = m.E → (∀ d, d < 3 → d ≠ c → (d : Int) < i → m.at_ d < 0 ∨ m.at_ d = m.E) → j < 3 →
      (skip c i < 3 → j + 1 + lf c (skip c i) = 3) → (¬ skip c i < 3 → j + 1 = 3) →
      ((advOp 4 S3 c (m.at_ c) s x).line ≠ 9 ∧ j < 3 ∧ Al m c (advSt 4 S3 s x) (advOp 4 S3 c (m.at_ c) s x) (j + 1)) := by
    intro i i0 i3 eo hws hat hask hj hm hh
    rw [eo] at okp anp ⊢
    refine ⟨seek_no9, hj, hws, okp, anp, wdp, seek_no9, fun h => absurd h (by omega), fun _ => ⟨rfl, hat⟩, fun h2 => ?_, fun h2 => ?_, fun h3 => ?_, fun h1 => ?_, fun h2 => ?_, fun h3 => ?_⟩
    · by_cases hs : skip (c : Int) i < S3.N
      · refine ⟨?_, fun d hd hdc hl => ?_⟩
        · show (c : Int) ≠ skip (c : Int) i
          unfold skip
          split <;> omega
        · exact hask d hd hdc (seek_asked (W := m.E) (er := x.er) hd hdc (.inr hl))
      · rw [seek_three hs] at h2; omega
    · by_cases hs : skip (c : Int) i < S3.N
      · have := hm hs
        show j + 1 + lf c (skip c i) ≤ 3
        omega
      · rw [seek_three hs] at h2; omega
    · by_cases hs : skip (c : Int) i < S3.N
      · rw [seek_two hs] at h3; omega
      · intro d hd hdc
        exact hask d hd hdc (seek_asked (W := m.E) (er := x.er) hd hdc (.inl (seek_three hs)))
    · by_cases hs : skip (c : Int) i < S3.N
      · rw [seek_two hs] at h1; omega
      · rw [seek_three hs] at h1; omega
    · by_cases hs : skip (c : Int) i < S3.N
      · exact ⟨by omega, hm hs⟩
      · rw [seek_three hs] at h2; omega
    · by_cases hs : skip (c : Int) i < S3.N
      · rw [seek_two hs] at h3; omega
      · exact hh hs
  rcases a.ok.ln with l | l | l | l
  · have j0 := a.lo l
    subst j0
    have hx := a.one rfl
    have es : advSt 4 S3 s x = acc 4 s 1 S3.T false 0 := by unfold advSt; rw [if_pos l]
    have hws : (advSt 4 S3 s x).ws = m.s.ws := by rw [es, E_load]; exact a.ws
    have hw : wordAt 4 s S3.T = m.E := sE
    by_cases hp : m.E = m.at_ c
    · right; left
      refine GOES 0 (by decide) (by decide) ?_ hws hp.symm (fun d _ _ h => absurd h (by omega)) (by decide) ?_ ?_
      · unfold advOp
        rw [if_pos l, hw, if_pos (by rw [hE]; exact hp), a.an.l1 l]
      · intro _
        rcases hcc with rfl | rfl | rfl <;> decide
      · rcases hcc with rfl | rfl | rfl <;> decide
    · left
      have eo : advOp 4 S3 c (m.at_ c) s x = ⟨9, m.E, x.L, 14⟩ := by
        unfold advOp
        rw [if_pos l, hw, if_neg (by rw [hE]; exact hp)]
      rw [eo]
      exact ⟨rfl, rfl, fun hm => hp hm.1.symm, by decide, hws⟩
  · obtain ⟨hW, hat⟩ := a.W (by omega)
    obtain ⟨hLc, hask⟩ := a.two l
    obtain ⟨j1, jr⟩ := a.mid l
    obtain ⟨L0, L1⟩ := a.an.l2 l
    obtain ⟨q, hq⟩ : ∃ q : Nat, x.L = q := ⟨x.L.toNat, by omega⟩
    have hq3 : q < 3 := by omega
    have hqc : q ≠ c := by omega
    have es : advSt 4 S3 s x = acc 4 s 1 (S3.K + x.L) false 0 := by unfold advSt; rw [if_neg (by omega), if_pos l]
    have hws : (advSt 4 S3 s x).ws = m.s.ws := by rw [es, E_load]; exact a.ws
    have hwd : wordAt 4 s (S3.K + x.L) = m.pw q := by
      rw [hq]
      rw [wordc s q hq3]
      exact congrFun a.ws (q + 1)
    have hepW : ep x.W = m.E := by rw [hW]; exact hE
    have hj3 : j < 3 := by
      have h1 : 1 ≤ lf c x.L := by
        have hL : x.L = 0 ∨ x.L = 1 ∨ x.L = 2 := by omega
        rcases hL with hL | hL | hL <;> rw [hL] <;> unfold lf <;> simp <;> omega
      omega
    have hidle := (h.core q hq3).idle (hid q hq3)
    by_cases hb : m.pw q ≠ 0 ∧ m.pw q ≠ m.E + 1
    · left
      have eo : advOp 4 S3 c (m.at_ c) s x = ⟨9, x.W, x.L, 14⟩ := by
        unfold advOp
        rw [if_neg (by omega), if_pos l, if_pos (by rw [hwd, hepW]; exact hb)]
      rw [eo]
      refine ⟨rfl, rfl, fun hm => ?_, hj3, hws⟩
      rcases hm.2 q hq3 with g | g
      · exact hb.1 (hidle g)
      · have := (h.pins q hq3 (by omega)).1
        omega
    · right; left
      refine GOES (x.L + 1) (by omega) (by omega) ?_ hws hat (fun d hd hdc hl => ?_) hj3 ?_ ?_
      · unfold advOp
        rw [if_neg (by omega), if_pos l, if_neg (by rw [hwd, hepW]; exact hb), hW]
      · by_cases hdl : (d : Int) < x.L
        · exact hask d hd hdc hdl
        · obtain rfl : d = q := by omega
          by_cases g : m.at_ d < 0
          · exact .inl g
          · have := (h.pins d hd (by omega)).1
            by_cases hz : m.pw d = 0
            · omega
            · by_cases hy : m.pw d = m.E + 1
              · right; omega
              · exact absurd ⟨hz, hy⟩ hb
      · intro hs
        rw [hq] at hs jr ⊢
        have hqq : q = 0 ∨ q = 1 ∨ q = 2 := by omega
        have key : lf c ((q : Nat) : Int) = 1 + lf c (skip c ((q : Int) + 1)) := by
          rcases hcc with rfl | rfl | rfl <;> rcases hqq with rfl | rfl | rfl <;> first | decide | exact absurd rfl hqc | exact absurd hs (by decide)
        omega
      · intro hs
        rw [hq] at hs jr
        have hqq : q = 0 ∨ q = 1 ∨ q = 2 := by omega
        have key : lf c ((q : Nat) : Int) = 1 := by
          rcases hcc with rfl | rfl | rfl <;> rcases hqq with rfl | rfl | rfl <;> first | decide | exact absurd rfl hqc | exact absurd (by decide) hs
        omega
  · obtain ⟨hW, hat⟩ := a.W (by omega)
    have hask := a.rk2 l
    have j3 := a.hi l
    have hepW : ep x.W = m.E := by rw [hW]; exact hE
    have hqe : wordAt 4 s S3.T = x.W := by rw [hW]; exact sE
    have es : advSt 4 S3 s x = acc 4 s 3 S3.T true (m.E + 1) := by
      unfold advSt
      rw [if_neg (by omega), if_neg (by omega), if_pos l, hepW, beq_iff_eq.2 hqe]
    right; right
    have eo : advOp 4 S3 c (m.at_ c) s x = ⟨9, x.W, x.L, 0⟩ := by
      unfold advOp
      rw [if_neg (by omega), if_neg (by omega), if_pos l, if_pos hqe]
    rw [eo]
    refine ⟨rfl, rfl, ⟨hat, fun d hd => ?_⟩, j3, ?_, wdp⟩
    · by_cases hdc : d = c
      · subst hdc; exact .inr hat
      · exact hask d hd hdc
    · rw [es, cas_0, if_pos ⟨rfl, rfl⟩]
  · exact absurd l a.l9
end Go.Proofs.Ytmfbjlaajcdbnaa.Ep
