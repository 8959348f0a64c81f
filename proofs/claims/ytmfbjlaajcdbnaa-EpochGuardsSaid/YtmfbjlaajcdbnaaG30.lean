/- plays: acts by numbers; EpochGuards. Written by gen12h.py. -/
import Derived.Test.YtmfbjlaajcdbnaaG28
import Derived.Test.YtmfbjlaajcdbnaaG29
import Derived.Test.YtmfbjlaajcdbnaaG15
set_option linter.unusedVariables false
set_option linter.unusedSimpArgs false

namespace Go.Proofs.Ytmfbjlaajcdbnaa.Ep
set_option maxRecDepth 20000
open Go.RowKit
open Wo (St acc wordAt PMem RefIs)
open Sk (Stk Wd pmem_kept pmem_lt pmem_frame)

theorem now_c {w0 w : World} {L0 L M B P U A T X : Nat} {m : Md} {bl : Nat → Nat} {t : Int} (h : CM w0 w L0 L M B P U A T X m bl) (hi : Inv m t) {W : World} (k : Kept w W) :
    Calls Try.prog 16 #[.agg #[.int .i64 S3.T, .int .i64 S3.K, .int .i64 S3.N], .pointer (some ⟨M, 0, none⟩)] W fun e w' => e = .returned (.int .i64 m.E) ∧ Kept W w' := by
  have q := now3 (h.mem.grow k)
  rw [hi.now] at q
  exact q
def PlRel (w0 : World) (L0 L M B P U A T X len : Nat) (i : Value) (wr : World) : Prop :=
  ∃ (k : Nat) (m : Md) (bl : Nat → Nat), k ≤ len ∧ i = .int .i64 k ∧ CM w0 wr L0 L M B P U A T X m bl ∧ Inv m k ∧ m.s.cnt ≤ 100 + k
def PlPost (w0 : World) (L0 L M B P U A T X len : Nat) (e : Ending) (w' : World) : Prop := e = .returned (.bool true) ∧ ∃ (m : Md) (bl : Nat → Nat), CM w0 w' L0 L M B P U A T X m bl ∧ Inv m len ∧ m.s.cnt ≤ 100 + len
theorem cnt_m0 : m0.s.cnt ≤ 100 := by decide +kernel
set_option maxHeartbeats 16000000 in
theorem plays_any {w0 w : World} {L0 L M B P U A T X : Nat} {bl : Nat → Nat} (h : CM w0 w L0 L M B P U A T X m0 bl) {a : Option Addr} {len cap : Nat} {f : Nat → Int} (hr : Go.Proofs.Ytmfbjlaajcdbnaa.Row w0 a len cap f) (hl : len ≤ 300) :
    Calls Try.prog 45 #[.pointer (some ⟨X, 0, none⟩), .slice a len cap] w (PlPost w0 L0 L M B P U A T X len) := by
  have h2 : (len : Int) ≤ 300 := by omega
  have HC := Lib.hid h
  have HR := Lib.hid hr
  clear h hr
  go_enter Try.func45, Try.ntmps45
  go_wp2_with fail
  go_loopw [5] (PlRel w0 L0 L M B P U A T X len) (fun i _ => len - (intOf i).toNat)
  case atStart => exact ⟨0, m0, bl, Nat.zero_le _, rfl, HC.out, inv_m0, by have := cnt_m0; omega⟩
  case round =>
    obtain ⟨k, m, bl, hk, rfl, hcm, hinv, hcnt⟩ := hrel
    have C1 := Lib.hid hcm
    have I1 := Lib.hid hinv
    by_cases hlt : k < len
    · obtain ⟨b, off, rfl, hcc⟩ : ∃ b off, a = some ⟨b, off, none⟩ ∧ ∀ i, i < len → w0.cell? ⟨b, off + i, none⟩ = some (.int .i64 (f i)) := by
        rcases HR.out.2.2.2 with ⟨_, h, _⟩ | ⟨_, _, h⟩ | ⟨b, off, h, _, hc⟩
        · omega
        · omega
        · exact ⟨b, off, h, hc⟩
      have cl := hcm.mem.kept.some (hcc k hlt)
      clear hcc hcm hinv
      go_wp2_with fail
      refine (Wo.pick_any (f k) 300 (by omega) (by omega) _).mono ?_
      rintro e _ ⟨rfl, rfl⟩
      obtain ⟨n, hn⟩ : ∃ n, n = f k % 300 := ⟨_, rfl⟩
      have hn0 : 0 ≤ n := by omega
      have hn1 : n < 300 := by omega
      rw [← hn]
      clear hn cl
      have tm3 : Int.tmod n 3 = n % 3 := Int.tmod_eq_emod_of_nonneg hn0
      have td3 : Int.tdiv n 3 = n / 3 := Int.tdiv_eq_ediv_of_nonneg hn0
      obtain ⟨c, hc⟩ : ∃ c : Nat, n % 3 = c := ⟨(n % 3).toNat, by omega⟩
      have hc3 : c < 3 := by omega
      have hci : (c : Int) < 3 := by omega
      have hc0 : (0 : Int) ≤ (c : Int) := by omega
      rw [hc] at tm3
      have hq0 : 0 ≤ n / 3 := by omega
      clear hc
      have hkt : ((k : Nat) : Int) + 1 ≤ 1000000 := by omega
      have BY := Lib.hid (busy_any C1.out hc3)
      by_cases hid : m.k c = .idle
      · have eb : (m.k c).busy = false := by rw [hid]; rfl
        rw [eb] at BY
        go_wp2_with fail
        refine BY.out.mono ?_
        rintro e _ ⟨rfl, rfl⟩
        go_wp2_with fail
        refine (begins_any C1.out hc3 hid (n / 3) hq0).mono ?_
        rintro e wb ⟨bl1, rfl, cb⟩
        have C2 := Lib.hid cb
        have BI := begin_inv I1.out hc3 hid (n / 3)
        have I2 := Lib.hid BI.1
        have hb2 := begin_busy m c (n / 3)
        have hs2 : (m.begin c (n / 3)).s.cnt ≤ 100 + k := by rw [BI.2]; exact hcnt
        clear cb BI
        obtain ⟨m1, hm1⟩ : ∃ m1, m1 = m.begin c (n / 3) := ⟨_, rfl⟩
        rw [← hm1] at C2 I2 hb2 hs2
        clear hm1
        have x0 := C2.out.x0
        have x4 := C2.out.x4
        have ct := C2.out.ct c hc3
        go_wp2_with fail
        go_region_held3 (fun w' => w'.cell? ⟨X, 0, none⟩ = some (.pointer (some ⟨M, 0, none⟩)) ∧ w'.cell? ⟨X, 4, none⟩ = some (.slice (some ⟨T, 0, none⟩) 3 3) ∧ w'.cell? ⟨T, c, none⟩ = some (.int .i64 (m1.at_ c))) (first | go_keep | (exact ⟨KB.some x0, KB.some x4, KB.some ct⟩) | (exact ⟨KA.some x0, KA.some x4, KA.some ct⟩)) (first
          | (go_at_call 16; refine (now_c C2.out I2.out (by first | exact KA | exact KA.drew | exact KA.drewN _)).mono ?_; rintro e u2 ⟨rfl, k2⟩; have KB : Kept wb u2 := KA.trans (Kept.trans (b := _) (by repeat (first | (with_reducible exact Kept.refl _) | (with_reducible refine Kept.drew ?_) | (with_reducible refine Kept.drewN ?_ _))) k2))
          | (go_at_call 41; refine (three_any _).mono ?_; rintro e u1 ⟨rfl, k1⟩; have KA : Kept wb u1 := Kept.trans (b := _) (by repeat (first | (with_reducible exact Kept.refl _) | (with_reducible refine Kept.drew ?_) | (with_reducible refine Kept.drewN ?_ _))) k1))
        all_goals
          have C3 := Lib.hid (C2.out.kept KB)
          clear KA KB k1 k2 x0 x4 ct
          rename_i hcells
          clear hcells
          have WN := step_went I2.out (by omega) hc3 hb2
          have C3S := Lib.hid (steps_go C3.out I2.out (by omega) hc3 hb2 (by omega))
          have I3 := Lib.hid WN.inv
          have hs3 : (m1.step c).s.cnt ≤ 100 + ((k + 1 : Nat) : Int) := by have := step_cnt m1 c; omega
          have hon := WN.on
          have hoff := WN.off
          clear WN
          obtain ⟨m2, hm2⟩ : ∃ m2, m2 = m1.step c := ⟨_, rfl⟩
          rw [← hm2] at C3S I3 hs3 hon hoff
          clear hm2
          have hwr : IntKind.i64.wrap (m1.E + 1) = m1.E + 1 := by
            have := I2.out.e0
            have := I2.out.e1
            rw [IntKind.wrap_i64]; omega
          cases hob : m1.on c with
          | true =>
            rw [hob] at C3S
            obtain ⟨hE1, hE2⟩ := hon hob
            have hn1 : (m2.E != m1.E + 1) = false := by simpa using hE1
            have hn2 : (m1.E != m1.at_ c) = false := by simpa using hE2
            clear hon hoff hob hE1 hE2
            go_wp2_with fail
            refine C3S.out.mono ?_
            rintro e v ⟨rfl, cv⟩
            have C4 := Lib.hid cv
            have x0 := cv.x0
            clear cv
            go_wp2_with fail
            go_region_held3 (fun w' => w'.cell? ⟨X, 0, none⟩ = some (.pointer (some ⟨M, 0, none⟩))) (first | go_keep | (exact KB.some x0) | (exact KA.some x0)) (first
              | (go_at_call 16; refine (now_c C4.out I3.out (by first | exact KA | exact KA.drew | exact KA.drewN _)).mono ?_; rintro e u2 ⟨rfl, k2⟩; have KB : Kept v u2 := KA.trans (Kept.trans (b := _) (by repeat (first | (with_reducible exact Kept.refl _) | (with_reducible refine Kept.drew ?_) | (with_reducible refine Kept.drewN ?_ _))) k2))
              | (go_at_call 41; refine (three_any _).mono ?_; rintro e u1 ⟨rfl, k1⟩; have KA : Kept v u1 := Kept.trans (b := _) (by repeat (first | (with_reducible exact Kept.refl _) | (with_reducible refine Kept.drew ?_) | (with_reducible refine Kept.drewN ?_ _))) k1))
            all_goals
              have C5 := Lib.hid (C4.out.kept KB)
              clear KA KB k1 k2 x0
              rename_i hcells
              clear hcells
              go_wp2_with fail
              refine (within_any C5.out I3.out).mono ?_
              rintro e v2 ⟨rfl, k2⟩
              have C6 := Lib.hid (C5.out.kept k2)
              clear k2
              go_wp2
              go_roundw
              case rel => exact ⟨k + 1, m2, bl1, by omega, by go_num, C6.out, by have := I3.out; exact this, hs3⟩
              case measure => simp [intOf]; omega
          | false =>
            rw [hob] at C3S
            have hE1 := hoff hob
            have hn3 : (m2.E != m1.E) = false := by simpa using hE1
            clear hon hoff hob hE1
            go_wp2_with fail
            refine C3S.out.mono ?_
            rintro e v ⟨rfl, cv⟩
            have C4 := Lib.hid cv
            have x0 := cv.x0
            clear cv
            go_wp2_with fail
            go_region_held3 (fun w' => w'.cell? ⟨X, 0, none⟩ = some (.pointer (some ⟨M, 0, none⟩))) (first | go_keep | (exact KB.some x0) | (exact KA.some x0)) (first
              | (go_at_call 16; refine (now_c C4.out I3.out (by first | exact KA | exact KA.drew | exact KA.drewN _)).mono ?_; rintro e u2 ⟨rfl, k2⟩; have KB : Kept v u2 := KA.trans (Kept.trans (b := _) (by repeat (first | (with_reducible exact Kept.refl _) | (with_reducible refine Kept.drew ?_) | (with_reducible refine Kept.drewN ?_ _))) k2))
              | (go_at_call 41; refine (three_any _).mono ?_; rintro e u1 ⟨rfl, k1⟩; have KA : Kept v u1 := Kept.trans (b := _) (by repeat (first | (with_reducible exact Kept.refl _) | (with_reducible refine Kept.drew ?_) | (with_reducible refine Kept.drewN ?_ _))) k1))
            all_goals
              have C5 := Lib.hid (C4.out.kept KB)
              clear KA KB k1 k2 x0
              rename_i hcells
              clear hcells
              go_wp2_with fail
              refine (within_any C5.out I3.out).mono ?_
              rintro e v2 ⟨rfl, k2⟩
              have C6 := Lib.hid (C5.out.kept k2)
              clear k2
              go_wp2
              go_roundw
              case rel => exact ⟨k + 1, m2, bl1, by omega, by go_num, C6.out, by have := I3.out; exact this, hs3⟩
              case measure => simp [intOf]; omega
      · have eb : (m.k c).busy = true := by
          cases hx : m.k c with
          | idle => exact absurd hx hid
          | pin x => rfl
          | unpin x => rfl
          | adv x => rfl
        rw [eb] at BY
        go_wp2_with fail
        refine BY.out.mono ?_
        rintro e _ ⟨rfl, rfl⟩
        obtain ⟨m1, hm1⟩ : ∃ m1, m1 = m := ⟨_, rfl⟩
        obtain ⟨wb, hwb⟩ : ∃ wb, wb = wr := ⟨_, rfl⟩
        obtain ⟨bl1, hbl⟩ : ∃ bl1, bl1 = bl := ⟨_, rfl⟩
        subst hm1 hwb hbl
        have C2 := C1
        have I2 := I1
        have hb2 := hid
        have hs2 := hcnt
        have x0 := C2.out.x0
        have x4 := C2.out.x4
        have ct := C2.out.ct c hc3
        go_wp2_with fail
        go_region_held3 (fun w' => w'.cell? ⟨X, 0, none⟩ = some (.pointer (some ⟨M, 0, none⟩)) ∧ w'.cell? ⟨X, 4, none⟩ = some (.slice (some ⟨T, 0, none⟩) 3 3) ∧ w'.cell? ⟨T, c, none⟩ = some (.int .i64 (m1.at_ c))) (first | go_keep | (exact ⟨KB.some x0, KB.some x4, KB.some ct⟩) | (exact ⟨KA.some x0, KA.some x4, KA.some ct⟩)) (first
          | (go_at_call 16; refine (now_c C2.out I2.out (by first | exact KA | exact KA.drew | exact KA.drewN _)).mono ?_; rintro e u2 ⟨rfl, k2⟩; have KB : Kept wb u2 := KA.trans (Kept.trans (b := _) (by repeat (first | (with_reducible exact Kept.refl _) | (with_reducible refine Kept.drew ?_) | (with_reducible refine Kept.drewN ?_ _))) k2))
          | (go_at_call 41; refine (three_any _).mono ?_; rintro e u1 ⟨rfl, k1⟩; have KA : Kept wb u1 := Kept.trans (b := _) (by repeat (first | (with_reducible exact Kept.refl _) | (with_reducible refine Kept.drew ?_) | (with_reducible refine Kept.drewN ?_ _))) k1))
        all_goals
          have C3 := Lib.hid (C2.out.kept KB)
          clear KA KB k1 k2 x0 x4 ct
          rename_i hcells
          clear hcells
          have WN := step_went I2.out (by omega) hc3 hb2
          have C3S := Lib.hid (steps_go C3.out I2.out (by omega) hc3 hb2 (by omega))
          have I3 := Lib.hid WN.inv
          have hs3 : (m1.step c).s.cnt ≤ 100 + ((k + 1 : Nat) : Int) := by have := step_cnt m1 c; omega
          have hon := WN.on
          have hoff := WN.off
          clear WN
          obtain ⟨m2, hm2⟩ : ∃ m2, m2 = m1.step c := ⟨_, rfl⟩
          rw [← hm2] at C3S I3 hs3 hon hoff
          clear hm2
          have hwr : IntKind.i64.wrap (m1.E + 1) = m1.E + 1 := by
            have := I2.out.e0
            have := I2.out.e1
            rw [IntKind.wrap_i64]; omega
          cases hob : m1.on c with
          | true =>
            rw [hob] at C3S
            obtain ⟨hE1, hE2⟩ := hon hob
            have hn1 : (m2.E != m1.E + 1) = false := by simpa using hE1
            have hn2 : (m1.E != m1.at_ c) = false := by simpa using hE2
            clear hon hoff hob hE1 hE2
            go_wp2_with fail
            refine C3S.out.mono ?_
            rintro e v ⟨rfl, cv⟩
            have C4 := Lib.hid cv
            have x0 := cv.x0
            clear cv
            go_wp2_with fail
            go_region_held3 (fun w' => w'.cell? ⟨X, 0, none⟩ = some (.pointer (some ⟨M, 0, none⟩))) (first | go_keep | (exact KB.some x0) | (exact KA.some x0)) (first
              | (go_at_call 16; refine (now_c C4.out I3.out (by first | exact KA | exact KA.drew | exact KA.drewN _)).mono ?_; rintro e u2 ⟨rfl, k2⟩; have KB : Kept v u2 := KA.trans (Kept.trans (b := _) (by repeat (first | (with_reducible exact Kept.refl _) | (with_reducible refine Kept.drew ?_) | (with_reducible refine Kept.drewN ?_ _))) k2))
              | (go_at_call 41; refine (three_any _).mono ?_; rintro e u1 ⟨rfl, k1⟩; have KA : Kept v u1 := Kept.trans (b := _) (by repeat (first | (with_reducible exact Kept.refl _) | (with_reducible refine Kept.drew ?_) | (with_reducible refine Kept.drewN ?_ _))) k1))
            all_goals
              have C5 := Lib.hid (C4.out.kept KB)
              clear KA KB k1 k2 x0
              rename_i hcells
              clear hcells
              go_wp2_with fail
              refine (within_any C5.out I3.out).mono ?_
              rintro e v2 ⟨rfl, k2⟩
              have C6 := Lib.hid (C5.out.kept k2)
              clear k2
              go_wp2
              go_roundw
              case rel => exact ⟨k + 1, m2, bl1, by omega, by go_num, C6.out, by have := I3.out; exact this, hs3⟩
              case measure => simp [intOf]; omega
          | false =>
            rw [hob] at C3S
            have hE1 := hoff hob
            have hn3 : (m2.E != m1.E) = false := by simpa using hE1
            clear hon hoff hob hE1
            go_wp2_with fail
            refine C3S.out.mono ?_
            rintro e v ⟨rfl, cv⟩
            have C4 := Lib.hid cv
            have x0 := cv.x0
            clear cv
            go_wp2_with fail
            go_region_held3 (fun w' => w'.cell? ⟨X, 0, none⟩ = some (.pointer (some ⟨M, 0, none⟩))) (first | go_keep | (exact KB.some x0) | (exact KA.some x0)) (first
              | (go_at_call 16; refine (now_c C4.out I3.out (by first | exact KA | exact KA.drew | exact KA.drewN _)).mono ?_; rintro e u2 ⟨rfl, k2⟩; have KB : Kept v u2 := KA.trans (Kept.trans (b := _) (by repeat (first | (with_reducible exact Kept.refl _) | (with_reducible refine Kept.drew ?_) | (with_reducible refine Kept.drewN ?_ _))) k2))
              | (go_at_call 41; refine (three_any _).mono ?_; rintro e u1 ⟨rfl, k1⟩; have KA : Kept v u1 := Kept.trans (b := _) (by repeat (first | (with_reducible exact Kept.refl _) | (with_reducible refine Kept.drew ?_) | (with_reducible refine Kept.drewN ?_ _))) k1))
            all_goals
              have C5 := Lib.hid (C4.out.kept KB)
              clear KA KB k1 k2 x0
              rename_i hcells
              clear hcells
              go_wp2_with fail
              refine (within_any C5.out I3.out).mono ?_
              rintro e v2 ⟨rfl, k2⟩
              have C6 := Lib.hid (C5.out.kept k2)
              clear k2
              go_wp2
              go_roundw
              case rel => exact ⟨k + 1, m2, bl1, by omega, by go_num, C6.out, by have := I3.out; exact this, hs3⟩
              case measure => simp [intOf]; omega
    · have hge : ¬ ((k : Int) < (len : Int)) := by omega
      have hkl : k = len := by omega
      clear hcm hinv
      go_wp2
      go_ret
      refine ⟨rfl, m, bl, C1.out, ?_, ?_⟩
      · rw [← hkl]; exact I1.out
      · rw [← hkl]; exact hcnt

set_option maxHeartbeats 1000000 in
theorem guards_big (a : Option Addr) (len cap : Nat) (w : World) (h : 300 < len) : Calls Try.prog 6 #[.slice a len cap] w fun e w' => e = .returned (.bool true) ∧ Kept w w' := by
  have h2 : (300 : Int) < len := by omega
  go_enter Try.func6, Try.ntmps6
  go_wp2_with fail
  refine (known_any _).mono ?_
  rintro e w1 ⟨rfl, k1⟩
  go_wp2
  go_ret
  exact ⟨rfl, k1⟩
set_option maxHeartbeats 1000000 in
theorem guards_any {a : Option Addr} {len cap : Nat} {f : Nat → Int} {w : World} (hr : Go.Proofs.Ytmfbjlaajcdbnaa.Row w a len cap f) (hl : len ≤ 300) : Calls Try.prog 6 #[.slice a len cap] w fun e w' => e = .returned (.bool true) ∧ Kept w w' := by
  have h2 : (len : Int) ≤ 300 := by omega
  have HR := Lib.hid hr
  clear hr
  go_enter Try.func6, Try.ntmps6
  go_wp2_with fail
  refine (known_any _).mono ?_
  rintro e w1 ⟨rfl, k1⟩
  have K1 := Lib.hid k1
  clear k1
  go_wp2_with fail
  refine (begun_any3 _).mono ?_
  rintro e w2 ⟨L0, L, M, B, P, U, A, T, X, bl, rfl, cm⟩
  have eqn : ∀ W, (binOp .neq 92 (.pointer (some ⟨X, 0, none⟩)) (.pointer none)).run Try.prog W = .ok (.bool true) W := fun W => by kernel_rfl
  have PL := Lib.hid (plays_any cm (HR.out.kept K1.out) hl)
  clear cm
  go_wp2_with fail
  refine PL.out.mono ?_
  rintro e w3 ⟨rfl, m, bl', c3, _, _⟩
  have K3 := Lib.hid (K1.out.trans c3.mem.kept)
  clear c3
  go_wp2
  go_ret
  exact ⟨rfl, K3.out⟩
theorem guards_law {a : Option Addr} {len cap : Nat} {f : Nat → Int} {w : World} (hr : Go.Proofs.Ytmfbjlaajcdbnaa.Row w a len cap f) : Calls Try.prog 6 #[.slice a len cap] w fun e w' => e = .returned (.bool true) ∧ Kept w w' := by
  by_cases h : len ≤ 300
  · exact guards_any hr h
  · exact guards_big a len cap w (by omega)
end Go.Proofs.Ytmfbjlaajcdbnaa.Ep
