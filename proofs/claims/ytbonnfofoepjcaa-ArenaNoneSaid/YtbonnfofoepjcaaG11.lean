/- The program's Free: its rows, its step, what it tells. -/
import Derived.Test.YtbonnfofoepjcaaG10
set_option linter.unusedVariables false
set_option linter.unusedSimpArgs false

namespace Go.Proofs.Ytbonnfofoepjcaa.Sk
set_option maxRecDepth 20000
open Go.RowKit
open Wo (St acc wordAt PMem RefIs)

set_option maxHeartbeats 1000000 in
theorem flook_any (P M B n : Nat) (A : Arn) (i e0 : Int) (s : St) (q : Op) (v : Value) (g : Int) (b : Bool) (w : World) (ha : FrRaw w P A i e0 q v 14 g) (hm : PMem w M B n s) (h0 : 0 ≤ s.cnt) (h1 : s.cnt ≤ 1000000) (hPM : P ≠ M) (hPB : P ≠ B)
    (hA : A.Ok n) (hs : Wd n s) (i0 : 0 ≤ i) (i1 : i < A.F.N) (hb : decide (A.L ≤ gen (wordAt n s (A.G + i))) = b) :
    Calls Try.prog 23 #[.pointer (some ⟨P, 0, none⟩), .pointer (some ⟨M, 0, none⟩)] w
      (Rowed (fun w' => FrRaw w' P A i e0 q (.func (.func (cond b 44 42)) #[] #[]) 14 (wordAt n s (A.G + i))) M B n (acc n s 1 (A.G + i) false 0) P 20 w) := by
  have G1 := hA.G1
  have G2 := hA.G2
  have n2 := hA.F.n2
  have hw := hs.word (A.G + i)
  obtain ⟨x, hx⟩ : ∃ x, x = wordAt n s (A.G + i) := ⟨_, rfl⟩
  have HG : ∀ W, Hid (Calls Try.prog 41 #[.agg #[.int .i64 A.F.T, .int .i64 A.F.K, .int .i64 A.F.N, .int .i64 A.G, .int .i64 A.V, .int .i64 A.L], .int .i64 i] W fun e w' => e = .returned (.int .i64 (A.G + i)) ∧ Kept W w') := fun W => Lib.hid (gen_in _ _ _ _ _ _ _ W G1 (by omega) (by omega) (by omega))
  have HM := Lib.hid hm
  have HL : ∀ W, Kept w W → Hid (Calls Try.prog 30 #[.pointer (some ⟨M, 0, none⟩), .int .i64 (A.G + i)] W fun e w' => e = .returned (.int .u64 x) ∧ PMem w' M B n (acc n s 1 (A.G + i) false 0) ∧ But (fun k => k = B) W w') := fun W k => Lib.hid (by rw [hx]; exact p_load M B n s (A.G + i) W (pmem_kept HM.out k) h0 h1)
  rw [← hx] at hw hb ⊢
  have HI : ∀ W, Hid (Calls Try.prog 43 #[.agg #[.int .i64 A.F.T, .int .i64 A.F.K, .int .i64 A.F.N, .int .i64 A.G, .int .i64 A.V, .int .i64 A.L], .int .u64 x] W fun e w' => e = .returned (.bool b) ∧ Kept W w') := fun W => Lib.hid (by rw [← hb]; exact isWorn_any _ _ _ _ _ _ x W hw.1 hw.2)
  have HA := Lib.hid ha
  have hP := ha.lt
  have c10 := ha.c10
  have c11 := ha.c11
  have c12 := ha.c12
  have c13 := ha.c13
  have c14 := ha.c14
  have c15 := ha.c15
  have c18 := ha.c18
  clear ha hm hw hA hs hb G1 G2 n2 i0 i1 hx
  generalize A.G + i = a at *
  go_enter Try.func23, Try.ntmps23
  go_wp2_with fail
  go_region_held3 (fun w' => w'.cell? ⟨P, 10, none⟩ = some (.int .i64 A.F.T) ∧ w'.cell? ⟨P, 11, none⟩ = some (.int .i64 A.F.K) ∧ w'.cell? ⟨P, 12, none⟩ = some (.int .i64 A.F.N) ∧ w'.cell? ⟨P, 13, none⟩ = some (.int .i64 A.G) ∧ w'.cell? ⟨P, 14, none⟩ = some (.int .i64 A.V) ∧ w'.cell? ⟨P, 15, none⟩ = some (.int .i64 A.L) ∧ w'.cell? ⟨P, 18, none⟩ = some (.int .i64 i))
    (first | (with_reducible exact ⟨b4.c10, b4.c11, b4.c12, b4.c13, b4.c14, b4.c15, b4.c18⟩) | (with_reducible exact ⟨KB.some c10 hPB, KB.some c11 hPB, KB.some c12 hPB, KB.some c13 hPB, KB.some c14 hPB, KB.some c15 hPB, KB.some c18 hPB⟩) | (with_reducible exact ⟨KT.some c10, KT.some c11, KT.some c12, KT.some c13, KT.some c14, KT.some c15, KT.some c18⟩) | go_keep)
    (first
      | (go_at_call 41; (with_reducible refine (HG _).out.mono ?_); rintro e u2 ⟨rfl, k2⟩; have KT : Kept w u2 := Kept.trans (b := _) (by first | exact Kept.refl _ | exact (Kept.refl _).drew | exact (Kept.refl _).drewN _) k2)
      | (go_at_call 30; (with_reducible refine (HL _ (by first | exact KT | exact KT.drew | exact KT.drewN _)).out.mono ?_); rintro e u3 ⟨rfl, m3, b3⟩; have KB : But (fun k => k = B) w u3 := (Kept.but (w' := _) (by first | exact KT | exact KT.drew | exact KT.drewN _) _).trans b3 (fun _ _ h => h); have a3 := HA.out.frame KB hPB; have d19 := a3.c19; have df := a3.soft; have hP3 := a3.lt; have b4 := a3.set19 x))
  have d16 := a3.c16
  have C3 : Hid (Chg P 0 20 B w u3) := Lib.hid ((Chg.refl _ _ _ _ _).mem KB hP hPB)
  have a4 := (a3.set19 x).set16 (.func (.func 42) #[] #[])
  have m4 : PMem ((u3.setCell ⟨P, 19, none⟩ (.int .u64 x)).setCell ⟨P, 16, none⟩ (.func (.func 42) #[] #[])) M B n (acc n s 1 a false 0) := pmem_frame m3 (T := fun k => k = P) (((But.refl _ _).here _ _).here _ _) (Ne.symm hPM) (Ne.symm hPB)
  have g4 : Chg P 0 20 B w ((u3.setCell ⟨P, 19, none⟩ (.int .u64 x)).setCell ⟨P, 16, none⟩ (.func (.func 42) #[] #[])) := (C3.out.set _ (by omega) _).set _ (by omega) _
  have M4 := Lib.hid m4
  have A4 := Lib.hid a4
  have G4 := Lib.hid g4
  clear a3 a4 m4 g4 KB b3 m3 c10 c11 c12 c13 c14 c15 c18
  go_wp2_with fail
  generalize ((u3.setCell ⟨P, 19, none⟩ (.int .u64 x)).setCell ⟨P, 16, none⟩ (.func (.func 42) #[] #[])) = v1 at *
  have e10 := A4.out.c10
  have e11 := A4.out.c11
  have e12 := A4.out.c12
  have e13 := A4.out.c13
  have e14 := A4.out.c14
  have e15 := A4.out.c15
  have e19 := A4.out.c19
  have hPv := A4.out.lt
  clear d16 d19 df hP3 b4
  go_region_held3 (fun w' => w'.cell? ⟨P, 10, none⟩ = some (.int .i64 A.F.T) ∧ w'.cell? ⟨P, 11, none⟩ = some (.int .i64 A.F.K) ∧ w'.cell? ⟨P, 12, none⟩ = some (.int .i64 A.F.N) ∧ w'.cell? ⟨P, 13, none⟩ = some (.int .i64 A.G) ∧ w'.cell? ⟨P, 14, none⟩ = some (.int .i64 A.V) ∧ w'.cell? ⟨P, 15, none⟩ = some (.int .i64 A.L) ∧ w'.cell? ⟨P, 19, none⟩ = some (.int .u64 x))
    (first | (with_reducible exact ⟨k5.some e10, k5.some e11, k5.some e12, k5.some e13, k5.some e14, k5.some e15, k5.some e19⟩) | go_keep)
    (first | (go_at_call 43; (with_reducible refine (HI _).out.mono ?_); rintro e u5 ⟨rfl, k5⟩; have k5 : Kept v1 u5 := Kept.trans (b := _) (by first | exact Kept.refl _ | exact (Kept.refl _).drew | exact (Kept.refl _).drewN _) k5))
  have a5 := A4.out.kept k5
  have M5 := Lib.hid (pmem_kept M4.out k5)
  have G5 := Lib.hid (G4.out.keep k5 hP)
  have f16 := a5.c16
  have ff := a5.soft
  have hP5 := a5.lt
  have A5 := Lib.hid a5
  clear a5 k5 e10 e11 e12 e13 e14 e15 e19
  cases b
  · go_wp2
    go_end0
    go_light
    exact ⟨rfl, A5.out, M5.out, G5.out⟩
  · go_wp2
    go_end0
    go_light
    exact ⟨rfl, A5.out.set16 _, pmem_frame M5.out (T := fun k => k = P) ((But.refl _ _).here _ _) (Ne.symm hPM) (Ne.symm hPB), G5.out.set _ (by omega) _⟩

set_option maxHeartbeats 1000000 in
theorem fwear_any (P M B n : Nat) (A : Arn) (i e0 : Int) (s : St) (q : Op) (v : Value) (g : Int) (w : World) (ha : FrRaw w P A i e0 q v 14 g) (hm : PMem w M B n s) (h0 : 0 ≤ s.cnt) (h1 : s.cnt ≤ 1000000) (hPM : P ≠ M) (hPB : P ≠ B) :
    Calls Try.prog 44 #[.pointer (some ⟨P, 0, none⟩), .pointer (some ⟨M, 0, none⟩)] w
      (Rowed (fun w' => FrRaw w' P A i e0 q v 0 g) M B n (acc n s 4 A.V true (IntKind.u64.wrap (wordAt n s A.V + 1))) P 20 w) := by
  have HM := Lib.hid hm
  have HL : ∀ W, Kept w W → Hid (Calls Try.prog 59 #[.pointer (some ⟨M, 0, none⟩), .int .i64 A.V, .int .u64 1] W fun e w' => e = .returned (.int .u64 (acc n s 4 A.V true (IntKind.u64.wrap (wordAt n s A.V + 1))).new) ∧ PMem w' M B n (acc n s 4 A.V true (IntKind.u64.wrap (wordAt n s A.V + 1))) ∧ But (fun k => k = B) W w') := fun W k => Lib.hid (p_add M B n s A.V 1 W (pmem_kept HM.out k) h0 h1)
  generalize acc n s 4 A.V true (IntKind.u64.wrap (wordAt n s A.V + 1)) = s' at *
  have HA := Lib.hid ha
  have hP := ha.lt
  have c14 := ha.c14
  clear ha hm
  go_enter Try.func44, Try.ntmps44
  go_wp2_with fail
  refine (HL _ (Kept.refl _)).out.mono ?_
  rintro e u3 ⟨rfl, m3, b3⟩
  have a3 := HA.out.frame b3 hPB
  have d17 := a3.c17
  have df := a3.soft
  have hP3 := a3.lt
  have A3 := Lib.hid a3
  have M3 := Lib.hid m3
  have C3 : Hid (Chg P 0 20 B w u3) := Lib.hid ((Chg.refl _ _ _ _ _).mem b3 hP hPB)
  clear a3 m3 b3 c14
  go_wp2
  go_end0
  go_light
  exact ⟨rfl, A3.out.set17 0, pmem_frame M3.out (T := fun k => k = P) ((But.refl _ _).here _ _) (Ne.symm hPM) (Ne.symm hPB), C3.out.set _ (by omega) _⟩

set_option maxHeartbeats 1000000 in
theorem frenew_any (P M B n : Nat) (A : Arn) (i e0 : Int) (s : St) (q : Op) (v : Value) (g : Int) (w : World) (ha : FrRaw w P A i e0 q v 14 g) (hm : PMem w M B n s) (h0 : 0 ≤ s.cnt) (h1 : s.cnt ≤ 1000000) (hPM : P ≠ M) (hPB : P ≠ B)
    (hA : A.Ok n) (i0 : 0 ≤ i) (i1 : i < A.F.N) :
    Calls Try.prog 42 #[.pointer (some ⟨P, 0, none⟩), .pointer (some ⟨M, 0, none⟩)] w
      (Rowed (fun w' => FrRaw w' P A i e0 q .nilFunc 14 g) M B n (acc n s 2 (A.G + i) true ((g + 1) % 18446744073709551616)) P 20 w) := by
  have G1 := hA.G1
  have G2 := hA.G2
  have n2 := hA.F.n2
  have HG : ∀ W, Hid (Calls Try.prog 41 #[.agg #[.int .i64 A.F.T, .int .i64 A.F.K, .int .i64 A.F.N, .int .i64 A.G, .int .i64 A.V, .int .i64 A.L], .int .i64 i] W fun e w' => e = .returned (.int .i64 (A.G + i)) ∧ Kept W w') := fun W => Lib.hid (gen_in _ _ _ _ _ _ _ W G1 (by omega) (by omega) (by omega))
  have HM := Lib.hid hm
  have HA := Lib.hid ha
  have hP := ha.lt
  have c10 := ha.c10
  have c11 := ha.c11
  have c12 := ha.c12
  have c13 := ha.c13
  have c14 := ha.c14
  have c15 := ha.c15
  have c18 := ha.c18
  have c19 := ha.c19
  clear ha hm hA G1 G2 n2 i0 i1
  generalize A.G + i = a at *
  have HC : ∀ b W, W.cell? ⟨b, 0, none⟩ = some (.int .u64 g) → (∀ i, W.frozen? ⟨b, i, none⟩ = false) → Hid (Calls Try.prog 64 #[.pointer (some ⟨b, 0, none⟩)] W fun e w' => e = .returned (.int .u64 ((g + 1) % 18446744073709551616)) ∧ But (fun k => k = b) W w') := fun b W c f => Lib.hid ((generations1_any g b W c f).mono fun e w' ⟨x, y⟩ => ⟨x, by rw [y]; exact (But.refl _ _).here _ _⟩)
  have HS : ∀ W (T : Nat → Prop), But T w W → ¬ T M → ¬ T B → Hid (Calls Try.prog 46 #[.pointer (some ⟨M, 0, none⟩), .int .i64 a, .int .u64 ((g + 1) % 18446744073709551616)] W fun e w' => e = .returned (.tuple #[]) ∧ PMem w' M B n (acc n s 2 a true ((g + 1) % 18446744073709551616)) ∧ But (fun k => k = B) W w') := fun W T k t1 t2 => Lib.hid (p_store M B n s a _ W (pmem_frame HM.out k t1 t2) h0 h1)
  generalize (g + 1) % 18446744073709551616 = g' at *
  generalize acc n s 2 a true g' = s' at *
  have hlM := pmem_lt HM.out
  go_enter Try.func42, Try.ntmps42
  go_wp2_with fail
  refine (generations_any g _).mono ?_
  rintro e u1 ⟨b, rfl, hb, cb, fb, k1⟩
  have hbu := lt_of_cell cb
  have d10 := k1.some c10
  have d11 := k1.some c11
  have d12 := k1.some c12
  have d13 := k1.some c13
  have d14 := k1.some c14
  have d15 := k1.some c15
  have d18 := k1.some c18
  have K1 := Lib.hid k1
  have FB := Lib.hid fb
  have hPb : P ≠ b := by omega
  clear k1 c10 c11 c12 c13 c14 c15 c18 c19 fb
  go_wp2_with fail
  go_region_held3 (fun w' => w'.cell? ⟨P, 10, none⟩ = some (.int .i64 A.F.T) ∧ w'.cell? ⟨P, 11, none⟩ = some (.int .i64 A.F.K) ∧ w'.cell? ⟨P, 12, none⟩ = some (.int .i64 A.F.N) ∧ w'.cell? ⟨P, 13, none⟩ = some (.int .i64 A.G) ∧ w'.cell? ⟨P, 14, none⟩ = some (.int .i64 A.V) ∧ w'.cell? ⟨P, 15, none⟩ = some (.int .i64 A.L) ∧ w'.cell? ⟨P, 18, none⟩ = some (.int .i64 i))
    (first | (with_reducible exact ⟨KB.some d10 hPB', KB.some d11 hPB', KB.some d12 hPB', KB.some d13 hPB', KB.some d14 hPB', KB.some d15 hPB', KB.some d18 hPB'⟩) | (with_reducible exact ⟨KC.some d10 hPb, KC.some d11 hPb, KC.some d12 hPb, KC.some d13 hPb, KC.some d14 hPb, KC.some d15 hPb, KC.some d18 hPb⟩) | (with_reducible exact ⟨KT.some d10, KT.some d11, KT.some d12, KT.some d13, KT.some d14, KT.some d15, KT.some d18⟩) | go_keep)
    (first
      | (go_at_call 41; (with_reducible refine (HG _).out.mono ?_); rintro e u2 ⟨rfl, k2⟩; have KT : Kept u1 u2 := Kept.trans (b := _) (by first | exact Kept.refl _ | exact (Kept.refl _).drew | exact (Kept.refl _).drewN _) k2)
      | (go_at_call 64; (with_reducible refine (HC b _ (Kept.some (by first | exact KT | exact KT.drew | exact KT.drewN _) cb) (fun j => Kept.soft (by first | exact KT | exact KT.drew | exact KT.drewN _) hbu (FB.out j))).out.mono ?_); rintro e u3 ⟨rfl, b3⟩; have KC : But (fun k => k = b) u1 u3 := (Kept.but (w' := _) (by first | exact KT | exact KT.drew | exact KT.drewN _) _).trans b3 (fun _ _ h => h))
      | (go_at_call 46; (with_reducible refine (HS _ (fun k => k = b) ((K1.out.but _).trans (by first | exact KC | exact KC.drew | exact KC.drewN _) (fun _ _ h => h)) (by omega) (by omega)).out.mono ?_); rintro e u4 ⟨rfl, m4, b4⟩; have KB : But (fun k => k = b ∨ k = B) u1 u4 := ((show But (fun k => k = b) u1 _ from (by first | exact KC | exact KC.drew | exact KC.drewN _)).mono (T := fun k => k = b ∨ k = B) (fun _ _ h => Or.inl h)).trans b4 (fun _ _ h => Or.inr h); have hPB' : ¬ (P = b ∨ P = B) := by omega))
  have hPB' : ¬ (P = b ∨ P = B) := by omega
  have KW : But (fun k => k = B) w u4 := (K1.out.but _).trans KB (fun k hk h => by rcases h with h | h <;> omega)
  have a3 := HA.out.frame KW hPB
  have e16 := a3.c16
  have ef := a3.soft
  have hP3 := a3.lt
  have A3 := Lib.hid a3
  have M3 := Lib.hid m4
  have C3 : Hid (Chg P 0 20 B w u4) := Lib.hid ((Chg.refl _ _ _ _ _).mem KW hP hPB)
  clear a3 m4 b4 KB KW
  go_wp2
  go_end0
  go_light
  exact ⟨rfl, A3.out.set16 _, pmem_frame M3.out (T := fun k => k = P) ((But.refl _ _).here _ _) (Ne.symm hPM) (Ne.symm hPB), C3.out.set _ (by omega) _⟩

theorem fneq_nil (w : World) : (binOp .neq 53 .nilFunc .nilFunc).run Try.prog w = .ok (.bool false) w := by
  kernel_rfl
theorem fneq_func (f : Fn) (x y : Array Value) (w : World) : (binOp .neq 53 (.func f x y) .nilFunc).run Try.prog w = .ok (.bool true) w := by
  kernel_rfl

set_option maxHeartbeats 1000000 in
theorem fStep_over (P M : Nat) (A : Arn) (i e0 : Int) (q : Op) (v : Value) (er g : Int) (w : World) (ha : FrRaw w P A i e0 q v er g) (he : er ≠ 14) :
    Calls Try.prog 7 #[.pointer (some ⟨P, 0, none⟩), .pointer (some ⟨M, 0, none⟩)] w fun e w' => e = .returned (.bool true) ∧ w = w' := by
  have hb : (er != 14) = true := by simpa using he
  have HE : Hid (Calls Try.prog 17 #[.pointer (some ⟨P, 9, none⟩)] w fun e w' => e = .returned (.bool true) ∧ w = w') := Lib.hid (by have := ended_Free P er w ha.c9 ha.c17; rwa [hb] at this)
  clear ha he hb
  go_enter Try.func7, Try.ntmps7
  go_wp2_with fail
  refine HE.out.mono ?_
  rintro e u1 ⟨rfl, rfl⟩
  go_wp2
  go_ret
  exact ⟨rfl, rfl⟩

set_option maxHeartbeats 1000000 in
theorem fStep_look (P M B n : Nat) (A : Arn) (i e0 : Int) (q : Op) (v' : Value) (g er' g' : Int) (s' : St) (b : Bool) (w : World) (ha : FrRaw w P A i e0 q (.func (.func 23) #[] #[]) 14 g) (hb : (er' != 14) = b)
    (HC : Hid (Calls Try.prog 23 #[.pointer (some ⟨P, 0, none⟩), .pointer (some ⟨M, 0, none⟩)] w (Rowed (fun w' => FrRaw w' P A i e0 q v' er' g') M B n s' P 20 w))) :
    Calls Try.prog 7 #[.pointer (some ⟨P, 0, none⟩), .pointer (some ⟨M, 0, none⟩)] w (Went (fun w' => FrRaw w' P A i e0 q v' er' g') M B n s' P 20 b w) := by
  have HE : Hid (Calls Try.prog 17 #[.pointer (some ⟨P, 9, none⟩)] w fun e w' => e = .returned (.bool false) ∧ w = w') := Lib.hid (ended_Free P 14 w ha.c9 ha.c17)
  have HF : ∀ w', FrRaw w' P A i e0 q v' er' g' → Hid (Calls Try.prog 17 #[.pointer (some ⟨P, 9, none⟩)] w' fun e w'' => e = .returned (.bool b) ∧ w' = w'') := fun w' h => Lib.hid (by have := ended_Free P er' w' h.c9 h.c17; rwa [hb] at this)
  have c16 := ha.c16
  have hP := ha.lt
  have q2 := fneq_func
  clear ha hb
  go_enter Try.func7, Try.ntmps7
  go_wp2_with fail
  refine HE.out.mono ?_
  rintro e u1 ⟨rfl, rfl⟩
  go_wp2_with fail
  refine HC.out.mono ?_
  rintro e u2 ⟨rfl, h2⟩
  have H2 := Lib.hid h2
  clear h2
  go_wp2_with fail
  refine (HF _ H2.out.1).out.mono ?_
  rintro e u3 ⟨rfl, rfl⟩
  go_wp2
  go_ret
  exact ⟨rfl, H2.out⟩

set_option maxHeartbeats 1000000 in
theorem fStep_renew (P M B n : Nat) (A : Arn) (i e0 : Int) (q : Op) (v' : Value) (g er' g' : Int) (s' : St) (b : Bool) (w : World) (ha : FrRaw w P A i e0 q (.func (.func 42) #[] #[]) 14 g) (hb : (er' != 14) = b)
    (HC : Hid (Calls Try.prog 42 #[.pointer (some ⟨P, 0, none⟩), .pointer (some ⟨M, 0, none⟩)] w (Rowed (fun w' => FrRaw w' P A i e0 q v' er' g') M B n s' P 20 w))) :
    Calls Try.prog 7 #[.pointer (some ⟨P, 0, none⟩), .pointer (some ⟨M, 0, none⟩)] w (Went (fun w' => FrRaw w' P A i e0 q v' er' g') M B n s' P 20 b w) := by
  have HE : Hid (Calls Try.prog 17 #[.pointer (some ⟨P, 9, none⟩)] w fun e w' => e = .returned (.bool false) ∧ w = w') := Lib.hid (ended_Free P 14 w ha.c9 ha.c17)
  have HF : ∀ w', FrRaw w' P A i e0 q v' er' g' → Hid (Calls Try.prog 17 #[.pointer (some ⟨P, 9, none⟩)] w' fun e w'' => e = .returned (.bool b) ∧ w' = w'') := fun w' h => Lib.hid (by have := ended_Free P er' w' h.c9 h.c17; rwa [hb] at this)
  have c16 := ha.c16
  have hP := ha.lt
  have q2 := fneq_func
  clear ha hb
  go_enter Try.func7, Try.ntmps7
  go_wp2_with fail
  refine HE.out.mono ?_
  rintro e u1 ⟨rfl, rfl⟩
  go_wp2_with fail
  refine HC.out.mono ?_
  rintro e u2 ⟨rfl, h2⟩
  have H2 := Lib.hid h2
  clear h2
  go_wp2_with fail
  refine (HF _ H2.out.1).out.mono ?_
  rintro e u3 ⟨rfl, rfl⟩
  go_wp2
  go_ret
  exact ⟨rfl, H2.out⟩

set_option maxHeartbeats 1000000 in
theorem fStep_wear (P M B n : Nat) (A : Arn) (i e0 : Int) (q : Op) (v' : Value) (g er' g' : Int) (s' : St) (b : Bool) (w : World) (ha : FrRaw w P A i e0 q (.func (.func 44) #[] #[]) 14 g) (hb : (er' != 14) = b)
    (HC : Hid (Calls Try.prog 44 #[.pointer (some ⟨P, 0, none⟩), .pointer (some ⟨M, 0, none⟩)] w (Rowed (fun w' => FrRaw w' P A i e0 q v' er' g') M B n s' P 20 w))) :
    Calls Try.prog 7 #[.pointer (some ⟨P, 0, none⟩), .pointer (some ⟨M, 0, none⟩)] w (Went (fun w' => FrRaw w' P A i e0 q v' er' g') M B n s' P 20 b w) := by
  have HE : Hid (Calls Try.prog 17 #[.pointer (some ⟨P, 9, none⟩)] w fun e w' => e = .returned (.bool false) ∧ w = w') := Lib.hid (ended_Free P 14 w ha.c9 ha.c17)
  have HF : ∀ w', FrRaw w' P A i e0 q v' er' g' → Hid (Calls Try.prog 17 #[.pointer (some ⟨P, 9, none⟩)] w' fun e w'' => e = .returned (.bool b) ∧ w' = w'') := fun w' h => Lib.hid (by have := ended_Free P er' w' h.c9 h.c17; rwa [hb] at this)
  have c16 := ha.c16
  have hP := ha.lt
  have q2 := fneq_func
  clear ha hb
  go_enter Try.func7, Try.ntmps7
  go_wp2_with fail
  refine HE.out.mono ?_
  rintro e u1 ⟨rfl, rfl⟩
  go_wp2_with fail
  refine HC.out.mono ?_
  rintro e u2 ⟨rfl, h2⟩
  have H2 := Lib.hid h2
  clear h2
  go_wp2_with fail
  refine (HF _ H2.out.1).out.mono ?_
  rintro e u3 ⟨rfl, rfl⟩
  go_wp2
  go_ret
  exact ⟨rfl, H2.out⟩

set_option maxHeartbeats 1000000 in
theorem fStep_on (P M B n : Nat) (A : Arn) (i e0 : Int) (q q' : Op) (g : Int) (s' : St) (w : World) (ha : FrRaw w P A i e0 q .nilFunc 14 g)
    (HC : Hid (Calls Try.prog 18 #[.pointer (some ⟨P, 0, none⟩), .pointer (some ⟨M, 0, none⟩)] w (Stepped (fun w' => PushAt w' P 0 A.F i e0 q') M B n s' P 0 false w))) :
    Calls Try.prog 7 #[.pointer (some ⟨P, 0, none⟩), .pointer (some ⟨M, 0, none⟩)] w (Went (fun w' => FrRaw w' P A i e0 q' .nilFunc 14 g) M B n s' P 20 false w) := by
  have HE : ∀ w q, FrRaw w P A i e0 q .nilFunc 14 g → Hid (Calls Try.prog 17 #[.pointer (some ⟨P, 9, none⟩)] w fun e w' => e = .returned (.bool false) ∧ w = w') := fun w q ha => Lib.hid (ended_Free P 14 w ha.c9 ha.c17)
  have c16 := ha.c16
  have hP := ha.lt
  have q1 := fneq_nil
  have HA := Lib.hid ha
  clear ha
  go_enter Try.func7, Try.ntmps7
  go_wp2_with fail
  refine (HE _ _ HA.out).out.mono ?_
  rintro e u1 ⟨rfl, rfl⟩
  go_wp2_with fail
  refine HC.out.mono ?_
  rintro e u2 ⟨rfl, o2, m2, g2⟩
  have A2 := Lib.hid (HA.out.push g2 o2)
  have M2 := Lib.hid m2
  have G2 := Lib.hid (g2.wide (o' := 0) (m' := 20) (by omega) (by omega))
  clear o2 m2 g2
  go_wp2_with fail
  refine (HE _ _ A2.out).out.mono ?_
  rintro e u3 ⟨rfl, rfl⟩
  go_wp2
  go_ret
  exact ⟨rfl, A2.out, M2.out, G2.out⟩
set_option maxHeartbeats 1000000 in
theorem fStep_end (P M B n : Nat) (A : Arn) (i : Int) (q q' : Op) (g : Int) (s' : St) (w : World) (ha : FrRaw w P A i 0 q .nilFunc 14 g) (hPM : P ≠ M) (hPB : P ≠ B) (h9 : q'.line = 9)
    (HC : Hid (Calls Try.prog 18 #[.pointer (some ⟨P, 0, none⟩), .pointer (some ⟨M, 0, none⟩)] w (Stepped (fun w' => PushAt w' P 0 A.F i 0 q') M B n s' P 0 true w))) :
    Calls Try.prog 7 #[.pointer (some ⟨P, 0, none⟩), .pointer (some ⟨M, 0, none⟩)] w (Went (fun w' => FrRaw w' P A i 0 q' .nilFunc 0 g) M B n s' P 20 true w) := by
  have HE : Hid (Calls Try.prog 17 #[.pointer (some ⟨P, 9, none⟩)] w fun e w' => e = .returned (.bool false) ∧ w = w') := Lib.hid (ended_Free P 14 w ha.c9 ha.c17)
  have HF : ∀ w, FrRaw w P A i 0 q' .nilFunc 0 g → Hid (Calls Try.prog 17 #[.pointer (some ⟨P, 9, none⟩)] w fun e w' => e = .returned (.bool true) ∧ w = w') := fun w ha => Lib.hid (ended_Free P 0 w ha.c9 ha.c17)
  have HP : ∀ w, PushAt w P 0 A.F i 0 q' → Hid (Calls Try.prog 19 #[.pointer (some ⟨P, 0, none⟩)] w fun e w' => e = .returned (.int .i64 0) ∧ w = w') := fun w o => Lib.hid (by have := push_told P 0 A.F i 0 q' w o; unfold laidE at this; rwa [if_pos h9] at this)
  have c16 := ha.c16
  have hP := ha.lt
  have q1 := fneq_nil
  have HA := Lib.hid ha
  clear ha h9
  go_enter Try.func7, Try.ntmps7
  go_wp2_with fail
  refine HE.out.mono ?_
  rintro e u1 ⟨rfl, rfl⟩
  go_wp2_with fail
  refine HC.out.mono ?_
  rintro e u2 ⟨rfl, o2, m2, g2⟩
  have HP2 := HP _ o2
  have a2 := HA.out.push g2 o2
  have d17 := a2.c17
  have df := a2.soft
  have hP2 := a2.lt
  have a4 := a2.set17 0
  have m4 : PMem (u2.setCell ⟨P, 17, none⟩ (.int .i64 0)) M B n s' := pmem_frame m2 (T := fun k => k = P) ((But.refl _ _).here _ _) (Ne.symm hPM) (Ne.symm hPB)
  have g4 : Chg P 0 20 B w (u2.setCell ⟨P, 17, none⟩ (.int .i64 0)) := (g2.wide (o' := 0) (m' := 20) (by omega) (by omega)).set _ (by omega) _
  have A4 := Lib.hid a4
  have M4 := Lib.hid m4
  have G4 := Lib.hid g4
  clear o2 m2 g2 a2 a4 m4 g4 HP c16
  go_wp2_with fail
  refine HP2.out.mono ?_
  rintro e u3 ⟨rfl, rfl⟩
  go_wp2_with fail
  refine (HF _ A4.out).out.mono ?_
  rintro e u5 ⟨rfl, rfl⟩
  go_wp2
  go_ret
  exact ⟨rfl, A4.out, M4.out, G4.out⟩
theorem fStep_nil (V : Value) (w : World) : Calls Try.prog 7 #[.pointer none, V] w fun e w' => e = .returned (.bool true) ∧ w = w' := by
  go_enter Try.func7, Try.ntmps7
  go_wp2
  go_ret
  exact ⟨rfl, rfl⟩

def nxF (l : Nat) (v : Value) : Prop := (l = 0 → v = .func (.func 23) #[] #[]) ∧ (l = 1 → v = .func (.func 42) #[] #[]) ∧ (l = 2 → v = .nilFunc) ∧ (l = 3 → v = .func (.func 44) #[] #[])
def FreeAt (w : World) (P : Nat) (A : Arn) (i : Int) (x : FOp) : Prop := ∃ v e0, FrRaw w P A i e0 x.q v x.er x.g ∧ nxF x.line v ∧ (x.line ≠ 9 → e0 = 0)
theorem FreeAt.lt {w : World} {P : Nat} {A : Arn} {i : Int} {x : FOp} (h : FreeAt w P A i x) : P < w.heap.size := h.elim fun _ h => h.elim fun _ h => h.1.lt
theorem FreeAt.frame {w w' : World} {P : Nat} {A : Arn} {i : Int} {x : FOp} (h : FreeAt w P A i x) {T : Nat → Prop} (hb : But T w w') (hP : ¬ T P) : FreeAt w' P A i x := h.elim fun v h => h.elim fun e0 h => ⟨v, e0, h.1.frame hb hP, h.2⟩
theorem FreeAt.kept {w w' : World} {P : Nat} {A : Arn} {i : Int} {x : FOp} (h : FreeAt w P A i x) (k : Kept w w') : FreeAt w' P A i x := h.frame (k.but (fun _ => False)) id

theorem free_step (P M B n : Nat) (A : Arn) (i : Int) (s : St) (x : FOp) (w : World) (ha : FreeAt w P A i x) (hm : PMem w M B n s) (h0 : 0 ≤ s.cnt) (h1 : s.cnt ≤ 1000000) (hPM : P ≠ M) (hPB : P ≠ B) (hx : FGood A i x) (hA : A.Ok n) (hs : Wd n s) :
    Calls Try.prog 7 #[.pointer (some ⟨P, 0, none⟩), .pointer (some ⟨M, 0, none⟩)] w (Went (fun w' => FreeAt w' P A i (frOp n A i s x)) M B n (frSt n A i s x) P 20 ((frOp n A i s x).line == 9) w) := by
  obtain ⟨v, e0, ha, hv, hz⟩ := ha
  obtain ⟨l, q, g, er⟩ := x
  rcases hx.c with ⟨h, h9, he, i0, i1⟩ | ⟨h, he⟩
  · obtain rfl : er = 14 := he
    rcases h with h | h | h | h
    · obtain rfl : l = 0 := h
      obtain rfl := hz (show ¬ (0 : Nat) = 9 by decide)
      obtain rfl := hv.1 rfl
      have hc := flook_any P M B n A i 0 s q _ g _ w ha hm h0 h1 hPM hPB hA hs i0 i1 rfl
      have e2 : frSt n A i s ⟨0, q, g, 14⟩ = acc n s 1 (A.G + i) false 0 := by unfold frSt; rw [if_pos rfl]
      rw [e2]
      by_cases k : A.L ≤ gen (wordAt n s (A.G + i))
      · have e1 : frOp n A i s ⟨0, q, g, 14⟩ = ⟨3, q, wordAt n s (A.G + i), 14⟩ := by unfold frOp; rw [if_pos rfl, if_pos k]
        rw [e1]
        rw [show decide (A.L ≤ gen (wordAt n s (A.G + i))) = true by simpa using k] at hc
        refine (fStep_look P M B n A i 0 q _ g 14 _ _ false w ha rfl (Lib.hid hc)).mono fun e w' ⟨x1, x2, x3, x4⟩ => ⟨x1, ⟨_, _, x2, ?_, fun _ => rfl⟩, x3, x4⟩
        exact ⟨fun h => absurd (show (3 : Nat) = 0 from h) (by decide), fun h => absurd (show (3 : Nat) = 1 from h) (by decide), fun h => absurd (show (3 : Nat) = 2 from h) (by decide), fun _ => rfl⟩
      · have e1 : frOp n A i s ⟨0, q, g, 14⟩ = ⟨1, q, wordAt n s (A.G + i), 14⟩ := by unfold frOp; rw [if_pos rfl, if_neg k]
        rw [e1]
        rw [show decide (A.L ≤ gen (wordAt n s (A.G + i))) = false by simpa using k] at hc
        refine (fStep_look P M B n A i 0 q _ g 14 _ _ false w ha rfl (Lib.hid hc)).mono fun e w' ⟨x1, x2, x3, x4⟩ => ⟨x1, ⟨_, _, x2, ?_, fun _ => rfl⟩, x3, x4⟩
        exact ⟨fun h => absurd (show (1 : Nat) = 0 from h) (by decide), fun _ => rfl, fun h => absurd (show (1 : Nat) = 2 from h) (by decide), fun h => absurd (show (1 : Nat) = 3 from h) (by decide)⟩
    · obtain rfl : l = 1 := h
      obtain rfl := hz (show ¬ (1 : Nat) = 9 by decide)
      obtain rfl := hv.2.1 rfl
      refine (fStep_renew P M B n A i 0 q _ g 14 _ _ false w ha rfl (Lib.hid (frenew_any P M B n A i 0 s q _ g w ha hm h0 h1 hPM hPB hA i0 i1))).mono fun e w' ⟨x1, x2, x3, x4⟩ => ⟨x1, ⟨_, _, x2, ?_, fun _ => rfl⟩, x3, x4⟩
      exact ⟨fun h => absurd (show (2 : Nat) = 0 from h) (by decide), fun h => absurd (show (2 : Nat) = 1 from h) (by decide), fun _ => rfl, fun h => absurd (show (2 : Nat) = 3 from h) (by decide)⟩
    · obtain rfl : l = 2 := h
      obtain rfl := hz (show ¬ (2 : Nat) = 9 by decide)
      obtain rfl := hv.2.2.1 rfl
      have hc := push_step P 0 M B n A.F i 0 s q w ha.op hm h0 h1 hPM hPB hx.q hx.l hA.F hs (fun _ => ⟨i0, i1, rfl⟩)
      have e1 : frOp n A i s ⟨2, q, g, 14⟩ = frPush (pushOp n A.F s q) g := by unfold frOp; rw [if_neg (show ¬ (2 : Nat) = 0 by decide), if_neg (show ¬ (2 : Nat) = 1 by decide), if_pos rfl]
      have e2 : frSt n A i s ⟨2, q, g, 14⟩ = pushSt n A.F i s q := by unfold frSt; rw [if_neg (show ¬ (2 : Nat) = 0 by decide), if_neg (show ¬ (2 : Nat) = 1 by decide), if_pos rfl]
      rw [e1, e2]
      by_cases k : (pushOp n A.F s q).line = 9
      · have hk : ((pushOp n A.F s q).line == 9) = true := by simpa using k
        rw [hk] at hc
        have e3 : frPush (pushOp n A.F s q) g = ⟨9, pushOp n A.F s q, g, 0⟩ := by unfold frPush; rw [if_pos k, if_pos k]
        rw [e3]
        refine (fStep_end P M B n A i q _ g _ w ha hPM hPB k (Lib.hid hc)).mono fun e w' ⟨x1, x2, x3, x4⟩ => ⟨x1, ⟨_, _, x2, ?_, fun _ => rfl⟩, x3, x4⟩
        exact ⟨fun h => absurd (show (9 : Nat) = 0 from h) (by decide), fun h => absurd (show (9 : Nat) = 1 from h) (by decide), fun h => rfl, fun h => absurd (show (9 : Nat) = 3 from h) (by decide)⟩
      · have hk : ((pushOp n A.F s q).line == 9) = false := by simpa using k
        rw [hk] at hc
        have e3 : frPush (pushOp n A.F s q) g = ⟨2, pushOp n A.F s q, g, 14⟩ := by unfold frPush; rw [if_neg k, if_neg k]
        rw [e3]
        refine (fStep_on P M B n A i 0 q _ g _ w ha (Lib.hid hc)).mono fun e w' ⟨x1, x2, x3, x4⟩ => ⟨x1, ⟨_, _, x2, ?_, fun _ => rfl⟩, x3, x4⟩
        exact ⟨fun h => absurd (show (2 : Nat) = 0 from h) (by decide), fun h => absurd (show (2 : Nat) = 1 from h) (by decide), fun h => rfl, fun h => absurd (show (2 : Nat) = 3 from h) (by decide)⟩
    · obtain rfl : l = 3 := h
      obtain rfl := hz (show ¬ (3 : Nat) = 9 by decide)
      obtain rfl := hv.2.2.2 rfl
      refine (fStep_wear P M B n A i 0 q _ g 0 _ _ true w ha rfl (Lib.hid (fwear_any P M B n A i 0 s q _ g w ha hm h0 h1 hPM hPB))).mono fun e w' ⟨x1, x2, x3, x4⟩ => ⟨x1, ⟨_, _, x2, ?_, fun _ => rfl⟩, x3, x4⟩
      exact ⟨fun h => absurd (show (9 : Nat) = 0 from h) (by decide), fun h => absurd (show (9 : Nat) = 1 from h) (by decide), fun h => absurd (show (9 : Nat) = 2 from h) (by decide), fun h => absurd (show (9 : Nat) = 3 from h) (by decide)⟩
  · obtain rfl : l = 9 := h
    have e1 : frOp n A i s ⟨9, q, g, er⟩ = ⟨9, q, g, er⟩ := by unfold frOp; rw [if_neg (show ¬ (9 : Nat) = 0 by decide), if_neg (show ¬ (9 : Nat) = 1 by decide), if_neg (show ¬ (9 : Nat) = 2 by decide), if_neg (show ¬ (9 : Nat) = 3 by decide)]
    have e2 : frSt n A i s ⟨9, q, g, er⟩ = s := by unfold frSt; rw [if_neg (show ¬ (9 : Nat) = 0 by decide), if_neg (show ¬ (9 : Nat) = 1 by decide), if_neg (show ¬ (9 : Nat) = 2 by decide), if_neg (show ¬ (9 : Nat) = 3 by decide)]
    rw [e1, e2]
    refine (fStep_over P M A i e0 q v er g w ha he).mono fun e w' ⟨x1, x2⟩ => ?_
    subst x2
    exact ⟨x1, ⟨v, e0, ha, hv, hz⟩, hm, Chg.refl _ _ _ _ _⟩

theorem free_told (P : Nat) (A : Arn) (i : Int) (x : FOp) (w : World) (ha : FreeAt w P A i x) : Calls Try.prog 8 #[.pointer (some ⟨P, 0, none⟩)] w fun e w' => e = .returned (.int .i64 x.er) ∧ w = w' := by
  obtain ⟨v, e0, ha, _⟩ := ha
  have HO := Lib.hid (outcome_Free P x.er w ha.c9 ha.c17)
  clear ha
  go_enter Try.func8, Try.ntmps8
  go_wp2_with fail
  refine HO.out.mono ?_
  rintro e w' ⟨rfl, rfl⟩
  go_wp2
  go_ret
  exact ⟨rfl, rfl⟩
theorem alloc_told_nil (w : World) : Calls Try.prog 5 #[.pointer none] w fun e w' => e = .returned (.tuple #[.int .u64 0, .int .i64 1]) ∧ w = w' := by
  go_enter Try.func5, Try.ntmps5
  go_wp2
  go_ret2
  exact ⟨rfl, rfl⟩
theorem free_told_nil (w : World) : Calls Try.prog 8 #[.pointer none] w fun e w' => e = .returned (.int .i64 1) ∧ w = w' := by
  go_enter Try.func8, Try.ntmps8
  go_wp2
  go_ret
  exact ⟨rfl, rfl⟩

set_option maxHeartbeats 1000000 in
theorem fbegun (A : Arn) (w : World) : Calls Try.prog 22 #[.agg #[.int .i64 A.F.T, .int .i64 A.F.K, .int .i64 A.F.N, .int .i64 A.G, .int .i64 A.V, .int .i64 A.L], .func (.func 23) #[] #[]] w
    fun e w' => e = .returned (.agg #[.bool true, .int .i64 A.F.T, .int .i64 A.F.K, .int .i64 A.F.N, .int .i64 A.G, .int .i64 A.V, .int .i64 A.L, .func (.func 23) #[] #[], .int .i64 14]) ∧ Kept w w' := by
  go_enter Try.func22, Try.ntmps22
  go_wp2
  refine bodyPost_ret (v := .agg #[.bool true, .int .i64 A.F.T, .int .i64 A.F.K, .int .i64 A.F.N, .int .i64 A.G, .int .i64 A.V, .int .i64 A.L, .func (.func 23) #[] #[], .int .i64 14]) (by simp [results, Try.results22, go_sem]) rfl ⟨rfl, ?_⟩
  (go_light; repeat (first | (with_reducible exact Kept.refl _) | (with_reducible assumption) | (with_reducible refine Kept.alloc ?_ _ _) | (with_reducible refine Kept.drew ?_) | (with_reducible refine Kept.drewN ?_ _) | ((with_reducible refine Kept.setCell ?_ ?_ _); rotate_left; focus (first | (simp; done) | (simp; omega))) | refine Kept.trans ?_ (by assumption)))
end Go.Proofs.Ytbonnfofoepjcaa.Sk

namespace Go.Proofs.Ytbonnfofoepjcaa.Sk
set_option maxRecDepth 20000
open Go.RowKit
open Wo (St acc wordAt PMem RefIs)
theorem frRaw_new (A : Arn) (i e0 : Int) (q : Op) (u v : World) (t : TypeId) (hv : v = u.alloc (.cells #[.bool true, .int .i64 A.F.T, .int .i64 A.F.K, .int .i64 A.F.N, .int .u64 q.W, .int .u64 q.L, nxPush q.line, .int .i64 (laidE e0 q), .int .i64 i, .bool true, .int .i64 A.F.T, .int .i64 A.F.K, .int .i64 A.F.N, .int .i64 A.G, .int .i64 A.V, .int .i64 A.L, .func (.func 23) #[] #[], .int .i64 14, .int .i64 i, .int .u64 0] t)) : FrRaw v u.heap.size A i e0 q (.func (.func 23) #[] #[]) 14 0 ∧ Kept u v := by
  subst hv
  refine ⟨⟨⟨⟨?_, ?_, ?_, ?_, ?_, ?_, ?_, ?_, fun i => ?_⟩, ?_⟩, ?_, ?_, ?_, ?_, ?_, ?_, ?_, ?_, ?_, ?_, ?_⟩, (Kept.refl u).alloc _ _⟩
  all_goals (simp; done)
set_option maxHeartbeats 1000000 in
theorem newFree_gen (A : Arn) (i e0 : Int) (q : Op) (x : FOp) (hq : x.q = q) (hg : x.g = 0) (he : x.er = laidE e0 q) (hl : x.line = 0 ∧ e0 = 0 ∨ x.line = 9) (w : World)
    (HN : ∀ w, Hid (Calls Try.prog 21 #[.agg #[.int .i64 A.F.T, .int .i64 A.F.K, .int .i64 A.F.N], .int .i64 i] w (Made (fun w P => PushAt w P 0 A.F i e0 q) w))) :
    Calls Try.prog 9 #[.agg #[.int .i64 A.F.T, .int .i64 A.F.K, .int .i64 A.F.N, .int .i64 A.G, .int .i64 A.V, .int .i64 A.L], .int .i64 i] w (Made (fun w P => FreeAt w P A i x) w) := by
  have HB := fun w => Lib.hid (fbegun A w)
  go_enter Try.func9, Try.ntmps9
  go_wp2_with fail
  have z0 := cell_new w #[.int .i64 A.F.T, .int .i64 A.F.K, .int .i64 A.F.N, .int .i64 A.G, .int .i64 A.V, .int .i64 A.L] 37 w.heap.size 0 rfl
  have z1 := cell_new w #[.int .i64 A.F.T, .int .i64 A.F.K, .int .i64 A.F.N, .int .i64 A.G, .int .i64 A.V, .int .i64 A.L] 37 w.heap.size 1 rfl
  have z2 := cell_new w #[.int .i64 A.F.T, .int .i64 A.F.K, .int .i64 A.F.N, .int .i64 A.G, .int .i64 A.V, .int .i64 A.L] 37 w.heap.size 2 rfl
  have z3 := cell_new w #[.int .i64 A.F.T, .int .i64 A.F.K, .int .i64 A.F.N, .int .i64 A.G, .int .i64 A.V, .int .i64 A.L] 37 w.heap.size 3 rfl
  have z4 := cell_new w #[.int .i64 A.F.T, .int .i64 A.F.K, .int .i64 A.F.N, .int .i64 A.G, .int .i64 A.V, .int .i64 A.L] 37 w.heap.size 4 rfl
  have z5 := cell_new w #[.int .i64 A.F.T, .int .i64 A.F.K, .int .i64 A.F.N, .int .i64 A.G, .int .i64 A.V, .int .i64 A.L] 37 w.heap.size 5 rfl
  simp only [List.getElem?_toArray, List.getElem?_cons_zero, List.getElem?_cons_succ] at z0 z1 z2 z3 z4 z5
  have K0 : Hid (Kept w (w.alloc (.cells #[.int .i64 A.F.T, .int .i64 A.F.K, .int .i64 A.F.N, .int .i64 A.G, .int .i64 A.V, .int .i64 A.L] 37))) := Lib.hid ((Kept.refl w).alloc _ _)
  generalize w.heap.size = W at *
  generalize w.alloc (.cells #[.int .i64 A.F.T, .int .i64 A.F.K, .int .i64 A.F.N, .int .i64 A.G, .int .i64 A.V, .int .i64 A.L] 37) = v0 at *
  go_region_law (first
      | (go_simp; go_at_call 21; refine (HN _).out.mono ?_; rintro e u2 ⟨P0, rfl, y0, y1, o2, k2⟩; have KT : Kept v0 u2 := Kept.trans (b := _) (by first | exact Kept.refl _ | exact (Kept.refl _).drew | exact (Kept.refl _).drewN _) k2; obtain ⟨⟨c0, c1, c2, c3, c4, c5, c6, c7, f⟩, c8⟩ := o2; simp only [Nat.zero_add] at c1 c2 c3 c4 c5 c6 c7 c8; have z0 := KT.some z0; have z1 := KT.some z1; have z2 := KT.some z2; have z3 := KT.some z3; have z4 := KT.some z4; have z5 := KT.some z5)
      | (go_simp; go_at_call 22; refine (HB _).out.mono ?_; rintro e u3 ⟨rfl, k3⟩; have KU : Kept u2 u3 := Kept.trans (b := _) (by first | exact Kept.refl _ | exact (Kept.refl _).drew | exact (Kept.refl _).drewN _) k3; have c0 := KU.some c0; have c1 := KU.some c1; have c2 := KU.some c2; have c3 := KU.some c3; have c4 := KU.some c4; have c5 := KU.some c5; have c6 := KU.some c6; have c7 := KU.some c7; have c8 := KU.some c8; have KV : Kept v0 u3 := KT.trans KU))
  all_goals
    go_wp2_with fail
    obtain ⟨v1, hv1⟩ : ∃ v1, v1 = u3.alloc (.cells #[.bool true, .int .i64 A.F.T, .int .i64 A.F.K, .int .i64 A.F.N, .int .u64 q.W, .int .u64 q.L, nxPush q.line, .int .i64 (laidE e0 q), .int .i64 i, .bool true, .int .i64 A.F.T, .int .i64 A.F.K, .int .i64 A.F.N, .int .i64 A.G, .int .i64 A.V, .int .i64 A.L, .func (.func 23) #[] #[], .int .i64 14, .int .i64 i, .int .u64 0] 57) := ⟨_, rfl⟩
    rw [← hv1]
    obtain ⟨r1, k1⟩ := frRaw_new A i e0 q u3 v1 _ hv1
    have hz := KV.size
    have hz0 := K0.out.size
    have K1 := Lib.hid (K0.out.trans (KV.trans k1))
    have R1 := Lib.hid r1
    have c17 := r1.c17
    have hP1 := r1.lt
    have f1 := r1.soft
    clear r1 hv1 c0 c1 c2 c3 c4 c5 c6 c7 c8 f z0 z1 z2 z3 z4 z5 KV KU KT k1
    generalize u3.heap.size = P at *
    refine (push_told P 0 A.F i e0 q _ R1.out.op).mono ?_
    rintro e u4 ⟨rfl, rfl⟩
    go_wp2
    go_ret
    refine ⟨P, rfl, by omega, by simp; omega, ⟨_, e0, by rw [hq, hg, he]; exact R1.out.set17 _, ?_, ?_⟩, Kept.setCell K1.out (by simp; omega) _⟩
    · rcases hl with ⟨h, _⟩ | h
      · rw [h]
        exact ⟨fun _ => rfl, fun h => absurd h (by decide), fun h => absurd h (by decide), fun h => absurd h (by decide)⟩
      · rw [h]
        exact ⟨fun h => absurd h (by decide), fun h => absurd h (by decide), fun h => absurd h (by decide), fun h => absurd h (by decide)⟩
    · intro h
      rcases hl with ⟨_, h'⟩ | h'
      · exact h'
      · exact absurd h' h
theorem newFree_in (A : Arn) (i : Int) (h0 : 0 ≤ i) (h1 : i < A.F.N) (h2 : i ≤ 65534) (w : World) : Calls Try.prog 9 #[.agg #[.int .i64 A.F.T, .int .i64 A.F.K, .int .i64 A.F.N, .int .i64 A.G, .int .i64 A.V, .int .i64 A.L], .int .i64 i] w (Made (fun w P => FreeAt w P A i FOp.new) w) :=
  newFree_gen A i 0 Op.new FOp.new rfl rfl rfl (Or.inl ⟨rfl, rfl⟩) w (fun w => Lib.hid (newPush_in A.F i h0 h1 h2 w))
theorem newFree_out (A : Arn) (i : Int) (h : i < 0 ∨ A.F.N ≤ i) (w : World) : Calls Try.prog 9 #[.agg #[.int .i64 A.F.T, .int .i64 A.F.K, .int .i64 A.F.N, .int .i64 A.G, .int .i64 A.V, .int .i64 A.L], .int .i64 i] w (Made (fun w P => FreeAt w P A i FOp.bad) w) :=
  newFree_gen A i 3 Op.over FOp.bad rfl rfl rfl (Or.inr rfl) w (fun w => Lib.hid (newPush_out A.F i h w))
end Go.Proofs.Ytbonnfofoepjcaa.Sk
