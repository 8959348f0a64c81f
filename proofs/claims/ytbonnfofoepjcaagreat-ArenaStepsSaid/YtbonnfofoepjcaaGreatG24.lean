/- The document's Alloc and Free: their steps, what they tell, how they are made. -/
import Derived.Test.YtbonnfofoepjcaaGreatG11
import Derived.Test.YtbonnfofoepjcaaGreatG23
set_option linter.unusedVariables false
set_option linter.unusedSimpArgs false

namespace Go.Proofs.YtbonnfofoepjcaaGreat.Sk
set_option maxRecDepth 20000
open Go.RowKit
open Wo (St acc wordAt PMem RefIs)

structure DRaw (w : World) (Q R : Nat) (A : Arn) (l I W E : Int) : Prop where
  c0 : w.cell? ⟨Q, 0, none⟩ = some (.int .i64 A.F.T)
  c1 : w.cell? ⟨Q, 1, none⟩ = some (.int .i64 A.F.K)
  c2 : w.cell? ⟨Q, 2, none⟩ = some (.int .i64 A.F.N)
  c3 : w.cell? ⟨Q, 3, none⟩ = some (.int .i64 A.G)
  c4 : w.cell? ⟨Q, 4, none⟩ = some (.int .i64 A.V)
  c5 : w.cell? ⟨Q, 5, none⟩ = some (.int .i64 A.L)
  c6 : w.cell? ⟨Q, 6, none⟩ = some (.pointer (some ⟨R, 0, none⟩))
  c7 : w.cell? ⟨Q, 7, none⟩ = some (.int .i64 l)
  c8 : w.cell? ⟨Q, 8, none⟩ = some (.int .i64 I)
  c9 : w.cell? ⟨Q, 9, none⟩ = some (.int .u64 W)
  c10 : w.cell? ⟨Q, 10, none⟩ = some (.int .i64 E)
  f : ∀ i, w.frozen? ⟨Q, i, none⟩ = false
theorem DRaw.lt {w : World} {Q R : Nat} {A : Arn} {l I W E : Int} (h : DRaw w Q R A l I W E) : Q < w.heap.size := lt_of_cell h.c0
theorem DRaw.frame {w w' : World} {Q R : Nat} {A : Arn} {l I W E : Int} (h : DRaw w Q R A l I W E) {T : Nat → Prop} (hb : But T w w') (hQ : ¬ T Q) : DRaw w' Q R A l I W E :=
  ⟨hb.some h.c0 hQ, hb.some h.c1 hQ, hb.some h.c2 hQ, hb.some h.c3 hQ, hb.some h.c4 hQ, hb.some h.c5 hQ, hb.some h.c6 hQ, hb.some h.c7 hQ, hb.some h.c8 hQ, hb.some h.c9 hQ, hb.some h.c10 hQ, fun i => hb.soft h.lt (h.f i)⟩
theorem DRaw.kept {w w' : World} {Q R : Nat} {A : Arn} {l I W E : Int} (h : DRaw w Q R A l I W E) (k : Kept w w') : DRaw w' Q R A l I W E := h.frame (k.but (fun _ => False)) id
theorem DRaw.set7 {w : World} {Q R : Nat} {A : Arn} {l I W E : Int} (h : DRaw w Q R A l I W E) (l' : Int) : DRaw (w.setCell ⟨Q, 7, none⟩ (.int .i64 l')) Q R A l' I W E := by
  obtain ⟨c0, c1, c2, c3, c4, c5, c6, c7, c8, c9, c10, f⟩ := h
  refine ⟨?_, ?_, ?_, ?_, ?_, ?_, ?_, ?_, ?_, ?_, ?_, fun i => ?_⟩ <;> (simp [cell_set, *]; done)
theorem DRaw.set8 {w : World} {Q R : Nat} {A : Arn} {l I W E : Int} (h : DRaw w Q R A l I W E) (I' : Int) : DRaw (w.setCell ⟨Q, 8, none⟩ (.int .i64 I')) Q R A l I' W E := by
  obtain ⟨c0, c1, c2, c3, c4, c5, c6, c7, c8, c9, c10, f⟩ := h
  refine ⟨?_, ?_, ?_, ?_, ?_, ?_, ?_, ?_, ?_, ?_, ?_, fun i => ?_⟩ <;> (simp [cell_set, *]; done)
theorem DRaw.set9 {w : World} {Q R : Nat} {A : Arn} {l I W E : Int} (h : DRaw w Q R A l I W E) (W' : Int) : DRaw (w.setCell ⟨Q, 9, none⟩ (.int .u64 W')) Q R A l I W' E := by
  obtain ⟨c0, c1, c2, c3, c4, c5, c6, c7, c8, c9, c10, f⟩ := h
  refine ⟨?_, ?_, ?_, ?_, ?_, ?_, ?_, ?_, ?_, ?_, ?_, fun i => ?_⟩ <;> (simp [cell_set, *]; done)
theorem DRaw.set10 {w : World} {Q R : Nat} {A : Arn} {l I W E : Int} (h : DRaw w Q R A l I W E) (E' : Int) : DRaw (w.setCell ⟨Q, 10, none⟩ (.int .i64 E')) Q R A l I W E' := by
  obtain ⟨c0, c1, c2, c3, c4, c5, c6, c7, c8, c9, c10, f⟩ := h
  refine ⟨?_, ?_, ?_, ?_, ?_, ?_, ?_, ?_, ?_, ?_, ?_, fun i => ?_⟩ <;> (simp [cell_set, *]; done)

def DWent (At : World → Prop) (M B n : Nat) (s' : St) (Q R : Nat) (b : Bool) (w : World) (e : Ending) (w' : World) : Prop :=
  e = .returned (.bool b) ∧ At w' ∧ RefIs w' M B n s' ∧ But (fun k => k = Q ∨ k = R ∨ k = M ∨ k = B) w w'

set_option maxHeartbeats 1000000 in
theorem dA_over (Q R M : Nat) (A : Arn) (I W E : Int) (w : World) (h : DRaw w Q R A 9 I W E) : Calls Tryz.prog 71 #[.pointer (some ⟨Q, 0, none⟩), .pointer (some ⟨M, 0, none⟩)] w fun e w' => e = .returned (.bool true) ∧ w = w' := by
  have c7 := h.c7
  have hQ := h.lt
  clear h
  go_enter Tryz.func71, Tryz.ntmps71
  go_wp2
  go_ret
  exact ⟨rfl, rfl⟩
set_option maxHeartbeats 1000000 in
theorem dA_on (Q R M B n : Nat) (A : Arn) (s' : St) (q' : Op) (I W E : Int) (w : World) (h : DRaw w Q R A 0 I W E) (hQ : ¬ (Q = R ∨ Q = M ∨ Q = B))
    (HC : Hid (Calls Tryz.prog 139 #[.pointer (some ⟨R, 0, none⟩), .pointer (some ⟨M, 0, none⟩)] w (RStepped (fun w' => RPopAt w' R A.F q') M B n s' R false w))) :
    Calls Tryz.prog 71 #[.pointer (some ⟨Q, 0, none⟩), .pointer (some ⟨M, 0, none⟩)] w (DWent (fun w' => DRaw w' Q R A 0 I W E ∧ RPopAt w' R A.F q') M B n s' Q R false w) := by
  have c7 := h.c7
  have c6 := h.c6
  have hl := h.lt
  have H := Lib.hid h
  clear h
  go_enter Tryz.func71, Tryz.ntmps71
  go_wp2_with fail
  refine HC.out.mono ?_
  rintro e u1 ⟨rfl, o1, m1, b1⟩
  have h1 := H.out.frame b1 hQ
  have d7 := h1.c7
  have H1 := Lib.hid h1
  have O1 := Lib.hid o1
  have M1 := Lib.hid m1
  have B1 : Hid (But (fun k => k = Q ∨ k = R ∨ k = M ∨ k = B) w u1) := Lib.hid (b1.mono (fun _ _ h => Or.inr h))
  clear h1 o1 m1 b1 c6 c7
  go_wp2
  go_ret
  exact ⟨rfl, ⟨H1.out, O1.out⟩, M1.out, B1.out⟩
set_option maxHeartbeats 1000000 in
theorem dA_end (Q R M B n : Nat) (A : Arn) (s' : St) (q' : Op) (I W E i er : Int) (b : Bool) (w : World) (h : DRaw w Q R A 0 I W E) (hQ : ¬ (Q = R ∨ Q = M ∨ Q = B)) (hR : ¬ (R = M ∨ R = B)) (hn : 1 ≤ n) (hb : (er != 0) = b)
    (HC : Hid (Calls Tryz.prog 139 #[.pointer (some ⟨R, 0, none⟩), .pointer (some ⟨M, 0, none⟩)] w (RStepped (fun w' => RPopAt w' R A.F q') M B n s' R true w)))
    (HT : ∀ w, RPopAt w R A.F q' → Hid (Calls Tryz.prog 140 #[.pointer (some ⟨R, 0, none⟩)] w fun e w' => e = .returned (.tuple #[.int .i64 i, .int .i64 er]) ∧ Kept w w')) :
    Calls Tryz.prog 71 #[.pointer (some ⟨Q, 0, none⟩), .pointer (some ⟨M, 0, none⟩)] w (DWent (fun w' => DRaw w' Q R A (cond b 2 1) i W E ∧ RPopAt w' R A.F q') M B n s' Q R false w) := by
  have c7 := h.c7
  have c6 := h.c6
  have hl := h.lt
  have H := Lib.hid h
  clear h
  go_enter Tryz.func71, Tryz.ntmps71
  go_wp2_with fail
  refine HC.out.mono ?_
  rintro e u1 ⟨rfl, o1, m1, b1⟩
  have HT1 := HT _ o1
  have h1 := H.out.frame b1 hQ
  have d6 := h1.c6
  have H1 := Lib.hid h1
  have O1 := Lib.hid o1
  have M1 := Lib.hid m1
  have B1 : Hid (But (fun k => k = Q ∨ k = R ∨ k = M ∨ k = B) w u1) := Lib.hid (b1.mono (fun _ _ h => Or.inr h))
  clear h1 o1 m1 b1 c6 c7 HT
  go_wp2_with fail
  refine HT1.out.mono ?_
  rintro e u2 ⟨rfl, k2⟩
  have h2 := H1.out.kept k2
  have d7 := h2.c7
  have d8 := h2.c8
  have df := h2.f
  have hl2 := h2.lt
  have H2 := Lib.hid h2
  have O2 := Lib.hid (O1.out.frame (k2.but (fun _ => False)) id)
  have M2 := Lib.hid (ref_kept M1.out hn k2)
  have B2 := Lib.hid (B1.out.then k2)
  clear h2 k2 d6
  have q1 : ¬ M = Q := fun h => hQ (Or.inr (Or.inl h.symm))
  have q2 : ¬ B = Q := fun h => hQ (Or.inr (Or.inr h.symm))
  have q3 : ¬ R = Q := fun h => hQ (Or.inl h.symm)
  cases b
  · go_wp2
    go_ret
    exact ⟨rfl, ⟨(H2.out.set8 _).set7 _, O2.out.frame (T := fun k => k = Q) (((But.refl _ _).here _ _).here _ _) q3⟩, ref_frame M2.out hn (T := fun k => k = Q) (((But.refl _ _).here _ _).here _ _) q1 q2, (B2.out.setCell (p := ⟨Q, 8, none⟩) (Or.inl (Or.inl rfl)) _).setCell (p := ⟨Q, 7, none⟩) (Or.inl (Or.inl rfl)) _⟩
  · have z7 := (((H2.out.set8 i).set7 1).set7 2).c7
    go_wp2
    go_ret
    refine ⟨rfl, ⟨((H2.out.set8 _).set7 _).set7 _, ?_⟩, ?_, ?_⟩
    · exact O2.out.frame (T := fun k => k = Q) (by repeat (first | (with_reducible exact But.refl _ _) | (with_reducible refine But.here ?_ _ _) | (with_reducible refine But.drew ?_) | (with_reducible refine But.drewN ?_ _))) q3
    · exact ref_frame M2.out hn (T := fun k => k = Q) (by repeat (first | (with_reducible exact But.refl _ _) | (with_reducible refine But.here ?_ _ _) | (with_reducible refine But.drew ?_) | (with_reducible refine But.drewN ?_ _))) q1 q2
    · have gg := B2.out
      repeat (first | (with_reducible exact gg) | ((with_reducible refine But.setCell ?_ (Or.inl (Or.inl rfl)) _)))

set_option maxHeartbeats 1000000 in
theorem dA_gen (Q R M B n : Nat) (A : Arn) (s : St) (i W E : Int) (w : World) (h : DRaw w Q R A 1 i W E) (hm : RefIs w M B n s) (h0 : 0 ≤ s.cnt) (h1 : s.cnt ≤ 1000000) (hQ : ¬ (Q = R ∨ Q = M ∨ Q = B)) (hA : A.Ok n) (hs : Wd n s) (i0 : 0 ≤ i) (i1 : i < A.F.N) :
    Calls Tryz.prog 71 #[.pointer (some ⟨Q, 0, none⟩), .pointer (some ⟨M, 0, none⟩)] w (DWent (fun w' => DRaw w' Q R A 9 i (refW i (gen (wordAt n s (A.G + i)))) E) M B n (acc n s 1 (A.G + i) false 0) Q Q true w) := by
  have n1 := hA.F.n1
  have n2 := hA.F.n2
  have N2 := hA.F.N2
  have hw := hs.word (A.G + i)
  have G1 := hA.G1
  have G2 := hA.G2
  obtain ⟨x, hx⟩ : ∃ x, x = wordAt n s (A.G + i) := ⟨_, rfl⟩
  have HL : ∀ W, Kept w W → Hid (Calls Tryz.prog 141 #[.pointer (some ⟨M, 0, none⟩), .int .i64 (IntKind.i64.wrap (A.G + i))] W fun e w' => e = .returned (.int .u64 x) ∧ RefIs w' M B n (acc n s 1 (A.G + i) false 0) ∧ But (fun k => k = M ∨ k = B) W w') := fun W k => Lib.hid (by rw [IntKind.wrap_i64, show (A.G + i + 9223372036854775808) % 18446744073709551616 - 9223372036854775808 = A.G + i by omega, hx]; exact r_load M B n s (A.G + i) W (ref_kept hm n1 k) h0 h1 n2)
  rw [← hx] at hw ⊢
  have ez : Hid (bits BinOp.or IntKind.u64 (i + 1) (x % 4294967296 * 65536) = refW i (gen x)) := Lib.hid (by
    rw [Wo.or_up 16 (i + 1) _ (by omega) (by omega) (by omega) (by omega) (by omega) (by omega)]
    rfl)
  have hQ2 : ¬ (Q = M ∨ Q = B) := fun h => hQ (Or.inr h)
  have c3 := h.c3
  have c7 := h.c7
  have c8 := h.c8
  have c9 := h.c9
  have f := h.f
  have hl := h.lt
  have H := Lib.hid h
  have HM := Lib.hid hm
  have i2 : i ≤ 65534 := by omega
  have g2 : A.G ≤ 65534 := by omega
  clear h hm hA hs hx G2 N2 n2
  go_enter Tryz.func71, Tryz.ntmps71
  go_wp2_with fail
  go_region_held3 (fun w' => w'.cell? ⟨Q, 3, none⟩ = some (.int .i64 A.G) ∧ w'.cell? ⟨Q, 8, none⟩ = some (.int .i64 i)) (first | (with_reducible exact ⟨KB.some c3 hQ2, KB.some c8 hQ2⟩) | go_keep)
    (first | (go_at_call 141; (with_reducible refine (HL _ (by first | exact Kept.refl _ | exact (Kept.refl _).drew | exact (Kept.refl _).drewN _)).out.mono ?_); rintro e u1 ⟨rfl, m1, b1⟩; have KB : But (fun k => k = M ∨ k = B) w u1 := (Kept.but (w' := _) (by first | exact Kept.refl _ | exact (Kept.refl _).drew | exact (Kept.refl _).drewN _) _).trans b1 (fun _ _ h => h)))
  have h1' := H.out.frame KB hQ2
  have d7 := h1'.c7
  have d8 := h1'.c8
  have d9 := h1'.c9
  have df := h1'.f
  have hl1 := h1'.lt
  have H1 := Lib.hid h1'
  have M1 := Lib.hid m1
  have B1 : Hid (But (fun k => k = Q ∨ k = Q ∨ k = M ∨ k = B) w u1) := Lib.hid (KB.mono (fun _ _ h => Or.inr (Or.inr h)))
  clear h1' m1 b1 KB c3 c7 c8 c9 f
  have q1 : ¬ M = Q := fun h => hQ (Or.inr (Or.inl h.symm))
  have q2 : ¬ B = Q := fun h => hQ (Or.inr (Or.inr h.symm))
  go_wp2
  go_ret
  go_light
  refine ⟨rfl, ?_, ?_, ?_⟩
  · show DRaw _ Q R A 9 i (refW i (gen x)) E
    rw [ez.out]
    exact (H1.out.set9 _).set7 9
  · exact ref_frame M1.out n1 (T := fun k => k = Q) (((But.refl _ _).here _ _).here _ _) q1 q2
  · exact (B1.out.setCell (p := ⟨Q, 9, none⟩) (Or.inl (Or.inl rfl)) _).setCell (p := ⟨Q, 7, none⟩) (Or.inl (Or.inl rfl)) _

set_option maxHeartbeats 1000000 in
theorem dA_worn_no (Q R M B n : Nat) (A : Arn) (s : St) (I W E : Int) (w : World) (h : DRaw w Q R A 2 I W E) (hm : RefIs w M B n s) (h0 : 0 ≤ s.cnt) (h1 : s.cnt ≤ 1000000) (hQ : ¬ (Q = R ∨ Q = M ∨ Q = B)) (hA : A.Ok n) (hs : Wd n s) (hb : wordAt n s A.V < A.F.N) :
    Calls Tryz.prog 71 #[.pointer (some ⟨Q, 0, none⟩), .pointer (some ⟨M, 0, none⟩)] w (DWent (fun w' => DRaw w' Q R A 9 I W 7) M B n (acc n s 1 A.V false 0) Q Q true w) := by
  have n1 := hA.F.n1
  have n2 := hA.F.n2
  have N1 := hA.F.N1
  have N2 := hA.F.N2
  have hw := hs.word A.V
  have x0 := hw.1
  have x1 := hw.2
  have hl := h.lt
  have hQ2 : ¬ (Q = M ∨ Q = B) := fun h => hQ (Or.inr h)
  have q1 : ¬ M = Q := fun h => hQ (Or.inr (Or.inl h.symm))
  have q2 : ¬ B = Q := fun h => hQ (Or.inr (Or.inr h.symm))
  obtain ⟨x, hx⟩ : ∃ x, x = wordAt n s A.V := ⟨_, rfl⟩
  have v1d : DRaw (w.setCell ⟨Q, 10, none⟩ (.int .i64 7)) Q R A 2 I W 7 := h.set10 7
  have v1m : RefIs (w.setCell ⟨Q, 10, none⟩ (.int .i64 7)) M B n s := ref_frame hm n1 (T := fun k => k = Q) ((But.refl _ _).here _ _) q1 q2
  have v1b : But (fun k => k = Q ∨ k = Q ∨ k = M ∨ k = B) w (w.setCell ⟨Q, 10, none⟩ (.int .i64 7)) := (But.refl _ _).setCell (p := ⟨Q, 10, none⟩) (Or.inl (Or.inl rfl)) _
  have c7 := h.c7
  have c10 := h.c10
  have f := h.f
  rw [← hx] at x0 x1 hb
  clear h hm hA hs hw
  have hz : decide (IntKind.u64.wrap A.F.N ≤ x) = false := by rw [IntKind.wrap_u64, show A.F.N % 18446744073709551616 = A.F.N by omega]; simp; omega
  go_enter Tryz.func71, Tryz.ntmps71
  go_upto_region 12 with fail
  generalize w.setCell ⟨Q, 10, none⟩ (.int .i64 7) = v1 at *
  have d2 := v1d.c2
  have d4 := v1d.c4
  have hl1 := v1d.lt
  have V1D := Lib.hid v1d
  have V1B := Lib.hid v1b
  have HL : ∀ W, Kept v1 W → Hid (Calls Tryz.prog 141 #[.pointer (some ⟨M, 0, none⟩), .int .i64 A.V] W fun e w' => e = .returned (.int .u64 x) ∧ RefIs w' M B n (acc n s 1 A.V false 0) ∧ But (fun k => k = M ∨ k = B) W w') := fun W k => Lib.hid (by rw [hx]; exact r_load M B n s A.V W (ref_kept v1m n1 k) h0 h1 n2)
  clear v1d v1m v1b c7 c10 f n2 hx
  go_region_held3 (fun w' => w'.cell? ⟨Q, 2, none⟩ = some (.int .i64 A.F.N) ∧ w'.cell? ⟨Q, 4, none⟩ = some (.int .i64 A.V)) (first | (with_reducible exact ⟨KB.some d2 hQ2, KB.some d4 hQ2⟩) | go_keep)
    (first | (go_at_call 141; (with_reducible refine (HL _ (by first | exact Kept.refl _ | exact (Kept.refl _).drew | exact (Kept.refl _).drewN _)).out.mono ?_); rintro e u1 ⟨rfl, m1, b1⟩; have KB : But (fun k => k = M ∨ k = B) v1 u1 := (Kept.but (w' := _) (by first | exact Kept.refl _ | exact (Kept.refl _).drew | exact (Kept.refl _).drewN _) _).trans b1 (fun _ _ h => h)))
  have h1' := V1D.out.frame KB hQ2
  have e7 := h1'.c7
  have e10 := h1'.c10
  have ef := h1'.f
  have hl2 := h1'.lt
  have H1 := Lib.hid h1'
  have M1 := Lib.hid m1
  have B1 : Hid (But (fun k => k = Q ∨ k = Q ∨ k = M ∨ k = B) w u1) := Lib.hid (V1B.out.trans (KB.mono (T := fun k => k = Q ∨ k = Q ∨ k = M ∨ k = B) (fun _ _ h => Or.inr (Or.inr h))) (fun _ _ h => h))
  clear h1' m1 b1 KB d2 d4
  go_wp2
  go_ret
  go_light
  refine ⟨rfl, H1.out.set7 _, ?_, ?_⟩
  · exact ref_frame M1.out n1 (T := fun k => k = Q) (by repeat (first | (with_reducible exact But.refl _ _) | (with_reducible refine But.here ?_ _ _) | (with_reducible refine But.drew ?_) | (with_reducible refine But.drewN ?_ _))) q1 q2
  · have gg := B1.out
    repeat (first | (with_reducible exact gg) | ((with_reducible refine But.setCell ?_ (Or.inl (Or.inl rfl)) _)))
set_option maxHeartbeats 1000000 in
theorem dA_worn_yes (Q R M B n : Nat) (A : Arn) (s : St) (I W E : Int) (w : World) (h : DRaw w Q R A 2 I W E) (hm : RefIs w M B n s) (h0 : 0 ≤ s.cnt) (h1 : s.cnt ≤ 1000000) (hQ : ¬ (Q = R ∨ Q = M ∨ Q = B)) (hA : A.Ok n) (hs : Wd n s) (hb : A.F.N ≤ wordAt n s A.V) :
    Calls Tryz.prog 71 #[.pointer (some ⟨Q, 0, none⟩), .pointer (some ⟨M, 0, none⟩)] w (DWent (fun w' => DRaw w' Q R A 9 I W 12) M B n (acc n s 1 A.V false 0) Q Q true w) := by
  have n1 := hA.F.n1
  have n2 := hA.F.n2
  have N1 := hA.F.N1
  have N2 := hA.F.N2
  have hw := hs.word A.V
  have x0 := hw.1
  have x1 := hw.2
  have hl := h.lt
  have hQ2 : ¬ (Q = M ∨ Q = B) := fun h => hQ (Or.inr h)
  have q1 : ¬ M = Q := fun h => hQ (Or.inr (Or.inl h.symm))
  have q2 : ¬ B = Q := fun h => hQ (Or.inr (Or.inr h.symm))
  obtain ⟨x, hx⟩ : ∃ x, x = wordAt n s A.V := ⟨_, rfl⟩
  have v1d : DRaw (w.setCell ⟨Q, 10, none⟩ (.int .i64 7)) Q R A 2 I W 7 := h.set10 7
  have v1m : RefIs (w.setCell ⟨Q, 10, none⟩ (.int .i64 7)) M B n s := ref_frame hm n1 (T := fun k => k = Q) ((But.refl _ _).here _ _) q1 q2
  have v1b : But (fun k => k = Q ∨ k = Q ∨ k = M ∨ k = B) w (w.setCell ⟨Q, 10, none⟩ (.int .i64 7)) := (But.refl _ _).setCell (p := ⟨Q, 10, none⟩) (Or.inl (Or.inl rfl)) _
  have c7 := h.c7
  have c10 := h.c10
  have f := h.f
  rw [← hx] at x0 x1 hb
  clear h hm hA hs hw
  have hz : decide (IntKind.u64.wrap A.F.N ≤ x) = true := by rw [IntKind.wrap_u64, show A.F.N % 18446744073709551616 = A.F.N by omega]; simp; omega
  go_enter Tryz.func71, Tryz.ntmps71
  go_upto_region 12 with fail
  generalize w.setCell ⟨Q, 10, none⟩ (.int .i64 7) = v1 at *
  have d2 := v1d.c2
  have d4 := v1d.c4
  have hl1 := v1d.lt
  have V1D := Lib.hid v1d
  have V1B := Lib.hid v1b
  have HL : ∀ W, Kept v1 W → Hid (Calls Tryz.prog 141 #[.pointer (some ⟨M, 0, none⟩), .int .i64 A.V] W fun e w' => e = .returned (.int .u64 x) ∧ RefIs w' M B n (acc n s 1 A.V false 0) ∧ But (fun k => k = M ∨ k = B) W w') := fun W k => Lib.hid (by rw [hx]; exact r_load M B n s A.V W (ref_kept v1m n1 k) h0 h1 n2)
  clear v1d v1m v1b c7 c10 f n2 hx
  go_region_held3 (fun w' => w'.cell? ⟨Q, 2, none⟩ = some (.int .i64 A.F.N) ∧ w'.cell? ⟨Q, 4, none⟩ = some (.int .i64 A.V)) (first | (with_reducible exact ⟨KB.some d2 hQ2, KB.some d4 hQ2⟩) | go_keep)
    (first | (go_at_call 141; (with_reducible refine (HL _ (by first | exact Kept.refl _ | exact (Kept.refl _).drew | exact (Kept.refl _).drewN _)).out.mono ?_); rintro e u1 ⟨rfl, m1, b1⟩; have KB : But (fun k => k = M ∨ k = B) v1 u1 := (Kept.but (w' := _) (by first | exact Kept.refl _ | exact (Kept.refl _).drew | exact (Kept.refl _).drewN _) _).trans b1 (fun _ _ h => h)))
  have h1' := V1D.out.frame KB hQ2
  have e7 := h1'.c7
  have e10 := h1'.c10
  have ef := h1'.f
  have hl2 := h1'.lt
  have H1 := Lib.hid h1'
  have M1 := Lib.hid m1
  have B1 : Hid (But (fun k => k = Q ∨ k = Q ∨ k = M ∨ k = B) w u1) := Lib.hid (V1B.out.trans (KB.mono (T := fun k => k = Q ∨ k = Q ∨ k = M ∨ k = B) (fun _ _ h => Or.inr (Or.inr h))) (fun _ _ h => h))
  clear h1' m1 b1 KB d2 d4
  go_wp2
  go_ret
  go_light
  refine ⟨rfl, (H1.out.set10 _).set7 _, ?_, ?_⟩
  · exact ref_frame M1.out n1 (T := fun k => k = Q) (by repeat (first | (with_reducible exact But.refl _ _) | (with_reducible refine But.here ?_ _ _) | (with_reducible refine But.drew ?_) | (with_reducible refine But.drewN ?_ _))) q1 q2
  · have gg := B1.out
    repeat (first | (with_reducible exact gg) | ((with_reducible refine But.setCell ?_ (Or.inl (Or.inl rfl)) _)))
theorem dA_told_busy (Q R : Nat) (A : Arn) (l I W E : Int) (w : World) (h : DRaw w Q R A l I W E) (hl : (l != 9) = true) : Calls Tryz.prog 72 #[.pointer (some ⟨Q, 0, none⟩)] w fun e w' => e = .returned (.tuple #[.int .u64 0, .int .i64 14]) ∧ Kept w w' := by
  have c7 := h.c7
  have hq := h.lt
  clear h
  go_enter Tryz.func72, Tryz.ntmps72
  go_wp2
  go_ret2
  exact ⟨rfl, by (go_light; repeat (first | (with_reducible exact Kept.refl _) | (with_reducible assumption) | (with_reducible refine Kept.alloc ?_ _ _) | (with_reducible refine Kept.drew ?_) | (with_reducible refine Kept.drewN ?_ _) | ((with_reducible refine Kept.setCell ?_ ?_ _); rotate_left; focus (first | (simp; done) | (simp; omega))) | refine Kept.trans ?_ (by assumption)))⟩
theorem dA_told (Q R : Nat) (A : Arn) (I W E : Int) (w : World) (h : DRaw w Q R A 9 I W E) : Calls Tryz.prog 72 #[.pointer (some ⟨Q, 0, none⟩)] w fun e w' => e = .returned (.tuple #[.int .u64 W, .int .i64 E]) ∧ Kept w w' := by
  have c7 := h.c7
  have c9 := h.c9
  have c10 := h.c10
  have hq := h.lt
  clear h
  go_enter Tryz.func72, Tryz.ntmps72
  go_wp2
  go_region
  go_wp2
  go_ret2
  exact ⟨rfl, by (go_light; repeat (first | (with_reducible exact Kept.refl _) | (with_reducible assumption) | (with_reducible refine Kept.alloc ?_ _ _) | (with_reducible refine Kept.drew ?_) | (with_reducible refine Kept.drewN ?_ _) | ((with_reducible refine Kept.setCell ?_ ?_ _); rotate_left; focus (first | (simp; done) | (simp; omega))) | refine Kept.trans ?_ (by assumption)))⟩

structure DAllocAt (w : World) (Q R : Nat) (A : Arn) (x : AOp) : Prop where
  ne : Q ≠ R
  op : RPopAt w R A.F x.q
  d : ∃ I E, DRaw w Q R A x.line I x.r E ∧ (x.line = 1 → I = idx A.F.N x.q.W) ∧ (x.line ≠ 9 → E = 0 ∧ x.r = 0 ∧ x.er = 14) ∧ (x.line = 9 → E = x.er)
theorem DAllocAt.lt {w : World} {Q R : Nat} {A : Arn} {x : AOp} (h : DAllocAt w Q R A x) : Q < w.heap.size ∧ R < w.heap.size := ⟨by obtain ⟨_, _, h, _⟩ := h.d; exact h.lt, h.op.lt⟩
theorem DAllocAt.frame {w w' : World} {Q R : Nat} {A : Arn} {x : AOp} (h : DAllocAt w Q R A x) {T : Nat → Prop} (hb : But T w w') (hQ : ¬ T Q) (hR : ¬ T R) : DAllocAt w' Q R A x := by
  obtain ⟨ne, op, I, E, d, hI⟩ := h
  exact ⟨ne, op.frame hb hR, I, E, d.frame hb hQ, hI⟩

theorem dalloc_step (Q R M B n : Nat) (A : Arn) (s : St) (x : AOp) (w : World) (h : DAllocAt w Q R A x) (hm : RefIs w M B n s) (h0 : 0 ≤ s.cnt) (h1 : s.cnt ≤ 1000000) (hQ : ¬ (Q = M ∨ Q = B)) (hR : ¬ (R = M ∨ R = B)) (hx : AGood A x) (hA : A.Ok n) (hs : Wd n s) :
    Calls Tryz.prog 71 #[.pointer (some ⟨Q, 0, none⟩), .pointer (some ⟨M, 0, none⟩)] w (DWent (fun w' => DAllocAt w' Q R A (alOp n A s x)) M B n (alSt n A s x) Q R ((alOp n A s x).line == 9) w) := by
  obtain ⟨ne, op, I, E, d, hI, hE, hF⟩ := h
  obtain ⟨l, q, r, er⟩ := x
  have hQ3 : ¬ (Q = R ∨ Q = M ∨ Q = B) := fun h => h.elim ne hQ
  have n1 := hA.F.n1
  rcases hx.c with ⟨h, h9, hr, he⟩ | ⟨h, h9, hi, hr, he⟩ | ⟨h, h9, hi, hr, he⟩ | ⟨h, he⟩
  · obtain rfl : l = 0 := h
    obtain rfl : r = 0 := hr
    obtain rfl : er = 14 := he
    obtain ⟨rfl, _, _⟩ := hE (show ¬ (0 : Nat) = 9 by decide)
    have e1 : alOp n A s ⟨0, q, 0, 14⟩ = alPop A (popOp n A.F s q) := by unfold alOp; rw [if_pos rfl]
    have e2 : alSt n A s ⟨0, q, 0, 14⟩ = popSt n A.F s q := by unfold alSt; rw [if_pos rfl]
    rw [e1, e2]
    have hq := popOp_good hx.q hx.l hx.t hs
    have hc := rpop_step R M B n A.F s q w op hm h0 h1 hR hx.q hx.l hA.F hs
    by_cases k : (popOp n A.F s q).line = 9
    · have hk : ((popOp n A.F s q).line == 9) = true := by simpa using k
      rw [hk] at hc
      by_cases j : idx A.F.N (popOp n A.F s q).W < 0
      · have e3 : alPop A (popOp n A.F s q) = ⟨2, popOp n A.F s q, 0, 14⟩ := by unfold alPop; rw [if_pos k, if_pos j]
        rw [e3]
        have ht : tookI A.F (popOp n A.F s q) = 0 ∧ tookE A.F (popOp n A.F s q) = 15 := by
          unfold tookI tookE
          rw [if_neg (by omega), if_pos k, if_pos j]
          exact ⟨rfl, rfl⟩
        refine (dA_end Q R M B n A _ (popOp n A.F s q) I 0 0 0 15 true w d hQ3 hR n1 rfl (Lib.hid hc) (fun w o => Lib.hid (by have := rpop_told R A.F _ w o hq.2.1; rwa [ht.1, ht.2] at this))).mono fun e w' ⟨x1, x2, x3, x4⟩ => ⟨x1, ⟨ne, x2.2, _, _, x2.1, fun h => absurd (show (2 : Nat) = 1 from h) (by decide), fun _ => ⟨rfl, rfl, rfl⟩, fun h => absurd (show (2 : Nat) = 9 from h) (by decide)⟩, x3, x4⟩
      · have e3 : alPop A (popOp n A.F s q) = ⟨1, popOp n A.F s q, 0, 14⟩ := by unfold alPop; rw [if_pos k, if_neg j]
        rw [e3]
        have ht : tookI A.F (popOp n A.F s q) = idx A.F.N (popOp n A.F s q).W ∧ tookE A.F (popOp n A.F s q) = 0 := by
          unfold tookI tookE
          rw [if_pos (by omega), if_pos k, if_neg j]
          exact ⟨rfl, rfl⟩
        refine (dA_end Q R M B n A _ (popOp n A.F s q) I 0 0 _ 0 false w d hQ3 hR n1 rfl (Lib.hid hc) (fun w o => Lib.hid (by have := rpop_told R A.F _ w o hq.2.1; rwa [ht.1, ht.2] at this))).mono fun e w' ⟨x1, x2, x3, x4⟩ => ⟨x1, ⟨ne, x2.2, _, _, x2.1, fun _ => rfl, fun _ => ⟨rfl, rfl, rfl⟩, fun h => absurd (show (1 : Nat) = 9 from h) (by decide)⟩, x3, x4⟩
    · have hk : ((popOp n A.F s q).line == 9) = false := by simpa using k
      rw [hk] at hc
      have e3 : alPop A (popOp n A.F s q) = ⟨0, popOp n A.F s q, 0, 14⟩ := by unfold alPop; rw [if_neg k]
      rw [e3]
      exact (dA_on Q R M B n A _ (popOp n A.F s q) I 0 0 w d hQ3 (Lib.hid hc)).mono fun e w' ⟨x1, x2, x3, x4⟩ => ⟨x1, ⟨ne, x2.2, _, _, x2.1, fun h => absurd (show (0 : Nat) = 1 from h) (by decide), fun _ => ⟨rfl, rfl, rfl⟩, fun h => absurd (show (0 : Nat) = 9 from h) (by decide)⟩, x3, x4⟩
  · obtain rfl : l = 1 := h
    obtain rfl := hI rfl
    obtain ⟨rfl, hr0, _⟩ := hE (show ¬ (1 : Nat) = 9 by decide)
    exact (dA_gen Q R M B n A s _ r 0 w d hm h0 h1 hQ3 hA hs hi (idx_hi _ _ (by have := hA.F.N1; omega))).mono fun e w' ⟨x1, x2, x3, x4⟩ => ⟨x1, ⟨ne, op.frame x4 (by omega), _, _, x2, fun h => absurd (show (9 : Nat) = 1 from h) (by decide), fun h => absurd rfl h, fun _ => rfl⟩, x3, x4.mono (fun _ _ h => by omega)⟩
  · obtain rfl : l = 2 := h
    obtain ⟨rfl, hr0, _⟩ := hE (show ¬ (2 : Nat) = 9 by decide)
    obtain rfl : r = 0 := hr
    by_cases k : A.F.N ≤ wordAt n s A.V
    · have e1 : alOp n A s ⟨2, q, 0, er⟩ = ⟨9, q, 0, 12⟩ := by unfold alOp; rw [if_neg (show ¬ (2 : Nat) = 0 by decide), if_neg (show ¬ (2 : Nat) = 1 by decide), if_pos rfl, if_pos k]
      rw [e1]
      exact (dA_worn_yes Q R M B n A s I 0 0 w d hm h0 h1 hQ3 hA hs k).mono fun e w' ⟨x1, x2, x3, x4⟩ => ⟨x1, ⟨ne, op.frame x4 (by omega), _, _, x2, fun h => absurd (show (9 : Nat) = 1 from h) (by decide), fun h => absurd rfl h, fun _ => rfl⟩, x3, x4.mono (fun _ _ h => by omega)⟩
    · have e1 : alOp n A s ⟨2, q, 0, er⟩ = ⟨9, q, 0, 7⟩ := by unfold alOp; rw [if_neg (show ¬ (2 : Nat) = 0 by decide), if_neg (show ¬ (2 : Nat) = 1 by decide), if_pos rfl, if_neg k]
      rw [e1]
      exact (dA_worn_no Q R M B n A s I 0 0 w d hm h0 h1 hQ3 hA hs (by omega)).mono fun e w' ⟨x1, x2, x3, x4⟩ => ⟨x1, ⟨ne, op.frame x4 (by omega), _, _, x2, fun h => absurd (show (9 : Nat) = 1 from h) (by decide), fun h => absurd rfl h, fun _ => rfl⟩, x3, x4.mono (fun _ _ h => by omega)⟩
  · obtain rfl : l = 9 := h
    have e1 : alOp n A s ⟨9, q, r, er⟩ = ⟨9, q, r, er⟩ := by unfold alOp; rw [if_neg (show ¬ (9 : Nat) = 0 by decide), if_neg (show ¬ (9 : Nat) = 1 by decide), if_neg (show ¬ (9 : Nat) = 2 by decide)]
    have e2 : alSt n A s ⟨9, q, r, er⟩ = s := by unfold alSt; rw [if_neg (show ¬ (9 : Nat) = 0 by decide), if_neg (show ¬ (9 : Nat) = 1 by decide), if_neg (show ¬ (9 : Nat) = 2 by decide)]
    rw [e1, e2]
    refine (dA_over Q R M A I r E w d).mono fun e w' ⟨x1, x2⟩ => ?_
    subst x2
    exact ⟨x1, ⟨ne, op, I, E, d, hI, hE, hF⟩, hm, But.refl _ _⟩

theorem dalloc_told (Q R : Nat) (A : Arn) (x : AOp) (w : World) (h : DAllocAt w Q R A x) : Calls Tryz.prog 72 #[.pointer (some ⟨Q, 0, none⟩)] w fun e w' => e = .returned (.tuple #[.int .u64 x.r, .int .i64 x.er]) ∧ Kept w w' := by
  obtain ⟨ne, op, I, E, d, hI, hE, hF⟩ := h
  by_cases h9 : x.line = 9
  · have := hF h9
    subst this
    rw [h9] at d
    exact dA_told Q R A I x.r x.er w d
  · obtain ⟨rfl, hr, he⟩ := hE h9
    rw [hr, he]
    exact dA_told_busy Q R A x.line I x.r 0 w d (by simp; omega)

end Go.Proofs.YtbonnfofoepjcaaGreat.Sk
