/- The document's Free: its steps, what it tells. -/
import Derived.Test.YtbonnfofoepjcaaGreatG24
set_option linter.unusedVariables false
set_option linter.unusedSimpArgs false

namespace Go.Proofs.YtbonnfofoepjcaaGreat.Sk
set_option maxRecDepth 20000
open Go.RowKit
open Wo (St acc wordAt PMem RefIs)

set_option maxHeartbeats 1000000 in
theorem dF_over (Q R M : Nat) (A : Arn) (I W E : Int) (w : World) (h : DRaw w Q R A 9 I W E) : Calls Tryz.prog 73 #[.pointer (some ⟨Q, 0, none⟩), .pointer (some ⟨M, 0, none⟩)] w fun e w' => e = .returned (.bool true) ∧ w = w' := by
  have c7 := h.c7
  have hQ := h.lt
  clear h
  go_enter Tryz.func73, Tryz.ntmps73
  go_wp2
  go_ret
  exact ⟨rfl, rfl⟩
set_option maxHeartbeats 1000000 in
theorem dF_push (Q R M B n : Nat) (A : Arn) (s' : St) (q' : Op) (i' e0 I W E : Int) (b : Bool) (w : World) (h : DRaw w Q R A 2 I W E) (hQ : ¬ (Q = R ∨ Q = M ∨ Q = B)) (hn : 1 ≤ n)
    (HC : Hid (Calls Tryz.prog 142 #[.pointer (some ⟨R, 0, none⟩), .pointer (some ⟨M, 0, none⟩)] w (RStepped (fun w' => RPushAt w' R A.F i' e0 q') M B n s' R b w))) :
    Calls Tryz.prog 73 #[.pointer (some ⟨Q, 0, none⟩), .pointer (some ⟨M, 0, none⟩)] w (DWent (fun w' => DRaw w' Q R A (cond b 9 2) I W E ∧ RPushAt w' R A.F i' e0 q') M B n s' Q R b w) := by
  have c7 := h.c7
  have c6 := h.c6
  have hl := h.lt
  have H := Lib.hid h
  have q1 : ¬ M = Q := fun h => hQ (Or.inr (Or.inl h.symm))
  have q2 : ¬ B = Q := fun h => hQ (Or.inr (Or.inr h.symm))
  have q3 : ¬ R = Q := fun h => hQ (Or.inl h.symm)
  clear h
  go_enter Tryz.func73, Tryz.ntmps73
  go_wp2_with fail
  refine HC.out.mono ?_
  rintro e u1 ⟨rfl, o1, m1, b1⟩
  have h1 := H.out.frame b1 hQ
  have d7 := h1.c7
  have df := h1.f
  have hl1 := h1.lt
  have H1 := Lib.hid h1
  have O1 := Lib.hid o1
  have M1 := Lib.hid m1
  have B1 : Hid (But (fun k => k = Q ∨ k = R ∨ k = M ∨ k = B) w u1) := Lib.hid (b1.mono (fun _ _ h => Or.inr h))
  clear h1 o1 m1 b1 c6 c7
  cases b
  · go_wp2
    go_ret
    exact ⟨rfl, ⟨H1.out, O1.out⟩, M1.out, B1.out⟩
  · go_wp2
    go_ret
    exact ⟨rfl, ⟨H1.out.set7 _, O1.out.frame (T := fun k => k = Q) ((But.refl _ _).here _ _) q3⟩, ref_frame M1.out hn (T := fun k => k = Q) ((But.refl _ _).here _ _) q1 q2, B1.out.setCell (p := ⟨Q, 7, none⟩) (Or.inl (Or.inl rfl)) _⟩
set_option maxHeartbeats 1000000 in
theorem dF_wear (Q R M B n : Nat) (A : Arn) (s : St) (I W E : Int) (w : World) (h : DRaw w Q R A 3 I W E) (hm : RefIs w M B n s) (h0 : 0 ≤ s.cnt) (h1 : s.cnt ≤ 1000000) (hQ : ¬ (Q = R ∨ Q = M ∨ Q = B)) (hA : A.Ok n) :
    Calls Tryz.prog 73 #[.pointer (some ⟨Q, 0, none⟩), .pointer (some ⟨M, 0, none⟩)] w (DWent (fun w' => DRaw w' Q R A 9 I W E) M B n (acc n s 4 A.V true (IntKind.u64.wrap (wordAt n s A.V + 1))) Q Q true w) := by
  have n1 := hA.F.n1
  have n2 := hA.F.n2
  have hQ2 : ¬ (Q = M ∨ Q = B) := fun h => hQ (Or.inr h)
  have q1 : ¬ M = Q := fun h => hQ (Or.inr (Or.inl h.symm))
  have q2 : ¬ B = Q := fun h => hQ (Or.inr (Or.inr h.symm))
  have HL : ∀ W, Kept w W → Hid (Calls Tryz.prog 143 #[.pointer (some ⟨M, 0, none⟩), .int .i64 A.V, .int .u64 1] W fun e w' => e = .returned (.int .u64 (acc n s 4 A.V true (IntKind.u64.wrap (wordAt n s A.V + 1))).new) ∧ RefIs w' M B n (acc n s 4 A.V true (IntKind.u64.wrap (wordAt n s A.V + 1))) ∧ But (fun k => k = M ∨ k = B) W w') := fun W k => Lib.hid (r_add M B n s A.V 1 W (ref_kept hm n1 k) h0 h1 n2)
  generalize acc n s 4 A.V true (IntKind.u64.wrap (wordAt n s A.V + 1)) = s' at *
  have c4 := h.c4
  have c7 := h.c7
  have hl := h.lt
  have H := Lib.hid h
  clear h hm hA
  go_enter Tryz.func73, Tryz.ntmps73
  go_wp2_with fail
  refine (HL _ (Kept.refl _)).out.mono ?_
  rintro e u1 ⟨rfl, m1, b1⟩
  have h1' := H.out.frame b1 hQ2
  have d7 := h1'.c7
  have df := h1'.f
  have hl1 := h1'.lt
  have H1 := Lib.hid h1'
  have M1 := Lib.hid m1
  have B1 : Hid (But (fun k => k = Q ∨ k = Q ∨ k = M ∨ k = B) w u1) := Lib.hid (b1.mono (fun _ _ h => Or.inr (Or.inr h)))
  clear h1' m1 b1 c4 c7
  go_wp2
  go_ret
  exact ⟨rfl, H1.out.set7 _, ref_frame M1.out n1 (T := fun k => k = Q) ((But.refl _ _).here _ _) q1 q2, B1.out.setCell (p := ⟨Q, 7, none⟩) (Or.inl (Or.inl rfl)) _⟩
set_option maxHeartbeats 1000000 in
theorem dF_renew (Q R M B n : Nat) (A : Arn) (s : St) (i g E : Int) (w : World) (h : DRaw w Q R A 1 i g E) (hm : RefIs w M B n s) (h0 : 0 ≤ s.cnt) (h1 : s.cnt ≤ 1000000) (hQ : ¬ (Q = R ∨ Q = M ∨ Q = B)) (hA : A.Ok n) (i0 : 0 ≤ i) (i1 : i < A.F.N) (g0 : 0 ≤ g) (g1 : g < 18446744073709551616) :
    Calls Tryz.prog 73 #[.pointer (some ⟨Q, 0, none⟩), .pointer (some ⟨M, 0, none⟩)] w (DWent (fun w' => DRaw w' Q R A 2 i g E) M B n (acc n s 2 (A.G + i) true ((g + 1) % 18446744073709551616)) Q Q false w) := by
  have n1 := hA.F.n1
  have n2 := hA.F.n2
  have N2 := hA.F.N2
  have G1 := hA.G1
  have G2 := hA.G2
  have hQ2 : ¬ (Q = M ∨ Q = B) := fun h => hQ (Or.inr h)
  have q1 : ¬ M = Q := fun h => hQ (Or.inr (Or.inl h.symm))
  have q2 : ¬ B = Q := fun h => hQ (Or.inr (Or.inr h.symm))
  have HL : ∀ W, Kept w W → Hid (Calls Tryz.prog 69 #[.pointer (some ⟨M, 0, none⟩), .int .i64 (A.G + i), .int .u64 ((g + 1) % 18446744073709551616)] W fun e w' => e = .returned (.tuple #[]) ∧ RefIs w' M B n (acc n s 2 (A.G + i) true ((g + 1) % 18446744073709551616)) ∧ But (fun k => k = M ∨ k = B) W w') := fun W k => Lib.hid (r_store M B n s (A.G + i) _ W (ref_kept hm n1 k) h0 h1 n2)
  have HLw : ∀ W, Kept w W → Hid (Calls Tryz.prog 69 #[.pointer (some ⟨M, 0, none⟩), .int .i64 (IntKind.i64.wrap (A.G + i)), .int .u64 (IntKind.u64.wrap (g + 1))] W fun e w' => e = .returned (.tuple #[]) ∧ RefIs w' M B n (acc n s 2 (A.G + i) true ((g + 1) % 18446744073709551616)) ∧ But (fun k => k = M ∨ k = B) W w') := fun W k => Lib.hid (by rw [IntKind.wrap_i64, show (A.G + i + 9223372036854775808) % 18446744073709551616 - 9223372036854775808 = A.G + i by omega, IntKind.wrap_u64]; exact (HL W k).out)
  have c3 := h.c3
  have c7 := h.c7
  have c8 := h.c8
  have c9 := h.c9
  have hl := h.lt
  have H := Lib.hid h
  have i2 : i ≤ 65534 := by omega
  have g2 : A.G ≤ 65534 := by omega
  clear h hm hA G2 N2 n2
  generalize acc n s 2 (A.G + i) true ((g + 1) % 18446744073709551616) = s' at *
  go_enter Tryz.func73, Tryz.ntmps73
  go_wp2_with fail
  go_region_held3 (fun w' => w'.cell? ⟨Q, 3, none⟩ = some (.int .i64 A.G) ∧ w'.cell? ⟨Q, 8, none⟩ = some (.int .i64 i) ∧ w'.cell? ⟨Q, 9, none⟩ = some (.int .u64 g)) (first | (with_reducible exact ⟨KB.some c3 hQ2, KB.some c8 hQ2, KB.some c9 hQ2⟩) | go_keep)
    (first | (go_at_call 69; (first | (with_reducible refine (HLw _ (by first | exact Kept.refl _ | exact (Kept.refl _).drew | exact (Kept.refl _).drewN _)).out.mono ?_) | (with_reducible refine (HL _ (by first | exact Kept.refl _ | exact (Kept.refl _).drew | exact (Kept.refl _).drewN _)).out.mono ?_)); rintro e u1 ⟨rfl, m1, b1⟩; have KB : But (fun k => k = M ∨ k = B) w u1 := (Kept.but (w' := _) (by first | exact Kept.refl _ | exact (Kept.refl _).drew | exact (Kept.refl _).drewN _) _).trans b1 (fun _ _ h => h)))
  have h1' := H.out.frame KB hQ2
  have d7 := h1'.c7
  have df := h1'.f
  have hl1 := h1'.lt
  have H1 := Lib.hid h1'
  have M1 := Lib.hid m1
  have B1 : Hid (But (fun k => k = Q ∨ k = Q ∨ k = M ∨ k = B) w u1) := Lib.hid (KB.mono (fun _ _ h => Or.inr (Or.inr h)))
  clear h1' m1 b1 KB c3 c7 c8 c9
  go_wp2
  go_ret
  go_light
  refine ⟨rfl, H1.out.set7 _, ?_, ?_⟩
  · exact ref_frame M1.out n1 (T := fun k => k = Q) ((But.refl _ _).here _ _) q1 q2
  · exact B1.out.setCell (p := ⟨Q, 7, none⟩) (Or.inl (Or.inl rfl)) _

set_option maxHeartbeats 1000000 in
theorem dF_look (Q R M B n : Nat) (A : Arn) (s : St) (i g E : Int) (b : Bool) (w : World) (h : DRaw w Q R A 0 i g E) (hm : RefIs w M B n s) (h0 : 0 ≤ s.cnt) (h1 : s.cnt ≤ 1000000) (hQ : ¬ (Q = R ∨ Q = M ∨ Q = B)) (hA : A.Ok n) (hs : Wd n s) (i0 : 0 ≤ i) (i1 : i < A.F.N)
    (hb : decide (A.L ≤ gen (wordAt n s (A.G + i))) = b) :
    Calls Tryz.prog 73 #[.pointer (some ⟨Q, 0, none⟩), .pointer (some ⟨M, 0, none⟩)] w (DWent (fun w' => DRaw w' Q R A (cond b 3 1) i (wordAt n s (A.G + i)) E) M B n (acc n s 1 (A.G + i) false 0) Q Q false w) := by
  have n1 := hA.F.n1
  have n2 := hA.F.n2
  have N2 := hA.F.N2
  have G1 := hA.G1
  have G2 := hA.G2
  have L1 := hA.L1
  have L2 := hA.L2
  have hQ2 : ¬ (Q = M ∨ Q = B) := fun h => hQ (Or.inr h)
  have q1 : ¬ M = Q := fun h => hQ (Or.inr (Or.inl h.symm))
  have q2 : ¬ B = Q := fun h => hQ (Or.inr (Or.inr h.symm))
  have hw := hs.word (A.G + i)
  obtain ⟨x, hx⟩ : ∃ x, x = wordAt n s (A.G + i) := ⟨_, rfl⟩
  have HL : ∀ W, Kept w W → Hid (Calls Tryz.prog 141 #[.pointer (some ⟨M, 0, none⟩), .int .i64 (IntKind.i64.wrap (A.G + i))] W fun e w' => e = .returned (.int .u64 x) ∧ RefIs w' M B n (acc n s 1 (A.G + i) false 0) ∧ But (fun k => k = M ∨ k = B) W w') := fun W k => Lib.hid (by rw [IntKind.wrap_i64, show (A.G + i + 9223372036854775808) % 18446744073709551616 - 9223372036854775808 = A.G + i by omega, hx]; exact r_load M B n s (A.G + i) W (ref_kept hm n1 k) h0 h1 n2)
  rw [← hx] at hw hb ⊢
  have x0 := hw.1
  have x1 := hw.2
  have hz : decide (IntKind.u64.wrap A.L ≤ x % 4294967296) = b := by rw [← hb, IntKind.wrap_u64, show A.L % 18446744073709551616 = A.L by omega]; rfl
  have hz2 : decide (A.L ≤ x % 4294967296) = b := hb
  have c3 := h.c3
  have c7 := h.c7
  have c8 := h.c8
  have hl := h.lt
  have H := Lib.hid h
  have i2 : i ≤ 65534 := by omega
  have g2 : A.G ≤ 65534 := by omega
  clear h hm hA G2 N2 n2 hw hx hb hs
  generalize acc n s 1 (A.G + i) false 0 = s' at *
  go_enter Tryz.func73, Tryz.ntmps73
  go_wp2_with fail
  go_region_held3 (fun w' => w'.cell? ⟨Q, 3, none⟩ = some (.int .i64 A.G) ∧ w'.cell? ⟨Q, 8, none⟩ = some (.int .i64 i)) (first | (with_reducible exact ⟨b4.c3, b4.c8⟩) | (with_reducible exact ⟨KB.some c3 hQ2, KB.some c8 hQ2⟩) | go_keep)
    (first | (go_at_call 141; (with_reducible refine (HL _ (by first | exact Kept.refl _ | exact (Kept.refl _).drew | exact (Kept.refl _).drewN _)).out.mono ?_); rintro e u1 ⟨rfl, m1, b1⟩; have KB : But (fun k => k = M ∨ k = B) w u1 := (Kept.but (w' := _) (by first | exact Kept.refl _ | exact (Kept.refl _).drew | exact (Kept.refl _).drewN _) _).trans b1 (fun _ _ h => h); have h1' := H.out.frame KB hQ2; have d9 := h1'.c9; have df := h1'.f; have hl1 := h1'.lt; have b4 := h1'.set9 x))
  have H1 := Lib.hid b4
  have e7 := b4.c7
  have e9 := b4.c9
  have e5 := b4.c5
  have M1 : Hid (RefIs (u1.setCell ⟨Q, 9, none⟩ (.int .u64 x)) M B n s') := Lib.hid (ref_frame m1 n1 (T := fun k => k = Q) ((But.refl _ _).here _ _) q1 q2)
  have B1 : Hid (But (fun k => k = Q ∨ k = Q ∨ k = M ∨ k = B) w (u1.setCell ⟨Q, 9, none⟩ (.int .u64 x))) := Lib.hid (But.setCell (S := fun k => k = Q ∨ k = Q ∨ k = M ∨ k = B) (KB.mono (fun _ _ h => Or.inr (Or.inr h))) (p := ⟨Q, 9, none⟩) (Or.inl (Or.inl rfl)) _)
  have hlv := b4.lt
  have dfv := b4.f
  clear h1' m1 b1 KB c3 c7 c8 b4 d9 df hl1
  generalize (u1.setCell ⟨Q, 9, none⟩ (.int .u64 x)) = v1 at *
  go_wp2_with fail
  have h2 := H1.out.set7 1
  have m2 : RefIs (v1.setCell ⟨Q, 7, none⟩ (.int .i64 1)) M B n s' := ref_frame M1.out n1 (T := fun k => k = Q) ((But.refl _ _).here _ _) q1 q2
  have b2 : But (fun k => k = Q ∨ k = Q ∨ k = M ∨ k = B) w (v1.setCell ⟨Q, 7, none⟩ (.int .i64 1)) := B1.out.setCell (p := ⟨Q, 7, none⟩) (Or.inl (Or.inl rfl)) _
  generalize v1.setCell ⟨Q, 7, none⟩ (.int .i64 1) = v2 at *
  have g5 := h2.c5
  have g7 := h2.c7
  have g9 := h2.c9
  have gl := h2.lt
  have gf := h2.f
  have H2 := Lib.hid h2
  have M2 := Lib.hid m2
  have B2 := Lib.hid b2
  clear h2 m2 b2 e7 e9 e5 hlv dfv H1 M1 B1
  cases b
  · go_quiet (fail)
    go_wp2
    go_ret
    go_light
    refine ⟨rfl, ?_, ?_, ?_⟩
    · exact H2.out.kept (by (go_light; repeat (first | (with_reducible exact Kept.refl _) | (with_reducible assumption) | (with_reducible refine Kept.alloc ?_ _ _) | (with_reducible refine Kept.drew ?_) | (with_reducible refine Kept.drewN ?_ _) | ((with_reducible refine Kept.setCell ?_ ?_ _); rotate_left; focus (first | (simp; done) | (simp; omega))) | refine Kept.trans ?_ (by assumption))))
    · exact ref_kept M2.out n1 (by (go_light; repeat (first | (with_reducible exact Kept.refl _) | (with_reducible assumption) | (with_reducible refine Kept.alloc ?_ _ _) | (with_reducible refine Kept.drew ?_) | (with_reducible refine Kept.drewN ?_ _) | ((with_reducible refine Kept.setCell ?_ ?_ _); rotate_left; focus (first | (simp; done) | (simp; omega))) | refine Kept.trans ?_ (by assumption))))
    · exact B2.out.then (by (go_light; repeat (first | (with_reducible exact Kept.refl _) | (with_reducible assumption) | (with_reducible refine Kept.alloc ?_ _ _) | (with_reducible refine Kept.drew ?_) | (with_reducible refine Kept.drewN ?_ _) | ((with_reducible refine Kept.setCell ?_ ?_ _); rotate_left; focus (first | (simp; done) | (simp; omega))) | refine Kept.trans ?_ (by assumption))))
  · go_quiet (fail)
    go_wp2
    go_ret
    go_light
    refine ⟨rfl, ?_, ?_, ?_⟩
    · have hh : ∀ k, DRaw (v2.drewN k) Q R A 1 i x E := fun k => H2.out.kept ((Kept.refl _).drewN k)
      first | exact H2.out.set7 3 | exact (hh _).set7 3
    · exact ref_frame M2.out n1 (T := fun k => k = Q) (by repeat (first | (with_reducible exact But.refl _ _) | (with_reducible refine But.here ?_ _ _) | (with_reducible refine But.drew ?_) | (with_reducible refine But.drewN ?_ _))) q1 q2
    · have gg := B2.out
      repeat (first | (with_reducible exact gg) | (with_reducible refine But.drew ?_) | (with_reducible refine But.drewN ?_ _) | ((with_reducible refine But.setCell ?_ (Or.inl (Or.inl rfl)) _)))
theorem dF_told_busy (Q R : Nat) (A : Arn) (l I W E : Int) (w : World) (h : DRaw w Q R A l I W E) (hl : (l != 9) = true) : Calls Tryz.prog 74 #[.pointer (some ⟨Q, 0, none⟩)] w fun e w' => e = .returned (.int .i64 14) ∧ Kept w w' := by
  have c7 := h.c7
  have hq := h.lt
  clear h
  go_enter Tryz.func74, Tryz.ntmps74
  go_wp2
  go_ret
  exact ⟨rfl, by (go_light; repeat (first | (with_reducible exact Kept.refl _) | (with_reducible assumption) | (with_reducible refine Kept.alloc ?_ _ _) | (with_reducible refine Kept.drew ?_) | (with_reducible refine Kept.drewN ?_ _) | ((with_reducible refine Kept.setCell ?_ ?_ _); rotate_left; focus (first | (simp; done) | (simp; omega))) | refine Kept.trans ?_ (by assumption)))⟩
theorem dF_told (Q R : Nat) (A : Arn) (I W E : Int) (w : World) (h : DRaw w Q R A 9 I W E) : Calls Tryz.prog 74 #[.pointer (some ⟨Q, 0, none⟩)] w fun e w' => e = .returned (.int .i64 E) ∧ Kept w w' := by
  have c7 := h.c7
  have c10 := h.c10
  have hq := h.lt
  clear h
  go_enter Tryz.func74, Tryz.ntmps74
  go_wp2
  go_ret
  exact ⟨rfl, by (go_light; repeat (first | (with_reducible exact Kept.refl _) | (with_reducible assumption) | (with_reducible refine Kept.alloc ?_ _ _) | (with_reducible refine Kept.drew ?_) | (with_reducible refine Kept.drewN ?_ _) | ((with_reducible refine Kept.setCell ?_ ?_ _); rotate_left; focus (first | (simp; done) | (simp; omega))) | refine Kept.trans ?_ (by assumption)))⟩

structure DFreeAt (w : World) (Q R : Nat) (A : Arn) (i : Int) (x : FOp) : Prop where
  ne : Q ≠ R
  op : ∃ i' e0, RPushAt w R A.F i' e0 x.q ∧ (x.line ≠ 9 → i' = i ∧ e0 = 0)
  d : ∃ E, DRaw w Q R A x.line i x.g E ∧ (x.line ≠ 9 → E = 0 ∧ x.er = 14) ∧ (x.line = 9 → E = x.er)
theorem DFreeAt.lt {w : World} {Q R : Nat} {A : Arn} {i : Int} {x : FOp} (h : DFreeAt w Q R A i x) : Q < w.heap.size ∧ R < w.heap.size := ⟨by obtain ⟨_, h, _⟩ := h.d; exact h.lt, by obtain ⟨_, _, h, _⟩ := h.op; exact h.lt⟩
theorem DFreeAt.frame {w w' : World} {Q R : Nat} {A : Arn} {i : Int} {x : FOp} (h : DFreeAt w Q R A i x) {T : Nat → Prop} (hb : But T w w') (hQ : ¬ T Q) (hR : ¬ T R) : DFreeAt w' Q R A i x := by
  obtain ⟨ne, ⟨i', e0, op, h1⟩, E, d, hI⟩ := h
  exact ⟨ne, ⟨i', e0, op.frame hb hR, h1⟩, E, d.frame hb hQ, hI⟩

theorem dfree_step (Q R M B n : Nat) (A : Arn) (i : Int) (s : St) (x : FOp) (w : World) (h : DFreeAt w Q R A i x) (hm : RefIs w M B n s) (h0 : 0 ≤ s.cnt) (h1 : s.cnt ≤ 1000000) (hQ : ¬ (Q = M ∨ Q = B)) (hR : ¬ (R = M ∨ R = B)) (hx : FGood A i x) (hA : A.Ok n) (hs : Wd n s) :
    Calls Tryz.prog 73 #[.pointer (some ⟨Q, 0, none⟩), .pointer (some ⟨M, 0, none⟩)] w (DWent (fun w' => DFreeAt w' Q R A i (frOp n A i s x)) M B n (frSt n A i s x) Q R ((frOp n A i s x).line == 9) w) := by
  obtain ⟨ne, ⟨i', e0, op, hop⟩, E, d, hE, hF⟩ := h
  obtain ⟨l, q, g, er⟩ := x
  have hQ3 : ¬ (Q = R ∨ Q = M ∨ Q = B) := fun h => h.elim ne hQ
  have n1 := hA.F.n1
  rcases hx.c with ⟨h, h9, he, i0, i1⟩ | ⟨h, he⟩
  · obtain rfl : er = 14 := he
    rcases h with h | h | h | h
    · obtain rfl : l = 0 := h
      obtain ⟨rfl, _⟩ := hE (show ¬ (0 : Nat) = 9 by decide)
      obtain ⟨rfl, rfl⟩ := hop (show ¬ (0 : Nat) = 9 by decide)
      have e2 : frSt n A i' s ⟨0, q, g, 14⟩ = acc n s 1 (A.G + i') false 0 := by unfold frSt; rw [if_pos rfl]
      rw [e2]
      have hc := dF_look Q R M B n A s i' g 0 _ w d hm h0 h1 hQ3 hA hs i0 i1 rfl
      by_cases k : A.L ≤ gen (wordAt n s (A.G + i'))
      · have e1 : frOp n A i' s ⟨0, q, g, 14⟩ = ⟨3, q, wordAt n s (A.G + i'), 14⟩ := by unfold frOp; rw [if_pos rfl, if_pos k]
        rw [e1]
        rw [show decide (A.L ≤ gen (wordAt n s (A.G + i'))) = true by simpa using k] at hc
        exact hc.mono fun e w' ⟨x1, x2, x3, x4⟩ => ⟨x1, ⟨ne, ⟨_, _, op.frame x4 (by omega), fun _ => ⟨rfl, rfl⟩⟩, _, x2, fun _ => ⟨rfl, rfl⟩, fun h => absurd (show (3 : Nat) = 9 from h) (by decide)⟩, x3, x4.mono (fun _ _ h => by omega)⟩
      · have e1 : frOp n A i' s ⟨0, q, g, 14⟩ = ⟨1, q, wordAt n s (A.G + i'), 14⟩ := by unfold frOp; rw [if_pos rfl, if_neg k]
        rw [e1]
        rw [show decide (A.L ≤ gen (wordAt n s (A.G + i'))) = false by simpa using k] at hc
        exact hc.mono fun e w' ⟨x1, x2, x3, x4⟩ => ⟨x1, ⟨ne, ⟨_, _, op.frame x4 (by omega), fun _ => ⟨rfl, rfl⟩⟩, _, x2, fun _ => ⟨rfl, rfl⟩, fun h => absurd (show (1 : Nat) = 9 from h) (by decide)⟩, x3, x4.mono (fun _ _ h => by omega)⟩
    · obtain rfl : l = 1 := h
      obtain ⟨rfl, _⟩ := hE (show ¬ (1 : Nat) = 9 by decide)
      obtain ⟨rfl, rfl⟩ := hop (show ¬ (1 : Nat) = 9 by decide)
      exact (dF_renew Q R M B n A s i' g 0 w d hm h0 h1 hQ3 hA i0 i1 hx.g0 hx.g1).mono fun e w' ⟨x1, x2, x3, x4⟩ => ⟨x1, ⟨ne, ⟨_, _, op.frame x4 (by omega), fun _ => ⟨rfl, rfl⟩⟩, _, x2, fun _ => ⟨rfl, rfl⟩, fun h => absurd (show (2 : Nat) = 9 from h) (by decide)⟩, x3, x4.mono (fun _ _ h => by omega)⟩
    · obtain rfl : l = 2 := h
      obtain ⟨rfl, _⟩ := hE (show ¬ (2 : Nat) = 9 by decide)
      obtain ⟨rfl, rfl⟩ := hop (show ¬ (2 : Nat) = 9 by decide)
      have hc := rpush_step R M B n A.F i' 0 s q w op hm h0 h1 hR hx.q hx.l hA.F hs (fun _ => ⟨i0, i1, rfl⟩)
      have e1 : frOp n A i' s ⟨2, q, g, 14⟩ = frPush (pushOp n A.F s q) g := by unfold frOp; rw [if_neg (show ¬ (2 : Nat) = 0 by decide), if_neg (show ¬ (2 : Nat) = 1 by decide), if_pos rfl]
      have e2 : frSt n A i' s ⟨2, q, g, 14⟩ = pushSt n A.F i' s q := by unfold frSt; rw [if_neg (show ¬ (2 : Nat) = 0 by decide), if_neg (show ¬ (2 : Nat) = 1 by decide), if_pos rfl]
      rw [e1, e2]
      have hd := dF_push Q R M B n A _ (pushOp n A.F s q) i' 0 i' g 0 _ w d hQ3 n1 (Lib.hid hc)
      by_cases k : (pushOp n A.F s q).line = 9
      · have hk : ((pushOp n A.F s q).line == 9) = true := by simpa using k
        rw [hk] at hd
        have e3 : frPush (pushOp n A.F s q) g = ⟨9, pushOp n A.F s q, g, 0⟩ := by unfold frPush; rw [if_pos k, if_pos k]
        rw [e3]
        exact hd.mono fun e w' ⟨x1, x2, x3, x4⟩ => ⟨x1, ⟨ne, ⟨_, _, x2.2, fun _ => ⟨rfl, rfl⟩⟩, _, x2.1, fun h => absurd rfl h, fun _ => rfl⟩, x3, x4⟩
      · have hk : ((pushOp n A.F s q).line == 9) = false := by simpa using k
        rw [hk] at hd
        have e3 : frPush (pushOp n A.F s q) g = ⟨2, pushOp n A.F s q, g, 14⟩ := by unfold frPush; rw [if_neg k, if_neg k]
        rw [e3]
        exact hd.mono fun e w' ⟨x1, x2, x3, x4⟩ => ⟨x1, ⟨ne, ⟨_, _, x2.2, fun _ => ⟨rfl, rfl⟩⟩, _, x2.1, fun _ => ⟨rfl, rfl⟩, fun h => absurd (show (2 : Nat) = 9 from h) (by decide)⟩, x3, x4⟩
    · obtain rfl : l = 3 := h
      obtain ⟨rfl, _⟩ := hE (show ¬ (3 : Nat) = 9 by decide)
      obtain ⟨rfl, rfl⟩ := hop (show ¬ (3 : Nat) = 9 by decide)
      exact (dF_wear Q R M B n A s i' g 0 w d hm h0 h1 hQ3 hA).mono fun e w' ⟨x1, x2, x3, x4⟩ => ⟨x1, ⟨ne, ⟨_, _, op.frame x4 (by omega), fun _ => ⟨rfl, rfl⟩⟩, _, x2, fun h => absurd rfl h, fun _ => rfl⟩, x3, x4.mono (fun _ _ h => by omega)⟩
  · obtain rfl : l = 9 := h
    have e1 : frOp n A i s ⟨9, q, g, er⟩ = ⟨9, q, g, er⟩ := by unfold frOp; rw [if_neg (show ¬ (9 : Nat) = 0 by decide), if_neg (show ¬ (9 : Nat) = 1 by decide), if_neg (show ¬ (9 : Nat) = 2 by decide), if_neg (show ¬ (9 : Nat) = 3 by decide)]
    have e2 : frSt n A i s ⟨9, q, g, er⟩ = s := by unfold frSt; rw [if_neg (show ¬ (9 : Nat) = 0 by decide), if_neg (show ¬ (9 : Nat) = 1 by decide), if_neg (show ¬ (9 : Nat) = 2 by decide), if_neg (show ¬ (9 : Nat) = 3 by decide)]
    rw [e1, e2]
    refine (dF_over Q R M A i g E w d).mono fun e w' ⟨x1, x2⟩ => ?_
    subst x2
    exact ⟨x1, ⟨ne, ⟨i', e0, op, hop⟩, E, d, hE, hF⟩, hm, But.refl _ _⟩
theorem dfree_told (Q R : Nat) (A : Arn) (i : Int) (x : FOp) (w : World) (h : DFreeAt w Q R A i x) : Calls Tryz.prog 74 #[.pointer (some ⟨Q, 0, none⟩)] w fun e w' => e = .returned (.int .i64 x.er) ∧ Kept w w' := by
  obtain ⟨ne, op, E, d, hE, hF⟩ := h
  by_cases h9 : x.line = 9
  · have := hF h9
    subst this
    rw [h9] at d
    exact dF_told Q R A i x.g x.er w d
  · obtain ⟨rfl, he⟩ := hE h9
    rw [he]
    exact dF_told_busy Q R A x.line i x.g 0 w d (by simp; omega)

set_option maxHeartbeats 1000000 in
theorem dnewAlloc_any (A : Arn) (w : World) : Calls Tryz.prog 75 #[.agg #[.int .i64 A.F.T, .int .i64 A.F.K, .int .i64 A.F.N, .int .i64 A.G, .int .i64 A.V, .int .i64 A.L]] w
    fun e w' => ∃ Q R, e = .returned (.pointer (some ⟨Q, 0, none⟩)) ∧ w.heap.size ≤ Q ∧ w.heap.size ≤ R ∧ DAllocAt w' Q R A AOp.new ∧ Kept w w' := by
  have HN := fun w => Lib.hid (rnewPop_any A.F w)
  go_enter Tryz.func75, Tryz.ntmps75
  go_wp2_with fail
  have z0 := cell_new w #[.int .i64 A.F.T, .int .i64 A.F.K, .int .i64 A.F.N, .int .i64 A.G, .int .i64 A.V, .int .i64 A.L] 25 w.heap.size 0 rfl
  have z1 := cell_new w #[.int .i64 A.F.T, .int .i64 A.F.K, .int .i64 A.F.N, .int .i64 A.G, .int .i64 A.V, .int .i64 A.L] 25 w.heap.size 1 rfl
  have z2 := cell_new w #[.int .i64 A.F.T, .int .i64 A.F.K, .int .i64 A.F.N, .int .i64 A.G, .int .i64 A.V, .int .i64 A.L] 25 w.heap.size 2 rfl
  have z3 := cell_new w #[.int .i64 A.F.T, .int .i64 A.F.K, .int .i64 A.F.N, .int .i64 A.G, .int .i64 A.V, .int .i64 A.L] 25 w.heap.size 3 rfl
  have z4 := cell_new w #[.int .i64 A.F.T, .int .i64 A.F.K, .int .i64 A.F.N, .int .i64 A.G, .int .i64 A.V, .int .i64 A.L] 25 w.heap.size 4 rfl
  have z5 := cell_new w #[.int .i64 A.F.T, .int .i64 A.F.K, .int .i64 A.F.N, .int .i64 A.G, .int .i64 A.V, .int .i64 A.L] 25 w.heap.size 5 rfl
  simp only [List.getElem?_toArray, List.getElem?_cons_zero, List.getElem?_cons_succ] at z0 z1 z2 z3 z4 z5
  have K0 : Hid (Kept w (w.alloc (.cells #[.int .i64 A.F.T, .int .i64 A.F.K, .int .i64 A.F.N, .int .i64 A.G, .int .i64 A.V, .int .i64 A.L] 25))) := Lib.hid ((Kept.refl w).alloc _ _)
  generalize w.heap.size = W at *
  generalize w.alloc (.cells #[.int .i64 A.F.T, .int .i64 A.F.K, .int .i64 A.F.N, .int .i64 A.G, .int .i64 A.V, .int .i64 A.L] 25) = v0 at *
  go_region_held3 (fun w' => w'.cell? ⟨W, 0, none⟩ = some (.int .i64 A.F.T) ∧ w'.cell? ⟨W, 1, none⟩ = some (.int .i64 A.F.K) ∧ w'.cell? ⟨W, 2, none⟩ = some (.int .i64 A.F.N) ∧ w'.cell? ⟨W, 3, none⟩ = some (.int .i64 A.G) ∧ w'.cell? ⟨W, 4, none⟩ = some (.int .i64 A.V) ∧ w'.cell? ⟨W, 5, none⟩ = some (.int .i64 A.L)) (first | (with_reducible exact ⟨KT.some z0, KT.some z1, KT.some z2, KT.some z3, KT.some z4, KT.some z5⟩) | go_keep)
    (first | (go_at_call 144; refine (HN _).out.mono ?_; rintro e u2 ⟨P0, rfl, y0, y1, o2, k2⟩; have y0 : v0.heap.size ≤ P0 := Nat.le_trans (Kept.size (by first | exact Kept.refl _ | exact (Kept.refl _).drew | exact (Kept.refl _).drewN _)) y0; have KT : Kept v0 u2 := Kept.trans (b := _) (by first | exact Kept.refl _ | exact (Kept.refl _).drew | exact (Kept.refl _).drewN _) k2))
  go_wp2
  go_ret
  go_light
  have hz := KT.size
  have hz0 := K0.out.size
  exact ⟨u2.heap.size, P0, rfl, by omega, by omega, ⟨by omega, o2.frame ((Kept.but (by (go_light; repeat (first | (with_reducible exact Kept.refl _) | (with_reducible assumption) | (with_reducible refine Kept.alloc ?_ _ _) | (with_reducible refine Kept.drew ?_) | (with_reducible refine Kept.drewN ?_ _) | ((with_reducible refine Kept.setCell ?_ ?_ _); rotate_left; focus (first | (simp; done) | (simp; omega))) | refine Kept.trans ?_ (by assumption)))) (fun _ => False))) id, ⟨0, 0, ⟨by simp, by simp, by simp, by simp, by simp, by simp, by simp, by simp; rfl, by simp, by simp; rfl, by simp, fun i => by simp⟩, fun h => absurd h (by decide), fun _ => ⟨rfl, rfl, rfl⟩, fun h => absurd h (by decide)⟩⟩, Kept.alloc (K0.out.trans (by first | exact KT | exact KT.drew | exact KT.drewN _)) _ _⟩

set_option maxHeartbeats 1000000 in
theorem dnewFree_in (A : Arn) (i : Int) (h0 : 0 ≤ i) (h1 : i < A.F.N) (w : World) : Calls Tryz.prog 76 #[.agg #[.int .i64 A.F.T, .int .i64 A.F.K, .int .i64 A.F.N, .int .i64 A.G, .int .i64 A.V, .int .i64 A.L], .int .i64 i] w
    fun e w' => ∃ Q R, e = .returned (.pointer (some ⟨Q, 0, none⟩)) ∧ w.heap.size ≤ Q ∧ w.heap.size ≤ R ∧ DFreeAt w' Q R A i FOp.new ∧ Kept w w' := by
  have HN := fun w => Lib.hid (rnewPush_in A.F i h0 h1 w)
  go_enter Tryz.func76, Tryz.ntmps76
  go_wp2_with fail
  have z0 := cell_new w #[.int .i64 A.F.T, .int .i64 A.F.K, .int .i64 A.F.N, .int .i64 A.G, .int .i64 A.V, .int .i64 A.L] 25 w.heap.size 0 rfl
  have z1 := cell_new w #[.int .i64 A.F.T, .int .i64 A.F.K, .int .i64 A.F.N, .int .i64 A.G, .int .i64 A.V, .int .i64 A.L] 25 w.heap.size 1 rfl
  have z2 := cell_new w #[.int .i64 A.F.T, .int .i64 A.F.K, .int .i64 A.F.N, .int .i64 A.G, .int .i64 A.V, .int .i64 A.L] 25 w.heap.size 2 rfl
  have z3 := cell_new w #[.int .i64 A.F.T, .int .i64 A.F.K, .int .i64 A.F.N, .int .i64 A.G, .int .i64 A.V, .int .i64 A.L] 25 w.heap.size 3 rfl
  have z4 := cell_new w #[.int .i64 A.F.T, .int .i64 A.F.K, .int .i64 A.F.N, .int .i64 A.G, .int .i64 A.V, .int .i64 A.L] 25 w.heap.size 4 rfl
  have z5 := cell_new w #[.int .i64 A.F.T, .int .i64 A.F.K, .int .i64 A.F.N, .int .i64 A.G, .int .i64 A.V, .int .i64 A.L] 25 w.heap.size 5 rfl
  simp only [List.getElem?_toArray, List.getElem?_cons_zero, List.getElem?_cons_succ] at z0 z1 z2 z3 z4 z5
  have K0 : Hid (Kept w (w.alloc (.cells #[.int .i64 A.F.T, .int .i64 A.F.K, .int .i64 A.F.N, .int .i64 A.G, .int .i64 A.V, .int .i64 A.L] 25))) := Lib.hid ((Kept.refl w).alloc _ _)
  generalize w.heap.size = W at *
  generalize w.alloc (.cells #[.int .i64 A.F.T, .int .i64 A.F.K, .int .i64 A.F.N, .int .i64 A.G, .int .i64 A.V, .int .i64 A.L] 25) = v0 at *
  go_region_held3 (fun w' => w'.cell? ⟨W, 0, none⟩ = some (.int .i64 A.F.T) ∧ w'.cell? ⟨W, 1, none⟩ = some (.int .i64 A.F.K) ∧ w'.cell? ⟨W, 2, none⟩ = some (.int .i64 A.F.N) ∧ w'.cell? ⟨W, 3, none⟩ = some (.int .i64 A.G) ∧ w'.cell? ⟨W, 4, none⟩ = some (.int .i64 A.V) ∧ w'.cell? ⟨W, 5, none⟩ = some (.int .i64 A.L)) (first | (with_reducible exact ⟨KT.some z0, KT.some z1, KT.some z2, KT.some z3, KT.some z4, KT.some z5⟩) | go_keep)
    (first | (go_at_call 145; refine (HN _).out.mono ?_; rintro e u2 ⟨P0, rfl, y0, y1, o2, k2⟩; have y0 : v0.heap.size ≤ P0 := Nat.le_trans (Kept.size (by first | exact Kept.refl _ | exact (Kept.refl _).drew | exact (Kept.refl _).drewN _)) y0; have KT : Kept v0 u2 := Kept.trans (b := _) (by first | exact Kept.refl _ | exact (Kept.refl _).drew | exact (Kept.refl _).drewN _) k2))
  have hz := KT.size
  have hz0 := K0.out.size
  have hP0 := o2.lt
  have O2 := Lib.hid o2
  have K1 : Hid (Kept w u2) := Lib.hid (K0.out.trans KT)
  have e0 := KT.some z0
  have e1 := KT.some z1
  have e2 := KT.some z2
  have e3 := KT.some z3
  have e4 := KT.some z4
  have e5 := KT.some z5
  clear z0 z1 z2 z3 z4 z5 KT k2 o2
  go_wp2
  go_ret
  go_light
  have o2 := O2.out
  exact ⟨u2.heap.size, P0, rfl, by omega, by omega, ⟨by omega, ⟨i, 0, o2.frame ((Kept.but (by (go_light; repeat (first | (with_reducible exact Kept.refl _) | (with_reducible assumption) | (with_reducible refine Kept.alloc ?_ _ _) | (with_reducible refine Kept.drew ?_) | (with_reducible refine Kept.drewN ?_ _) | ((with_reducible refine Kept.setCell ?_ ?_ _); rotate_left; focus (first | (simp; done) | (simp; omega))) | refine Kept.trans ?_ (by assumption)))) (fun _ => False))) id, fun _ => ⟨rfl, rfl⟩⟩, ⟨0, ⟨by simp, by simp, by simp, by simp, by simp, by simp, by simp, by simp; rfl, by simp, by simp; rfl, by simp, fun i => by simp⟩, fun _ => ⟨rfl, rfl⟩, fun h => absurd h (by decide)⟩⟩, Kept.trans K1.out (by (go_light; repeat (first | (with_reducible exact Kept.refl _) | (with_reducible assumption) | (with_reducible refine Kept.alloc ?_ _ _) | (with_reducible refine Kept.drew ?_) | (with_reducible refine Kept.drewN ?_ _) | ((with_reducible refine Kept.setCell ?_ ?_ _); rotate_left; focus (first | (simp; done) | (simp; omega))) | refine Kept.trans ?_ (by assumption))))⟩

set_option maxHeartbeats 1000000 in
theorem dnewFree_lo (A : Arn) (i : Int) (h0 : i < 0) (w : World) : Calls Tryz.prog 76 #[.agg #[.int .i64 A.F.T, .int .i64 A.F.K, .int .i64 A.F.N, .int .i64 A.G, .int .i64 A.V, .int .i64 A.L], .int .i64 i] w
    fun e w' => ∃ Q R, e = .returned (.pointer (some ⟨Q, 0, none⟩)) ∧ w.heap.size ≤ Q ∧ w.heap.size ≤ R ∧ DFreeAt w' Q R A i FOp.bad ∧ Kept w w' := by
  have HN := fun w => Lib.hid (rnewPush_out A.F i (by omega) w)
  go_enter Tryz.func76, Tryz.ntmps76
  go_wp2_with fail
  have z0 := cell_new w #[.int .i64 A.F.T, .int .i64 A.F.K, .int .i64 A.F.N, .int .i64 A.G, .int .i64 A.V, .int .i64 A.L] 25 w.heap.size 0 rfl
  have z1 := cell_new w #[.int .i64 A.F.T, .int .i64 A.F.K, .int .i64 A.F.N, .int .i64 A.G, .int .i64 A.V, .int .i64 A.L] 25 w.heap.size 1 rfl
  have z2 := cell_new w #[.int .i64 A.F.T, .int .i64 A.F.K, .int .i64 A.F.N, .int .i64 A.G, .int .i64 A.V, .int .i64 A.L] 25 w.heap.size 2 rfl
  have z3 := cell_new w #[.int .i64 A.F.T, .int .i64 A.F.K, .int .i64 A.F.N, .int .i64 A.G, .int .i64 A.V, .int .i64 A.L] 25 w.heap.size 3 rfl
  have z4 := cell_new w #[.int .i64 A.F.T, .int .i64 A.F.K, .int .i64 A.F.N, .int .i64 A.G, .int .i64 A.V, .int .i64 A.L] 25 w.heap.size 4 rfl
  have z5 := cell_new w #[.int .i64 A.F.T, .int .i64 A.F.K, .int .i64 A.F.N, .int .i64 A.G, .int .i64 A.V, .int .i64 A.L] 25 w.heap.size 5 rfl
  simp only [List.getElem?_toArray, List.getElem?_cons_zero, List.getElem?_cons_succ] at z0 z1 z2 z3 z4 z5
  have K0 : Hid (Kept w (w.alloc (.cells #[.int .i64 A.F.T, .int .i64 A.F.K, .int .i64 A.F.N, .int .i64 A.G, .int .i64 A.V, .int .i64 A.L] 25))) := Lib.hid ((Kept.refl w).alloc _ _)
  generalize w.heap.size = W at *
  generalize w.alloc (.cells #[.int .i64 A.F.T, .int .i64 A.F.K, .int .i64 A.F.N, .int .i64 A.G, .int .i64 A.V, .int .i64 A.L] 25) = v0 at *
  go_region_held3 (fun w' => w'.cell? ⟨W, 0, none⟩ = some (.int .i64 A.F.T) ∧ w'.cell? ⟨W, 1, none⟩ = some (.int .i64 A.F.K) ∧ w'.cell? ⟨W, 2, none⟩ = some (.int .i64 A.F.N) ∧ w'.cell? ⟨W, 3, none⟩ = some (.int .i64 A.G) ∧ w'.cell? ⟨W, 4, none⟩ = some (.int .i64 A.V) ∧ w'.cell? ⟨W, 5, none⟩ = some (.int .i64 A.L)) (first | (with_reducible exact ⟨KT.some z0, KT.some z1, KT.some z2, KT.some z3, KT.some z4, KT.some z5⟩) | go_keep)
    (first | (go_at_call 145; refine (HN _).out.mono ?_; rintro e u2 ⟨P0, rfl, y0, y1, o2, k2⟩; have y0 : v0.heap.size ≤ P0 := Nat.le_trans (Kept.size (by first | exact Kept.refl _ | exact (Kept.refl _).drew | exact (Kept.refl _).drewN _)) y0; have KT : Kept v0 u2 := Kept.trans (b := _) (by first | exact Kept.refl _ | exact (Kept.refl _).drew | exact (Kept.refl _).drewN _) k2))
  have hz := KT.size
  have hz0 := K0.out.size
  have hP0 := o2.lt
  have O2 := Lib.hid o2
  have K1 : Hid (Kept w u2) := Lib.hid (K0.out.trans KT)
  have e0 := KT.some z0
  have e1 := KT.some z1
  have e2 := KT.some z2
  have e3 := KT.some z3
  have e4 := KT.some z4
  have e5 := KT.some z5
  have hWl := lt_of_cell e0
  clear z0 z1 z2 z3 z4 z5 KT k2 o2
  go_wp2
  go_ret
  go_light
  have o2 := O2.out
  exact ⟨u2.heap.size, P0, rfl, by omega, by omega, ⟨by omega, ⟨0, 3, o2.frame ((Kept.but (by (go_light; repeat (first | (with_reducible exact Kept.refl _) | (with_reducible assumption) | (with_reducible refine Kept.alloc ?_ _ _) | (with_reducible refine Kept.drew ?_) | (with_reducible refine Kept.drewN ?_ _) | ((with_reducible refine Kept.setCell ?_ ?_ _); rotate_left; focus (first | (simp; done) | (simp; omega))) | refine Kept.trans ?_ (by assumption)))) (fun _ => False))) id, fun h => absurd rfl h⟩, ⟨3, ⟨by simp, by simp, by simp, by simp, by simp, by simp, by simp, by simp; rfl, by simp, by simp; rfl, by simp, fun i => by simp⟩, fun h => absurd rfl h, fun _ => rfl⟩⟩, Kept.trans K1.out (by (go_light; repeat (first | (with_reducible exact Kept.refl _) | (with_reducible assumption) | (with_reducible refine Kept.alloc ?_ _ _) | (with_reducible refine Kept.drew ?_) | (with_reducible refine Kept.drewN ?_ _) | ((with_reducible refine Kept.setCell ?_ ?_ _); rotate_left; focus (first | (simp; done) | (simp; omega))) | refine Kept.trans ?_ (by assumption))))⟩

set_option maxHeartbeats 1000000 in
theorem dnewFree_hi (A : Arn) (i : Int) (h0 : 0 ≤ i) (h1 : A.F.N ≤ i) (w : World) : Calls Tryz.prog 76 #[.agg #[.int .i64 A.F.T, .int .i64 A.F.K, .int .i64 A.F.N, .int .i64 A.G, .int .i64 A.V, .int .i64 A.L], .int .i64 i] w
    fun e w' => ∃ Q R, e = .returned (.pointer (some ⟨Q, 0, none⟩)) ∧ w.heap.size ≤ Q ∧ w.heap.size ≤ R ∧ DFreeAt w' Q R A i FOp.bad ∧ Kept w w' := by
  have HN := fun w => Lib.hid (rnewPush_out A.F i (by omega) w)
  go_enter Tryz.func76, Tryz.ntmps76
  go_wp2_with fail
  have z0 := cell_new w #[.int .i64 A.F.T, .int .i64 A.F.K, .int .i64 A.F.N, .int .i64 A.G, .int .i64 A.V, .int .i64 A.L] 25 w.heap.size 0 rfl
  have z1 := cell_new w #[.int .i64 A.F.T, .int .i64 A.F.K, .int .i64 A.F.N, .int .i64 A.G, .int .i64 A.V, .int .i64 A.L] 25 w.heap.size 1 rfl
  have z2 := cell_new w #[.int .i64 A.F.T, .int .i64 A.F.K, .int .i64 A.F.N, .int .i64 A.G, .int .i64 A.V, .int .i64 A.L] 25 w.heap.size 2 rfl
  have z3 := cell_new w #[.int .i64 A.F.T, .int .i64 A.F.K, .int .i64 A.F.N, .int .i64 A.G, .int .i64 A.V, .int .i64 A.L] 25 w.heap.size 3 rfl
  have z4 := cell_new w #[.int .i64 A.F.T, .int .i64 A.F.K, .int .i64 A.F.N, .int .i64 A.G, .int .i64 A.V, .int .i64 A.L] 25 w.heap.size 4 rfl
  have z5 := cell_new w #[.int .i64 A.F.T, .int .i64 A.F.K, .int .i64 A.F.N, .int .i64 A.G, .int .i64 A.V, .int .i64 A.L] 25 w.heap.size 5 rfl
  simp only [List.getElem?_toArray, List.getElem?_cons_zero, List.getElem?_cons_succ] at z0 z1 z2 z3 z4 z5
  have K0 : Hid (Kept w (w.alloc (.cells #[.int .i64 A.F.T, .int .i64 A.F.K, .int .i64 A.F.N, .int .i64 A.G, .int .i64 A.V, .int .i64 A.L] 25))) := Lib.hid ((Kept.refl w).alloc _ _)
  generalize w.heap.size = W at *
  generalize w.alloc (.cells #[.int .i64 A.F.T, .int .i64 A.F.K, .int .i64 A.F.N, .int .i64 A.G, .int .i64 A.V, .int .i64 A.L] 25) = v0 at *
  go_region_held3 (fun w' => w'.cell? ⟨W, 0, none⟩ = some (.int .i64 A.F.T) ∧ w'.cell? ⟨W, 1, none⟩ = some (.int .i64 A.F.K) ∧ w'.cell? ⟨W, 2, none⟩ = some (.int .i64 A.F.N) ∧ w'.cell? ⟨W, 3, none⟩ = some (.int .i64 A.G) ∧ w'.cell? ⟨W, 4, none⟩ = some (.int .i64 A.V) ∧ w'.cell? ⟨W, 5, none⟩ = some (.int .i64 A.L)) (first | (with_reducible exact ⟨KT.some z0, KT.some z1, KT.some z2, KT.some z3, KT.some z4, KT.some z5⟩) | go_keep)
    (first | (go_at_call 145; refine (HN _).out.mono ?_; rintro e u2 ⟨P0, rfl, y0, y1, o2, k2⟩; have y0 : v0.heap.size ≤ P0 := Nat.le_trans (Kept.size (by first | exact Kept.refl _ | exact (Kept.refl _).drew | exact (Kept.refl _).drewN _)) y0; have KT : Kept v0 u2 := Kept.trans (b := _) (by first | exact Kept.refl _ | exact (Kept.refl _).drew | exact (Kept.refl _).drewN _) k2))
  have hz := KT.size
  have hz0 := K0.out.size
  have hP0 := o2.lt
  have O2 := Lib.hid o2
  have K1 : Hid (Kept w u2) := Lib.hid (K0.out.trans KT)
  have e0 := KT.some z0
  have e1 := KT.some z1
  have e2 := KT.some z2
  have e3 := KT.some z3
  have e4 := KT.some z4
  have e5 := KT.some z5
  have hWl := lt_of_cell e0
  clear z0 z1 z2 z3 z4 z5 KT k2 o2
  go_wp2
  go_ret
  go_light
  have o2 := O2.out
  exact ⟨u2.heap.size, P0, rfl, by omega, by omega, ⟨by omega, ⟨0, 3, o2.frame ((Kept.but (by (go_light; repeat (first | (with_reducible exact Kept.refl _) | (with_reducible assumption) | (with_reducible refine Kept.alloc ?_ _ _) | (with_reducible refine Kept.drew ?_) | (with_reducible refine Kept.drewN ?_ _) | ((with_reducible refine Kept.setCell ?_ ?_ _); rotate_left; focus (first | (simp; done) | (simp; omega))) | refine Kept.trans ?_ (by assumption)))) (fun _ => False))) id, fun h => absurd rfl h⟩, ⟨3, ⟨by simp, by simp, by simp, by simp, by simp, by simp, by simp, by simp; rfl, by simp, by simp; rfl, by simp, fun i => by simp⟩, fun h => absurd rfl h, fun _ => rfl⟩⟩, Kept.trans K1.out (by (go_light; repeat (first | (with_reducible exact Kept.refl _) | (with_reducible assumption) | (with_reducible refine Kept.alloc ?_ _ _) | (with_reducible refine Kept.drew ?_) | (with_reducible refine Kept.drewN ?_ _) | ((with_reducible refine Kept.setCell ?_ ?_ _); rotate_left; focus (first | (simp; done) | (simp; omega))) | refine Kept.trans ?_ (by assumption))))⟩
end Go.Proofs.YtbonnfofoepjcaaGreat.Sk
