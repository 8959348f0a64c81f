/- StackAlone, walked. Written by gen10w.py. -/
import Derived.Test.YtmbdgaflmiacnaaG18
import Derived.Deep.DeepCutAuto
import Derived.Deep.CutBlock
set_option linter.unusedVariables false
set_option linter.unusedSimpArgs false

namespace Go.Proofs.Ytmbdgaflmiacnaa.Sk
set_option maxRecDepth 20000
open Go.RowKit
open Wo (St acc wordAt PMem RefIs)

theorem alone_big (size : Int) (a : Option Addr) (len cap : Nat) (w : World) (h : 200 < len) :
    Calls Try.prog 6 #[.int .i64 size, .slice a len cap] w fun e w' => e = .returned (.bool true) ∧ Kept w w' := by
  have h2 : (200 : Int) < len := by omega
  go_enter Try.func6, Try.ntmps6
  go_wp2_with fail
  refine (known_any _).mono ?_
  rintro e w1 ⟨rfl, k1⟩
  go_wp2
  go_ret
  exact ⟨rfl, k1⟩

set_option maxHeartbeats 1000000 in
theorem alone_any (size : Int) {a : Option Addr} {len cap : Nat} {f : Nat → Int} {w : World} (hr : Row w a len cap f) (hl : len ≤ 200) :
    Calls Try.prog 6 #[.int .i64 size, .slice a len cap] w fun e w' => e = .returned (.bool true) ∧ Kept w w' := by
  have h2 : (len : Int) ≤ 200 := by omega
  have HR := Lib.hid hr
  clear hr
  go_enter Try.func6, Try.ntmps6
  go_wp2_with fail
  refine (known_any _).mono ?_
  rintro e w1 ⟨rfl, k1⟩
  have K1 := Lib.hid k1
  clear k1
  go_wp2_with fail
  refine (Wo.pick_any size 12 (by omega) (by omega) _).mono ?_
  rintro e _ ⟨rfl, rfl⟩
  obtain ⟨q, hq⟩ : ∃ q, q = size % 12 := ⟨_, rfl⟩
  have q0 : 0 ≤ q := by omega
  have q1 : q < 12 := by omega
  rw [← hq]
  clear hq
  obtain ⟨S, hS1⟩ : ∃ S : Stk, S = ⟨0, 1, 1 + q⟩ := ⟨_, rfl⟩
  have hS : S.Ok 20 := by subst hS1; exact ⟨by omega, by omega, by show 1 ≤ 1 + q; omega, by show 1 + q ≤ 4096; omega, by show (0:Int) ≤ 0; omega, by show (0:Int) < 20; omega, by show (0:Int) ≤ 1; omega, by show 1 + (1 + q) ≤ 20; omega, .inl (by show (0:Int) < 1; omega)⟩
  go_wp2_with fail
  obtain ⟨W0, hW0⟩ : ∃ W0, w1.alloc (.cells #[.int .i64 0, .int .i64 1, .int .i64 (1 + q)] 23) = W0 := ⟨_, rfl⟩
  have z0 : W0.cell? ⟨w1.heap.size, 0, none⟩ = some (.int .i64 0) := by rw [← hW0]; exact cell_new _ _ _ _ 0 rfl
  have z1 : W0.cell? ⟨w1.heap.size, 1, none⟩ = some (.int .i64 1) := by rw [← hW0]; exact cell_new _ _ _ _ 1 rfl
  have z2 : W0.cell? ⟨w1.heap.size, 2, none⟩ = some (.int .i64 (1 + q)) := by rw [← hW0]; exact cell_new _ _ _ _ 2 rfl
  have K0 : Hid (Kept w W0) := Lib.hid (by rw [← hW0]; exact K1.out.alloc _ _)
  rw [hW0]
  obtain ⟨o, ho⟩ : ∃ o, w1.heap.size = o := ⟨_, rfl⟩
  rw [ho] at z0 z1 z2 ⊢
  clear hW0 ho
  have y0 := z0
  have y1 := z1
  have y2 := z2
  refine (p_new 20 (by omega) (by omega) _).mono ?_
  rintro e w2 ⟨rfl, m2, n2, k2⟩
  have z0 := k2.some z0
  have z1 := k2.some z1
  have z2 := k2.some z2
  have M2 := Lib.hid m2
  have K2 := Lib.hid k2
  have N2 := Lib.hid n2
  clear m2 k2 n2
  go_wp2_with fail
  have FL : ∀ W, Hid (PMem W (W0.heap.size + 1) W0.heap.size 20 Wo.St.zero → Calls Try.prog 17 #[.agg #[.int .i64 0, .int .i64 1, .int .i64 (1 + q)], .pointer (some ⟨W0.heap.size + 1, 0, none⟩)] W fun e w' => e = .returned (.tuple #[]) ∧ PMem w' (W0.heap.size + 1) W0.heap.size 20 (fillSt 20 S Wo.St.zero) ∧ But (fun k => k = W0.heap.size) W w') := fun W => Lib.hid (fun hm => by
    have k := p_fill _ _ 20 S Wo.St.zero W hm (by decide) (by decide) hS
    rw [hS1] at k ⊢
    exact k)
  refine ((FL _).out M2.out).mono ?_
  rintro e w3 ⟨rfl, m3, b3⟩
  have ol := Nat.lt_of_lt_of_le (lt_of_cell z0) (Nat.le_refl _)
  have k3 : Kept W0 w3 := ((K2.out.but (fun k => k = W0.heap.size)).trans b3 (fun _ _ h => h)).kept fun j hj e => by have e : j = W0.heap.size := e; omega
  have K3 := Lib.hid k3
  have M3 := Lib.hid m3
  have N3 : Hid (W0.heap.size + 2 ≤ w3.heap.size) := Lib.hid (by have := b3.size; have := N2.out; omega)
  have Z0 := Lib.hid (show W0.cell? _ = _ ∧ W0.cell? _ = _ ∧ W0.cell? _ = _ from ⟨y0, y1, y2⟩)
  clear k3 m3 b3 z0 z1 z2 ol y0 y1 y2
  obtain ⟨Z, hZ, hmk⟩ := make_cores
  have HZ := Lib.hid hZ
  clear hZ
  obtain ⟨ZI, hZI, hmi⟩ := make_ints 3 (by omega)
  have HZI := Lib.hid hZI
  clear hZI
  have hmi2 : ∀ w : World, (Instr.makeSlice 62 (.int .i64 3) (.int .i64 3)).run Try.prog w = .ok (.slice (some ⟨w.heap.size, 0, none⟩) 3 3) (w.alloc (.cells ZI 3)) := hmi
  clear hmi
  obtain ⟨R, hR⟩ : ∃ R, w3.heap.size = R := ⟨_, rfl⟩
  obtain ⟨w4, hw4⟩ : ∃ w4, w3.alloc (.cells Z 76) = w4 := ⟨_, rfl⟩
  have CR0 : Hid (∀ i j, i ≠ j → w4.heap.size ≤ i → w4.heap.size ≤ j → Crew W0 (fun k => if k = R then 1 else if k = W0.heap.size + 1 ∨ k = W0.heap.size then 0 else if k = i ∨ k = j then 4 else 3) w4 R (W0.heap.size + 1) W0.heap.size 20 S (fillSt 20 S Wo.St.zero) 0 (full S) cs0) := Lib.hid (by
    intro i j hij hi hj
    have n3 := N3.out
    have h4 : w3.heap.size < w4.heap.size := by rw [← hw4]; simp
    refine crew_start2 hS ?_ ?_ (by omega) (by omega) (by omega) (by omega) (by omega) (fun i => ?_) (fun c hc => ?_) (by omega) (by omega) (by omega) (by omega)
    · rw [← hw4]; exact pmem_kept M3.out ((Kept.refl _).alloc _ _)
    · rw [← hw4]; exact K3.out.alloc _ _
    · rw [← hw4, ← hR]; simp
    · obtain ⟨q0, q1, q2, q3, q4⟩ := HZ.out c hc
      rw [← hw4]
      exact ⟨by rw [cell_new _ _ _ _ _ hR.symm]; exact q0, by rw [cell_new _ _ _ _ _ hR.symm]; exact q1, by rw [cell_new _ _ _ _ _ hR.symm]; exact q2, by rw [cell_new _ _ _ _ _ hR.symm]; exact q3, by rw [cell_new _ _ _ _ _ hR.symm]; exact q4⟩)
  have h4 : Hid (W0.heap.size + 2 ≤ R ∧ R < w4.heap.size) := Lib.hid (by have := N3.out; rw [← hw4, ← hR]; simp; omega)
  have HX : Hid (∀ G H, G ≠ H → w4.heap.size ≤ G → w4.heap.size ≤ H → ∀ wx, Kept w4 wx → (∀ d, d ≤ 2 → wx.cell? ⟨G, d, none⟩ = some (.int .i64 0)) → (∀ d, d ≤ 2 → wx.cell? ⟨H, d, none⟩ = some (.int .i64 0)) → (∀ i, wx.frozen? ⟨G, i, none⟩ = false) → (∀ i, wx.frozen? ⟨H, i, none⟩ = false) →
      ∃ own, Crew W0 own wx R (W0.heap.size + 1) W0.heap.size 20 S (fillSt 20 S Wo.St.zero) 0 (full S) cs0 ∧ Ct own wx G H (fun _ => 0) (fun _ => 0) 0) := Lib.hid (by
    intro G H hGH hG hH wx kx cg ch fg fh
    have h4' := h4.out
    refine ⟨_, (CR0.out G H hGH hG hH).grow kx, cg, ch, fg, fh, ?_, ?_, hGH, fun _ _ => ⟨Int.le_refl _, Int.le_refl _⟩, fun _ _ => ⟨Int.le_refl _, Int.le_refl _⟩⟩
    · rw [if_neg (by omega), if_neg (by omega), if_pos (.inl rfl)]
    · rw [if_neg (by omega), if_neg (by omega), if_pos (.inr rfl)])
  go_upto_region 10 with fail
  clear hw4 hR hmk HZ N3 K3 M3 N2 K2 M2 FL CR0 h4
  obtain ⟨M, hM⟩ : ∃ M, W0.heap.size + 1 = M := ⟨_, rfl⟩
  obtain ⟨B, hB⟩ : ∃ B, W0.heap.size = B := ⟨_, rfl⟩
  rw [hM, hB] at HX
  rw [hM]
  have hcn : (fillSt 20 S Wo.St.zero).cnt ≤ 100 := by
    rw [fillSt_cnt hS.N1]
    have : S.N ≤ 12 := by rw [hS1]; show 1 + q ≤ 12; omega
    show (0 : Int) + 1 + S.N ≤ 100
    omega
  clear hM hB
  go_cut [10, 11] (fun g h wx => ∃ G H own, g = .slice (some ⟨G, 0, none⟩) 3 3 ∧ h = .slice (some ⟨H, 0, none⟩) 3 3 ∧ Crew W0 own wx R M B 20 S (fillSt 20 S Wo.St.zero) 0 (full S) cs0 ∧ Ct own wx G H (fun _ => 0) (fun _ => 0) 0)
  case first =>
    go_region_held3 (fun _ => True) (first | trivial) (fail)
    · go_wp2_with fail
      go_meet
      case rel =>
        have kx : Kept w4 ((w4.alloc (.cells ZI 3)).alloc (.cells ZI 3)).drew := (((Kept.refl w4).alloc _ _).alloc _ _).drew
        obtain ⟨own, c1, c2⟩ := HX.out w4.heap.size (w4.heap.size + 1) (by omega) (by omega) (by omega) _ kx (fun d hd => (((Kept.refl _).alloc _ _).drew).some (by rw [cell_new _ _ _ _ _ rfl]; exact HZI.out d (by omega))) (fun d hd => ((Kept.refl _).drew).some (by rw [cell_new _ _ _ _ _ (by simp)]; exact HZI.out d (by omega))) (fun i => by simp) (fun i => by simp)
        exact ⟨_, _, own, rfl, rfl, c1, c2⟩
    · go_wp2_with fail
      go_meet
      case rel =>
        have kx : Kept w4 ((w4.alloc (.cells ZI 3)).alloc (.cells ZI 3)).drew := (((Kept.refl w4).alloc _ _).alloc _ _).drew
        obtain ⟨own, c1, c2⟩ := HX.out (w4.heap.size + 1) w4.heap.size (by omega) (by omega) (by omega) _ kx (fun d hd => ((Kept.refl _).drew).some (by rw [cell_new _ _ _ _ _ (by simp)]; exact HZI.out d (by omega))) (fun d hd => (((Kept.refl _).alloc _ _).drew).some (by rw [cell_new _ _ _ _ _ rfl]; exact HZI.out d (by omega))) (fun i => by simp) (fun i => by simp)
        exact ⟨_, _, own, rfl, rfl, c1, c2⟩
  case rest =>
    obtain ⟨G, H, own0, rfl, rfl, cr0, ct0⟩ := hcut
    have CR0 := Lib.hid cr0
    have CT0 := Lib.hid ct0
    clear cr0 ct0 HX hmi2 HZI
    go_wp2
    go_loopw [12] (AloneRel W0 R M B G H 20 S len) (fun i _ => len - (intOf i).toNat)
    case atStart =>
      exact ⟨0, own0, _, 0, _, cs0, _, _, Nat.zero_le _, rfl, CR0.out, CT0.out, fun d hd => trivial, by omega, by omega, by omega⟩
    case round =>
      obtain ⟨k, own, s, t, ch, cs, md, ot, hk, rfl, hcr, hct, hal, t0, t1, hcnt⟩ := hrel
      have C1 := Lib.hid hcr
      have CT1 := Lib.hid hct
      have AL1 := Lib.hid hal
      by_cases hlt : k < len
      · obtain ⟨b, off, rfl, hcc⟩ : ∃ b off, a = some ⟨b, off, none⟩ ∧ ∀ i, i < len → w.cell? ⟨b, off + i, none⟩ = some (.int .i64 (f i)) := by
          rcases HR.out.2.2.2 with ⟨_, h, _⟩ | ⟨_, _, h⟩ | ⟨b, off, h, _, hc⟩
          · omega
          · omega
          · exact ⟨b, off, h, hc⟩
        have cl := hcr.kept.some (K0.out.some (hcc k hlt))
        clear hcc hcr hct hal
        go_wp2_with fail
        refine (Wo.pick_any (f k) 300 (by omega) (by omega) _).mono ?_
        rintro e _ ⟨rfl, rfl⟩
        obtain ⟨m, hm⟩ : ∃ m, m = f k % 300 := ⟨_, rfl⟩
        have m0 : 0 ≤ m := by omega
        have m1 : m < 300 := by omega
        rw [← hm]
        clear hm
        have tm3 : Int.tmod m 3 = m % 3 := Int.tmod_eq_emod_of_nonneg m0
        have td3 : Int.tdiv m 3 = m / 3 := Int.tdiv_eq_ediv_of_nonneg m0
        obtain ⟨c, hc⟩ : ∃ c : Nat, m % 3 = c := ⟨(m % 3).toNat, by omega⟩
        have hc2 : c ≤ 2 := by omega
        have hc3 : (c : Int) < 3 := by omega
        rw [hc] at tm3
        have d0 : 0 ≤ m / 3 := by omega
        have d1 : m / 3 < 300 := by omega
        clear hc
        have BS : ∀ own s t ch cs W, Hid (Crew W0 own W R M B 20 S s t ch cs → Calls Try.prog 28 #[.pointer (some ⟨R, c * 5, none⟩)] W fun e w' => e = .returned (.bool (cs c).k.busy) ∧ W = w') := fun own s t ch cs W => Lib.hid (fun k => by
          obtain ⟨P, a, cap, hh⟩ := k.core c hc2
          have kk := busy_any hh
          rw [Nat.mul_comm] at kk
          exact kk)
        go_wp2_with fail
        refine ((BS _ _ _ _ _ _).out C1.out).mono ?_
        rintro e _ ⟨rfl, rfl⟩
        cases hb : (cs c).k.busy with
        | true =>
          have STP : ∀ W, Hid (Kept wr W → Calls Try.prog 30 #[.pointer (some ⟨R, c * 5, none⟩), .agg #[.int .i64 0, .int .i64 1, .int .i64 (1 + q)], .pointer (some ⟨M, 0, none⟩)] W (Stepd W0 own W R M B 20 S s t cs c)) := fun W => Lib.hid (fun k => by
            have kk := crew_step (C1.out.grow k) hc2 hb t0 (by omega) (by omega)
            rw [hS1, Nat.mul_comm] at kk
            rw [hS1]
            exact kk)
          have z0 := C1.out.kept.some Z0.out.1
          have z1 := C1.out.kept.some Z0.out.2.1
          have z2 := C1.out.kept.some Z0.out.2.2
          go_upto_region 20 with fail
          go_region_held3 (fun w' => w'.cell? ⟨o, 0, none⟩ = some (.int .i64 0) ∧ w'.cell? ⟨o, 1, none⟩ = some (.int .i64 1) ∧ w'.cell? ⟨o, 2, none⟩ = some (.int .i64 (1 + q))) (first | go_keep | (with_reducible exact ⟨f0, f1, f2⟩)) (first
            | (go_at_call 30; (with_reducible refine ((STP _).out (by first | exact Kept.refl _ | exact (Kept.refl _).drew | exact (Kept.refl _).drewN _)).mono ?_); rintro e w7 ⟨rfl, own2, s2, t2, ch2, cr2, ⟨C2, MV⟩, ht0, ht1, hcn2, hst⟩; have f0 := C2.kept.some Z0.out.1; have f1 := C2.kept.some Z0.out.2.1; have f2 := C2.kept.some Z0.out.2.2; have CT7 := Lib.hid (Ct.moved (by first | exact CT1.out.kept (Kept.refl _) | exact CT1.out.kept (Kept.refl _).drew | exact CT1.out.kept ((Kept.refl _).drewN _)) MV)))
          rename_i hcells
          clear hcells
          have OTB : Hid (∀ d, d ≤ 2 → ot d ≤ k) := Lib.hid (fun d hd => (CT1.out.o0 d hd).2)
          obtain ⟨a1, a2, _, a4⟩ := alone_crew hS C1.out.inv hc2 AL1.out hst
          have C3 := Lib.hid C2
          have A2 := Lib.hid a2
          have A4 := Lib.hid a4
          clear C2 f0 f1 f2 z0 z1 z2 STP a2 a4
          have k3 : k < 300 := by omega
          have gc := CT7.out.g c hc2
          have gh := CT7.out.h c hc2
          have gb := CT7.out.m0 c hc2
          have hb2 := CT7.out.o0 c hc2
          have gf := CT7.out.gf
          have hf := CT7.out.hf
          have gl := CT7.out.lt.1
          have gne := CT7.out.ne
          obtain ⟨x, hx⟩ : ∃ x, x = md c := ⟨_, rfl⟩
          obtain ⟨y, hy⟩ : ∃ y, y = ot c := ⟨_, rfl⟩
          rw [← hx] at gc gb a1
          rw [← hy] at gh hb2 a1
          have x0 := gb.1
          have x1 := gb.2
          have y0 := hb2.1
          have y1 := hb2.2
          have x2 : x ≤ 300 := by omega
          have y2 : y ≤ 300 := by omega
          have nle : ¬ 3 * y + 3 < x + 1 := by omega
          have HXE := Lib.hid hx
          have HYE := Lib.hid hy
          clear hx hy gb hb2
          go_upto_region 22 with fail
          obtain ⟨w8, hw8⟩ : ∃ w8, w8 = w7.setCell ⟨G, c, none⟩ (.int .i64 (x + 1)) := ⟨_, rfl⟩
          have CT8 : Hid (Ct own2 w8 G H (put1 md c (x + 1)) ot ((k : Int) + 1)) := Lib.hid (by rw [hw8]; exact CT7.out.setG hc2 (x + 1) (by omega) (by omega) (by omega))
          have C8 : Hid (Crew W0 own2 w8 R M B 20 S s2 t2 ch2 (putC cs c cr2)) := Lib.hid (by rw [hw8]; exact C3.out.other ((But.refl (fun k => k = G) w7).here _ _) (fun k e => by rw [show k = G from e]; exact CT7.out.oG))
          rw [← hw8]
          clear hw8 gc gh gf hf gl CT7 C3
          have gc := CT8.out.g c hc2
          have gh := CT8.out.h c hc2
          rw [put1_at] at gc
          rw [← HYE.out] at gh
          go_quiet (fail)
          go_wp2
          go_loopw [15] (TellRel W0 own2 R M B G H 20 S s2 t2 ch2 (putC cs c cr2) (put1 md c (x + 1)) ot c ((k : Int) + 1)) (fun i _ => 3 - (intOf i).toNat)
          case atStart =>
            refine ⟨0, by omega, rfl, C8.out.grow (by first | exact Kept.refl _ | exact (Kept.refl _).drew | exact (Kept.refl _).drewN _), ?_⟩
            rw [show (fun d => if d < 0 ∧ d ≠ c then ot d + hit s2 else ot d) = ot from funext fun d => by rw [if_neg (fun h => absurd h.1 (Nat.not_lt_zero _))]]
            exact CT8.out.kept (by first | exact Kept.refl _ | exact (Kept.refl _).drew | exact (Kept.refl _).drewN _)
          case round =>
            obtain ⟨j, hj, rfl, tc, tt⟩ := hrel
            have TC := Lib.hid tc
            have TT := Lib.hid tt
            clear tc tt
            by_cases hlj : j < 3
            · have t3 : (j : Int) < 3 := by omega
              have fk : ∀ a b c d e W, (Instr.field 82 (.agg #[a, b, c, d, e]) 0).run Try.prog W = .ok a W := fun _ _ _ _ _ _ => rfl
              have fh : ∀ a b c d e W, (Instr.field 82 (.agg #[a, b, c, d, e]) 4).run Try.prog W = .ok e W := fun _ _ _ _ _ _ => rfl
              have LST : ∀ W, Hid (Kept wr W → Calls Try.prog 32 #[.pointer (some ⟨M, 0, none⟩)] W fun e w' => e = .returned (.agg #[.int .i64 s2.kind, .int .i64 s2.at_, .int .u64 s2.old, .int .u64 s2.new, .bool s2.held]) ∧ Kept W w') := fun W => Lib.hid (fun k => p_last M B 20 s2 _ (TC.out.grow k).mem)
              have j4 : j < 4 := by omega
              by_cases hjc : j = c
              · have hjc2 : (j : Int) = c := by omega
                go_wp2
                go_roundw
                case rel =>
                  have MM : TellRel W0 own2 R M B G H 20 S s2 t2 ch2 (putC cs c cr2) (put1 md c (x + 1)) ot c ((k : Int) + 1) (.int .i64 ((c : Int) + 1)) wr := by
                    refine ⟨j + 1, by omega, by rw [Int.natCast_add, hjc2]; rfl, TC.out, ?_⟩
                    have h2 := TT.out
                    rw [show (fun d => if d < j + 1 ∧ d ≠ c then ot d + hit s2 else ot d) = (fun d => if d < j ∧ d ≠ c then ot d + hit s2 else ot d) from funext fun d => by
                      by_cases e : d = c
                      · rw [if_neg (fun h => h.2 e), if_neg (fun h => h.2 e)]
                      · by_cases e2 : d < j
                        · rw [if_pos ⟨by omega, e⟩, if_pos ⟨e2, e⟩]
                        · rw [if_neg (fun h => by have := h.1; omega), if_neg (fun h => e2 h.1)]]
                    exact h2
                  first | exact MM | ((repeat apply Exists.intro); (exact ⟨MM, rfl⟩); all_goals exact Value.bool true)
                case measure => simp [intOf]; omega
              · have hjc2 : ¬ (j : Int) = c := by omega
                by_cases hkd : s2.kind = 3
                · cases hhd : s2.held with
                  | true =>
                    rw [hkd, hhd] at LST
                    go_wp2_with fail
                    refine ((LST _).out (Kept.refl _)).mono ?_
                    rintro e w9 ⟨rfl, KT⟩
                    go_wp2_with fail
                    go_at_call 32
                    refine ((LST _).out KT).mono ?_
                    rintro e w10 ⟨rfl, k10⟩
                    have KU := KT.trans k10
                    have TC2 := Lib.hid (TC.out.grow KU)
                    have TT2 := Lib.hid (TT.out.kept KU)
                    have hh := TT2.out.h j (by omega)
                    have hbd := TT2.out.o0 j (by omega)
                    have hl2 := TT2.out.lt.2
                    have hff := TT2.out.hf
                    try dsimp only at hh hbd
                    rw [if_neg (fun h => absurd h.1 (by omega))] at hh hbd
                    obtain ⟨v, hv⟩ : ∃ v, v = ot j := ⟨_, rfl⟩
                    rw [← hv] at hh hbd
                    have hv0 := hbd.1
                    have hv1 := hbd.2
                    have hv2 : v ≤ 300 := by omega
                    have hv3 : v ≤ k := by rw [hv]; exact OTB.out j (by omega)
                    have HV := Lib.hid hv
                    clear hv
                    clear KT KU k10 hbd
                    go_wp2
                    go_roundw
                    case rel =>
                      have MM : TellRel W0 own2 R M B G H 20 S s2 t2 ch2 (putC cs c cr2) (put1 md c (x + 1)) ot c ((k : Int) + 1) (.int .i64 ((j : Int) + 1)) (w10.setCell ⟨H, j, none⟩ (.int .i64 (v + 1))) := by
                        refine ⟨j + 1, by omega, by rw [Int.natCast_add]; rfl, TC2.out.other ((But.refl (fun k => k = H) w10).here _ _) (fun k e => by rw [show k = H from e]; exact TT2.out.oH), ?_⟩
                        have h2 := TT2.out.setH (show j ≤ 2 by omega) (v + 1) (by omega) (show v + 1 ≤ (k : Int) + 1 from by omega) (Int.le_refl _)
                        rw [show (fun d => if d < j + 1 ∧ d ≠ c then ot d + hit s2 else ot d) = put1 (fun d => if d < j ∧ d ≠ c then ot d + hit s2 else ot d) j (v + 1) from funext fun d => by
                          unfold put1
                          by_cases e : d = j
                          · subst e
                            rw [if_pos ⟨by omega, hjc⟩, if_pos rfl, HV.out]
                            unfold hit
                            rw [if_pos ⟨hkd, hhd⟩]
                          · rw [if_neg e]
                            dsimp only
                            by_cases e2 : d < j ∧ d ≠ c
                            · rw [if_pos ⟨by omega, e2.2⟩, if_pos e2]
                            · rw [if_neg e2, if_neg (fun h => e2 ⟨by omega, h.2⟩)]]
                        exact h2
                      first | exact MM | ((repeat apply Exists.intro); (exact ⟨MM, rfl⟩); all_goals exact Value.bool true)
                    case measure => simp [intOf]; omega
                  | false =>
                    rw [hkd, hhd] at LST
                    go_wp2_with fail
                    refine ((LST _).out (Kept.refl _)).mono ?_
                    rintro e w9 ⟨rfl, KT⟩
                    go_wp2_with fail
                    go_at_call 32
                    refine ((LST _).out KT).mono ?_
                    rintro e w10 ⟨rfl, k10⟩
                    have KU := KT.trans k10
                    go_wp2
                    go_roundw
                    case rel =>
                      have MM : TellRel W0 own2 R M B G H 20 S s2 t2 ch2 (putC cs c cr2) (put1 md c (x + 1)) ot c ((k : Int) + 1) (.int .i64 ((j : Int) + 1)) w10 := by
                        refine ⟨j + 1, by omega, by rw [Int.natCast_add]; rfl, TC.out.grow KU, ?_⟩
                        have h2 := TT.out.kept KU
                        have h0 : hit s2 = 0 := by unfold hit; exact if_neg (fun h => by rw [hhd] at h; exact absurd h.2 (by simp))
                        rw [show (fun d => if d < j + 1 ∧ d ≠ c then ot d + hit s2 else ot d) = (fun d => if d < j ∧ d ≠ c then ot d + hit s2 else ot d) from funext fun d => by rw [h0]; simp]
                        exact h2
                      first | exact MM | ((repeat apply Exists.intro); (exact ⟨MM, rfl⟩); all_goals exact Value.bool true)
                    case measure => simp [intOf]; omega
                · have hkd2 : (s2.kind == 3) = false := by simpa using hkd
                  go_wp2_with fail
                  refine ((LST _).out (Kept.refl _)).mono ?_
                  rintro e w9 ⟨rfl, KT⟩
                  go_wp2
                  go_roundw
                  case rel =>
                    have MM : TellRel W0 own2 R M B G H 20 S s2 t2 ch2 (putC cs c cr2) (put1 md c (x + 1)) ot c ((k : Int) + 1) (.int .i64 ((j : Int) + 1)) w9 := by
                      refine ⟨j + 1, by omega, by rw [Int.natCast_add]; rfl, TC.out.grow KT, ?_⟩
                      have h2 := TT.out.kept KT
                      have h0 : hit s2 = 0 := by unfold hit; exact if_neg (fun h => hkd h.1)
                      rw [show (fun d => if d < j + 1 ∧ d ≠ c then ot d + hit s2 else ot d) = (fun d => if d < j ∧ d ≠ c then ot d + hit s2 else ot d) from funext fun d => by rw [h0]; simp]
                      exact h2
                    first | exact MM | ((repeat apply Exists.intro); (exact ⟨MM, rfl⟩); all_goals exact Value.bool true)
                  case measure => simp [intOf]; omega
            · obtain rfl : j = 3 := by omega
              go_wp2
              go_roundw
              case rel =>
                refine ⟨k + 1, own2, s2, t2, ch2, _, _, _, by omega, by rw [Int.natCast_add]; rfl, TC.out, TT.out, fun d hd => ?_, by omega, by omega, by omega⟩
                try dsimp only
                by_cases e : d = c
                · subst e
                  rw [putC_at, put1_at, if_neg (fun h => h.2 rfl), HXE.out]
                  exact A2.out
                · rw [putC_ne e, put1_ne e, if_pos ⟨by omega, e⟩]
                  exact A4.out d hd
              case measure => simp [intOf]; omega
        | false =>
          have z0 := C1.out.kept.some Z0.out.1
          have z1 := C1.out.kept.some Z0.out.2.1
          have z2 := C1.out.kept.some Z0.out.2.2
          have BGN : ∀ W, Hid (Kept wr W → Calls Try.prog 29 #[.pointer (some ⟨R, c * 5, none⟩), .agg #[.int .i64 0, .int .i64 1, .int .i64 (1 + q)], .int .i64 (IntKind.i64.wrap (m / 3))] W (Begund W0 own W R M B 20 S s t ch cs c)) := fun W => Lib.hid (fun k => by
            rw [show IntKind.i64.wrap (m / 3) = m / 3 from by rw [IntKind.wrap_i64]; omega]
            have kk := crew_begin (C1.out.grow k) hc2 hb (m / 3) d0 d1 (by omega)
            rw [hS1, Nat.mul_comm] at kk
            rw [hS1]
            exact kk)
          go_upto_region 17 with fail
          go_region_held3 (fun w' => w'.cell? ⟨o, 0, none⟩ = some (.int .i64 0) ∧ w'.cell? ⟨o, 1, none⟩ = some (.int .i64 1) ∧ w'.cell? ⟨o, 2, none⟩ = some (.int .i64 (1 + q))) (first | go_keep | (with_reducible exact ⟨f0, f1, f2⟩)) (first
            | (go_at_call 29; (with_reducible refine ((BGN _).out (by first | exact Kept.refl _ | exact (Kept.refl _).drew | exact (Kept.refl _).drewN _)).mono ?_); rintro e w6 ⟨rfl, own1, cr1, ⟨C6, MV⟩, hfresh⟩; have f0 := C6.kept.some Z0.out.1; have f1 := C6.kept.some Z0.out.2.1; have f2 := C6.kept.some Z0.out.2.2; have CT6 := Lib.hid (Ct.moved (by first | exact CT1.out.kept (Kept.refl _) | exact CT1.out.kept (Kept.refl _).drew | exact CT1.out.kept ((Kept.refl _).drewN _)) MV)))
          rename_i hcells
          clear hcells
          have C6 := Lib.hid C6
          clear f0 f1 f2 z0 z1 z2 BGN MV
          obtain ⟨mw, hmw⟩ : ∃ mw, mw = IntKind.i64.wrap (m / 3) := ⟨_, rfl⟩
          try rw [← hmw]
          clear hmw
          have hb1 : (putC cs c cr1 c).k.busy = true := by
            rw [putC_at]
            rcases hfresh with e | e | e <;> rw [e] <;> rfl
          have gc := CT6.out.g c hc2
          have gh := CT6.out.h c hc2
          have gf := CT6.out.gf
          have hf := CT6.out.hf
          have gl := CT6.out.lt.1
          have gl2 := CT6.out.lt.2
          have gne := CT6.out.ne
          go_upto_region 20 with fail
          obtain ⟨u6, hu6⟩ : ∃ u6, u6 = (w6.setCell ⟨G, c, none⟩ (.int .i64 0)).setCell ⟨H, c, none⟩ (.int .i64 0) := ⟨_, rfl⟩
          have CT9 : Hid (Ct own1 u6 G H (put1 md c 0) (put1 ot c 0) k) := Lib.hid (by rw [hu6]; exact (CT6.out.setG hc2 0 (by omega) (by omega) (Int.le_refl _)).setH hc2 0 (by omega) (by omega) (Int.le_refl _))
          have C9 : Hid (Crew W0 own1 u6 R M B 20 S s t ch (putC cs c cr1)) := Lib.hid (by rw [hu6]; exact (C6.out.other ((But.refl (fun k => k = G) w6).here _ _) (fun k e => by rw [show k = G from e]; exact CT6.out.oG)).other ((But.refl (fun k => k = H) _).here _ _) (fun k e => by rw [show k = H from e]; exact CT6.out.oH))
          have AL9 : Hid (∀ d, d ≤ 2 → (putC cs c cr1 d).Al S s.ws (put1 md c 0 d) (put1 ot c 0 d)) := Lib.hid (fun d hd => by
            by_cases e : d = c
            · subst e; rw [putC_at, put1_at, put1_at]; exact fresh_al S _ hfresh
            · rw [putC_ne e, put1_ne e, put1_ne e]; exact AL1.out d hd)
          rw [← hu6]
          clear hu6 gc gh gf hf gl gl2 gne CT6 C6
          obtain ⟨mdX, hmd⟩ : ∃ f, f = put1 md c 0 := ⟨_, rfl⟩
          obtain ⟨otX, hot⟩ : ∃ f, f = put1 ot c 0 := ⟨_, rfl⟩
          obtain ⟨csX, hcs⟩ : ∃ f, f = putC cs c cr1 := ⟨_, rfl⟩
          rw [← hmd, ← hot] at CT9
          rw [← hmd, ← hot, ← hcs] at AL9
          rw [← hcs] at C9 hb1
          clear hmd hot hcs
          have STP : ∀ W, Hid (Kept u6 W → Calls Try.prog 30 #[.pointer (some ⟨R, c * 5, none⟩), .agg #[.int .i64 0, .int .i64 1, .int .i64 (1 + q)], .pointer (some ⟨M, 0, none⟩)] W (Stepd W0 own1 W R M B 20 S s t csX c)) := fun W => Lib.hid (fun k => by
            have kk := crew_step (C9.out.grow k) hc2 hb1 t0 (by omega) (by omega)
            rw [hS1, Nat.mul_comm] at kk
            rw [hS1]
            exact kk)
          have z0 := C9.out.kept.some Z0.out.1
          have z1 := C9.out.kept.some Z0.out.2.1
          have z2 := C9.out.kept.some Z0.out.2.2
          go_upto_region 20 with fail
          go_region_held3 (fun w' => w'.cell? ⟨o, 0, none⟩ = some (.int .i64 0) ∧ w'.cell? ⟨o, 1, none⟩ = some (.int .i64 1) ∧ w'.cell? ⟨o, 2, none⟩ = some (.int .i64 (1 + q))) (first | go_keep | (with_reducible exact ⟨f0, f1, f2⟩)) (first
            | (go_at_call 30; (with_reducible refine ((STP _).out (by first | exact Kept.refl _ | exact (Kept.refl _).drew | exact (Kept.refl _).drewN _)).mono ?_); rintro e w7 ⟨rfl, own2, s2, t2, ch2, cr2, ⟨C2, MV⟩, ht0, ht1, hcn2, hst⟩; have f0 := C2.kept.some Z0.out.1; have f1 := C2.kept.some Z0.out.2.1; have f2 := C2.kept.some Z0.out.2.2; have CT7 := Lib.hid (Ct.moved (by first | exact CT9.out.kept (Kept.refl _) | exact CT9.out.kept (Kept.refl _).drew | exact CT9.out.kept ((Kept.refl _).drewN _)) MV)))
          rename_i hcells
          clear hcells
          have OTB : Hid (∀ d, d ≤ 2 → otX d ≤ k) := Lib.hid (fun d hd => (CT9.out.o0 d hd).2)
          obtain ⟨a1, a2, _, a4⟩ := alone_crew hS C9.out.inv hc2 AL9.out hst
          have C3 := Lib.hid C2
          have A2 := Lib.hid a2
          have A4 := Lib.hid a4
          clear C2 f0 f1 f2 z0 z1 z2 STP a2 a4
          have k3 : k < 300 := by omega
          have gc := CT7.out.g c hc2
          have gh := CT7.out.h c hc2
          have gb := CT7.out.m0 c hc2
          have hb2 := CT7.out.o0 c hc2
          have gf := CT7.out.gf
          have hf := CT7.out.hf
          have gl := CT7.out.lt.1
          have gne := CT7.out.ne
          obtain ⟨x, hx⟩ : ∃ x, x = mdX c := ⟨_, rfl⟩
          obtain ⟨y, hy⟩ : ∃ y, y = otX c := ⟨_, rfl⟩
          rw [← hx] at gc gb a1
          rw [← hy] at gh hb2 a1
          have x0 := gb.1
          have x1 := gb.2
          have y0 := hb2.1
          have y1 := hb2.2
          have x2 : x ≤ 300 := by omega
          have y2 : y ≤ 300 := by omega
          have nle : ¬ 3 * y + 3 < x + 1 := by omega
          have HXE := Lib.hid hx
          have HYE := Lib.hid hy
          clear hx hy gb hb2
          go_upto_region 22 with fail
          obtain ⟨w8, hw8⟩ : ∃ w8, w8 = w7.setCell ⟨G, c, none⟩ (.int .i64 (x + 1)) := ⟨_, rfl⟩
          have CT8 : Hid (Ct own2 w8 G H (put1 mdX c (x + 1)) otX ((k : Int) + 1)) := Lib.hid (by rw [hw8]; exact CT7.out.setG hc2 (x + 1) (by omega) (by omega) (by omega))
          have C8 : Hid (Crew W0 own2 w8 R M B 20 S s2 t2 ch2 (putC csX c cr2)) := Lib.hid (by rw [hw8]; exact C3.out.other ((But.refl (fun k => k = G) w7).here _ _) (fun k e => by rw [show k = G from e]; exact CT7.out.oG))
          rw [← hw8]
          clear hw8 gc gh gf hf gl CT7 C3
          have gc := CT8.out.g c hc2
          have gh := CT8.out.h c hc2
          rw [put1_at] at gc
          rw [← HYE.out] at gh
          go_quiet (fail)
          go_wp2
          go_loopw [15] (TellRel W0 own2 R M B G H 20 S s2 t2 ch2 (putC csX c cr2) (put1 mdX c (x + 1)) otX c ((k : Int) + 1)) (fun i _ => 3 - (intOf i).toNat)
          case atStart =>
            refine ⟨0, by omega, rfl, C8.out.grow (by first | exact Kept.refl _ | exact (Kept.refl _).drew | exact (Kept.refl _).drewN _), ?_⟩
            rw [show (fun d => if d < 0 ∧ d ≠ c then otX d + hit s2 else otX d) = otX from funext fun d => by rw [if_neg (fun h => absurd h.1 (Nat.not_lt_zero _))]]
            exact CT8.out.kept (by first | exact Kept.refl _ | exact (Kept.refl _).drew | exact (Kept.refl _).drewN _)
          case round =>
            obtain ⟨j, hj, rfl, tc, tt⟩ := hrel
            have TC := Lib.hid tc
            have TT := Lib.hid tt
            clear tc tt
            by_cases hlj : j < 3
            · have t3 : (j : Int) < 3 := by omega
              have fk : ∀ a b c d e W, (Instr.field 82 (.agg #[a, b, c, d, e]) 0).run Try.prog W = .ok a W := fun _ _ _ _ _ _ => rfl
              have fh : ∀ a b c d e W, (Instr.field 82 (.agg #[a, b, c, d, e]) 4).run Try.prog W = .ok e W := fun _ _ _ _ _ _ => rfl
              have LST : ∀ W, Hid (Kept wr W → Calls Try.prog 32 #[.pointer (some ⟨M, 0, none⟩)] W fun e w' => e = .returned (.agg #[.int .i64 s2.kind, .int .i64 s2.at_, .int .u64 s2.old, .int .u64 s2.new, .bool s2.held]) ∧ Kept W w') := fun W => Lib.hid (fun k => p_last M B 20 s2 _ (TC.out.grow k).mem)
              have j4 : j < 4 := by omega
              by_cases hjc : j = c
              · have hjc2 : (j : Int) = c := by omega
                go_wp2
                go_roundw
                case rel =>
                  have MM : TellRel W0 own2 R M B G H 20 S s2 t2 ch2 (putC csX c cr2) (put1 mdX c (x + 1)) otX c ((k : Int) + 1) (.int .i64 ((c : Int) + 1)) wr := by
                    refine ⟨j + 1, by omega, by rw [Int.natCast_add, hjc2]; rfl, TC.out, ?_⟩
                    have h2 := TT.out
                    rw [show (fun d => if d < j + 1 ∧ d ≠ c then otX d + hit s2 else otX d) = (fun d => if d < j ∧ d ≠ c then otX d + hit s2 else otX d) from funext fun d => by
                      by_cases e : d = c
                      · rw [if_neg (fun h => h.2 e), if_neg (fun h => h.2 e)]
                      · by_cases e2 : d < j
                        · rw [if_pos ⟨by omega, e⟩, if_pos ⟨e2, e⟩]
                        · rw [if_neg (fun h => by have := h.1; omega), if_neg (fun h => e2 h.1)]]
                    exact h2
                  first | exact MM | ((repeat apply Exists.intro); (exact ⟨MM, rfl⟩); all_goals exact Value.bool true)
                case measure => simp [intOf]; omega
              · have hjc2 : ¬ (j : Int) = c := by omega
                by_cases hkd : s2.kind = 3
                · cases hhd : s2.held with
                  | true =>
                    rw [hkd, hhd] at LST
                    go_wp2_with fail
                    refine ((LST _).out (Kept.refl _)).mono ?_
                    rintro e w9 ⟨rfl, KT⟩
                    go_wp2_with fail
                    go_at_call 32
                    refine ((LST _).out KT).mono ?_
                    rintro e w10 ⟨rfl, k10⟩
                    have KU := KT.trans k10
                    have TC2 := Lib.hid (TC.out.grow KU)
                    have TT2 := Lib.hid (TT.out.kept KU)
                    have hh := TT2.out.h j (by omega)
                    have hbd := TT2.out.o0 j (by omega)
                    have hl2 := TT2.out.lt.2
                    have hff := TT2.out.hf
                    try dsimp only at hh hbd
                    rw [if_neg (fun h => absurd h.1 (by omega))] at hh hbd
                    obtain ⟨v, hv⟩ : ∃ v, v = otX j := ⟨_, rfl⟩
                    rw [← hv] at hh hbd
                    have hv0 := hbd.1
                    have hv1 := hbd.2
                    have hv2 : v ≤ 300 := by omega
                    have hv3 : v ≤ k := by rw [hv]; exact OTB.out j (by omega)
                    have HV := Lib.hid hv
                    clear hv
                    clear KT KU k10 hbd
                    go_wp2
                    go_roundw
                    case rel =>
                      have MM : TellRel W0 own2 R M B G H 20 S s2 t2 ch2 (putC csX c cr2) (put1 mdX c (x + 1)) otX c ((k : Int) + 1) (.int .i64 ((j : Int) + 1)) (w10.setCell ⟨H, j, none⟩ (.int .i64 (v + 1))) := by
                        refine ⟨j + 1, by omega, by rw [Int.natCast_add]; rfl, TC2.out.other ((But.refl (fun k => k = H) w10).here _ _) (fun k e => by rw [show k = H from e]; exact TT2.out.oH), ?_⟩
                        have h2 := TT2.out.setH (show j ≤ 2 by omega) (v + 1) (by omega) (show v + 1 ≤ (k : Int) + 1 from by omega) (Int.le_refl _)
                        rw [show (fun d => if d < j + 1 ∧ d ≠ c then otX d + hit s2 else otX d) = put1 (fun d => if d < j ∧ d ≠ c then otX d + hit s2 else otX d) j (v + 1) from funext fun d => by
                          unfold put1
                          by_cases e : d = j
                          · subst e
                            rw [if_pos ⟨by omega, hjc⟩, if_pos rfl, HV.out]
                            unfold hit
                            rw [if_pos ⟨hkd, hhd⟩]
                          · rw [if_neg e]
                            dsimp only
                            by_cases e2 : d < j ∧ d ≠ c
                            · rw [if_pos ⟨by omega, e2.2⟩, if_pos e2]
                            · rw [if_neg e2, if_neg (fun h => e2 ⟨by omega, h.2⟩)]]
                        exact h2
                      first | exact MM | ((repeat apply Exists.intro); (exact ⟨MM, rfl⟩); all_goals exact Value.bool true)
                    case measure => simp [intOf]; omega
                  | false =>
                    rw [hkd, hhd] at LST
                    go_wp2_with fail
                    refine ((LST _).out (Kept.refl _)).mono ?_
                    rintro e w9 ⟨rfl, KT⟩
                    go_wp2_with fail
                    go_at_call 32
                    refine ((LST _).out KT).mono ?_
                    rintro e w10 ⟨rfl, k10⟩
                    have KU := KT.trans k10
                    go_wp2
                    go_roundw
                    case rel =>
                      have MM : TellRel W0 own2 R M B G H 20 S s2 t2 ch2 (putC csX c cr2) (put1 mdX c (x + 1)) otX c ((k : Int) + 1) (.int .i64 ((j : Int) + 1)) w10 := by
                        refine ⟨j + 1, by omega, by rw [Int.natCast_add]; rfl, TC.out.grow KU, ?_⟩
                        have h2 := TT.out.kept KU
                        have h0 : hit s2 = 0 := by unfold hit; exact if_neg (fun h => by rw [hhd] at h; exact absurd h.2 (by simp))
                        rw [show (fun d => if d < j + 1 ∧ d ≠ c then otX d + hit s2 else otX d) = (fun d => if d < j ∧ d ≠ c then otX d + hit s2 else otX d) from funext fun d => by rw [h0]; simp]
                        exact h2
                      first | exact MM | ((repeat apply Exists.intro); (exact ⟨MM, rfl⟩); all_goals exact Value.bool true)
                    case measure => simp [intOf]; omega
                · have hkd2 : (s2.kind == 3) = false := by simpa using hkd
                  go_wp2_with fail
                  refine ((LST _).out (Kept.refl _)).mono ?_
                  rintro e w9 ⟨rfl, KT⟩
                  go_wp2
                  go_roundw
                  case rel =>
                    have MM : TellRel W0 own2 R M B G H 20 S s2 t2 ch2 (putC csX c cr2) (put1 mdX c (x + 1)) otX c ((k : Int) + 1) (.int .i64 ((j : Int) + 1)) w9 := by
                      refine ⟨j + 1, by omega, by rw [Int.natCast_add]; rfl, TC.out.grow KT, ?_⟩
                      have h2 := TT.out.kept KT
                      have h0 : hit s2 = 0 := by unfold hit; exact if_neg (fun h => hkd h.1)
                      rw [show (fun d => if d < j + 1 ∧ d ≠ c then otX d + hit s2 else otX d) = (fun d => if d < j ∧ d ≠ c then otX d + hit s2 else otX d) from funext fun d => by rw [h0]; simp]
                      exact h2
                    first | exact MM | ((repeat apply Exists.intro); (exact ⟨MM, rfl⟩); all_goals exact Value.bool true)
                  case measure => simp [intOf]; omega
            · obtain rfl : j = 3 := by omega
              go_wp2
              go_roundw
              case rel =>
                refine ⟨k + 1, own2, s2, t2, ch2, _, _, _, by omega, by rw [Int.natCast_add]; rfl, TC.out, TT.out, fun d hd => ?_, by omega, by omega, by omega⟩
                try dsimp only
                by_cases e : d = c
                · subst e
                  rw [putC_at, put1_at, if_neg (fun h => h.2 rfl), HXE.out]
                  exact A2.out
                · rw [putC_ne e, put1_ne e, if_pos ⟨by omega, e⟩]
                  exact A4.out d hd
              case measure => simp [intOf]; omega
      · obtain rfl : k = len := by omega
        obtain ⟨wo, rfl⟩ : ∃ wo : World, wo = wr := ⟨_, rfl⟩
        clear hcr hct hal
        go_wp2
        go_loopw [16] (RestRel W0 R M B 20 S) (fun i _ => 3 - (intOf i).toNat)
        case atStart =>
          exact ⟨0, own, s, t, ch, cs, md, ot, by omega, rfl, C1.out, AL1.out, t0, by omega, by omega⟩
        case round =>
          obtain ⟨j, own1, s1, ta, ch1, cs1, md1, ot1, hj, rfl, hcr, hal, u0, u1, un⟩ := hrel
          by_cases hlj : j < 3
          · obtain ⟨wq, rfl⟩ : ∃ wq : World, wq = wr := ⟨_, rfl⟩
            have CA := Lib.hid hcr
            have AA := Lib.hid hal
            have RK := Lib.hid (rnk_le hcr.inv (c := j) (by omega))
            have hj3 : (j : Int) < 3 := by omega
            have BS : ∀ own s t ch cs W, Hid (Crew W0 own W R M B 20 S s t ch cs → Calls Try.prog 28 #[.pointer (some ⟨R, j * 5, none⟩)] W fun e w' => e = .returned (.bool (cs j).k.busy) ∧ W = w') := fun own s t ch cs W => Lib.hid (fun k => by
              obtain ⟨P, a, cap, hh⟩ := k.core j (by omega)
              have kk := busy_any hh
              rw [Nat.mul_comm] at kk
              exact kk)
            clear hcr hal
            go_wp2
            go_loopw [17] (OneRel W0 R M B 20 S j) (fun i _ => 5 - (intOf i).toNat)
            case atStart =>
              exact ⟨0, own1, s1, ta, ch1, cs1, md1, ot1, by omega, rfl, CA.out, AA.out, u0, by omega, by omega, fun _ => RK.out⟩
            case round =>
              obtain ⟨i, own2, s2, t2, ch2, cs2, md2, ot2, hi, rfl, hcr, hal, v0, v1, vn, hrk⟩ := hrel
              have C2 := Lib.hid hcr
              have A2 := Lib.hid hal
              have R2 := Lib.hid hrk
              have hne : i = 5 → (cs2 j).k.busy = false := fun e => by
                cases hb : (cs2 j).k.busy with
                | false => rfl
                | true =>
                  have h1 := rnk_pos hcr.inv (c := j) (by omega) hb
                  have h2 := hrk hb
                  omega
              clear hcr hal hrk
              by_cases hli : i < 5
              · have hi5 : (i : Int) < 5 := by omega
                have hi6 : i < 6 := by omega
                cases hb : (cs2 j).k.busy with
                | true =>
                  go_wp2_with fail
                  refine ((BS _ _ _ _ _ _).out C2.out).mono ?_
                  rintro e _ ⟨rfl, rfl⟩
                  rw [hb]
                  have STP : ∀ W, Hid (Kept wr W → Calls Try.prog 30 #[.pointer (some ⟨R, j * 5, none⟩), .agg #[.int .i64 0, .int .i64 1, .int .i64 (1 + q)], .pointer (some ⟨M, 0, none⟩)] W (Stepd W0 own2 W R M B 20 S s2 t2 cs2 j)) := fun W => Lib.hid (fun k => by
                    have kk := crew_step (C2.out.grow k) (c := j) (by omega) hb v0 (by omega) (by omega)
                    rw [hS1, Nat.mul_comm] at kk
                    rw [hS1]
                    exact kk)
                  have z0 := C2.out.kept.some Z0.out.1
                  have z1 := C2.out.kept.some Z0.out.2.1
                  have z2 := C2.out.kept.some Z0.out.2.2
                  go_upto_region 35 with fail
                  go_region_held3 (fun w' => w'.cell? ⟨o, 0, none⟩ = some (.int .i64 0) ∧ w'.cell? ⟨o, 1, none⟩ = some (.int .i64 1) ∧ w'.cell? ⟨o, 2, none⟩ = some (.int .i64 (1 + q))) (first | go_keep | (with_reducible exact ⟨f0, f1, f2⟩)) (first
                    | (go_at_call 30; (with_reducible refine ((STP _).out (by first | exact Kept.refl _ | exact (Kept.refl _).drew | exact (Kept.refl _).drewN _)).mono ?_); rintro e w7 ⟨rfl, own3, s3, t3, ch3, cr3, ⟨C7, _⟩, ht0, ht1, hcn3, hst⟩; have f0 := C7.kept.some Z0.out.1; have f1 := C7.kept.some Z0.out.2.1; have f2 := C7.kept.some Z0.out.2.2))
                  rename_i hcells
                  clear hcells
                  obtain ⟨_, a2, a3, a4⟩ := alone_crew hS C2.out.inv (c := j) (by omega) A2.out hst
                  have MM : OneRel W0 R M B 20 S j (.int .i64 ((i : Int) + 1)) w7 := by
                    refine ⟨i + 1, own3, s3, t3, ch3, putC cs2 j cr3, put1 md2 j (md2 j + 1), fun d => if d = j then ot2 d else ot2 d + hit s3, by omega, by rw [Int.natCast_add]; rfl, C7, fun d hd => ?_, by omega, by omega, by omega, fun hb3 => ?_⟩
                    · by_cases e : d = j
                      · subst e; rw [putC_at, put1_at]; dsimp only; rw [if_pos rfl]; exact a2
                      · rw [putC_ne e, put1_ne e]; dsimp only; rw [if_neg e]; exact a4 d hd
                    · rw [putC_at] at hb3 ⊢
                      have := a3 hb3
                      have := R2.out hb
                      omega
                  have MH := Lib.hid MM
                  clear MM C7 f0 f1 f2 z0 z1 z2 STP a2 a3 a4
                  go_wp2
                  go_roundw
                  case rel => first | exact MH.out | ((repeat apply Exists.intro); (exact ⟨MH.out, rfl⟩); all_goals exact Value.bool true)
                  case measure => simp [intOf]; omega
                | false =>
                  go_wp2_with fail
                  refine ((BS _ _ _ _ _ _).out C2.out).mono ?_
                  rintro e _ ⟨rfl, rfl⟩
                  rw [hb]
                  go_wp2_with fail
                  refine ((BS _ _ _ _ _ _).out C2.out).mono ?_
                  rintro e _ ⟨rfl, rfl⟩
                  rw [hb]
                  have MM : RestRel W0 R M B 20 S (.int .i64 ((j : Int) + 1)) wr := ⟨j + 1, own2, s2, t2, ch2, cs2, md2, ot2, by omega, by rw [Int.natCast_add]; rfl, C2.out, A2.out, v0, by omega, by omega⟩
                  have MH := Lib.hid MM
                  have j4 : j < 4 := by omega
                  clear MM
                  go_wp2
                  go_roundw
                  case rel => first | exact MH.out | ((repeat apply Exists.intro); (exact ⟨MH.out, rfl⟩); all_goals exact Value.bool true)
                  case measure => simp [intOf]; omega
              · obtain rfl : i = 5 := by omega
                have hb := hne rfl
                go_wp2_with fail
                refine ((BS _ _ _ _ _ _).out C2.out).mono ?_
                rintro e _ ⟨rfl, rfl⟩
                rw [hb]
                have MM : RestRel W0 R M B 20 S (.int .i64 ((j : Int) + 1)) wr := ⟨j + 1, own2, s2, t2, ch2, cs2, md2, ot2, by omega, by rw [Int.natCast_add]; rfl, C2.out, A2.out, v0, by omega, by omega⟩
                have MH := Lib.hid MM
                have j4 : j < 4 := by omega
                clear MM
                go_wp2
                go_roundw
                case rel => first | exact MH.out | ((repeat apply Exists.intro); (exact ⟨MH.out, rfl⟩); all_goals exact Value.bool true)
                case measure => simp [intOf]; omega
          · obtain rfl : j = 3 := by omega
            go_wp2
            go_ret
            exact ⟨rfl, K0.out.trans hcr.kept⟩
theorem alone_law (size : Int) {a : Option Addr} {len cap : Nat} {f : Nat → Int} {w : World} (hr : Row w a len cap f) :
    Calls Try.prog 6 #[.int .i64 size, .slice a len cap] w fun e w' => e = .returned (.bool true) ∧ Kept w w' := by
  by_cases h : len ≤ 200
  · exact alone_any size hr h
  · exact alone_big size a len cap w (by omega)
end Go.Proofs.Ytmbdgaflmiacnaa.Sk
