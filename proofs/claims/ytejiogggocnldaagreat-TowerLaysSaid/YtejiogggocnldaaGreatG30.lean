/- TowerLays. -/
import Derived.Test.YtejiogggocnldaaGreatG29
import Derived.Test.YtejiogggocnldaaGreatG06
import Derived.Deep.RegionHeld3
import Derived.Test.YtejiogggocnldaaGreatG25
set_option linter.unusedVariables false
set_option linter.unusedSimpArgs false

namespace Go.Proofs.YtejiogggocnldaaGreat.Tw.Ly
set_option maxRecDepth 20000
open Go.RowKit
open Wo (St acc wordAt PMem RefIs)
open Sk (Stk Arn idx Wd p_store p_new p_words p_count pmem_lt pmem_kept pmem_frame kept_of acc_cnt)
open Lv (base)
open Sk (take_on take_off)

theorem p_full (M B n : Nat) (s : St) (w : World) (hm : PMem w M B n s) : Calls Tryz.prog 29 #[.pointer (some ⟨M, 0, none⟩)] w fun e w' => e = .returned (.slice (some ⟨w.heap.size, 0, none⟩) n n) ∧ w.heap.size < w'.heap.size ∧ (∀ i, i < n → w'.cell? ⟨w.heap.size, i, none⟩ = some (.int .u64 (s.ws i))) ∧ Kept w w' :=
  (Wo.words_full M B n s w hm).mono fun _ _ ⟨a, b, c, d, k⟩ => ⟨a, b, c, kept_of k⟩
set_option maxHeartbeats 1000000 in
theorem fills_any (w : World) : Calls Tryz.prog 46 #[] w fun e w' => e = .returned (.int .i64 16) ∧ Kept w w' := by
  have q := eqn
  go_enter Tryz.func46, Tryz.ntmps46
  go_wp2_with fail
  refine (p_new 34 (by decide) (by decide) _).mono ?_
  rintro e w1 ⟨rfl, m1, z1, k1⟩
  obtain ⟨M, hM⟩ : ∃ M, M = w.heap.size + 1 := ⟨_, rfl⟩
  rw [← hM] at m1 ⊢
  obtain ⟨B, hB⟩ : ∃ B, B = w.heap.size := ⟨_, rfl⟩
  rw [← hB] at m1
  have I1 := Lib.hid (In.mk m1 k1 (by omega) (by omega))
  clear m1 k1 z1 hM hB
  go_wp2_with fail
  refine (chapter_any _).mono ?_
  rintro e w2 ⟨rfl, k2⟩
  have I2 := Lib.hid (I1.out.grow k2)
  clear k2 I1
  go_wp2_with fail
  refine (p_tfill M B 34 T0 Wo.St.zero _ I2.out.mem (by decide) (by decide) okT0 sndT0).mono ?_
  rintro e w3 ⟨rfl, m3, b3⟩
  have I3 : Hid (In w M B sF w3) := Lib.hid ((I2.out.put (P := B) m3 (b3.mono fun _ _ h => .inr h) I2.out.lB).lit worF)
  clear m3 b3 I2
  go_wp2_with fail
  refine (p_count M B 34 sF _ I3.out.mem).mono ?_
  rintro e _ ⟨rfl, rfl⟩
  rw [cntF]
  go_wp2
  go_ret
  exact ⟨rfl, I3.out.kept⟩

theorem infoL : (Tryz.prog.info? 47).map (fun i => (i.zero, i.size, i.bytes)) = some (some (.pointer none), 1, 8) := by kernel_rfl
theorem make_lays : ∃ Z : Array Value, (∀ i, i < 3 → Z[i]? = some (.pointer none)) ∧
    ∀ w : World, (Instr.makeSlice 80 (.int .i64 3) (.int .i64 3)).run Tryz.prog w = .ok (.slice (some ⟨w.heap.size, 0, none⟩) 3 3) (w.alloc (.cells Z 47)) := by
  obtain ⟨i0, hi, hz0, hz1, hz2⟩ := info_parts infoL
  refine ⟨madeCells #[.pointer none] 3, fun i h => ?_, fun w => ?_⟩
  · have : i = 0 ∨ i = 1 ∨ i = 2 := by omega
    rcases this with rfl | rfl | rfl <;> simp [madeCells, Array.getElem!_eq_getD, Array.getD_eq_getD_getElem?]
  · have h := run_makeSlice (P := Tryz.prog) w 80 47 i0 (.pointer none) Tryz.underlying80 hi hz0 .i64 .i64 3 3 (by omega) (Int.le_refl _) (by rw [hz1]; decide) (by rw [hz2]; decide) (by decide)
    rw [h, hz1]
    rfl
theorem ly_keep {w w' : World} {b kb ko jb jo hb ho m : Nat} {t : Twr} {x y z : Int} (h : TB w b t) (c1 : w.cell? ⟨kb, ko + m, none⟩ = some (.int .i64 x)) (c2 : w.cell? ⟨jb, jo + m, none⟩ = some (.int .i64 y)) (c3 : w.cell? ⟨hb, ho + m, none⟩ = some (.int .i64 z)) (k : Kept w w') :
    w'.cell? ⟨b, 0, none⟩ = some (.int .i64 t.D) ∧ w'.cell? ⟨b, 1, none⟩ = some (.int .i64 t.H) ∧ w'.cell? ⟨b, 2, none⟩ = some (.int .i64 t.G) ∧ w'.cell? ⟨b, 3, none⟩ = some (.int .i64 t.A.F.T) ∧ w'.cell? ⟨b, 4, none⟩ = some (.int .i64 t.A.F.K) ∧ w'.cell? ⟨b, 5, none⟩ = some (.int .i64 t.A.F.N) ∧ w'.cell? ⟨b, 6, none⟩ = some (.int .i64 t.A.G) ∧ w'.cell? ⟨b, 7, none⟩ = some (.int .i64 t.A.V) ∧ w'.cell? ⟨b, 8, none⟩ = some (.int .i64 t.A.L) ∧ w'.cell? ⟨b, 9, none⟩ = some (.int .i64 t.E.T) ∧ w'.cell? ⟨b, 10, none⟩ = some (.int .i64 t.E.K) ∧ w'.cell? ⟨b, 11, none⟩ = some (.int .i64 t.E.N) ∧ w'.cell? ⟨b, 12, none⟩ = some (.int .i64 t.P) ∧ w'.cell? ⟨kb, ko + m, none⟩ = some (.int .i64 x) ∧ w'.cell? ⟨jb, jo + m, none⟩ = some (.int .i64 y) ∧ w'.cell? ⟨hb, ho + m, none⟩ = some (.int .i64 z) := by
  obtain ⟨h0, h1, h2, h3, h4, h5, h6, h7, h8, h9, h10, h11, h12⟩ := tb_all (h.kept k)
  exact ⟨h0, h1, h2, h3, h4, h5, h6, h7, h8, h9, h10, h11, h12, k.some c1, k.some c2, k.some c3⟩
theorem ly_keepS {w w' : World} {b kb ko jb jo hb ho m : Nat} {t : Twr} {x y z : Int} (h : TB w b t) (c1 : w.cell? ⟨kb, ko + m, none⟩ = some (.int .i64 x)) (c2 : w.cell? ⟨jb, jo + m, none⟩ = some (.int .i64 y)) (c3 : w.cell? ⟨hb, ho + m, none⟩ = some (.int .i64 z)) (k : Kept w w') {R : Nat} (n0 : ¬ b = R) (n1 : ¬ kb = R) (n2 : ¬ jb = R) (n3 : ¬ hb = R) (v : Value) :
    (w'.setCell ⟨R, m, none⟩ v).cell? ⟨b, 0, none⟩ = some (.int .i64 t.D) ∧ (w'.setCell ⟨R, m, none⟩ v).cell? ⟨b, 1, none⟩ = some (.int .i64 t.H) ∧ (w'.setCell ⟨R, m, none⟩ v).cell? ⟨b, 2, none⟩ = some (.int .i64 t.G) ∧ (w'.setCell ⟨R, m, none⟩ v).cell? ⟨b, 3, none⟩ = some (.int .i64 t.A.F.T) ∧ (w'.setCell ⟨R, m, none⟩ v).cell? ⟨b, 4, none⟩ = some (.int .i64 t.A.F.K) ∧ (w'.setCell ⟨R, m, none⟩ v).cell? ⟨b, 5, none⟩ = some (.int .i64 t.A.F.N) ∧ (w'.setCell ⟨R, m, none⟩ v).cell? ⟨b, 6, none⟩ = some (.int .i64 t.A.G) ∧ (w'.setCell ⟨R, m, none⟩ v).cell? ⟨b, 7, none⟩ = some (.int .i64 t.A.V) ∧ (w'.setCell ⟨R, m, none⟩ v).cell? ⟨b, 8, none⟩ = some (.int .i64 t.A.L) ∧ (w'.setCell ⟨R, m, none⟩ v).cell? ⟨b, 9, none⟩ = some (.int .i64 t.E.T) ∧ (w'.setCell ⟨R, m, none⟩ v).cell? ⟨b, 10, none⟩ = some (.int .i64 t.E.K) ∧ (w'.setCell ⟨R, m, none⟩ v).cell? ⟨b, 11, none⟩ = some (.int .i64 t.E.N) ∧ (w'.setCell ⟨R, m, none⟩ v).cell? ⟨b, 12, none⟩ = some (.int .i64 t.P) ∧ (w'.setCell ⟨R, m, none⟩ v).cell? ⟨kb, ko + m, none⟩ = some (.int .i64 x) ∧ (w'.setCell ⟨R, m, none⟩ v).cell? ⟨jb, jo + m, none⟩ = some (.int .i64 y) ∧ (w'.setCell ⟨R, m, none⟩ v).cell? ⟨hb, ho + m, none⟩ = some (.int .i64 z) := by
  have bR : But (fun j => j = R) w' (w'.setCell ⟨R, m, none⟩ v) := (But.refl _ _).here _ _
  obtain ⟨h0, h1, h2, h3, h4, h5, h6, h7, h8, h9, h10, h11, h12⟩ := tb_all ((h.kept k).but bR n0)
  exact ⟨h0, h1, h2, h3, h4, h5, h6, h7, h8, h9, h10, h11, h12, bR.some (k.some c1) n1, bR.some (k.some c2) n2, bR.some (k.some c3) n3⟩
def ARel (w wF : World) (M B R : Nat) (K J H : Nat → Int) (b0 : Nat) (x : Value) (wr : World) : Prop :=
  ∃ m : Nat, m ≤ 3 ∧ x = .int .i64 m ∧ ∃ P lo hi bs, bs 0 = b0 ∧ Crew w wF M B R K J H P lo hi bs (fun _ => 0) m wr ∧ ∀ c, m ≤ c → c < 3 → wr.cell? ⟨R, c, none⟩ = some (.pointer none)
def BRel (w wF : World) (M B R : Nat) (K J H : Nat → Int) (P lo hi bs : Nat → Nat) (ll : Nat) (x : Value) (wr : World) : Prop :=
  ∃ k : Nat, k ≤ ll ∧ x = .int .i64 k ∧ ∃ n, Crew w wF M B R K J H P lo hi bs n 3 wr
def CRel (w wF : World) (M B R : Nat) (K J H : Nat → Int) (P lo hi bs : Nat → Nat) (x : Value) (wr : World) : Prop :=
  ∃ c : Nat, c ≤ 3 ∧ x = .int .i64 c ∧ ∃ n, Crew w wF M B R K J H P lo hi bs n 3 wr ∧ ∀ d, d < c → n d = 4
def DRel (w wF : World) (M B R : Nat) (K J H : Nat → Int) (P lo hi bs : Nat → Nat) (c : Nat) (x : Value) (wr : World) : Prop :=
  ∃ k : Nat, k ≤ 4 ∧ x = .int .i64 k ∧ ∃ n, Crew w wF M B R K J H P lo hi bs n 3 wr ∧ (∀ d, d < c → n d = 4) ∧ k ≤ n c
theorem bump_all {n : Nat → Nat} {i c : Nat} (h : ∀ d, d < c → n d = 4) : ∀ d, d < c → bump n i d = 4 := fun d hd => by
  unfold bump
  have := h d hd
  by_cases e : d = i
  · rw [if_pos e]; subst e; rw [if_neg (by omega)]
  · rw [if_neg e]; exact this
theorem bump_self {n : Nat → Nat} {c k : Nat} (h : k ≤ n c) (hk : k < 4) : k + 1 ≤ bump n c c := by
  unfold bump
  rw [if_pos rfl]
  split <;> omega
set_option maxHeartbeats 8000000 in
theorem lays_any (ka ja ha la : Option Addr) (kl kc jl jc hl hc ll lc : Nat) (fk fj fh fl : Nat → Int) (w : World) (rk : Row w ka kl kc fk) (rj : Row w ja jl jc fj) (rh : Row w ha hl hc fh) (rl : Row w la ll lc fl) : Calls Tryz.prog 6 #[.slice ka kl kc, .slice ja jl jc, .slice ha hl hc, .slice la ll lc] w fun e w' => e = .returned (.bool true) ∧ Kept w w' := by
  have q := eqn
  have KN := fun W => Lib.hid (known_any W)
  have FL := fun W => Lib.hid (fills_any W)
  have P3 := fun x W => Lib.hid (pick_any x 3 (by decide) (by decide) W)
  have P64 := fun x W => Lib.hid (pick_any x 64 (by decide) (by decide) W)
  have P2 := fun x W => Lib.hid (pick_any x 2 (by decide) (by decide) W)
  have RK := Lib.hid rk
  have RJ := Lib.hid rj
  have RH := Lib.hid rh
  have RL := Lib.hid rl
  have kl5 : kl ≤ 9223372036854775807 := by have h1 := rk.2.1; have h2 := rk.2.2.1; unfold maxLen at h2; omega
  have jl5 : jl ≤ 9223372036854775807 := by have h1 := rj.2.1; have h2 := rj.2.2.1; unfold maxLen at h2; omega
  have hl5 : hl ≤ 9223372036854775807 := by have h1 := rh.2.1; have h2 := rh.2.2.1; unfold maxLen at h2; omega
  have ll5 : ll ≤ 9223372036854775807 := by have h1 := rl.2.1; have h2 := rl.2.2.1; unfold maxLen at h2; omega
  clear rk rj rh rl
  go_enter Tryz.func6, Tryz.ntmps6
  go_wp2_with fail
  refine (KN _).out.mono ?_
  rintro e w1 ⟨rfl, k1⟩
  go_wp2_with fail
  refine (p_new 34 (by decide) (by decide) _).mono ?_
  rintro e w2 ⟨rfl, m2, z2, k2⟩
  obtain ⟨M, hM⟩ : ∃ M, M = w1.heap.size + 1 := ⟨_, rfl⟩
  rw [← hM] at m2 ⊢
  obtain ⟨B, hB⟩ : ∃ B, B = w1.heap.size := ⟨_, rfl⟩
  rw [← hB] at m2
  have hw1 := k1.size
  have I2 : Hid (In w M B Wo.St.zero w2) := Lib.hid ⟨m2, k1.trans k2, by omega, by omega⟩
  have lMB : M < w2.heap.size ∧ B < w2.heap.size := pmem_lt m2
  clear m2 k1 k2 z2 hM hB
  by_cases g1 : kl < 3
  · have g1 : (kl : Int) < 3 := by omega
    go_wp2
    go_ret
    exact ⟨rfl, I2.out.kept⟩
  have g1 : (3 : Int) ≤ (kl : Int) := by omega
  by_cases g2 : jl < 3
  · have g2 : (jl : Int) < 3 := by omega
    go_wp2
    go_ret
    exact ⟨rfl, I2.out.kept⟩
  have g2 : (3 : Int) ≤ (jl : Int) := by omega
  by_cases g3 : hl < 3
  · have g3 : (hl : Int) < 3 := by omega
    go_wp2
    go_ret
    exact ⟨rfl, I2.out.kept⟩
  have g3 : (3 : Int) ≤ (hl : Int) := by omega
  by_cases g4 : 60 < ll
  · have g4 : (60 : Int) < (ll : Int) := by omega
    go_wp2
    go_ret
    exact ⟨rfl, I2.out.kept⟩
  have g4 : (ll : Int) ≤ 60 := by omega
  go_wp2_with fail
  refine (chapter_any _).mono ?_
  rintro e w3 ⟨rfl, k3⟩
  have I3 := Lib.hid (I2.out.grow k3)
  have z3 := k3.size
  clear k3 I2
  go_wp2_with fail
  obtain ⟨W3, hW3⟩ : ∃ W3, W3 = w3.alloc (.cells #[.int .i64 T0.D, .int .i64 T0.H, .int .i64 T0.G, .int .i64 T0.A.F.T, .int .i64 T0.A.F.K, .int .i64 T0.A.F.N, .int .i64 T0.A.G, .int .i64 T0.A.V, .int .i64 T0.A.L, .int .i64 T0.E.T, .int .i64 T0.E.K, .int .i64 T0.E.N, .int .i64 T0.P] 31) := ⟨_, rfl⟩
  have TB3 : Hid (TB W3 w3.heap.size T0) := Lib.hid (by rw [hW3]; exact TB.new w3 _ _ rfl T0)
  have I3 : Hid (In w M B Wo.St.zero W3) := Lib.hid (by rw [hW3]; exact I3.out.grow ((Kept.refl _).alloc _ _))
  rw [← hW3]
  clear hW3
  refine (p_tfill M B 34 T0 Wo.St.zero _ I3.out.mem (by decide) (by decide) okT0 sndT0).mono ?_
  rintro e w4 ⟨rfl, m4, b4⟩
  have I4 : Hid (In w M B sF w4) := Lib.hid ((I3.out.put (P := B) m4 (b4.mono fun _ _ h => .inr h) I3.out.lB).lit worF)
  have TB4 : Hid (TB w4 w3.heap.size T0) := Lib.hid (TB3.out.but b4 (by omega))
  clear m4 b4 I3 TB3
  go_wp2_with fail
  refine (p_full M B 34 sF _ I4.out.mem).mono ?_
  rintro e w5 ⟨rfl, hb2, hcw, k5⟩
  obtain ⟨bw, hbw⟩ : ∃ b, b = w4.heap.size := ⟨_, rfl⟩
  rw [← hbw] at hcw hb2 ⊢
  have hBbw : B < bw := by have := (pmem_lt I4.out.mem).2; omega
  clear hbw
  have I5 := Lib.hid (I4.out.grow k5)
  have TB5 := Lib.hid (TB4.out.kept k5)
  have HCW := Lib.hid hcw
  have z5 := k5.size
  clear k5 I4 TB4 hcw
  obtain ⟨Z, hZ, hmk⟩ := make_lays
  have HZ := Lib.hid hZ
  obtain ⟨R, hR⟩ : ∃ R, R = w5.heap.size := ⟨_, rfl⟩
  have hmk6 := hmk w5
  rw [← hR] at hmk6
  obtain ⟨wF, hwF⟩ : ∃ W, W = w5.alloc (.cells Z 47) := ⟨_, rfl⟩
  rw [← hwF] at hmk6
  have kF : Kept w5 wF := by rw [hwF]; exact (Kept.refl _).alloc _ _
  have zF : wF.heap.size = R + 1 := by rw [hwF, hR]; simp
  have rowZ : ∀ c, c < 3 → wF.cell? ⟨R, c, none⟩ = some (.pointer none) := fun c hc => by rw [hwF, cell_new _ _ _ _ _ hR]; exact HZ.out c hc
  have frZ : ∀ i, wF.frozen? ⟨R, i, none⟩ = false := fun i => by rw [hwF, hR]; simp
  have TBF := Lib.hid (TB5.out.kept kF)
  have HCF : Hid (∀ i, i < 34 → wF.cell? ⟨bw, i, none⟩ = some (.int .u64 (sF.ws i))) := Lib.hid (fun i hi => kF.some (HCW.out i hi))
  obtain ⟨K, hK⟩ : ∃ K : Nat → Int, K = fun c => IntKind.u64.wrap (fk c) := ⟨_, rfl⟩
  obtain ⟨J, hJ⟩ : ∃ J : Nat → Int, J = fun c => fj c % 64 := ⟨_, rfl⟩
  obtain ⟨H, hH⟩ : ∃ H : Nat → Int, H = fun c => 1 + fh c % 2 := ⟨_, rfl⟩
  have lsz := I5.out.kept.size
  have lm5 := pmem_lt I5.out.mem
  have hbR : bw < R := by omega
  have b3 : w3.heap.size < R ∧ B < w3.heap.size := ⟨by have := lt_of_cell TB5.out.c0; omega, by omega⟩
  have CR0 : Hid (Crew w wF M B R K J H (fun _ => 0) (fun _ => 0) (fun _ => 0) (fun _ => R + 1) (fun _ => 0) 0 wF) := Lib.hid ⟨⟨sF, pmem_kept I5.out.mem kF, by rw [wsum0]; rfl, by rw [cntF]; rfl⟩, I5.out.kept.trans kF, But.refl _ _, by omega, I5.out.lB, fun c hc => absurd hc (Nat.not_lt_zero _), frZ, fun c hc => absurd hc (Nat.not_lt_zero _), fun c hc => absurd hc (Nat.not_lt_zero _), by omega, by omega, fun _ => Nat.zero_le _⟩
  have HRZ := Lib.hid rowZ
  have HKJ : Hid (K = (fun c => IntKind.u64.wrap (fk c)) ∧ J = (fun c => fj c % 64) ∧ H = fun c => 1 + fh c % 2) := Lib.hid ⟨hK, hJ, hH⟩
  clear hZ hmk hwF rowZ frZ hK hJ hH I5 TB5 HCW HZ kF hR
  go_wp2_with fail
  go_loopw [15] (ARel w wF M B R K J H (R + 1)) (fun x _ => 4 - (intOf x).toNat)
  case atStart => exact ⟨0, Nat.zero_le _, rfl, _, _, _, _, rfl, CR0.out, fun c _ hc => HRZ.out c hc⟩
  case round =>
    obtain ⟨m, hm, rfl, P, lo, hi, bs, hb0, cr, hz⟩ := hrel
    have CR := Lib.hid cr
    have HBZ := Lib.hid hb0
    have HZ := Lib.hid hz
    clear cr hb0 hz
    by_cases hlt : m < 3
    · have hli : (m : Int) < 3 := by omega
      have hm0 : (0 : Int) ≤ (m : Int) := by omega
      have hk1 : (m : Int) < (kl : Int) := by omega
      have hj1 : (m : Int) < (jl : Int) := by omega
      have hh1 : (m : Int) < (hl : Int) := by omega
      have hk2 : m < kl := by omega
      have hj2 : m < jl := by omega
      have hh2 : m < hl := by omega
      rcases RK.out.reads with h | ⟨kb, ko, rfl, hkc⟩
      · omega
      rcases RJ.out.reads with h | ⟨jb, jo, rfl, hjc⟩
      · omega
      rcases RH.out.reads with h | ⟨hb, ho, rfl, hhc⟩
      · omega
      have ck := CR.out.kept.some (hkc m (by omega))
      have cj := CR.out.kept.some (hjc m (by omega))
      have ch := CR.out.kept.some (hhc m (by omega))
      have cR := HZ.out m (Nat.le_refl _) hlt
      have lk := lt_of_cell ck
      have lj := lt_of_cell cj
      have lh := lt_of_cell ch
      have lR := lt_of_cell cR
      have fR := CR.out.fR
      have TR : TB wr w3.heap.size T0 := TBF.out.but CR.out.old (by have := HBZ.out; omega)
      have HTR := Lib.hid TR
      have CK := Lib.hid ck
      have CJ := Lib.hid cj
      have CH := Lib.hid ch
      obtain ⟨a0, a1, a2, a3, a4, a5, a6, a7, a8, a9, a10, a11, a12⟩ := tb_all TR
      have PJ := fun W => Lib.hid (show Calls Tryz.prog 15 #[.int .i64 (fj m), .int .i64 64] W fun e w' => e = .returned (.int .i64 (J m)) ∧ W = w' from by rw [HKJ.out.2.1]; exact (P64 (fj m) W).out)
      have PH := fun W => Lib.hid (show Calls Tryz.prog 15 #[.int .i64 (fh m), .int .i64 2] W fun e w' => e = .returned (.int .i64 (fh m % 2)) ∧ W = w' from (P2 (fh m) W).out)
      have hor : bits BinOp.or IntKind.u64 ((m : Int) + 1) 65536 = (m : Int) + 1 + 65536 := by
        have : m = 0 ∨ m = 1 ∨ m = 2 := by omega
        rcases this with rfl | rfl | rfl <;> decide
      have nR0 : ¬ w3.heap.size = R := by omega
      have nR1 : ¬ kb = R := by have := lt_of_cell (hkc m (by omega)); have := CR.out.lR; omega
      have nR2 : ¬ jb = R := by have := lt_of_cell (hjc m (by omega)); have := CR.out.lR; omega
      have nR3 : ¬ hb = R := by have := lt_of_cell (hhc m (by omega)); have := CR.out.lR; omega
      have hw1 : IntKind.i64.wrap ((m : Int) + 1) = (m : Int) + 1 := by rw [IntKind.wrap_i64]; omega
      have hw2 : IntKind.u64.wrap ((m : Int) + 1) = (m : Int) + 1 := by rw [IntKind.wrap_u64]; omega
      clear TR hkc hjc hhc ck cj ch
      have MKW : Hid (∀ W, Kept wr W → Calls Tryz.prog 16 #[towV T0, .int .u64 ((m : Int) + 1 + 65536), .int .u64 (IntKind.u64.wrap (fk m)), .int .i64 (J m), .int .i64 (1 + fh m % 2)] W (MadePost W T0 (xs K J H m 0))) := Lib.hid (fun W k => by
        have h := new_any T0 ((m : Int) + 1 + 65536) (K m) (J m) (H m) (by omega) (by omega) W
        rw [new_xs K J H m hlt (by rw [HKJ.out.2.1]; show 0 ≤ fj m % 64 ∧ fj m % 64 ≤ 63; omega) (by rw [HKJ.out.2.2]; show 1 ≤ 1 + fh m % 2 ∧ 1 + fh m % 2 ≤ 2; omega)] at h
        have e1 : K m = IntKind.u64.wrap (fk m) := by rw [HKJ.out.1]
        have e2 : H m = 1 + fh m % 2 := by rw [HKJ.out.2.2]
        rwa [e1, e2] at h)
      have fh2 : 0 ≤ fh m % 2 ∧ fh m % 2 ≤ 1 := by omega
      obtain ⟨hm2, hhm2⟩ : ∃ x, x = fh m % 2 := ⟨_, rfl⟩
      rw [← hhm2] at PH MKW fh2
      have hw3 : IntKind.i64.wrap (1 + hm2) = 1 + hm2 := by rw [IntKind.wrap_i64]; omega
      clear hhm2
      have KD : Kept wr wr.drew := (Kept.refl _).drew
      go_upto_region 14 with fail
      refine wp_region_held_drew (S := (fun w' => w'.cell? ⟨w3.heap.size, 0, none⟩ = some (.int .i64 T0.D) ∧ w'.cell? ⟨w3.heap.size, 1, none⟩ = some (.int .i64 T0.H) ∧ w'.cell? ⟨w3.heap.size, 2, none⟩ = some (.int .i64 T0.G) ∧ w'.cell? ⟨w3.heap.size, 3, none⟩ = some (.int .i64 T0.A.F.T) ∧ w'.cell? ⟨w3.heap.size, 4, none⟩ = some (.int .i64 T0.A.F.K) ∧ w'.cell? ⟨w3.heap.size, 5, none⟩ = some (.int .i64 T0.A.F.N) ∧ w'.cell? ⟨w3.heap.size, 6, none⟩ = some (.int .i64 T0.A.G) ∧ w'.cell? ⟨w3.heap.size, 7, none⟩ = some (.int .i64 T0.A.V) ∧ w'.cell? ⟨w3.heap.size, 8, none⟩ = some (.int .i64 T0.A.L) ∧ w'.cell? ⟨w3.heap.size, 9, none⟩ = some (.int .i64 T0.E.T) ∧ w'.cell? ⟨w3.heap.size, 10, none⟩ = some (.int .i64 T0.E.K) ∧ w'.cell? ⟨w3.heap.size, 11, none⟩ = some (.int .i64 T0.E.N) ∧ w'.cell? ⟨w3.heap.size, 12, none⟩ = some (.int .i64 T0.P) ∧ w'.cell? ⟨kb, ko + m, none⟩ = some (.int .i64 (fk m)) ∧ w'.cell? ⟨jb, jo + m, none⟩ = some (.int .i64 (fj m)) ∧ w'.cell? ⟨hb, ho + m, none⟩ = some (.int .i64 (fh m)))) (by kernel_rfl) ?_ (fun hHeld => ?_)
      · exact ly_keep HTR.out CK.out CJ.out CH.out KD
      refine take_on (i := 0) (oi := ?_) (v := ?_) ?_ (by kernel_rfl) ?_ ?_ ?_ hHeld ?_; rotate_left 2; (focus (simp only [List.getElem?_toArray, List.getElem?_cons_zero]; exact rfl)); (focus (rfl)); (focus (intro w hSw; (try dsimp only at hSw); go_simp <;> with_reducible rfl)); (focus (exact fun _ _ _ h => h)); simp only [Act.put, List.setIfInBounds_toArray, List.set_cons_zero, List.set_cons_succ]
      refine take_on (i := 1) (oi := ?_) (v := ?_) ?_ (by kernel_rfl) ?_ ?_ ?_ hHeld ?_; rotate_left 2; (focus (simp only [List.getElem?_toArray, List.getElem?_cons_succ, List.getElem?_cons_zero]; exact rfl)); (focus (rfl)); (focus (intro w hSw; (try dsimp only at hSw); go_simp <;> with_reducible rfl)); (focus (exact fun _ _ _ h => h)); simp only [Act.put, List.setIfInBounds_toArray, List.set_cons_zero, List.set_cons_succ]
      refine take_on (i := 2) (oi := ?_) (v := ?_) ?_ (by kernel_rfl) ?_ ?_ ?_ hHeld ?_; rotate_left 2; (focus (simp only [List.getElem?_toArray, List.getElem?_cons_succ, List.getElem?_cons_zero]; exact rfl)); (focus (rfl)); (focus (intro w hSw; (try dsimp only at hSw); go_simp <;> with_reducible rfl)); (focus (exact fun _ _ _ h => h)); simp only [Act.put, List.setIfInBounds_toArray, List.set_cons_zero, List.set_cons_succ]
      refine take_on (i := 3) (oi := ?_) (v := ?_) ?_ (by kernel_rfl) ?_ ?_ ?_ hHeld ?_; rotate_left 2; (focus (simp only [List.getElem?_toArray, List.getElem?_cons_succ, List.getElem?_cons_zero]; exact rfl)); (focus (rfl)); (focus (intro w hSw; (try dsimp only at hSw); go_simp <;> with_reducible rfl)); (focus (exact fun _ _ _ h => h)); simp only [Act.put, List.setIfInBounds_toArray, List.set_cons_zero, List.set_cons_succ]
      refine take_on (i := 4) (oi := ?_) (v := ?_) ?_ (by kernel_rfl) ?_ ?_ ?_ hHeld ?_; rotate_left 2; (focus (simp only [List.getElem?_toArray, List.getElem?_cons_succ, List.getElem?_cons_zero]; exact rfl)); (focus (rfl)); (focus (intro w hSw; (try dsimp only at hSw); go_simp <;> with_reducible rfl)); (focus (exact fun _ _ _ h => h)); simp only [Act.put, List.setIfInBounds_toArray, List.set_cons_zero, List.set_cons_succ]
      refine take_on (i := 5) (oi := ?_) (v := ?_) ?_ (by kernel_rfl) ?_ ?_ ?_ hHeld ?_; rotate_left 2; (focus (simp only [List.getElem?_toArray, List.getElem?_cons_succ, List.getElem?_cons_zero]; exact rfl)); (focus (rfl)); (focus (intro w hSw; (try dsimp only at hSw); go_simp <;> with_reducible rfl)); (focus (exact fun _ _ _ h => h)); simp only [Act.put, List.setIfInBounds_toArray, List.set_cons_zero, List.set_cons_succ]
      refine take_on (i := 6) (oi := ?_) (v := ?_) ?_ (by kernel_rfl) ?_ ?_ ?_ hHeld ?_; rotate_left 2; (focus (simp only [List.getElem?_toArray, List.getElem?_cons_succ, List.getElem?_cons_zero]; exact rfl)); (focus (rfl)); (focus (intro w hSw; (try dsimp only at hSw); go_simp <;> with_reducible rfl)); (focus (exact fun _ _ _ h => h)); simp only [Act.put, List.setIfInBounds_toArray, List.set_cons_zero, List.set_cons_succ]
      refine take_on (i := 7) (oi := ?_) (v := ?_) ?_ (by kernel_rfl) ?_ ?_ ?_ hHeld ?_; rotate_left 2; (focus (simp only [List.getElem?_toArray, List.getElem?_cons_succ, List.getElem?_cons_zero]; exact rfl)); (focus (rfl)); (focus (intro w hSw; (try dsimp only at hSw); go_simp <;> with_reducible rfl)); (focus (exact fun _ _ _ h => h)); simp only [Act.put, List.setIfInBounds_toArray, List.set_cons_zero, List.set_cons_succ]
      refine take_on (i := 8) (oi := ?_) (v := ?_) ?_ (by kernel_rfl) ?_ ?_ ?_ hHeld ?_; rotate_left 2; (focus (simp only [List.getElem?_toArray, List.getElem?_cons_succ, List.getElem?_cons_zero]; exact rfl)); (focus (rfl)); (focus (intro w hSw; (try dsimp only at hSw); go_simp <;> with_reducible rfl)); (focus (exact fun _ _ _ h => h)); simp only [Act.put, List.setIfInBounds_toArray, List.set_cons_zero, List.set_cons_succ]
      refine take_on (i := 9) (oi := ?_) (v := ?_) ?_ (by kernel_rfl) ?_ ?_ ?_ hHeld ?_; rotate_left 2; (focus (simp only [List.getElem?_toArray, List.getElem?_cons_succ, List.getElem?_cons_zero]; exact rfl)); (focus (rfl)); (focus (intro w hSw; (try dsimp only at hSw); go_simp <;> with_reducible rfl)); (focus (exact fun _ _ _ h => h)); simp only [Act.put, List.setIfInBounds_toArray, List.set_cons_zero, List.set_cons_succ]
      refine take_on (i := 10) (oi := ?_) (v := ?_) ?_ (by kernel_rfl) ?_ ?_ ?_ hHeld ?_; rotate_left 2; (focus (simp only [List.getElem?_toArray, List.getElem?_cons_succ, List.getElem?_cons_zero]; exact rfl)); (focus (rfl)); (focus (intro w hSw; (try dsimp only at hSw); go_simp <;> with_reducible rfl)); (focus (exact fun _ _ _ h => h)); simp only [Act.put, List.setIfInBounds_toArray, List.set_cons_zero, List.set_cons_succ]
      refine take_on (i := 11) (oi := ?_) (v := ?_) ?_ (by kernel_rfl) ?_ ?_ ?_ hHeld ?_; rotate_left 2; (focus (simp only [List.getElem?_toArray, List.getElem?_cons_succ, List.getElem?_cons_zero]; exact rfl)); (focus (rfl)); (focus (intro w hSw; (try dsimp only at hSw); go_simp <;> with_reducible rfl)); (focus (exact fun _ _ _ h => h)); simp only [Act.put, List.setIfInBounds_toArray, List.set_cons_zero, List.set_cons_succ]
      refine take_on (i := 12) (oi := ?_) (v := ?_) ?_ (by kernel_rfl) ?_ ?_ ?_ hHeld ?_; rotate_left 2; (focus (simp only [List.getElem?_toArray, List.getElem?_cons_succ, List.getElem?_cons_zero]; exact rfl)); (focus (rfl)); (focus (intro w hSw; (try dsimp only at hSw); go_simp <;> with_reducible rfl)); (focus (exact fun _ _ _ h => h)); simp only [Act.put, List.setIfInBounds_toArray, List.set_cons_zero, List.set_cons_succ]
      refine take_on (i := 13) (oi := ?_) (v := ?_) ?_ (by kernel_rfl) ?_ ?_ ?_ hHeld ?_; rotate_left 2; (focus (simp only [List.getElem?_toArray, List.getElem?_cons_succ, List.getElem?_cons_zero]; exact rfl)); (focus (rfl)); (focus (intro w hSw; (try dsimp only at hSw); go_simp <;> with_reducible rfl)); (focus (exact fun _ _ _ h => h)); simp only [Act.put, List.setIfInBounds_toArray, List.set_cons_zero, List.set_cons_succ]
      refine take_on (i := 14) (oi := ?_) (v := ?_) ?_ (by kernel_rfl) ?_ ?_ ?_ hHeld ?_; rotate_left 2; (focus (simp only [List.getElem?_toArray, List.getElem?_cons_succ, List.getElem?_cons_zero]; exact rfl)); (focus (rfl)); (focus (intro w hSw; (try dsimp only at hSw); go_simp <;> with_reducible rfl)); (focus (exact fun _ _ _ h => h)); simp only [Act.put, List.setIfInBounds_toArray, List.set_cons_zero, List.set_cons_succ]
      refine take_on (i := 15) (oi := ?_) (v := ?_) ?_ (by kernel_rfl) ?_ ?_ ?_ hHeld ?_; rotate_left 2; (focus (simp only [List.getElem?_toArray, List.getElem?_cons_succ, List.getElem?_cons_zero]; exact rfl)); (focus (rfl)); (focus (intro w hSw; (try dsimp only at hSw); go_simp <;> with_reducible rfl)); (focus (exact fun _ _ _ h => h)); simp only [Act.put, List.setIfInBounds_toArray, List.set_cons_zero, List.set_cons_succ]
      refine take_on (i := 17) (oi := ?_) (v := ?_) ?_ (by kernel_rfl) ?_ ?_ ?_ hHeld ?_; rotate_left 2; (focus (simp only [List.getElem?_toArray, List.getElem?_cons_succ, List.getElem?_cons_zero]; exact rfl)); (focus (rfl)); (focus (intro w hSw; (try dsimp only at hSw); go_simp <;> with_reducible rfl)); (focus (exact fun _ _ _ h => h)); simp only [Act.put, List.setIfInBounds_toArray, List.set_cons_zero, List.set_cons_succ]
      refine take_on (i := 18) (oi := ?_) (v := ?_) ?_ (by kernel_rfl) ?_ ?_ ?_ hHeld ?_; rotate_left 2; (focus (simp only [List.getElem?_toArray, List.getElem?_cons_succ, List.getElem?_cons_zero]; exact rfl)); (focus (rfl)); (focus (intro w hSw; (try dsimp only at hSw); go_simp <;> with_reducible rfl)); (focus (exact fun _ _ _ h => h)); simp only [Act.put, List.setIfInBounds_toArray, List.set_cons_zero, List.set_cons_succ]
      refine take_on (i := 19) (oi := ?_) (v := ?_) ?_ (by kernel_rfl) ?_ ?_ ?_ hHeld ?_; rotate_left 2; (focus (simp only [List.getElem?_toArray, List.getElem?_cons_succ, List.getElem?_cons_zero]; exact rfl)); (focus (rfl)); (focus (intro w hSw; (try dsimp only at hSw); go_simp <;> with_reducible rfl)); (focus (exact fun _ _ _ h => h)); simp only [Act.put, List.setIfInBounds_toArray, List.set_cons_zero, List.set_cons_succ]
      refine take_on (i := 20) (oi := ?_) (v := ?_) ?_ (by kernel_rfl) ?_ ?_ ?_ hHeld ?_; rotate_left 2; (focus (simp only [List.getElem?_toArray, List.getElem?_cons_succ, List.getElem?_cons_zero]; exact rfl)); (focus (rfl)); (focus (intro w hSw; (try dsimp only at hSw); go_simp <;> with_reducible rfl)); (focus (exact fun _ _ _ h => h)); simp only [Act.put, List.setIfInBounds_toArray, List.set_cons_zero, List.set_cons_succ]
      refine wpAnyH_ready (rs := [16]) (by decide +kernel) (by simp) ?_
      refine AllReadyH.cons (o := ?_) ?_ ?_ AllReadyH.nil
      rotate_left 1
      · simp only [List.getElem?_toArray, List.getElem?_cons_succ, List.getElem?_cons_zero]; exact rfl
      intro K hK
      go_simp
      go_at_call 15; refine (PJ _).out.mono ?_; rintro e _ ⟨rfl, rfl⟩
      go_wp2_with fail
      clear hHeld
      refine hK.out _ _ ?_ (fun hHeld => ?_)
      · exact ly_keep HTR.out CK.out CJ.out CH.out KD
      clear hK K
      try simp only [Act.put, List.setIfInBounds_toArray, List.set_cons_zero, List.set_cons_succ]
      refine wpAnyH_ready (rs := [21]) (by decide +kernel) (by simp) ?_
      refine AllReadyH.cons (o := ?_) ?_ ?_ AllReadyH.nil
      rotate_left 1
      · simp only [List.getElem?_toArray, List.getElem?_cons_succ, List.getElem?_cons_zero]; exact rfl
      intro K hK
      go_simp
      go_at_call 15; refine (PH _).out.mono ?_; rintro e _ ⟨rfl, rfl⟩
      go_wp2_with fail
      clear hHeld
      refine hK.out _ _ ?_ (fun hHeld => ?_)
      · exact ly_keep HTR.out CK.out CJ.out CH.out KD
      clear hK K
      try simp only [Act.put, List.setIfInBounds_toArray, List.set_cons_zero, List.set_cons_succ]
      refine take_on (i := 22) (oi := ?_) (v := ?_) ?_ (by kernel_rfl) ?_ ?_ ?_ hHeld ?_; rotate_left 2; (focus (simp only [List.getElem?_toArray, List.getElem?_cons_succ, List.getElem?_cons_zero]; exact rfl)); (focus (rfl)); (focus (intro w hSw; (try dsimp only at hSw); go_simp <;> with_reducible rfl)); (focus (exact fun _ _ _ h => h)); simp only [Act.put, List.setIfInBounds_toArray, List.set_cons_zero, List.set_cons_succ]
      refine wpAnyH_ready (rs := [23]) (by decide +kernel) (by simp) ?_
      refine AllReadyH.cons (o := ?_) ?_ ?_ AllReadyH.nil
      rotate_left 1
      · simp only [List.getElem?_toArray, List.getElem?_cons_succ, List.getElem?_cons_zero]; exact rfl
      intro K hK
      go_simp
      go_at_call 16; refine Calls.mono (MKW.out _ KD) ?_; rintro e w7 ⟨P1, lo1, hi1, rfl, l1, q1, q2, q3, q4, q5, k7⟩; have KA : Kept wr w7 := KD.trans k7; have dR := KA.some cR; have dF : ∀ i, w7.frozen? ⟨R, i, none⟩ = false := fun i => KA.soft lR (fR i)
      go_wp2_with fail
      clear hHeld
      refine hK.out _ _ ?_ (fun hHeld => ?_)
      · exact ly_keep HTR.out CK.out CJ.out CH.out KA
      clear hK K
      try simp only [Act.put, List.setIfInBounds_toArray, List.set_cons_zero, List.set_cons_succ]
      refine take_on (i := 24) (oi := ?_) (v := ?_) ?_ (by kernel_rfl) ?_ ?_ ?_ hHeld ?_; rotate_left 2; (focus (simp only [List.getElem?_toArray, List.getElem?_cons_succ, List.getElem?_cons_zero]; exact rfl)); (focus (rfl)); (focus (intro w hSw; (try dsimp only at hSw); go_simp <;> with_reducible rfl)); (focus (exact fun _ _ _ h => h)); simp only [Act.put, List.setIfInBounds_toArray, List.set_cons_zero, List.set_cons_succ]
      refine wpAnyH_ready (rs := [25]) (by decide +kernel) (by simp) ?_
      refine AllReadyH.cons (o := ?_) ?_ ?_ AllReadyH.nil
      rotate_left 1
      · simp only [List.getElem?_toArray, List.getElem?_cons_succ, List.getElem?_cons_zero]; exact rfl
      intro K hK
      go_simp

      clear hHeld
      refine hK.out _ _ ?_ (fun hHeld => ?_)
      · exact ly_keepS HTR.out CK.out CJ.out CH.out KA nR0 nR1 nR2 nR3 _
      clear hK K
      try simp only [Act.put, List.setIfInBounds_toArray, List.set_cons_zero, List.set_cons_succ]
      refine wpAnyH_done (by kernel_rfl) ?_ _
      obtain ⟨P', lo', hi', bs', hb', cr'⟩ := (CR.out.grow KD).add k7 l1 q1 q2 q3 q4 q5 ⟨_, dR⟩
      have HC' := Lib.hid cr'
      have HZ' : Hid (∀ c, m + 1 ≤ c → c < 3 → (w7.setCell ⟨R, m, none⟩ (.pointer (some ⟨P1, 0, none⟩))).cell? ⟨R, c, none⟩ = some (.pointer none)) := Lib.hid (fun c h1 h2 => by rw [cell_set, if_neg (by omega)]; exact KA.some (HZ.out c (by omega) h2))
      have HB' : Hid (bs' 0 = R + 1) := Lib.hid (hb'.trans HBZ.out)
      clear l1 cr' hb'
      go_wp2
      go_roundw
      case rel => exact ⟨m + 1, by omega, by go_num, P', lo', hi', bs', HB'.out, HC'.out, HZ'.out⟩
      case measure => simp [intOf]; omega
    · have hm3 : m = 3 := by omega
      subst hm3
      clear HZ hlt hm
      have hst : ¬ ((3 : Nat) : Int) < 3 := by decide
      have hB0 := HBZ.out
      go_wp2_with fail
      go_loopw [16] (BRel w wF M B R K J H P lo hi bs ll) (fun x _ => ll + 1 - (intOf x).toNat)
      case atStart => exact ⟨0, Nat.zero_le _, rfl, _, CR.out⟩
      case round =>
        obtain ⟨k, hk, rfl, n, cr⟩ := hrel
        have CK := Lib.hid cr
        have hk0 : (0 : Int) ≤ (k : Int) := by omega
        clear cr
        by_cases hlt : k < ll
        · have hli : (k : Int) < (ll : Int) := by omega
          rcases RL.out.reads with h | ⟨lb, lo9, rfl, hlc⟩
          · omega
          have cx := CK.out.kept.some (hlc k hlt)
          have lx := lt_of_cell cx
          obtain ⟨c, hc3, hc⟩ : ∃ c : Nat, c < 3 ∧ (c : Int) = fl k % 3 := ⟨(fl k % 3).toNat, by omega, by omega⟩
          have PI := fun W => Lib.hid (show Calls Tryz.prog 15 #[.int .i64 (fl k), .int .i64 3] W fun e w' => e = .returned (.int .i64 (c : Int)) ∧ W = w' from by rw [hc]; exact (P3 (fl k) W).out)
          have hci : (c : Int) < 3 := by omega
          have rc := CK.out.row c hc3
          have lr := lt_of_cell rc
          have ST := Lib.hid (CK.out.step c hc3 (by decide))
          clear hlc hc
          go_wp2_with fail
          refine (PI _).out.mono ?_
          rintro e _ ⟨rfl, rfl⟩
          go_wp2_with fail
          refine Calls.mono ST.out ?_
          rintro e w' ⟨⟨b, rfl⟩, cr'⟩
          have CR' := Lib.hid cr'
          clear cr'
          go_wp2
          go_roundw
          case rel => exact ⟨k + 1, by omega, by go_num, _, CR'.out⟩
          case measure => simp [intOf]; omega
        · have hli : (ll : Int) ≤ (k : Int) := by omega
          have hdk : decide (k < ll) = false := by simp; omega
          clear hlt
          go_wp2_with fail
          go_loopw [17] (CRel w wF M B R K J H P lo hi bs) (fun x _ => 4 - (intOf x).toNat)
          case atStart => exact ⟨0, Nat.zero_le _, rfl, _, CK.out, fun d hd => absurd hd (Nat.not_lt_zero _)⟩
          case round =>
            obtain ⟨c, hc, rfl, n2, cr, hn4⟩ := hrel
            have CC := Lib.hid cr
            have HN4 := Lib.hid hn4
            have hc0 : (0 : Int) ≤ (c : Int) := by omega
            clear cr hn4
            by_cases hlt : c < 3
            · have hci : (c : Int) < 3 := by omega
              go_wp2_with fail
              go_loopw [18] (DRel w wF M B R K J H P lo hi bs c) (fun x _ => 5 - (intOf x).toNat)
              case atStart => exact ⟨0, Nat.zero_le _, rfl, _, CC.out, HN4.out, Nat.zero_le _⟩
              case round =>
                obtain ⟨j, hj, rfl, n3, cr, hn4, hjn⟩ := hrel
                have CD := Lib.hid cr
                have HN5 := Lib.hid hn4
                have HJN := Lib.hid hjn
                have hj0 : (0 : Int) ≤ (j : Int) := by omega
                clear cr hn4 hjn
                have rc := CD.out.row c hlt
                have lr := lt_of_cell rc
                by_cases hjl : j < 4
                · have hji : (j : Int) < 4 := by omega
                  have ST := Lib.hid (CD.out.step c hlt (by decide))
                  go_wp2_with fail
                  refine Calls.mono ST.out ?_
                  rintro e w' ⟨⟨b, rfl⟩, cr'⟩
                  have CR' := Lib.hid cr'
                  clear cr'
                  go_wp2
                  go_roundw
                  case rel => exact ⟨j + 1, by omega, by go_num, _, CR'.out, bump_all HN5.out, bump_self HJN.out hjl⟩
                  case measure => simp [intOf]; omega
                · have hji : (4 : Int) ≤ (j : Int) := by omega
                  have h4 : n3 c = 4 := by have := HJN.out; have := CD.out.hn c; omega
                  have HN6 : Hid (∀ d, d < c + 1 → n3 d = 4) := Lib.hid (fun d hd => by
                    by_cases e : d = c
                    · rw [e]; exact h4
                    · exact HN5.out d (by omega))
                  obtain ⟨v0, v1, v2, v3, v4⟩ := end_ws (K := K) (J := J) (H := H) (n := n3) hlt h4
                  obtain ⟨s, hs1, hs2, hs3⟩ := CD.out.mem
                  have TR := Lib.hid (TBF.out.but CD.out.old (by omega))
                  obtain ⟨a0, a1, a2, a3, a4, a5, a6, a7, a8, a9, a10, a11, a12⟩ := tb_all TR.out
                  have ltb := lt_of_cell a0
                  have GW : Hid (GivesWords (.pointer (some ⟨M, 0, none⟩)) 34 (wsum K J H n3) wr) := Lib.hid (by have := gives_words hs1; rwa [hs2] at this)
                  have NY := Lib.hid (node_yes T0 sndT0 (c : Int) ⟨hc0, by show (c : Int) < 3; omega⟩ _ 34 (wsum K J H n3) (by decide) wr GW.out)
                  have HV : Hid (hw 34 (wsum K J H n3) (atI T0 (c : Int) 0) = IntKind.u64.wrap (fk c) ∧ hw 34 (wsum K J H n3) (atI T0 (c : Int) 1) = J c ∧ hw 34 (wsum K J H n3) (atI T0 (c : Int) 2) = 1 + fh c % 2 ∧ hw 34 (wsum K J H n3) (atI T0 (c : Int) 3) = 2 ∧ nextL 34 (wsum K J H n3) T0 (c : Int) 2 = [0, 0]) := Lib.hid (by
                    refine ⟨v0.trans (by rw [HKJ.out.1]), v1, v2.trans (by rw [HKJ.out.2.2]), v3, v4⟩)
                  clear hjl hs1 hs2 hs3 v0 v1 v2 v3 v4 h4
                  go_wp2_with fail
                  refine Calls.mono NY.out ?_
                  rintro e w8 ⟨a8, c8, rfl, k8, own8⟩
                  obtain ⟨v0, v1, v2, v3, v4⟩ := HV.out
                  rw [show T0.G.toNat = 2 from rfl, v4] at own8
                  rw [v0, v1, v2, v3, show T0.G.toNat = 2 from rfl]
                  have CE := Lib.hid (CD.out.grow k8)
                  have O8 := Lib.hid own8
                  clear own8 k8 HV NY GW TR v0 v1 v2 v3 v4 a0 a1 a2 a3 a4 a5 a6 a7 a9 a10 a11 a12
                  rcases RK.out.reads with h | ⟨kb, ko, rfl, hkc⟩
                  · omega
                  rcases RJ.out.reads with h | ⟨jb, jo, rfl, hjc⟩
                  · omega
                  rcases RH.out.reads with h | ⟨hb, ho, rfl, hhc⟩
                  · omega
                  obtain ⟨jx, hjx⟩ : ∃ x, x = J c := ⟨_, rfl⟩
                  obtain ⟨hx, hhx⟩ : ∃ x, x = fh c % 2 := ⟨_, rfl⟩
                  have PJ := fun W => Lib.hid (show Calls Tryz.prog 15 #[.int .i64 (fj c), .int .i64 64] W fun e w' => e = .returned (.int .i64 jx) ∧ W = w' from by rw [hjx, HKJ.out.2.1]; exact (P64 (fj c) W).out)
                  have PH := fun W => Lib.hid (show Calls Tryz.prog 15 #[.int .i64 (fh c), .int .i64 2] W fun e w' => e = .returned (.int .i64 hx) ∧ W = w' from by rw [hhx]; exact (P2 (fh c) W).out)
                  have jb2 : 0 ≤ jx ∧ jx ≤ 63 := by rw [hjx, HKJ.out.2.1]; show 0 ≤ fj c % 64 ∧ fj c % 64 ≤ 63; omega
                  have hb2 : 0 ≤ hx ∧ hx ≤ 1 := by rw [hhx]; omega
                  rw [← hjx, ← hhx]
                  clear hjx hhx
                  have e1 : IntKind.u64.wrap jx = jx := by rw [IntKind.wrap_u64]; omega
                  have e2 : IntKind.i64.wrap (1 + hx) = 1 + hx := by rw [IntKind.wrap_i64]; omega
                  have e3 : IntKind.u64.wrap (1 + hx) = 1 + hx := by rw [IntKind.wrap_u64]; omega
                  have hk1 : (c : Int) < (kl : Int) := by omega
                  have hj1 : (c : Int) < (jl : Int) := by omega
                  have hh1 : (c : Int) < (hl : Int) := by omega
                  have hk2 : c < kl := by omega
                  have hj2 : c < jl := by omega
                  have hh2 : c < hl := by omega
                  go_upto_region 27 with fail
                  obtain ⟨nb, hnb⟩ : ∃ b, b = w8.heap.size := ⟨_, rfl⟩
                  obtain ⟨W9, hW9⟩ : ∃ W, W = w8.alloc (.cells #[.int .u64 (IntKind.u64.wrap (fk c)), .int .u64 jx, .int .u64 (1 + hx), .int .u64 2, .slice a8 2 c8] 82) := ⟨_, rfl⟩
                  have k9 : Kept w8 W9 := by rw [hW9]; exact (Kept.refl _).alloc _ _
                  have n0 : W9.cell? ⟨nb, 0, none⟩ = some (.int .u64 (IntKind.u64.wrap (fk c))) := by rw [hW9]; exact cell_new _ _ _ _ 0 hnb
                  have n1 : W9.cell? ⟨nb, 1, none⟩ = some (.int .u64 jx) := by rw [hW9]; exact cell_new _ _ _ _ 1 hnb
                  have n2 : W9.cell? ⟨nb, 2, none⟩ = some (.int .u64 (1 + hx)) := by rw [hW9]; exact cell_new _ _ _ _ 2 hnb
                  have n3' : W9.cell? ⟨nb, 3, none⟩ = some (.int .u64 2) := by rw [hW9]; exact cell_new _ _ _ _ 3 hnb
                  have n4 : W9.cell? ⟨nb, 4, none⟩ = some (.slice a8 2 c8) := by rw [hW9]; exact cell_new _ _ _ _ 4 hnb
                  rw [← hW9, ← hnb]
                  clear hW9 hnb
                  have C9 := Lib.hid (CE.out.grow k9)
                  have O9 := Lib.hid (own_keep O8.out k9)
                  have r9 := C9.out.row c hlt
                  have k0 := C9.out.kept.some (hkc c hk2)
                  have j0 := C9.out.kept.some (hjc c hj2)
                  have h0 := C9.out.kept.some (hhc c hh2)
                  have SK : Hid (∀ W, Kept W9 W →  W.cell? ⟨R, c, none⟩ = some (.pointer (some ⟨P c, 0, none⟩)) ∧ W.cell? ⟨nb, 0, none⟩ = some (.int .u64 (IntKind.u64.wrap (fk c))) ∧ W.cell? ⟨nb, 1, none⟩ = some (.int .u64 jx) ∧ W.cell? ⟨nb, 2, none⟩ = some (.int .u64 (1 + hx)) ∧ W.cell? ⟨nb, 3, none⟩ = some (.int .u64 2) ∧ W.cell? ⟨nb, 4, none⟩ = some (.slice a8 2 c8) ∧ W.cell? ⟨kb, ko + c, none⟩ = some (.int .i64 (fk c)) ∧ W.cell? ⟨jb, jo + c, none⟩ = some (.int .i64 (fj c)) ∧ W.cell? ⟨hb, ho + c, none⟩ = some (.int .i64 (fh c))) := Lib.hid (fun W k => ⟨k.some r9, k.some n0, k.some n1, k.some n2, k.some n3', k.some n4, k.some k0, k.some j0, k.some h0⟩)
                  have ER := fun W (k : Kept W9 W) => Lib.hid (show Calls Tryz.prog 20 #[.pointer (some ⟨P c, 0, none⟩)] W fun e w' => e = .returned (.int .i64 0) ∧ W = w' from by
                    have h := err_any (lo c) (hi c) (P c) T0 _ W (((C9.out.grow k).lay c hlt))
                    have h4 : n3 c = 4 := HN6.out c (by omega)
                    rw [h4] at h
                    exact h)
                  have KD : Kept W9 W9.drew := (Kept.refl _).drew
                  clear hkc hjc hhc CE O8 k9 n0 n1 n2 n3' n4 k0 j0 h0 r9
                  refine wp_region_held_drew (S := (fun w' => w'.cell? ⟨R, c, none⟩ = some (.pointer (some ⟨P c, 0, none⟩)) ∧ w'.cell? ⟨nb, 0, none⟩ = some (.int .u64 (IntKind.u64.wrap (fk c))) ∧ w'.cell? ⟨nb, 1, none⟩ = some (.int .u64 jx) ∧ w'.cell? ⟨nb, 2, none⟩ = some (.int .u64 (1 + hx)) ∧ w'.cell? ⟨nb, 3, none⟩ = some (.int .u64 2) ∧ w'.cell? ⟨nb, 4, none⟩ = some (.slice a8 2 c8) ∧ w'.cell? ⟨kb, ko + c, none⟩ = some (.int .i64 (fk c)) ∧ w'.cell? ⟨jb, jo + c, none⟩ = some (.int .i64 (fj c)) ∧ w'.cell? ⟨hb, ho + c, none⟩ = some (.int .i64 (fh c)))) (by kernel_rfl) ?_ (fun hHeld => ?_)
                  · exact SK.out _ KD
                  refine take_on (i := 0) (oi := ?_) (v := ?_) ?_ (by kernel_rfl) ?_ ?_ ?_ hHeld ?_; rotate_left 2; (focus (simp only [List.getElem?_toArray, List.getElem?_cons_zero]; exact rfl)); (focus (rfl)); (focus (intro w hSw; (try dsimp only at hSw); go_simp <;> with_reducible rfl)); (focus (exact fun _ _ _ h => h)); simp only [Act.put, List.setIfInBounds_toArray, List.set_cons_zero, List.set_cons_succ]
                  refine take_on (i := 1) (oi := ?_) (v := ?_) ?_ (by kernel_rfl) ?_ ?_ ?_ hHeld ?_; rotate_left 2; (focus (simp only [List.getElem?_toArray, List.getElem?_cons_succ, List.getElem?_cons_zero]; exact rfl)); (focus (rfl)); (focus (intro w hSw; (try dsimp only at hSw); go_simp <;> with_reducible rfl)); (focus (exact fun _ _ _ h => h)); simp only [Act.put, List.setIfInBounds_toArray, List.set_cons_zero, List.set_cons_succ]
                  refine take_on (i := 2) (oi := ?_) (v := ?_) ?_ (by kernel_rfl) ?_ ?_ ?_ hHeld ?_; rotate_left 2; (focus (simp only [List.getElem?_toArray, List.getElem?_cons_succ, List.getElem?_cons_zero]; exact rfl)); (focus (rfl)); (focus (intro w hSw; (try dsimp only at hSw); go_simp <;> with_reducible rfl)); (focus (exact fun _ _ _ h => h)); simp only [Act.put, List.setIfInBounds_toArray, List.set_cons_zero, List.set_cons_succ]
                  refine take_on (i := 3) (oi := ?_) (v := ?_) ?_ (by kernel_rfl) ?_ ?_ ?_ hHeld ?_; rotate_left 2; (focus (simp only [List.getElem?_toArray, List.getElem?_cons_succ, List.getElem?_cons_zero]; exact rfl)); (focus (rfl)); (focus (intro w hSw; (try dsimp only at hSw); go_simp <;> with_reducible rfl)); (focus (exact fun _ _ _ h => h)); simp only [Act.put, List.setIfInBounds_toArray, List.set_cons_zero, List.set_cons_succ]
                  refine take_on (i := 4) (oi := ?_) (v := ?_) ?_ (by kernel_rfl) ?_ ?_ ?_ hHeld ?_; rotate_left 2; (focus (simp only [List.getElem?_toArray, List.getElem?_cons_succ, List.getElem?_cons_zero]; exact rfl)); (focus (rfl)); (focus (intro w hSw; (try dsimp only at hSw); go_simp <;> with_reducible rfl)); (focus (exact fun _ _ _ h => h)); simp only [Act.put, List.setIfInBounds_toArray, List.set_cons_zero, List.set_cons_succ]
                  refine take_on (i := 5) (oi := ?_) (v := ?_) ?_ (by kernel_rfl) ?_ ?_ ?_ hHeld ?_; rotate_left 2; (focus (simp only [List.getElem?_toArray, List.getElem?_cons_succ, List.getElem?_cons_zero]; exact rfl)); (focus (rfl)); (focus (intro w hSw; (try dsimp only at hSw); go_simp <;> with_reducible rfl)); (focus (exact fun _ _ _ h => h)); simp only [Act.put, List.setIfInBounds_toArray, List.set_cons_zero, List.set_cons_succ]
                  refine take_on (i := 6) (oi := ?_) (v := ?_) ?_ (by kernel_rfl) ?_ ?_ ?_ hHeld ?_; rotate_left 2; (focus (simp only [List.getElem?_toArray, List.getElem?_cons_succ, List.getElem?_cons_zero]; exact rfl)); (focus (rfl)); (focus (intro w hSw; (try dsimp only at hSw); go_simp <;> with_reducible rfl)); (focus (exact fun _ _ _ h => h)); simp only [Act.put, List.setIfInBounds_toArray, List.set_cons_zero, List.set_cons_succ]
                  refine wpAnyH_ready (rs := [7]) (by decide +kernel) (by simp) ?_
                  refine AllReadyH.cons (o := ?_) ?_ ?_ AllReadyH.nil
                  rotate_left 1
                  · simp only [List.getElem?_toArray, List.getElem?_cons_succ, List.getElem?_cons_zero]; exact rfl
                  intro K hK
                  go_simp
                  go_at_call 20; refine Calls.mono (ER _ KD).out ?_; rintro e _ ⟨rfl, rfl⟩
                  go_wp2_with fail
                  clear hHeld
                  refine hK.out _ _ ?_ (fun hHeld => ?_)
                  · exact SK.out _ KD
                  clear hK K
                  try simp only [Act.put, List.setIfInBounds_toArray, List.set_cons_zero, List.set_cons_succ]
                  refine take_on (i := 8) (oi := ?_) (v := ?_) ?_ (by kernel_rfl) ?_ ?_ ?_ hHeld ?_; rotate_left 2; (focus (simp only [List.getElem?_toArray, List.getElem?_cons_succ, List.getElem?_cons_zero]; exact rfl)); (focus (rfl)); (focus (intro w hSw; (try dsimp only at hSw); go_simp <;> with_reducible rfl)); (focus (exact fun _ _ _ h => h)); simp only [Act.put, List.setIfInBounds_toArray, List.set_cons_zero, List.set_cons_succ]
                  refine take_on (i := 9) (oi := ?_) (v := ?_) ?_ (by kernel_rfl) ?_ ?_ ?_ hHeld ?_; rotate_left 2; (focus (simp only [List.getElem?_toArray, List.getElem?_cons_succ, List.getElem?_cons_zero]; exact rfl)); (focus (rfl)); (focus (intro w hSw; (try dsimp only at hSw); go_simp <;> with_reducible rfl)); (focus (exact fun _ _ _ h => h)); simp only [Act.put, List.setIfInBounds_toArray, List.set_cons_zero, List.set_cons_succ]
                  refine take_on (i := 10) (oi := ?_) (v := ?_) ?_ (by kernel_rfl) ?_ ?_ ?_ hHeld ?_; rotate_left 2; (focus (simp only [List.getElem?_toArray, List.getElem?_cons_succ, List.getElem?_cons_zero]; exact rfl)); (focus (rfl)); (focus (intro w hSw; (try dsimp only at hSw); go_simp <;> with_reducible rfl)); (focus (exact fun _ _ _ h => h)); simp only [Act.put, List.setIfInBounds_toArray, List.set_cons_zero, List.set_cons_succ]
                  refine take_on (i := 11) (oi := ?_) (v := ?_) ?_ (by kernel_rfl) ?_ ?_ ?_ hHeld ?_; rotate_left 2; (focus (simp only [List.getElem?_toArray, List.getElem?_cons_succ, List.getElem?_cons_zero]; exact rfl)); (focus (rfl)); (focus (intro w hSw; (try dsimp only at hSw); go_simp <;> with_reducible rfl)); (focus (exact fun _ _ _ h => h)); simp only [Act.put, List.setIfInBounds_toArray, List.set_cons_zero, List.set_cons_succ]
                  refine take_on (i := 12) (oi := ?_) (v := ?_) ?_ (by kernel_rfl) ?_ ?_ ?_ hHeld ?_; rotate_left 2; (focus (simp only [List.getElem?_toArray, List.getElem?_cons_succ, List.getElem?_cons_zero]; exact rfl)); (focus (rfl)); (focus (intro w hSw; (try dsimp only at hSw); go_simp <;> with_reducible rfl)); (focus (exact fun _ _ _ h => h)); simp only [Act.put, List.setIfInBounds_toArray, List.set_cons_zero, List.set_cons_succ]
                  refine take_on (i := 13) (oi := ?_) (v := ?_) ?_ (by kernel_rfl) ?_ ?_ ?_ hHeld ?_; rotate_left 2; (focus (simp only [List.getElem?_toArray, List.getElem?_cons_succ, List.getElem?_cons_zero]; exact rfl)); (focus (rfl)); (focus (intro w hSw; (try dsimp only at hSw); go_simp <;> with_reducible rfl)); (focus (exact fun _ _ _ h => h)); simp only [Act.put, List.setIfInBounds_toArray, List.set_cons_zero, List.set_cons_succ]
                  refine take_on (i := 14) (oi := ?_) (v := ?_) ?_ (by kernel_rfl) ?_ ?_ ?_ hHeld ?_; rotate_left 2; (focus (simp only [List.getElem?_toArray, List.getElem?_cons_succ, List.getElem?_cons_zero]; exact rfl)); (focus (rfl)); (focus (intro w hSw; (try dsimp only at hSw); go_simp <;> with_reducible rfl)); (focus (exact fun _ _ _ h => h)); simp only [Act.put, List.setIfInBounds_toArray, List.set_cons_zero, List.set_cons_succ]
                  refine take_on (i := 15) (oi := ?_) (v := ?_) ?_ (by kernel_rfl) ?_ ?_ ?_ hHeld ?_; rotate_left 2; (focus (simp only [List.getElem?_toArray, List.getElem?_cons_succ, List.getElem?_cons_zero]; exact rfl)); (focus (rfl)); (focus (intro w hSw; (try dsimp only at hSw); go_simp <;> with_reducible rfl)); (focus (exact fun _ _ _ h => h)); simp only [Act.put, List.setIfInBounds_toArray, List.set_cons_zero, List.set_cons_succ]
                  refine take_on (i := 16) (oi := ?_) (v := ?_) ?_ (by kernel_rfl) ?_ ?_ ?_ hHeld ?_; rotate_left 2; (focus (simp only [List.getElem?_toArray, List.getElem?_cons_succ, List.getElem?_cons_zero]; exact rfl)); (focus (rfl)); (focus (intro w hSw; (try dsimp only at hSw); go_simp <;> with_reducible rfl)); (focus (exact fun _ _ _ h => h)); simp only [Act.put, List.setIfInBounds_toArray, List.set_cons_zero, List.set_cons_succ]
                  refine take_on (i := 17) (oi := ?_) (v := ?_) ?_ (by kernel_rfl) ?_ ?_ ?_ hHeld ?_; rotate_left 2; (focus (simp only [List.getElem?_toArray, List.getElem?_cons_succ, List.getElem?_cons_zero]; exact rfl)); (focus (rfl)); (focus (intro w hSw; (try dsimp only at hSw); go_simp <;> with_reducible rfl)); (focus (exact fun _ _ _ h => h)); simp only [Act.put, List.setIfInBounds_toArray, List.set_cons_zero, List.set_cons_succ]
                  refine take_on (i := 18) (oi := ?_) (v := ?_) ?_ (by kernel_rfl) ?_ ?_ ?_ hHeld ?_; rotate_left 2; (focus (simp only [List.getElem?_toArray, List.getElem?_cons_succ, List.getElem?_cons_zero]; exact rfl)); (focus (rfl)); (focus (intro w hSw; (try dsimp only at hSw); go_simp <;> with_reducible rfl)); (focus (exact fun _ _ _ h => h)); simp only [Act.put, List.setIfInBounds_toArray, List.set_cons_zero, List.set_cons_succ]
                  refine take_on (i := 19) (oi := ?_) (v := ?_) ?_ (by kernel_rfl) ?_ ?_ ?_ hHeld ?_; rotate_left 2; (focus (simp only [List.getElem?_toArray, List.getElem?_cons_succ, List.getElem?_cons_zero]; exact rfl)); (focus (rfl)); (focus (intro w hSw; (try dsimp only at hSw); go_simp <;> with_reducible rfl)); (focus (exact fun _ _ _ h => h)); simp only [Act.put, List.setIfInBounds_toArray, List.set_cons_zero, List.set_cons_succ]
                  refine take_on (i := 20) (oi := ?_) (v := ?_) ?_ (by kernel_rfl) ?_ ?_ ?_ hHeld ?_; rotate_left 2; (focus (simp only [List.getElem?_toArray, List.getElem?_cons_succ, List.getElem?_cons_zero]; exact rfl)); (focus (rfl)); (focus (intro w hSw; (try dsimp only at hSw); go_simp <;> with_reducible rfl)); (focus (exact fun _ _ _ h => h)); simp only [Act.put, List.setIfInBounds_toArray, List.set_cons_zero, List.set_cons_succ]
                  refine take_on (i := 21) (oi := ?_) (v := ?_) ?_ (by kernel_rfl) ?_ ?_ ?_ hHeld ?_; rotate_left 2; (focus (simp only [List.getElem?_toArray, List.getElem?_cons_succ, List.getElem?_cons_zero]; exact rfl)); (focus (rfl)); (focus (intro w hSw; (try dsimp only at hSw); go_simp <;> with_reducible rfl)); (focus (exact fun _ _ _ h => h)); simp only [Act.put, List.setIfInBounds_toArray, List.set_cons_zero, List.set_cons_succ]
                  refine take_on (i := 22) (oi := ?_) (v := ?_) ?_ (by kernel_rfl) ?_ ?_ ?_ hHeld ?_; rotate_left 2; (focus (simp only [List.getElem?_toArray, List.getElem?_cons_succ, List.getElem?_cons_zero]; exact rfl)); (focus (rfl)); (focus (intro w hSw; (try dsimp only at hSw); go_simp <;> with_reducible rfl)); (focus (exact fun _ _ _ h => h)); simp only [Act.put, List.setIfInBounds_toArray, List.set_cons_zero, List.set_cons_succ]
                  refine take_on (i := 23) (oi := ?_) (v := ?_) ?_ (by kernel_rfl) ?_ ?_ ?_ hHeld ?_; rotate_left 2; (focus (simp only [List.getElem?_toArray, List.getElem?_cons_succ, List.getElem?_cons_zero]; exact rfl)); (focus (rfl)); (focus (intro w hSw; (try dsimp only at hSw); go_simp <;> with_reducible rfl)); (focus (exact fun _ _ _ h => h)); simp only [Act.put, List.setIfInBounds_toArray, List.set_cons_zero, List.set_cons_succ]
                  refine take_on (i := 24) (oi := ?_) (v := ?_) ?_ (by kernel_rfl) ?_ ?_ ?_ hHeld ?_; rotate_left 2; (focus (simp only [List.getElem?_toArray, List.getElem?_cons_succ, List.getElem?_cons_zero]; exact rfl)); (focus (rfl)); (focus (intro w hSw; (try dsimp only at hSw); go_simp <;> with_reducible rfl)); (focus (exact fun _ _ _ h => h)); simp only [Act.put, List.setIfInBounds_toArray, List.set_cons_zero, List.set_cons_succ]
                  refine take_on (i := 25) (oi := ?_) (v := ?_) ?_ (by kernel_rfl) ?_ ?_ ?_ hHeld ?_; rotate_left 2; (focus (simp only [List.getElem?_toArray, List.getElem?_cons_succ, List.getElem?_cons_zero]; exact rfl)); (focus (rfl)); (focus (intro w hSw; (try dsimp only at hSw); go_simp <;> with_reducible rfl)); (focus (exact fun _ _ _ h => h)); simp only [Act.put, List.setIfInBounds_toArray, List.set_cons_zero, List.set_cons_succ]
                  refine take_on (i := 26) (oi := ?_) (v := ?_) ?_ (by kernel_rfl) ?_ ?_ ?_ hHeld ?_; rotate_left 2; (focus (simp only [List.getElem?_toArray, List.getElem?_cons_succ, List.getElem?_cons_zero]; exact rfl)); (focus (rfl)); (focus (intro w hSw; (try dsimp only at hSw); go_simp <;> with_reducible rfl)); (focus (exact fun _ _ _ h => h)); simp only [Act.put, List.setIfInBounds_toArray, List.set_cons_zero, List.set_cons_succ]
                  refine wpAnyH_ready (rs := [27]) (by decide +kernel) (by simp) ?_
                  refine AllReadyH.cons (o := ?_) ?_ ?_ AllReadyH.nil
                  rotate_left 1
                  · simp only [List.getElem?_toArray, List.getElem?_cons_succ, List.getElem?_cons_zero]; exact rfl
                  intro K hK
                  go_simp
                  go_at_call 15; refine Calls.mono (PJ _).out ?_; rintro e _ ⟨rfl, rfl⟩
                  go_wp2_with fail
                  clear hHeld
                  refine hK.out _ _ ?_ (fun hHeld => ?_)
                  · exact SK.out _ KD
                  clear hK K
                  try simp only [Act.put, List.setIfInBounds_toArray, List.set_cons_zero, List.set_cons_succ]
                  refine take_on (i := 28) (oi := ?_) (v := ?_) ?_ (by kernel_rfl) ?_ ?_ ?_ hHeld ?_; rotate_left 2; (focus (simp only [List.getElem?_toArray, List.getElem?_cons_succ, List.getElem?_cons_zero]; exact rfl)); (focus (rfl)); (focus (intro w hSw; (try dsimp only at hSw); go_simp <;> with_reducible rfl)); (focus (exact fun _ _ _ h => h)); simp only [Act.put, List.setIfInBounds_toArray, List.set_cons_zero, List.set_cons_succ]
                  refine take_on (i := 29) (oi := ?_) (v := ?_) ?_ (by kernel_rfl) ?_ ?_ ?_ hHeld ?_; rotate_left 2; (focus (simp only [List.getElem?_toArray, List.getElem?_cons_succ, List.getElem?_cons_zero]; exact rfl)); (focus (rfl)); (focus (intro w hSw; (try dsimp only at hSw); go_simp <;> with_reducible rfl)); (focus (exact fun _ _ _ h => h)); simp only [Act.put, List.setIfInBounds_toArray, List.set_cons_zero, List.set_cons_succ]
                  refine take_on (i := 30) (oi := ?_) (v := ?_) ?_ (by kernel_rfl) ?_ ?_ ?_ hHeld ?_; rotate_left 2; (focus (simp only [List.getElem?_toArray, List.getElem?_cons_succ, List.getElem?_cons_zero]; exact rfl)); (focus (rfl)); (focus (intro w hSw; (try dsimp only at hSw); go_simp <;> with_reducible rfl)); (focus (exact fun _ _ _ h => h)); simp only [Act.put, List.setIfInBounds_toArray, List.set_cons_zero, List.set_cons_succ]
                  refine take_on (i := 31) (oi := ?_) (v := ?_) ?_ (by kernel_rfl) ?_ ?_ ?_ hHeld ?_; rotate_left 2; (focus (simp only [List.getElem?_toArray, List.getElem?_cons_succ, List.getElem?_cons_zero]; exact rfl)); (focus (rfl)); (focus (intro w hSw; (try dsimp only at hSw); go_simp <;> with_reducible rfl)); (focus (exact fun _ _ _ h => h)); simp only [Act.put, List.setIfInBounds_toArray, List.set_cons_zero, List.set_cons_succ]
                  refine take_on (i := 32) (oi := ?_) (v := ?_) ?_ (by kernel_rfl) ?_ ?_ ?_ hHeld ?_; rotate_left 2; (focus (simp only [List.getElem?_toArray, List.getElem?_cons_succ, List.getElem?_cons_zero]; exact rfl)); (focus (rfl)); (focus (intro w hSw; (try dsimp only at hSw); go_simp <;> with_reducible rfl)); (focus (exact fun _ _ _ h => h)); simp only [Act.put, List.setIfInBounds_toArray, List.set_cons_zero, List.set_cons_succ]
                  refine take_on (i := 33) (oi := ?_) (v := ?_) ?_ (by kernel_rfl) ?_ ?_ ?_ hHeld ?_; rotate_left 2; (focus (simp only [List.getElem?_toArray, List.getElem?_cons_succ, List.getElem?_cons_zero]; exact rfl)); (focus (rfl)); (focus (intro w hSw; (try dsimp only at hSw); go_simp <;> with_reducible rfl)); (focus (exact fun _ _ _ h => h)); simp only [Act.put, List.setIfInBounds_toArray, List.set_cons_zero, List.set_cons_succ]
                  refine take_on (i := 34) (oi := ?_) (v := ?_) ?_ (by kernel_rfl) ?_ ?_ ?_ hHeld ?_; rotate_left 2; (focus (simp only [List.getElem?_toArray, List.getElem?_cons_succ, List.getElem?_cons_zero]; exact rfl)); (focus (rfl)); (focus (intro w hSw; (try dsimp only at hSw); go_simp <;> with_reducible rfl)); (focus (exact fun _ _ _ h => h)); simp only [Act.put, List.setIfInBounds_toArray, List.set_cons_zero, List.set_cons_succ]
                  refine take_on (i := 35) (oi := ?_) (v := ?_) ?_ (by kernel_rfl) ?_ ?_ ?_ hHeld ?_; rotate_left 2; (focus (simp only [List.getElem?_toArray, List.getElem?_cons_succ, List.getElem?_cons_zero]; exact rfl)); (focus (rfl)); (focus (intro w hSw; (try dsimp only at hSw); go_simp <;> with_reducible rfl)); (focus (exact fun _ _ _ h => h)); simp only [Act.put, List.setIfInBounds_toArray, List.set_cons_zero, List.set_cons_succ]
                  refine take_on (i := 36) (oi := ?_) (v := ?_) ?_ (by kernel_rfl) ?_ ?_ ?_ hHeld ?_; rotate_left 2; (focus (simp only [List.getElem?_toArray, List.getElem?_cons_succ, List.getElem?_cons_zero]; exact rfl)); (focus (rfl)); (focus (intro w hSw; (try dsimp only at hSw); go_simp <;> with_reducible rfl)); (focus (exact fun _ _ _ h => h)); simp only [Act.put, List.setIfInBounds_toArray, List.set_cons_zero, List.set_cons_succ]
                  refine take_on (i := 37) (oi := ?_) (v := ?_) ?_ (by kernel_rfl) ?_ ?_ ?_ hHeld ?_; rotate_left 2; (focus (simp only [List.getElem?_toArray, List.getElem?_cons_succ, List.getElem?_cons_zero]; exact rfl)); (focus (rfl)); (focus (intro w hSw; (try dsimp only at hSw); go_simp <;> with_reducible rfl)); (focus (exact fun _ _ _ h => h)); simp only [Act.put, List.setIfInBounds_toArray, List.set_cons_zero, List.set_cons_succ]
                  refine wpAnyH_ready (rs := [38]) (by decide +kernel) (by simp) ?_
                  refine AllReadyH.cons (o := ?_) ?_ ?_ AllReadyH.nil
                  rotate_left 1
                  · simp only [List.getElem?_toArray, List.getElem?_cons_succ, List.getElem?_cons_zero]; exact rfl
                  intro K hK
                  go_simp
                  go_at_call 15; refine Calls.mono (PH _).out ?_; rintro e _ ⟨rfl, rfl⟩
                  go_wp2_with fail
                  clear hHeld
                  refine hK.out _ _ ?_ (fun hHeld => ?_)
                  · exact SK.out _ KD
                  clear hK K
                  try simp only [Act.put, List.setIfInBounds_toArray, List.set_cons_zero, List.set_cons_succ]
                  refine take_on (i := 39) (oi := ?_) (v := ?_) ?_ (by kernel_rfl) ?_ ?_ ?_ hHeld ?_; rotate_left 2; (focus (simp only [List.getElem?_toArray, List.getElem?_cons_succ, List.getElem?_cons_zero]; exact rfl)); (focus (rfl)); (focus (intro w hSw; (try dsimp only at hSw); go_simp <;> with_reducible rfl)); (focus (exact fun _ _ _ h => h)); simp only [Act.put, List.setIfInBounds_toArray, List.set_cons_zero, List.set_cons_succ]
                  refine take_on (i := 40) (oi := ?_) (v := ?_) ?_ (by kernel_rfl) ?_ ?_ ?_ hHeld ?_; rotate_left 2; (focus (simp only [List.getElem?_toArray, List.getElem?_cons_succ, List.getElem?_cons_zero]; exact rfl)); (focus (rfl)); (focus (intro w hSw; (try dsimp only at hSw); go_simp <;> with_reducible rfl)); (focus (exact fun _ _ _ h => h)); simp only [Act.put, List.setIfInBounds_toArray, List.set_cons_zero, List.set_cons_succ]
                  refine take_on (i := 41) (oi := ?_) (v := ?_) ?_ (by kernel_rfl) ?_ ?_ ?_ hHeld ?_; rotate_left 2; (focus (simp only [List.getElem?_toArray, List.getElem?_cons_succ, List.getElem?_cons_zero]; exact rfl)); (focus (rfl)); (focus (intro w hSw; (try dsimp only at hSw); go_simp <;> with_reducible rfl)); (focus (exact fun _ _ _ h => h)); simp only [Act.put, List.setIfInBounds_toArray, List.set_cons_zero, List.set_cons_succ]
                  refine take_on (i := 42) (oi := ?_) (v := ?_) ?_ (by kernel_rfl) ?_ ?_ ?_ hHeld ?_; rotate_left 2; (focus (simp only [List.getElem?_toArray, List.getElem?_cons_succ, List.getElem?_cons_zero]; exact rfl)); (focus (rfl)); (focus (intro w hSw; (try dsimp only at hSw); go_simp <;> with_reducible rfl)); (focus (exact fun _ _ _ h => h)); simp only [Act.put, List.setIfInBounds_toArray, List.set_cons_zero, List.set_cons_succ]
                  refine take_on (i := 43) (oi := ?_) (v := ?_) ?_ (by kernel_rfl) ?_ ?_ ?_ hHeld ?_; rotate_left 2; (focus (simp only [List.getElem?_toArray, List.getElem?_cons_succ, List.getElem?_cons_zero]; exact rfl)); (focus (rfl)); (focus (intro w hSw; (try dsimp only at hSw); go_simp <;> with_reducible rfl)); (focus (exact fun _ _ _ h => h)); simp only [Act.put, List.setIfInBounds_toArray, List.set_cons_zero, List.set_cons_succ]
                  refine take_on (i := 44) (oi := ?_) (v := ?_) ?_ (by kernel_rfl) ?_ ?_ ?_ hHeld ?_; rotate_left 2; (focus (simp only [List.getElem?_toArray, List.getElem?_cons_succ, List.getElem?_cons_zero]; exact rfl)); (focus (rfl)); (focus (intro w hSw; (try dsimp only at hSw); go_simp <;> with_reducible rfl)); (focus (exact fun _ _ _ h => h)); simp only [Act.put, List.setIfInBounds_toArray, List.set_cons_zero, List.set_cons_succ]
                  refine take_on (i := 45) (oi := ?_) (v := ?_) ?_ (by kernel_rfl) ?_ ?_ ?_ hHeld ?_; rotate_left 2; (focus (simp only [List.getElem?_toArray, List.getElem?_cons_succ, List.getElem?_cons_zero]; exact rfl)); (focus (rfl)); (focus (intro w hSw; (try dsimp only at hSw); go_simp <;> with_reducible rfl)); (focus (exact fun _ _ _ h => h)); simp only [Act.put, List.setIfInBounds_toArray, List.set_cons_zero, List.set_cons_succ]
                  refine take_on (i := 46) (oi := ?_) (v := ?_) ?_ (by kernel_rfl) ?_ ?_ ?_ hHeld ?_; rotate_left 2; (focus (simp only [List.getElem?_toArray, List.getElem?_cons_succ, List.getElem?_cons_zero]; exact rfl)); (focus (rfl)); (focus (intro w hSw; (try dsimp only at hSw); go_simp <;> with_reducible rfl)); (focus (exact fun _ _ _ h => h)); simp only [Act.put, List.setIfInBounds_toArray, List.set_cons_zero, List.set_cons_succ]
                  refine take_on (i := 47) (oi := ?_) (v := ?_) ?_ (by kernel_rfl) ?_ ?_ ?_ hHeld ?_; rotate_left 2; (focus (simp only [List.getElem?_toArray, List.getElem?_cons_succ, List.getElem?_cons_zero]; exact rfl)); (focus (rfl)); (focus (intro w hSw; (try dsimp only at hSw); go_simp <;> with_reducible rfl)); (focus (exact fun _ _ _ h => h)); simp only [Act.put, List.setIfInBounds_toArray, List.set_cons_zero, List.set_cons_succ]
                  refine take_on (i := 48) (oi := ?_) (v := ?_) ?_ (by kernel_rfl) ?_ ?_ ?_ hHeld ?_; rotate_left 2; (focus (simp only [List.getElem?_toArray, List.getElem?_cons_succ, List.getElem?_cons_zero]; exact rfl)); (focus (rfl)); (focus (intro w hSw; (try dsimp only at hSw); go_simp <;> with_reducible rfl)); (focus (exact fun _ _ _ h => h)); simp only [Act.put, List.setIfInBounds_toArray, List.set_cons_zero, List.set_cons_succ]
                  refine take_on (i := 49) (oi := ?_) (v := ?_) ?_ (by kernel_rfl) ?_ ?_ ?_ hHeld ?_; rotate_left 2; (focus (simp only [List.getElem?_toArray, List.getElem?_cons_succ, List.getElem?_cons_zero]; exact rfl)); (focus (rfl)); (focus (intro w hSw; (try dsimp only at hSw); go_simp <;> with_reducible rfl)); (focus (exact fun _ _ _ h => h)); simp only [Act.put, List.setIfInBounds_toArray, List.set_cons_zero, List.set_cons_succ]
                  refine take_on (i := 50) (oi := ?_) (v := ?_) ?_ (by kernel_rfl) ?_ ?_ ?_ hHeld ?_; rotate_left 2; (focus (simp only [List.getElem?_toArray, List.getElem?_cons_succ, List.getElem?_cons_zero]; exact rfl)); (focus (rfl)); (focus (intro w hSw; (try dsimp only at hSw); go_simp <;> with_reducible rfl)); (focus (exact fun _ _ _ h => h)); simp only [Act.put, List.setIfInBounds_toArray, List.set_cons_zero, List.set_cons_succ]
                  refine wpAnyH_ready (rs := [51]) (by decide +kernel) (by simp) ?_
                  refine AllReadyH.cons (o := ?_) ?_ ?_ AllReadyH.nil
                  rotate_left 1
                  · simp only [List.getElem?_toArray, List.getElem?_cons_succ, List.getElem?_cons_zero]; exact rfl
                  intro K hK
                  go_simp
                  clear hHeld
                  refine hK.out _ _ ?_ (fun hHeld => ?_)
                  · exact SK.out _ (KD.alloc _ _)
                  clear hK K
                  try simp only [Act.put, List.setIfInBounds_toArray, List.set_cons_zero, List.set_cons_succ]
                  refine wpAnyH_ready (rs := [52]) (by decide +kernel) (by simp) ?_
                  refine AllReadyH.cons (o := ?_) ?_ ?_ AllReadyH.nil
                  rotate_left 1
                  · simp only [List.getElem?_toArray, List.getElem?_cons_succ, List.getElem?_cons_zero]; exact rfl
                  intro K hK
                  go_simp
                  go_at_call 28; refine Calls.mono (zero2 (own_keep O9.out (KD.alloc _ _)) (zz2 rfl)) ?_; rintro e w10 ⟨rfl, k10⟩; have KE : Kept W9 w10 := (KD.alloc _ _).trans k10
                  go_wp2_with fail
                  clear hHeld
                  refine hK.out _ _ ?_ (fun hHeld => ?_)
                  · exact SK.out _ KE
                  clear hK K
                  try simp only [Act.put, List.setIfInBounds_toArray, List.set_cons_zero, List.set_cons_succ]
                  refine take_on (i := 53) (oi := ?_) (v := ?_) ?_ (by kernel_rfl) ?_ ?_ ?_ hHeld ?_; rotate_left 2; (focus (simp only [List.getElem?_toArray, List.getElem?_cons_succ, List.getElem?_cons_zero]; exact rfl)); (focus (rfl)); (focus (intro w hSw; (try dsimp only at hSw); go_simp <;> with_reducible rfl)); (focus (exact fun _ _ _ h => h)); simp only [Act.put, List.setIfInBounds_toArray, List.set_cons_zero, List.set_cons_succ]
                  refine take_on (i := 54) (oi := ?_) (v := ?_) ?_ (by kernel_rfl) ?_ ?_ ?_ hHeld ?_; rotate_left 2; (focus (simp only [List.getElem?_toArray, List.getElem?_cons_succ, List.getElem?_cons_zero]; exact rfl)); (focus (rfl)); (focus (intro w hSw; (try dsimp only at hSw); go_simp <;> with_reducible rfl)); (focus (exact fun _ _ _ h => h)); simp only [Act.put, List.setIfInBounds_toArray, List.set_cons_zero, List.set_cons_succ]
                  refine wpAnyH_done (by kernel_rfl) ?_ _
                  have CZ := Lib.hid (C9.out.grow KE)
                  clear KE k10
                  go_wp2
                  go_roundw
                  case rel => first
                    | exact ⟨c + 1, by omega, by go_num, n3, CZ.out, HN6.out⟩
                    | (repeat apply Exists.intro
                       refine ⟨?_, rfl⟩
                       exact ⟨c + 1, by omega, by go_num, n3, CZ.out, HN6.out⟩)
                  case measure => simp [intOf]; omega
            · have hc3 : c = 3 := by omega
              subst hc3
              have hst2 : ¬ ((3 : Nat) : Int) < 3 := by decide
              obtain ⟨s, hs1, hs2, hs3⟩ := CC.out.mem
              have h0 := HN4.out 0 (by decide)
              have h1 := HN4.out 1 (by decide)
              have h2 := HN4.out 2 (by decide)
              have hcnt : s.cnt = 28 := by rw [hs3, h0, h1, h2]; rfl
              have HS1 := Lib.hid hs1
              have HS2 := Lib.hid hs2
              have HCB : Hid (∀ i, i < 34 → wr.cell? ⟨bw, i, none⟩ = some (.int .u64 (sF.ws i))) := Lib.hid (fun i hi => CC.out.old.some (HCF.out i hi) (by omega))
              have HWB : Hid (∀ i, i < 16 → s.ws i = sF.ws i) := Lib.hid (fun i hi => by
                rw [hs2]
                unfold wsum
                rw [if_neg (by omega)]
                rfl)
              have KD : Kept wr wr.drew := (Kept.refl _).drew
              have CNT := fun W (k : Kept wr W) => Lib.hid (show Calls Tryz.prog 26 #[.pointer (some ⟨M, 0, none⟩)] W fun e w' => e = .returned (.int .i64 28) ∧ W = w' from by have h := p_count M B 34 s W (pmem_kept hs1 k); rwa [hcnt] at h)
              clear hs1 hs2 hs3 hcnt h0 h1 h2
              go_upto_region 29 with fail
              refine wp_region_held_drew (S := fun _ => True) (by kernel_rfl) ?_ (fun hHeld => ?_)
              · trivial
              refine take_on (i := 0) (oi := ?_) (v := ?_) ?_ (by kernel_rfl) ?_ ?_ ?_ hHeld ?_; rotate_left 2; (focus (simp only [List.getElem?_toArray, List.getElem?_cons_zero]; exact rfl)); (focus (rfl)); (focus (intro w hSw; (try dsimp only at hSw); go_simp <;> with_reducible rfl)); (focus (exact fun _ _ _ h => h)); simp only [Act.put, List.setIfInBounds_toArray, List.set_cons_zero, List.set_cons_succ]
              refine take_on (i := 1) (oi := ?_) (v := ?_) ?_ (by kernel_rfl) ?_ ?_ ?_ hHeld ?_; rotate_left 2; (focus (simp only [List.getElem?_toArray, List.getElem?_cons_succ, List.getElem?_cons_zero]; exact rfl)); (focus (rfl)); (focus (intro w hSw; (try dsimp only at hSw); go_simp <;> with_reducible rfl)); (focus (exact fun _ _ _ h => h)); simp only [Act.put, List.setIfInBounds_toArray, List.set_cons_zero, List.set_cons_succ]
              refine take_on (i := 2) (oi := ?_) (v := ?_) ?_ (by kernel_rfl) ?_ ?_ ?_ hHeld ?_; rotate_left 2; (focus (simp only [List.getElem?_toArray, List.getElem?_cons_succ, List.getElem?_cons_zero]; exact rfl)); (focus (rfl)); (focus (intro w hSw; (try dsimp only at hSw); go_simp <;> with_reducible rfl)); (focus (exact fun _ _ _ h => h)); simp only [Act.put, List.setIfInBounds_toArray, List.set_cons_zero, List.set_cons_succ]
              refine take_on (i := 5) (oi := ?_) (v := ?_) ?_ (by kernel_rfl) ?_ ?_ ?_ hHeld ?_; rotate_left 2; (focus (simp only [List.getElem?_toArray, List.getElem?_cons_succ, List.getElem?_cons_zero]; exact rfl)); (focus (rfl)); (focus (intro w hSw; (try dsimp only at hSw); go_simp <;> with_reducible rfl)); (focus (exact fun _ _ _ h => h)); simp only [Act.put, List.setIfInBounds_toArray, List.set_cons_zero, List.set_cons_succ]
              refine take_on (i := 6) (oi := ?_) (v := ?_) ?_ (by kernel_rfl) ?_ ?_ ?_ hHeld ?_; rotate_left 2; (focus (simp only [List.getElem?_toArray, List.getElem?_cons_succ, List.getElem?_cons_zero]; exact rfl)); (focus (rfl)); (focus (intro w hSw; (try dsimp only at hSw); go_simp <;> with_reducible rfl)); (focus (exact fun _ _ _ h => h)); simp only [Act.put, List.setIfInBounds_toArray, List.set_cons_zero, List.set_cons_succ]
              refine wpAnyH_ready (rs := [3]) (by decide +kernel) (by simp) ?_
              refine AllReadyH.cons (o := ?_) ?_ ?_ AllReadyH.nil
              rotate_left 1
              · simp only [List.getElem?_toArray, List.getElem?_cons_succ, List.getElem?_cons_zero]; exact rfl
              intro K hK
              go_simp
              go_at_call 29; refine Calls.mono (p_full M B 34 s _ (pmem_kept HS1.out KD)) ?_; rintro e wA ⟨rfl, bA, cA, kA⟩; have KA : Kept wr wA := KD.trans kA
              go_wp2_with fail
              clear hHeld
              refine hK.out _ _ ?_ (fun hHeld => ?_)
              · trivial
              clear hK K
              try simp only [Act.put, List.setIfInBounds_toArray, List.set_cons_zero, List.set_cons_succ]
              refine take_on (i := 4) (oi := ?_) (v := ?_) ?_ (by kernel_rfl) ?_ ?_ ?_ hHeld ?_; rotate_left 2; (focus (simp only [List.getElem?_toArray, List.getElem?_cons_succ, List.getElem?_cons_zero]; exact rfl)); (focus (rfl)); (focus (intro w hSw; (try dsimp only at hSw); go_simp <;> with_reducible rfl)); (focus (exact fun _ _ _ h => h)); simp only [Act.put, List.setIfInBounds_toArray, List.set_cons_zero, List.set_cons_succ]
              refine wpAnyH_ready (rs := [7]) (by decide +kernel) (by simp) ?_
              refine AllReadyH.cons (o := ?_) ?_ ?_ AllReadyH.nil
              rotate_left 1
              · simp only [List.getElem?_toArray, List.getElem?_cons_succ, List.getElem?_cons_zero]; exact rfl
              intro K hK
              go_simp
              go_at_call 28; refine Calls.mono (Wo.sameWords_yes _ 0 _ _ 0 _ 16 (fun i => s.ws i) wA (by decide) (fun i hi => by rw [Nat.zero_add]; exact cA i (by omega)) (fun i hi => by rw [Nat.zero_add]; have h := KA.some (HCB.out i (by omega)); rwa [← HWB.out i hi] at h)) ?_; rintro e wB ⟨rfl, kB⟩; have KB : Kept wr wB := KA.trans (kept_of kB)
              go_wp2_with fail
              clear hHeld
              refine hK.out _ _ ?_ (fun hHeld => ?_)
              · trivial
              clear hK K
              try simp only [Act.put, List.setIfInBounds_toArray, List.set_cons_zero, List.set_cons_succ]
              refine take_on (i := 8) (oi := ?_) (v := ?_) ?_ (by kernel_rfl) ?_ ?_ ?_ hHeld ?_; rotate_left 2; (focus (simp only [List.getElem?_toArray, List.getElem?_cons_succ, List.getElem?_cons_zero]; exact rfl)); (focus (rfl)); (focus (intro w hSw; (try dsimp only at hSw); go_simp <;> with_reducible rfl)); (focus (exact fun _ _ _ h => h)); simp only [Act.put, List.setIfInBounds_toArray, List.set_cons_zero, List.set_cons_succ]
              refine take_on (i := 9) (oi := ?_) (v := ?_) ?_ (by kernel_rfl) ?_ ?_ ?_ hHeld ?_; rotate_left 2; (focus (simp only [List.getElem?_toArray, List.getElem?_cons_succ, List.getElem?_cons_zero]; exact rfl)); (focus (rfl)); (focus (intro w hSw; (try dsimp only at hSw); go_simp <;> with_reducible rfl)); (focus (exact fun _ _ _ h => h)); simp only [Act.put, List.setIfInBounds_toArray, List.set_cons_zero, List.set_cons_succ]
              refine take_on (i := 10) (oi := ?_) (v := ?_) ?_ (by kernel_rfl) ?_ ?_ ?_ hHeld ?_; rotate_left 2; (focus (simp only [List.getElem?_toArray, List.getElem?_cons_succ, List.getElem?_cons_zero]; exact rfl)); (focus (rfl)); (focus (intro w hSw; (try dsimp only at hSw); go_simp <;> with_reducible rfl)); (focus (exact fun _ _ _ h => h)); simp only [Act.put, List.setIfInBounds_toArray, List.set_cons_zero, List.set_cons_succ]
              refine wpAnyH_ready (rs := [11]) (by decide +kernel) (by simp) ?_
              refine AllReadyH.cons (o := ?_) ?_ ?_ AllReadyH.nil
              rotate_left 1
              · simp only [List.getElem?_toArray, List.getElem?_cons_succ, List.getElem?_cons_zero]; exact rfl
              intro K hK
              go_simp
              go_at_call 26; refine Calls.mono (CNT _ KB).out ?_; rintro e _ ⟨rfl, rfl⟩
              go_wp2_with fail
              clear hHeld
              refine hK.out _ _ ?_ (fun hHeld => ?_)
              · trivial
              clear hK K
              try simp only [Act.put, List.setIfInBounds_toArray, List.set_cons_zero, List.set_cons_succ]
              refine wpAnyH_ready (rs := [12]) (by decide +kernel) (by simp) ?_
              refine AllReadyH.cons (o := ?_) ?_ ?_ AllReadyH.nil
              rotate_left 1
              · simp only [List.getElem?_toArray, List.getElem?_cons_succ, List.getElem?_cons_zero]; exact rfl
              intro K hK
              go_simp
              go_at_call 46; refine Calls.mono (FL _).out ?_; rintro e wC ⟨rfl, kC⟩; have KC : Kept wr wC := KB.trans kC
              go_wp2_with fail
              clear hHeld
              refine hK.out _ _ ?_ (fun hHeld => ?_)
              · trivial
              clear hK K
              try simp only [Act.put, List.setIfInBounds_toArray, List.set_cons_zero, List.set_cons_succ]
              refine take_on (i := 13) (oi := ?_) (v := ?_) ?_ (by kernel_rfl) ?_ ?_ ?_ hHeld ?_; rotate_left 2; (focus (simp only [List.getElem?_toArray, List.getElem?_cons_succ, List.getElem?_cons_zero]; exact rfl)); (focus (rfl)); (focus (intro w hSw; (try dsimp only at hSw); go_simp <;> with_reducible rfl)); (focus (exact fun _ _ _ h => h)); simp only [Act.put, List.setIfInBounds_toArray, List.set_cons_zero, List.set_cons_succ]
              refine take_on (i := 14) (oi := ?_) (v := ?_) ?_ (by kernel_rfl) ?_ ?_ ?_ hHeld ?_; rotate_left 2; (focus (simp only [List.getElem?_toArray, List.getElem?_cons_succ, List.getElem?_cons_zero]; exact rfl)); (focus (rfl)); (focus (intro w hSw; (try dsimp only at hSw); go_simp <;> with_reducible rfl)); (focus (exact fun _ _ _ h => h)); simp only [Act.put, List.setIfInBounds_toArray, List.set_cons_zero, List.set_cons_succ]
              refine take_on (i := 15) (oi := ?_) (v := ?_) ?_ (by kernel_rfl) ?_ ?_ ?_ hHeld ?_; rotate_left 2; (focus (simp only [List.getElem?_toArray, List.getElem?_cons_succ, List.getElem?_cons_zero]; exact rfl)); (focus (rfl)); (focus (intro w hSw; (try dsimp only at hSw); go_simp <;> with_reducible rfl)); (focus (exact fun _ _ _ h => h)); simp only [Act.put, List.setIfInBounds_toArray, List.set_cons_zero, List.set_cons_succ]
              refine take_on (i := 16) (oi := ?_) (v := ?_) ?_ (by kernel_rfl) ?_ ?_ ?_ hHeld ?_; rotate_left 2; (focus (simp only [List.getElem?_toArray, List.getElem?_cons_succ, List.getElem?_cons_zero]; exact rfl)); (focus (rfl)); (focus (intro w hSw; (try dsimp only at hSw); go_simp <;> with_reducible rfl)); (focus (exact fun _ _ _ h => h)); simp only [Act.put, List.setIfInBounds_toArray, List.set_cons_zero, List.set_cons_succ]
              refine wpAnyH_done (by kernel_rfl) ?_ _
              go_wp2
              go_ret
              exact ⟨rfl, CC.out.kept.trans KC⟩
theorem lays_law {ka ja ha la : Option Addr} {kl kc jl jc hl hc ll lc : Nat} {w : World} (h0 : ∃ f : Nat → Int, Row w ka kl kc f) (h1 : ∃ f : Nat → Int, Row w ja jl jc f) (h2 : ∃ f : Nat → Int, Row w ha hl hc f) (h3 : ∃ f : Nat → Int, Row w la ll lc f) : Calls Tryz.prog 6 #[.slice ka kl kc, .slice ja jl jc, .slice ha hl hc, .slice la ll lc] w fun e w' => e = .returned (.bool true) ∧ Kept w w' := by
  obtain ⟨f0, r0⟩ := h0
  obtain ⟨f1, r1⟩ := h1
  obtain ⟨f2, r2⟩ := h2
  obtain ⟨f3, r3⟩ := h3
  exact lays_any ka ja ha la kl kc jl jc hl hc ll lc f0 f1 f2 f3 w r0 r1 r2 r3
end Go.Proofs.YtejiogggocnldaaGreat.Tw.Ly
