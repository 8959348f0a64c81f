/- these, below, after: sets that are made. -/
import Derived.Test.YtbfmmndpboagdaaGreatDoorGP1
import Derived.Deep.AppendSrc
import Derived.Deep.RegionLaw
namespace Go.Proofs.YtbfmmndpboagdaaGreatDoor.Po
set_option maxRecDepth 20000
open Go.RowKit
attribute [local go_sem ↓] ld_named st_named lv_named ix_named zv_named

theorem setOf_take {s : List Int} {k i : Nat} (h : s[k]? = some (i : Int)) (j : Nat) : upd (setOf (s.take k)) i true j = setOf (s.take (k + 1)) j := by
  have hk := (List.getElem?_eq_some_iff.1 h).1
  have e : s.take (k + 1) = s.take k ++ [(i : Int)] := by
    rw [List.take_add_one, h]
    rfl
  unfold upd setOf
  rw [e]
  by_cases hj : (j : Int) = i
  · rw [if_pos hj, hj]; simp
  · rw [if_neg hj]; simp [hj]

set_option maxRecDepth 100000 in
set_option maxHeartbeats 2000000 in
theorem these_any {w : World} {a : Option Addr} {n c : Nat} {s : List Int} (h : Lay w (.slice a n c) n (ints s)) (hn : n = s.length) (hs : s.any noIdx = false) :
    Calls Tryz.prog 96 #[.slice a n c] w fun e w' => ∃ R, e = .returned (.agg R) ∧ Ws R (setOf s) ∧ Kept w w' := by
  obtain ⟨a', c', e, hnc, hcm⟩ := h.form
  cases e
  unfold maxLen at hcm
  obtain ⟨Z, hZ, hz⟩ := zeroed
  have IX := Lib.hid (any_noIdx.1 hs)
  have CE := Lib.hid (fun W (k : Kept w W) i x hx => lay_one (h.kept k) hn i x hx)
  have HN := Lib.hid hn
  have k1 : Kept w ((w.alloc (.cells Z 156)).alloc (.cells Z 156)) := ((Kept.refl w).alloc _ _).alloc _ _
  have b1 : WsAt ((w.alloc (.cells Z 156)).alloc (.cells Z 156)) w.heap.size Z := (WsAt.new w Z _ hZ.size hZ.one _ rfl).kept ((Kept.refl _).alloc _ _)
  have b2 : WsAt ((w.alloc (.cells Z 156)).alloc (.cells Z 156)) (w.heap.size + 1) Z := WsAt.new _ Z _ hZ.size hZ.one _ (by simp)
  have HZ := Lib.hid hZ
  have K1 := Lib.hid k1
  have B1 := Lib.hid b1
  have B2 := Lib.hid b2
  clear h hn hs k1 b1 b2 hZ
  go_enter Tryz.func96, Tryz.ntmps96
  go_wp2
  go_loopw [8] (fun i wr => ∃ (k : Nat) (Rk : Array Value), i = .int .i64 k ∧ k ≤ n ∧ Ws Rk (setOf (s.take k)) ∧ WsAt wr (w.heap.size + 1) Rk ∧ WsAt wr w.heap.size Z ∧ Kept w wr) (fun i _ => n - (intOf i).toNat)
  case atStart => exact ⟨0, Z, rfl, Nat.zero_le _, HZ.out.congr (fun i _ => by simp [setOf]), B2.out, B1.out, K1.out⟩
  case round =>
    obtain ⟨k, Rk, rfl, hkn, hWs, hb2, hb1, hk⟩ := hrel
    have KE := Lib.hid hk
    have WSK := Lib.hid hWs
    have LB2 := Lib.hid hb2
    have LB1 := Lib.hid hb1
    clear hk hWs hb1 hb2
    by_cases hlt : k < n
    · obtain ⟨x, hx⟩ : ∃ x, s[k]? = some x := ⟨_, List.getElem?_eq_getElem (by rw [← HN.out]; omega)⟩
      obtain ⟨i, hi, e⟩ := IX.out x (List.mem_iff_getElem?.2 ⟨k, hx⟩)
      subst e
      obtain ⟨g, o, rfl, c0⟩ := CE.out _ KE.out k _ hx
      have HX := Lib.hid hx
      have ld := ws_ld LB2.out
      have WI := Lib.hid (fun W => with_any WSK.out i hi W)
      clear hx
      go_wp2_with fail; refine (WI.out _).mono ?_; rintro e w1 ⟨R1, rfl, hR1, k1⟩
      obtain ⟨w2, run2, but2, big2, s2⟩ := ws_st (LB2.out.kept k1) hR1.size hR1.one
      have H1 := Lib.hid (LB1.out.kept k1 |>.but but2 (by omega))
      have H2 := Lib.hid big2
      have H3 := Lib.hid ((KE.out.trans k1).wrote1_Po but2 (by omega))
      have H4 := Lib.hid hR1
      clear k1 but2 big2 s2 hR1 ld
      go_wp2
      go_roundw
      case rel => exact ⟨k + 1, R1, by go_num, by omega, H4.out.congr (fun j _ => setOf_take HX.out j), H2.out, H1.out, H3.out⟩
      case measure => simp [intOf]; omega
    · obtain rfl : k = n := by omega
      have hall : s.take k = s := by rw [HN.out]; exact List.take_length
      have ld := ws_ld LB2.out
      obtain ⟨w2, run2, but2, big2, s2⟩ := ws_st LB1.out WSK.out.size WSK.out.one
      have RS := Lib.hid (show Ws Rk (setOf s) by have := WSK.out; rw [hall] at this; exact this)
      have KK := Lib.hid (KE.out.wrote1_Po but2 (Nat.le_refl _))
      clear but2 s2 hall
      go_wp2
      exact bodyPost_ret (v := .agg Rk) (ws_result Tryz.results96 rfl big2) rfl ⟨Rk, rfl, RS.out, KK.out⟩

def first (n : Nat) : Nat → Bool := fun i => decide (i < n)
theorem first_succ (k j : Nat) : upd (first k) k true j = first (k + 1) j := by
  unfold upd first
  by_cases hj : (j : Int) = k
  · rw [if_pos hj]; simp; omega
  · rw [if_neg hj, Bool.eq_iff_iff]; simp; omega

set_option maxRecDepth 100000 in
set_option maxHeartbeats 2000000 in
theorem below_any (n : Nat) (hn : n ≤ 1024) (w : World) :
    Calls Tryz.prog 87 #[.int .i64 n] w fun e w' => ∃ R, e = .returned (.agg R) ∧ Ws R (first n) ∧ Kept w w' := by
  obtain ⟨Z, hZ, hz⟩ := zeroed
  have k1 : Kept w ((w.alloc (.cells Z 156)).alloc (.cells Z 156)) := ((Kept.refl w).alloc _ _).alloc _ _
  have b1 : WsAt ((w.alloc (.cells Z 156)).alloc (.cells Z 156)) w.heap.size Z := (WsAt.new w Z _ hZ.size hZ.one _ rfl).kept ((Kept.refl _).alloc _ _)
  have b2 : WsAt ((w.alloc (.cells Z 156)).alloc (.cells Z 156)) (w.heap.size + 1) Z := WsAt.new _ Z _ hZ.size hZ.one _ (by simp)
  have HZ := Lib.hid hZ
  have K1 := Lib.hid k1
  have B1 := Lib.hid b1
  have B2 := Lib.hid b2
  clear k1 b1 b2 hZ
  go_enter Tryz.func87, Tryz.ntmps87
  go_wp2
  go_loopw [6] (fun i wr => ∃ (k : Nat) (Rk : Array Value), i = .int .i64 k ∧ k ≤ n ∧ Ws Rk (first k) ∧ WsAt wr (w.heap.size + 1) Rk ∧ WsAt wr w.heap.size Z ∧ Kept w wr) (fun i _ => n - (intOf i).toNat)
  case atStart => exact ⟨0, Z, rfl, Nat.zero_le _, HZ.out.congr (fun i _ => by simp [first]), B2.out, B1.out, K1.out⟩
  case round =>
    obtain ⟨k, Rk, rfl, hkn, hWs, hb2, hb1, hk⟩ := hrel
    have KE := Lib.hid hk
    have WSK := Lib.hid hWs
    have LB2 := Lib.hid hb2
    have LB1 := Lib.hid hb1
    clear hk hWs hb1 hb2
    by_cases hlt : k < n
    · have ld := ws_ld LB2.out
      have WI := Lib.hid (fun W => with_any WSK.out k (by omega) W)
      go_wp2_with fail; refine (WI.out _).mono ?_; rintro e w1 ⟨R1, rfl, hR1, k1⟩
      obtain ⟨w2, run2, but2, big2, s2⟩ := ws_st (LB2.out.kept k1) hR1.size hR1.one
      have H1 := Lib.hid (LB1.out.kept k1 |>.but but2 (by omega))
      have H2 := Lib.hid big2
      have H3 := Lib.hid ((KE.out.trans k1).wrote1_Po but2 (by omega))
      have H4 := Lib.hid hR1
      clear k1 but2 big2 s2 hR1 ld
      go_wp2
      go_roundw
      case rel => exact ⟨k + 1, R1, by go_num, by omega, H4.out.congr (fun j _ => first_succ k j), H2.out, H1.out, H3.out⟩
      case measure => simp [intOf]; omega
    · obtain rfl : k = n := by omega
      have ld := ws_ld LB2.out
      obtain ⟨w2, run2, but2, big2, s2⟩ := ws_st LB1.out WSK.out.size WSK.out.one
      have KK := Lib.hid (KE.out.wrote1_Po but2 (Nat.le_refl _))
      clear but2 s2
      go_wp2
      exact bodyPost_ret (v := .agg Rk) (ws_result Tryz.results87 rfl big2) rfl ⟨Rk, rfl, WSK.out, KK.out⟩

def Fits (o : Opn) (x : Ann) : Prop := (x.e = 0 → o.k = 7 → ∃ i : Nat, i < 1024 ∧ x.n = i) ∧ (x.e = 0 → o.k = 8 → ∃ i : Nat, i < 1024 ∧ o.a = i)

set_option maxRecDepth 100000 in
set_option maxHeartbeats 2000000 in
theorem after_any {R : Array Value} {M : Nat → Bool} (hR : Ws R M) (o : Opn) (x : Ann) (hf : Fits o x) (w : World) :
    Calls Tryz.prog 98 #[.agg R, .agg #[.int .i64 o.k, .int .i64 o.a, .int .i64 o.b, .int .u64 o.u], .agg #[.int .i64 x.e, .int .i64 x.n, .int .u64 x.v]] w fun e w' => ∃ R', e = .returned (.agg R') ∧ Ws R' (aft M o x) ∧ Kept w w' := by
  obtain ⟨Z, hZ, hz⟩ := zeroed
  obtain ⟨ok, oa, ob, ou⟩ := o
  obtain ⟨xe, xn, xv⟩ := x
  simp only [] at hf ⊢
  have k4 : Kept w ((((w.alloc (.cells R 156)).alloc (.cells #[.int .i64 ok, .int .i64 oa, .int .i64 ob, .int .u64 ou] 24)).alloc (.cells #[.int .i64 xe, .int .i64 xn, .int .u64 xv] 27)).alloc (.cells Z 156)) := ((((Kept.refl w).alloc _ _).alloc _ _).alloc _ _).alloc _ _
  have b3 : WsAt ((((w.alloc (.cells R 156)).alloc (.cells #[.int .i64 ok, .int .i64 oa, .int .i64 ob, .int .u64 ou] 24)).alloc (.cells #[.int .i64 xe, .int .i64 xn, .int .u64 xv] 27)).alloc (.cells Z 156)) w.heap.size R :=
    (WsAt.new w R _ hR.size hR.one _ rfl).kept ((((Kept.refl _).alloc _ _).alloc _ _).alloc _ _)
  have b4 : WsAt ((((w.alloc (.cells R 156)).alloc (.cells #[.int .i64 ok, .int .i64 oa, .int .i64 ob, .int .u64 ou] 24)).alloc (.cells #[.int .i64 xe, .int .i64 xn, .int .u64 xv] 27)).alloc (.cells Z 156)) (w.heap.size + 1 + 1 + 1) Z := WsAt.new _ Z _ hZ.size hZ.one _ (by simp)
  have ld := ws_ld b3
  have K4 := Lib.hid k4
  have B4 := Lib.hid b4
  have F := Lib.hid hf
  have WR := Lib.hid hR
  clear k4 b3 b4 hf hR hZ
  by_cases he : xe = 0
  · subst he
    by_cases h7 : ok = 7
    · subst h7
      obtain ⟨i, hi, e⟩ := F.out.1 rfl rfl
      have e : xn = i := e
      subst e
      have WI := Lib.hid (fun W => without_any WR.out i hi W)
      go_enter Tryz.func98, Tryz.ntmps98
      go_wp2_with fail; refine (WI.out _).mono ?_; rintro e w1 ⟨R1, rfl, hR1, k1⟩
      obtain ⟨w2, run2, but2, big2, s2⟩ := ws_st (B4.out.kept k1) hR1.size hR1.one
      have KK := Lib.hid ((K4.out.trans k1).wrote1_Po but2 (by omega))
      have H4 := Lib.hid hR1
      clear k1 but2 s2 hR1 ld
      go_wp2
      exact bodyPost_ret (v := .agg R1) (ws_result Tryz.results98 rfl big2) rfl ⟨R1, rfl, by simpa [aft] using H4.out, KK.out⟩
    · by_cases h8 : ok = 8
      · subst h8
        obtain ⟨i, hi, e⟩ := F.out.2 rfl rfl
        have e : oa = i := e
        subst e
        have WI := Lib.hid (fun W => with_any WR.out i hi W)
        go_enter Tryz.func98, Tryz.ntmps98
        go_wp2_with fail; refine (WI.out _).mono ?_; rintro e w1 ⟨R1, rfl, hR1, k1⟩
        obtain ⟨w2, run2, but2, big2, s2⟩ := ws_st (B4.out.kept k1) hR1.size hR1.one
        have KK := Lib.hid ((K4.out.trans k1).wrote1_Po but2 (by omega))
        have H4 := Lib.hid hR1
        clear k1 but2 s2 hR1 ld
        go_wp2
        exact bodyPost_ret (v := .agg R1) (ws_result Tryz.results98 rfl big2) rfl ⟨R1, rfl, by simpa [aft] using H4.out, KK.out⟩
      · obtain ⟨w2, run2, but2, big2, s2⟩ := ws_st B4.out WR.out.size WR.out.one
        have KK := Lib.hid (K4.out.wrote1_Po but2 (by omega))
        have RR := Lib.hid (show Ws R (aft M ⟨ok, oa, ob, ou⟩ ⟨0, xn, xv⟩) by simpa [aft, h7, h8] using WR.out)
        have d7 : (ok == 7) = false := by simpa using h7
        have d8 : (ok == 8) = false := by simpa using h8
        clear but2 s2 h7 h8
        go_enter Tryz.func98, Tryz.ntmps98
        go_wp2
        exact bodyPost_ret (v := .agg R) (ws_result Tryz.results98 rfl big2) rfl ⟨R, rfl, RR.out, KK.out⟩
  · obtain ⟨w2, run2, but2, big2, s2⟩ := ws_st B4.out WR.out.size WR.out.one
    have KK := Lib.hid (K4.out.wrote1_Po but2 (by omega))
    have RR := Lib.hid (show Ws R (aft M ⟨ok, oa, ob, ou⟩ ⟨xe, xn, xv⟩) by simpa [aft, he] using WR.out)
    have d0 : (xe == 0) = false := by simpa using he
    clear but2 s2 he
    go_enter Tryz.func98, Tryz.ntmps98
    go_wp2
    exact bodyPost_ret (v := .agg R) (ws_result Tryz.results98 rfl big2) rfl ⟨R, rfl, RR.out, KK.out⟩
end Go.Proofs.YtbfmmndpboagdaaGreatDoor.Po

namespace Go.Proofs.YtbfmmndpboagdaaGreatDoor.Po
set_option maxRecDepth 20000
open Go.RowKit Go.Shelf
attribute [local go_sem] Oper.semAt_some

def appSem (ts : Array TypeId) (ty : TypeId) (args : Array Value) : Sem Value := Builtin.append_ ts ty args
theorem app_named (ts : Array TypeId) (ty : TypeId) (args : Array Value) : Builtin.append_ ts ty args = appSem ts ty args := rfl
def slSem (t : TypeId) (v : Value) (lo hi mx : Option Value) : Sem Value := Instr.sliceAt t v lo hi mx
theorem sl_named (t : TypeId) (v : Value) (lo hi mx : Option Value) : Instr.sliceAt t v lo hi mx = slSem t v lo hi mx := rfl
attribute [local go_sem ↓] ld_named st_named lv_named ix_named zv_named app_named sl_named

theorem elemA : Tryz.prog.elem 128 = 27 := by kernel_rfl
theorem run_headA (a : Option Addr) (n c m : Nat) (hm : m ≤ c) (w : World) : (slSem 128 (.slice a n c) none (some (.int .i64 m)) none).run Tryz.prog w = .ok (.slice a m c) w := by
  obtain ⟨i0, hi, hz0, hz1, hz2⟩ := info_parts infoA
  unfold slSem
  have e : Instr.sliceAt 128 (.slice a n c) none (some (.int .i64 m)) none = Instr.sliceAt 128 (.slice a n c) none (some (.int .i64 m)) none := rfl
  have hs : (Instr.sliceAt 128 (.slice a n c) none (some (.int .i64 m)) none).run Tryz.prog w = (Instr.slice 128 (.slice a n c) none (some (.int .i64 m)) none).run Tryz.prog w := by
    simp [Instr.sliceAt, run_underlying Tryz.underlying128]
  rw [hs, run_slice_any (w := w) 128 a n c (by rw [elemA]; exact Tryz.underlying128)]
  by_cases h0 : c = 0
  · subst h0
    obtain rfl : m = 0 := by omega
    simp [Instr.sliceBounds, Instr.sliceBound, asIntOf, elemA, sizeOf, typeInfo, hi, sliced, Result.andThen]
  · simp [Instr.sliceBounds, Instr.sliceBound, asIntOf, hm, elemA, sizeOf, typeInfo, hi, sliced, Result.andThen, h0, Addr.add]

theorem others_end {W W' : World} {B n₀ size k : Nat} {e t : TypeId} {v u : Value} {xs : List Value} (hb : But (fun j => v.ownBlock = some j ∨ j = B) W W') (hrow : W.ownsRow n₀ e size v k xs) (hx : Boxed W B t u) : KeepsOthers W W' :=
  ⟨hb.size, fun i o hi ho => (hb.block i (Array.getElem?_eq_some_iff.1 hi).1 (fun hs => by
    rcases hs with h | rfl
    · rcases hrow.2 with ⟨rfl, _⟩ | ⟨g, cap, cur, rfl, _, hg, _⟩
      · cases h
      · have e' : g = i := by simpa [Value.ownBlock] using h
        subst e'
        rw [hi] at hg
        cases hg
        cases ho
    · have hx' : W.heap[i]? = _ := hx
      rw [hi] at hx'
      cases hx'
      cases ho)).trans hi⟩

theorem ans_append {W : World} {N B : Nat} {v : Value} {L : List Ann} (hrow : OwnA W N v L) (hx : Boxed W B 128 v) (hN : N ≤ W.heap.size) (hB : B < N) (hl : L.length ≤ 2000) (xs : List Ann) (hxs : xs.length ≤ 10) (cs : Array Value) (hcs : cs = (flatA xs).toArray)
    (n k : Nat) (hn : n = L.length) (hk : k = xs.length) :
    ∃ a c w1, (appSem #[128, 128] 128 #[v, .slice (some ⟨W.heap.size, 0, none⟩) k k]).run Tryz.prog (W.alloc (.cells cs 27)) = .ok (.slice a (n + k) c) w1 ∧ n + k ≤ c ∧
      w1.cell? ⟨B, 0, none⟩ = some v ∧ w1.frozen? ⟨B, 0, none⟩ = false ∧ Boxed (w1.setCell ⟨B, 0, none⟩ (.slice a (n + k) c)) B 128 (.slice a (n + k) c) ∧
      OwnA (w1.setCell ⟨B, 0, none⟩ (.slice a (n + k) c)) N (.slice a (n + k) c) (L ++ xs) ∧
      But (fun j => v.ownBlock = some j ∨ j = B) W (w1.setCell ⟨B, 0, none⟩ (.slice a (n + k) c)) ∧ KeepsOthers W (w1.setCell ⟨B, 0, none⟩ (.slice a (n + k) c)) := by
  subst hn
  subst hk
  obtain ⟨i0, hi, hz0, hz1, hz2⟩ := info_parts infoA
  have kA : Kept W (W.alloc (.cells cs 27)) := (Kept.refl W).alloc _ _
  obtain ⟨a, c, w1, hr, own, but, at_⟩ := append_lay (P := Tryz.prog) (W.alloc (.cells cs 27)) N 128 128 27 i0 _ 3 24 Tryz.underlying128 hi hz0 hz1 hz2 (by rfl) (by decide) v L.length (flatA L) (own_kept hrow kA) (.slice (some ⟨W.heap.size, 0, none⟩) xs.length xs.length) xs.length (flatA xs)
    (flatA_length xs) (lay_new (by rw [hcs]; exact heap_alloc_new _ _) (by omega)) (flatA_one _) (by unfold maxLen; omega) (by omega) (by simp; omega)
  rw [app_named] at hr
  have hBW := hx.lt
  have bx1 : Boxed w1 B 128 v := (but.block B (by simp; omega) (fun h => by have := (hrow.lt B h).1; omega)).trans ((kA.below.block B hBW).trans hx)
  have b1 : But (fun j => v.ownBlock = some j ∨ j = B) W w1 := (kA.but _).trans (but.mono fun _ _ h => Or.inl h) (fun _ _ h => h)
  have b2 : But (fun j => v.ownBlock = some j ∨ j = B) W (w1.setCell ⟨B, 0, none⟩ (.slice a (L.length + xs.length) c)) := b1.setCell (p := ⟨B, 0, none⟩) (Or.inl (Or.inr rfl)) _
  have hle : L.length + xs.length ≤ c := by
    rcases own.2 with ⟨hv, h0⟩ | ⟨g, cap, cur, hv, _, _, h1, _⟩
    · have : L.length + xs.length = 0 := h0
      omega
    · have e : c = cap := by injection hv
      rw [e]; exact h1
  refine ⟨a, c, w1, hr, hle, bx1.cell, bx1.frozen, bx1.set _, ?_, b2, others_end b2 hrow hx⟩
  have := own_same (w' := w1.setCell ⟨B, 0, none⟩ (.slice a (L.length + xs.length) c)) own (fun g hg => Below.heap_setCell _ _ _ _ (by have := (own.lt g hg).1; simp; omega))
  show (w1.setCell ⟨B, 0, none⟩ (.slice a (L.length + xs.length) c)).ownsRow N 27 3 _ (L ++ xs).length (flatA (L ++ xs))
  rw [List.length_append, show flatA (L ++ xs) = flatA L ++ flatA xs by simp [flatA]]
  exact this

def gives (l : List Nat) : List Ann := l.map fun (i : Nat) => ⟨0, i, 0⟩
theorem gives_length (l : List Nat) : (gives l).length = l.length := by simp [gives]
theorem gives_snoc (l : List Nat) (x : Nat) : gives (l ++ [x]) = gives l ++ [⟨0, x, 0⟩] := by simp [gives]
theorem outs_alloc {M : Nat → Bool} {o : Opn} (h : o.k = 7) : outs M o = gives (mem M) ++ [⟨7, 0, 0⟩, ⟨12, 0, 0⟩] := by
  unfold outs memI cast gives
  rw [if_pos h, List.map_map]
  rfl

def RetP (w : World) (M : Nat → Bool) (o : Opn) (m : Nat) (ed : Ending) (w' : World) : Prop :=
  ∃ a c F, ed = .returned (.slice a (min m F.length) c) ∧ F.take m = (outs M o).take m ∧ F.length ≤ 1026 ∧ (F.length ≤ m → F = outs M o) ∧ Kept w w' ∧ OwnA w' w.heap.size (.slice a F.length c) F

theorem below_put {n₀ D : Nat} {W : World} {o o' : Obj} (hD : n₀ ≤ D) (hK : W.heap[D]? = some o) : Below n₀ W (W.putObj D o') :=
  (Below.refl n₀ W).grown (grownBy_putObj' W D o') (by have := (Array.getElem?_eq_some_iff.1 hK).1; omega) (fun k e => by cases e; omega)
theorem _root_.Go.Proofs.YtbfmmndpboagdaaGreatDoor.But.below_Po {S : Nat → Prop} {w w' : World} {n : Nat} (h : But S w w') (hn : n ≤ w.heap.size) (hS : ∀ k, S k → n ≤ k) : Below n w w' :=
  ⟨h.os, h.tape, h.output, h.size, fun k hk => h.block k (Nat.lt_of_lt_of_le hk hn) (fun hs => by have := hS k hs; omega)⟩

set_option maxRecDepth 100000 in
set_option maxHeartbeats 8000000 in
theorem poss_alloc {w : World} {R : Array Value} {M : Nat → Bool} (hR : Ws R M) (hT : Tab w) (oa ob ou : Int) (m : Nat) :
    Calls Tryz.prog 95 #[.agg R, .agg #[.int .i64 7, .int .i64 oa, .int .i64 ob, .int .u64 ou], .int .i64 m] w (RetP w M ⟨7, oa, ob, ou⟩ m) := by
  have hg := hT.lt
  have ld0 := ws_ld ((WsAt.new w R 156 hR.size hR.one _ rfl).kept ((((Kept.refl _).alloc #[.int .i64 7, .int .i64 oa, .int .i64 ob, .int .u64 ou] 24).alloc #[.int .i64 m] 3).alloc #[.slice none 0 0] 128))
  refine (callsIn_wide (n := 6)).1 ?_
  refine callsIn_of_wp_marks Tryz.func95 rfl trivial ?_ rfl
  simp only [Tryz.ntmps95, List.size_toArray, List.length_cons, List.length_nil, Nat.reduceAdd, Nat.reduceSub, Array.replicate_succ, Array.replicate_zero, List.push_toArray, List.append_toArray, List.nil_append, List.cons_append]
  rw [wpIn_wide]
  go_wp2_with fail; refine (all_any R).mono ?_; rintro e w' ⟨rfl, rfl⟩
  go_wp2
  obtain ⟨W0, hW0⟩ : ∃ W0, (((((w.alloc (.cells R 156)).alloc (.cells #[.int .i64 7, .int .i64 oa, .int .i64 ob, .int .u64 ou] 24)).alloc (.cells #[.int .i64 m] 3)).alloc (.cells #[.slice none 0 0] 128)).alloc (.cells R 156)) = W0 := ⟨_, rfl⟩
  have z0 : W0.heap.size = w.heap.size + 5 := by rw [← hW0]; simp
  have kW : Kept w W0 := by rw [← hW0]; exact (((((Kept.refl w).alloc _ _).alloc _ _).alloc _ _).alloc _ _).alloc _ _
  have hbx : Boxed W0 (w.heap.size + 1 + 1 + 1) 128 (.slice none 0 0) := by
    rw [← hW0]
    have := ((Boxed.new (((w.alloc (.cells R 156)).alloc (.cells #[.int .i64 7, .int .i64 oa, .int .i64 ob, .int .u64 ou] 24)).alloc (.cells #[.int .i64 m] 3)) 128 (.slice none 0 0)).alloc (.cells R 156))
    simpa using this
  have hBs : WsAt W0 (w.heap.size + 1 + 1 + 1 + 1) R := by rw [← hW0]; exact WsAt.new _ R _ hR.size hR.one _ (by simp)
  have hM0 : W0.cell? ⟨w.heap.size + 1 + 1, 0, none⟩ = some (.int .i64 m) := by rw [← hW0]; exact (((Kept.refl _).alloc _ _).alloc _ _).some (cell_new _ _ _ _ 0 (by simp))
  rw [hW0]
  clear hW0 ld0
  have HR := Lib.hid hR
  have HT := Lib.hid hT
  rename_i K1 K hK0
  have tail : ∀ D' W (L : List Ann) (v : Value), w.heap.size ≤ D' → Boxed W (w.heap.size + 1 + 1 + 1) 128 v → OwnA W (w.heap.size + 5) v L → L.length ≤ 1024 → W.cell? ⟨w.heap.size + 1 + 1, 0, none⟩ = some (.int .i64 m) → Below w.heap.size w W → w.heap.size + 5 ≤ W.heap.size →
      (L ++ [(⟨7, 0, 0⟩ : Ann), ⟨12, 0, 0⟩]).take m = (outs M ⟨7, oa, ob, ou⟩).take m → ((L ++ [(⟨7, 0, 0⟩ : Ann), ⟨12, 0, 0⟩]).length ≤ m → L ++ [(⟨7, 0, 0⟩ : Ann), ⟨12, 0, 0⟩] = outs M ⟨7, oa, ob, ou⟩) → W.heap[D']? = some (.deferred (some [])) →
      K { tmps := #[.agg R, .agg #[.int .i64 7, .int .i64 oa, .int .i64 ob, .int .u64 ou], .int .i64 m, .pointer (some ⟨w.heap.size, 0, none⟩), .pointer (some ⟨w.heap.size + 1, 0, none⟩), .pointer (some ⟨w.heap.size + 1 + 1, 0, none⟩), .slice none 0 0, .pointer (some ⟨w.heap.size + 1 + 1 + 1, 0, none⟩), undef, .pointer (some ⟨w.heap.size + 1, 0, none⟩), .int .i64 7, .bool true, .bool true, .agg R, .func (.func 112) #[] #[.pointer (some ⟨w.heap.size + 1 + 1 + 1 + 1, 0, none⟩)], undef, undef, undef, undef, undef, undef, undef, undef, undef, undef, undef, undef, undef, undef, undef, undef, undef, undef, undef, undef, undef, undef, undef, undef, undef, undef, undef, undef, undef, undef, undef], defers := [{ target := .collected D', args := #[] }] } W := by
    intro D' W L v hD hbv hown hL hM hB hN hF hF2 hK
    obtain ⟨a, c, rfl⟩ := own_form hown
    obtain ⟨n, hn⟩ : ∃ n, n = L.length := ⟨_, rfl⟩
    obtain ⟨a', c', w1, hr, hle, hc1, hf1, hbx', hown', hbut, hko⟩ := ans_append hown hbv hN (by omega) (by omega) [⟨7, 0, 0⟩, ⟨12, 0, 0⟩] (by decide) #[.int .i64 7, .int .i64 0, .int .u64 0, .int .i64 12, .int .i64 0, .int .u64 0] (by rfl) n 2 hn rfl
    have hc0 := hbv.cell
    have hM' := hbut.some hM (fun h => by
      rcases h with h | h
      · have := (hown.lt _ h).1; omega
      · omega)
    have hc2 := hbx'.cell
    have hD1 := hko.same D' _ hK rfl
    have hB1 : Below w.heap.size w (w1.setCell ⟨w.heap.size + 1 + 1 + 1, 0, none⟩ (.slice a' (n + 2) c')) := hB.trans (hbut.below_Po (by omega) (fun k h => by
      rcases h with h | h
      · have := (hown.lt _ h).1; omega
      · omega))
    have hsz : n + 2 ≤ 1026 := by omega
    have HO := Lib.hid hown'
    have HF := Lib.hid hF
    have HF2 := Lib.hid hF2
    have HL := Lib.hid (show (L ++ [(⟨7, 0, 0⟩ : Ann), ⟨12, 0, 0⟩]).length = n + 2 by rw [hn]; simp)
    rw [← hn] at hc0 hr
    clear hown hbut hown' hF hF2 hbx' hko hn hbv
    apply hK0
    have fin : ∀ (r : Nat), r = min m (L ++ [(⟨7, 0, 0⟩ : Ann), ⟨12, 0, 0⟩]).length → RetP w M ⟨7, oa, ob, ou⟩ m (.returned (.slice a' r c')) ((w1.setCell ⟨w.heap.size + 1 + 1 + 1, 0, none⟩ (.slice a' (n + 2) c')).putObj D' (.deferred none)) := fun r hr => by
      have ho := HO.out
      have hl := HL.out
      refine ⟨a', c', _, by rw [← hr], HF.out, by rw [hl]; omega, HF2.out, ⟨hB1.trans (below_put hD hD1)⟩, ?_⟩
      rw [hl]
      have ho' : (w1.setCell ⟨w.heap.size + 1 + 1 + 1, 0, none⟩ (.slice a' (n + 2) c')).ownsRow (w.heap.size + 5) 27 3 (.slice a' (n + 2) c') (L ++ [(⟨7, 0, 0⟩ : Ann), ⟨12, 0, 0⟩]).length (flatA (L ++ [(⟨7, 0, 0⟩ : Ann), ⟨12, 0, 0⟩])) := ho
      exact own_mono (ownsRow_putObj ho' _ hD1 rfl) (Nat.le_add_right _ _)
    by_cases hmn : m ≤ n + 2
    · have rs := fun W => run_headA a' (n + 2) c' m (by omega) W
      have i1 : ¬ ((n : Int) + 2 < (m : Int)) := by omega
      have i2 : ((n + 2 : Nat) : Int) = (n : Int) + 2 := by omega
      go_wp2
      refine ⟨by simp, .inl ⟨_, _, rfl, run_takeDeferred hD1, ?_⟩⟩
      exact ⟨.slice a' m c', by simp [results, Tryz.results95, go_sem], fin m (by rw [HL.out]; omega)⟩
    · have i2 : ((n + 2 : Nat) : Int) = (n : Int) + 2 := by omega
      have rs := fun W => run_headA a' (n + 2) c' (n + 2) (by omega) W
      rw [i2] at rs
      have i1 : ((n : Int) + 2 < (m : Int)) := by omega
      go_wp2
      refine ⟨by simp, .inl ⟨_, _, rfl, run_takeDeferred hD1, ?_⟩⟩
      exact ⟨.slice a' (n + 2) c', by simp [results, Tryz.results95, go_sem], fin (n + 2) (by rw [HL.out]; omega)⟩
  rw [← wpIn_wide (n := 6)]
  refine wpIn_rangeFunc_ownF rfl (by decide) (gf := 112) (lb := #[.pointer (some ⟨w.heap.size + 1 + 1 + 1 + 1, 0, none⟩)]) rfl trivial (enters_of Tryz.func112 (by kernel_rfl) rfl)
    (all_stops 5 (by decide) (w.heap.size + 1 + 1 + 1 + 1) (w.heap.size + 5) (w.heap.size + 1 + 1 + 1) hR (by omega) (by omega) W0 (by omega) hBs (hT.kept kW)) KeepB.trans
    (fun W l o o' hl h _ _ => ⟨by simp [World.putObj], fun k hk _ => (grownBy_putObj' W l o').block k (by have := (Array.getElem?_eq_some_iff.1 h).1; omega) (fun e => by cases e; omega)⟩) (Below.refl _ _) (fun _ => rfl)
    (fun (pre : List Nat) W => ((∃ v, Boxed W (w.heap.size + 1 + 1 + 1) 128 v ∧ W.ownsRow (w.heap.size + 5) 27 3 v (gives pre).length (flatA (gives pre)) ∧ True) ∧ (pre.length ≤ m ∧ W.cell? ⟨w.heap.size + 1 + 1, 0, none⟩ = some (.int .i64 m))) ∧ (Below w.heap.size w W ∧ w.heap.size + 5 ≤ W.heap.size))
    (fun c (pre : List Nat) W => ((∃ v, Boxed W (w.heap.size + 1 + 1 + 1) 128 v ∧ W.ownsRow (w.heap.size + 5) 27 3 v (gives pre.dropLast).length (flatA (gives pre.dropLast)) ∧ True) ∧ ((c = .exit 1 ∧ pre.length = m + 1) ∧ W.cell? ⟨w.heap.size + 1 + 1, 0, none⟩ = some (.int .i64 m))) ∧ (Below w.heap.size w W ∧ w.heap.size + 5 ≤ W.heap.size))
    (OwnFrom.and (OwnFrom.and (Own.from (holdsRow_own (w.heap.size + 5) (w.heap.size + 1 + 1 + 1) 128 27 3 (fun (pre : List Nat) => (gives pre).length) (fun (pre : List Nat) => flatA (gives pre)) (fun _ _ => True)) _) (Own.from (fun s A C row hs hg hr => ⟨hs.1, cell_kept hs.2 hg hr⟩) _)) (OwnFrom.and (ownFrom_below (Nat.le_refl _) (by omega)) (fun _ A C _ hs hg _ => Nat.le_trans hs hg.size)))
    (fun c => OwnFrom.and (OwnFrom.and (Own.from (holdsRow_own (w.heap.size + 5) (w.heap.size + 1 + 1 + 1) 128 27 3 (fun (pre : List Nat) => (gives pre.dropLast).length) (fun (pre : List Nat) => flatA (gives pre.dropLast)) (fun _ _ => True)) _) (Own.from (fun s A C row hs hg hr => ⟨hs.1, cell_kept hs.2 hg hr⟩) _)) (OwnFrom.and (ownFrom_below (Nat.le_refl _) (by omega)) (fun _ A C _ hs hg _ => Nat.le_trans hs hg.size)))
    ⟨⟨⟨_, hbx, World.ownsRow_nil _ _ _ _, trivial⟩, Nat.zero_le _, hM0⟩, kW.below, by omega⟩
    (fun x => { tmps := #[.agg R, .agg #[.int .i64 7, .int .i64 oa, .int .i64 ob, .int .u64 ou], .int .i64 m, .pointer (some ⟨w.heap.size, 0, none⟩), .pointer (some ⟨w.heap.size + 1, 0, none⟩), .pointer (some ⟨w.heap.size + 1 + 1, 0, none⟩), .slice none 0 0, .pointer (some ⟨w.heap.size + 1 + 1 + 1, 0, none⟩), .int .i64 (x : Nat), .pointer (some ⟨w.heap.size + 1, 0, none⟩), .int .i64 7, .bool true, .bool true, .agg R, .func (.func 112) #[] #[.pointer (some ⟨w.heap.size + 1 + 1 + 1 + 1, 0, none⟩)], .int .i64 (x : Nat), undef, undef, undef, undef, undef, undef, undef, undef, undef, undef, undef, undef, undef, undef, undef, undef, undef, undef, undef, undef, undef, undef, undef, undef, undef, undef, undef, undef, undef, undef], defers := [] }) ?assign ?body ?done ?stop
  case assign =>
    intro l x W K hK
    gi_wp2
    exact hK
  case body =>
    rintro l pre x W ⟨⟨⟨v, hv, hrow, _⟩, hp, hM⟩, hB, hN⟩ hlt
    obtain ⟨a, c, rfl⟩ := own_form hrow
    have hc0 := hv.cell
    obtain ⟨n, hn⟩ : ∃ n, n = (gives pre).length := ⟨_, rfl⟩
    have hn' : n = pre.length := by rw [hn, gives_length]
    rw [← hn] at hc0
    by_cases hm : n = m
    · have i1 : ((n : Int) == (m : Int)) = true := by simp; omega
      have HN := Lib.hid hn
      have HN' := Lib.hid hn'
      have HM := Lib.hid hm
      clear hn hn' hm
      gi_wp2
      refine ⟨KeepsOthers.refl _, ⟨⟨_, hv, ?_⟩, ⟨rfl, by have h1 := HN'.out; have h2 := HM.out; rw [List.length_append]; simp; omega⟩, hM⟩, hB, hN⟩
      rw [List.dropLast_concat]
      exact hrow
    · have i1 : ((n : Int) == (m : Int)) = false := by simp; omega
      obtain ⟨a', c', w1, hr, hle, hc1, hf1, hbx', hown', hbut, hko⟩ := ans_append (L := gives pre) hrow hv hN (by omega) (by rw [← hn]; omega) [(⟨0, (x : Int), 0⟩ : Ann)] (by simp) #[.int .i64 0, .int .i64 (x : Nat), .int .u64 0] (by rfl) n 1 hn rfl
      rw [← hn] at hr hc1
      have HN := Lib.hid hn
      have HN' := Lib.hid hn'
      have HM := Lib.hid hm
      clear hn hn' hm
      gi_wp2
      refine ⟨hko, ?_, ⟨⟨_, hbx', ?_⟩, by have h1 := HN'.out; have h2 := HM.out; rw [List.length_append]; simp; omega, ?_⟩, ?_, Nat.le_trans hN hbut.size⟩
      · refine ⟨hbut.size, fun k hk hkB => hbut.block k (by omega) (fun h => ?_)⟩
        rcases h with h | h
        · have := (hrow.lt _ h).1; omega
        · exact hkB h
      · rw [gives_snoc]
        have e : n + 1 = (gives pre ++ [(⟨0, (x : Int), 0⟩ : Ann)]).length := by rw [List.length_append, ← HN.out]; rfl
        rw [e]
        rw [e] at hown'
        exact hown'
      · exact hbut.some hM (fun h => by
          rcases h with h | h
          · have := (hrow.lt _ h).1; omega
          · omega)
      · exact hB.trans (hbut.below_Po (by omega) (fun k h => by
          rcases h with h | h
          · have := (hrow.lt _ h).1; omega
          · omega))
  case done =>
    rintro D' ys W hD rfl ⟨⟨⟨v, hv, hrow, _⟩, hp, hM⟩, hB, hN⟩ hK
    exact tail D' W _ v (by omega) hv hrow (by rw [gives_length]; exact mem_len M) hM hB hN (by rw [outs_alloc rfl]) (fun _ => by rw [outs_alloc rfl]) hK
  case stop =>
    rintro D' c pre W hD ⟨k, hk, rfl⟩ ⟨⟨⟨v, hv, hrow, _⟩, ⟨rfl, hl⟩, hM⟩, hB, hN⟩ hK
    gi_wp2
    have hl' : (memTo M k).length = m + 1 := hl
    have hle := memTo_take M hk
    have e : (memTo M k).dropLast = (mem M).take m := by
      rw [List.dropLast_eq_take, hl', Nat.add_sub_cancel, ← hle, List.take_take, hl']
      show List.take (min m (m + 1)) (mem M) = _
      rw [Nat.min_eq_left (Nat.le_succ m)]
    have e2 : (memTo M k).dropLast.length = m := by rw [List.length_dropLast, hl']; omega
    have hm' : m ≤ (mem M).length := by
      have := congrArg List.length e
      rw [e2, List.length_take] at this
      omega
    exact tail D' W _ v (by omega) hv hrow (by rw [gives_length, e2]; have := mem_len M; omega) hM hB hN
      (by rw [outs_alloc rfl, List.take_append_of_le_length (by rw [gives_length, e2]; exact Nat.le_refl _), List.take_append_of_le_length (by rw [gives_length]; exact hm'), e]; simp [gives, ← List.map_take, List.take_take])
      (fun h => absurd h (by rw [List.length_append, gives_length, e2]; show ¬ (m + 2 ≤ m); omega)) hK

set_option maxRecDepth 100000 in
set_option maxHeartbeats 8000000 in
theorem poss_free {w : World} {R : Array Value} {M : Nat → Bool} (hR : Ws R M) (oa ob ou : Int) (m : Nat) (hm : 1 ≤ m) :
    Calls Tryz.prog 95 #[.agg R, .agg #[.int .i64 8, .int .i64 oa, .int .i64 ob, .int .u64 ou], .int .i64 m] w (RetP w M ⟨8, oa, ob, ou⟩ m) := by
  obtain ⟨mI, hmI⟩ : ∃ mI : Int, mI = m := ⟨_, rfl⟩
  rw [← hmI]
  have FR := Lib.hid (fun W => freed_any hR oa W)
  obtain ⟨r, hr⟩ : ∃ r, r = freed M oa := ⟨_, rfl⟩
  rw [← hr] at FR
  have HO := Lib.hid (show outs M ⟨8, oa, ob, ou⟩ = [⟨r, 0, 0⟩] by rw [hr]; rfl)
  obtain ⟨W0, hW0⟩ : ∃ W0, W0 = ((((w.alloc (.cells R 156)).alloc (.cells #[.int .i64 8, .int .i64 oa, .int .i64 ob, .int .u64 ou] 24)).alloc (.cells #[.int .i64 mI] 3)).alloc (.cells #[.slice none 0 0] 128)) := ⟨_, rfl⟩
  have ld0 : (ldW (.pointer (some ⟨w.heap.size, 0, none⟩))).run Tryz.prog W0.drew = .ok (.agg R) W0.drew := by rw [hW0]; exact ws_ld ((WsAt.new w R 156 hR.size hR.one _ rfl).kept ((((Kept.refl _).alloc _ _).alloc _ _).alloc _ _).drew)
  have k0 : Kept w W0 := by rw [hW0]; exact ((((Kept.refl w).alloc _ _).alloc _ _).alloc _ _).alloc _ _
  have bx : Boxed W0 (w.heap.size + 1 + 1 + 1) 128 (.slice none 0 0) := by
    rw [hW0]
    have := Boxed.new (((w.alloc (.cells R 156)).alloc (.cells #[.int .i64 8, .int .i64 oa, .int .i64 ob, .int .u64 ou] 24)).alloc (.cells #[.int .i64 mI] 3)) 128 (.slice none 0 0)
    simpa using this
  have c1 : W0.cell? ⟨w.heap.size + 1, 1, none⟩ = some (.int .i64 oa) := by rw [hW0]; exact (((Kept.refl _).alloc _ _).alloc _ _).some (cell_new _ _ _ _ 1 (by simp))
  have c2 : W0.cell? ⟨w.heap.size + 1 + 1, 0, none⟩ = some (.int .i64 mI) := by rw [hW0]; exact ((Kept.refl _).alloc _ _).some (cell_new _ _ _ _ 0 (by simp))
  have c3 := bx.cell
  have AP := Lib.hid (fun (v : World) (k : Kept W0 v) => show v.cell? ⟨w.heap.size + 1 + 1 + 1, 0, none⟩ = some (.slice none 0 0) ∧ w.heap.size + 1 + 1 + 1 < v.heap.size ∧ ∃ a c w1, (appSem #[128, 128] 128 #[.slice none 0 0, .slice (some ⟨v.heap.size, 0, none⟩) 1 1]).run Tryz.prog (v.alloc (.cells #[.int .i64 r, .int .i64 0, .int .u64 0] 27)) = .ok (.slice a 1 c) w1 ∧ 1 ≤ c ∧
      w1.cell? ⟨w.heap.size + 1 + 1 + 1, 0, none⟩ = some (.slice none 0 0) ∧ w1.frozen? ⟨w.heap.size + 1 + 1 + 1, 0, none⟩ = false ∧ (w1.setCell ⟨w.heap.size + 1 + 1 + 1, 0, none⟩ (.slice a 1 c)).cell? ⟨w.heap.size + 1 + 1 + 1, 0, none⟩ = some (.slice a 1 c) ∧
      (w1.setCell ⟨w.heap.size + 1 + 1 + 1, 0, none⟩ (.slice a 1 c)).cell? ⟨w.heap.size + 1 + 1, 0, none⟩ = some (.int .i64 mI) ∧
      Hid (RetP w M ⟨8, oa, ob, ou⟩ m (.returned (.slice a 1 c)) (w1.setCell ⟨w.heap.size + 1 + 1 + 1, 0, none⟩ (.slice a 1 c))) by
    have bx1 : Boxed v (w.heap.size + 1 + 1 + 1) 128 (.slice none 0 0) := (k.below.block _ bx.lt).trans bx
    have hsz : w.heap.size + 4 ≤ v.heap.size := by have := k.size; rw [hW0] at this; simp at this; omega
    obtain ⟨a, c, w1, h1, h2, h3, h4, h5, h6, h7, h8⟩ := ans_append (W := v) (N := w.heap.size + 4) (v := .slice none 0 0) (L := []) (World.ownsRow_nil _ _ _ _) bx1 hsz (by omega) (by simp) [⟨r, 0, 0⟩] (by simp) #[.int .i64 r, .int .i64 0, .int .u64 0] (by rfl) 0 1 rfl rfl
    refine ⟨bx1.cell, bx1.lt, a, c, w1, h1, h2, h3, h4, h5.cell, h7.some (k.some c2) (fun h => ?_), ⟨a, c, [⟨r, 0, 0⟩], ?_, by rw [HO.out], by simp, fun _ => HO.out.symm, ?_, own_mono h6 (Nat.le_add_right _ 4)⟩⟩
    · rcases h with h | h
      · cases h
      · omega
    · rw [show min m [(⟨r, 0, 0⟩ : Ann)].length = 1 by simp; omega]
    · exact (k0.trans k).wrote_Po h7 (fun j h => by
        rcases h with h | h
        · cases h
        · omega))
  have HW := Lib.hid hW0
  have rs : ∀ (a : Option Addr) (c : Nat), 1 ≤ c → ∀ W, (slSem 128 (.slice a 1 c) none (some (.int .i64 1)) none).run Tryz.prog W = .ok (.slice a 1 c) W := fun a c h W => run_headA a 1 c 1 h W
  by_cases hm1 : m = 1
  · obtain rfl : mI = 1 := by omega
    clear hmI hm1 hW0 hr k0 hR bx hm
    go_enter Tryz.func95, Tryz.ntmps95
    go_upto_region 11 with fail
    rw [← HW.out]
    go_region_law (first | (go_simp; go_at_call 109; refine (FR.out _).mono ?_; rintro e v1 ⟨rfl, k1⟩; obtain ⟨h0, hlt, a, c, w1, h1, h2, h3, h4, h5, h6, h7⟩ := AP.out v1 (Kept.trans (by repeat (first | (with_reducible exact Kept.refl _) | (with_reducible refine Kept.drew ?_) | (with_reducible refine Kept.drewN ?_ _))) k1); have rs1 := rs a c h2; clear k1))
    all_goals go_wp2
    all_goals (go_ret; exact h7.out)
  · have i1 : (1 : Int) < mI := by omega
    clear hmI hW0 hr k0 hR bx hm hm1
    go_enter Tryz.func95, Tryz.ntmps95
    go_upto_region 11 with fail
    rw [← HW.out]
    go_region_law (first | (go_simp; go_at_call 109; refine (FR.out _).mono ?_; rintro e v1 ⟨rfl, k1⟩; obtain ⟨h0, hlt, a, c, w1, h1, h2, h3, h4, h5, h6, h7⟩ := AP.out v1 (Kept.trans (by repeat (first | (with_reducible exact Kept.refl _) | (with_reducible refine Kept.drew ?_) | (with_reducible refine Kept.drewN ?_ _))) k1); have rs1 := rs a c h2; clear k1))
    all_goals go_wp2
    all_goals (go_ret; exact h7.out)

set_option maxHeartbeats 1000000 in
theorem poss_none {w : World} {R : Array Value} {M : Nat → Bool} (ok oa ob ou : Int) (m : Nat) (h7 : ok ≠ 7) (h8 : ok ≠ 8) :
    Calls Tryz.prog 95 #[.agg R, .agg #[.int .i64 ok, .int .i64 oa, .int .i64 ob, .int .u64 ou], .int .i64 m] w (RetP w M ⟨ok, oa, ob, ou⟩ m) := by
  have HO := Lib.hid (show outs M ⟨ok, oa, ob, ou⟩ = [] by simp [outs, h7, h8])
  have d7 : (ok == 7) = false := by simpa using h7
  have d8 : (ok == 8) = false := by simpa using h8
  clear h7 h8
  go_enter Tryz.func95, Tryz.ntmps95
  go_wp2
  go_ret
  exact ⟨none, 0, [], by simp, by rw [HO.out], by simp, fun _ => HO.out.symm, by (go_light; repeat (first | (with_reducible exact Kept.refl _) | (with_reducible assumption) | (with_reducible refine Kept.alloc ?_ _ _) | (with_reducible refine Kept.drew ?_) | (with_reducible refine Kept.drewN ?_ _) | ((with_reducible refine Kept.setCell ?_ ?_ _); rotate_left; focus (first | (simp; done) | (simp; omega))) | refine Kept.trans ?_ (by assumption))), World.ownsRow_nil _ _ _ _⟩

theorem poss_any {w : World} {R : Array Value} {M : Nat → Bool} (hR : Ws R M) (hT : Tab w) (o : Opn) (m : Nat) (hm : 1 ≤ m) :
    Calls Tryz.prog 95 #[.agg R, .agg #[.int .i64 o.k, .int .i64 o.a, .int .i64 o.b, .int .u64 o.u], .int .i64 m] w (RetP w M o m) := by
  obtain ⟨ok, oa, ob, ou⟩ := o
  by_cases h7 : ok = 7
  · subst h7; exact poss_alloc hR hT oa ob ou m
  · by_cases h8 : ok = 8
    · subst h8; exact poss_free hR oa ob ou m hm
    · exact poss_none ok oa ob ou m h7 h8
theorem RetP.all {w w' : World} {M : Nat → Bool} {o : Opn} {ed : Ending} (h : RetP w M o 1026 ed w') : ∃ a c, ed = .returned (.slice a (outs M o).length c) ∧ Kept w w' ∧ OwnA w' w.heap.size (.slice a (outs M o).length c) (outs M o) := by
  obtain ⟨a, c, F, h1, h2, h3, h4, h5, h6⟩ := h
  have e := h4 h3
  subst e
  exact ⟨a, c, by rw [h1, Nat.min_eq_right h3], h5, h6⟩
theorem RetP.one {w w' : World} {M : Nat → Bool} {o : Opn} {ed : Ending} (h : RetP w M o 1 ed w') : ∃ a c, ed = .returned (.slice a ((outs M o).take 1).length c) ∧ Kept w w' ∧ Lay w' (.slice a ((outs M o).take 1).length c) ((outs M o).take 1).length (flatA ((outs M o).take 1)) := by
  obtain ⟨a, c, F, h1, h2, h3, h4, h5, h6⟩ := h
  rw [← h2]
  have e : (F.take 1).length = min 1 F.length := List.length_take
  refine ⟨a, c, by rw [h1, e], h5, ?_⟩
  rw [e]
  refine (own_lies h6).lay.pre (Nat.min_le_right _ _) (fun h => ?_) (fun j u hu => ?_)
  · have : F.take 1 = [] := List.eq_nil_of_length_eq_zero (by omega)
    rw [this]; rfl
  · cases F with
    | nil => simpa using hu
    | cons x F =>
      have e2 : flatA ((x :: F).take 1) = anc x := by simp [flatA]
      have e3 : flatA (x :: F) = anc x ++ flatA F := by simp [flatA]
      rw [e2] at hu
      rw [e3, List.getElem?_append_left (List.getElem?_eq_some_iff.1 hu).1]
      exact hu
end Go.Proofs.YtbfmmndpboagdaaGreatDoor.Po

namespace Go.Proofs.YtbfmmndpboagdaaGreatDoor.Po
set_option maxRecDepth 20000
open Go.RowKit
attribute [local go_sem ↓] ld_named st_named lv_named ix_named zv_named

theorem AnBox.put {W : World} {g : Nat} {a : Ann} (h : AnBox W g a) (x : Ann) : AnBox (((W.setCell ⟨g, 0, none⟩ (.int .i64 x.e)).setCell ⟨g, 1, none⟩ (.int .i64 x.n)).setCell ⟨g, 2, none⟩ (.int .u64 x.v)) g x :=
  ⟨by simp [cell_set, h.c0], by simp [cell_set, h.c1], by simp [cell_set, h.c2], fun i => by simp only [World.frozen?_setCell]; exact h.s i⟩
theorem an_var {W : World} {b : Nat} {x : Ann} (h : AnBox W b x) : (loadVar 27 ⟨b, 0, none⟩).run Tryz.prog W = .ok (.agg #[.int .i64 x.e, .int .i64 x.n, .int .u64 x.v]) W := by
  have := run_loadVar_mid (P := Tryz.prog) W b 0 _ (anc x) _ (fun j v hv => by
    rw [Nat.zero_add]
    match j, hv with
    | 0, hv => cases hv; exact h.c0
    | 1, hv => cases hv; exact h.c1
    | 2, hv => cases hv; exact h.c2) Tryz.underlying27 rfl (by
      obtain ⟨i0, hi, _, hz1, _⟩ := info_parts infoA
      rw [hi]; simp [hz1, anc])
  simpa [anc] using this
theorem ans_result {fn : Func} {tmps : Array Value} {n m b : Nat} {w : World} {x : Ann} {v : Value} (hr : fn.results = #[.cell n 27, .tmp m]) (ht : tmps.getD n undef = .pointer (some ⟨b, 0, none⟩)) (hm : tmps.getD m undef = v) (h : AnBox w b x) :
    (results fn tmps).run Tryz.prog w = .ok (.tuple #[.agg #[.int .i64 x.e, .int .i64 x.n, .int .u64 x.v], v]) w := by
  have hv := an_var h
  have ht' : tmps[n]?.getD undef = .pointer (some ⟨b, 0, none⟩) := by simpa using ht
  have hm' : tmps[m]?.getD undef = v := by simpa using hm
  unfold results
  rw [hr]
  simp [ht', hm', asAddr, hv]

theorem ans_result1 {fn : Func} {tmps : Array Value} {n b : Nat} {w : World} {x : Ann} (hr : fn.results = #[.cell n 27]) (ht : tmps.getD n undef = .pointer (some ⟨b, 0, none⟩)) (h : AnBox w b x) :
    (results fn tmps).run Tryz.prog w = .ok (.agg #[.int .i64 x.e, .int .i64 x.n, .int .u64 x.v]) w := by
  have hv := an_var h
  have ht' : tmps[n]?.getD undef = .pointer (some ⟨b, 0, none⟩) := by simpa using ht
  unfold results
  rw [hr]
  simp [ht', asAddr, hv]
theorem ann_eql (x y : Ann) : ∀ W, (binOp .eql 27 (.agg #[.int .i64 x.e, .int .i64 x.n, .int .u64 x.v]) (.agg #[.int .i64 y.e, .int .i64 y.n, .int .u64 y.v])).run Tryz.prog W = .ok (.bool (decide (x = y))) W := by
  intro W
  obtain ⟨a, b, c⟩ := x
  obtain ⟨a', b', c'⟩ := y
  by_cases h1 : a = a'
  · subst h1
    by_cases h2 : b = b'
    · subst h2
      by_cases h3 : c = c'
      · subst h3
        go_simp
      · have e1 : (c == c') = false := by simpa using h3
        go_simp
    · have e1 : (b == b') = false := by simpa using h2
      go_simp
  · have e1 : (a == a') = false := by simpa using h1
    go_simp
theorem ann_neq (x y : Ann) : ∀ W, (binOp .neq 27 (.agg #[.int .i64 x.e, .int .i64 x.n, .int .u64 x.v]) (.agg #[.int .i64 y.e, .int .i64 y.n, .int .u64 y.v])).run Tryz.prog W = .ok (.bool (!decide (x = y))) W := by
  intro W
  have h := ann_eql x y W
  obtain ⟨a, b, c⟩ := x
  obtain ⟨a', b', c'⟩ := y
  by_cases h1 : a = a'
  · subst h1
    by_cases h2 : b = b'
    · subst h2
      by_cases h3 : c = c'
      · subst h3
        go_simp
      · have e1 : (c == c') = false := by simpa using h3
        go_simp
    · have e1 : (b == b') = false := by simpa using h2
      go_simp
  · have e1 : (a == a') = false := by simpa using h1
    go_simp

theorem an_one {w : World} {a : Option Addr} {n c : Nat} {s : List Ann} (h : Lay w (.slice a n c) n (flatA s)) (hn : n = s.length) (i : Nat) (x : Ann) (hx : s[i]? = some x) :
    ∃ g o, a = some ⟨g, o, none⟩ ∧ AnAt w g (o + i * 3) x := by
  have := (List.getElem?_eq_some_iff.1 hx).1
  subst hn
  obtain ⟨g, o, c', e, _, _, hc⟩ := h.an_Po (by omega)
  cases e
  exact ⟨g, o, rfl, hc i x hx⟩
theorem AnAt.kept {w w' : World} {g o : Nat} {e : Ann} (h : AnAt w g o e) (k : Kept w w') : AnAt w' g o e := ⟨k.some h.c0, k.some h.c1, k.some h.c2⟩

set_option maxHeartbeats 4000000 in
theorem index_any {w : World} {a : Option Addr} {n c : Nat} {s : List Ann} (h : Lay w (.slice a n c) n (flatA s)) (hn : n = s.length) (x : Ann) :
    Calls Tryz.prog 110 #[.slice a n c, .agg #[.int .i64 x.e, .int .i64 x.n, .int .u64 x.v]] w fun e w' => (∃ r : Int, e = .returned (.int .i64 r) ∧ decide (r ≥ 0) = decide (x ∈ s)) ∧ Kept w w' := by
  obtain ⟨a', c', e, hnc, hcm⟩ := h.form
  cases e
  unfold maxLen at hcm
  have CE := Lib.hid (fun W (k : Kept w W) i y hy => an_one (h.kept k) hn i y hy)
  have HN := Lib.hid hn
  have BX := Lib.hid (show AnBox (w.alloc (.cells #[.int .i64 x.e, .int .i64 x.n, .int .u64 x.v] 27)) w.heap.size x from AnBox.new w x _ _ rfl)
  have K0 := Lib.hid (show Kept w (w.alloc (.cells #[.int .i64 x.e, .int .i64 x.n, .int .u64 x.v] 27)) from (Kept.refl w).alloc _ _)
  clear h hn
  go_enter Tryz.func110, Tryz.ntmps110
  go_wp2
  go_loopw [8] (fun i wr => ∃ k : Nat, k ≤ n ∧ i = .int .i64 k ∧ (∀ j y, j < k → s[j]? = some y → x ≠ y) ∧ AnBox wr w.heap.size x ∧ Kept w wr) (fun i _ => n - (intOf i).toNat)
  case atStart => exact ⟨0, Nat.zero_le _, rfl, fun j y hj => by omega, BX.out, K0.out⟩
  case round =>
    obtain ⟨k, hkn, rfl, hlo, hbx, hk⟩ := hrel
    have LO := Lib.hid hlo
    have KE := Lib.hid hk
    have BE := Lib.hid hbx
    clear hlo hk hbx
    by_cases hlt : k < n
    · obtain ⟨y, hy⟩ : ∃ y, s[k]? = some y := ⟨_, List.getElem?_eq_getElem (by rw [← HN.out]; omega)⟩
      obtain ⟨g, o, rfl, hat⟩ := CE.out _ KE.out k y hy
      obtain ⟨c0, c1, c2⟩ := hat
      obtain ⟨b0, b1, b2, _⟩ := BE.out
      have HY := Lib.hid hy
      clear hy
      have EQ := ann_eql x y
      by_cases hxy : x = y
      · rw [decide_eq_true hxy] at EQ
        have HK := Lib.hid (show decide ((k : Int) ≥ 0) = decide (x ∈ s) by
          rw [decide_eq_true (p := x ∈ s) (List.mem_iff_getElem?.2 ⟨k, by rw [hxy]; exact HY.out⟩)]
          simp)
        clear hxy
        go_wp2
        go_quiet (fail)
        go_wp2
        go_ret
        exact ⟨⟨_, rfl, HK.out⟩, KE.out.drewN _⟩
      · rw [decide_eq_false hxy] at EQ
        have HXY := Lib.hid hxy
        clear hxy
        go_wp2
        go_quiet (fail)
        go_wp2
        go_roundw
        case rel => exact ⟨k + 1, by omega, by go_num, fun j z hj hz => by
          by_cases e : j = k
          · subst e; have h1 := HY.out; rw [hz] at h1; cases h1; exact HXY.out
          · exact LO.out j z (by omega) hz, BE.out.kept ((Kept.refl _).drewN _), KE.out.drewN _⟩
        case measure => simp [intOf]; omega
    · have HK := Lib.hid (show decide ((-1 : Int) ≥ 0) = decide (x ∈ s) by
        rw [decide_eq_false (p := x ∈ s) (fun hx => by
          obtain ⟨j, hj⟩ := List.mem_iff_getElem?.1 hx
          have h1 := (List.getElem?_eq_some_iff.1 hj).1
          exact LO.out j x (by have := HN.out; omega) hj rfl)]
        rfl)
      go_wp2
      go_ret
      exact ⟨⟨_, rfl, HK.out⟩, KE.out⟩

set_option maxHeartbeats 1000000 in
theorem has_ans {w : World} {a : Option Addr} {n c : Nat} {s : List Ann} (h : Lay w (.slice a n c) n (flatA s)) (hn : n = s.length) (x : Ann) :
    Calls Tryz.prog 97 #[.slice a n c, .agg #[.int .i64 x.e, .int .i64 x.n, .int .u64 x.v]] w fun e w' => e = .returned (.bool (decide (x ∈ s))) ∧ Kept w w' := by
  have IX := Lib.hid (fun W (k : Kept w W) => index_any (h.kept k) hn x)
  have BX := AnBox.new w x 27 w.heap.size rfl
  obtain ⟨b0, b1, b2, _⟩ := BX
  clear h hn
  go_enter Tryz.func97, Tryz.ntmps97
  go_wp2_with fail; refine (IX.out _ ((Kept.refl w).alloc _ _)).mono ?_; rintro e w1 ⟨⟨r, rfl, hr⟩, k1⟩
  have HR := Lib.hid hr
  clear hr
  go_wp2
  go_ret
  exact ⟨ret_bool HR.out, ((Kept.refl w).alloc _ _).trans k1⟩
end Go.Proofs.YtbfmmndpboagdaaGreatDoor.Po
