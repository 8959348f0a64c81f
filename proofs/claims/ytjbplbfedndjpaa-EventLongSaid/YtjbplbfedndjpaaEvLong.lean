/- EventLong. -/
import Derived.Test.YtjbplbfedndjpaaEvGen
namespace Go.Proofs.Ytjbplbfedndjpaa
open Go.ChangeShapes Go.WideShapes Go.RowKit Go.Maps
attribute [local go_sem ↓] app_named

theorem open_evcs {H : Type} {enc : TypeId × Value → H} {w : World} {base : Nat} {spare : Nat → Bool} {held : Bool} {fuel : Nat} {cs : Array Value} {x : DataW H × List MemPlace}
    (h : DataW.trod enc Try.prog w base spare held fuel 51 cs.toList = some x) : ∃ e : Ev, cs = (evc e).toArray ∧ Wf e := by
  obtain ⟨e, he, we⟩ := open_ev h
  exact ⟨e, by rw [← he], we⟩

/-- n calls, numbered. -/
def nth (i : Nat) : Ev := ⟨i, false, 0, 0, 0, 0, 0, 0, 0⟩
def many (n : Nat) : List Ev := (List.range n).map nth
theorem many_succ (n : Nat) : many (n + 1) = many n ++ [nth n] := by simp [many, List.range_succ]
theorem many_length (n : Nat) : (many n).length = n := by simp [many]
theorem many_take (n k : Nat) (h : k ≤ n) : (many n).take k = many k := by
  unfold many
  rw [← List.map_take, List.take_range, Nat.min_eq_left h]
theorem many_has (n : Nat) (i : Int) (a : Bool) (hi : (n : Int) ≤ i) : has (many n) i a = false := by
  induction n with
  | zero => rfl
  | succ n ih =>
    rw [many_succ, has_snoc, ih (by omega)]
    have : is i a (nth n) = false := by simp [is, nth]; intro h; omega
    rw [this]; rfl
theorem many_vd (n : Nat) : Vd (many n) := by
  induction n with
  | zero => exact vd_nil
  | succ n ih =>
    rw [many_succ]
    refine (vd_snoc _ _).2 ⟨ih, ?_⟩
    unfold stp
    rw [many_has n (nth n).id _ (by simp [nth])]
    simp [nth]
theorem many_most (n : Nat) : most (many n) = ((n : Int), (n : Int)) := by
  induction n with
  | zero => rfl
  | succ n ih =>
    rw [many_succ, most_snoc, ih]
    simp [mst, nth]
    omega
theorem many_wf (n : Nat) (h : n ≤ 5000) : ∀ e ∈ many n, Wf e := by
  intro e he
  obtain ⟨i, hi, rfl⟩ := List.mem_map.1 he
  have := List.mem_range.1 hi
  exact ⟨by show -9223372036854775808 ≤ (i : Int); omega, by show (i : Int) ≤ 9223372036854775807; omega⟩
def ManyAt (w0 : World) (N : Nat) (v i : Value) (W : World) : Prop :=
  ∃ k : Nat, k ≤ N ∧ i = .int .i64 k ∧ Kept w0 W ∧ ∃ a c, v = .slice a k c ∧ W.ownsRow w0.heap.size 51 9 (.slice a k c) k (flatE (many k))

theorem check_n {w : World} {a : Option Addr} {n c : Nat} {h : List Ev} (hE : Lay w (.slice a n c) n (flatE h)) (hn : h.length = n) (hw : ∀ e ∈ h, Wf e) (hl : n ≤ 5000) :
    Calls Try.prog 15 #[.slice a n c] w fun ed w' => ed = .returned (.int .i64 (chk h)) ∧ Kept w w' := by subst hn; exact check_any hE hw hl
theorem refCheck_n {w : World} {a : Option Addr} {n c : Nat} {h : List Ev} (hE : Lay w (.slice a n c) n (flatE h)) (hn : h.length = n) (hl : n ≤ 5000) :
    Calls Try.prog 16 #[.slice a n c] w fun ed w' => ed = .returned (.int .i64 (chk h)) ∧ Kept w w' := by subst hn; exact refCheck_any hE hl
theorem most_n {w : World} {a : Option Addr} {n c : Nat} {h : List Ev} (hE : Lay w (.slice a n c) n (flatE h)) (hn : h.length = n) (hw : ∀ e ∈ h, Wf e) (hl : n ≤ 5000) :
    Calls Try.prog 19 #[.slice a n c] w fun ed w' => ed = .returned (.int .i64 (mos h)) ∧ Kept w w' := by subst hn; exact most_of hE hw hl
theorem many_big {q : Nat} (h : 6 < q) : chk (many (4090 + q)) = 4 := by unfold chk; rw [if_pos (by rw [many_length]; omega)]
theorem many_small {q : Nat} (h : q ≤ 6) : chk (many (4090 + q)) = 0 := chk_of_vd (many_vd _) (by rw [many_length]; omega)
theorem many_mos {q : Nat} (h : q ≤ 6) : mos (many (4090 + q)) = 4090 + (q : Int) := by
  unfold mos
  rw [if_pos (many_small h), many_most]
  simp
theorem flatE_many (m n : Nat) (h : m ≤ n) (j : Nat) (u : Value) (hu : (flatE (many m))[j]? = some u) : (flatE (many n))[j]? = some u := by
  rw [← many_take n m h] at hu
  obtain ⟨t, ht⟩ : ∃ t, many n = (many n).take m ++ t := ⟨(many n).drop m, by rw [List.take_append_drop]⟩
  rw [ht]
  unfold flatE at hu ⊢
  rw [List.flatMap_append, List.getElem?_append_left (List.getElem?_eq_some_iff.1 hu).1]
  exact hu
def RetTen (w : World) (ed : Ending) (w' : World) : Prop := ∃ a c, ed = .returned (.slice a 10 c) ∧ Kept w w' ∧ w'.ownsRow w.heap.size 51 9 (.slice a 10 c) 10 (flatE (many 10))
theorem copy_ten {w : World} {v : Value} (h : Lay w v 10 (flatE (many 10))) : Calls Try.prog 10 #[v] w (RetTen w) :=
  (copyEvents_any (l := many 10) h (by decide)).mono fun _ _ ⟨a, c, he, hk, ho⟩ => ⟨a, c, he, hk, ho⟩
theorem ten_wf {y : Ev} (hy : Wf y) : ∀ e ∈ many 10 ++ [y], Wf e := by
  intro e he
  rcases List.mem_append.1 he with he | he
  · exact many_wf 10 (by decide) e he
  · simp at he; subst he; exact hy
theorem box_all {w' : World} {g : Nat} {y : Ev} (h : EvBox w' g y) : w'.cell? ⟨g, 0, none⟩ = some (.int .i64 y.id) ∧ w'.cell? ⟨g, 1, none⟩ = some (.bool y.ans) ∧ w'.cell? ⟨g, 2, none⟩ = some (.int .i64 y.k) ∧ w'.cell? ⟨g, 3, none⟩ = some (.int .i64 y.x) ∧ w'.cell? ⟨g, 4, none⟩ = some (.int .i64 y.y) ∧ w'.cell? ⟨g, 5, none⟩ = some (.int .u64 y.u) ∧ w'.cell? ⟨g, 6, none⟩ = some (.int .i64 y.er) ∧ w'.cell? ⟨g, 7, none⟩ = some (.int .i64 y.n) ∧ w'.cell? ⟨g, 8, none⟩ = some (.int .u64 y.v) :=
  ⟨h.c0, h.c1, h.c2, h.c3, h.c4, h.c5, h.c6, h.c7, h.c8⟩

set_option maxRecDepth 100000 in
set_option maxHeartbeats 8000000 in
theorem eventLong_any {w : World} (x : Int) {cs : Array Value} (hx : (Lit.int .i64 x).wf = true) (hc : ∃ e : Ev, cs = (evc e).toArray ∧ Wf e) :
    Calls Try.prog 5 #[.int .i64 x, .agg cs] w fun e w' => e = .returned (.bool true) ∧ Kept w w' := by
  obtain ⟨y, rfl, wy⟩ := hc
  show Calls Try.prog 5 #[.int .i64 x, .agg #[.int .i64 y.id, .bool y.ans, .int .i64 y.k, .int .i64 y.x, .int .i64 y.y, .int .u64 y.u, .int .i64 y.er, .int .i64 y.n, .int .u64 y.v]] w fun e w' => e = .returned (.bool true) ∧ Kept w w'
  obtain ⟨q, hq⟩ : ∃ q : Nat, x % 11 = q := Int.eq_ofNat_of_zero_le (Int.emod_nonneg x (by decide))
  have hq11 : q ≤ 10 := by have := Int.emod_lt_of_pos x (show (0 : Int) < 11 by decide); omega
  have PK := Lib.hid (fun W => pick_at x 11 q (by decide) (by decide) hq W)
  obtain ⟨i0, hi0, hz0, hz1, hz2⟩ := info_parts infoEv
  have WY := Lib.hid wy
  clear hq hx wy
  have BXW := Lib.hid (EvBox.new w y 51)
  have KB := Lib.hid ((Kept.refl w).alloc #[.int .i64 y.id, .bool y.ans, .int .i64 y.k, .int .i64 y.x, .int .i64 y.y, .int .u64 y.u, .int .i64 y.er, .int .i64 y.n, .int .u64 y.v] 51)
  go_enter Try.func5, Try.ntmps5
  go_wp2_with fail
  obtain ⟨W0, hW0⟩ : ∃ W0, w.alloc (.cells #[.int .i64 y.id, .bool y.ans, .int .i64 y.k, .int .i64 y.x, .int .i64 y.y, .int .u64 y.u, .int .i64 y.er, .int .i64 y.n, .int .u64 y.v] 51) = W0 := ⟨_, rfl⟩
  rw [hW0] at BXW KB
  rw [hW0]
  clear hW0
  go_loopw [5, 6] (fun v i wr => ManyAt W0 (4090 + q) v i wr) (fun _ i _ => (4090 + q) - (intOf i).toNat)
  case atStart => exact ⟨0, Nat.zero_le _, rfl, Kept.refl _, none, 0, rfl, World.ownsRow_nil _ _ _ _⟩
  case round =>
    obtain ⟨k, hk, rfl, hkept, a2, c2, rfl, own2⟩ := hrel
    have KR := Lib.hid hkept
    have OW := Lib.hid own2
    clear hkept own2
    by_cases hlt : k < 4090 + q
    · have hk5 : k ≤ 4100 := by omega
      go_wp2_with fail; refine (PK.out _).mono ?_; rintro ed w1 ⟨rfl, rfl⟩
      obtain ⟨a4, c4, w4, hrun0, own4, but4, _⟩ := append_lay (P := Try.prog) (wr.alloc (.cells #[.int .i64 k, .bool false, .int .i64 0, .int .i64 0, .int .i64 0, .int .u64 0, .int .i64 0, .int .i64 0, .int .u64 0] 51)) W0.heap.size 22 22 51 i0 _ 9 72 Try.underlying22 hi0 hz0 hz1 hz2 (by rfl) (by decide)
        (.slice a2 k c2) k (flatE (many k)) (own_kept OW.out ((Kept.refl _).alloc _ _)) (.slice (some ⟨wr.heap.size, 0, none⟩) 1 1) 1 (flatE [nth k]) (flatE_length [_]) (lay_new (heap_alloc_new _ _) (by decide)) (flatE_one _) (by unfold maxLen; omega) (by omega) (by have := KR.out.size; simp; omega)
      have hrun := hrun0
      rw [app_named] at hrun
      have OW4 := Lib.hid own4
      have BU4 := Lib.hid but4
      clear hrun0 own4 but4
      go_wp2
      go_roundw
      case rel =>
        refine ⟨k + 1, by omega, by go_num, (((KR.out.alloc _ _).but _).trans BU4.out (fun _ _ h => h)).kept (fun b hb e => by have := (OW.out.lt b e).1; omega), a4, c4, rfl, ?_⟩
        rw [many_succ, flatE_snoc]
        simpa [flatE] using OW4.out
      case measure => simp [intOf]; omega
    · have hkn : k = 4090 + q := by omega
      subst hkn
      obtain ⟨g, o, c3, e, h1, h2, _⟩ := (own_lies OW.out).lay.at (by omega)
      cases e
      have LW := Lib.hid (own_lies OW.out).lay
      unfold maxLen at h2
      have q1 : (10 : Int) ≤ (c2 : Int) := by omega
      have q2 : 10 ≤ c2 := by omega
      have q3 : decide ((10 : Int) ≤ (c2 : Int)) = true := by simpa using q1
      by_cases hbig : 6 < q
      · have CK := Lib.hid (check_n LW.out (many_length _) (many_wf _ (by omega)) (by omega))
        rw [many_big hbig] at CK
        go_wp2_with fail; refine (PK.out _).mono ?_; rintro ed w1 ⟨rfl, rfl⟩
        go_wp2_with fail; refine CK.out.mono ?_; rintro ed w2 ⟨rfl, k2⟩
        have K2 := Lib.hid (KR.out.trans k2)
        have L2 := Lib.hid (LW.out.kept k2)
        clear k2
        have KT : Kept w2 w2 := Kept.refl _
        obtain ⟨x0, x1, x2, x3, x4, x5, x6, x7, x8⟩ := BXW.out.kept K2.out
        have bl := lt_of_cell x0
        have B2 := Lib.hid (BXW.out.kept K2.out)
        have T2 := Lib.hid (fun (W : World) (k : Kept w2 W) => copy_ten ((L2.out.kept k).pre (ys := flatE (many 10)) (m := 10) (by omega) (fun e => by cases e) (fun j u hu => flatE_many 10 (4090 + q) (by omega) j u hu)))
        have AA := Lib.hid (fun (w3 : World) (k3 : Kept w2 w3) (a3 : Option Addr) (c3 : Nat) (own3 : w3.ownsRow w2.heap.size 51 9 (.slice a3 10 c3) 10 (flatE (many 10))) => append_lay (P := Try.prog) (w3.alloc (.cells #[.int .i64 y.id, .bool y.ans, .int .i64 y.k, .int .i64 y.x, .int .i64 y.y, .int .u64 y.u, .int .i64 y.er, .int .i64 y.n, .int .u64 y.v] 51)) w2.heap.size 22 22 51 i0 _ 9 72 Try.underlying22 hi0 hz0 hz1 hz2 (by rfl) (by decide)
          (.slice a3 10 c3) 10 (flatE (many 10)) (own_kept own3 ((Kept.refl _).alloc _ _)) (.slice (some ⟨w3.heap.size, 0, none⟩) 1 1) 1 (flatE [y]) (flatE_length [_]) (lay_new (heap_alloc_new _ _) (by decide)) (flatE_one _) (by decide) (by decide) (by have := k3.size; simp; omega))
        have AB := Lib.hid (fun (w3 : World) (k3 : Kept (w2.alloc (.cells #[.int .i64 y.id, .bool y.ans, .int .i64 y.k, .int .i64 y.x, .int .i64 y.y, .int .u64 y.u, .int .i64 y.er, .int .i64 y.n, .int .u64 y.v] 51)) w3) (a3 : Option Addr) (c3 : Nat) (own3 : w3.ownsRow w2.heap.size 51 9 (.slice a3 10 c3) 10 (flatE (many 10))) => append_lay (P := Try.prog) w3 w2.heap.size 22 22 51 i0 _ 9 72 Try.underlying22 hi0 hz0 hz1 hz2 (by rfl) (by decide)
          (.slice a3 10 c3) 10 (flatE (many 10)) own3 (.slice (some ⟨w2.heap.size, 0, none⟩) 1 1) 1 (flatE [y]) (flatE_length [_]) (Lay.kept (lay_new (heap_alloc_new _ _) (by decide)) k3) (flatE_one _) (by decide) (by decide) (by have := k3.size; simp at this; omega))
        go_wp2_with fail
        go_region_held3 (fun w' => w'.cell? ⟨w.heap.size, 0, none⟩ = some (.int .i64 y.id) ∧ w'.cell? ⟨w.heap.size, 1, none⟩ = some (.bool y.ans) ∧ w'.cell? ⟨w.heap.size, 2, none⟩ = some (.int .i64 y.k) ∧ w'.cell? ⟨w.heap.size, 3, none⟩ = some (.int .i64 y.x) ∧ w'.cell? ⟨w.heap.size, 4, none⟩ = some (.int .i64 y.y) ∧ w'.cell? ⟨w.heap.size, 5, none⟩ = some (.int .u64 y.u) ∧ w'.cell? ⟨w.heap.size, 6, none⟩ = some (.int .i64 y.er) ∧ w'.cell? ⟨w.heap.size, 7, none⟩ = some (.int .i64 y.n) ∧ w'.cell? ⟨w.heap.size, 8, none⟩ = some (.int .u64 y.v))
          (first | exact box_all (B2.out.kept (by repeat (first | with_reducible exact kt4 | with_reducible exact kt3 | with_reducible exact KT | with_reducible refine Kept.alloc ?_ _ _ | with_reducible refine Kept.drew ?_ | with_reducible refine Kept.drewN ?_ _))))
          (first
            | (go_at_call 10; refine (T2.out _ (by repeat (first | with_reducible exact KT | with_reducible refine Kept.alloc ?_ _ _ | with_reducible refine Kept.drew ?_ | with_reducible refine Kept.drewN ?_ _))).mono ?_; rintro ed w3 ⟨a3, c3, rfl, k3, own3⟩; have kt3 : Kept w2 w3 := Kept.trans (by repeat (first | with_reducible exact KT | with_reducible refine Kept.alloc ?_ _ _ | with_reducible refine Kept.drew ?_ | with_reducible refine Kept.drewN ?_ _)) k3; have own3' : w3.ownsRow w2.heap.size 51 9 (.slice a3 10 c3) 10 (flatE (many 10)) := own_mono own3 (by first | exact Nat.le_refl _ | simp); (first | (have _t : Kept w2.drew w3 := (by with_reducible exact k3); obtain ⟨a4, c4, w4, hrun0, own4, but4, _⟩ := AA.out w3 kt3 a3 c3 own3'; have kt4 : Kept w2 w4 := ((kt3.alloc _ _).but _).trans but4 (fun _ _ h => h) |>.kept (fun j hj e => by have := (own3'.lt j e).1; omega); have hrun := hrun0; rw [app_named] at hrun; have O4 := Lib.hid own4; clear hrun0 own4 but4 own3 own3') | (obtain ⟨a4, c4, w4, hrun0, own4, but4, _⟩ := AB.out w3 (by first | exact k3 | exact ((Kept.refl _).drew).trans k3) a3 c3 own3'; have kt4 : Kept w2 w4 := ((kt3.but _).trans but4 (fun _ _ h => h)).kept (fun j hj e => by have := (own3'.lt j e).1; omega); have hrun := hrun0; rw [app_named] at hrun; have O4 := Lib.hid own4; clear hrun0 own4 but4 own3 own3'))))
        all_goals (
          have L4 := Lib.hid (show Lay w4 (.slice a4 11 c4) 11 (flatE (many 10 ++ [y])) from by rw [flatE_snoc]; have h := (own_lies O4.out).lay; simpa [flatE] using h)
          have K4 := Lib.hid (K2.out.trans kt4)
          have CM := Lib.hid (check_n L4.out (by simp [many_length]) (ten_wf WY.out) (by decide))
          have RM := Lib.hid (fun W (k : Kept w4 W) => refCheck_n (L4.out.kept k) (by simp [many_length]) (by decide))
          clear x0 x1 x2 x3 x4 x5 x6 x7 x8 bl)
        all_goals (generalize chk (many 10 ++ [y]) = z at CM RM)
        all_goals (go_wp2_with fail; refine CM.out.mono ?_; rintro ed w5 ⟨rfl, k5⟩)
        all_goals (have K5 := Lib.hid k5; clear k5)
        all_goals (go_wp2_with fail; refine (RM.out _ K5.out).mono ?_; rintro ed w6 ⟨rfl, k6⟩)
        all_goals (have K6 := Lib.hid ((K4.out.trans K5.out).trans k6); clear k6)
        all_goals (go_wp2_with fail; refine (awake_any _).mono ?_; rintro ed w7 ⟨rfl, k7⟩)
        all_goals go_wp2
        all_goals go_ret
        all_goals exact ⟨rfl, (KB.out.trans K6.out).trans k7⟩
      · have CK := Lib.hid (check_n LW.out (many_length _) (many_wf _ (by omega)) (by omega))
        rw [many_small (by omega)] at CK
        have MK := Lib.hid (fun W (k : Kept wr W) => most_n (LW.out.kept k) (many_length _) (many_wf _ (by omega)) (by omega))
        rw [many_mos (by omega)] at MK
        go_wp2_with fail; refine (PK.out _).mono ?_; rintro ed w1 ⟨rfl, rfl⟩
        go_wp2_with fail; refine CK.out.mono ?_; rintro ed v1 ⟨rfl, k1⟩
        have V1 := Lib.hid k1
        clear k1
        go_wp2_with fail; refine (MK.out _ V1.out).mono ?_; rintro ed w2 ⟨rfl, k2⟩
        have K2 := Lib.hid (KR.out.trans (V1.out.trans k2))
        have L2 := Lib.hid (LW.out.kept (V1.out.trans k2))
        clear k2
        have KT : Kept w2 w2 := Kept.refl _
        obtain ⟨x0, x1, x2, x3, x4, x5, x6, x7, x8⟩ := BXW.out.kept K2.out
        have bl := lt_of_cell x0
        have B2 := Lib.hid (BXW.out.kept K2.out)
        have T2 := Lib.hid (fun (W : World) (k : Kept w2 W) => copy_ten ((L2.out.kept k).pre (ys := flatE (many 10)) (m := 10) (by omega) (fun e => by cases e) (fun j u hu => flatE_many 10 (4090 + q) (by omega) j u hu)))
        have AA := Lib.hid (fun (w3 : World) (k3 : Kept w2 w3) (a3 : Option Addr) (c3 : Nat) (own3 : w3.ownsRow w2.heap.size 51 9 (.slice a3 10 c3) 10 (flatE (many 10))) => append_lay (P := Try.prog) (w3.alloc (.cells #[.int .i64 y.id, .bool y.ans, .int .i64 y.k, .int .i64 y.x, .int .i64 y.y, .int .u64 y.u, .int .i64 y.er, .int .i64 y.n, .int .u64 y.v] 51)) w2.heap.size 22 22 51 i0 _ 9 72 Try.underlying22 hi0 hz0 hz1 hz2 (by rfl) (by decide)
          (.slice a3 10 c3) 10 (flatE (many 10)) (own_kept own3 ((Kept.refl _).alloc _ _)) (.slice (some ⟨w3.heap.size, 0, none⟩) 1 1) 1 (flatE [y]) (flatE_length [_]) (lay_new (heap_alloc_new _ _) (by decide)) (flatE_one _) (by decide) (by decide) (by have := k3.size; simp; omega))
        have AB := Lib.hid (fun (w3 : World) (k3 : Kept (w2.alloc (.cells #[.int .i64 y.id, .bool y.ans, .int .i64 y.k, .int .i64 y.x, .int .i64 y.y, .int .u64 y.u, .int .i64 y.er, .int .i64 y.n, .int .u64 y.v] 51)) w3) (a3 : Option Addr) (c3 : Nat) (own3 : w3.ownsRow w2.heap.size 51 9 (.slice a3 10 c3) 10 (flatE (many 10))) => append_lay (P := Try.prog) w3 w2.heap.size 22 22 51 i0 _ 9 72 Try.underlying22 hi0 hz0 hz1 hz2 (by rfl) (by decide)
          (.slice a3 10 c3) 10 (flatE (many 10)) own3 (.slice (some ⟨w2.heap.size, 0, none⟩) 1 1) 1 (flatE [y]) (flatE_length [_]) (Lay.kept (lay_new (heap_alloc_new _ _) (by decide)) k3) (flatE_one _) (by decide) (by decide) (by have := k3.size; simp at this; omega))
        go_wp2_with fail
        go_region_held3 (fun w' => w'.cell? ⟨w.heap.size, 0, none⟩ = some (.int .i64 y.id) ∧ w'.cell? ⟨w.heap.size, 1, none⟩ = some (.bool y.ans) ∧ w'.cell? ⟨w.heap.size, 2, none⟩ = some (.int .i64 y.k) ∧ w'.cell? ⟨w.heap.size, 3, none⟩ = some (.int .i64 y.x) ∧ w'.cell? ⟨w.heap.size, 4, none⟩ = some (.int .i64 y.y) ∧ w'.cell? ⟨w.heap.size, 5, none⟩ = some (.int .u64 y.u) ∧ w'.cell? ⟨w.heap.size, 6, none⟩ = some (.int .i64 y.er) ∧ w'.cell? ⟨w.heap.size, 7, none⟩ = some (.int .i64 y.n) ∧ w'.cell? ⟨w.heap.size, 8, none⟩ = some (.int .u64 y.v))
          (first | exact box_all (B2.out.kept (by repeat (first | with_reducible exact kt4 | with_reducible exact kt3 | with_reducible exact KT | with_reducible refine Kept.alloc ?_ _ _ | with_reducible refine Kept.drew ?_ | with_reducible refine Kept.drewN ?_ _))))
          (first
            | (go_at_call 10; refine (T2.out _ (by repeat (first | with_reducible exact KT | with_reducible refine Kept.alloc ?_ _ _ | with_reducible refine Kept.drew ?_ | with_reducible refine Kept.drewN ?_ _))).mono ?_; rintro ed w3 ⟨a3, c3, rfl, k3, own3⟩; have kt3 : Kept w2 w3 := Kept.trans (by repeat (first | with_reducible exact KT | with_reducible refine Kept.alloc ?_ _ _ | with_reducible refine Kept.drew ?_ | with_reducible refine Kept.drewN ?_ _)) k3; have own3' : w3.ownsRow w2.heap.size 51 9 (.slice a3 10 c3) 10 (flatE (many 10)) := own_mono own3 (by first | exact Nat.le_refl _ | simp); (first | (have _t : Kept w2.drew w3 := (by with_reducible exact k3); obtain ⟨a4, c4, w4, hrun0, own4, but4, _⟩ := AA.out w3 kt3 a3 c3 own3'; have kt4 : Kept w2 w4 := ((kt3.alloc _ _).but _).trans but4 (fun _ _ h => h) |>.kept (fun j hj e => by have := (own3'.lt j e).1; omega); have hrun := hrun0; rw [app_named] at hrun; have O4 := Lib.hid own4; clear hrun0 own4 but4 own3 own3') | (obtain ⟨a4, c4, w4, hrun0, own4, but4, _⟩ := AB.out w3 (by first | exact k3 | exact ((Kept.refl _).drew).trans k3) a3 c3 own3'; have kt4 : Kept w2 w4 := ((kt3.but _).trans but4 (fun _ _ h => h)).kept (fun j hj e => by have := (own3'.lt j e).1; omega); have hrun := hrun0; rw [app_named] at hrun; have O4 := Lib.hid own4; clear hrun0 own4 but4 own3 own3'))))
        all_goals (
          have L4 := Lib.hid (show Lay w4 (.slice a4 11 c4) 11 (flatE (many 10 ++ [y])) from by rw [flatE_snoc]; have h := (own_lies O4.out).lay; simpa [flatE] using h)
          have K4 := Lib.hid (K2.out.trans kt4)
          have CM := Lib.hid (check_n L4.out (by simp [many_length]) (ten_wf WY.out) (by decide))
          have RM := Lib.hid (fun W (k : Kept w4 W) => refCheck_n (L4.out.kept k) (by simp [many_length]) (by decide))
          clear x0 x1 x2 x3 x4 x5 x6 x7 x8 bl)
        all_goals (generalize chk (many 10 ++ [y]) = z at CM RM)
        all_goals (go_wp2_with fail; refine CM.out.mono ?_; rintro ed w5 ⟨rfl, k5⟩)
        all_goals (have K5 := Lib.hid k5; clear k5)
        all_goals (go_wp2_with fail; refine (RM.out _ K5.out).mono ?_; rintro ed w6 ⟨rfl, k6⟩)
        all_goals (have K6 := Lib.hid ((K4.out.trans K5.out).trans k6); clear k6)
        all_goals (go_wp2_with fail; refine (awake_any _).mono ?_; rintro ed w7 ⟨rfl, k7⟩)
        all_goals go_wp2
        all_goals go_ret
        all_goals exact ⟨rfl, (KB.out.trans K6.out).trans k7⟩
end Go.Proofs.Ytjbplbfedndjpaa
