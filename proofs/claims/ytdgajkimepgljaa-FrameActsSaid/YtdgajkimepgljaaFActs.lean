/- FrameActs. -/
import Derived.Test.YtdgajkimepgljaaFDuo
import Derived.Test.YtdgajkimepgljaaFCounts
import Derived.Deep.RegionHeld3
import Derived.Deep.DeepCutAuto
import Derived.Deep.CutBlock
namespace Go.Proofs.Ytdgajkimepgljaa
open Go.ChangeShapes Go.WideShapes Go.Deep Go.RowKit

/-- The two frames, and the act that the law holds in a block of its own. -/
def Tri (u w : World) (F R n m : Nat) (s t : St) (q : Nat) (c x y : Int) : Prop := ∃ S lv dv, Duo u w F R n m s t S lv dv ∧ ¬ S q ∧ ¬ MineR R lv dv q ∧
  w.cell? ⟨q, 0, none⟩ = some (.int .i64 c) ∧ w.cell? ⟨q, 1, none⟩ = some (.int .i64 x) ∧ w.cell? ⟨q, 2, none⟩ = some (.int .i64 y)
theorem Tri.duo {u w : World} {F R n m : Nat} {s t : St} {q : Nat} {c x y : Int} (h : Tri u w F R n m s t q c x y) : Duo2 u w F R n m s t := by
  obtain ⟨S, lv, dv, h, _⟩ := h
  exact ⟨S, lv, dv, h⟩
theorem Tri.c1 {u w : World} {F R n m : Nat} {s t : St} {q : Nat} {c x y : Int} (h : Tri u w F R n m s t q c x y) : w.cell? ⟨q, 1, none⟩ = some (.int .i64 x) := by
  obtain ⟨S, lv, dv, _, _, _, _, h, _⟩ := h
  exact h
theorem Tri.c2 {u w : World} {F R n m : Nat} {s t : St} {q : Nat} {c x y : Int} (h : Tri u w F R n m s t q c x y) : w.cell? ⟨q, 2, none⟩ = some (.int .i64 y) := by
  obtain ⟨S, lv, dv, _, _, _, _, _, h⟩ := h
  exact h
theorem Tri.kept {u w w' : World} {F R n m : Nat} {s t : St} {q : Nat} {c x y : Int} (h : Tri u w F R n m s t q c x y) (k : Kept w w') : Tri u w' F R n m s t q c x y := by
  obtain ⟨S, lv, dv, ⟨h1, h2, h3⟩, a, b, c0, c1, c2⟩ := h
  exact ⟨S, lv, dv, ⟨h1.kept k, h2.kept k, h3⟩, a, b, k.some c0, k.some c1, k.some c2⟩
theorem Tri.mono {u w : World} {F R n m m' : Nat} {s t : St} {q : Nat} {c x y : Int} (h : Tri u w F R n m s t q c x y) (hm : m ≤ m') : Tri u w F R n m' s t q c x y := by
  obtain ⟨S, lv, dv, ⟨h1, h2, h3⟩, a⟩ := h
  exact ⟨S, lv, dv, ⟨h1.mono hm, h2.mono hm, h3⟩, a⟩
theorem Tri.prog {u w w' : World} {F R n m : Nat} {s t s' : St} {S : Nat → Prop} {lv dv : Value} {q : Nat} {c x y : Int} (h : Duo u w F R n m s t S lv dv) (a : ¬ S q) (b : ¬ MineR R lv dv q)
    (c0 : w.cell? ⟨q, 0, none⟩ = some (.int .i64 c)) (c1 : w.cell? ⟨q, 1, none⟩ = some (.int .i64 x)) (c2 : w.cell? ⟨q, 2, none⟩ = some (.int .i64 y)) (hw : Went u w w' F n (m + 1) s' S) : Tri u w' F R n (m + 1) s' t q c x y := by
  obtain ⟨S', h1, bt, hS⟩ := hw
  refine ⟨S', lv, dv, ⟨h1, (h.2.1.but bt (fun k hk hs => h.2.2 k hs hk)).mono (Nat.le_succ _), fun k hk hr => ?_⟩, fun hq => ?_, b, bt.some c0 a, bt.some c1 a, bt.some c2 a⟩
  · rcases hS k hk with h2 | h2
    · exact h.2.2 k h2 hr
    · have := h.2.1.lt k hr; omega
  · rcases hS q hq with h2 | h2
    · exact a h2
    · have := lt_of_cell c0; omega
theorem Tri.ref {u w w' : World} {F R n m : Nat} {s t t' : St} {S : Nat → Prop} {lv dv : Value} {q : Nat} {c x y : Int} (h : Duo u w F R n m s t S lv dv) (a : ¬ S q) (b : ¬ MineR R lv dv q)
    (c0 : w.cell? ⟨q, 0, none⟩ = some (.int .i64 c)) (c1 : w.cell? ⟨q, 1, none⟩ = some (.int .i64 x)) (c2 : w.cell? ⟨q, 2, none⟩ = some (.int .i64 y)) (hw : RWent w w' R lv dv u.heap.size n (m + 1) t') : Tri u w' F R n (m + 1) s t' q c x y := by
  obtain ⟨bt, lv', dv', h2, hS⟩ := hw
  refine ⟨S, lv', dv', ⟨(h.1.but bt (fun k hk hr => h.2.2 k hk hr) (h.2.1.ge)).mono (Nat.le_succ _), h2, fun k hk hr => ?_⟩, a, fun hq => ?_, bt.some c0 b, bt.some c1 b, bt.some c2 b⟩
  · rcases hS k hr with h3 | h3
    · exact h.2.2 k hk h3
    · have := h.1.lt k hk; omega
  · rcases hS q hq with h3 | h3
    · exact b h3
    · have := lt_of_cell c0; omega
theorem Tri.begin {u w : World} {F R n m : Nat} {s t : St} {q : Nat} {c x y : Int} (h : Tri u w F R n m s t q c x y) (i z : Int) :
    Calls Try.prog 10 #[.pointer (some ⟨F, 0, none⟩), .int .i64 i, .int .i64 z] w fun e w' => e = .returned (.int .i64 (bErr s n i)) ∧ Tri u w' F R n (m + 1) (bSt s n i z) t q c x y := by
  obtain ⟨S, lv, dv, h, a, b, c0, c1, c2⟩ := h
  exact (h.1.begin i z).mono fun _ _ ⟨he, hw⟩ => ⟨he, Tri.prog h a b c0 c1 c2 hw⟩
theorem Tri.step {u w : World} {F R n m : Nat} {s t : St} {q : Nat} {c x y : Int} (h : Tri u w F R n m s t q c x y) (hm : m ≤ 1000) (i : Int) :
    Calls Try.prog 12 #[.pointer (some ⟨F, 0, none⟩), .int .i64 i] w fun e w' => e = .returned (.int .i64 (sErr s n i)) ∧ Tri u w' F R n (m + 1) (sSt s i) t q c x y := by
  obtain ⟨S, lv, dv, h, a, b, c0, c1, c2⟩ := h
  exact (h.1.step hm i).mono fun _ _ ⟨he, hw⟩ => ⟨he, Tri.prog h a b c0 c1 c2 hw⟩
theorem Tri.fin {u w : World} {F R n m : Nat} {s t : St} {q : Nat} {c x y : Int} (h : Tri u w F R n m s t q c x y) (hm : m ≤ 1000) (i : Int) :
    Calls Try.prog 14 #[.pointer (some ⟨F, 0, none⟩), .int .i64 i] w fun e w' => e = .returned (.int .i64 (sErr s n i)) ∧ Tri u w' F R n (m + 1) (eSt s i) t q c x y := by
  obtain ⟨S, lv, dv, h, a, b, c0, c1, c2⟩ := h
  exact (h.1.fin hm i).mono fun _ _ ⟨he, hw⟩ => ⟨he, Tri.prog h a b c0 c1 c2 hw⟩
theorem Tri.refBegin {u w : World} {F R n m : Nat} {s t : St} {q : Nat} {c x y : Int} (h : Tri u w F R n m s t q c x y) (i z : Int) :
    Calls Try.prog 11 #[.pointer (some ⟨R, 0, none⟩), .int .i64 i, .int .i64 z] w fun e w' => e = .returned (.int .i64 (bErr t n i)) ∧ Tri u w' F R n (m + 1) s (bSt t n i z) q c x y := by
  obtain ⟨S, lv, dv, h, a, b, c0, c1, c2⟩ := h
  exact (refBegin_any h.2.1 h.1.frame.size i z).mono fun _ _ ⟨he, hw⟩ => ⟨he, Tri.ref h a b c0 c1 c2 hw⟩
theorem Tri.refStep {u w : World} {F R n m : Nat} {s t : St} {q : Nat} {c x y : Int} (h : Tri u w F R n m s t q c x y) (hm : m ≤ 1000) (i : Int) :
    Calls Try.prog 13 #[.pointer (some ⟨R, 0, none⟩), .int .i64 i] w fun e w' => e = .returned (.int .i64 (sErr t n i)) ∧ Tri u w' F R n (m + 1) s (sSt t i) q c x y := by
  obtain ⟨S, lv, dv, h, a, b, c0, c1, c2⟩ := h
  exact (refStep_any h.2.1 hm i).mono fun _ _ ⟨he, hw⟩ => ⟨he, Tri.ref h a b c0 c1 c2 hw⟩
theorem Tri.refFin {u w : World} {F R n m : Nat} {s t : St} {q : Nat} {c x y : Int} (h : Tri u w F R n m s t q c x y) (hm : m ≤ 1000) (i : Int) :
    Calls Try.prog 15 #[.pointer (some ⟨R, 0, none⟩), .int .i64 i] w fun e w' => e = .returned (.int .i64 (sErr t n i)) ∧ Tri u w' F R n (m + 1) s (eSt t i) q c x y := by
  obtain ⟨S, lv, dv, h, a, b, c0, c1, c2⟩ := h
  exact (refEnd_any h.2.1 h.1.frame.size hm i).mono fun _ _ ⟨he, hw⟩ => ⟨he, Tri.ref h a b c0 c1 c2 hw⟩
theorem tri_new {u w : World} {F R n m : Nat} {s t : St} {c x y : Int} (h : Duo2 u w F R n m s t) (T : TypeId) : Tri u (w.alloc (.cells #[.int .i64 c, .int .i64 x, .int .i64 y] T)) F R n m s t w.heap.size c x y := by
  obtain ⟨S, lv, dv, h1, h2, h3⟩ := h
  have k : Kept w (w.alloc (.cells #[.int .i64 c, .int .i64 x, .int .i64 y] T)) := (Kept.refl w).alloc _ _
  exact ⟨S, lv, dv, ⟨h1.kept k, h2.kept k, h3⟩, fun hq => Nat.lt_irrefl _ (h1.lt _ hq), fun hq => Nat.lt_irrefl _ (h2.lt _ hq), cell_new _ _ _ _ 0 rfl, cell_new _ _ _ _ 1 rfl, cell_new _ _ _ _ 2 rfl⟩

/-- Between two acts. -/
def ActRel (u : World) (F R n len : Nat) (i : Value) (wr : World) : Prop :=
  ∃ (k : Nat) (s : St), k ≤ len ∧ i = .int .i64 k ∧ Duo2 u wr F R n (2 * k) s s
/-- Behind the switch. -/
def ActMid (u : World) (F R n k : Nat) (q : Nat) (c x y : Int) (same : Value) (wr : World) : Prop :=
  ∃ s : St, same = .bool true ∧ Tri u wr F R n (2 * k + 2) s s q c x y

set_option maxRecDepth 100000 in
theorem acts_long {w : World} (x : Int) (q : Option Addr) (n c : Nat) (hn : 80 < n) :
    Calls Try.prog 3 #[.int .i64 x, .slice q n c] w fun e w' => e = .returned (.bool true) ∧ Kept w w' := by
  go_enter Try.func3, Try.ntmps3
  go_wp2_with fail; refine (awake_any _).mono ?_; rintro e w1 ⟨rfl, k1⟩
  go_wp2
  go_ret
  exact ⟨rfl, k1⟩

set_option maxRecDepth 100000 in
theorem acts_out {w : World} (x : Int) (hx : ¬ (1 ≤ x ∧ x ≤ 64)) (q : Option Addr) (n c : Nat) (hn : n ≤ 80) :
    Calls Try.prog 3 #[.int .i64 x, .slice q n c] w fun e w' => e = .returned (.bool true) ∧ Kept w w' := by
  go_enter Try.func3, Try.ntmps3
  go_wp2_with fail; refine (new_out x hx).mono ?_; rintro e w1 ⟨rfl, rfl⟩
  go_wp2_with fail; refine (refNew_out x hx).mono ?_; rintro e w1 ⟨rfl, rfl⟩
  go_wp2_with fail
  refine wp_loop_rounds 1 ?_
  rw [rounds_succ]
  go_wp2_with fail; refine (awake_any _).mono ?_; rintro e w1 ⟨rfl, k1⟩
  go_wp2
  go_ret
  exact ⟨rfl, k1⟩

set_option maxRecDepth 100000 in
set_option maxHeartbeats 8000000 in
theorem acts_in {w : World} (n : Nat) (n1 : 1 ≤ n) (n64 : n ≤ 64) (q : Option Addr) (len c : Nat) (hlen : len ≤ 80) (wt : IsTable w q len c 3 actR) :
    Calls Try.prog 3 #[.int .i64 n, .slice q len c] w fun e w' => e = .returned (.bool true) ∧ Kept w w' := by
  have WT := Lib.hid wt
  clear wt
  go_enter Try.func3, Try.ntmps3
  go_wp2_with fail; refine (one_new n n1 n64).mono ?_; rintro e w1 ⟨F, S, rfl, k1, h1, _⟩
  have K1 := Lib.hid k1
  have H1 := Lib.hid h1
  clear k1 h1
  go_wp2_with fail; refine (refNew_in n n1 n64).mono ?_; rintro e w2 ⟨R, rfl, k2, h2⟩
  have H2 := Lib.hid (duo_new H1.out h2 k2)
  clear h2 k2
  go_wp2_with fail
  go_loopw [9] (ActRel w F R n len) (fun i _ => len - (intOf i).toNat)
  case atStart => exact ⟨0, St.zero, Nat.zero_le _, rfl, H2.out⟩
  case round =>
    obtain ⟨k, s, hk, rfl, hd⟩ := hrel
    have HD := Lib.hid hd
    clear hd
    by_cases hlt : k < len
    · obtain ⟨b, off, a0, a1, a2, rfl, hb, c0, c1, c2, ⟨l0, u0⟩, ⟨l1, u1⟩, l2, u2⟩ := act_at WT.out k hlt
      have c0 := HD.out.frame.some c0
      have c1 := HD.out.frame.some c1
      have c2 := HD.out.frame.some c2
      have HT := Lib.hid (tri_new (c := a0) (x := a1) (y := a2) HD.out 32)
      have wq := Nat.lt_succ_self wr.heap.size
      go_upto_block 2 with fail
      obtain ⟨q, hq⟩ : ∃ q, q = wr.heap.size := ⟨_, rfl⟩
      obtain ⟨W, hW⟩ : ∃ W, W = wr.alloc (.cells #[.int .i64 a0, .int .i64 a1, .int .i64 a2] 32) := ⟨_, rfl⟩
      rw [← hW] at HT ⊢
      rw [← hq] at HT ⊢
      clear hq hW c0 c1 c2 wq
      have b1 := HT.out.c1
      have b2 := HT.out.c2
      go_cut [11] (ActMid w F R n k q a0 a1 a2)
      case first =>
        by_cases q0 : a0 = 0
        · subst q0
          go_wp2_with fail
          go_region_held3 (fun w' => w'.cell? ⟨q, 1, none⟩ = some (.int .i64 a1) ∧ w'.cell? ⟨q, 2, none⟩ = some (.int .i64 a2))
            (first | exact ⟨T2.out.c1, T2.out.c2⟩ | exact ⟨T1.out.c1, T1.out.c2⟩ | exact ⟨HT.out.c1, HT.out.c2⟩ | go_keep)
            (first
              | (go_at_call 10; refine ((HT.out.kept (by first | with_reducible exact Kept.refl _ | with_reducible exact (Kept.refl _).drew | with_reducible exact (Kept.refl _).drewN _)).begin a1 a2).mono ?_; rintro e v1 ⟨rfl, t1⟩; have T1 := Lib.hid t1; clear t1)
              | (go_at_call 11; refine ((T1.out.kept (by first | with_reducible exact Kept.refl _ | with_reducible exact (Kept.refl _).drew | with_reducible exact (Kept.refl _).drewN _)).refBegin a1 a2).mono ?_; rintro e v2 ⟨rfl, t2⟩; have T2 := Lib.hid t2; clear t2))
          go_wp2
          go_meet
          exact ⟨_, rfl, T2.out⟩
        · by_cases q1 : a0 = 1
          · subst q1
            go_wp2_with fail
            go_region_held3 (fun w' => w'.cell? ⟨q, 1, none⟩ = some (.int .i64 a1) ∧ w'.cell? ⟨q, 2, none⟩ = some (.int .i64 a2))
              (first | exact ⟨T2.out.c1, T2.out.c2⟩ | exact ⟨T1.out.c1, T1.out.c2⟩ | exact ⟨HT.out.c1, HT.out.c2⟩ | go_keep)
              (first
                | (go_at_call 12; refine ((HT.out.kept (by first | with_reducible exact Kept.refl _ | with_reducible exact (Kept.refl _).drew | with_reducible exact (Kept.refl _).drewN _)).step (by omega) a1).mono ?_; rintro e v1 ⟨rfl, t1⟩; have T1 := Lib.hid t1; clear t1)
                | (go_at_call 13; refine ((T1.out.kept (by first | with_reducible exact Kept.refl _ | with_reducible exact (Kept.refl _).drew | with_reducible exact (Kept.refl _).drewN _)).refStep (by omega) a1).mono ?_; rintro e v2 ⟨rfl, t2⟩; have T2 := Lib.hid t2; clear t2))
            go_wp2
            go_meet
            exact ⟨_, rfl, T2.out⟩
          · by_cases q2 : a0 = 2
            · subst q2
              go_wp2_with fail
              go_region_held3 (fun w' => w'.cell? ⟨q, 1, none⟩ = some (.int .i64 a1) ∧ w'.cell? ⟨q, 2, none⟩ = some (.int .i64 a2))
                (first | exact ⟨T2.out.c1, T2.out.c2⟩ | exact ⟨T1.out.c1, T1.out.c2⟩ | exact ⟨HT.out.c1, HT.out.c2⟩ | go_keep)
                (first
                  | (go_at_call 14; refine ((HT.out.kept (by first | with_reducible exact Kept.refl _ | with_reducible exact (Kept.refl _).drew | with_reducible exact (Kept.refl _).drewN _)).fin (by omega) a1).mono ?_; rintro e v1 ⟨rfl, t1⟩; have T1 := Lib.hid t1; clear t1)
                  | (go_at_call 15; refine ((T1.out.kept (by first | with_reducible exact Kept.refl _ | with_reducible exact (Kept.refl _).drew | with_reducible exact (Kept.refl _).drewN _)).refFin (by omega) a1).mono ?_; rintro e v2 ⟨rfl, t2⟩; have T2 := Lib.hid t2; clear t2))
              go_wp2
              go_meet
              exact ⟨_, rfl, T2.out⟩
            · go_wp2
              go_meet
              exact ⟨s, rfl, HT.out.mono (by omega)⟩
      case rest =>
        obtain ⟨s6, rfl, ht⟩ := hcut
        have H6 := Lib.hid ht
        have b1 := ht.c1
        clear ht
        obtain ⟨S6, h6⟩ := H6.out.duo.one
        have HO6 := Lib.hid h6
        clear h6
        go_wp2_with fail; refine (HO6.out.what a1).mono ?_; rintro e w7 ⟨rfl, k7⟩
        have H7 := Lib.hid (H6.out.kept k7)
        have KA := Lib.hid k7
        have b1 := H7.out.c1
        obtain ⟨lv, dv, h7⟩ := H7.out.duo.rf
        have HR7 := Lib.hid h7
        clear h7 k7
        go_wp2_with fail; refine (refOf_any HR7.out a1).mono ?_; rintro e w8 ⟨rfl, k8⟩
        have KB := Lib.hid (KA.out.trans k8)
        clear k8
        go_wp2_with fail; refine ((HO6.out.kept KB.out).busy).mono ?_; rintro e w9 ⟨a9, c9, rfl, k9, own9⟩
        have KC := Lib.hid (KB.out.trans k9)
        have OW9 := Lib.hid own9
        clear k9 own9
        go_wp2_with fail; refine ((HO6.out.kept KC.out).deeds (by omega)).mono ?_; rintro e v0 ⟨a10, c10, rfl, k10, own10⟩
        have KD := Lib.hid (KC.out.trans k10)
        have OW10 := Lib.hid own10
        have OW9' := Lib.hid (own_same (w' := v0) OW9.out fun g hg => k10.below.block g (OW9.out.lt g hg).2)
        have LB := Lib.hid (own_lies OW9'.out)
        have LD := Lib.hid (own_lies OW10.out)
        have h0 := H6.out.kept KD.out
        have b1 := h0.c1
        have b2 := h0.c2
        obtain ⟨lv, dv, h7⟩ := h0.duo.rf
        obtain ⟨ad, cd, hv⟩ := own_form h7.ownD
        subst hv
        have b3 := h7.all
        have b4 := h7.dee
        have LR := Lib.hid (own_lies h7.ownD)
        have cl : (cores s6 n).length ≤ 64 := cores_length h7.fine
        have dl := h7.fine.dm
        have ho := HO6.out.kept KD.out
        have P1 := Lib.hid (fun (W : World) (hk : Kept v0 W) => (ho.kept hk).steps a1)
        have P2 := Lib.hid (fun (W : World) (hk : Kept v0 W) => refBusy_any (h7.kept hk))
        have P4 := Lib.hid (fun (W : World) (hk : Kept v0 W) => (ho.kept hk).turn a2 l2 u2)
        have P5 := Lib.hid (fun (W : World) (hk : Kept v0 W) => refTurn_any (h7.kept hk) a2)
        have P6 := Lib.hid (fun (W : World) (hk : Kept v0 W) => (ho.kept hk).all)
        have P7 := Lib.hid (fun (W : World) (hk : Kept v0 W) => sameDeeds_yes (LD.out.kept hk) (LR.out.kept hk) (by omega))
        have K0 := Kept.refl v0
        have HD0 := Lib.hid h0.duo
        clear k10 own10 h0 h7 ho
        go_wp2_with fail
        go_region_held3 (fun w' => w'.cell? ⟨q, 1, none⟩ = some (.int .i64 a1) ∧ w'.cell? ⟨q, 2, none⟩ = some (.int .i64 a2) ∧ w'.cell? ⟨R, 3, none⟩ = some (.int .i64 s6.all) ∧ w'.cell? ⟨R, 2, none⟩ = some (.slice ad s6.D.length cd))
          (first | exact ⟨K7.some b1, K7.some b2, K7.some b3, K7.some b4⟩ | exact ⟨K5.some b1, K5.some b2, K5.some b3, K5.some b4⟩ | exact ⟨K4.some b1, K4.some b2, K4.some b3, K4.some b4⟩ | exact ⟨K3.some b1, K3.some b2, K3.some b3, K3.some b4⟩ | exact ⟨K2.some b1, K2.some b2, K2.some b3, K2.some b4⟩ | exact ⟨K1.some b1, K1.some b2, K1.some b3, K1.some b4⟩ | exact ⟨K0.some b1, K0.some b2, K0.some b3, K0.some b4⟩ | go_keep)
          (first
            | (go_at_call 20; refine (P1.out _ ?_).mono ?_; (first | with_reducible exact K0 | with_reducible exact K0.drew | with_reducible exact K0.drewN _); rintro e v1 ⟨rfl, k1⟩; have K1 : Kept v0 v1 := (by first | with_reducible exact K0.trans k1 | with_reducible exact K0.drew.trans k1 | with_reducible exact (K0.drewN _).trans k1))
            | (go_at_call 22; refine (P2.out _ ?_).mono ?_; (first | with_reducible exact K1 | with_reducible exact K1.drew | with_reducible exact K1.drewN _); rintro e v2 ⟨a7, c7, rfl, k2, own7⟩; have K2 : Kept v0 v2 := (by first | with_reducible exact K1.trans k2 | with_reducible exact K1.drew.trans k2 | with_reducible exact (K1.drewN _).trans k2); have L7 := Lib.hid (own_lies own7); clear own7)
            | (go_at_call 21; refine (sameInts_yes (LB.out.kept ?_) (L7.out.kept ?_) (by omega)).mono ?_; (first | with_reducible exact K2 | with_reducible exact K2.drew | with_reducible exact K2.drewN _); (first | with_reducible exact Kept.refl _ | with_reducible exact (Kept.refl _).drew | with_reducible exact (Kept.refl _).drewN _); rintro e v3 ⟨rfl, k3⟩; have K3 : Kept v0 v3 := (by first | with_reducible exact K2.trans k3 | with_reducible exact K2.drew.trans k3 | with_reducible exact (K2.drewN _).trans k3))
            | (go_at_call 23; refine (P4.out _ ?_).mono ?_; (first | with_reducible exact K3 | with_reducible exact K3.drew | with_reducible exact K3.drewN _); rintro e v4 ⟨rfl, k4⟩; have K4 : Kept v0 v4 := (by first | with_reducible exact K3.trans k4 | with_reducible exact K3.drew.trans k4 | with_reducible exact (K3.drewN _).trans k4))
            | (go_at_call 24; refine (P5.out _ ?_).mono ?_; (first | with_reducible exact K4 | with_reducible exact K4.drew | with_reducible exact K4.drewN _); rintro e v5 ⟨rfl, k5⟩; have K5 : Kept v0 v5 := (by first | with_reducible exact K4.trans k5 | with_reducible exact K4.drew.trans k5 | with_reducible exact (K4.drewN _).trans k5))
            | (go_at_call 25; refine (P6.out _ ?_).mono ?_; (first | with_reducible exact K5 | with_reducible exact K5.drew | with_reducible exact K5.drewN _); rintro e v6 ⟨rfl, rfl⟩; have K6 := K5)
            | (go_at_call 26; refine (P7.out _ ?_).mono ?_; (first | with_reducible exact K5 | with_reducible exact K5.drew | with_reducible exact K5.drewN _); rintro e v7 ⟨rfl, k7⟩; have K7 : Kept v0 v7 := (by first | with_reducible exact K5.trans k7 | with_reducible exact K5.drew.trans k7 | with_reducible exact (K5.drewN _).trans k7)))
        have OWb := Lib.hid (own_same (w' := v7) OW9'.out fun g hg => K7.below.block g (OW9'.out.lt g hg).2)
        have OWd := Lib.hid (own_kept OW10.out K7)
        have dl2 : s6.D.length ≤ 2000 := by omega
        go_wp2_with fail; refine (overInts_any OWb.out (by omega)).mono ?_; rintro e y1 ⟨rfl, j1⟩
        have J1 := Lib.hid j1
        have OWe := Lib.hid (own_but OWd.out j1 fun g hg e => by
          have h1 := (OW10.out.lt g hg).1
          have h2 := (OW9.out.lt g e).2
          omega)
        clear j1
        go_wp2_with fail; refine (overDeeds_any OWe.out dl2).mono ?_; rintro e y2 ⟨rfl, j2⟩
        have J2 := Lib.hid j2
        have FIN : Duo2 w y2 F R n (2 * k + 2) s6 s6 := H6.out.duo.fresh (KD.out.trans K7) ((J1.out.mono (T := fun j => (Value.slice a9 (cores s6 n).length c9).ownBlock = some j ∨ (Value.slice a10 s6.D.length c10).ownBlock = some j) fun _ _ h => .inl h).trans J2.out (fun _ _ h => .inr h)) fun j hj => by
          rcases hj with hj | hj
          · have h1 := (OW9.out.lt j hj).1
            have h2 := KB.out.size
            omega
          · have h1 := (OW10.out.lt j hj).1
            have h2 := KC.out.size
            omega
        have FI := Lib.hid FIN
        clear j2 FIN
        go_wp2
        go_roundw
        case rel => exact ⟨k + 1, s6, by omega, by go_num, FI.out⟩
        case measure => simp [intOf]; omega
    · go_wp2_with fail; refine (awake_any _).mono ?_; rintro e w3 ⟨rfl, k3⟩
      go_wp2
      go_ret
      exact ⟨rfl, HD.out.frame.trans k3⟩

theorem acts_any {w : World} (x : Int) (q : Option Addr) (len c : Nat) (wt : IsTable w q len c 3 actR) :
    Calls Try.prog 3 #[.int .i64 x, .slice q len c] w fun e w' => e = .returned (.bool true) ∧ Kept w w' := by
  by_cases h : 80 < len
  · exact acts_long x q len c h
  · by_cases hx : 1 ≤ x ∧ x ≤ 64
    · obtain ⟨n, rfl⟩ := Int.eq_ofNat_of_zero_le (show 0 ≤ x by omega)
      exact acts_in n (by omega) (by omega) q len c (by omega) wt
    · exact acts_out x hx q len c (by omega)
end Go.Proofs.Ytdgajkimepgljaa
