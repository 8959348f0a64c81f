/- What an operation may come to: first, none, pick, look, put, outcomes, refused. -/
import Derived.Test.YteomggjkdaddhaaHePlace
import Derived.Test.YteomggjkdaddhaaHeAns
namespace Go.Proofs.Yteomggjkdaddhaa
open Go.RowKit

/-- What an operation may come to is told, in a list of the call's own. -/
def RetO (w : World) (L : List (Ann × List It)) (e : Ending) (w' : World) : Prop :=
  ∃ (M : List Oc) (a : Option Addr) (c : Nat), e = .returned (.slice a M.length c) ∧ Kept w w' ∧ M.map Oc.two = L ∧ Lay w' (.slice a M.length c) M.length (flatC M) ∧ ∀ m ∈ M, Lay w' (.slice m.at_ m.l.length m.cap) m.l.length (flatI m.l)

set_option maxHeartbeats 1000000 in
theorem first_any {w : World} {a : Option Addr} {c n : Nat} {x : It} {r : List It} (h : Lay w (.slice a n c) n (flatI (x :: r))) (hn : n = (x :: r).length) :
    Calls Try.prog 41 #[.slice a n c] w fun e w' => e = .returned (.agg #[.int .i64 0, .int .i64 x.a, .int .u64 x.k]) ∧ Kept w w' := by
  obtain ⟨g, o, c', e, hnc, hcm, hc⟩ : ∃ g o c', Value.slice a n c = .slice (some ⟨g, o, none⟩) n c' ∧ n ≤ c' ∧ c' ≤ maxLen ∧ ItAt w g o x := by
    rw [hn] at h
    obtain ⟨g, o, c', e, h1, h2, h3⟩ := h.it (by simp)
    cases e
    exact ⟨g, o, c, by rw [hn], by omega, h2, by simpa using h3 0 x rfl⟩
  cases e
  unfold maxLen at hcm
  have h0 : 0 < n := by simp at hn; omega
  have h0' : (0 : Int) < n := by omega
  obtain ⟨W0, hW0⟩ : ∃ W0, w.alloc (.cells #[.int .i64 0, .int .i64 0, .int .u64 0] 28) = W0 := ⟨_, rfl⟩
  have k0 : Kept w W0 := by rw [← hW0]; exact (Kept.refl w).alloc _ _
  have A0 := Lib.hid (show AnBox W0 w.heap.size noAnn by rw [← hW0]; exact AnBox.new w noAnn _ _ rfl)
  obtain ⟨i0, i1⟩ := hc.kept k0
  obtain ⟨a0, a1, a2, s⟩ := A0.out
  have s0 := s 0
  have s1 := s 1
  have s2 := s 2
  have HW := Lib.hid hW0
  have K0 := Lib.hid k0
  have gl := lt_of_cell hc.c0
  clear hc hW0 k0 hn h s
  go_enter Try.func41, Try.ntmps41
  go_upto_region 1 with fail
  rw [HW.out]
  go_region
  go_wp2
  exact bodyPost_ret (ans_result1 Try.results41 rfl ((A0.out.put ⟨0, x.a, x.k⟩).kept ((Kept.refl _).drew))) rfl ⟨rfl, (K0.out.wrote1 ((((But.refl _ _).here _ _).here _ _).here _ _) (Nat.le_refl _)).drew⟩

set_option maxHeartbeats 1000000 in
theorem none_any {w : World} {a : Option Addr} {c n : Nat} {l : List It} (h : Lay w (.slice a n c) n (flatI l)) (hn : n = l.length) :
    Calls Try.prog 40 #[.slice a n c] w (RetO w [(⟨15, 0, 0⟩, l)]) := by
  have HL := Lib.hid h
  have HN := Lib.hid hn
  clear h hn
  go_enter Try.func40, Try.ntmps40
  go_wp2
  go_ret
  refine ⟨[⟨⟨15, 0, 0⟩, a, c, l⟩], some ⟨w.heap.size, 0, none⟩, 1, rfl, (Kept.refl w).alloc _ _, rfl, lay_new (t := 54) (fr := (0, 0)) ?_ (by simp), ?_⟩
  · rw [HN.out]; exact heap_alloc_new _ _
  · intro m hm
    obtain rfl : m = ⟨⟨15, 0, 0⟩, a, c, l⟩ := by simpa using hm
    have := HL.out.kept ((Kept.refl w).alloc #[.int .i64 15, .int .i64 0, .int .u64 0, .slice a n c] 54)
    rw [← HN.out]
    exact this

set_option maxHeartbeats 1000000 in
theorem look_any {w : World} {a : Option Addr} {c n : Nat} {x : It} {r : List It} {o : Opn} (h : Lay w (.slice a n c) n (flatI (x :: r))) (hn : n = (x :: r).length) :
    Calls Try.prog 37 #[.slice a n c, .agg #[.int .i64 o.k, .int .i64 o.a, .int .i64 o.b, .int .u64 o.u]] w (RetO w [(⟨0, x.a, x.k⟩, x :: r)]) := by
  have K0 := Lib.hid ((Kept.refl w).alloc #[.int .i64 o.k, .int .i64 o.a, .int .i64 o.b, .int .u64 o.u] 25)
  have FI := Lib.hid (first_any (h.kept K0.out) hn)
  have HL := Lib.hid h
  have HN := Lib.hid hn
  have hb : ((n : Int) == 0) = false := by simp at hn ⊢; omega
  clear h hn
  go_enter Try.func37, Try.ntmps37
  go_wp2_with fail; refine FI.out.mono ?_; rintro e w1 ⟨rfl, k1⟩
  have K1 := Lib.hid (K0.out.trans k1)
  clear k1
  go_wp2
  go_ret
  refine ⟨[⟨⟨0, x.a, x.k⟩, a, c, x :: r⟩], some ⟨w1.heap.size, 0, none⟩, 1, rfl, K1.out.alloc _ _, rfl, lay_new (t := 54) (fr := (0, 0)) ?_ (by simp), ?_⟩
  · rw [HN.out]; exact heap_alloc_new _ _
  · intro m hm
    obtain rfl : m = ⟨⟨0, x.a, x.k⟩, a, c, x :: r⟩ := by simpa using hm
    have := HL.out.kept (K1.out.alloc #[.int .i64 0, .int .i64 x.a, .int .u64 x.k, .slice a n c] 54)
    rw [← HN.out]
    exact this
set_option maxHeartbeats 1000000 in
theorem look_none {w : World} {a : Option Addr} {c n : Nat} {o : Opn} (h : Lay w (.slice a n c) n (flatI [])) (hn : n = 0) :
    Calls Try.prog 37 #[.slice a n c, .agg #[.int .i64 o.k, .int .i64 o.a, .int .i64 o.b, .int .u64 o.u]] w (RetO w [(⟨15, 0, 0⟩, [])]) := by
  have K0 := Lib.hid ((Kept.refl w).alloc #[.int .i64 o.k, .int .i64 o.a, .int .i64 o.b, .int .u64 o.u] 25)
  have FI := Lib.hid (none_any (h.kept K0.out) hn)
  subst hn
  clear h
  go_enter Try.func37, Try.ntmps37
  go_wp2_with fail; refine FI.out.mono ?_; rintro e w1 ⟨M, a1, c1, rfl, k1, h2, h3, h4⟩
  go_wp2
  go_ret
  exact ⟨M, a1, c1, rfl, K0.out.trans k1, h2, h3, h4⟩
set_option maxHeartbeats 1000000 in
theorem pick_none {w : World} {a : Option Addr} {c n : Nat} {o : Opn} (h : Lay w (.slice a n c) n (flatI [])) (hn : n = 0) :
    Calls Try.prog 36 #[.slice a n c, .agg #[.int .i64 o.k, .int .i64 o.a, .int .i64 o.b, .int .u64 o.u]] w (RetO w [(⟨15, 0, 0⟩, [])]) := by
  have K0 := Lib.hid ((Kept.refl w).alloc #[.int .i64 o.k, .int .i64 o.a, .int .i64 o.b, .int .u64 o.u] 25)
  have FI := Lib.hid (none_any (h.kept K0.out) hn)
  subst hn
  clear h
  go_enter Try.func36, Try.ntmps36
  go_wp2_with fail; refine FI.out.mono ?_; rintro e w1 ⟨M, a1, c1, rfl, k1, h2, h3, h4⟩
  go_wp2
  go_ret
  exact ⟨M, a1, c1, rfl, K0.out.trans k1, h2, h3, h4⟩
set_option maxRecDepth 100000 in
set_option maxHeartbeats 2000000 in
theorem pick_any {w : World} {a : Option Addr} {c n : Nat} {x : It} {r : List It} {o : Opn} (h : Lay w (.slice a n c) n (flatI (x :: r))) (hn : n = (x :: r).length) :
    Calls Try.prog 36 #[.slice a n c, .agg #[.int .i64 o.k, .int .i64 o.a, .int .i64 o.b, .int .u64 o.u]] w (RetO w [(⟨0, x.a, x.k⟩, r)]) := by
  obtain ⟨a', c', e, hnc, hcm⟩ := h.form
  cases e
  have h1 : 1 ≤ n := by simp at hn; omega
  have hnil := h.nil_cap
  have s1 : ∀ W, (Instr.slice 22 (.slice a n c) (some (.int .i64 1)) (some (.int .i64 n)) (some (.int .i64 n))).run Try.prog W = .ok (.slice (if n = 1 then a else a.map (·.add (1 * 2))) (n - 1) (n - 1)) W := run_tail3 a n c 1 h1 hnc
  obtain ⟨A2, hA2⟩ : ∃ A2, (if n = 1 then a else a.map (·.add (1 * 2))) = A2 := ⟨_, rfl⟩
  obtain ⟨W0, hW0⟩ : ∃ W0, w.alloc (.cells #[.int .i64 o.k, .int .i64 o.a, .int .i64 o.b, .int .u64 o.u] 25) = W0 := ⟨_, rfl⟩
  have k0 : Kept w W0 := by rw [← hW0]; exact (Kept.refl w).alloc _ _
  have H2 := Lib.hid (show Lay W0 (.slice A2 (n - 1) (n - 1)) (n - 1) (flatI r) by
    rw [← hA2]
    exact (h.tail hn h1 (Nat.le_refl _) (by omega) (fun e => by have := hnil e; omega)).kept k0)
  have FI := Lib.hid (fun W (k : Kept W0 W) => first_any (h.kept (k0.trans k)) hn)
  rw [hA2] at s1
  have HR := Lib.hid (show n - 1 = r.length by simp at hn; omega)
  have hb : ((n : Int) == 0) = false := by simp; omega
  have HW := Lib.hid hW0
  have K0 := Lib.hid k0
  clear h hn hA2 hW0 k0 hnil
  go_enter Try.func36, Try.ntmps36
  go_upto_region 3 with fail
  rw [HW.out]
  have kt0 : Kept W0 W0.drew := (Kept.refl W0).drew
  go_region_held3 (fun w' => True) (exact trivial)
    (first | (go_at_call 41; refine (FI.out _ kt0).mono ?_; rintro e w1 ⟨rfl, k1⟩; have kt1 : Kept W0 w1 := kt0.trans k1))
  go_wp2
  go_ret
  refine ⟨[⟨⟨0, x.a, x.k⟩, A2, n - 1, r⟩], some ⟨w1.heap.size, 0, none⟩, 1, rfl, (K0.out.trans kt1).alloc _ _, rfl, lay_new (t := 54) (fr := (0, 0)) ?_ (by simp), ?_⟩
  · rw [HR.out]; exact heap_alloc_new _ _
  · intro m hm
    obtain rfl : m = ⟨⟨0, x.a, x.k⟩, A2, n - 1, r⟩ := by simpa using hm
    have := H2.out.kept (kt1.alloc #[.int .i64 0, .int .i64 x.a, .int .u64 x.k, .slice A2 (n - 1) (n - 1)] 54)
    rw [← HR.out]
    exact this

set_option maxRecDepth 100000 in
set_option maxHeartbeats 2000000 in
theorem put_double {w : World} {a : Option Addr} {c n : Nat} {l : List It} {o : Opn} (h : Lay w (.slice a n c) n (flatI l)) (hn : n = l.length) (ha : asc l = true) (hd : hs o.u l = true) :
    Calls Try.prog 35 #[.slice a n c, .agg #[.int .i64 o.k, .int .i64 o.a, .int .i64 o.b, .int .u64 o.u]] w (RetO w [(⟨7, 0, 0⟩, l), (⟨12, 0, 0⟩, l), (⟨8, 0, 0⟩, l)]) := by
  obtain ⟨i0, hi0, hz0, hz1, hz2⟩ := info_parts infoC
  obtain ⟨a', c', e, hnc, hcm⟩ := h.form
  cases e
  obtain ⟨W0, hW0⟩ : ∃ W0, ((w.alloc (.cells #[.int .i64 o.k, .int .i64 o.a, .int .i64 o.b, .int .u64 o.u] 25)).alloc (.cells #[.int .i64 7, .int .i64 0, .int .u64 0, .slice a n c, .int .i64 12, .int .i64 0, .int .u64 0, .slice a n c] 54)) = W0 := ⟨_, rfl⟩
  have k0 : Kept w W0 := by rw [← hW0]; exact ((Kept.refl w).alloc _ _).alloc _ _
  have OB := Lib.hid (show OpBox W0 w.heap.size o by rw [← hW0]; exact (OpBox.new w o _ _ rfl).kept ((Kept.refl _).alloc _ _))
  obtain ⟨B, hB⟩ : ∃ B, (w.alloc (.cells #[.int .i64 o.k, .int .i64 o.a, .int .i64 o.b, .int .u64 o.u] 25)).heap.size = B := ⟨_, rfl⟩
  have LB := Lib.hid (show Lay W0 (.slice (some ⟨B, 0, none⟩) 2 2) 2 (flatC [⟨⟨7, 0, 0⟩, a, c, l⟩, ⟨⟨12, 0, 0⟩, a, c, l⟩]) from
    lay_new (t := 54) (fr := (0, 0)) (by rw [← hW0, ← hB, hn]; exact heap_alloc_new _ _) (by decide))
  have SE := Lib.hid (search_any o.u (h.kept k0) hn ha)
  obtain ⟨Pl, hPl⟩ : ∃ Pl, pl o.u l = Pl := ⟨_, rfl⟩
  rw [hPl, hd] at SE
  have HB := Lib.hid (show w.heap.size + 1 = B by rw [← hB]; simp)
  have HW := Lib.hid hW0
  have K0 := Lib.hid k0
  have HL := Lib.hid (h.kept k0)
  have HN := Lib.hid hn
  have HP := Lib.hid hPl
  clear hW0 hB k0 h hn hPl ha hd
  obtain ⟨p0, p1, p2, p3⟩ := OB.out
  go_enter Try.func35, Try.ntmps35
  go_upto_region 2 with fail
  rw [HW.out, HB.out]
  go_wp2_with fail; refine SE.out.mono ?_; rintro e w2 ⟨rfl, k2⟩
  have K2 := Lib.hid k2
  clear k2 p0 p1 p2 p3
  obtain ⟨p0, p1, p2, p3⟩ := OB.out.kept K2.out
  go_wp2_with (at_builtin; refine wpList_append_full _ rfl _ _ _ (by rfl) 54 i0 _ 4 48 Try.underlying51 hi0 hz0 hz1 hz2 (by rfl) (some ⟨B, 0, none⟩) 2 2 (flatC [⟨⟨7, 0, 0⟩, a, c, l⟩, ⟨⟨12, 0, 0⟩, a, c, l⟩]) (by simp [Act.eval]) (by rfl) (LB.out.kept (K2.out.alloc _ _)) (.slice (some ⟨w2.heap.size, 0, none⟩) 1 1) 1 (flatC [⟨⟨8, 0, 0⟩, a, c, l⟩]) (by simp [Act.eval]) (by rfl) (lay_new (t := 54) (fr := (0, 0)) (by rw [HN.out]; exact heap_alloc_new _ _) (by simp)) (flatC_one _) (by omega) (by decide) (by decide) ?_; intro b3 c3 w3 own3 k3)
  have K3 := Lib.hid ((K2.out.alloc _ _).trans k3)
  have O3 := Lib.hid own3
  clear own3 k3
  go_wp2
  go_ret
  refine ⟨[⟨⟨7, 0, 0⟩, a, c, l⟩, ⟨⟨12, 0, 0⟩, a, c, l⟩, ⟨⟨8, 0, 0⟩, a, c, l⟩], some ⟨b3, 0, none⟩, c3, rfl, K0.out.trans K3.out, rfl, (own_lies O3.out).lay, ?_⟩
  intro m hm
  have := HL.out.kept K3.out
  rw [HN.out] at this
  simp at hm
  rcases hm with rfl | rfl | rfl <;> exact this

set_option maxRecDepth 100000 in
set_option maxHeartbeats 2000000 in
theorem put_full {w : World} {a : Option Addr} {c n : Nat} {l : List It} {o : Opn} (h : Lay w (.slice a n c) n (flatI l)) (hn : n = l.length) (ha : asc l = true) (hd : hs o.u l = false) (hr : ¬ n < 1024) :
    Calls Try.prog 35 #[.slice a n c, .agg #[.int .i64 o.k, .int .i64 o.a, .int .i64 o.b, .int .u64 o.u]] w (RetO w [(⟨7, 0, 0⟩, l), (⟨12, 0, 0⟩, l)]) := by
  obtain ⟨i0, hi0, hz0, hz1, hz2⟩ := info_parts infoC
  obtain ⟨a', c', e, hnc, hcm⟩ := h.form
  cases e
  obtain ⟨W0, hW0⟩ : ∃ W0, ((w.alloc (.cells #[.int .i64 o.k, .int .i64 o.a, .int .i64 o.b, .int .u64 o.u] 25)).alloc (.cells #[.int .i64 7, .int .i64 0, .int .u64 0, .slice a n c, .int .i64 12, .int .i64 0, .int .u64 0, .slice a n c] 54)) = W0 := ⟨_, rfl⟩
  have k0 : Kept w W0 := by rw [← hW0]; exact ((Kept.refl w).alloc _ _).alloc _ _
  have OB := Lib.hid (show OpBox W0 w.heap.size o by rw [← hW0]; exact (OpBox.new w o _ _ rfl).kept ((Kept.refl _).alloc _ _))
  obtain ⟨B, hB⟩ : ∃ B, (w.alloc (.cells #[.int .i64 o.k, .int .i64 o.a, .int .i64 o.b, .int .u64 o.u] 25)).heap.size = B := ⟨_, rfl⟩
  have LB := Lib.hid (show Lay W0 (.slice (some ⟨B, 0, none⟩) 2 2) 2 (flatC [⟨⟨7, 0, 0⟩, a, c, l⟩, ⟨⟨12, 0, 0⟩, a, c, l⟩]) from
    lay_new (t := 54) (fr := (0, 0)) (by rw [← hW0, ← hB, hn]; exact heap_alloc_new _ _) (by decide))
  have SE := Lib.hid (search_any o.u (h.kept k0) hn ha)
  obtain ⟨Pl, hPl⟩ : ∃ Pl, pl o.u l = Pl := ⟨_, rfl⟩
  rw [hPl, hd] at SE
  have HB := Lib.hid (show w.heap.size + 1 = B by rw [← hB]; simp)
  have HW := Lib.hid hW0
  have K0 := Lib.hid k0
  have HL := Lib.hid (h.kept k0)
  have HN := Lib.hid hn
  have HP := Lib.hid hPl
  have hr' : ¬ ((n : Int) < 1024) := by omega
  clear hW0 hB k0 h hn hPl ha hd
  obtain ⟨p0, p1, p2, p3⟩ := OB.out
  go_enter Try.func35, Try.ntmps35
  go_upto_region 2 with fail
  rw [HW.out, HB.out]
  go_wp2_with fail; refine SE.out.mono ?_; rintro e w2 ⟨rfl, k2⟩
  have K2 := Lib.hid k2
  clear k2 p0 p1 p2 p3
  obtain ⟨p0, p1, p2, p3⟩ := OB.out.kept K2.out
  go_wp2
  go_ret
  refine ⟨[⟨⟨7, 0, 0⟩, a, c, l⟩, ⟨⟨12, 0, 0⟩, a, c, l⟩], some ⟨B, 0, none⟩, 2, rfl, K0.out.trans K2.out, rfl, LB.out.kept K2.out, ?_⟩
  intro m hm
  have := HL.out.kept K2.out
  rw [HN.out] at this
  simp at hm
  rcases hm with rfl | rfl <;> exact this

set_option maxRecDepth 100000 in
set_option maxHeartbeats 2000000 in
theorem put_more {w : World} {a : Option Addr} {c n : Nat} {l : List It} {o : Opn} (h : Lay w (.slice a n c) n (flatI l)) (hn : n = l.length) (ha : asc l = true) (hd : hs o.u l = false) (hr : n < 1024) :
    Calls Try.prog 35 #[.slice a n c, .agg #[.int .i64 o.k, .int .i64 o.a, .int .i64 o.b, .int .u64 o.u]] w (RetO w [(⟨7, 0, 0⟩, l), (⟨12, 0, 0⟩, l), (⟨0, 0, 0⟩, ins ⟨o.u, o.a⟩ l)]) := by
  obtain ⟨i0, hi0, hz0, hz1, hz2⟩ := info_parts infoC
  obtain ⟨a', c', e, hnc, hcm⟩ := h.form
  cases e
  obtain ⟨W0, hW0⟩ : ∃ W0, ((w.alloc (.cells #[.int .i64 o.k, .int .i64 o.a, .int .i64 o.b, .int .u64 o.u] 25)).alloc (.cells #[.int .i64 7, .int .i64 0, .int .u64 0, .slice a n c, .int .i64 12, .int .i64 0, .int .u64 0, .slice a n c] 54)) = W0 := ⟨_, rfl⟩
  have k0 : Kept w W0 := by rw [← hW0]; exact ((Kept.refl w).alloc _ _).alloc _ _
  have OB := Lib.hid (show OpBox W0 w.heap.size o by rw [← hW0]; exact (OpBox.new w o _ _ rfl).kept ((Kept.refl _).alloc _ _))
  obtain ⟨B, hB⟩ : ∃ B, (w.alloc (.cells #[.int .i64 o.k, .int .i64 o.a, .int .i64 o.b, .int .u64 o.u] 25)).heap.size = B := ⟨_, rfl⟩
  have LB := Lib.hid (show Lay W0 (.slice (some ⟨B, 0, none⟩) 2 2) 2 (flatC [⟨⟨7, 0, 0⟩, a, c, l⟩, ⟨⟨12, 0, 0⟩, a, c, l⟩]) from
    lay_new (t := 54) (fr := (0, 0)) (by rw [← hW0, ← hB, hn]; exact heap_alloc_new _ _) (by decide))
  have SE := Lib.hid (search_any o.u (h.kept k0) hn ha)
  obtain ⟨Pl, hPl⟩ : ∃ Pl, pl o.u l = Pl := ⟨_, rfl⟩
  rw [hPl, hd] at SE
  have HB := Lib.hid (show w.heap.size + 1 = B by rw [← hB]; simp)
  have HW := Lib.hid hW0
  have K0 := Lib.hid k0
  have HL := Lib.hid (h.kept k0)
  have HN := Lib.hid hn
  have HP := Lib.hid hPl
  have hr' : (n : Int) < 1024 := by omega
  have hle : Pl ≤ n := by rw [← hPl, hn]; exact pl_le _ _
  have WI := Lib.hid (fun W (k : Kept W0 W) => with_any (x := ⟨o.u, o.a⟩) (HL.out.kept k) hn hle (by omega))
  clear hW0 hB k0 h hn hPl ha hd hle
  obtain ⟨p0, p1, p2, p3⟩ := OB.out
  go_enter Try.func35, Try.ntmps35
  go_upto_region 2 with fail
  rw [HW.out, HB.out]
  go_wp2_with fail; refine SE.out.mono ?_; rintro e w2 ⟨rfl, k2⟩
  have K2 := Lib.hid k2
  clear k2 p0 p1 p2 p3
  obtain ⟨p0, p1, p2, p3⟩ := OB.out.kept K2.out
  go_wp2_with fail; refine (WI.out _ K2.out).mono ?_; rintro e w3 ⟨a3, c3, rfl, k3, own3⟩
  have K3 := Lib.hid (K2.out.trans k3)
  have O3 := Lib.hid own3
  clear own3 k3
  go_wp2_with (at_builtin; refine wpList_append_full _ rfl _ _ _ (by rfl) 54 i0 _ 4 48 Try.underlying51 hi0 hz0 hz1 hz2 (by rfl) (some ⟨B, 0, none⟩) 2 2 (flatC [⟨⟨7, 0, 0⟩, a, c, l⟩, ⟨⟨12, 0, 0⟩, a, c, l⟩]) (by simp [Act.eval]) (by rfl) (LB.out.kept (K3.out.alloc _ _)) (.slice (some ⟨w3.heap.size, 0, none⟩) 1 1) 1 (flatC [⟨⟨0, 0, 0⟩, a3, c3, ins ⟨o.u, o.a⟩ l⟩]) (by simp [Act.eval]) (by rfl) (lay_new (t := 54) (fr := (0, 0)) (by rw [show n + 1 = (ins ⟨o.u, o.a⟩ l).length by rw [ins_length, HN.out]]; exact heap_alloc_new _ _) (by simp)) (flatC_one _) (by omega) (by decide) (by decide) ?_; intro b4 c4 w4 own4 k4)
  have K34 := Lib.hid ((Kept.refl w3).alloc #[.int .i64 0, .int .i64 0, .int .u64 0, .slice a3 (n + 1) c3] 54 |>.trans k4)
  have K4 := Lib.hid (K3.out.trans K34.out)
  have O4 := Lib.hid own4
  clear own4 k4
  go_wp2
  go_ret
  refine ⟨[⟨⟨7, 0, 0⟩, a, c, l⟩, ⟨⟨12, 0, 0⟩, a, c, l⟩, ⟨⟨0, 0, 0⟩, a3, c3, ins ⟨o.u, o.a⟩ l⟩], some ⟨b4, 0, none⟩, c4, rfl, K0.out.trans K4.out, rfl, (own_lies O4.out).lay, ?_⟩
  intro m hm
  have h1 := HL.out.kept K4.out
  rw [HN.out] at h1
  have h2 := (own_lies O3.out).lay.kept K34.out
  have e : put1 Pl (⟨o.u, o.a⟩ : It) l = ins ⟨o.u, o.a⟩ l := by unfold put1 ins; rw [← HP.out]
  rw [e, show n + 1 = (ins ⟨o.u, o.a⟩ l).length by rw [ins_length, HN.out]] at h2
  simp at hm
  rcases hm with rfl | rfl | rfl
  · exact h1
  · exact h1
  · exact h2

set_option maxRecDepth 100000 in
set_option maxHeartbeats 2000000 in
theorem refused_any (x : Ann) (s : Value) (w : World) : Calls Try.prog 30 #[.agg #[.int .i64 x.e, .int .i64 x.n, .int .u64 x.v, s]] w fun e w' => e = .returned (.bool (refd x)) ∧ Kept w w' := by
  by_cases h7 : x.e = 7
  · have hr : refd x = true := by simp [refd, h7]
    rw [hr, h7]
    clear hr h7
    go_enter Try.func30, Try.ntmps30
    go_wp2
    go_ret
    exact ⟨rfl, by (go_light; repeat (first | (with_reducible exact Kept.refl _) | (with_reducible assumption) | (with_reducible refine Kept.alloc ?_ _ _) | (with_reducible refine Kept.drew ?_) | (with_reducible refine Kept.drewN ?_ _) | ((with_reducible refine Kept.setCell ?_ ?_ _); rotate_left; focus (first | (simp; done) | (simp; omega))) | refine Kept.trans ?_ (by assumption)))⟩
  · have hr : refd x = decide (x.e = 12) := by simp [refd, h7]
    have b7 : (x.e == 7) = false := by simpa using h7
    rw [hr]
    clear hr h7
    go_enter Try.func30, Try.ntmps30
    go_wp2
    go_ret
    exact ⟨by first | rfl | (simp; done), by (go_light; repeat (first | (with_reducible exact Kept.refl _) | (with_reducible assumption) | (with_reducible refine Kept.alloc ?_ _ _) | (with_reducible refine Kept.drew ?_) | (with_reducible refine Kept.drewN ?_ _) | ((with_reducible refine Kept.setCell ?_ ?_ _); rotate_left; focus (first | (simp; done) | (simp; omega))) | refine Kept.trans ?_ (by assumption)))⟩
end Go.Proofs.Yteomggjkdaddhaa
