/- Answers in variables: stored, read, told; compared. -/
import Derived.Test.YtbfmmndpboagdaaGreatDoorGH1
import Derived.Laws.EntriesVeiled
namespace Go.Proofs.YtbfmmndpboagdaaGreatDoor.He
set_option maxRecDepth 20000
open Go.RowKit

theorem infoA : (Tryz.prog.info? 27).map (fun i => (i.zero, i.size, i.bytes)) = some (some (.agg #[.int .i64 0, .int .i64 0, .int .u64 0]), 3, 24) := by kernel_rfl
theorem AnBox.put {W : World} {g : Nat} {a : Ann} (h : AnBox W g a) (x : Ann) : AnBox (((W.setCell ⟨g, 0, none⟩ (.int .i64 x.e)).setCell ⟨g, 1, none⟩ (.int .i64 x.n)).setCell ⟨g, 2, none⟩ (.int .u64 x.v)) g x :=
  ⟨by simp [cell_set, h.c0], by simp [cell_set, h.c1], by simp [cell_set, h.c2], fun i => by simp only [World.frozen?_setCell]; exact h.s i⟩
theorem an_var {W : World} {b : Nat} {x : Ann} (h : AnBox W b x) : (loadVar 27 ⟨b, 0, none⟩).run Tryz.prog W = .ok (.agg #[.int .i64 x.e, .int .i64 x.n, .int .u64 x.v]) W := by
  have := run_loadVar_mid (P := Tryz.prog) W b 0 _ (anc x) _ (fun j v hv => by
    rw [Nat.zero_add]
    match j, hv with
    | 0, hv => cases hv; exact h.c0
    | 1, hv => cases hv; exact h.c1
    | 2, hv => cases hv; exact h.c2) Tryz.underlying27 rfl (by
      obtain ⟨i0, hi, _, hz1, _⟩ := info_parts infoA
      rw [hi]; simp [hz1, anc])
  simpa [anc] using this
theorem ans_result {fn : Func} {tmps : Array Value} {n m b : Nat} {w : World} {x : Ann} {v : Value} (hr : fn.results = #[.cell n 27, .tmp m]) (ht : tmps.getD n undef = .pointer (some ⟨b, 0, none⟩)) (hm : tmps.getD m undef = v) (h : AnBox w b x) :
    (results fn tmps).run Tryz.prog w = .ok (.tuple #[.agg #[.int .i64 x.e, .int .i64 x.n, .int .u64 x.v], v]) w := by
  have hv := an_var h
  have ht' : tmps[n]?.getD undef = .pointer (some ⟨b, 0, none⟩) := by simpa using ht
  have hm' : tmps[m]?.getD undef = v := by simpa using hm
  unfold results
  rw [hr]
  simp [ht', hm', asAddr, hv]

theorem ans_result1 {fn : Func} {tmps : Array Value} {n b : Nat} {w : World} {x : Ann} (hr : fn.results = #[.cell n 27]) (ht : tmps.getD n undef = .pointer (some ⟨b, 0, none⟩)) (h : AnBox w b x) :
    (results fn tmps).run Tryz.prog w = .ok (.agg #[.int .i64 x.e, .int .i64 x.n, .int .u64 x.v]) w := by
  have hv := an_var h
  have ht' : tmps[n]?.getD undef = .pointer (some ⟨b, 0, none⟩) := by simpa using ht
  unfold results
  rw [hr]
  simp [ht', asAddr, hv]
theorem ann_eql (x y : Ann) : ∀ W, (binOp .eql 27 (.agg #[.int .i64 x.e, .int .i64 x.n, .int .u64 x.v]) (.agg #[.int .i64 y.e, .int .i64 y.n, .int .u64 y.v])).run Tryz.prog W = .ok (.bool (decide (x = y))) W := by
  intro W
  obtain ⟨a, b, c⟩ := x
  obtain ⟨a', b', c'⟩ := y
  by_cases h1 : a = a'
  · subst h1
    by_cases h2 : b = b'
    · subst h2
      by_cases h3 : c = c'
      · subst h3
        go_simp
      · have e1 : (c == c') = false := by simpa using h3
        go_simp
    · have e1 : (b == b') = false := by simpa using h2
      go_simp
  · have e1 : (a == a') = false := by simpa using h1
    go_simp
theorem ann_neq (x y : Ann) : ∀ W, (binOp .neq 27 (.agg #[.int .i64 x.e, .int .i64 x.n, .int .u64 x.v]) (.agg #[.int .i64 y.e, .int .i64 y.n, .int .u64 y.v])).run Tryz.prog W = .ok (.bool (!decide (x = y))) W := by
  intro W
  have h := ann_eql x y W
  obtain ⟨a, b, c⟩ := x
  obtain ⟨a', b', c'⟩ := y
  by_cases h1 : a = a'
  · subst h1
    by_cases h2 : b = b'
    · subst h2
      by_cases h3 : c = c'
      · subst h3
        go_simp
      · have e1 : (c == c') = false := by simpa using h3
        go_simp
    · have e1 : (b == b') = false := by simpa using h2
      go_simp
  · have e1 : (a == a') = false := by simpa using h1
    go_simp
end Go.Proofs.YtbfmmndpboagdaaGreatDoor.He

namespace Go.Proofs.YtbfmmndpboagdaaGreatDoor.He
set_option maxRecDepth 20000
open Go.RowKit

def RetO (w : World) (L : List (Ann × List It)) (e : Ending) (w' : World) : Prop :=
  ∃ (M : List Oc) (a : Option Addr) (c : Nat), e = .returned (.slice a M.length c) ∧ Kept w w' ∧ M.map Oc.two = L ∧ Lay w' (.slice a M.length c) M.length (flatC M) ∧ ∀ m ∈ M, Lay w' (.slice m.at_ m.l.length m.cap) m.l.length (flatI m.l)

set_option maxHeartbeats 1000000 in
theorem first_any {w : World} {a : Option Addr} {c n : Nat} {x : It} {r : List It} (h : Lay w (.slice a n c) n (flatI (x :: r))) (hn : n = (x :: r).length) :
    Calls Tryz.prog 103 #[.slice a n c] w fun e w' => e = .returned (.agg #[.int .i64 0, .int .i64 x.a, .int .u64 x.k]) ∧ Kept w w' := by
  obtain ⟨g, o, c', e, hnc, hcm, hc⟩ : ∃ g o c', Value.slice a n c = .slice (some ⟨g, o, none⟩) n c' ∧ n ≤ c' ∧ c' ≤ maxLen ∧ ItAt w g o x := by
    rw [hn] at h
    obtain ⟨g, o, c', e, h1, h2, h3⟩ := h.it_He (by simp)
    cases e
    exact ⟨g, o, c, by rw [hn], by omega, h2, by simpa using h3 0 x rfl⟩
  cases e
  unfold maxLen at hcm
  have h0 : 0 < n := by simp at hn; omega
  have h0' : (0 : Int) < n := by omega
  obtain ⟨W0, hW0⟩ : ∃ W0, w.alloc (.cells #[.int .i64 0, .int .i64 0, .int .u64 0] 27) = W0 := ⟨_, rfl⟩
  have k0 : Kept w W0 := by rw [← hW0]; exact (Kept.refl w).alloc _ _
  have A0 := Lib.hid (show AnBox W0 w.heap.size noAnn by rw [← hW0]; exact AnBox.new w noAnn _ _ rfl)
  obtain ⟨i0, i1⟩ := hc.kept k0
  obtain ⟨a0, a1, a2, s⟩ := A0.out
  have s0 := s 0
  have s1 := s 1
  have s2 := s 2
  have HW := Lib.hid hW0
  have K0 := Lib.hid k0
  have gl := lt_of_cell hc.c0
  clear hc hW0 k0 hn h s
  go_enter Tryz.func103, Tryz.ntmps103
  go_upto_region 1 with fail
  rw [HW.out]
  go_region
  go_wp2
  exact bodyPost_ret (ans_result1 Tryz.results103 rfl ((A0.out.put ⟨0, x.a, x.k⟩).kept ((Kept.refl _).drew))) rfl ⟨rfl, (K0.out.wrote1_He ((((But.refl _ _).here _ _).here _ _).here _ _) (Nat.le_refl _)).drew⟩

set_option maxHeartbeats 1000000 in
theorem none_any {w : World} {a : Option Addr} {c n : Nat} {l : List It} (h : Lay w (.slice a n c) n (flatI l)) (hn : n = l.length) :
    Calls Tryz.prog 102 #[.slice a n c] w (RetO w [(⟨15, 0, 0⟩, l)]) := by
  have HL := Lib.hid h
  have HN := Lib.hid hn
  clear h hn
  go_enter Tryz.func102, Tryz.ntmps102
  go_wp2
  go_ret
  refine ⟨[⟨⟨15, 0, 0⟩, a, c, l⟩], some ⟨w.heap.size, 0, none⟩, 1, rfl, (Kept.refl w).alloc _ _, rfl, lay_new (t := 124) (fr := (0, 0)) ?_ (by simp), ?_⟩
  · rw [HN.out]; exact heap_alloc_new _ _
  · intro m hm
    obtain rfl : m = ⟨⟨15, 0, 0⟩, a, c, l⟩ := by simpa using hm
    have := HL.out.kept ((Kept.refl w).alloc #[.int .i64 15, .int .i64 0, .int .u64 0, .slice a n c] 124)
    rw [← HN.out]
    exact this

set_option maxHeartbeats 1000000 in
theorem look_any {w : World} {a : Option Addr} {c n : Nat} {x : It} {r : List It} {o : Opn} (h : Lay w (.slice a n c) n (flatI (x :: r))) (hn : n = (x :: r).length) :
    Calls Tryz.prog 76 #[.slice a n c, .agg #[.int .i64 o.k, .int .i64 o.a, .int .i64 o.b, .int .u64 o.u]] w (RetO w [(⟨0, x.a, x.k⟩, x :: r)]) := by
  have K0 := Lib.hid ((Kept.refl w).alloc #[.int .i64 o.k, .int .i64 o.a, .int .i64 o.b, .int .u64 o.u] 24)
  have FI := Lib.hid (first_any (h.kept K0.out) hn)
  have HL := Lib.hid h
  have HN := Lib.hid hn
  have hb : ((n : Int) == 0) = false := by simp at hn ⊢; omega
  clear h hn
  go_enter Tryz.func76, Tryz.ntmps76
  go_wp2_with fail; refine FI.out.mono ?_; rintro e w1 ⟨rfl, k1⟩
  have K1 := Lib.hid (K0.out.trans k1)
  clear k1
  go_wp2
  go_ret
  refine ⟨[⟨⟨0, x.a, x.k⟩, a, c, x :: r⟩], some ⟨w1.heap.size, 0, none⟩, 1, rfl, K1.out.alloc _ _, rfl, lay_new (t := 124) (fr := (0, 0)) ?_ (by simp), ?_⟩
  · rw [HN.out]; exact heap_alloc_new _ _
  · intro m hm
    obtain rfl : m = ⟨⟨0, x.a, x.k⟩, a, c, x :: r⟩ := by simpa using hm
    have := HL.out.kept (K1.out.alloc #[.int .i64 0, .int .i64 x.a, .int .u64 x.k, .slice a n c] 124)
    rw [← HN.out]
    exact this
set_option maxHeartbeats 1000000 in
theorem look_none {w : World} {a : Option Addr} {c n : Nat} {o : Opn} (h : Lay w (.slice a n c) n (flatI [])) (hn : n = 0) :
    Calls Tryz.prog 76 #[.slice a n c, .agg #[.int .i64 o.k, .int .i64 o.a, .int .i64 o.b, .int .u64 o.u]] w (RetO w [(⟨15, 0, 0⟩, [])]) := by
  have K0 := Lib.hid ((Kept.refl w).alloc #[.int .i64 o.k, .int .i64 o.a, .int .i64 o.b, .int .u64 o.u] 24)
  have FI := Lib.hid (none_any (h.kept K0.out) hn)
  subst hn
  clear h
  go_enter Tryz.func76, Tryz.ntmps76
  go_wp2_with fail; refine FI.out.mono ?_; rintro e w1 ⟨M, a1, c1, rfl, k1, h2, h3, h4⟩
  go_wp2
  go_ret
  exact ⟨M, a1, c1, rfl, K0.out.trans k1, h2, h3, h4⟩
set_option maxHeartbeats 1000000 in
theorem pick_none {w : World} {a : Option Addr} {c n : Nat} {o : Opn} (h : Lay w (.slice a n c) n (flatI [])) (hn : n = 0) :
    Calls Tryz.prog 75 #[.slice a n c, .agg #[.int .i64 o.k, .int .i64 o.a, .int .i64 o.b, .int .u64 o.u]] w (RetO w [(⟨15, 0, 0⟩, [])]) := by
  have K0 := Lib.hid ((Kept.refl w).alloc #[.int .i64 o.k, .int .i64 o.a, .int .i64 o.b, .int .u64 o.u] 24)
  have FI := Lib.hid (none_any (h.kept K0.out) hn)
  subst hn
  clear h
  go_enter Tryz.func75, Tryz.ntmps75
  go_wp2_with fail; refine FI.out.mono ?_; rintro e w1 ⟨M, a1, c1, rfl, k1, h2, h3, h4⟩
  go_wp2
  go_ret
  exact ⟨M, a1, c1, rfl, K0.out.trans k1, h2, h3, h4⟩
set_option maxRecDepth 100000 in
set_option maxHeartbeats 2000000 in
theorem pick_any {w : World} {a : Option Addr} {c n : Nat} {x : It} {r : List It} {o : Opn} (h : Lay w (.slice a n c) n (flatI (x :: r))) (hn : n = (x :: r).length) :
    Calls Tryz.prog 75 #[.slice a n c, .agg #[.int .i64 o.k, .int .i64 o.a, .int .i64 o.b, .int .u64 o.u]] w (RetO w [(⟨0, x.a, x.k⟩, r)]) := by
  obtain ⟨a', c', e, hnc, hcm⟩ := h.form
  cases e
  have h1 : 1 ≤ n := by simp at hn; omega
  have hnil := h.nil_cap_He
  have s1 : ∀ W, (Instr.slice 65 (.slice a n c) (some (.int .i64 1)) (some (.int .i64 n)) (some (.int .i64 n))).run Tryz.prog W = .ok (.slice (if n = 1 then a else a.map (·.add (1 * 2))) (n - 1) (n - 1)) W := run_tail3 a n c 1 h1 hnc
  obtain ⟨A2, hA2⟩ : ∃ A2, (if n = 1 then a else a.map (·.add (1 * 2))) = A2 := ⟨_, rfl⟩
  obtain ⟨W0, hW0⟩ : ∃ W0, w.alloc (.cells #[.int .i64 o.k, .int .i64 o.a, .int .i64 o.b, .int .u64 o.u] 24) = W0 := ⟨_, rfl⟩
  have k0 : Kept w W0 := by rw [← hW0]; exact (Kept.refl w).alloc _ _
  have H2 := Lib.hid (show Lay W0 (.slice A2 (n - 1) (n - 1)) (n - 1) (flatI r) by
    rw [← hA2]
    exact (h.tail_He hn h1 (Nat.le_refl _) (by omega) (fun e => by have := hnil e; omega)).kept k0)
  have FI := Lib.hid (fun W (k : Kept W0 W) => first_any (h.kept (k0.trans k)) hn)
  rw [hA2] at s1
  have HR := Lib.hid (show n - 1 = r.length by simp at hn; omega)
  have hb : ((n : Int) == 0) = false := by simp; omega
  have HW := Lib.hid hW0
  have K0 := Lib.hid k0
  clear h hn hA2 hW0 k0 hnil
  go_enter Tryz.func75, Tryz.ntmps75
  go_upto_region 3 with fail
  rw [HW.out]
  have kt0 : Kept W0 W0.drew := (Kept.refl W0).drew
  go_region_held3 (fun w' => True) (exact trivial)
    (first | (go_at_call 103; refine (FI.out _ kt0).mono ?_; rintro e w1 ⟨rfl, k1⟩; have kt1 : Kept W0 w1 := kt0.trans k1))
  go_wp2
  go_ret
  refine ⟨[⟨⟨0, x.a, x.k⟩, A2, n - 1, r⟩], some ⟨w1.heap.size, 0, none⟩, 1, rfl, (K0.out.trans kt1).alloc _ _, rfl, lay_new (t := 124) (fr := (0, 0)) ?_ (by simp), ?_⟩
  · rw [HR.out]; exact heap_alloc_new _ _
  · intro m hm
    obtain rfl : m = ⟨⟨0, x.a, x.k⟩, A2, n - 1, r⟩ := by simpa using hm
    have := H2.out.kept (kt1.alloc #[.int .i64 0, .int .i64 x.a, .int .u64 x.k, .slice A2 (n - 1) (n - 1)] 124)
    rw [← HR.out]
    exact this

set_option maxRecDepth 100000 in
set_option maxHeartbeats 2000000 in
theorem put_double {w : World} {a : Option Addr} {c n : Nat} {l : List It} {o : Opn} (h : Lay w (.slice a n c) n (flatI l)) (hn : n = l.length) (ha : asc l = true) (hd : hs o.u l = true) :
    Calls Tryz.prog 74 #[.slice a n c, .agg #[.int .i64 o.k, .int .i64 o.a, .int .i64 o.b, .int .u64 o.u]] w (RetO w [(⟨7, 0, 0⟩, l), (⟨12, 0, 0⟩, l), (⟨8, 0, 0⟩, l)]) := by
  obtain ⟨i0, hi0, hz0, hz1, hz2⟩ := info_parts infoC
  obtain ⟨a', c', e, hnc, hcm⟩ := h.form
  cases e
  obtain ⟨W0, hW0⟩ : ∃ W0, ((w.alloc (.cells #[.int .i64 o.k, .int .i64 o.a, .int .i64 o.b, .int .u64 o.u] 24)).alloc (.cells #[.int .i64 7, .int .i64 0, .int .u64 0, .slice a n c, .int .i64 12, .int .i64 0, .int .u64 0, .slice a n c] 124)) = W0 := ⟨_, rfl⟩
  have k0 : Kept w W0 := by rw [← hW0]; exact ((Kept.refl w).alloc _ _).alloc _ _
  have OB := Lib.hid (show OpBox W0 w.heap.size o by rw [← hW0]; exact (OpBox.new w o _ _ rfl).kept ((Kept.refl _).alloc _ _))
  obtain ⟨B, hB⟩ : ∃ B, (w.alloc (.cells #[.int .i64 o.k, .int .i64 o.a, .int .i64 o.b, .int .u64 o.u] 24)).heap.size = B := ⟨_, rfl⟩
  have LB := Lib.hid (show Lay W0 (.slice (some ⟨B, 0, none⟩) 2 2) 2 (flatC [⟨⟨7, 0, 0⟩, a, c, l⟩, ⟨⟨12, 0, 0⟩, a, c, l⟩]) from
    lay_new (t := 124) (fr := (0, 0)) (by rw [← hW0, ← hB, hn]; exact heap_alloc_new _ _) (by decide))
  have SE := Lib.hid (search_any o.u (h.kept k0) hn ha)
  obtain ⟨Pl, hPl⟩ : ∃ Pl, pl o.u l = Pl := ⟨_, rfl⟩
  rw [hPl, hd] at SE
  have HB := Lib.hid (show w.heap.size + 1 = B by rw [← hB]; simp)
  have HW := Lib.hid hW0
  have K0 := Lib.hid k0
  have HL := Lib.hid (h.kept k0)
  have HN := Lib.hid hn
  have HP := Lib.hid hPl
  clear hW0 hB k0 h hn hPl ha hd
  obtain ⟨p0, p1, p2, p3⟩ := OB.out
  go_enter Tryz.func74, Tryz.ntmps74
  go_upto_region 2 with fail
  rw [HW.out, HB.out]
  go_wp2_with fail; refine SE.out.mono ?_; rintro e w2 ⟨rfl, k2⟩
  have K2 := Lib.hid k2
  clear k2 p0 p1 p2 p3
  obtain ⟨p0, p1, p2, p3⟩ := OB.out.kept K2.out
  go_wp2_with (at_builtin; refine wpList_append_full _ rfl _ _ _ (by rfl) 124 i0 _ 4 48 Tryz.underlying121 hi0 hz0 hz1 hz2 (by rfl) (some ⟨B, 0, none⟩) 2 2 (flatC [⟨⟨7, 0, 0⟩, a, c, l⟩, ⟨⟨12, 0, 0⟩, a, c, l⟩]) (by simp [Act.eval]) (by rfl) (LB.out.kept (K2.out.alloc _ _)) (.slice (some ⟨w2.heap.size, 0, none⟩) 1 1) 1 (flatC [⟨⟨8, 0, 0⟩, a, c, l⟩]) (by simp [Act.eval]) (by rfl) (lay_new (t := 124) (fr := (0, 0)) (by rw [HN.out]; exact heap_alloc_new _ _) (by simp)) (flatC_one _) (by omega) (by decide) (by decide) ?_; intro b3 c3 w3 own3 k3)
  have K3 := Lib.hid ((K2.out.alloc _ _).trans k3)
  have O3 := Lib.hid own3
  clear own3 k3
  go_wp2
  go_ret
  refine ⟨[⟨⟨7, 0, 0⟩, a, c, l⟩, ⟨⟨12, 0, 0⟩, a, c, l⟩, ⟨⟨8, 0, 0⟩, a, c, l⟩], some ⟨b3, 0, none⟩, c3, rfl, K0.out.trans K3.out, rfl, (own_lies O3.out).lay, ?_⟩
  intro m hm
  have := HL.out.kept K3.out
  rw [HN.out] at this
  simp at hm
  rcases hm with rfl | rfl | rfl <;> exact this

set_option maxRecDepth 100000 in
set_option maxHeartbeats 2000000 in
theorem put_full {w : World} {a : Option Addr} {c n : Nat} {l : List It} {o : Opn} (h : Lay w (.slice a n c) n (flatI l)) (hn : n = l.length) (ha : asc l = true) (hd : hs o.u l = false) (hr : ¬ n < 1024) :
    Calls Tryz.prog 74 #[.slice a n c, .agg #[.int .i64 o.k, .int .i64 o.a, .int .i64 o.b, .int .u64 o.u]] w (RetO w [(⟨7, 0, 0⟩, l), (⟨12, 0, 0⟩, l)]) := by
  obtain ⟨i0, hi0, hz0, hz1, hz2⟩ := info_parts infoC
  obtain ⟨a', c', e, hnc, hcm⟩ := h.form
  cases e
  obtain ⟨W0, hW0⟩ : ∃ W0, ((w.alloc (.cells #[.int .i64 o.k, .int .i64 o.a, .int .i64 o.b, .int .u64 o.u] 24)).alloc (.cells #[.int .i64 7, .int .i64 0, .int .u64 0, .slice a n c, .int .i64 12, .int .i64 0, .int .u64 0, .slice a n c] 124)) = W0 := ⟨_, rfl⟩
  have k0 : Kept w W0 := by rw [← hW0]; exact ((Kept.refl w).alloc _ _).alloc _ _
  have OB := Lib.hid (show OpBox W0 w.heap.size o by rw [← hW0]; exact (OpBox.new w o _ _ rfl).kept ((Kept.refl _).alloc _ _))
  obtain ⟨B, hB⟩ : ∃ B, (w.alloc (.cells #[.int .i64 o.k, .int .i64 o.a, .int .i64 o.b, .int .u64 o.u] 24)).heap.size = B := ⟨_, rfl⟩
  have LB := Lib.hid (show Lay W0 (.slice (some ⟨B, 0, none⟩) 2 2) 2 (flatC [⟨⟨7, 0, 0⟩, a, c, l⟩, ⟨⟨12, 0, 0⟩, a, c, l⟩]) from
    lay_new (t := 124) (fr := (0, 0)) (by rw [← hW0, ← hB, hn]; exact heap_alloc_new _ _) (by decide))
  have SE := Lib.hid (search_any o.u (h.kept k0) hn ha)
  obtain ⟨Pl, hPl⟩ : ∃ Pl, pl o.u l = Pl := ⟨_, rfl⟩
  rw [hPl, hd] at SE
  have HB := Lib.hid (show w.heap.size + 1 = B by rw [← hB]; simp)
  have HW := Lib.hid hW0
  have K0 := Lib.hid k0
  have HL := Lib.hid (h.kept k0)
  have HN := Lib.hid hn
  have HP := Lib.hid hPl
  have hr' : ¬ ((n : Int) < 1024) := by omega
  clear hW0 hB k0 h hn hPl ha hd
  obtain ⟨p0, p1, p2, p3⟩ := OB.out
  go_enter Tryz.func74, Tryz.ntmps74
  go_upto_region 2 with fail
  rw [HW.out, HB.out]
  go_wp2_with fail; refine SE.out.mono ?_; rintro e w2 ⟨rfl, k2⟩
  have K2 := Lib.hid k2
  clear k2 p0 p1 p2 p3
  obtain ⟨p0, p1, p2, p3⟩ := OB.out.kept K2.out
  go_wp2
  go_ret
  refine ⟨[⟨⟨7, 0, 0⟩, a, c, l⟩, ⟨⟨12, 0, 0⟩, a, c, l⟩], some ⟨B, 0, none⟩, 2, rfl, K0.out.trans K2.out, rfl, LB.out.kept K2.out, ?_⟩
  intro m hm
  have := HL.out.kept K2.out
  rw [HN.out] at this
  simp at hm
  rcases hm with rfl | rfl <;> exact this

set_option maxRecDepth 100000 in
set_option maxHeartbeats 2000000 in
theorem put_more {w : World} {a : Option Addr} {c n : Nat} {l : List It} {o : Opn} (h : Lay w (.slice a n c) n (flatI l)) (hn : n = l.length) (ha : asc l = true) (hd : hs o.u l = false) (hr : n < 1024) :
    Calls Tryz.prog 74 #[.slice a n c, .agg #[.int .i64 o.k, .int .i64 o.a, .int .i64 o.b, .int .u64 o.u]] w (RetO w [(⟨7, 0, 0⟩, l), (⟨12, 0, 0⟩, l), (⟨0, 0, 0⟩, ins ⟨o.u, o.a⟩ l)]) := by
  obtain ⟨i0, hi0, hz0, hz1, hz2⟩ := info_parts infoC
  obtain ⟨a', c', e, hnc, hcm⟩ := h.form
  cases e
  obtain ⟨W0, hW0⟩ : ∃ W0, ((w.alloc (.cells #[.int .i64 o.k, .int .i64 o.a, .int .i64 o.b, .int .u64 o.u] 24)).alloc (.cells #[.int .i64 7, .int .i64 0, .int .u64 0, .slice a n c, .int .i64 12, .int .i64 0, .int .u64 0, .slice a n c] 124)) = W0 := ⟨_, rfl⟩
  have k0 : Kept w W0 := by rw [← hW0]; exact ((Kept.refl w).alloc _ _).alloc _ _
  have OB := Lib.hid (show OpBox W0 w.heap.size o by rw [← hW0]; exact (OpBox.new w o _ _ rfl).kept ((Kept.refl _).alloc _ _))
  obtain ⟨B, hB⟩ : ∃ B, (w.alloc (.cells #[.int .i64 o.k, .int .i64 o.a, .int .i64 o.b, .int .u64 o.u] 24)).heap.size = B := ⟨_, rfl⟩
  have LB := Lib.hid (show Lay W0 (.slice (some ⟨B, 0, none⟩) 2 2) 2 (flatC [⟨⟨7, 0, 0⟩, a, c, l⟩, ⟨⟨12, 0, 0⟩, a, c, l⟩]) from
    lay_new (t := 124) (fr := (0, 0)) (by rw [← hW0, ← hB, hn]; exact heap_alloc_new _ _) (by decide))
  have SE := Lib.hid (search_any o.u (h.kept k0) hn ha)
  obtain ⟨Pl, hPl⟩ : ∃ Pl, pl o.u l = Pl := ⟨_, rfl⟩
  rw [hPl, hd] at SE
  have HB := Lib.hid (show w.heap.size + 1 = B by rw [← hB]; simp)
  have HW := Lib.hid hW0
  have K0 := Lib.hid k0
  have HL := Lib.hid (h.kept k0)
  have HN := Lib.hid hn
  have HP := Lib.hid hPl
  have hr' : (n : Int) < 1024 := by omega
  have hle : Pl ≤ n := by rw [← hPl, hn]; exact pl_le _ _
  have WI := Lib.hid (fun W (k : Kept W0 W) => with_any (x := ⟨o.u, o.a⟩) (HL.out.kept k) hn hle (by omega))
  clear hW0 hB k0 h hn hPl ha hd hle
  obtain ⟨p0, p1, p2, p3⟩ := OB.out
  go_enter Tryz.func74, Tryz.ntmps74
  go_upto_region 2 with fail
  rw [HW.out, HB.out]
  go_wp2_with fail; refine SE.out.mono ?_; rintro e w2 ⟨rfl, k2⟩
  have K2 := Lib.hid k2
  clear k2 p0 p1 p2 p3
  obtain ⟨p0, p1, p2, p3⟩ := OB.out.kept K2.out
  go_wp2_with fail; refine (WI.out _ K2.out).mono ?_; rintro e w3 ⟨a3, c3, rfl, k3, own3⟩
  have K3 := Lib.hid (K2.out.trans k3)
  have O3 := Lib.hid own3
  clear own3 k3
  go_wp2_with (at_builtin; refine wpList_append_full _ rfl _ _ _ (by rfl) 124 i0 _ 4 48 Tryz.underlying121 hi0 hz0 hz1 hz2 (by rfl) (some ⟨B, 0, none⟩) 2 2 (flatC [⟨⟨7, 0, 0⟩, a, c, l⟩, ⟨⟨12, 0, 0⟩, a, c, l⟩]) (by simp [Act.eval]) (by rfl) (LB.out.kept (K3.out.alloc _ _)) (.slice (some ⟨w3.heap.size, 0, none⟩) 1 1) 1 (flatC [⟨⟨0, 0, 0⟩, a3, c3, ins ⟨o.u, o.a⟩ l⟩]) (by simp [Act.eval]) (by rfl) (lay_new (t := 124) (fr := (0, 0)) (by rw [show n + 1 = (ins ⟨o.u, o.a⟩ l).length by rw [ins_length, HN.out]]; exact heap_alloc_new _ _) (by simp)) (flatC_one _) (by omega) (by decide) (by decide) ?_; intro b4 c4 w4 own4 k4)
  have K34 := Lib.hid ((Kept.refl w3).alloc #[.int .i64 0, .int .i64 0, .int .u64 0, .slice a3 (n + 1) c3] 124 |>.trans k4)
  have K4 := Lib.hid (K3.out.trans K34.out)
  have O4 := Lib.hid own4
  clear own4 k4
  go_wp2
  go_ret
  refine ⟨[⟨⟨7, 0, 0⟩, a, c, l⟩, ⟨⟨12, 0, 0⟩, a, c, l⟩, ⟨⟨0, 0, 0⟩, a3, c3, ins ⟨o.u, o.a⟩ l⟩], some ⟨b4, 0, none⟩, c4, rfl, K0.out.trans K4.out, rfl, (own_lies O4.out).lay, ?_⟩
  intro m hm
  have h1 := HL.out.kept K4.out
  rw [HN.out] at h1
  have h2 := (own_lies O3.out).lay.kept K34.out
  have e : put1 Pl (⟨o.u, o.a⟩ : It) l = ins ⟨o.u, o.a⟩ l := by unfold put1 ins; rw [← HP.out]
  rw [e, show n + 1 = (ins ⟨o.u, o.a⟩ l).length by rw [ins_length, HN.out]] at h2
  simp at hm
  rcases hm with rfl | rfl | rfl
  · exact h1
  · exact h1
  · exact h2

set_option maxRecDepth 100000 in
set_option maxHeartbeats 2000000 in
theorem refused_any (x : Ann) (s : Value) (w : World) : Calls Tryz.prog 46 #[.agg #[.int .i64 x.e, .int .i64 x.n, .int .u64 x.v, s]] w fun e w' => e = .returned (.bool (refd x)) ∧ Kept w w' := by
  by_cases h7 : x.e = 7
  · have hr : refd x = true := by simp [refd, h7]
    rw [hr, h7]
    clear hr h7
    go_enter Tryz.func46, Tryz.ntmps46
    go_wp2
    go_ret
    exact ⟨rfl, by (go_light; repeat (first | (with_reducible exact Kept.refl _) | (with_reducible assumption) | (with_reducible refine Kept.alloc ?_ _ _) | (with_reducible refine Kept.drew ?_) | (with_reducible refine Kept.drewN ?_ _) | ((with_reducible refine Kept.setCell ?_ ?_ _); rotate_left; focus (first | (simp; done) | (simp; omega))) | refine Kept.trans ?_ (by assumption)))⟩
  · have hr : refd x = decide (x.e = 12) := by simp [refd, h7]
    have b7 : (x.e == 7) = false := by simpa using h7
    rw [hr]
    clear hr h7
    go_enter Tryz.func46, Tryz.ntmps46
    go_wp2
    go_ret
    exact ⟨by first | rfl | (simp; done), by (go_light; repeat (first | (with_reducible exact Kept.refl _) | (with_reducible assumption) | (with_reducible refine Kept.alloc ?_ _ _) | (with_reducible refine Kept.drew ?_) | (with_reducible refine Kept.drewN ?_ _) | ((with_reducible refine Kept.setCell ?_ ?_ _); rotate_left; focus (first | (simp; done) | (simp; omega))) | refine Kept.trans ?_ (by assumption)))⟩
end Go.Proofs.YtbfmmndpboagdaaGreatDoor.He

namespace Go.Proofs.YtbfmmndpboagdaaGreatDoor.He
set_option maxRecDepth 20000
open Go.RowKit

theorem equal_nil (d : Nat) (w : World) : (Op.equalIn (d + 1) 144 .nilFunc .nilFunc).run Tryz.prog w = .ok true w := by
  unfold Op.equalIn
  rw [Sem.run_bind, run_underlying Tryz.underlying144 w]
  rfl
theorem equal_func (d : Nat) (f : Fn) (x y : Array Value) (w : World) : (Op.equalIn (d + 1) 144 (.func f x y) .nilFunc).run Tryz.prog w = .ok false w := by
  unfold Op.equalIn
  rw [Sem.run_bind, run_underlying Tryz.underlying144 w]
  rfl
theorem eql_nil (w : World) : (binOp .eql 144 .nilFunc .nilFunc).run Tryz.prog w = .ok (.bool true) w := by
  show (do pure (Value.bool (← Op.equalIn (9999 + 1) 144 .nilFunc .nilFunc)) : Sem Value).run Tryz.prog w = _
  rw [Sem.run_bind, equal_nil]; rfl
theorem eql_func (f : Fn) (x y : Array Value) (w : World) : (binOp .eql 144 (.func f x y) .nilFunc).run Tryz.prog w = .ok (.bool false) w := by
  show (do pure (Value.bool (← Op.equalIn (9999 + 1) 144 (.func f x y) .nilFunc)) : Sem Value).run Tryz.prog w = _
  rw [Sem.run_bind, equal_func]; rfl

structure Efs (w : World) (b : Nat) : Prop where
  c0 : w.cell? ⟨b, 0, none⟩ = some .nilFunc
  c1 : w.cell? ⟨b, 1, none⟩ = some .nilFunc
  c2 : w.cell? ⟨b, 2, none⟩ = some .nilFunc
  c3 : w.cell? ⟨b, 3, none⟩ = some .nilFunc
  c4 : w.cell? ⟨b, 4, none⟩ = some (.func (.func 74) #[] #[])
  c5 : w.cell? ⟨b, 5, none⟩ = some (.func (.func 75) #[] #[])
  c6 : w.cell? ⟨b, 6, none⟩ = some (.func (.func 76) #[] #[])
theorem Efs.kept {w w' : World} {b : Nat} (h : Efs w b) (k : Kept w w') : Efs w' b := ⟨k.some h.c0, k.some h.c1, k.some h.c2, k.some h.c3, k.some h.c4, k.some h.c5, k.some h.c6⟩

theorem RetO.after {w W W' : World} {L : List (Ann × List It)} {e : Ending} (h : RetO w L e W) (k : Kept W W') : RetO w L e W' := by
  obtain ⟨M, a, c, h1, h2, h3, h4, h5⟩ := h
  exact ⟨M, a, c, h1, h2.trans k, h3, h4.kept k, fun m hm => (h5 m hm).kept k⟩
theorem RetO.nil {w w' : World} (k : Kept w w') : RetO w [] (.returned (.slice none 0 0)) w' := ⟨[], none, 0, rfl, k, rfl, .inl (.inl ⟨rfl, rfl, rfl⟩), fun m hm => by cases hm⟩

set_option maxRecDepth 100000 in
set_option maxHeartbeats 2000000 in
theorem outcomes_lo {w : World} {a : Option Addr} {c n : Nat} {o : Opn} (h : o.k < 0) :
    Calls Tryz.prog 45 #[.slice a n c, .agg #[.int .i64 o.k, .int .i64 o.a, .int .i64 o.b, .int .u64 o.u]] w (RetO w []) := by
  go_enter Tryz.func45, Tryz.ntmps45
  go_wp2
  go_ret
  exact RetO.nil (((Kept.refl w).alloc _ _).alloc _ _)
set_option maxRecDepth 100000 in
set_option maxHeartbeats 2000000 in
theorem outcomes_hi {w : World} {a : Option Addr} {c n : Nat} {o : Opn} (h : 7 ≤ o.k) :
    Calls Tryz.prog 45 #[.slice a n c, .agg #[.int .i64 o.k, .int .i64 o.a, .int .i64 o.b, .int .u64 o.u]] w (RetO w []) := by
  go_enter Tryz.func45, Tryz.ntmps45
  go_wp2
  go_ret
  exact RetO.nil (((Kept.refl w).alloc _ _).alloc _ _)
set_option maxRecDepth 100000 in
set_option maxHeartbeats 2000000 in
theorem outcomes_n0 {w : World} {a : Option Addr} {c n : Nat} {o : Opn} (h : o.k = 0) :
    Calls Tryz.prog 45 #[.slice a n c, .agg #[.int .i64 o.k, .int .i64 o.a, .int .i64 o.b, .int .u64 o.u]] w (RetO w []) := by
  obtain ⟨k, oa, ob, ou⟩ := o
  simp only at h
  subst h
  have EN := eql_nil
  go_enter Tryz.func45, Tryz.ntmps45
  go_wp2
  go_ret
  exact RetO.nil (((Kept.refl w).alloc _ _).alloc _ _)
set_option maxRecDepth 100000 in
set_option maxHeartbeats 2000000 in
theorem outcomes_n1 {w : World} {a : Option Addr} {c n : Nat} {o : Opn} (h : o.k = 1) :
    Calls Tryz.prog 45 #[.slice a n c, .agg #[.int .i64 o.k, .int .i64 o.a, .int .i64 o.b, .int .u64 o.u]] w (RetO w []) := by
  obtain ⟨k, oa, ob, ou⟩ := o
  simp only at h
  subst h
  have EN := eql_nil
  go_enter Tryz.func45, Tryz.ntmps45
  go_wp2
  go_ret
  exact RetO.nil (((Kept.refl w).alloc _ _).alloc _ _)
set_option maxRecDepth 100000 in
set_option maxHeartbeats 2000000 in
theorem outcomes_n2 {w : World} {a : Option Addr} {c n : Nat} {o : Opn} (h : o.k = 2) :
    Calls Tryz.prog 45 #[.slice a n c, .agg #[.int .i64 o.k, .int .i64 o.a, .int .i64 o.b, .int .u64 o.u]] w (RetO w []) := by
  obtain ⟨k, oa, ob, ou⟩ := o
  simp only at h
  subst h
  have EN := eql_nil
  go_enter Tryz.func45, Tryz.ntmps45
  go_wp2
  go_ret
  exact RetO.nil (((Kept.refl w).alloc _ _).alloc _ _)
set_option maxRecDepth 100000 in
set_option maxHeartbeats 2000000 in
theorem outcomes_n3 {w : World} {a : Option Addr} {c n : Nat} {o : Opn} (h : o.k = 3) :
    Calls Tryz.prog 45 #[.slice a n c, .agg #[.int .i64 o.k, .int .i64 o.a, .int .i64 o.b, .int .u64 o.u]] w (RetO w []) := by
  obtain ⟨k, oa, ob, ou⟩ := o
  simp only at h
  subst h
  have EN := eql_nil
  go_enter Tryz.func45, Tryz.ntmps45
  go_wp2
  go_ret
  exact RetO.nil (((Kept.refl w).alloc _ _).alloc _ _)
theorem efs_new (w : World) (o : Opn) {W0 : World} (h : ((w.alloc (.cells #[.int .i64 o.k, .int .i64 o.a, .int .i64 o.b, .int .u64 o.u] 24)).alloc (.cells #[.nilFunc, .nilFunc, .nilFunc, .nilFunc, .func (.func 74) #[] #[], .func (.func 75) #[] #[], .func (.func 76) #[] #[]] 145)) = W0) :
    OpBox W0 w.heap.size o ∧ Efs W0 (w.heap.size + 1) ∧ Kept w W0 := by
  subst h
  exact ⟨(OpBox.new w o _ _ rfl).kept ((Kept.refl _).alloc _ _), ⟨cell_new _ _ _ _ 0 (by simp), cell_new _ _ _ _ 1 (by simp), cell_new _ _ _ _ 2 (by simp), cell_new _ _ _ _ 3 (by simp), cell_new _ _ _ _ 4 (by simp), cell_new _ _ _ _ 5 (by simp), cell_new _ _ _ _ 6 (by simp)⟩, ((Kept.refl w).alloc _ _).alloc _ _⟩
set_option maxRecDepth 100000 in
set_option maxHeartbeats 4000000 in
theorem outcomes_bad4 {w : World} {a : Option Addr} {c n : Nat} {l : List It} {o : Opn} {z : Int} (h : Lay w (.slice a n c) n (flatI l)) (hn : n = l.length) (hz : chk l = z) (hz0 : z ≠ 0) (hk : o.k = 4) :
    Calls Tryz.prog 45 #[.slice a n c, .agg #[.int .i64 o.k, .int .i64 o.a, .int .i64 o.b, .int .u64 o.u]] w (RetO w []) := by
  obtain ⟨k, oa, ob, ou⟩ := o
  simp only at hk
  subst hk
  obtain ⟨W0, hW0⟩ : ∃ W0, ((w.alloc (.cells #[.int .i64 4, .int .i64 oa, .int .i64 ob, .int .u64 ou] 24)).alloc (.cells #[.nilFunc, .nilFunc, .nilFunc, .nilFunc, .func (.func 74) #[] #[], .func (.func 75) #[] #[], .func (.func 76) #[] #[]] 145)) = W0 := ⟨_, rfl⟩
  obtain ⟨ob0, ef0, k0⟩ := efs_new w ⟨4, oa, ob, ou⟩ hW0
  have CK := Lib.hid (chk_at (h.kept k0) hn hz)
  have OB := Lib.hid ob0
  have EF := Lib.hid ef0
  have K0 := Lib.hid k0
  have HW := Lib.hid hW0
  have EF0 := fun w => eql_func (.func 74) #[] #[] w
  have hb : (z != 0) = true := by simpa using hz0
  obtain ⟨p0, p1, p2, p3⟩ := ob0
  have e0 := ef0.c4
  clear h hn hz hz0 ef0 k0 hW0
  go_enter Tryz.func45, Tryz.ntmps45
  go_upto_region 2 with fail
  rw [HW.out]
  go_wp2_with fail; refine CK.out.mono ?_; rintro e w1 ⟨rfl, k1⟩
  go_wp2
  go_ret
  exact RetO.nil (K0.out.trans k1)
set_option maxRecDepth 100000 in
set_option maxHeartbeats 4000000 in
theorem outcomes_good4 {w : World} {a : Option Addr} {c n : Nat} {l : List It} {o : Opn} {L : List (Ann × List It)} (h : Lay w (.slice a n c) n (flatI l)) (hn : n = l.length) (hz : chk l = 0) (hk : o.k = 4)
    (hf : ∀ W, Kept w W → Calls Tryz.prog 74 #[.slice a n c, .agg #[.int .i64 o.k, .int .i64 o.a, .int .i64 o.b, .int .u64 o.u]] W (RetO W L)) :
    Calls Tryz.prog 45 #[.slice a n c, .agg #[.int .i64 o.k, .int .i64 o.a, .int .i64 o.b, .int .u64 o.u]] w (RetO w L) := by
  obtain ⟨k, oa, ob, ou⟩ := o
  simp only at hk
  subst hk
  obtain ⟨W0, hW0⟩ : ∃ W0, ((w.alloc (.cells #[.int .i64 4, .int .i64 oa, .int .i64 ob, .int .u64 ou] 24)).alloc (.cells #[.nilFunc, .nilFunc, .nilFunc, .nilFunc, .func (.func 74) #[] #[], .func (.func 75) #[] #[], .func (.func 76) #[] #[]] 145)) = W0 := ⟨_, rfl⟩
  obtain ⟨ob0, ef0, k0⟩ := efs_new w ⟨4, oa, ob, ou⟩ hW0
  have CK := Lib.hid (chk_at (h.kept k0) hn hz)
  have OB := Lib.hid ob0
  have EF := Lib.hid ef0
  have K0 := Lib.hid k0
  have HW := Lib.hid hW0
  have EF0 := fun w => eql_func (.func 74) #[] #[] w
  have HF := Lib.hid hf
  obtain ⟨p0, p1, p2, p3⟩ := ob0
  have e0 := ef0.c4
  clear h hn hz ef0 k0 hW0 hf
  go_enter Tryz.func45, Tryz.ntmps45
  go_upto_region 2 with fail
  rw [HW.out]
  go_wp2_with fail; refine CK.out.mono ?_; rintro e w1 ⟨rfl, k1⟩
  have K1 := Lib.hid (K0.out.trans k1)
  obtain ⟨q0, q1, q2, q3⟩ := OB.out.kept k1
  have e1 := EF.out.c4
  have e2 := k1.some e1
  clear p0 p1 p2 p3 e0 e1
  go_wp2
  have kt0 : Kept w1 w1.drew := (Kept.refl w1).drew
  go_region_held3 (fun w' => w'.cell? ⟨w.heap.size, 0, none⟩ = some (.int .i64 4) ∧ w'.cell? ⟨w.heap.size, 1, none⟩ = some (.int .i64 oa) ∧ w'.cell? ⟨w.heap.size, 2, none⟩ = some (.int .i64 ob) ∧ w'.cell? ⟨w.heap.size, 3, none⟩ = some (.int .u64 ou) ∧ w'.cell? ⟨w.heap.size + 1, 4, none⟩ = some (.func (.func 74) #[] #[]))
    (first | exact ⟨kt1.some q0, kt1.some q1, kt1.some q2, kt1.some q3, kt1.some e2⟩ | exact ⟨kt0.some q0, kt0.some q1, kt0.some q2, kt0.some q3, kt0.some e2⟩)
    (first | (go_at_call 74; refine (HF.out _ (K1.out.trans kt0)).mono ?_; rintro e w2 ⟨M, a2, c2, rfl, k2, h2, h3, h4⟩; have kt1 : Kept w1 w2 := kt0.trans k2))
  go_wp2
  go_ret
  exact ⟨M, a2, c2, rfl, K1.out.trans kt1, h2, h3, h4⟩
set_option maxRecDepth 100000 in
set_option maxHeartbeats 4000000 in
theorem outcomes_bad5 {w : World} {a : Option Addr} {c n : Nat} {l : List It} {o : Opn} {z : Int} (h : Lay w (.slice a n c) n (flatI l)) (hn : n = l.length) (hz : chk l = z) (hz0 : z ≠ 0) (hk : o.k = 5) :
    Calls Tryz.prog 45 #[.slice a n c, .agg #[.int .i64 o.k, .int .i64 o.a, .int .i64 o.b, .int .u64 o.u]] w (RetO w []) := by
  obtain ⟨k, oa, ob, ou⟩ := o
  simp only at hk
  subst hk
  obtain ⟨W0, hW0⟩ : ∃ W0, ((w.alloc (.cells #[.int .i64 5, .int .i64 oa, .int .i64 ob, .int .u64 ou] 24)).alloc (.cells #[.nilFunc, .nilFunc, .nilFunc, .nilFunc, .func (.func 74) #[] #[], .func (.func 75) #[] #[], .func (.func 76) #[] #[]] 145)) = W0 := ⟨_, rfl⟩
  obtain ⟨ob0, ef0, k0⟩ := efs_new w ⟨5, oa, ob, ou⟩ hW0
  have CK := Lib.hid (chk_at (h.kept k0) hn hz)
  have OB := Lib.hid ob0
  have EF := Lib.hid ef0
  have K0 := Lib.hid k0
  have HW := Lib.hid hW0
  have EF0 := fun w => eql_func (.func 75) #[] #[] w
  have hb : (z != 0) = true := by simpa using hz0
  obtain ⟨p0, p1, p2, p3⟩ := ob0
  have e0 := ef0.c5
  clear h hn hz hz0 ef0 k0 hW0
  go_enter Tryz.func45, Tryz.ntmps45
  go_upto_region 2 with fail
  rw [HW.out]
  go_wp2_with fail; refine CK.out.mono ?_; rintro e w1 ⟨rfl, k1⟩
  go_wp2
  go_ret
  exact RetO.nil (K0.out.trans k1)
set_option maxRecDepth 100000 in
set_option maxHeartbeats 4000000 in
theorem outcomes_good5 {w : World} {a : Option Addr} {c n : Nat} {l : List It} {o : Opn} {L : List (Ann × List It)} (h : Lay w (.slice a n c) n (flatI l)) (hn : n = l.length) (hz : chk l = 0) (hk : o.k = 5)
    (hf : ∀ W, Kept w W → Calls Tryz.prog 75 #[.slice a n c, .agg #[.int .i64 o.k, .int .i64 o.a, .int .i64 o.b, .int .u64 o.u]] W (RetO W L)) :
    Calls Tryz.prog 45 #[.slice a n c, .agg #[.int .i64 o.k, .int .i64 o.a, .int .i64 o.b, .int .u64 o.u]] w (RetO w L) := by
  obtain ⟨k, oa, ob, ou⟩ := o
  simp only at hk
  subst hk
  obtain ⟨W0, hW0⟩ : ∃ W0, ((w.alloc (.cells #[.int .i64 5, .int .i64 oa, .int .i64 ob, .int .u64 ou] 24)).alloc (.cells #[.nilFunc, .nilFunc, .nilFunc, .nilFunc, .func (.func 74) #[] #[], .func (.func 75) #[] #[], .func (.func 76) #[] #[]] 145)) = W0 := ⟨_, rfl⟩
  obtain ⟨ob0, ef0, k0⟩ := efs_new w ⟨5, oa, ob, ou⟩ hW0
  have CK := Lib.hid (chk_at (h.kept k0) hn hz)
  have OB := Lib.hid ob0
  have EF := Lib.hid ef0
  have K0 := Lib.hid k0
  have HW := Lib.hid hW0
  have EF0 := fun w => eql_func (.func 75) #[] #[] w
  have HF := Lib.hid hf
  obtain ⟨p0, p1, p2, p3⟩ := ob0
  have e0 := ef0.c5
  clear h hn hz ef0 k0 hW0 hf
  go_enter Tryz.func45, Tryz.ntmps45
  go_upto_region 2 with fail
  rw [HW.out]
  go_wp2_with fail; refine CK.out.mono ?_; rintro e w1 ⟨rfl, k1⟩
  have K1 := Lib.hid (K0.out.trans k1)
  obtain ⟨q0, q1, q2, q3⟩ := OB.out.kept k1
  have e1 := EF.out.c5
  have e2 := k1.some e1
  clear p0 p1 p2 p3 e0 e1
  go_wp2
  have kt0 : Kept w1 w1.drew := (Kept.refl w1).drew
  go_region_held3 (fun w' => w'.cell? ⟨w.heap.size, 0, none⟩ = some (.int .i64 5) ∧ w'.cell? ⟨w.heap.size, 1, none⟩ = some (.int .i64 oa) ∧ w'.cell? ⟨w.heap.size, 2, none⟩ = some (.int .i64 ob) ∧ w'.cell? ⟨w.heap.size, 3, none⟩ = some (.int .u64 ou) ∧ w'.cell? ⟨w.heap.size + 1, 5, none⟩ = some (.func (.func 75) #[] #[]))
    (first | exact ⟨kt1.some q0, kt1.some q1, kt1.some q2, kt1.some q3, kt1.some e2⟩ | exact ⟨kt0.some q0, kt0.some q1, kt0.some q2, kt0.some q3, kt0.some e2⟩)
    (first | (go_at_call 75; refine (HF.out _ (K1.out.trans kt0)).mono ?_; rintro e w2 ⟨M, a2, c2, rfl, k2, h2, h3, h4⟩; have kt1 : Kept w1 w2 := kt0.trans k2))
  go_wp2
  go_ret
  exact ⟨M, a2, c2, rfl, K1.out.trans kt1, h2, h3, h4⟩
set_option maxRecDepth 100000 in
set_option maxHeartbeats 4000000 in
theorem outcomes_bad6 {w : World} {a : Option Addr} {c n : Nat} {l : List It} {o : Opn} {z : Int} (h : Lay w (.slice a n c) n (flatI l)) (hn : n = l.length) (hz : chk l = z) (hz0 : z ≠ 0) (hk : o.k = 6) :
    Calls Tryz.prog 45 #[.slice a n c, .agg #[.int .i64 o.k, .int .i64 o.a, .int .i64 o.b, .int .u64 o.u]] w (RetO w []) := by
  obtain ⟨k, oa, ob, ou⟩ := o
  simp only at hk
  subst hk
  obtain ⟨W0, hW0⟩ : ∃ W0, ((w.alloc (.cells #[.int .i64 6, .int .i64 oa, .int .i64 ob, .int .u64 ou] 24)).alloc (.cells #[.nilFunc, .nilFunc, .nilFunc, .nilFunc, .func (.func 74) #[] #[], .func (.func 75) #[] #[], .func (.func 76) #[] #[]] 145)) = W0 := ⟨_, rfl⟩
  obtain ⟨ob0, ef0, k0⟩ := efs_new w ⟨6, oa, ob, ou⟩ hW0
  have CK := Lib.hid (chk_at (h.kept k0) hn hz)
  have OB := Lib.hid ob0
  have EF := Lib.hid ef0
  have K0 := Lib.hid k0
  have HW := Lib.hid hW0
  have EF0 := fun w => eql_func (.func 76) #[] #[] w
  have hb : (z != 0) = true := by simpa using hz0
  obtain ⟨p0, p1, p2, p3⟩ := ob0
  have e0 := ef0.c6
  clear h hn hz hz0 ef0 k0 hW0
  go_enter Tryz.func45, Tryz.ntmps45
  go_upto_region 2 with fail
  rw [HW.out]
  go_wp2_with fail; refine CK.out.mono ?_; rintro e w1 ⟨rfl, k1⟩
  go_wp2
  go_ret
  exact RetO.nil (K0.out.trans k1)
set_option maxRecDepth 100000 in
set_option maxHeartbeats 4000000 in
theorem outcomes_good6 {w : World} {a : Option Addr} {c n : Nat} {l : List It} {o : Opn} {L : List (Ann × List It)} (h : Lay w (.slice a n c) n (flatI l)) (hn : n = l.length) (hz : chk l = 0) (hk : o.k = 6)
    (hf : ∀ W, Kept w W → Calls Tryz.prog 76 #[.slice a n c, .agg #[.int .i64 o.k, .int .i64 o.a, .int .i64 o.b, .int .u64 o.u]] W (RetO W L)) :
    Calls Tryz.prog 45 #[.slice a n c, .agg #[.int .i64 o.k, .int .i64 o.a, .int .i64 o.b, .int .u64 o.u]] w (RetO w L) := by
  obtain ⟨k, oa, ob, ou⟩ := o
  simp only at hk
  subst hk
  obtain ⟨W0, hW0⟩ : ∃ W0, ((w.alloc (.cells #[.int .i64 6, .int .i64 oa, .int .i64 ob, .int .u64 ou] 24)).alloc (.cells #[.nilFunc, .nilFunc, .nilFunc, .nilFunc, .func (.func 74) #[] #[], .func (.func 75) #[] #[], .func (.func 76) #[] #[]] 145)) = W0 := ⟨_, rfl⟩
  obtain ⟨ob0, ef0, k0⟩ := efs_new w ⟨6, oa, ob, ou⟩ hW0
  have CK := Lib.hid (chk_at (h.kept k0) hn hz)
  have OB := Lib.hid ob0
  have EF := Lib.hid ef0
  have K0 := Lib.hid k0
  have HW := Lib.hid hW0
  have EF0 := fun w => eql_func (.func 76) #[] #[] w
  have HF := Lib.hid hf
  obtain ⟨p0, p1, p2, p3⟩ := ob0
  have e0 := ef0.c6
  clear h hn hz ef0 k0 hW0 hf
  go_enter Tryz.func45, Tryz.ntmps45
  go_upto_region 2 with fail
  rw [HW.out]
  go_wp2_with fail; refine CK.out.mono ?_; rintro e w1 ⟨rfl, k1⟩
  have K1 := Lib.hid (K0.out.trans k1)
  obtain ⟨q0, q1, q2, q3⟩ := OB.out.kept k1
  have e1 := EF.out.c6
  have e2 := k1.some e1
  clear p0 p1 p2 p3 e0 e1
  go_wp2
  have kt0 : Kept w1 w1.drew := (Kept.refl w1).drew
  go_region_held3 (fun w' => w'.cell? ⟨w.heap.size, 0, none⟩ = some (.int .i64 6) ∧ w'.cell? ⟨w.heap.size, 1, none⟩ = some (.int .i64 oa) ∧ w'.cell? ⟨w.heap.size, 2, none⟩ = some (.int .i64 ob) ∧ w'.cell? ⟨w.heap.size, 3, none⟩ = some (.int .u64 ou) ∧ w'.cell? ⟨w.heap.size + 1, 6, none⟩ = some (.func (.func 76) #[] #[]))
    (first | exact ⟨kt1.some q0, kt1.some q1, kt1.some q2, kt1.some q3, kt1.some e2⟩ | exact ⟨kt0.some q0, kt0.some q1, kt0.some q2, kt0.some q3, kt0.some e2⟩)
    (first | (go_at_call 76; refine (HF.out _ (K1.out.trans kt0)).mono ?_; rintro e w2 ⟨M, a2, c2, rfl, k2, h2, h3, h4⟩; have kt1 : Kept w1 w2 := kt0.trans k2))
  go_wp2
  go_ret
  exact ⟨M, a2, c2, rfl, K1.out.trans kt1, h2, h3, h4⟩

theorem outcomes_any {w : World} {a : Option Addr} {c n : Nat} {l : List It} (o : Opn) (h : Lay w (.slice a n c) n (flatI l)) (hn : n = l.length) :
    Calls Tryz.prog 45 #[.slice a n c, .agg #[.int .i64 o.k, .int .i64 o.a, .int .i64 o.b, .int .u64 o.u]] w (RetO w (outs l o)) := by
  by_cases hlo : o.k < 0
  · rw [outs_else (by omega) (by omega) (by omega)]; exact outcomes_lo hlo
  by_cases hhi : 7 ≤ o.k
  · rw [outs_else (by omega) (by omega) (by omega)]; exact outcomes_hi hhi
  by_cases h0 : o.k = 0
  · rw [outs_else (by omega) (by omega) (by omega)]; exact outcomes_n0 h0
  by_cases h1 : o.k = 1
  · rw [outs_else (by omega) (by omega) (by omega)]; exact outcomes_n1 h1
  by_cases h2 : o.k = 2
  · rw [outs_else (by omega) (by omega) (by omega)]; exact outcomes_n2 h2
  by_cases h3 : o.k = 3
  · rw [outs_else (by omega) (by omega) (by omega)]; exact outcomes_n3 h3
  by_cases hz : chk l = 0
  · have ha := (chk_zero hz).2
    by_cases h4 : o.k = 4
    · cases hd : hs o.u l with
      | true => rw [outs_double hz h4 hd]; exact outcomes_good4 h hn hz h4 fun W k => put_double (h.kept k) hn ha hd
      | false =>
        by_cases hr : l.length < 1024
        · rw [outs_put hz h4 hd hr]; exact outcomes_good4 h hn hz h4 fun W k => put_more (h.kept k) hn ha hd (by omega)
        · rw [outs_full hz h4 hd hr]; exact outcomes_good4 h hn hz h4 fun W k => put_full (h.kept k) hn ha hd (by omega)
    by_cases h5 : o.k = 5
    · cases l with
      | nil => rw [outs_pick0 h5]; exact outcomes_good5 h hn hz h5 fun W k => pick_none (h.kept k) hn
      | cons x r => rw [outs_pick hz h5]; exact outcomes_good5 h hn hz h5 fun W k => pick_any (h.kept k) hn
    · have h6 : o.k = 6 := by omega
      cases l with
      | nil => rw [outs_look0 h6]; exact outcomes_good6 h hn hz h6 fun W k => look_none (h.kept k) hn
      | cons x r => rw [outs_look hz h6]; exact outcomes_good6 h hn hz h6 fun W k => look_any (h.kept k) hn
  · rw [outs_bad hz]
    by_cases h4 : o.k = 4
    · exact outcomes_bad4 h hn rfl hz h4
    by_cases h5 : o.k = 5
    · exact outcomes_bad5 h hn rfl hz h5
    · exact outcomes_bad6 h hn rfl hz (by omega)
end Go.Proofs.YtbfmmndpboagdaaGreatDoor.He

namespace Go.Proofs.YtbfmmndpboagdaaGreatDoor.He
set_option maxRecDepth 20000
open Go.RowKit

theorem find_at {α : Type} {p : α → Bool} {l : List α} {k : Nat} {x : α} (hx : l[k]? = some x) (hp : p x = true) (hb : ∀ j y, j < k → l[j]? = some y → p y = false) : l.find? p = some x := by
  induction l generalizing k with
  | nil => simp at hx
  | cons y l ih =>
    rw [find_cons]
    cases k with
    | zero => simp at hx; subst hx; rw [if_pos hp]
    | succ k =>
      rw [if_neg (by rw [hb 0 y (by omega) rfl]; decide)]
      exact ih (by simpa using hx) fun j z hj hz => hb (j + 1) z (by omega) (by simpa using hz)
theorem find_no {α : Type} {p : α → Bool} {l : List α} (hb : ∀ (j : Nat) (y : α), l[j]? = some y → p y = false) : l.find? p = none := by
  induction l with
  | nil => rfl
  | cons y l ih =>
    rw [find_cons, if_neg (by rw [hb 0 y rfl]; decide)]
    exact ih fun j z hz => hb (j + 1) z (by simpa using hz)

def RetN (w : World) (p : Option (List It)) (e : Ending) (w' : World) : Prop :=
  ∃ a c, e = .returned (.tuple #[.slice a (p.getD []).length c, .bool p.isSome]) ∧ Kept w w' ∧ OwnI w' w.heap.size (.slice a (p.getD []).length c) (p.getD [])
def NxRel (W : World) (M : List Oc) (x : Ann) (n : Nat) (i : Value) (wr : World) : Prop := ∃ k : Nat, k ≤ n ∧ i = .int .i64 k ∧ (∀ j m, j < k → M[j]? = some m → m.an ≠ x) ∧ Kept W wr
theorem RetN.some {w w' w1 : World} {p : Option (List It)} {l : List It} {a : Option Addr} {c n : Nat} (hp : p = some l) (hn : n = l.length) (k : Kept w w1) (k1 : Kept w1 w') (o : w'.ownsRow w1.heap.size 90 2 (.slice a n c) n (flatI l)) :
    RetN w p (.returned (.tuple #[.slice a n c, .bool true])) w' := by
  subst hp; subst hn
  exact ⟨a, c, rfl, k.trans k1, own_mono o k.size⟩
theorem RetN.none {w w' : World} {p : Option (List It)} (hp : p = Option.none) (k : Kept w w') : RetN w p (.returned (.tuple #[.slice Option.none 0 0, .bool false])) w' := by
  subst hp
  exact ⟨Option.none, 0, rfl, k, World.ownsRow_nil _ _ _ _⟩

set_option maxRecDepth 100000 in
set_option maxHeartbeats 4000000 in
theorem next_any {w : World} {a : Option Addr} {c n : Nat} {l : List It} (o : Opn) (x : Ann) (h : Lay w (.slice a n c) n (flatI l)) (hn : n = l.length) :
    Calls Tryz.prog 29 #[.slice a n c, .agg #[.int .i64 o.k, .int .i64 o.a, .int .i64 o.b, .int .u64 o.u], .agg #[.int .i64 x.e, .int .i64 x.n, .int .u64 x.v]] w (RetN w (nextS l o x)) := by
  obtain ⟨W0, hW0⟩ : ∃ W0, ((w.alloc (.cells #[.int .i64 o.k, .int .i64 o.a, .int .i64 o.b, .int .u64 o.u] 24)).alloc (.cells #[.int .i64 x.e, .int .i64 x.n, .int .u64 x.v] 27)) = W0 := ⟨_, rfl⟩
  have OB := Lib.hid (show OpBox W0 w.heap.size o by rw [← hW0]; exact (OpBox.new w o _ _ rfl).kept ((Kept.refl _).alloc _ _))
  have AB := Lib.hid (show AnBox W0 (w.heap.size + 1) x by rw [← hW0]; exact AnBox.new _ x _ _ (by simp))
  have k0 : Kept w W0 := by rw [← hW0]; exact ((Kept.refl w).alloc _ _).alloc _ _
  have OU := Lib.hid (outcomes_any o (h.kept k0) hn)
  have K0 := Lib.hid k0
  have HW := Lib.hid hW0
  obtain ⟨p, hp⟩ : ∃ p, nextS l o x = p := ⟨_, rfl⟩
  have HP := Lib.hid hp
  rw [hp]
  have OF := Lib.hid (fun m (hm : m ∈ outs l o) => outs_few m hm)
  obtain ⟨OL, hOL⟩ : ∃ OL, outs l o = OL := ⟨_, rfl⟩
  have HOL := Lib.hid hOL
  rw [hOL] at OU OF
  obtain ⟨p0, p1, p2, p3⟩ := OB.out
  clear h hn hW0 k0 hp hOL
  go_enter Tryz.func29, Tryz.ntmps29
  go_upto_region 1 with fail
  rw [HW.out]
  go_wp2_with fail; refine OU.out.mono ?_; rintro e w1 ⟨M, a1, c1, rfl, k1, hm, hl, hs⟩
  obtain ⟨N, hN⟩ : ∃ N, M.length = N := ⟨_, rfl⟩
  have HM := Lib.hid hm
  have HS := Lib.hid hs
  have HN := Lib.hid hN
  have K1 := Lib.hid k1
  obtain ⟨a1', c1', e, _, hcm⟩ := hl.form
  cases e
  unfold maxLen at hcm
  have CE := Lib.hid (fun i m (W : World) (k : Kept w1 W) (hi : M[i]? = some m) => show ∃ g of, a1 = some ⟨g, of, none⟩ ∧ OcAt W g (of + i * 4) m by
    have hl' := hl.kept k
    have := (List.getElem?_eq_some_iff.1 hi).1
    obtain ⟨g, of, c', e, _, _, hc⟩ := hl'.oc_He (by omega)
    cases e
    exact ⟨g, of, rfl, hc i m hi⟩)
  have hNc : N ≤ c1 := by rename_i hx; omega
  rw [hN]
  clear k1 hm hl hs hN p0 p1 p2 p3
  go_wp2
  go_loopw [14] (fun i wr => NxRel w1 M x N i wr) (fun i _ => N - (intOf i).toNat)
  case atStart => exact ⟨0, Nat.zero_le _, rfl, fun j m hj => by omega, Kept.refl _⟩
  case round =>
    obtain ⟨k, hkn, rfl, hlo, hk⟩ := hrel
    have LO := Lib.hid hlo
    have KE := Lib.hid hk
    clear hlo hk
    by_cases hlt : k < N
    · obtain ⟨m, hm⟩ : ∃ m, M[k]? = some m := ⟨_, List.getElem?_eq_getElem (by have := HN.out; omega)⟩
      obtain ⟨g, of, rfl, c0, c1', c2, c3⟩ := CE.out k m wr KE.out hm
      have MM := Lib.hid hm
      have gl := lt_of_cell c0
      obtain ⟨x0, x1, x2, _⟩ := AB.out.kept (K1.out.trans KE.out)
      have xl := lt_of_cell x0
      have EQ := ann_eql m.an x
      clear hm
      by_cases he : m.an = x
      · rw [decide_eq_true he] at EQ
        have HE := Lib.hid he
        have HF := Lib.hid (show p = some m.l by
          rw [← HP.out]; unfold nextS; rw [HOL.out, ← HM.out]
          rw [find_at (k := k) (x := m.two) (by rw [List.getElem?_map, MM.out]; rfl) (decide_eq_true (p := m.two.1 = x) he) (fun j y hj hy => by
            rw [List.getElem?_map] at hy
            cases hj' : M[j]? with
            | none => rw [hj'] at hy; cases hy
            | some m' =>
              rw [hj'] at hy
              simp at hy
              subst hy
              exact decide_eq_false (p := m'.two.1 = x) (LO.out j m' hj hj'))]
          rfl)
        have hmem : m ∈ M := List.mem_of_getElem? MM.out
        have hfew : m.l.length ≤ 1024 := OF.out m.two (by rw [← HM.out]; exact List.mem_map_of_mem hmem)
        have FR := Lib.hid (fun W (k : Kept w1 W) => fresh_n ((HS.out m hmem).kept k) rfl (by omega))
        obtain ⟨q, hq⟩ : ∃ q, q = m.l.length := ⟨_, rfl⟩
        have HQ := Lib.hid hq
        rw [← hq] at FR c3
        clear he hmem hfew hq
        go_wp2_with fail; refine (FR.out _ (KE.out.alloc _ _)).mono ?_; rintro e w2 ⟨a2, c2, rfl, k2, own2⟩
        go_wp2
        go_ret2
        exact RetN.some HF.out HQ.out (((K0.out.trans K1.out).trans KE.out).alloc _ _) k2 own2
      · rw [decide_eq_false he] at EQ
        have HE := Lib.hid he
        clear he
        go_wp2
        go_roundw
        case rel => exact ⟨k + 1, by omega, by go_num, fun j m' hj hm' => by
          by_cases e : j = k
          · subst e; have h1 := MM.out; rw [hm'] at h1; cases h1; exact HE.out
          · exact LO.out j m' (by omega) hm', KE.out.alloc _ _⟩
        case measure => simp [intOf]; omega
    · have HF := Lib.hid (show p = none by
        rw [← HP.out]; unfold nextS; rw [HOL.out, ← HM.out]
        rw [find_no (fun j y hy => by
          rw [List.getElem?_map] at hy
          cases hj' : M[j]? with
          | none => rw [hj'] at hy; cases hy
          | some m' =>
            rw [hj'] at hy
            simp at hy
            subst hy
            exact decide_eq_false (p := m'.two.1 = x) (LO.out j m' (by have := (List.getElem?_eq_some_iff.1 hj').1; have := HN.out; omega) hj'))]
        rfl)
      go_wp2
      go_ret2
      exact RetN.none HF.out ((K0.out.trans K1.out).trans KE.out)

def RetA (w : World) (p : Option Ann) (e : Ending) (w' : World) : Prop :=
  e = .returned (.tuple #[.agg #[.int .i64 (p.getD noAnn).e, .int .i64 (p.getD noAnn).n, .int .u64 (p.getD noAnn).v], .bool p.isSome]) ∧ Kept w w'
theorem RetA.some {w w' : World} {p : Option Ann} {x : Ann} (hp : p = Option.some x) (k : Kept w w') : RetA w p (.returned (.tuple #[.agg #[.int .i64 x.e, .int .i64 x.n, .int .u64 x.v], .bool true])) w' := by
  subst hp; exact ⟨rfl, k⟩
theorem RetA.none {w w' : World} {p : Option Ann} (hp : p = Option.none) (k : Kept w w') : RetA w p (.returned (.tuple #[.agg #[.int .i64 noAnn.e, .int .i64 noAnn.n, .int .u64 noAnn.v], .bool false])) w' := by
  subst hp; exact ⟨rfl, k⟩
theorem refused_at {x : Ann} {y : Bool} (h : refd x = y) (s : Value) (w : World) : Calls Tryz.prog 46 #[.agg #[.int .i64 x.e, .int .i64 x.n, .int .u64 x.v, s]] w fun e w' => e = .returned (.bool y) ∧ Kept w w' := by
  subst h; exact refused_any x s w
def AwRel (W : World) (M : List Oc) (n : Nat) (i : Value) (wr : World) : Prop := ∃ k : Nat, k ≤ n ∧ i = .int .i64 k ∧ (∀ j m, j < k → M[j]? = some m → refd m.an = true) ∧ Kept W wr

set_option maxRecDepth 100000 in
set_option maxHeartbeats 4000000 in
theorem answer_any {w : World} {a : Option Addr} {c n : Nat} {l : List It} (o : Opn) (h : Lay w (.slice a n c) n (flatI l)) (hn : n = l.length) :
    Calls Tryz.prog 28 #[.slice a n c, .agg #[.int .i64 o.k, .int .i64 o.a, .int .i64 o.b, .int .u64 o.u]] w (RetA w (tellS l o)) := by
  obtain ⟨W0, hW0⟩ : ∃ W0, ((w.alloc (.cells #[.int .i64 o.k, .int .i64 o.a, .int .i64 o.b, .int .u64 o.u] 24)).alloc (.cells #[.int .i64 0, .int .i64 0, .int .u64 0] 27)) = W0 := ⟨_, rfl⟩
  have OB := Lib.hid (show OpBox W0 w.heap.size o by rw [← hW0]; exact (OpBox.new w o _ _ rfl).kept ((Kept.refl _).alloc _ _))
  have AB := Lib.hid (show AnBox W0 (w.heap.size + 1) noAnn by rw [← hW0]; exact AnBox.new _ noAnn _ _ (by simp))
  have k0 : Kept w W0 := by rw [← hW0]; exact ((Kept.refl w).alloc _ _).alloc _ _
  have OU := Lib.hid (outcomes_any o (h.kept k0) hn)
  have K0 := Lib.hid k0
  have HW := Lib.hid hW0
  obtain ⟨p, hp⟩ : ∃ p, tellS l o = p := ⟨_, rfl⟩
  have HP := Lib.hid hp
  rw [hp]
  obtain ⟨OL, hOL⟩ : ∃ OL, outs l o = OL := ⟨_, rfl⟩
  have HOL := Lib.hid hOL
  rw [hOL] at OU
  obtain ⟨p0, p1, p2, p3⟩ := OB.out
  clear h hn hW0 k0 hp hOL
  go_enter Tryz.func28, Tryz.ntmps28
  go_upto_region 1 with fail
  rw [HW.out]
  go_wp2_with fail; refine OU.out.mono ?_; rintro e w1 ⟨M, a1, c1, rfl, k1, hm, hl, hs⟩
  obtain ⟨N, hN⟩ : ∃ N, M.length = N := ⟨_, rfl⟩
  have HM := Lib.hid hm
  have HN := Lib.hid hN
  have K1 := Lib.hid k1
  obtain ⟨a1', c1', e, hnc, hcm⟩ := hl.form
  cases e
  unfold maxLen at hcm
  have CE := Lib.hid (fun i m (W : World) (k : Kept w1 W) (hi : M[i]? = some m) => show ∃ g of, a1 = some ⟨g, of, none⟩ ∧ OcAt W g (of + i * 4) m by
    have hl' := hl.kept k
    have := (List.getElem?_eq_some_iff.1 hi).1
    obtain ⟨g, of, c', e, _, _, hc⟩ := hl'.oc_He (by omega)
    cases e
    exact ⟨g, of, rfl, hc i m hi⟩)
  rw [hN] at hnc ⊢
  clear k1 hm hl hs hN p0 p1 p2 p3
  go_wp2
  go_loopw [12] (fun i wr => AwRel w1 M N i wr) (fun i _ => N - (intOf i).toNat)
  case atStart => exact ⟨0, Nat.zero_le _, rfl, fun j m hj => by omega, Kept.refl _⟩
  case round =>
    obtain ⟨k, hkn, rfl, hlo, hk⟩ := hrel
    have LO := Lib.hid hlo
    have KE := Lib.hid hk
    clear hlo hk
    by_cases hlt : k < N
    · obtain ⟨m, hm⟩ : ∃ m, M[k]? = some m := ⟨_, List.getElem?_eq_getElem (by have := HN.out; omega)⟩
      obtain ⟨g, of, rfl, c0, c1', c2, c3⟩ := CE.out k m wr KE.out hm
      have MM := Lib.hid hm
      have gl := lt_of_cell c0
      obtain ⟨q, hq⟩ : ∃ q, m.l.length = q := ⟨_, rfl⟩
      rw [hq] at c3
      clear hm hq
      obtain ⟨W4, hW4⟩ : ∃ W4, wr.alloc (.cells #[.int .i64 m.an.e, .int .i64 m.an.n, .int .u64 m.an.v, .slice m.at_ q m.cap] 124) = W4 := ⟨_, rfl⟩
      have k4 : Kept wr W4 := by rw [← hW4]; exact (Kept.refl wr).alloc _ _
      have q0 : W4.cell? ⟨wr.heap.size, 0, none⟩ = some (.int .i64 m.an.e) := by rw [← hW4]; exact cell_new _ _ _ _ 0 rfl
      have q1 : W4.cell? ⟨wr.heap.size, 1, none⟩ = some (.int .i64 m.an.n) := by rw [← hW4]; exact cell_new _ _ _ _ 1 rfl
      have q2 : W4.cell? ⟨wr.heap.size, 2, none⟩ = some (.int .u64 m.an.v) := by rw [← hW4]; exact cell_new _ _ _ _ 2 rfl
      have q3 : W4.cell? ⟨wr.heap.size, 3, none⟩ = some (.slice m.at_ q m.cap) := by rw [← hW4]; exact cell_new _ _ _ _ 3 rfl
      have QQ := Lib.hid (And.intro q0 (And.intro q1 q2))
      have HW4 := Lib.hid hW4
      have K4 := Lib.hid (KE.out.trans k4)
      clear hW4 k4
      by_cases he : refd m.an = true
      · have RF := Lib.hid (fun W => refused_at he (.slice m.at_ q m.cap) W)
        have HE := Lib.hid he
        clear he
        go_upto_region 4 with fail
        rw [HW4.out]
        go_wp2_with fail; refine (RF.out _).mono ?_; rintro e w2 ⟨rfl, k2⟩
        have K2 := Lib.hid (K4.out.trans k2)
        clear k2
        go_wp2
        go_roundw
        case rel => exact ⟨k + 1, by omega, by go_num, fun j m' hj hm' => by
          by_cases e : j = k
          · subst e; have h1 := MM.out; rw [hm'] at h1; cases h1; exact HE.out
          · exact LO.out j m' (by omega) hm', K2.out⟩
        case measure => simp [intOf]; omega
      · have he' : refd m.an = false := by simpa using he
        have RF := Lib.hid (fun W => refused_at he' (.slice m.at_ q m.cap) W)
        have HF := Lib.hid (show p = some m.an by
          rw [← HP.out]; unfold tellS; rw [HOL.out, ← HM.out]
          rw [find_at (k := k) (x := m.two) (by rw [List.getElem?_map, MM.out]; rfl) (show (!refd m.two.1) = true by show (!refd m.an) = true; rw [he']; rfl) (fun j y hj hy => by
            rw [List.getElem?_map] at hy
            cases hj' : M[j]? with
            | none => rw [hj'] at hy; cases hy
            | some m' =>
              rw [hj'] at hy
              simp at hy
              subst hy
              show (!refd m'.an) = false
              rw [LO.out j m' hj hj']; rfl)]
          rfl)
        clear he he'
        go_upto_region 4 with fail
        rw [HW4.out]
        go_wp2_with fail; refine (RF.out _).mono ?_; rintro e w2 ⟨rfl, k2⟩
        have A2 := Lib.hid (AB.out.kept ((K1.out.trans K4.out).trans k2))
        obtain ⟨z0, z1, z2, s⟩ := A2.out
        have s0 := s 0
        have s1 := s 1
        have s2 := s 2
        have r0 := k2.some q0
        have r1 := k2.some q1
        have r2 := k2.some q2
        have K2 := Lib.hid (K4.out.trans k2)
        clear k2 s q0 q1 q2 q3
        go_wp2
        exact bodyPost_ret (ans_result Tryz.results28 rfl rfl (A2.out.put m.an)) rfl (RetA.some HF.out (((K0.out.trans K1.out).trans K2.out).wrote1_He ((((But.refl _ _).here _ _).here _ _).here _ _) (by omega)))
    · have HF := Lib.hid (show p = none by
        rw [← HP.out]; unfold tellS; rw [HOL.out, ← HM.out]
        rw [find_no (fun j y hy => by
          rw [List.getElem?_map] at hy
          cases hj' : M[j]? with
          | none => rw [hj'] at hy; cases hy
          | some m' =>
            rw [hj'] at hy
            simp at hy
            subst hy
            show (!refd m'.an) = false
            rw [LO.out j m' (by have := (List.getElem?_eq_some_iff.1 hj').1; have := HN.out; omega) hj']; rfl)]
        rfl)
      have A2 := Lib.hid (AB.out.kept (K1.out.trans KE.out))
      obtain ⟨z0, z1, z2, s⟩ := A2.out
      have s0 := s 0
      have s1 := s 1
      have s2 := s 2
      clear s
      go_wp2
      exact bodyPost_ret (ans_result Tryz.results28 rfl rfl (A2.out.put noAnn)) rfl (RetA.none HF.out (((K0.out.trans K1.out).trans KE.out).wrote1_He ((((But.refl _ _).here _ _).here _ _).here _ _) (by omega)))
end Go.Proofs.YtbfmmndpboagdaaGreatDoor.He
