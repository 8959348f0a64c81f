/- The chapter's examples: put, two, next, awake. -/
import Derived.Test.YteomggjkdaddhaaHeKit
import Derived.WalkSpells
namespace Go.Proofs.Yteomggjkdaddhaa
open Go.RowKit

def twoI : List It := [⟨3, 7⟩, ⟨5, 8⟩]
set_option maxHeartbeats 1000000 in
theorem putOp_any (key a : Int) (w : World) : Calls Try.prog 25 #[.int .u64 key, .int .i64 a] w fun e w' => e = .returned (.agg #[.int .i64 4, .int .i64 a, .int .i64 0, .int .u64 key]) ∧ Kept w w' := by
  go_enter Try.func25, Try.ntmps25
  go_wp2
  exact bodyPost_ret (v := .agg #[.int .i64 4, .int .i64 a, .int .i64 0, .int .u64 key]) (by simp [results, Try.results25, go_sem]) rfl ⟨rfl, by (go_light; repeat (first | (with_reducible exact Kept.refl _) | (with_reducible assumption) | (with_reducible refine Kept.alloc ?_ _ _) | (with_reducible refine Kept.drew ?_) | (with_reducible refine Kept.drewN ?_ _) | ((with_reducible refine Kept.setCell ?_ ?_ _); rotate_left; focus (first | (simp; done) | (simp; omega))) | refine Kept.trans ?_ (by assumption)))⟩
def RetT (w : World) (e : Ending) (w' : World) : Prop := ∃ g, e = .returned (.slice (some ⟨g, 0, none⟩) 2 2) ∧ Kept w w' ∧ Lay w' (.slice (some ⟨g, 0, none⟩) 2 2) 2 (flatI twoI)
set_option maxHeartbeats 1000000 in
theorem two_any (w : World) : Calls Try.prog 26 #[] w (RetT w) := by
  go_enter Try.func26, Try.ntmps26
  go_wp2
  go_ret
  exact ⟨w.heap.size, rfl, (Kept.refl w).alloc _ _, lay_new (heap_alloc_new _ _) (by decide)⟩
theorem next_p {w : World} {a : Option Addr} {c n : Nat} {l : List It} {p : Option (List It)} (o : Opn) (x : Ann) (h : Lay w (.slice a n c) n (flatI l)) (hn : n = l.length) (hp : nextS l o x = p) :
    Calls Try.prog 11 #[.slice a n c, .agg #[.int .i64 o.k, .int .i64 o.a, .int .i64 o.b, .int .u64 o.u], .agg #[.int .i64 x.e, .int .i64 x.n, .int .u64 x.v]] w (RetN w p) := by
  subst hp; exact next_any o x h hn
theorem opbox_all {W : World} {b : Nat} {o : Opn} (h : OpBox W b o) : W.cell? ⟨b, 0, none⟩ = some (.int .i64 o.k) ∧ W.cell? ⟨b, 1, none⟩ = some (.int .i64 o.a) ∧ W.cell? ⟨b, 2, none⟩ = some (.int .i64 o.b) ∧ W.cell? ⟨b, 3, none⟩ = some (.int .u64 o.u) := ⟨h.c0, h.c1, h.c2, h.c3⟩
theorem opan_all {W : World} {b b' : Nat} {o : Opn} {x : Ann} (h : OpBox W b o) (h' : AnBox W b' x) : W.cell? ⟨b, 0, none⟩ = some (.int .i64 o.k) ∧ W.cell? ⟨b, 1, none⟩ = some (.int .i64 o.a) ∧ W.cell? ⟨b, 2, none⟩ = some (.int .i64 o.b) ∧ W.cell? ⟨b, 3, none⟩ = some (.int .u64 o.u) ∧
    W.cell? ⟨b', 0, none⟩ = some (.int .i64 x.e) ∧ W.cell? ⟨b', 1, none⟩ = some (.int .i64 x.n) ∧ W.cell? ⟨b', 2, none⟩ = some (.int .u64 x.v) := ⟨h.c0, h.c1, h.c2, h.c3, h'.c0, h'.c1, h'.c2⟩

set_option maxRecDepth 100000 in
set_option maxHeartbeats 4000000 in
theorem nexts_at {w : World} {a : Option Addr} {n c : Nat} (o : Opn) (x : Ann) (p : Option (List It)) (hp : nextS twoI o x = p) (hw : Lay w (.slice a n c) n (flatI (p.getD []))) (hn : n = (p.getD []).length) (hs : n ≤ 10) (ha : a.isNone = !p.isSome) :
    Calls Try.prog 24 #[.agg #[.int .i64 o.k, .int .i64 o.a, .int .i64 o.b, .int .u64 o.u], .agg #[.int .i64 x.e, .int .i64 x.n, .int .u64 x.v], .slice a n c] w fun e w' => e = .returned (.bool true) ∧ Kept w w' := by
  obtain ⟨W0, hW0⟩ : ∃ W0, ((w.alloc (.cells #[.int .i64 o.k, .int .i64 o.a, .int .i64 o.b, .int .u64 o.u] 25)).alloc (.cells #[.int .i64 x.e, .int .i64 x.n, .int .u64 x.v] 28)) = W0 := ⟨_, rfl⟩
  have OB := Lib.hid (show OpBox W0 w.heap.size o by rw [← hW0]; exact (OpBox.new w o _ _ rfl).kept ((Kept.refl _).alloc _ _))
  have AB := Lib.hid (show AnBox W0 (w.heap.size + 1) x by rw [← hW0]; exact AnBox.new _ x _ _ (by simp))
  have k0 : Kept w W0 := by rw [← hW0]; exact ((Kept.refl w).alloc _ _).alloc _ _
  have HL := Lib.hid (hw.kept k0)
  have K0 := Lib.hid k0
  have HW := Lib.hid hW0
  have NX := Lib.hid (fun W g (h : Lay W (.slice (some ⟨g, 0, none⟩) 2 2) 2 (flatI twoI)) => next_p o x h rfl hp)
  have NN : ∀ W, (binOp .neq 22 (.slice a n c) (.slice none 0 0)).run Try.prog W = .ok (.bool (!a.isNone)) W := fun W => run_neq_slice_nil_any W _ _ a n c 0 0 Try.underlying22
  rw [ha] at NN
  simp only [Bool.not_not] at NN
  have SW := Lib.hid (fun W a' c' (k : Kept W0 W) (h : Lay W (.slice a' n c') n (flatI (p.getD []))) => same_n h (HL.out.kept k) hn hn (by omega))
  have NX := Lib.hid (fun W g h => (NX.out W g h).mono (R' := fun e w' => ∃ a' c', e = .returned (.tuple #[.slice a' n c', .bool p.isSome]) ∧ Kept W w' ∧ Lay w' (.slice a' n c') n (flatI (p.getD []))) (fun e w' hh => by
    obtain ⟨a', c', h1, h2, h3⟩ := hh
    have h4 := (own_lies h3).lay
    rw [← hn] at h1 h4
    exact ⟨a', c', h1, h2, h4⟩))
  obtain ⟨s, hs'⟩ : ∃ s, p.isSome = s := ⟨_, rfl⟩
  rw [hs'] at NX NN
  obtain ⟨q, hq⟩ : ∃ q, p.getD [] = q := ⟨_, rfl⟩
  rw [hq] at NX SW
  clear hp hw hn ha hW0 k0 hs' hq HL
  obtain ⟨p0, p1, p2, p3⟩ := OB.out
  obtain ⟨x0, x1, x2, _⟩ := AB.out
  go_enter Try.func24, Try.ntmps24
  go_upto_region 1 with fail
  rw [HW.out]
  have kt0 : Kept W0 W0.drew := (Kept.refl W0).drew
  go_region_held3 (fun w' => w'.cell? ⟨w.heap.size, 0, none⟩ = some (.int .i64 o.k) ∧ w'.cell? ⟨w.heap.size, 1, none⟩ = some (.int .i64 o.a) ∧ w'.cell? ⟨w.heap.size, 2, none⟩ = some (.int .i64 o.b) ∧ w'.cell? ⟨w.heap.size, 3, none⟩ = some (.int .u64 o.u) ∧
    w'.cell? ⟨w.heap.size + 1, 0, none⟩ = some (.int .i64 x.e) ∧ w'.cell? ⟨w.heap.size + 1, 1, none⟩ = some (.int .i64 x.n) ∧ w'.cell? ⟨w.heap.size + 1, 2, none⟩ = some (.int .u64 x.v))
    (first | exact opan_all (OB.out.kept kt2) (AB.out.kept kt2) | exact opan_all (OB.out.kept kt1) (AB.out.kept kt1) | exact opan_all (OB.out.kept kt0) (AB.out.kept kt0))
    (first
      | (go_at_call 26; refine (two_any _).mono ?_; rintro e w1 ⟨g, rfl, k1, l1⟩; have kt1 : Kept W0 w1 := kt0.trans k1; have L1 := Lib.hid l1; clear l1)
      | (go_at_call 11; refine (NX.out _ _ L1.out).mono ?_; rintro e w2 ⟨a2, c2, rfl, k2, l2⟩; have kt2 : Kept W0 w2 := kt1.trans k2; have L2 := Lib.hid l2; clear l2))
  go_wp2_with fail; refine (SW.out _ _ _ kt2 L2.out).mono ?_; rintro e w3 ⟨rfl, k3⟩
  go_wp2
  go_ret
  exact ⟨rfl, (K0.out.trans kt2).trans k3⟩
end Go.Proofs.Yteomggjkdaddhaa
