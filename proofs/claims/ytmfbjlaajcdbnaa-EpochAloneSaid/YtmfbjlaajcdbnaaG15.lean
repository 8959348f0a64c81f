/- Fill, the program's. -/
import Derived.Test.YtmfbjlaajcdbnaaG04
import Derived.Test.YtmfbjlaajcdbnaaG05
import Derived.Test.YtmfbjlaajcdbnaaG14
import Derived.Test.YtmfbjlaajcdbnaaG08
import Derived.Test.YtmfbjlaajcdbnaaG07
import Derived.Test.YtmfbjlaajcdbnaaG00
set_option linter.unusedVariables false
set_option linter.unusedSimpArgs false

namespace Go.Proofs.Ytmfbjlaajcdbnaa.Ep
set_option maxRecDepth 100000
open Go.RowKit Go.Shelf
open Wo (St acc wordAt PMem RefIs)
open Sk (Stk Wd Blk leaves p_store pmem_lt pmem_kept pmem_frame)
attribute [local go_sem] Oper.semAt_some

def fillTo (n : Nat) (S : Stk) (s : St) : Nat → St
  | 0 => acc n s 2 S.T true 0
  | k + 1 => acc n (fillTo n S s k) 2 (S.K + k) true 0
def fillSt (n : Nat) (S : Stk) (s : St) : St := fillTo n S s S.N.toNat
theorem fillTo_cnt (n : Nat) (S : Stk) (s : St) : ∀ k : Nat, (fillTo n S s k).cnt = s.cnt + 1 + k
  | 0 => by show (acc n s 2 S.T true 0).cnt = _; rw [Sk.acc_cnt]; simp
  | k + 1 => by show (acc n (fillTo n S s k) 2 (S.K + k) true 0).cnt = _; rw [Sk.acc_cnt, fillTo_cnt n S s k]; omega
theorem fillTo_wd {n : Nat} {S : Stk} {s : St} (h : Wd n s) : ∀ k : Nat, Wd n (fillTo n S s k)
  | 0 => h.acc _ _ _ _ (by omega) (by omega)
  | k + 1 => (fillTo_wd h k).acc _ _ _ _ (by omega) (by omega)
structure FlI (w : World) (N0 a b M B n : Nat) (S : Stk) (s : St) (pre : List Int) (X : World) : Prop where
  le : (pre.length : Int) ≤ S.N
  mem : PMem X M B n (fillTo n S s pre.length)
  bx : PBoxes X a b S 0
  but : But (fun k => k = B) w X
  mb : X.cell? ⟨w.heap.size + 1, 0, none⟩ = some (.pointer (some ⟨M, 0, none⟩))
  sz : N0 ≤ X.heap.size
structure FlB (w : World) (N0 a b M B : Nat) : Prop where
  la : w.heap.size ≤ a
  lb : w.heap.size ≤ b
  ha : a < N0
  hb : b < N0
  hM : M < w.heap.size
  hB : B < w.heap.size
  hw : w.heap.size + 1 < N0
theorem FlI.keep {w : World} {N0 a b M B n : Nat} {S : Stk} {s : St} {pre : List Int} {X X' : World} (h : FlI w N0 a b M B n S s pre X) (k : Kept X X') : FlI w N0 a b M B n S s pre X' :=
  ⟨h.le, pmem_kept h.mem k, h.bx.kept k, h.but.then k, k.some h.mb, Nat.le_trans h.sz k.size⟩
theorem FlI.turn {w : World} {N0 a b M B n : Nat} {S : Stk} {s : St} {pre : List Int} {X : World} {l : Nat} {y y' : Loop} (h : FlI w N0 a b M B n S s pre X) (hb : FlB w N0 a b M B) (hl : N0 ≤ l) (hy : X.heap[l]? = some (.loop y)) : FlI w N0 a b M B n S s pre (X.putObj l (.loop y')) := by
  have k : But (fun k => k = l) X (X.putObj l (.loop y')) := Sk.but_turned (But.refl _ _) hy rfl rfl (.inl rfl)
  have := hb.ha
  have := hb.hb
  have := hb.hM
  have := hb.hB
  have := hb.hw
  refine ⟨h.le, pmem_frame h.mem k (by omega) (by omega), ⟨k.some h.bx.a0 (by omega), k.some h.bx.a1 (by omega), k.some h.bx.a2 (by omega), k.some h.bx.b0 (by omega)⟩, Sk.but_turned h.but hy rfl rfl (.inr (by omega)), k.some h.mb (by omega), Nat.le_trans h.sz k.size⟩

set_option maxHeartbeats 4000000 in
theorem p_fill (M B n : Nat) (S : Stk) (s : St) (w : World) (hm : PMem w M B n s) (h0 : 0 ≤ s.cnt) (h1 : s.cnt ≤ 900000) (N1 : 1 ≤ S.N) (N2 : S.N ≤ 64) (K0 : 0 ≤ S.K) (K1 : S.K ≤ 10000) :
    Calls Try.prog 35 #[.agg #[.int .i64 S.T, .int .i64 S.K, .int .i64 S.N], .pointer (some ⟨M, 0, none⟩)] w fun e w' => e = .returned (.tuple #[]) ∧ PMem w' M B n (fillSt n S s) ∧ But (fun k => k = B) w w' := by
  have hl := pmem_lt hm
  have HM := Lib.hid hm
  clear hm
  refine (callsIn_wide (n := 6)).1 ?_
  refine callsIn_of_wp_marks Try.func35 rfl trivial ?_ rfl
  simp only [Try.ntmps35, List.size_toArray, List.length_cons, List.length_nil, Nat.reduceAdd, Nat.reduceSub, Array.replicate_succ, Array.replicate_zero, List.push_toArray, List.append_toArray, List.nil_append, List.cons_append]
  rw [wpIn_wide]
  go_wp2_with fail
  obtain ⟨W0, hW0⟩ : ∃ W0, W0 = ((w.alloc (.cells #[.int .i64 S.T, .int .i64 S.K, .int .i64 S.N] 23)).alloc (.cells #[.pointer (some ⟨M, 0, none⟩)] 29)) := ⟨_, rfl⟩
  have a0 : W0.cell? ⟨w.heap.size, 0, none⟩ = some (.int .i64 S.T) := by rw [hW0]; exact ((Kept.refl _).alloc _ _).some (cell_new _ _ _ _ 0 rfl)
  have a1 : W0.cell? ⟨w.heap.size, 1, none⟩ = some (.int .i64 S.K) := by rw [hW0]; exact ((Kept.refl _).alloc _ _).some (cell_new _ _ _ _ 1 rfl)
  have a2 : W0.cell? ⟨w.heap.size, 2, none⟩ = some (.int .i64 S.N) := by rw [hW0]; exact ((Kept.refl _).alloc _ _).some (cell_new _ _ _ _ 2 rfl)
  have b0 : W0.cell? ⟨w.heap.size + 1, 0, none⟩ = some (.pointer (some ⟨M, 0, none⟩)) := by rw [hW0]; exact cell_new _ _ _ _ 0 (by simp)
  have k0 : Kept w W0 := by rw [hW0]; exact ((Kept.refl w).alloc _ _).alloc _ _
  rw [← hW0]
  clear hW0
  refine (sized_yes S _ N1 N2).mono ?_
  rintro e w1 ⟨rfl, k1⟩
  have a0 := k1.some a0
  have a1 := k1.some a1
  have a2 := k1.some a2
  have b0 := k1.some b0
  have K1 := Lib.hid (k0.trans k1)
  clear k0 k1
  go_wp2_with fail
  refine (p_store M B n s S.T 0 _ (pmem_kept HM.out K1.out) h0 (by omega)).mono ?_
  rintro e w2 ⟨rfl, m2, b2⟩
  have a0 := b2.some a0 (by omega)
  have a1 := b2.some a1 (by omega)
  have a2 := b2.some a2 (by omega)
  have b0 := b2.some b0 (by omega)
  have M2 := Lib.hid m2
  have B2 := Lib.hid ((K1.out.but (fun k => k = B)).trans b2 (fun _ _ h => h))
  have z2 : w.heap.size + 1 < w2.heap.size := lt_of_cell b0
  clear m2 b2 K1
  go_wp2_with fail
  refine (pins_any S 0 _).mono ?_
  rintro e w3 ⟨a, b, rfl, la, lb, ha, hb, bs, k3⟩
  have SI : Hid (FlI w w3.heap.size a b M B n S s [] w3) := Lib.hid ⟨by simp; omega, pmem_kept M2.out k3, bs, B2.out.then k3, k3.some b0, Nat.le_refl _⟩
  have SB : Hid (FlB w w3.heap.size a b M B) := Lib.hid ⟨by have := B2.out.size; omega, by have := B2.out.size; omega, ha, hb, hl.1, hl.2, by have := k3.size; omega⟩
  have HBN : B < w3.heap.size := by have := B2.out.size; have := k3.size; omega
  clear a0 a1 a2 b0 la lb ha hb bs k3 M2 B2 z2
  go_wp2_with fail
  rw [← wpIn_wide (n := 6)]
  refine range_manyN (Bs := fun k => k = B ∨ w3.heap.size + 1 + 1 ≤ k) (by decide) (gf := 96) (lb := #[.pointer (some ⟨b, 0, none⟩), .pointer (some ⟨a, 0, none⟩)]) rfl (enters_of Try.func96 (by kernel_rfl) rfl) (fun x : Int => #[Value.int .i64 x, Value.int .i64 (S.K + x)]) (fun _ => rfl)
    (fun k h => by rcases h with h | h <;> omega)
    (fun pre X => FlI w w3.heap.size a b M B n S s pre X)
    (fun cd pre X => False)
    (fun pre x => pre = cs 0 pre.length ∧ x = 0 + (pre.length : Int) ∧ x < S.N) (fun xs => ∃ k : Nat, xs = cs 0 k ∧ S.N ≤ 0 + (k : Int))
    ?_ ?_ ?_ ?_ ?_ ?_
    (fun x => { tmps := #[.agg #[.int .i64 S.T, .int .i64 S.K, .int .i64 S.N], .pointer (some ⟨M, 0, none⟩), .pointer (some ⟨w.heap.size, 0, none⟩), .pointer (some ⟨w.heap.size + 1, 0, none⟩), undef, .int .i64 (S.K + x), .agg #[.int .i64 S.T, .int .i64 S.K, .int .i64 S.N], .bool true, .bool false, .pointer (some ⟨M, 0, none⟩), .pointer (some ⟨w.heap.size, 0, none⟩), .int .i64 S.T, .tuple #[], .agg #[.int .i64 S.T, .int .i64 S.K, .int .i64 S.N],
      .func (.func 96) #[] #[.pointer (some ⟨b, 0, none⟩), .pointer (some ⟨a, 0, none⟩)], .int .i64 x, .int .i64 (S.K + x), undef, undef, undef], defers := [] })
    ?_ ?_ ?_ ?_
  · exact fun X k => SI.out.keep k
  · exact fun pre X X' h k => h.keep k
  · exact fun pre X l y y' hl hy h => h.turn SB.out hl hy
  · exact fun cd pre X X' h k => h
  · exact fun cd pre X l y y' hl hy h => h
  · intro l X0 J Jx k0 z0 hl hJk hJb hY h0
    exact pins_in 5 (by decide) l a b S 0 (by omega) (by omega) (by omega) (by omega) (by omega) J Jx hJk (fun pre X h => (hJb pre X h).1.bx) hY X0 h0
  · intro l x X K hK
    gi_wp2
    exact hK
  · intro l pre x X hI hso hsz hbut
    obtain ⟨hso1, hso2, hso3⟩ := hso
    have HI := Lib.hid hI
    have hmb := hI.mb
    have hcn : (fillTo n S s pre.length).cnt ≤ 1000000 := by rw [fillTo_cnt]; have := hI.le; omega
    have hc0 : 0 ≤ (fillTo n S s pre.length).cnt := by rw [fillTo_cnt]; omega
    have hx : x = (pre.length : Int) := by rw [hso2, Int.zero_add]
    have HX := Lib.hid hx
    have LE := Lib.hid (show ((pre ++ [x]).length : Int) ≤ S.N by simp; omega)
    have ST : ∀ Y, Hid (PMem Y M B n (fillTo n S s pre.length) → Calls Try.prog 53 #[.pointer (some ⟨M, 0, none⟩), .int .i64 (S.K + x), .int .u64 0] Y fun e w' => e = .returned (.tuple #[]) ∧ PMem w' M B n (fillTo n S s (pre ++ [x]).length) ∧ But (fun k => k = B) Y w') := fun Y => Lib.hid (fun h => by
      have k := p_store M B n (fillTo n S s pre.length) (S.K + x) 0 Y h hc0 hcn
      rw [show (pre ++ [x]).length = pre.length + 1 from by simp]
      show Calls _ _ _ _ fun e w' => e = .returned (.tuple #[]) ∧ PMem w' M B n (acc n (fillTo n S s pre.length) 2 (S.K + (pre.length : Int)) true 0) ∧ But (fun k => k = B) Y w'
      rw [← hx]
      exact k)
    clear hI hso1 hso2 hso3 hcn hc0 hx
    gi_wp2_with (refine ⟨trivial, ?_⟩; gi_at_call 53; refine (CallsIn.inRound l (callsIn_wide.2 ((ST _).out HI.out.mem))).mono ?_; rintro e v ⟨rfl, m4, b4⟩)
    have hB := SB.out
    have h3 := hB.ha
    have h4 := hB.hb
    have h5 := hB.la
    have h6 := hB.lb
    have h7 := hB.hB
    refine ⟨⟨LE.out, m4, ⟨b4.some HI.out.bx.a0 (by omega), b4.some HI.out.bx.a1 (by omega), b4.some HI.out.bx.a2 (by omega), b4.some HI.out.bx.b0 (by omega)⟩, HI.out.but.trans b4 (fun _ _ h => h), b4.some HI.out.mb (by omega), Nat.le_trans HI.out.sz b4.size⟩, (Sk.Blk.of b4).mono (fun k _ h => .inl h)⟩
  · intro D xs X hN hI hbut hD hd
    obtain ⟨k, hx, hneg⟩ := hN
    have hk : xs.length = S.N.toNat := by
      have h1 := cs_length 0 k
      rw [← hx] at h1
      have h2 := hI.le
      omega
    have HI := Lib.hid hI
    have HK := Lib.hid hk
    have hDw : w.heap.size < D := by have := SB.out.hw; omega
    clear hI hx hneg hk hbut
    have bD : But (fun k => k = D) X (X.putObj D (.deferred none)) := Sk.but_turned (But.refl _ _) hd rfl rfl (.inl rfl)
    have hB := SB.out
    have h1 := hB.hM
    have h2 := hB.hB
    have hm : PMem (X.putObj D (.deferred none)) M B n (fillSt n S s) := by
      have h := pmem_frame HI.out.mem bD (by omega) (by omega)
      rw [HK.out] at h
      exact h
    have kk : But (fun k => k = B) w (X.putObj D (.deferred none)) := Sk.but_turned HI.out.but hd rfl rfl (.inr (by omega))
    go_wp2
    refine ⟨by simp, .inl ⟨_, _, rfl, run_takeDeferred hd, ?_⟩⟩
    exact ⟨.tuple #[], by simp [results, Try.results35, go_sem], rfl, hm, kk⟩
  · intro D cd xs X hI hbut hD hd
    exact hI.elim
end Go.Proofs.Ytmfbjlaajcdbnaa.Ep

namespace Go.Proofs.Ytmfbjlaajcdbnaa.Ep
set_option maxRecDepth 20000
open Go.RowKit
open Wo (St acc wordAt PMem RefIs)
open Sk (Stk Wd pmem_kept pmem_lt pmem_frame p_new p_words kept_of)

theorem sameWords {b o c b' o' c' n : Nat} {f : Nat → Int} {w : World} (hn : n ≤ 4096)
    (hc : ∀ i, i < n → w.cell? ⟨b, o + i, none⟩ = some (.int .u64 (f i))) (hc' : ∀ i, i < n → w.cell? ⟨b', o' + i, none⟩ = some (.int .u64 (f i))) :
    Calls Try.prog 20 #[.slice (some ⟨b, o, none⟩) n c, .slice (some ⟨b', o', none⟩) n c'] w fun e w' => e = .returned (.bool true) ∧ Kept w w' :=
  (Wo.sameWords_yes b o c b' o' c' n f w (by omega) hc hc').mono fun _ _ ⟨x, k⟩ => ⟨x, kept_of k⟩
theorem listAt {f : Nat → Int} {l : List Int} {n : Nat} (h : (List.range n).map f = l) (i : Nat) (hi : i < n) : l.getD i 0 = f i := by
  subst h
  simp [hi]
theorem wd_zero (n : Nat) : Wd n Wo.St.zero := ⟨fun _ => by show (0 : Int) ≤ 0; decide, fun _ => by show (0 : Int) < 18446744073709551616; decide⟩
theorem cells4 {w : World} {g : Nat} {t : TypeId} {a b c d : Int} {f : Nat → Int} (hf : (List.range 4).map f = [a, b, c, d]) (hg : g = w.heap.size) (i : Nat) (hi : i < 4) :
    (w.alloc (.cells #[.int .u64 a, .int .u64 b, .int .u64 c, .int .u64 d] t)).cell? ⟨g, 0 + i, none⟩ = some (.int .u64 (f i)) := by
  have e := listAt hf i hi
  rw [Nat.zero_add, cell_new _ _ _ _ _ hg, ← e]
  have hc : i = 0 ∨ i = 1 ∨ i = 2 ∨ i = 3 := by omega
  rcases hc with rfl | rfl | rfl | rfl <;> rfl
theorem ints3 {w : World} {g : Nat} {t : TypeId} {a b c : Int} {f : Nat → Int} (hf : (List.range 3).map f = [a, b, c]) (hg : g = w.heap.size) : Reads (w.alloc (.cells #[.int .i64 a, .int .i64 b, .int .i64 c] t)) (some ⟨g, 0, none⟩) 3 f := by
  refine .inr ⟨g, 0, rfl, fun i hi => ?_⟩
  have e := listAt hf i hi
  rw [Nat.zero_add, cell_new _ _ _ _ _ hg, ← e]
  have hc : i = 0 ∨ i = 1 ∨ i = 2 := by omega
  rcases hc with rfl | rfl | rfl <;> rfl

def s0 : St := fillSt 4 S3 Wo.St.zero
def Chap (s : St) (w : World) (e : Ending) (w' : World) : Prop := ∃ M B, e = .returned (.pointer (some ⟨M, 0, none⟩)) ∧ In w M B s w'
set_option maxHeartbeats 2000000 in
theorem filled_any (w : World) : Calls Try.prog 83 #[] w (Chap s0 w) := by
  go_enter Try.func83, Try.ntmps83
  go_wp2_with fail
  refine (p_new 4 (by decide) (by decide) _).mono ?_
  rintro e w1 ⟨rfl, m1, z1, k1⟩
  have M1 := Lib.hid m1
  have K1 := Lib.hid k1
  have Z1 := Lib.hid z1
  clear m1 k1 z1
  go_wp2_with fail
  refine (three_any _).mono ?_
  rintro e w2 ⟨rfl, k2⟩
  have K2 := Lib.hid k2
  clear k2
  go_wp2_with fail
  refine (p_fill _ _ 4 S3 Wo.St.zero _ (pmem_kept M1.out K2.out) (by decide) (by decide) (by decide) (by decide) (by decide) (by decide)).mono ?_
  rintro e w3 ⟨rfl, m3, b3⟩
  have M3 : Hid (PMem w3 (w.heap.size + 1) w.heap.size 4 s0) := Lib.hid m3
  have K3 : Hid (Kept w w3) := Lib.hid ((((K1.out.trans K2.out).but (fun k => k = w.heap.size)).trans b3 (fun _ _ h => h)).kept (fun k hk h => by omega))
  clear m3 b3
  go_wp2
  go_ret
  exact ⟨w.heap.size + 1, w.heap.size, rfl, M3.out, K3.out, by omega, by omega, (pmem_lt M3.out).1, (pmem_lt M3.out).2, fillTo_wd (wd_zero 4) _, by decide +kernel, by decide +kernel⟩

def sA : St := (pinIt 4 S3 1 s0 EOp.new 3).1
def sB : St := (advIt 4 S3 1 0 sA EOp.new 4).1
def sC : St := (advIt 4 S3 1 0 sB EOp.new 1).1
theorem runA : PinRun 1 s0 EOp.new 3 0 := ⟨by decide +kernel, by decide +kernel, by decide +kernel, by decide +kernel⟩
theorem runB : AdvRun 1 0 sA 4 0 := ⟨by decide +kernel, by decide +kernel, by decide +kernel⟩
theorem runC : AdvRun 1 0 sB 1 14 := ⟨by decide +kernel, by decide +kernel, by decide +kernel⟩
theorem wordsA : (List.range 4).map sA.ws = [0, 0, 1, 0] := by decide +kernel
theorem pinsA : (List.range 3).map (pinL 4 sA.ws S3) = [-1, 0, -1] := by decide +kernel
theorem nowB : ep (hv 4 sB.ws 0) = 1 := by decide +kernel
theorem cnts : s0.cnt ≤ 100 ∧ sA.cnt ≤ 100 ∧ sB.cnt ≤ 100 ∧ sC.cnt ≤ 100 := by decide +kernel
theorem wf_of {s : St} (h : Wd 4 s) : Wf 4 s.ws := fun i _ => ⟨h.lo i, h.hi i⟩
theorem now3 {w0 w : World} {M B : Nat} {s : St} (h : In w0 M B s w) : Calls Try.prog 16 #[.agg #[.int .i64 S3.T, .int .i64 S3.K, .int .i64 S3.N], .pointer (some ⟨M, 0, none⟩)] w fun e w' => e = .returned (.int .i64 (ep (hv 4 s.ws 0))) ∧ Kept w w' :=
  now_any S3 _ 4 s.ws (wf_of h.wd) (by decide) w (gives_words h.mem)
theorem pinned_ints {w0 w : World} {M B : Nat} {s : St} (h : In w0 M B s w) : Calls Try.prog 15 #[.agg #[.int .i64 S3.T, .int .i64 S3.K, .int .i64 S3.N], .pointer (some ⟨M, 0, none⟩)] w fun e w' => ∃ G, e = .returned (.slice (some ⟨G, 0, none⟩) 3 3) ∧ w.heap.size ≤ G ∧ (∀ j, j < 3 → w'.cell? ⟨G, j, none⟩ = some (.int .i64 (pinL 4 s.ws S3 j))) ∧ Kept w w' :=
  (pinned_any S3 _ 4 s.ws (wf_of h.wd) (by decide) w (gives_words h.mem) (by decide) (by decide) (by decide) (by decide)).mono fun _ _ ⟨G, a, b, _, c, _, k⟩ => ⟨G, a, b, c, k⟩

set_option maxHeartbeats 4000000 in
theorem first_any (w : World) : Calls Try.prog 39 #[] w (Chap sC w) := by
  go_enter Try.func39, Try.ntmps39
  go_wp2_with fail
  refine (filled_any _).mono ?_
  rintro e w1 ⟨M, B, rfl, i1⟩
  have I1 := Lib.hid i1
  clear i1
  go_wp2_with fail
  refine (three_any _).mono ?_
  rintro e w2 ⟨rfl, k2⟩
  have I2 := Lib.hid (I1.out.grow k2)
  clear k2
  go_wp2_with fail
  refine (newPin_yes S3 1 _ (by decide) (by decide)).mono ?_
  rintro e w3 ⟨P, rfl, lP, gP, oP, k3⟩
  have hP := Lib.hid (I2.out.bk lP)
  have I3 := Lib.hid (I2.out.grow k3)
  have O3 := Lib.hid oP
  clear k3 lP gP oP
  go_wp2_with fail
  refine (pinned3 (k := 3) (at_ := 0) I3.out O3.out hP.out ok_new (by have := cnts.1; omega) (by decide) (by decide) (by decide) (by decide) runA).mono ?_
  rintro e w4 ⟨rfl, _, i4, _⟩
  have I4 : Hid (In w M B sA w4) := Lib.hid i4
  clear i4 hP O3
  go_wp2_with fail
  refine (p_words _ _ 4 sA _ I4.out.mem).mono ?_
  rintro e w5 ⟨b, c, rfl, hb1, hb2, hw, hf, k5⟩
  have HW := Lib.hid hw
  have I5 := Lib.hid (I4.out.grow k5)
  clear hw hf k5 hb1
  go_wp2_with fail
  refine (sameWords (f := sA.ws) (by decide) (fun i hi => ?_) (fun i hi => cells4 wordsA rfl i hi)).mono ?_
  · rw [Nat.zero_add]; exact ((Kept.refl _).alloc _ _).some (HW.out i hi)
  rintro e w6 ⟨rfl, k6⟩
  have I6 := Lib.hid (I5.out.grow (Kept.trans ((Kept.refl _).alloc _ _) k6))
  clear k6 HW
  go_wp2_with fail
  refine (three_any _).mono ?_
  rintro e w7 ⟨rfl, k7⟩
  have I7 := Lib.hid (I6.out.grow k7)
  clear k7
  go_wp2_with fail
  refine (pinned_ints I7.out).mono ?_
  rintro e w8 ⟨G, rfl, lG, cG, k8⟩
  have I8 := Lib.hid (I7.out.grow k8)
  have CG : Hid (Reads w8 (some ⟨G, 0, none⟩) 3 (pinL 4 sA.ws S3)) := Lib.hid (.inr ⟨G, 0, rfl, fun i hi => by rw [Nat.zero_add]; exact cG i hi⟩)
  clear k8 cG lG
  go_wp2_with fail
  refine (sameInts_yes _ _ 3 _ _ (pinL 4 sA.ws S3) _ (by decide) (CG.out.kept ((Kept.refl _).alloc _ _)) (ints3 pinsA rfl)).mono ?_
  rintro e w9 ⟨rfl, k9⟩
  have I9 := Lib.hid (I8.out.grow (Kept.trans ((Kept.refl _).alloc _ _) k9))
  clear k9 CG
  go_wp2_with fail
  refine (advances3 (k := 4) I9.out (by have := cnts.2.1; omega) (by decide) (by decide) (by decide) (by decide) runB).mono ?_
  rintro e w10 ⟨rfl, i10, _⟩
  have I10 : Hid (In w M B sB w10) := Lib.hid i10
  clear i10
  go_wp2_with fail
  refine (three_any _).mono ?_
  rintro e w11 ⟨rfl, k11⟩
  have I11 := Lib.hid (I10.out.grow k11)
  clear k11
  have NW := Lib.hid (now3 I11.out)
  rw [nowB] at NW
  go_wp2_with fail
  refine NW.out.mono ?_
  rintro e w12 ⟨rfl, k12⟩
  have I12 := Lib.hid (I11.out.grow k12)
  clear k12 NW
  go_wp2_with fail
  refine (advances3 (k := 1) I12.out (by have := cnts.2.2.1; omega) (by decide) (by decide) (by decide) (by decide) runC).mono ?_
  rintro e w13 ⟨rfl, i13, _⟩
  have I13 : Hid (In w M B sC w13) := Lib.hid i13
  clear i13
  go_wp2
  go_ret
  exact ⟨M, B, rfl, I13.out⟩
set_option maxHeartbeats 1000000 in
theorem awake_any (w : World) : Calls Try.prog 10 #[] w fun e w' => e = .returned (.bool true) ∧ Kept w w' := by
  have F1 := Lib.hid (fun W => pfits_any S3 4 W)
  have F2 := Lib.hid (fun W => pfits_any S3 3 W)
  rw [show fitsE S3 4 = 0 from by decide +kernel] at F1
  rw [show fitsE S3 3 = 2 from by decide +kernel] at F2
  go_enter Try.func10, Try.ntmps10
  go_wp2_with fail
  refine (first_any _).mono ?_
  rintro e w1 ⟨M, B, rfl, i1⟩
  have K1 := Lib.hid i1.kept
  clear i1
  go_wp2_with fail
  refine (three_any _).mono ?_
  rintro e w2 ⟨rfl, k2⟩
  have K2 := Lib.hid (K1.out.trans k2)
  clear k2
  go_wp2_with fail
  refine (F1.out _).mono ?_
  rintro e w3 ⟨rfl, k3⟩
  have K3 := Lib.hid (K2.out.trans k3)
  clear k3
  go_wp2_with fail
  refine (three_any _).mono ?_
  rintro e w4 ⟨rfl, k4⟩
  have K4 := Lib.hid (K3.out.trans k4)
  clear k4
  go_wp2_with fail
  refine (F2.out _).mono ?_
  rintro e w5 ⟨rfl, k5⟩
  go_wp2
  go_ret
  exact ⟨rfl, K4.out.trans k5⟩
end Go.Proofs.Ytmfbjlaajcdbnaa.Ep

namespace Go.Proofs.Ytmfbjlaajcdbnaa.Ep
set_option maxRecDepth 20000
open Go.RowKit
open Wo (St acc wordAt PMem RefIs)
open Sk (Stk Wd pmem_kept pmem_lt pmem_frame)

def sD : St := (pinIt 4 S3 0 sC EOp.new 3).1
def sE : St := (advIt 4 S3 0 1 sD EOp.new 2).1
def sF : St := unSt 4 S3 1 sE EOp.new
def sG : St := (advIt 4 S3 0 1 sF EOp.new 4).1
def late : EOp := pinOp 4 S3 sG EOp.new
def sH : St := pinSt 4 S3 2 sG EOp.new
def sI : St := unSt 4 S3 0 sH EOp.new
def sJ : St := (pinIt 4 S3 0 sI EOp.new 3).1
def sK : St := (advIt 4 S3 0 2 sJ EOp.new 4).1
def sL : St := (pinIt 4 S3 2 sK late 4).1
theorem runD : PinRun 0 sC EOp.new 3 1 := ⟨by decide +kernel, by decide +kernel, by decide +kernel, by decide +kernel⟩
theorem runE : AdvRun 0 1 sD 2 14 := ⟨by decide +kernel, by decide +kernel, by decide +kernel⟩
theorem runG : AdvRun 0 1 sF 4 0 := ⟨by decide +kernel, by decide +kernel, by decide +kernel⟩
theorem nowG : ep (hv 4 sG.ws 0) = 2 := by decide +kernel
theorem lateGo : (pinOp 4 S3 sG EOp.new).line = 2 := by decide +kernel
theorem runJ : PinRun 0 sI EOp.new 3 2 := ⟨by decide +kernel, by decide +kernel, by decide +kernel, by decide +kernel⟩
theorem runK : AdvRun 0 2 sJ 4 0 := ⟨by decide +kernel, by decide +kernel, by decide +kernel⟩
theorem runL : PinRun 2 sK late 4 3 := ⟨by decide +kernel, by decide +kernel, by decide +kernel, by decide +kernel⟩
theorem cntsK : sC.cnt ≤ 100 ∧ sD.cnt ≤ 100 ∧ sE.cnt ≤ 100 ∧ sF.cnt ≤ 100 ∧ sG.cnt ≤ 100 ∧ sH.cnt ≤ 100 ∧ sI.cnt ≤ 100 ∧ sJ.cnt ≤ 100 ∧ sK.cnt ≤ 100 := by decide +kernel
theorem cle {s : St} (h : s.cnt ≤ 100) : s.cnt ≤ 800000 := by omega
theorem late_step {w0 w : World} {M B P : Nat} (h : In w0 M B sG w) (o : PinAt w P S3 2 EOp.new) (hP : Bk w0 M B P) :
    Calls Try.prog 30 #[.pointer (some ⟨P, 0, none⟩), .pointer (some ⟨M, 0, none⟩)] w (Does (fun w' => PinAt w' P S3 2 late) w0 M B sH P false w) := by
  have k := pin3 h o hP ok_new (by have := cntsK.2.2.2.2.1; omega) (by decide) (by decide)
  rw [show ((pinOp 4 S3 sG EOp.new).line == 9) = false from by rw [lateGo]; rfl] at k
  exact k
theorem late_ok {w0 w : World} {M B : Nat} (h : In w0 M B sG w) : late.Ok := pin_ok ok_new h.wd
theorem badP {w : World} {P : Nat} (ho : PinAt w P S3 3 EOp.bad) : Calls Try.prog 29 #[.pointer (some ⟨P, 0, none⟩)] w fun e w' => e = .returned (.tuple #[.int .i64 0, .int .i64 3]) ∧ Kept w w' :=
  pin_told P S3 3 EOp.bad w ho ok_bad.good ok_bad.er
theorem badU {w : World} {P : Nat} (ho : UnpinAt w P S3 (-1) EOp.bad) : Calls Try.prog 33 #[.pointer (some ⟨P, 0, none⟩)] w fun e w' => e = .returned (.int .i64 3) ∧ Kept w w' := unpin_told P S3 (-1) EOp.bad w ho
theorem fitsA (w : World) : Calls Try.prog 8 #[.agg #[.int .i64 0, .int .i64 1, .int .i64 0], .int .i64 9] w fun e w' => e = .returned (.int .i64 2) ∧ Kept w w' := pfits_any ⟨0, 1, 0⟩ 9 w
theorem fitsB (w : World) : Calls Try.prog 8 #[.agg #[.int .i64 2, .int .i64 1, .int .i64 3], .int .i64 9] w fun e w' => e = .returned (.int .i64 2) ∧ Kept w w' := pfits_any ⟨2, 1, 3⟩ 9 w
theorem fitsC (w : World) : Calls Try.prog 8 #[.agg #[.int .i64 S3.T, .int .i64 S3.K, .int .i64 S3.N], .int .i64 0] w fun e w' => e = .returned (.int .i64 3) ∧ Kept w w' := pfits_any S3 0 w

set_option maxHeartbeats 8000000 in
theorem known_any (w : World) : Calls Try.prog 5 #[] w fun e w' => e = .returned (.bool true) ∧ Kept w w' := by
  go_enter Try.func5, Try.ntmps5
  go_wp2_with fail
  refine (first_any _).mono ?_
  rintro e w1 ⟨M, B, rfl, i1⟩
  have I1 := Lib.hid i1
  clear i1
  go_wp2_with fail
  refine (three_any _).mono ?_
  rintro e w2 ⟨rfl, k2⟩
  have I2 := Lib.hid (I1.out.grow k2)
  clear k2
  go_wp2_with fail
  refine (newPin_yes S3 0 _ (by decide) (by decide)).mono ?_
  rintro e w3 ⟨P3, rfl, lP3, gP3, oP3, k3⟩
  have hP3 := Lib.hid (I2.out.bk lP3)
  have O3 := Lib.hid oP3
  have I3 := Lib.hid (I2.out.grow k3)
  clear k3
  clear lP3 gP3 oP3
  go_wp2_with fail
  refine (pinned3 (k := 3) (at_ := 1) I3.out O3.out hP3.out ok_new (cle cntsK.1) (by decide) (by decide) (by decide) (by decide) runD).mono ?_
  rintro e w4 ⟨rfl, _, i4, b4⟩
  have I4 : Hid (In w M B sD w4) := Lib.hid i4
  clear i4 b4 hP3 O3
  go_wp2_with fail
  refine (advances3 (k := 2) I4.out (cle cntsK.2.1) (by decide) (by decide) (by decide) (by decide) runE).mono ?_
  rintro e w5 ⟨rfl, i5, b5⟩
  have I5 : Hid (In w M B sE w5) := Lib.hid i5
  clear i5 b5
  go_wp2_with fail
  refine (unpinned3 I5.out (cle cntsK.2.2.1) (by decide) (by decide)).mono ?_
  rintro e w6 ⟨rfl, i6, b6⟩
  have I6 : Hid (In w M B sF w6) := Lib.hid i6
  clear i6 b6
  go_wp2_with fail
  refine (advances3 (k := 4) I6.out (cle cntsK.2.2.2.1) (by decide) (by decide) (by decide) (by decide) runG).mono ?_
  rintro e w7 ⟨rfl, i7, b7⟩
  have I7 : Hid (In w M B sG w7) := Lib.hid i7
  clear i7 b7
  go_wp2_with fail
  refine (three_any _).mono ?_
  rintro e w8 ⟨rfl, k8⟩
  have I8 := Lib.hid (I7.out.grow k8)
  clear k8
  have NW := Lib.hid (now3 I8.out)
  rw [nowG] at NW
  go_wp2_with fail
  refine (NW.out).mono ?_
  rintro e w9 ⟨rfl, k9⟩
  have I9 := Lib.hid (I8.out.grow k9)
  clear k9
  clear NW
  go_wp2_with fail
  refine (three_any _).mono ?_
  rintro e w10 ⟨rfl, k10⟩
  have I10 := Lib.hid (I9.out.grow k10)
  clear k10
  go_wp2_with fail
  refine (newPin_yes S3 2 _ (by decide) (by decide)).mono ?_
  rintro e w11 ⟨PL, rfl, lPL, gPL, oPL, k11⟩
  have hL := Lib.hid (I10.out.bk lPL)
  have L11 := Lib.hid oPL
  have I11 := Lib.hid (I10.out.grow k11)
  clear k11
  clear lPL gPL oPL
  have LOK := Lib.hid (late_ok I11.out)
  go_wp2_with fail
  refine (late_step I11.out L11.out hL.out).mono ?_
  rintro e w12 ⟨rfl, l12, i12, _⟩
  have I12 := Lib.hid i12
  have L12 := Lib.hid l12
  clear i12 l12
  go_wp2_with fail
  refine (unpinned3 I12.out (cle cntsK.2.2.2.2.2.1) (by decide) (by decide)).mono ?_
  rintro e w13 ⟨rfl, i13, b13⟩
  have I13 : Hid (In w M B sI w13) := Lib.hid i13
  have L13 := Lib.hid (L12.out.but b13 (by intro h; have := hL.out.b; have := hL.out.m; omega))
  clear i13 b13
  go_wp2_with fail
  refine (three_any _).mono ?_
  rintro e w14 ⟨rfl, k14⟩
  have I14 := Lib.hid (I13.out.grow k14)
  have L14 := Lib.hid (L13.out.kept k14)
  clear k14
  go_wp2_with fail
  refine (newPin_yes S3 0 _ (by decide) (by decide)).mono ?_
  rintro e w15 ⟨P15, rfl, lP15, gP15, oP15, k15⟩
  have hP15 := Lib.hid (I14.out.bk lP15)
  have O15 := Lib.hid oP15
  have nL15 : P15 ≠ PL := by have := lt_of_cell L14.out.r0; omega
  have I15 := Lib.hid (I14.out.grow k15)
  have L15 := Lib.hid (L14.out.kept k15)
  clear k15
  clear lP15 gP15 oP15
  go_wp2_with fail
  refine (pinned3 (k := 3) (at_ := 2) I15.out O15.out hP15.out ok_new (cle cntsK.2.2.2.2.2.2.1) (by decide) (by decide) (by decide) (by decide) runJ).mono ?_
  rintro e w16 ⟨rfl, _, i16, b16⟩
  have I16 : Hid (In w M B sJ w16) := Lib.hid i16
  have L16 := Lib.hid (L15.out.but b16 (by intro h; have := hL.out.b; have := hL.out.m; omega))
  clear i16 b16 hP15 O15
  go_wp2_with fail
  refine (advances3 (k := 4) I16.out (cle cntsK.2.2.2.2.2.2.2.1) (by decide) (by decide) (by decide) (by decide) runK).mono ?_
  rintro e w17 ⟨rfl, i17, b17⟩
  have I17 : Hid (In w M B sK w17) := Lib.hid i17
  have L17 := Lib.hid (L16.out.but b17 (by intro h; have := hL.out.b; have := hL.out.m; omega))
  clear i17 b17
  go_wp2_with fail
  refine (pinned3 (k := 4) (at_ := 3) I17.out L17.out hL.out LOK.out (cle cntsK.2.2.2.2.2.2.2.2) (by decide) (by decide) (by decide) (by decide) runL).mono ?_
  rintro e w18 ⟨rfl, _, i18, _⟩
  have K18 := Lib.hid i18.kept
  clear i18
  go_wp2_with fail
  refine (three_any _).mono ?_
  rintro e w19 ⟨rfl, k19⟩
  have K19 := Lib.hid (K18.out.trans k19)
  clear k19
  go_wp2_with fail
  refine (newPin_no S3 3 _ (.inr (by decide))).mono ?_
  rintro e w20 ⟨P20, rfl, _, _, o20, k20⟩
  have K20 := Lib.hid (K19.out.trans k20)
  clear k20
  go_wp2_with fail
  refine (badP o20).mono ?_
  rintro e w21 ⟨rfl, k21⟩
  have K21 := Lib.hid (K20.out.trans k21)
  clear k21
  go_wp2_with fail
  refine (three_any _).mono ?_
  rintro e w22 ⟨rfl, k22⟩
  have K22 := Lib.hid (K21.out.trans k22)
  clear k22
  go_wp2_with fail
  refine (newUnpin_no S3 (-1) _ (.inl (by decide))).mono ?_
  rintro e w23 ⟨P23, rfl, _, _, o23, k23⟩
  have K23 := Lib.hid (K22.out.trans k23)
  clear k23
  go_wp2_with fail
  refine (badU o23).mono ?_
  rintro e w24 ⟨rfl, k24⟩
  have K24 := Lib.hid (K23.out.trans k24)
  clear k24
  go_wp2_with fail
  refine (fitsA _).mono ?_
  rintro e w25 ⟨rfl, k25⟩
  have K25 := Lib.hid (K24.out.trans k25)
  clear k25
  go_wp2_with fail
  refine (fitsB _).mono ?_
  rintro e w26 ⟨rfl, k26⟩
  have K26 := Lib.hid (K25.out.trans k26)
  clear k26
  go_wp2_with fail
  refine (three_any _).mono ?_
  rintro e w27 ⟨rfl, k27⟩
  have K27 := Lib.hid (K26.out.trans k27)
  clear k27
  go_wp2_with fail
  refine (fitsC _).mono ?_
  rintro e w28 ⟨rfl, k28⟩
  have K28 := Lib.hid (K27.out.trans k28)
  clear k28
  go_wp2_with fail
  refine (awake_any _).mono ?_
  rintro e w29 ⟨rfl, k29⟩
  have K29 := Lib.hid (K28.out.trans k29)
  clear k29
  go_wp2
  go_ret
  exact ⟨rfl, K29.out⟩
end Go.Proofs.Ytmfbjlaajcdbnaa.Ep

namespace Go.Proofs.Ytmfbjlaajcdbnaa.Wo
set_option maxRecDepth 20000
open Go.RowKit

set_option maxHeartbeats 1000000 in
theorem valid_nil (w : World) : Calls Try.prog 69 #[.pointer none] w fun e w' => e = .returned (.bool false) ∧ w = w' := by
  go_enter Try.func69, Try.ntmps69
  go_wp2
  go_ret
  exact ⟨rfl, rfl⟩
set_option maxHeartbeats 1000000 in
theorem no_size_nil (w : World) : Calls Try.prog 106 #[.pointer none] w fun e w' => e = .returned (.int .i64 0) ∧ w = w' := by
  go_enter Try.func106, Try.ntmps106
  go_wp2_with fail
  refine (valid_nil _).mono ?_
  rintro e w' ⟨rfl, rfl⟩
  go_wp2
  go_ret
  exact ⟨rfl, rfl⟩
set_option maxHeartbeats 1000000 in
theorem no_count_nil (w : World) : Calls Try.prog 25 #[.pointer none] w fun e w' => e = .returned (.int .i64 0) ∧ w = w' := by
  go_enter Try.func25, Try.ntmps25
  go_wp2_with fail
  refine (valid_nil _).mono ?_
  rintro e w' ⟨rfl, rfl⟩
  go_wp2
  go_ret
  exact ⟨rfl, rfl⟩
set_option maxHeartbeats 1000000 in
theorem no_words_nil (w : World) : Calls Try.prog 21 #[.pointer none] w fun e w' => e = .returned (.slice none 0 0) ∧ w = w' := by
  go_enter Try.func21, Try.ntmps21
  go_wp2_with fail
  refine (valid_nil _).mono ?_
  rintro e w' ⟨rfl, rfl⟩
  go_wp2
  go_ret
  exact ⟨rfl, rfl⟩
set_option maxHeartbeats 1000000 in
theorem cell_nil (i : Int) (w : World) : Calls Try.prog 87 #[.pointer none, .int .i64 i] w fun e w' => e = .returned (.pointer none) ∧ w = w' := by
  by_cases h : i < 0
  · go_enter Try.func87, Try.ntmps87
    go_wp2
    go_ret
    exact ⟨rfl, rfl⟩
  · have h' : 0 ≤ i := by omega
    go_enter Try.func87, Try.ntmps87
    go_wp2_with fail
    refine (no_size_nil _).mono ?_
    rintro e w' ⟨rfl, rfl⟩
    go_wp2
    go_ret
    exact ⟨rfl, rfl⟩
set_option maxHeartbeats 1000000 in
theorem access_nil (k i : Int) (F : Value) (w : World) : Calls Try.prog 86 #[.pointer none, .int .i64 k, .int .i64 i, F] w fun e w' => e = .returned (.agg #[.int .i64 0, .int .i64 0, .int .u64 0, .int .u64 0, .bool false]) ∧ Kept w w' := by
  go_enter Try.func86, Try.ntmps86
  go_wp2_with fail
  refine (valid_nil _).mono ?_
  rintro e w' ⟨rfl, rfl⟩
  go_wp2
  refine bodyPost_ret (v := (.agg #[.int .i64 0, .int .i64 0, .int .u64 0, .int .u64 0, .bool false])) (by simp [results, Try.results86, go_sem]) rfl ⟨rfl, ?_⟩
  (go_light; repeat (first | (with_reducible exact Kept.refl _) | (with_reducible assumption) | (with_reducible refine Kept.alloc ?_ _ _) | (with_reducible refine Kept.drew ?_) | (with_reducible refine Kept.drewN ?_ _) | ((with_reducible refine Kept.setCell ?_ ?_ _); rotate_left; focus (first | (simp; done) | (simp; omega))) | refine Kept.trans ?_ (by assumption)))
set_option maxHeartbeats 1000000 in
theorem no_last_nil (w : World) : Calls Try.prog 23 #[.pointer none] w fun e w' => e = .returned (.agg #[.int .i64 0, .int .i64 0, .int .u64 0, .int .u64 0, .bool false]) ∧ Kept w w' := by
  go_enter Try.func23, Try.ntmps23
  go_wp2_with fail
  refine (valid_nil _).mono ?_
  rintro e w' ⟨rfl, rfl⟩
  go_wp2
  refine bodyPost_ret (v := (.agg #[.int .i64 0, .int .i64 0, .int .u64 0, .int .u64 0, .bool false])) (by simp [results, Try.results23, go_sem]) rfl ⟨rfl, ?_⟩
  (go_light; repeat (first | (with_reducible exact Kept.refl _) | (with_reducible assumption) | (with_reducible refine Kept.alloc ?_ _ _) | (with_reducible refine Kept.drew ?_) | (with_reducible refine Kept.drewN ?_ _) | ((with_reducible refine Kept.setCell ?_ ?_ _); rotate_left; focus (first | (simp; done) | (simp; omega))) | refine Kept.trans ?_ (by assumption)))
set_option maxHeartbeats 1000000 in
theorem no_load_nil (i : Int) (w : World) : Calls Try.prog 102 #[.pointer none, .int .i64 i] w fun e w' => e = .returned (.int .u64 0) ∧ Kept w w' := by
  have hfn := field_new
  have hfh := field_held
  go_enter Try.func102, Try.ntmps102
  go_wp2_with fail
  refine (cell_nil _ _).mono ?_
  rintro e w' ⟨rfl, rfl⟩
  go_wp2_with fail
  refine (access_nil _ _ _ _).mono ?_
  rintro e w' ⟨rfl, k⟩
  go_wp2
  go_ret
  exact ⟨rfl, k⟩
set_option maxHeartbeats 1000000 in
theorem no_store_nil (i x : Int) (w : World) : Calls Try.prog 53 #[.pointer none, .int .i64 i, .int .u64 x] w fun e w' => e = .returned (.tuple #[]) ∧ Kept w w' := by
  have hfn := field_new
  have hfh := field_held
  go_enter Try.func53, Try.ntmps53
  go_wp2_with fail
  refine (cell_nil _ _).mono ?_
  rintro e w' ⟨rfl, rfl⟩
  go_wp2_with fail
  refine (access_nil _ _ _ _).mono ?_
  rintro e w' ⟨rfl, k⟩
  go_wp2
  go_end0
  exact ⟨rfl, k⟩
set_option maxHeartbeats 1000000 in
theorem no_cas_nil (i x y : Int) (w : World) : Calls Try.prog 105 #[.pointer none, .int .i64 i, .int .u64 x, .int .u64 y] w fun e w' => e = .returned (.bool false) ∧ Kept w w' := by
  have hfn := field_new
  have hfh := field_held
  go_enter Try.func105, Try.ntmps105
  go_wp2_with fail
  refine (cell_nil _ _).mono ?_
  rintro e w' ⟨rfl, rfl⟩
  go_wp2_with fail
  refine (access_nil _ _ _ _).mono ?_
  rintro e w' ⟨rfl, k⟩
  go_wp2
  go_ret
  exact ⟨rfl, k⟩
end Go.Proofs.Ytmfbjlaajcdbnaa.Wo
