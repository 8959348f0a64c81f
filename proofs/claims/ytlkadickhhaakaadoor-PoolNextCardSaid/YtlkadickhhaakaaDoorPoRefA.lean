/- The document's answers: All. -/
import Derived.Test.YtlkadickhhaakaaDoorPoRef
namespace Go.Proofs.YtlkadickhhaakaaDoor
open Go.RowKit
attribute [local go_sem ↓] app_named

/-- The answers that give out the first k of a list. -/
def givesI (s : List Int) : List Ann := s.map fun i => ⟨0, i, 0⟩
theorem givesI_take {s : List Int} {k : Nat} {x : Int} (h : s[k]? = some x) : givesI (s.take (k + 1)) = givesI (s.take k) ++ [⟨0, x, 0⟩] := by
  rw [take_snoc s k x h]; simp [givesI]
theorem givesI_len (s : List Int) : (givesI s).length = s.length := by simp [givesI]

set_option maxRecDepth 100000 in
set_option maxHeartbeats 8000000 in
theorem refAll_alloc {w : World} {a : Option Addr} {n c : Nat} {s : List Int} (h : Lay w (.slice a n c) n (ints s)) (hn : n = s.length) (hc : chk s = 0) (oa ob ou : Int) :
    Calls Tryd.prog 13 #[.slice a n c, .agg #[.int .i64 7, .int .i64 oa, .int .i64 ob, .int .u64 ou]] w (RetA w (allS s ⟨7, oa, ob, ou⟩)) := by
  have hl := chk_len hc
  have HA := Lib.hid (show allS s ⟨7, oa, ob, ou⟩ = givesI s ++ [⟨7, 0, 0⟩, ⟨12, 0, 0⟩] by simp [allS, hc, outs, givesI, memI_setOf hc])
  have CK := Lib.hid (fun W (k : Kept w W) => refCheck_any (h.kept k) hn)
  rw [hc] at CK
  have CE := Lib.hid (fun W (k : Kept w W) i x hx => lay_one (h.kept k) hn i x hx)
  have HN := Lib.hid hn
  have K0 := Lib.hid (show Kept w (w.alloc (.cells #[.int .i64 7, .int .i64 oa, .int .i64 ob, .int .u64 ou] 25)) from (Kept.refl w).alloc _ _)
  have b0 : (w.alloc (.cells #[.int .i64 7, .int .i64 oa, .int .i64 ob, .int .u64 ou] 25)).cell? ⟨w.heap.size, 0, none⟩ = some (.int .i64 7) := cell_new _ _ _ _ 0 rfl
  have hl' : n ≤ 1024 := by omega
  clear h hn hc hl
  go_enter Tryd.func13, Tryd.ntmps13
  go_wp2_with fail; refine (CK.out _ K0.out).mono ?_; rintro e w1 ⟨rfl, k1⟩
  have d0 := k1.some b0
  have K1 := Lib.hid (K0.out.trans k1)
  clear k1 b0
  go_wp2
  go_loopw [6, 5] (fun i v wr => ∃ (k m : Nat) (a' : Option Addr) (c' : Nat), k ≤ n ∧ i = .int .i64 k ∧ v = .slice a' m c' ∧ m = k ∧ wr.ownsRow w.heap.size 28 3 (.slice a' m c') (givesI (s.take k)).length (flatA (givesI (s.take k))) ∧ Kept w wr) (fun i _ _ => n - (intOf i).toNat)
  case atStart => exact ⟨0, 0, none, 0, Nat.zero_le _, rfl, rfl, rfl, World.ownsRow_nil _ _ _ _, K1.out⟩
  case round =>
    obtain ⟨k, m, a', c', hkn, rfl, rfl, hm, hown, hk⟩ := hrel
    have hsz := hk.size
    have hL : m = (givesI (s.take k)).length := by rw [givesI_len, List.length_take, ← HN.out]; omega
    by_cases hlt : k < n
    · obtain ⟨x, hx⟩ : ∃ x, s[k]? = some x := ⟨_, List.getElem?_eq_getElem (by rw [← HN.out]; omega)⟩
      obtain ⟨g, o, rfl, c0⟩ := CE.out _ hk k x hx
      obtain ⟨a1, c1, w2, hr, own1, but1⟩ := ans_app (L := givesI (s.take k)) hown hsz (by omega) [⟨0, x, 0⟩] (by simp) #[.int .i64 0, .int .i64 x, .int .u64 0] (by rfl) m 1 hL rfl
      have KE1 := Lib.hid (show Kept w w2 from hk.wrote but1 (fun j hj => (hown.lt j hj).1))
      have OW1 := Lib.hid (show w2.ownsRow w.heap.size 28 3 (.slice a1 (m + 1) c1) (givesI (s.take (k + 1))).length (flatA (givesI (s.take (k + 1)))) by
        rw [givesI_take hx, List.length_append, ← hL]; exact own1)
      have HM := Lib.hid hm
      clear hown hm hL own1 but1 hx hk
      go_wp2
      go_roundw
      case rel => exact ⟨k + 1, _, _, _, by omega, by go_num, rfl, by rw [HM.out], OW1.out, KE1.out⟩
      case measure => simp [intOf]; omega
    · obtain rfl : k = n := by omega
      have hall : s.take k = s := by rw [HN.out]; exact List.take_length
      rw [hall] at hown hL
      obtain ⟨a1, c1, w2, hr, own1, but1⟩ := ans_app (L := givesI s) hown hsz (by rw [← hL]; omega) [⟨7, 0, 0⟩, ⟨12, 0, 0⟩] (by simp) #[.int .i64 7, .int .i64 0, .int .u64 0, .int .i64 12, .int .i64 0, .int .u64 0] (by rfl) m 2 hL rfl
      have KE1 := Lib.hid (show Kept w w2 from hk.wrote but1 (fun j hj => (hown.lt j hj).1))
      have RT := Lib.hid (show RetA w (givesI s ++ [⟨7, 0, 0⟩, ⟨12, 0, 0⟩]) (.returned (.slice a1 (m + 2) c1)) w2 by
        have e : (givesI s ++ [(⟨7, 0, 0⟩ : Ann), ⟨12, 0, 0⟩]).length = m + 2 := by rw [List.length_append, ← hL]; rfl
        refine ⟨a1, c1, by rw [e], KE1.out, ?_⟩
        rw [e]
        show w2.ownsRow w.heap.size 28 3 _ (givesI s ++ [(⟨7, 0, 0⟩ : Ann), ⟨12, 0, 0⟩]).length _
        rw [e]
        exact own1)
      have HM := Lib.hid hm
      clear hown hm hL own1 but1 hk hall
      go_wp2
      go_ret
      rw [HA.out]
      exact RT.out

/-- One answer is told. -/
theorem ret_single {w W1 : World} {L : List Ann} {x : Ann} {a : Option Addr} {c : Nat} (hL : L = [x]) (hk : Kept w W1) (ho : W1.ownsRow w.heap.size 28 3 (.slice a 1 c) 1 (flatA ([] ++ [x]))) : RetA w L (.returned (.slice a 1 c)) W1 := by
  subst hL
  exact ⟨a, c, rfl, hk, ho⟩

set_option maxRecDepth 100000 in
set_option maxHeartbeats 8000000 in
theorem refAll_free {w : World} {a : Option Addr} {n c : Nat} {s : List Int} (h : Lay w (.slice a n c) n (ints s)) (hn : n = s.length) (hc : chk s = 0) (oa ob ou : Int) :
    Calls Tryd.prog 13 #[.slice a n c, .agg #[.int .i64 8, .int .i64 oa, .int .i64 ob, .int .u64 ou]] w (RetA w (allS s ⟨8, oa, ob, ou⟩)) := by
  have HA := Lib.hid (show allS s ⟨8, oa, ob, ou⟩ = [⟨freed (setOf s) oa, 0, 0⟩] by simp [allS, hc, outs])
  have CK := Lib.hid (fun W (k : Kept w W) => refCheck_any (h.kept k) hn)
  rw [hc] at CK
  have K0 := Lib.hid (show Kept w (w.alloc (.cells #[.int .i64 8, .int .i64 oa, .int .i64 ob, .int .u64 ou] 25)) from (Kept.refl w).alloc _ _)
  have BO := OpBox.new w ⟨8, oa, ob, ou⟩ 25 w.heap.size rfl
  have b0 := BO.c0
  have b1 := BO.c1
  have AM := Lib.hid (fun W (k : Kept w W) (x : Int) => among_any (h.kept k) hn x)
  have AP := Lib.hid (fun W (k : Kept w W) (x : Ann) (cs : Array Value) (hcs : cs = (flatA [x]).toArray) => show ∃ a c w1, (appSem #[33, 33] 33 #[.slice none 0 0, .slice (some ⟨W.heap.size, 0, none⟩) 1 1]).run Tryd.prog (W.alloc (.cells cs 28)) = .ok (.slice a 1 c) w1 ∧ Kept w w1 ∧ w1.ownsRow w.heap.size 28 3 (.slice a 1 c) 1 (flatA ([] ++ [x])) by
    obtain ⟨a, c, w1, h1, h2, h3⟩ := ans_app (W := W) (N := w.heap.size) (v := .slice none 0 0) (L := []) (World.ownsRow_nil _ _ _ _) k.size (by simp) [x] (by simp) cs hcs 0 1 rfl rfl
    exact ⟨a, c, w1, h1, k.wrote h3 (fun j hj => by cases hj), h2⟩)
  cases hq : noIdx oa with
  | true =>
    have HF := Lib.hid (show allS s ⟨8, oa, ob, ou⟩ = [⟨3, 0, 0⟩] by rw [HA.out]; simp [freed, hq])
    have IX := Lib.hid (fun W => index_S oa W)
    rw [hq] at IX
    clear h hn hc hq BO
    go_enter Tryd.func13, Tryd.ntmps13
    go_wp2_with fail; refine (CK.out _ K0.out).mono ?_; rintro e w1 ⟨rfl, k1⟩
    have d0 := k1.some b0
    have d1 := k1.some b1
    have K1 := Lib.hid (K0.out.trans k1)
    clear k1 b0 b1
    go_wp2_with fail; refine (IX.out _).mono ?_; rintro e w2 ⟨rfl, rfl⟩
    obtain ⟨a3, c3, w3, hr, K3, O3⟩ := AP.out _ K1.out ⟨3, 0, 0⟩ #[.int .i64 3, .int .i64 0, .int .u64 0] rfl
    have RT := Lib.hid (ret_single HF.out K3 O3)
    clear K3 O3
    go_wp2
    go_ret
    exact RT.out
  | false =>
    obtain ⟨i, hi, rfl⟩ := noIdx_iff.1 hq
    have IX := Lib.hid (fun W => index_S (i : Int) W)
    rw [hq] at IX
    cases hm : setOf s i with
    | true =>
      have HF := Lib.hid (show allS s ⟨8, i, ob, ou⟩ = [⟨8, 0, 0⟩] by rw [HA.out]; simp [freed, hq, hm])
      have AM1 := Lib.hid (fun W (k : Kept w W) => AM.out W k i)
      rw [show decide ((i : Int) ∈ s) = setOf s i from rfl, hm] at AM1
      clear h hn hc hq BO hm
      go_enter Tryd.func13, Tryd.ntmps13
      go_wp2_with fail; refine (CK.out _ K0.out).mono ?_; rintro e w1 ⟨rfl, k1⟩
      have d0 := k1.some b0
      have d1 := k1.some b1
      have K1 := Lib.hid (K0.out.trans k1)
      clear k1 b0 b1
      go_wp2_with fail; refine (IX.out _).mono ?_; rintro e w2 ⟨rfl, rfl⟩
      go_wp2_with fail; refine (AM1.out _ K1.out).mono ?_; rintro e w2 ⟨rfl, rfl⟩
      obtain ⟨a3, c3, w3, hr, K3, O3⟩ := AP.out _ K1.out ⟨8, 0, 0⟩ #[.int .i64 8, .int .i64 0, .int .u64 0] rfl
      have RT := Lib.hid (ret_single HF.out K3 O3)
      clear K3 O3
      go_wp2
      go_ret
      exact RT.out
    | false =>
      have HF := Lib.hid (show allS s ⟨8, i, ob, ou⟩ = [⟨0, 0, 0⟩] by rw [HA.out]; simp [freed, hq, hm])
      have AM1 := Lib.hid (fun W (k : Kept w W) => AM.out W k i)
      rw [show decide ((i : Int) ∈ s) = setOf s i from rfl, hm] at AM1
      clear h hn hc hq BO hm
      go_enter Tryd.func13, Tryd.ntmps13
      go_wp2_with fail; refine (CK.out _ K0.out).mono ?_; rintro e w1 ⟨rfl, k1⟩
      have d0 := k1.some b0
      have d1 := k1.some b1
      have K1 := Lib.hid (K0.out.trans k1)
      clear k1 b0 b1
      go_wp2_with fail; refine (IX.out _).mono ?_; rintro e w2 ⟨rfl, rfl⟩
      go_wp2_with fail; refine (AM1.out _ K1.out).mono ?_; rintro e w2 ⟨rfl, rfl⟩
      obtain ⟨a3, c3, w3, hr, K3, O3⟩ := AP.out _ K1.out ⟨0, 0, 0⟩ #[.int .i64 0, .int .i64 0, .int .u64 0] rfl
      have RT := Lib.hid (ret_single HF.out K3 O3)
      clear K3 O3
      go_wp2
      go_ret
      exact RT.out

set_option maxHeartbeats 2000000 in
theorem refAll_S {w : World} {a : Option Addr} {n c : Nat} {s : List Int} (h : Lay w (.slice a n c) n (ints s)) (hn : n = s.length) (o : Opn) :
    Calls Tryd.prog 13 #[.slice a n c, .agg #[.int .i64 o.k, .int .i64 o.a, .int .i64 o.b, .int .u64 o.u]] w (RetA w (allS s o)) := by
  obtain ⟨ok, oa, ob, ou⟩ := o
  have CK := Lib.hid (fun W (k : Kept w W) => refCheck_any (h.kept k) hn)
  have K0 := Lib.hid (show Kept w (w.alloc (.cells #[.int .i64 ok, .int .i64 oa, .int .i64 ob, .int .u64 ou] 25)) from (Kept.refl w).alloc _ _)
  by_cases hc : chk s = 0
  · by_cases h7 : ok = 7
    · subst h7; exact refAll_alloc h hn hc oa ob ou
    · by_cases h8 : ok = 8
      · subst h8; exact refAll_free h hn hc oa ob ou
      · have HA := Lib.hid (show allS s ⟨ok, oa, ob, ou⟩ = [] by simp [allS, outs, h7, h8])
        have d7 : (ok == 7) = false := by simpa using h7
        have d8 : (ok != 8) = true := by simpa using h8
        have b0 : (w.alloc (.cells #[.int .i64 ok, .int .i64 oa, .int .i64 ob, .int .u64 ou] 25)).cell? ⟨w.heap.size, 0, none⟩ = some (.int .i64 ok) := cell_new _ _ _ _ 0 rfl
        rw [hc] at CK
        clear h hn hc h7 h8
        go_enter Tryd.func13, Tryd.ntmps13
        go_wp2_with fail; refine (CK.out _ K0.out).mono ?_; rintro e w1 ⟨rfl, k1⟩
        have d0 := k1.some b0
        have K1 := Lib.hid (K0.out.trans k1)
        clear k1 b0
        go_wp2
        go_ret
        rw [HA.out]
        exact ⟨none, 0, rfl, K1.out, World.ownsRow_nil _ _ _ _⟩
  · have HA := Lib.hid (show allS s ⟨ok, oa, ob, ou⟩ = [] by simp [allS, hc])
    have d0 : (chk s != 0) = true := by simpa using hc
    clear h hn hc
    go_enter Tryd.func13, Tryd.ntmps13
    go_wp2_with fail; refine (CK.out _ K0.out).mono ?_; rintro e w1 ⟨rfl, k1⟩
    go_wp2
    go_ret
    rw [HA.out]
    exact ⟨none, 0, rfl, K0.out.trans k1, World.ownsRow_nil _ _ _ _⟩
end Go.Proofs.YtlkadickhhaakaaDoor
