/- The document's answer: Check, does, Answer, Next. -/
import Derived.Test.YtpmalbdnjpbijaaFiKit
import Derived.Test.YtpmalbdnjpbijaaFiNext2
import Derived.Deep.RegionHeld3
import Derived.RegionTactic
import Derived.ChangeAlike
namespace Go.Proofs.Ytpmalbdnjpbijaa
open Go.RowKit

/-- 'append' under a name that the walk leaves alone. -/
def appSem (ts : Array TypeId) (ty : TypeId) (args : Array Value) : Sem Value := Builtin.append_ ts ty args
theorem app_named (ts : Array TypeId) (ty : TypeId) (args : Array Value) : Builtin.append_ ts ty args = appSem ts ty args := rfl
attribute [local go_sem ↓] app_named

set_option maxHeartbeats 1000000 in
theorem refCheck_any (w : World) (room : Int) (a : Option Addr) (n c : Nat) : Calls Try.prog 16 #[.int .i64 room, .slice a n c] w fun e w' => e = .returned (.int .i64 (chkF room n)) ∧ w = w' := by
  by_cases h1 : room < 1
  · rw [chk_lo h1]
    go_enter Try.func16, Try.ntmps16
    go_wp2
    go_ret
    exact ⟨rfl, rfl⟩
  by_cases h2 : 1024 < room
  · rw [chk_hi h2]
    go_enter Try.func16, Try.ntmps16
    go_wp2
    go_ret
    exact ⟨rfl, rfl⟩
  by_cases h3 : room < n
  · rw [chk_full h1 h2 h3]
    go_enter Try.func16, Try.ntmps16
    go_wp2
    go_ret
    exact ⟨rfl, rfl⟩
  · rw [chk_ok h1 h2 h3]
    go_enter Try.func16, Try.ntmps16
    go_wp2
    go_ret
    exact ⟨rfl, rfl⟩
theorem refCheck_at {w : World} {room : Int} {a : Option Addr} {n c : Nat} {x : Int} (h : chkF room n = x) : Calls Try.prog 16 #[.int .i64 room, .slice a n c] w fun e w' => e = .returned (.int .i64 x) ∧ w = w' := by
  subst h; exact refCheck_any w room a n c

/-- An answer, a list in new memory, a bool. -/
def RetX (w : World) (x : Ann) (q : List Int) (y : Bool) (e : Ending) (w' : World) : Prop :=
  ∃ a c, e = .returned (.tuple #[.agg #[.int .i64 x.e, .int .i64 x.n, .int .u64 x.v], .slice a q.length c, .bool y]) ∧ Kept w w' ∧ Lay w' (.slice a q.length c) q.length (words q) ∧
    ∀ g, (Value.slice a q.length c).ownBlock = some g → w.heap.size ≤ g ∧ g < w'.heap.size
/-- A function whose results are an answer in a variable, and two more. -/
theorem ans_result3 {fn : Func} {tmps : Array Value} {n m m' b : Nat} {w : World} {x : Ann} {v v' : Value} (hr : fn.results = #[.cell n 28, .tmp m, .tmp m']) (ht : tmps.getD n undef = .pointer (some ⟨b, 0, none⟩)) (hm : tmps.getD m undef = v) (hm' : tmps.getD m' undef = v') (h : AnBox w b x) :
    (results fn tmps).run Try.prog w = .ok (.tuple #[.agg #[.int .i64 x.e, .int .i64 x.n, .int .u64 x.v], v, v']) w := by
  have hv := an_var h
  have ht' : tmps[n]?.getD undef = .pointer (some ⟨b, 0, none⟩) := by simpa using ht
  have hm1 : tmps[m]?.getD undef = v := by simpa using hm
  have hm2 : tmps[m']?.getD undef = v' := by simpa using hm'
  unfold results
  rw [hr]
  simp [ht', hm1, hm2, asAddr, hv]
theorem AnBox.puts {b : Nat} {W W' : World} (h : AnBox W b noAnn) (x : Ann) (he : (((W.setCell ⟨b, 0, none⟩ (.int .i64 x.e)).setCell ⟨b, 1, none⟩ (.int .i64 x.n)).setCell ⟨b, 2, none⟩ (.int .u64 x.v)) = W') : AnBox W' b x := by
  subst he; exact h.put x
theorem copyWords_n {w : World} {v : Value} {q : List Int} {n : Nat} (h : Lay w v q.length (words q)) (hn : n = q.length) (hl : q.length ≤ 100000) :
    Calls Try.prog 9 #[v] w fun e w' => ∃ a c, e = .returned (.slice a n c) ∧ Kept w w' ∧ w'.ownsRow w.heap.size 23 1 (.slice a n c) n (words q) := by
  subst hn; exact copyWords_any h hl
section
variable {w w1 : World} {b n c : Nat} {x : Ann} {q : List Int} {a : Option Addr} {y : Bool}
theorem RetX.put (k : Kept w w1) (hb : w.heap.size ≤ b) (L : Lay w1 (.slice a n c) n (words q)) (hn : n = q.length) (fr : ∀ g, (Value.slice a n c).ownBlock = some g → b < g ∧ g < w1.heap.size) :
    RetX w x q y (.returned (.tuple #[.agg #[.int .i64 x.e, .int .i64 x.n, .int .u64 x.v], .slice a n c, .bool y])) (((w1.setCell ⟨b, 0, none⟩ (.int .i64 x.e)).setCell ⟨b, 1, none⟩ (.int .i64 x.n)).setCell ⟨b, 2, none⟩ (.int .u64 x.v)) := by
  subst hn
  have B : But (fun j => j = b) w1 (((w1.setCell ⟨b, 0, none⟩ (.int .i64 x.e)).setCell ⟨b, 1, none⟩ (.int .i64 x.n)).setCell ⟨b, 2, none⟩ (.int .u64 x.v)) := (((But.refl _ _).here _ _).here _ _).here _ _
  exact ⟨a, c, rfl, k.wrote1 B hb, L.but B (fun g hg e => by have := (fr g hg).1; omega), fun g hg => ⟨by have := (fr g hg).1; omega, Nat.lt_of_lt_of_le (fr g hg).2 B.size⟩⟩
end
theorem RetX.after {w W W' : World} {x : Ann} {q : List Int} {y : Bool} {e : Ending} (h : RetX w x q y e W) (k : Kept W W') : RetX w x q y e W' := by
  obtain ⟨a, c, h1, h2, h3, h4⟩ := h
  exact ⟨a, c, h1, h2.trans k, h3.kept k, fun g hg => ⟨(h4 g hg).1, Nat.lt_of_lt_of_le (h4 g hg).2 k.size⟩⟩
theorem own_fresh {w : World} {base b : Nat} {e : TypeId} {m : Nat} {v : Value} {n : Nat} {xs : List Value} (h : w.ownsRow base e m v n xs) (hb : b < base) : ∀ g, v.ownBlock = some g → b < g ∧ g < w.heap.size :=
  fun g hg => ⟨Nat.lt_of_lt_of_le hb (h.lt g hg).1, (h.lt g hg).2⟩

set_option maxRecDepth 100000 in
set_option maxHeartbeats 4000000 in
theorem refDoes_bad {w : World} {a : Option Addr} {c : Nat} {q : List Int} {room : Int} {o : Opn} (hl : Lay w (.slice a q.length c) q.length (words q)) (hq : q.length ≤ 5000) {x : Int} (hz : chkF room q.length = x) (hx : x ≠ 0) :
    Calls Try.prog 30 #[.int .i64 room, .slice a q.length c, .agg #[.int .i64 o.k, .int .i64 o.a, .int .i64 o.b, .int .u64 o.u]] w (RetX w noAnn [] false) := by
  obtain ⟨W0, hW0⟩ : ∃ W0, ((w.alloc (.cells #[.int .i64 o.k, .int .i64 o.a, .int .i64 o.b, .int .u64 o.u] 25)).alloc (.cells #[.int .i64 0, .int .i64 0, .int .u64 0] 28)) = W0 := ⟨_, rfl⟩
  have OB := Lib.hid (show OpBox W0 w.heap.size o by rw [← hW0]; exact (OpBox.new w o _ _ rfl).kept ((Kept.refl _).alloc _ _))
  have AB := Lib.hid (show AnBox W0 (w.heap.size + 1) noAnn by rw [← hW0]; exact AnBox.new _ noAnn _ _ (by simp))
  have K0 := Lib.hid (show Kept w W0 by rw [← hW0]; exact ((Kept.refl w).alloc _ _).alloc _ _)
  have CK := Lib.hid (fun W => refCheck_at (w := W) (a := a) (c := c) hz)
  have HW := Lib.hid hW0
  have HL := Lib.hid hl
  have b1 : (x != 0) = true := by simpa using hx
  clear hz hx
  obtain ⟨n, hn⟩ : ∃ n, n = q.length := ⟨_, rfl⟩
  have HN := Lib.hid hn
  have CW := Lib.hid (copyWords_n (hl.kept K0.out) hn (by omega))
  rw [← hn] at CK hq
  rw [← hn] at CW
  rw [← hn]
  clear hl hn hW0
  go_enter Try.func30, Try.ntmps30
  go_upto_region 1 with fail
  rw [HW.out]
  go_wp2_with fail
  refine CW.out.mono ?_
  rintro e w1 ⟨a1, c1, rfl, k1, own1⟩
  have K1 := Lib.hid (K0.out.trans k1)
  have Z1 := Lib.hid k1.size
  have O1 := Lib.hid own1
  obtain ⟨o0, o1, o2, o3⟩ := OB.out.kept k1
  have A1 := Lib.hid (AB.out.kept k1)
  obtain ⟨a0, a1', a2, sA⟩ := A1.out
  have s0 := sA 0
  have s1 := sA 1
  have s2 := sA 2
  clear k1 own1 sA
  go_wp2_with fail
  refine (CK.out _).mono ?_
  rintro e w2 ⟨rfl, rfl⟩
  go_wp2
  exact bodyPost_ret (ans_result3 Try.results30 rfl rfl rfl (A1.out.put noAnn)) rfl (RetX.put (x := noAnn) K1.out (by omega) (.inl (.inl ⟨rfl, rfl, rfl⟩)) rfl (fun g hg => by cases hg))

set_option maxRecDepth 100000 in
set_option maxHeartbeats 4000000 in
theorem refDoes_lo {w : World} {a : Option Addr} {c : Nat} {q : List Int} {room : Int} {o : Opn} (hl : Lay w (.slice a q.length c) q.length (words q)) (hq : q.length ≤ 5000) (hz : chkF room q.length = 0) (h1 : o.k < 1) :
    Calls Try.prog 30 #[.int .i64 room, .slice a q.length c, .agg #[.int .i64 o.k, .int .i64 o.a, .int .i64 o.b, .int .u64 o.u]] w (RetX w noAnn [] false) := by
  obtain ⟨W0, hW0⟩ : ∃ W0, ((w.alloc (.cells #[.int .i64 o.k, .int .i64 o.a, .int .i64 o.b, .int .u64 o.u] 25)).alloc (.cells #[.int .i64 0, .int .i64 0, .int .u64 0] 28)) = W0 := ⟨_, rfl⟩
  have OB := Lib.hid (show OpBox W0 w.heap.size o by rw [← hW0]; exact (OpBox.new w o _ _ rfl).kept ((Kept.refl _).alloc _ _))
  have AB := Lib.hid (show AnBox W0 (w.heap.size + 1) noAnn by rw [← hW0]; exact AnBox.new _ noAnn _ _ (by simp))
  have K0 := Lib.hid (show Kept w W0 by rw [← hW0]; exact ((Kept.refl w).alloc _ _).alloc _ _)
  have CK := Lib.hid (fun W => refCheck_at (w := W) (a := a) (c := c) hz)
  have HW := Lib.hid hW0
  have HL := Lib.hid hl
  have hk := h1
  clear hz
  obtain ⟨n, hn⟩ : ∃ n, n = q.length := ⟨_, rfl⟩
  have HN := Lib.hid hn
  have CW := Lib.hid (copyWords_n (hl.kept K0.out) hn (by omega))
  rw [← hn] at CK hq
  rw [← hn] at CW
  rw [← hn]
  clear hl hn hW0
  go_enter Try.func30, Try.ntmps30
  go_upto_region 1 with fail
  rw [HW.out]
  go_wp2_with fail
  refine CW.out.mono ?_
  rintro e w1 ⟨a1, c1, rfl, k1, own1⟩
  have K1 := Lib.hid (K0.out.trans k1)
  have Z1 := Lib.hid k1.size
  have O1 := Lib.hid own1
  obtain ⟨o0, o1, o2, o3⟩ := OB.out.kept k1
  have A1 := Lib.hid (AB.out.kept k1)
  obtain ⟨a0, a1', a2, sA⟩ := A1.out
  have s0 := sA 0
  have s1 := sA 1
  have s2 := sA 2
  clear k1 own1 sA
  go_wp2_with fail
  refine (CK.out _).mono ?_
  rintro e w2 ⟨rfl, rfl⟩
  go_wp2
  exact bodyPost_ret (ans_result3 Try.results30 rfl rfl rfl (A1.out.put noAnn)) rfl (RetX.put (x := noAnn) K1.out (by omega) (.inl (.inl ⟨rfl, rfl, rfl⟩)) rfl (fun g hg => by cases hg))

set_option maxRecDepth 100000 in
set_option maxHeartbeats 4000000 in
theorem refDoes_hi {w : World} {a : Option Addr} {c : Nat} {q : List Int} {room : Int} {o : Opn} (hl : Lay w (.slice a q.length c) q.length (words q)) (hq : q.length ≤ 5000) (hz : chkF room q.length = 0) (h1 : 3 < o.k) :
    Calls Try.prog 30 #[.int .i64 room, .slice a q.length c, .agg #[.int .i64 o.k, .int .i64 o.a, .int .i64 o.b, .int .u64 o.u]] w (RetX w noAnn [] false) := by
  obtain ⟨W0, hW0⟩ : ∃ W0, ((w.alloc (.cells #[.int .i64 o.k, .int .i64 o.a, .int .i64 o.b, .int .u64 o.u] 25)).alloc (.cells #[.int .i64 0, .int .i64 0, .int .u64 0] 28)) = W0 := ⟨_, rfl⟩
  have OB := Lib.hid (show OpBox W0 w.heap.size o by rw [← hW0]; exact (OpBox.new w o _ _ rfl).kept ((Kept.refl _).alloc _ _))
  have AB := Lib.hid (show AnBox W0 (w.heap.size + 1) noAnn by rw [← hW0]; exact AnBox.new _ noAnn _ _ (by simp))
  have K0 := Lib.hid (show Kept w W0 by rw [← hW0]; exact ((Kept.refl w).alloc _ _).alloc _ _)
  have CK := Lib.hid (fun W => refCheck_at (w := W) (a := a) (c := c) hz)
  have HW := Lib.hid hW0
  have HL := Lib.hid hl
  have h2 : ¬ o.k < 1 := by omega
  clear hz
  obtain ⟨n, hn⟩ : ∃ n, n = q.length := ⟨_, rfl⟩
  have HN := Lib.hid hn
  have CW := Lib.hid (copyWords_n (hl.kept K0.out) hn (by omega))
  rw [← hn] at CK hq
  rw [← hn] at CW
  rw [← hn]
  clear hl hn hW0
  go_enter Try.func30, Try.ntmps30
  go_upto_region 1 with fail
  rw [HW.out]
  go_wp2_with fail
  refine CW.out.mono ?_
  rintro e w1 ⟨a1, c1, rfl, k1, own1⟩
  have K1 := Lib.hid (K0.out.trans k1)
  have Z1 := Lib.hid k1.size
  have O1 := Lib.hid own1
  obtain ⟨o0, o1, o2, o3⟩ := OB.out.kept k1
  have A1 := Lib.hid (AB.out.kept k1)
  obtain ⟨a0, a1', a2, sA⟩ := A1.out
  have s0 := sA 0
  have s1 := sA 1
  have s2 := sA 2
  clear k1 own1 sA
  go_wp2_with fail
  refine (CK.out _).mono ?_
  rintro e w2 ⟨rfl, rfl⟩
  go_wp2
  exact bodyPost_ret (ans_result3 Try.results30 rfl rfl rfl (A1.out.put noAnn)) rfl (RetX.put (x := noAnn) K1.out (by omega) (.inl (.inl ⟨rfl, rfl, rfl⟩)) rfl (fun g hg => by cases hg))

set_option maxRecDepth 100000 in
set_option maxHeartbeats 4000000 in
theorem refDoes_full {w : World} {a : Option Addr} {c : Nat} {q : List Int} {room : Int} {o : Opn} (hl : Lay w (.slice a q.length c) q.length (words q)) (hq : q.length ≤ 5000) (hz : chkF room q.length = 0) (hk : o.k = 1) (hr : (q.length : Int) = room) :
    Calls Try.prog 30 #[.int .i64 room, .slice a q.length c, .agg #[.int .i64 o.k, .int .i64 o.a, .int .i64 o.b, .int .u64 o.u]] w (RetX w ⟨7, 0, 0⟩ q true) := by
  obtain ⟨W0, hW0⟩ : ∃ W0, ((w.alloc (.cells #[.int .i64 o.k, .int .i64 o.a, .int .i64 o.b, .int .u64 o.u] 25)).alloc (.cells #[.int .i64 0, .int .i64 0, .int .u64 0] 28)) = W0 := ⟨_, rfl⟩
  have OB := Lib.hid (show OpBox W0 w.heap.size o by rw [← hW0]; exact (OpBox.new w o _ _ rfl).kept ((Kept.refl _).alloc _ _))
  have AB := Lib.hid (show AnBox W0 (w.heap.size + 1) noAnn by rw [← hW0]; exact AnBox.new _ noAnn _ _ (by simp))
  have K0 := Lib.hid (show Kept w W0 by rw [← hW0]; exact ((Kept.refl w).alloc _ _).alloc _ _)
  have CK := Lib.hid (fun W => refCheck_at (w := W) (a := a) (c := c) hz)
  have HW := Lib.hid hW0
  have HL := Lib.hid hl
  have HK := Lib.hid hk
  clear hk hz
  have HR := Lib.hid hr
  obtain ⟨n, hn⟩ : ∃ n, n = q.length := ⟨_, rfl⟩
  have HN := Lib.hid hn
  have CW := Lib.hid (copyWords_n (hl.kept K0.out) hn (by omega))
  rw [← hn] at CK hq
  rw [← hn] at CW
  have hr' : (n : Int) = room := by rw [hn]; exact hr
  have hr := hr'
  clear hr'
  rw [← hn]
  clear hl hn hW0
  go_enter Try.func30, Try.ntmps30
  go_upto_region 1 with fail
  rw [HW.out]
  go_wp2_with fail
  refine CW.out.mono ?_
  rintro e w1 ⟨a1, c1, rfl, k1, own1⟩
  have K1 := Lib.hid (K0.out.trans k1)
  have Z1 := Lib.hid k1.size
  have O1 := Lib.hid own1
  obtain ⟨o0, o1, o2, o3⟩ := OB.out.kept k1
  have A1 := Lib.hid (AB.out.kept k1)
  obtain ⟨a0, a1', a2, sA⟩ := A1.out
  have s0 := sA 0
  have s1 := sA 1
  have s2 := sA 2
  rw [HK.out] at o0
  clear k1 own1 sA
  go_wp2_with fail
  refine (CK.out _).mono ?_
  rintro e w2 ⟨rfl, rfl⟩
  go_wp2
  exact bodyPost_ret (ans_result3 Try.results30 rfl rfl rfl (A1.out.put ⟨7, 0, 0⟩)) rfl (RetX.put (x := ⟨7, 0, 0⟩) K1.out (by omega) (own_lies O1.out).lay HN.out (own_fresh O1.out (by have := K0.out.size; have := lt_of_cell AB.out.c0; omega)))

set_option maxRecDepth 100000 in
set_option maxHeartbeats 4000000 in
theorem refDoes_front_none {w : World} {a : Option Addr} {c : Nat} {q : List Int} {room : Int} {o : Opn} (hl : Lay w (.slice a q.length c) q.length (words q)) (hq : q.length ≤ 5000) (hz : chkF room q.length = 0) (hk : o.k = 2) (he : q = []) :
    Calls Try.prog 30 #[.int .i64 room, .slice a q.length c, .agg #[.int .i64 o.k, .int .i64 o.a, .int .i64 o.b, .int .u64 o.u]] w (RetX w ⟨15, 0, 0⟩ q true) := by
  obtain ⟨W0, hW0⟩ : ∃ W0, ((w.alloc (.cells #[.int .i64 o.k, .int .i64 o.a, .int .i64 o.b, .int .u64 o.u] 25)).alloc (.cells #[.int .i64 0, .int .i64 0, .int .u64 0] 28)) = W0 := ⟨_, rfl⟩
  have OB := Lib.hid (show OpBox W0 w.heap.size o by rw [← hW0]; exact (OpBox.new w o _ _ rfl).kept ((Kept.refl _).alloc _ _))
  have AB := Lib.hid (show AnBox W0 (w.heap.size + 1) noAnn by rw [← hW0]; exact AnBox.new _ noAnn _ _ (by simp))
  have K0 := Lib.hid (show Kept w W0 by rw [← hW0]; exact ((Kept.refl w).alloc _ _).alloc _ _)
  have CK := Lib.hid (fun W => refCheck_at (w := W) (a := a) (c := c) hz)
  have HW := Lib.hid hW0
  have HL := Lib.hid hl
  have HK := Lib.hid hk
  clear hk hz
  obtain ⟨n, hn⟩ : ∃ n, n = q.length := ⟨_, rfl⟩
  have HN := Lib.hid hn
  have CW := Lib.hid (copyWords_n (hl.kept K0.out) hn (by omega))
  rw [← hn] at CK hq
  rw [← hn] at CW
  have HE := Lib.hid he
  rw [← hn]
  obtain rfl : n = 0 := by rw [hn, he]; rfl
  clear he
  clear hl hn hW0
  go_enter Try.func30, Try.ntmps30
  go_upto_region 1 with fail
  rw [HW.out]
  go_wp2_with fail
  refine CW.out.mono ?_
  rintro e w1 ⟨a1, c1, rfl, k1, own1⟩
  have K1 := Lib.hid (K0.out.trans k1)
  have Z1 := Lib.hid k1.size
  have O1 := Lib.hid own1
  obtain ⟨o0, o1, o2, o3⟩ := OB.out.kept k1
  have A1 := Lib.hid (AB.out.kept k1)
  obtain ⟨a0, a1', a2, sA⟩ := A1.out
  have s0 := sA 0
  have s1 := sA 1
  have s2 := sA 2
  rw [HK.out] at o0
  clear k1 own1 sA
  go_wp2_with fail
  refine (CK.out _).mono ?_
  rintro e w2 ⟨rfl, rfl⟩
  go_wp2
  exact bodyPost_ret (ans_result3 Try.results30 rfl rfl rfl (A1.out.put ⟨15, 0, 0⟩)) rfl (RetX.put (x := ⟨15, 0, 0⟩) K1.out (by omega) (own_lies O1.out).lay HN.out (own_fresh O1.out (by have := K0.out.size; have := lt_of_cell AB.out.c0; omega)))

set_option maxRecDepth 100000 in
set_option maxHeartbeats 4000000 in
theorem refDoes_drop_none {w : World} {a : Option Addr} {c : Nat} {q : List Int} {room : Int} {o : Opn} (hl : Lay w (.slice a q.length c) q.length (words q)) (hq : q.length ≤ 5000) (hz : chkF room q.length = 0) (hk : o.k = 3) (he : q = []) :
    Calls Try.prog 30 #[.int .i64 room, .slice a q.length c, .agg #[.int .i64 o.k, .int .i64 o.a, .int .i64 o.b, .int .u64 o.u]] w (RetX w ⟨15, 0, 0⟩ q true) := by
  obtain ⟨W0, hW0⟩ : ∃ W0, ((w.alloc (.cells #[.int .i64 o.k, .int .i64 o.a, .int .i64 o.b, .int .u64 o.u] 25)).alloc (.cells #[.int .i64 0, .int .i64 0, .int .u64 0] 28)) = W0 := ⟨_, rfl⟩
  have OB := Lib.hid (show OpBox W0 w.heap.size o by rw [← hW0]; exact (OpBox.new w o _ _ rfl).kept ((Kept.refl _).alloc _ _))
  have AB := Lib.hid (show AnBox W0 (w.heap.size + 1) noAnn by rw [← hW0]; exact AnBox.new _ noAnn _ _ (by simp))
  have K0 := Lib.hid (show Kept w W0 by rw [← hW0]; exact ((Kept.refl w).alloc _ _).alloc _ _)
  have CK := Lib.hid (fun W => refCheck_at (w := W) (a := a) (c := c) hz)
  have HW := Lib.hid hW0
  have HL := Lib.hid hl
  have HK := Lib.hid hk
  clear hk hz
  obtain ⟨n, hn⟩ : ∃ n, n = q.length := ⟨_, rfl⟩
  have HN := Lib.hid hn
  have CW := Lib.hid (copyWords_n (hl.kept K0.out) hn (by omega))
  rw [← hn] at CK hq
  rw [← hn] at CW
  have HE := Lib.hid he
  rw [← hn]
  obtain rfl : n = 0 := by rw [hn, he]; rfl
  clear he
  clear hl hn hW0
  go_enter Try.func30, Try.ntmps30
  go_upto_region 1 with fail
  rw [HW.out]
  go_wp2_with fail
  refine CW.out.mono ?_
  rintro e w1 ⟨a1, c1, rfl, k1, own1⟩
  have K1 := Lib.hid (K0.out.trans k1)
  have Z1 := Lib.hid k1.size
  have O1 := Lib.hid own1
  obtain ⟨o0, o1, o2, o3⟩ := OB.out.kept k1
  have A1 := Lib.hid (AB.out.kept k1)
  obtain ⟨a0, a1', a2, sA⟩ := A1.out
  have s0 := sA 0
  have s1 := sA 1
  have s2 := sA 2
  rw [HK.out] at o0
  clear k1 own1 sA
  go_wp2_with fail
  refine (CK.out _).mono ?_
  rintro e w2 ⟨rfl, rfl⟩
  go_wp2
  exact bodyPost_ret (ans_result3 Try.results30 rfl rfl rfl (A1.out.put ⟨15, 0, 0⟩)) rfl (RetX.put (x := ⟨15, 0, 0⟩) K1.out (by omega) (own_lies O1.out).lay HN.out (own_fresh O1.out (by have := K0.out.size; have := lt_of_cell AB.out.c0; omega)))

set_option maxRecDepth 100000 in
set_option maxHeartbeats 4000000 in
theorem refDoes_front {w : World} {a : Option Addr} {c : Nat} {q : List Int} {room : Int} {o : Opn} (hl : Lay w (.slice a q.length c) q.length (words q)) (hq : q.length ≤ 5000) {v : Int} {r : List Int} (hz : chkF room q.length = 0) (hk : o.k = 2) (he : q = v :: r) :
    Calls Try.prog 30 #[.int .i64 room, .slice a q.length c, .agg #[.int .i64 o.k, .int .i64 o.a, .int .i64 o.b, .int .u64 o.u]] w (RetX w ⟨0, 0, v⟩ q true) := by
  obtain ⟨W0, hW0⟩ : ∃ W0, ((w.alloc (.cells #[.int .i64 o.k, .int .i64 o.a, .int .i64 o.b, .int .u64 o.u] 25)).alloc (.cells #[.int .i64 0, .int .i64 0, .int .u64 0] 28)) = W0 := ⟨_, rfl⟩
  have OB := Lib.hid (show OpBox W0 w.heap.size o by rw [← hW0]; exact (OpBox.new w o _ _ rfl).kept ((Kept.refl _).alloc _ _))
  have AB := Lib.hid (show AnBox W0 (w.heap.size + 1) noAnn by rw [← hW0]; exact AnBox.new _ noAnn _ _ (by simp))
  have K0 := Lib.hid (show Kept w W0 by rw [← hW0]; exact ((Kept.refl w).alloc _ _).alloc _ _)
  have CK := Lib.hid (fun W => refCheck_at (w := W) (a := a) (c := c) hz)
  have HW := Lib.hid hW0
  have HL := Lib.hid hl
  have HK := Lib.hid hk
  clear hk hz
  obtain ⟨n, hn⟩ : ∃ n, n = q.length := ⟨_, rfl⟩
  have HN := Lib.hid hn
  have CW := Lib.hid (copyWords_n (hl.kept K0.out) hn (by omega))
  rw [← hn] at CK hq
  rw [← hn] at CW
  have n0 : 0 < n := by rw [hn, he]; exact Nat.succ_pos _
  obtain ⟨g, off, cc, e, h1, h2, hcell⟩ := hl.word (by rw [← hn]; exact n0)
  cases e
  have w0 := hcell 0 v (by rw [he]; rfl)
  have w00 : w.cell? ⟨g, off, none⟩ = some (.int .u64 v) := w0
  clear hcell w0 he h1 h2
  rw [← hn]
  clear hl hn hW0
  go_enter Try.func30, Try.ntmps30
  go_upto_region 1 with fail
  rw [HW.out]
  go_wp2_with fail
  refine CW.out.mono ?_
  rintro e w1 ⟨a1, c1, rfl, k1, own1⟩
  have K1 := Lib.hid (K0.out.trans k1)
  have Z1 := Lib.hid k1.size
  have O1 := Lib.hid own1
  obtain ⟨o0, o1, o2, o3⟩ := OB.out.kept k1
  have A1 := Lib.hid (AB.out.kept k1)
  obtain ⟨a0, a1', a2, sA⟩ := A1.out
  have s0 := sA 0
  have s1 := sA 1
  have s2 := sA 2
  rw [HK.out] at o0
  have w10 := K1.out.some w00
  clear k1 own1 sA
  go_wp2_with fail
  refine (CK.out _).mono ?_
  rintro e w2 ⟨rfl, rfl⟩
  go_wp2
  exact bodyPost_ret (ans_result3 Try.results30 rfl rfl rfl (A1.out.put ⟨0, 0, v⟩)) rfl (RetX.put (x := ⟨0, 0, v⟩) K1.out (by omega) (own_lies O1.out).lay HN.out (own_fresh O1.out (by have := K0.out.size; have := lt_of_cell AB.out.c0; omega)))

set_option maxRecDepth 100000 in
set_option maxHeartbeats 4000000 in
theorem refDoes_drop {w : World} {a : Option Addr} {c : Nat} {q : List Int} {room : Int} {o : Opn} (hl : Lay w (.slice a q.length c) q.length (words q)) (hq : q.length ≤ 5000) {v : Int} {r : List Int} (hz : chkF room q.length = 0) (hk : o.k = 3) (he : q = v :: r) :
    Calls Try.prog 30 #[.int .i64 room, .slice a q.length c, .agg #[.int .i64 o.k, .int .i64 o.a, .int .i64 o.b, .int .u64 o.u]] w (RetX w ⟨0, 0, 0⟩ r true) := by
  obtain ⟨W0, hW0⟩ : ∃ W0, ((w.alloc (.cells #[.int .i64 o.k, .int .i64 o.a, .int .i64 o.b, .int .u64 o.u] 25)).alloc (.cells #[.int .i64 0, .int .i64 0, .int .u64 0] 28)) = W0 := ⟨_, rfl⟩
  have OB := Lib.hid (show OpBox W0 w.heap.size o by rw [← hW0]; exact (OpBox.new w o _ _ rfl).kept ((Kept.refl _).alloc _ _))
  have AB := Lib.hid (show AnBox W0 (w.heap.size + 1) noAnn by rw [← hW0]; exact AnBox.new _ noAnn _ _ (by simp))
  have K0 := Lib.hid (show Kept w W0 by rw [← hW0]; exact ((Kept.refl w).alloc _ _).alloc _ _)
  have CK := Lib.hid (fun W => refCheck_at (w := W) (a := a) (c := c) hz)
  have HW := Lib.hid hW0
  have HL := Lib.hid hl
  have HK := Lib.hid hk
  clear hk hz
  obtain ⟨n, hn⟩ : ∃ n, n = q.length := ⟨_, rfl⟩
  have HN := Lib.hid hn
  have CW := Lib.hid (copyWords_n (hl.kept K0.out) hn (by omega))
  rw [← hn] at CK hq
  rw [← hn] at CW
  have n0 : 0 < n := by rw [hn, he]; exact Nat.succ_pos _
  have HE := Lib.hid he
  have hr := hn
  clear hr he
  rw [← hn]
  clear hl hn hW0
  go_enter Try.func30, Try.ntmps30
  go_upto_region 1 with fail
  rw [HW.out]
  go_wp2_with fail
  refine CW.out.mono ?_
  rintro e w1 ⟨a1, c1, rfl, k1, own1⟩
  have K1 := Lib.hid (K0.out.trans k1)
  have Z1 := Lib.hid k1.size
  have O1 := Lib.hid own1
  obtain ⟨o0, o1, o2, o3⟩ := OB.out.kept k1
  have A1 := Lib.hid (AB.out.kept k1)
  obtain ⟨a0, a1', a2, sA⟩ := A1.out
  have s0 := sA 0
  have s1 := sA 1
  have s2 := sA 2
  rw [HK.out] at o0
  obtain ⟨g, off, cc, e, h1, h2, hcell⟩ := (own_lies own1).lay.at n0
  cases e
  have HC := Lib.hid hcell
  have OG := Lib.hid (own_fresh own1 (show w.heap.size + 1 < W0.heap.size from lt_of_cell AB.out.c0))
  unfold maxLen at h2
  clear k1 own1 sA hcell
  go_wp2_with fail
  refine (CK.out _).mono ?_
  rintro e w2 ⟨rfl, rfl⟩
  by_cases hcap : c1 = 1
  · subst hcap
    obtain rfl : n = 1 := by omega
    go_wp2
    go_region
    all_goals go_wp2
    have hr1 : r = [] := by
      have h1 := HN.out
      rw [HE.out] at h1
      exact List.eq_nil_of_length_eq_zero (by simpa using h1.symm)
    exact bodyPost_ret (ans_result3 Try.results30 rfl rfl rfl ((A1.out.put ⟨0, 0, 0⟩).kept (Kept.refl _).drew)) rfl
      (RetX.after (RetX.put (x := ⟨0, 0, 0⟩) K1.out (by omega) (.inr ⟨_, _, rfl, rfl, by rw [hr1]; rfl, by unfold maxLen; omega⟩) (by rw [hr1]; rfl) (fun g' hg => OG.out g' hg)) (Kept.refl _).drew)
  · go_wp2
    go_region
    all_goals go_wp2
    have hl1 : n - 1 = r.length := by have h1 := HN.out; rw [HE.out] at h1; simp at h1; omega
    have lay1 : Lay w1 (.slice (some ⟨g, off + 1, none⟩) (n - 1) (c1 - 1)) (n - 1) (words r) := .inl (.inr ⟨g, off + 1, c1 - 1, rfl, by omega, by unfold maxLen; omega, fun j u hu => by
      have := HC.out (j + 1) u (by rw [HE.out]; simpa [words] using hu)
      rwa [show off + (j + 1) = off + 1 + j by omega] at this⟩)
    exact bodyPost_ret (ans_result3 Try.results30 rfl rfl rfl ((A1.out.put ⟨0, 0, 0⟩).kept (Kept.refl _).drew)) rfl
      (RetX.after (RetX.put (x := ⟨0, 0, 0⟩) K1.out (by omega) lay1 hl1 (fun g' hg => OG.out g' hg)) (Kept.refl _).drew)

set_option maxRecDepth 100000 in
set_option maxHeartbeats 4000000 in
theorem refDoes_push {w : World} {a : Option Addr} {c : Nat} {q : List Int} {room : Int} {o : Opn} (hl : Lay w (.slice a q.length c) q.length (words q)) (hq : q.length ≤ 5000) (hz : chkF room q.length = 0) (hk : o.k = 1) (hr : ¬ (q.length : Int) = room) :
    Calls Try.prog 30 #[.int .i64 room, .slice a q.length c, .agg #[.int .i64 o.k, .int .i64 o.a, .int .i64 o.b, .int .u64 o.u]] w (RetX w ⟨0, 0, 0⟩ (q ++ [o.u]) true) := by
  obtain ⟨i0, hi0, hz0, hz1, hz2⟩ := info_parts infoW
  obtain ⟨W0, hW0⟩ : ∃ W0, ((w.alloc (.cells #[.int .i64 o.k, .int .i64 o.a, .int .i64 o.b, .int .u64 o.u] 25)).alloc (.cells #[.int .i64 0, .int .i64 0, .int .u64 0] 28)) = W0 := ⟨_, rfl⟩
  have OB := Lib.hid (show OpBox W0 w.heap.size o by rw [← hW0]; exact (OpBox.new w o _ _ rfl).kept ((Kept.refl _).alloc _ _))
  have AB := Lib.hid (show AnBox W0 (w.heap.size + 1) noAnn by rw [← hW0]; exact AnBox.new _ noAnn _ _ (by simp))
  have K0 := Lib.hid (show Kept w W0 by rw [← hW0]; exact ((Kept.refl w).alloc _ _).alloc _ _)
  have CK := Lib.hid (fun W => refCheck_at (w := W) (a := a) (c := c) hz)
  have HW := Lib.hid hW0
  have HL := Lib.hid hl
  have HK := Lib.hid hk
  clear hk hz
  obtain ⟨n, hn⟩ : ∃ n, n = q.length := ⟨_, rfl⟩
  have HN := Lib.hid hn
  have CW := Lib.hid (copyWords_n (hl.kept K0.out) hn (by omega))
  rw [← hn] at CK hq
  rw [← hn] at CW
  have hr' : ¬ (n : Int) = room := by rw [hn]; exact hr
  have br : ((n : Int) == room) = false := by simpa using hr'
  clear hr hr'
  rw [← hn]
  clear hl hn hW0
  go_enter Try.func30, Try.ntmps30
  go_upto_region 1 with fail
  rw [HW.out]
  go_wp2_with fail
  refine CW.out.mono ?_
  rintro e w1 ⟨a1, c1, rfl, k1, own1⟩
  have K1 := Lib.hid (K0.out.trans k1)
  have Z1 := Lib.hid k1.size
  have O1 := Lib.hid own1
  obtain ⟨o0, o1, o2, o3⟩ := OB.out.kept k1
  have A1 := Lib.hid (AB.out.kept k1)
  obtain ⟨a0, a1', a2, sA⟩ := A1.out
  have s0 := sA 0
  have s1 := sA 1
  have s2 := sA 2
  rw [HK.out] at o0
  clear k1 own1
  go_wp2_with fail
  refine (CK.out _).mono ?_
  rintro e w2 ⟨rfl, rfl⟩
  obtain ⟨a4, c4, w4, hrun0, own4, but4, at4⟩ := append_lay (P := Try.prog) (w1.alloc (.cells #[.int .u64 o.u] 23)) W0.heap.size 22 22 23 i0 _ 1 8 Try.underlying22 hi0 hz0 hz1 hz2 (by rfl) (by decide)
    (.slice a1 n c1) n (words q) (own_kept O1.out ((Kept.refl w1).alloc _ _)) (.slice (some ⟨w1.heap.size, 0, none⟩) 1 1) 1 (words [o.u]) (words_length [_]) (lay_new (heap_alloc_new _ _) (by decide)) (words_one _) (by unfold maxLen; omega) (by omega) (by have := Z1.out; simp; omega)
  have hrun := hrun0
  rw [app_named] at hrun
  have K4 := Lib.hid (show Kept w w4 from (K1.out.alloc _ _).wrote but4 (fun g hg => by have := (O1.out.lt g hg).1; have := K0.out.size; omega))
  have l8 : w.heap.size + 1 < W0.heap.size := lt_of_cell AB.out.c0
  have A4 := Lib.hid ((A1.out.kept ((Kept.refl w1).alloc #[.int .u64 o.u] 23)).but but4 (fun hg => by have := (O1.out.lt _ hg).1; omega))
  obtain ⟨p0, p1, p2, tA⟩ := A4.out
  have t0 := tA 0
  have t1 := tA 1
  have t2 := tA 2
  have O4 := Lib.hid own4
  clear hrun0 own4 but4 tA at4
  go_wp2
  exact bodyPost_ret (ans_result3 Try.results30 rfl rfl rfl (A4.out.put ⟨0, 0, 0⟩)) rfl
    (RetX.put (x := ⟨0, 0, 0⟩) K4.out (by omega) (by have h := (own_lies O4.out).lay; rwa [← words_append] at h) (by rw [List.length_append, ← HN.out]; rfl) (own_fresh O4.out l8))

theorem refDoes_any {w : World} {a : Option Addr} {c : Nat} {q : List Int} {room : Int} {o : Opn} (hl : Lay w (.slice a q.length c) q.length (words q)) (hq : q.length ≤ 5000) : Calls Try.prog 30 #[.int .i64 room, .slice a q.length c, .agg #[.int .i64 o.k, .int .i64 o.a, .int .i64 o.b, .int .u64 o.u]] w (RetX w ((actI room q o).elim noAnn (·.1)) ((actI room q o).elim [] (·.2)) (actI room q o).isSome) := by
  by_cases hz : chkF room q.length = 0
  · obtain ⟨r1, r2, r3⟩ := chk_zero hz
    have e0 : actI room q o = act room.toNat q o := if_pos hz
    rw [e0]
    by_cases h1 : o.k = 1
    · by_cases hr : (q.length : Int) = room
      · have e : act room.toNat q o = some (⟨7, 0, 0⟩, q) := by unfold act; rw [if_pos h1, if_pos (by omega)]
        rw [e]; exact refDoes_full hl hq hz h1 hr
      · have e : act room.toNat q o = some (⟨0, 0, 0⟩, q ++ [o.u]) := by unfold act; rw [if_pos h1, if_neg (by omega)]
        rw [e]; exact refDoes_push hl hq hz h1 hr
    by_cases h2 : o.k = 2
    · cases hc : q with
      | nil =>
        have e : act room.toNat ([] : List Int) o = some (⟨15, 0, 0⟩, []) := by simp [act, h2]
        have h := refDoes_front_none hl hq hz h2 hc
        rw [e]; subst hc; exact h
      | cons x r =>
        have e : act room.toNat (x :: r) o = some (⟨0, 0, x⟩, x :: r) := by simp [act, h2]
        have h := refDoes_front hl hq hz h2 hc
        rw [e]; subst hc; exact h
    by_cases h3 : o.k = 3
    · cases hc : q with
      | nil =>
        have e : act room.toNat ([] : List Int) o = some (⟨15, 0, 0⟩, []) := by simp [act, h3]
        have h := refDoes_drop_none hl hq hz h3 hc
        rw [e]; subst hc; exact h
      | cons x r =>
        have e : act room.toNat (x :: r) o = some (⟨0, 0, 0⟩, r) := by simp [act, h3]
        have h := refDoes_drop hl hq hz h3 hc
        rw [e]; subst hc; exact h
    · have e : act room.toNat q o = none := by unfold act; rw [if_neg h1, if_neg h2, if_neg h3]
      rw [e]
      by_cases h4 : o.k < 1
      · exact refDoes_lo hl hq hz h4
      · exact refDoes_hi hl hq hz (by omega)
  · have e0 : actI room q o = none := if_neg hz
    rw [e0]
    exact refDoes_bad hl hq rfl hz
end Go.Proofs.Ytpmalbdnjpbijaa
