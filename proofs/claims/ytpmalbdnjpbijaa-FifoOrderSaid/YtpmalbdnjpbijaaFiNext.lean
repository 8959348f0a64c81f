/- The program's Check, Answer, Next. -/
import Derived.Test.YtpmalbdnjpbijaaFiDo
namespace Go.Proofs.Ytpmalbdnjpbijaa
open Go.RowKit
attribute [local go_sem ↓] ld_named st_named cp_named bd_named lv_named

theorem chk_lo {room : Int} {n : Nat} (h : room < 1) : chkF room n = 3 := if_pos (.inl h)
theorem chk_hi {room : Int} {n : Nat} (h : 1024 < room) : chkF room n = 3 := if_pos (.inr h)
theorem chk_full {room : Int} {n : Nat} (h1 : ¬ room < 1) (h2 : ¬ 1024 < room) (h : room < n) : chkF room n = 7 := by
  unfold chkF; rw [if_neg (by omega), if_pos h]
theorem chk_ok {room : Int} {n : Nat} (h1 : ¬ room < 1) (h2 : ¬ 1024 < room) (h : ¬ room < n) : chkF room n = 0 := by
  unfold chkF; rw [if_neg (by omega), if_neg h]
theorem chk_zero {room : Int} {n : Nat} (h : chkF room n = 0) : 1 ≤ room ∧ room ≤ 1024 ∧ (n : Int) ≤ room := by
  unfold chkF at h
  split at h
  · cases h
  · split at h
    · cases h
    · omega

set_option maxHeartbeats 1000000 in
theorem check_any (w : World) (room : Int) (a : Option Addr) (n c : Nat) : Calls Try.prog 15 #[.int .i64 room, .slice a n c] w fun e w' => e = .returned (.int .i64 (chkF room n)) ∧ w = w' := by
  by_cases h1 : room < 1
  · rw [chk_lo h1]
    go_enter Try.func15, Try.ntmps15
    go_wp2
    go_ret
    exact ⟨rfl, rfl⟩
  by_cases h2 : 1024 < room
  · rw [chk_hi h2]
    go_enter Try.func15, Try.ntmps15
    go_wp2
    go_ret
    exact ⟨rfl, rfl⟩
  by_cases h3 : room < n
  · rw [chk_full h1 h2 h3]
    go_enter Try.func15, Try.ntmps15
    go_wp2
    go_ret
    exact ⟨rfl, rfl⟩
  · rw [chk_ok h1 h2 h3]
    go_enter Try.func15, Try.ntmps15
    go_wp2
    go_ret
    exact ⟨rfl, rfl⟩
theorem check_at {w : World} {room : Int} {a : Option Addr} {n c : Nat} {x : Int} (h : chkF room n = x) : Calls Try.prog 15 #[.int .i64 room, .slice a n c] w fun e w' => e = .returned (.int .i64 x) ∧ w = w' := by
  subst h; exact check_any w room a n c

/-- What is told of any room and queue. -/
def tellI (room : Int) (q : List Int) (o : Opn) : Ann := (actI room q o).elim noAnn (·.1)

/-- The func is there, or nil. -/
theorem equal_nil (d : Nat) (w : World) : (Op.equalIn (d + 1) 57 .nilFunc .nilFunc).run Try.prog w = .ok true w := by
  unfold Op.equalIn
  rw [Sem.run_bind, run_underlying Try.underlying57 w]
  rfl
theorem equal_func (d : Nat) (f : Fn) (x y : Array Value) (w : World) : (Op.equalIn (d + 1) 57 (.func f x y) .nilFunc).run Try.prog w = .ok false w := by
  unfold Op.equalIn
  rw [Sem.run_bind, run_underlying Try.underlying57 w]
  rfl
theorem eql_nil (w : World) : (binOp .eql 57 .nilFunc .nilFunc).run Try.prog w = .ok (.bool true) w := by
  show (do pure (Value.bool (← Op.equalIn (9999 + 1) 57 .nilFunc .nilFunc)) : Sem Value).run Try.prog w = _
  rw [Sem.run_bind, equal_nil]; rfl
theorem eql_func (f : Fn) (x y : Array Value) (w : World) : (binOp .eql 57 (.func f x y) .nilFunc).run Try.prog w = .ok (.bool false) w := by
  show (do pure (Value.bool (← Op.equalIn (9999 + 1) 57 (.func f x y) .nilFunc)) : Sem Value).run Try.prog w = _
  rw [Sem.run_bind, equal_func]; rfl
theorem neq_nil (w : World) : (binOp .neq 57 .nilFunc .nilFunc).run Try.prog w = .ok (.bool false) w := by
  show (do pure (Value.bool (!(← Op.equalIn (9999 + 1) 57 .nilFunc .nilFunc))) : Sem Value).run Try.prog w = _
  rw [Sem.run_bind, equal_nil]; rfl
theorem neq_func (f : Fn) (x y : Array Value) (w : World) : (binOp .neq 57 (.func f x y) .nilFunc).run Try.prog w = .ok (.bool true) w := by
  show (do pure (Value.bool (!(← Op.equalIn (9999 + 1) 57 (.func f x y) .nilFunc))) : Sem Value).run Try.prog w = _
  rw [Sem.run_bind, equal_func]; rfl
theorem func_neq {W : World} {base b room : Nat} {q : List Int} {F : Value} {p : Option (Ann × List Int)} (h : FuncOf W base b room q F p) :
    ∀ w, (binOp .neq 57 F .nilFunc).run Try.prog w = .ok (.bool p.isSome) w := by
  intro w
  cases p with
  | none =>
    obtain rfl : F = .nilFunc := h
    exact neq_nil w
  | some p =>
    obtain ⟨x, _, _, ⟨y, u, _, _, rfl, _⟩ | ⟨v, rfl, _⟩ | ⟨rfl, _⟩⟩ := h
    · exact neq_func _ _ _ w
    · exact neq_func _ _ _ w
    · exact neq_func _ _ _ w

theorem func_shape {W : World} {base b room : Nat} {q : List Int} {F : Value} {p : Option (Ann × List Int)} (h : FuncOf W base b room q F p) : F = .nilFunc ∨ ∃ f x y, F = .func f x y := by
  cases p with
  | none => exact .inl h
  | some p =>
    obtain ⟨x, _, _, ⟨y, u, _, _, rfl, _⟩ | ⟨v, rfl, _⟩ | ⟨rfl, _⟩⟩ := h
    · exact .inr ⟨_, _, _, rfl⟩
    · exact .inr ⟨_, _, _, rfl⟩
    · exact .inr ⟨_, _, _, rfl⟩
theorem func_guard {W : World} {base b room : Nat} {q : List Int} {F : Value} {p : Option (Ann × List Int)} (h : FuncOf W base b room q F p) (op : BinOp) :
    ∀ (x y : Operand) (w : World), (eqGuard op 57 x y F .nilFunc).run Try.prog w = .ok () w := by
  intro x y w
  rcases func_shape h with rfl | ⟨f, x, y, rfl⟩ <;> cases op <;> rfl
theorem func_eql {W : World} {base b room : Nat} {q : List Int} {F : Value} {p : Option (Ann × List Int)} (h : FuncOf W base b room q F p) :
    ∀ w, (binOp .eql 57 F .nilFunc).run Try.prog w = .ok (.bool p.isNone) w := by
  intro w
  cases p with
  | none =>
    obtain rfl : F = .nilFunc := h
    exact eql_nil w
  | some p =>
    obtain ⟨x, _, _, ⟨y, u, _, _, rfl, _⟩ | ⟨v, rfl, _⟩ | ⟨rfl, _⟩⟩ := h
    · exact eql_func _ _ _ w
    · exact eql_func _ _ _ w
    · exact eql_func _ _ _ w

theorem AnBox.put {W : World} {g : Nat} {a : Ann} (h : AnBox W g a) (x : Ann) : AnBox (((W.setCell ⟨g, 0, none⟩ (.int .i64 x.e)).setCell ⟨g, 1, none⟩ (.int .i64 x.n)).setCell ⟨g, 2, none⟩ (.int .u64 x.v)) g x :=
  ⟨by simp [cell_set, h.c0], by simp [cell_set, h.c1], by simp [cell_set, h.c2], fun i => by simp only [World.frozen?_setCell]; exact h.s i⟩
theorem an_var {W : World} {b : Nat} {x : Ann} (h : AnBox W b x) : (loadVar 28 ⟨b, 0, none⟩).run Try.prog W = .ok (.agg #[.int .i64 x.e, .int .i64 x.n, .int .u64 x.v]) W := by
  have := run_loadVar_mid (P := Try.prog) W b 0 _ (anc x) _ (fun j v hv => by
    rw [Nat.zero_add]
    match j, hv with
    | 0, hv => cases hv; exact h.c0
    | 1, hv => cases hv; exact h.c1
    | 2, hv => cases hv; exact h.c2) Try.underlying28 rfl (by
      obtain ⟨i0, hi, _, hz1, _⟩ := info_parts infoA
      rw [hi]; simp [hz1, anc])
  simpa [anc] using this
/-- A function whose results are an answer in a variable, and one more. -/
theorem ans_result {fn : Func} {tmps : Array Value} {n m b : Nat} {w : World} {x : Ann} {v : Value} (hr : fn.results = #[.cell n 28, .tmp m]) (ht : tmps.getD n undef = .pointer (some ⟨b, 0, none⟩)) (hm : tmps.getD m undef = v) (h : AnBox w b x) :
    (results fn tmps).run Try.prog w = .ok (.tuple #[.agg #[.int .i64 x.e, .int .i64 x.n, .int .u64 x.v], v]) w := by
  have hv := an_var h
  have ht' : tmps[n]?.getD undef = .pointer (some ⟨b, 0, none⟩) := by simpa using ht
  have hm' : tmps[m]?.getD undef = v := by simpa using hm
  unfold results
  rw [hr]
  simp [ht', hm', asAddr, hv]

set_option maxRecDepth 100000 in
set_option maxHeartbeats 2000000 in
theorem answer_any {w : World} {a : Option Addr} {c : Nat} {q : List Int} (room : Int) (o : Opn) (hl : Lay w (.slice a q.length c) q.length (words q)) :
    Calls Try.prog 10 #[.int .i64 room, .slice a q.length c, .agg #[.int .i64 o.k, .int .i64 o.a, .int .i64 o.b, .int .u64 o.u]] w
      fun e w' => e = .returned (.tuple #[.agg #[.int .i64 (tellI room q o).e, .int .i64 (tellI room q o).n, .int .u64 (tellI room q o).v], .bool (actI room q o).isSome]) ∧ Kept w w' := by
  by_cases hz : chkF room q.length = 0
  · obtain ⟨r1, r2, r3⟩ := chk_zero hz
    obtain ⟨r, rfl⟩ : ∃ r : Nat, room = r := ⟨room.toNat, by omega⟩
    have e0 : actI r q o = act r q o := by unfold actI; rw [if_pos hz]; rfl
    have e1 : tellI r q o = tell r q o := by unfold tellI tell; rw [e0]
    rw [e1, e0]
    clear e1 e0
    obtain ⟨Z, hZ, hZ1, _, _, hzv⟩ := zeroed
    obtain ⟨W0, hW0⟩ : ∃ W0, ((w.alloc (.cells #[.int .i64 o.k, .int .i64 o.a, .int .i64 o.b, .int .u64 o.u] 25)).alloc (.cells #[.int .i64 0, .int .i64 0, .int .u64 0] 28)) = W0 := ⟨_, rfl⟩
    have OB := Lib.hid (show OpBox W0 w.heap.size o by rw [← hW0]; exact (OpBox.new w o _ _ rfl).kept ((Kept.refl _).alloc _ _))
    have AB := Lib.hid (show AnBox W0 (w.heap.size + 1) noAnn by rw [← hW0]; exact AnBox.new _ noAnn _ _ (by simp))
    have K0 := Lib.hid (show Kept w W0 by rw [← hW0]; exact ((Kept.refl w).alloc _ _).alloc _ _)
    have CK := Lib.hid (fun W => check_at (w := W) (a := a) (c := c) hz)
    have FI := Lib.hid (filled_any r (hl.kept K0.out) (by omega) (by omega))
    have HW := Lib.hid hW0
    obtain ⟨n, hn⟩ : ∃ n, n = q.length := ⟨_, rfl⟩
    rw [← hn] at CK FI ⊢
    clear hz hl hn hW0
    go_enter Try.func10, Try.ntmps10
    go_upto_region 1 with fail
    rw [HW.out]
    go_wp2_with fail
    refine (CK.out _).mono ?_
    rintro e w1 ⟨rfl, rfl⟩
    go_wp2_with fail
    refine FI.out.mono ?_
    rintro e w1 ⟨R, rfl, g1, k1⟩
    obtain ⟨w3, run3, but3, big3, s3⟩ := big_st (BigAt.new w1 Z 55 hZ hZ1 _ rfl) g1.size g1.one
    have K3 := Lib.hid (k1.trans (((Kept.refl w1).alloc Z 55).wrote1 but3 (Nat.le_refl _)))
    have DO := Lib.hid (does_any o big3 g1)
    obtain ⟨o0, o1, o2, o3⟩ := OB.out.kept K3.out
    clear k1 but3 s3 big3 hZ hZ1
    go_wp2_with fail
    refine DO.out.mono ?_
    rintro e w4 ⟨F, rfl, k4, hF⟩
    have FN := func_neq hF
    have FG := func_guard hF .neq
    have K4 := Lib.hid (K3.out.trans k4)
    obtain ⟨a0, a1, a2, sA⟩ := AB.out.kept K4.out
    have s0 := sA 0
    have s1 := sA 1
    have s2 := sA 2
    have l4 := lt_of_cell a0
    clear sA hF k4
    go_wp2
    have A4 := ((AB.out.kept K4.out).put (tell r q o)).kept ((Kept.refl _).alloc #[.int .i64 (tell r q o).e, .int .i64 (tell r q o).n, .int .u64 (tell r q o).v] 28)
    exact bodyPost_ret (ans_result Try.results10 rfl rfl A4) rfl ⟨rfl, (((((K0.out.trans K4.out).setCell (p := ⟨w.heap.size + 1, 0, none⟩) (by simp) _).setCell (p := ⟨w.heap.size + 1, 1, none⟩) (by simp) _).setCell (p := ⟨w.heap.size + 1, 2, none⟩) (by simp) _).alloc _ _)⟩
  · have e0 : actI room q o = none := by unfold actI; rw [if_neg hz]
    have e1 : tellI room q o = noAnn := by unfold tellI; rw [e0]; rfl
    rw [e1, e0]
    obtain ⟨x, hx⟩ : ∃ x, chkF room q.length = x := ⟨_, rfl⟩
    have hx0 : x ≠ 0 := by rw [← hx]; exact hz
    have b1 : (x != 0) = true := by simpa using hx0
    have CK := Lib.hid (fun W => check_at (w := W) (a := a) (c := c) hx)
    obtain ⟨n, hn⟩ : ∃ n, n = q.length := ⟨_, rfl⟩
    rw [← hn] at CK ⊢
    clear hz hl hn e0 e1 hx hx0
    go_enter Try.func10, Try.ntmps10
    go_wp2_with fail
    refine (CK.out _).mono ?_
    rintro e w1 ⟨rfl, rfl⟩
    go_wp2
    exact bodyPost_ret (v := .tuple #[.agg #[.int .i64 0, .int .i64 0, .int .u64 0], .bool false]) (by simp [results, Try.results10, go_sem]) rfl ⟨rfl, by (go_light; repeat (first | (with_reducible exact Kept.refl _) | (with_reducible assumption) | (with_reducible refine Kept.alloc ?_ _ _) | (with_reducible refine Kept.drew ?_) | (with_reducible refine Kept.drewN ?_ _) | ((with_reducible refine Kept.setCell ?_ ?_ _); rotate_left; focus (first | (simp; done) | (simp; omega))) | refine Kept.trans ?_ (by assumption)))⟩
end Go.Proofs.Ytpmalbdnjpbijaa
