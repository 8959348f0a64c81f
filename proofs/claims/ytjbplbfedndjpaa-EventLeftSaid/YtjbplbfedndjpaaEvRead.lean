/- add, and read: the record of a history. -/
import Derived.Test.YtjbplbfedndjpaaEvRules
namespace Go.Proofs.Ytjbplbfedndjpaa
open Go.RowKit Go.Maps

/-- What add makes of the map. -/
def added (m : Int → Option (Int × Int)) (i : Nat) (e : Ev) : Int → Option (Int × Int) := upd m e.id (if e.ans then (((m e.id).getD (0, 0)).1, (i : Int)) else ((i : Int), -1))

set_option maxHeartbeats 2000000 in
theorem add_any {w : World} {b n : Nat} {m : Int → Option (Int × Int)} (h : Seen w b n m) (hn : n ≤ 5000) (i : Nat) (e : Ev) (we : Wf e) :
    Calls Try.prog 44 #[.map (some b), .int .i64 i, .agg #[.int .i64 e.id, .bool e.ans, .int .i64 e.k, .int .i64 e.x, .int .i64 e.y, .int .u64 e.u, .int .i64 e.er, .int .i64 e.n, .int .u64 e.v]] w fun ed w' => ed = .returned (.tuple #[]) ∧ Seen w' b (n + 1) (added m i e) ∧ But (fun k => k = b) w w' := by
  have K0 : Kept w (w.alloc (.cells #[.int .i64 e.id, .bool e.ans, .int .i64 e.k, .int .i64 e.x, .int .i64 e.y, .int .u64 e.u, .int .i64 e.er, .int .i64 e.n, .int .u64 e.v] 51)) := (Kept.refl w).alloc _ _
  have lk := (h.kept K0).look (wf_back we)
  have H := Lib.hid (h.kept K0)
  have WE := Lib.hid (wf_back we)
  have hlt := h.lt
  have fl : ∀ (W : World) (x y : Int), (Instr.field 69 (.agg #[.int .i64 x, .int .i64 y]) 0).run Try.prog W = .ok (.int .i64 x) W := by intro W x y; kernel_rfl
  clear h we
  unfold added
  obtain ⟨i0, i1, i2, i3, i4, i5, i6, i7, i8⟩ := e
  dsimp only at lk H K0 WE ⊢
  cases i1
  · clear lk
    go_enter Try.func44, Try.ntmps44
    go_wp2_with (at_mapUpdate; refine wpList_put rfl _ _ _ rfl H.out (by unfold maxLen; omega) WE.out (i : Int) (-1) rfl rfl rfl ?_; intro w' hs hb)
    refine bodyPost_ret (results_none rfl _ _ _) rfl ?_
    exact ⟨rfl, hs, (K0.but _).trans hb (fun _ _ h => h)⟩
  · go_enter Try.func44, Try.ntmps44
    go_wp2_with (at_mapUpdate; refine wpList_put rfl _ _ _ rfl H.out (by unfold maxLen; omega) WE.out ((m i0).getD (0, 0)).1 (i : Int) rfl rfl rfl ?_; intro w' hs hb)
    go_end0
    exact ⟨rfl, hs, (K0.but _).trans hb (fun _ _ h => h)⟩

theorem added_mp {p : List Ev} {e : Ev} (hp : Vd p) (hs : stp p e = 0) : added (mp p) p.length e = mp (p ++ [e]) := by
  unfold added
  cases ha : e.ans with
  | false => rw [mp_call hp hs ha]; simp
  | true => rw [mp_ans hs ha]; simp

/-- What read answers. -/
def Rd (w : World) (a : Option Addr) (c : Nat) (h : List Ev) (ed : Ending) (w' : World) : Prop :=
  Kept w w' ∧ ((chk h = 0 ∧ ∃ b, ed = .returned (.tuple #[.agg #[.slice a h.length c, .map (some b)], .int .i64 0]) ∧ Seen w' b h.length (mp h) ∧ w.heap.size ≤ b) ∨
    (chk h ≠ 0 ∧ ed = .returned (.tuple #[.agg #[.slice none 0 0, .map none], .int .i64 (chk h)])))

set_option maxRecDepth 100000 in
set_option maxHeartbeats 4000000 in
theorem read_long {w : World} (a : Option Addr) (c : Nat) (h : List Ev) (hl : h.length ≤ 5000) (h4 : 4096 < h.length) : Calls Try.prog 33 #[.slice a h.length c] w (Rd w a c h) := by
  have hk : chk h = 4 := by unfold chk; rw [if_pos h4]
  unfold Rd
  rw [hk]
  clear hk
  go_enter Try.func33, Try.ntmps33
  go_wp2
  exact bodyPost_ret (v := .tuple #[.agg #[.slice none 0 0, .map none], .int .i64 4]) (by simp [results, Try.results33, go_sem]) rfl ⟨(Kept.refl w).alloc _ _, .inr ⟨by decide, rfl⟩⟩

/-- The blocks of read's own, as its loop begins. -/
structure Laid (w W : World) (a : Option Addr) (n c : Nat) : Prop where
  kept : Kept w W
  size : W.heap.size = w.heap.size + 4
  r0 : W.cell? ⟨w.heap.size, 0, none⟩ = some (.slice none 0 0)
  r1 : W.cell? ⟨w.heap.size, 1, none⟩ = some (.map none)
  s0 : W.frozen? ⟨w.heap.size, 0, none⟩ = false
  s1 : W.frozen? ⟨w.heap.size, 1, none⟩ = false
  q0 : W.cell? ⟨w.heap.size + 1 + 1, 0, none⟩ = some (.slice a n c)
  q1 : W.cell? ⟨w.heap.size + 1 + 1, 1, none⟩ = some (.map (some (w.heap.size + 1)))
  rules : Rules W (w.heap.size + 1 + 1 + 1) (w.heap.size + 1)
  seen : Seen W (w.heap.size + 1) 0 (fun _ => none)
theorem laid (w : World) (a : Option Addr) (n c : Nat) :
    Laid w ((((w.alloc (.cells #[.slice none 0 0, .map none] 62)).alloc (.map #[] 0)).alloc (.cells #[.slice a n c, .map (some (w.heap.size + 1))] 62)).alloc
      (.cells #[.func (.func 46) #[.map (some (w.heap.size + 1))] #[], .func (.func 47) #[.map (some (w.heap.size + 1))] #[], .func (.func 48) #[.map (some (w.heap.size + 1))] #[]] 84)) a n c := by
  have k1 : Kept w (w.alloc (.cells #[.slice none 0 0, .map none] 62)) := (Kept.refl w).alloc _ _
  have hs : Seen ((w.alloc (.cells #[.slice none 0 0, .map none] 62)).alloc (.map #[] 0)) (w.heap.size + 1) 0 (fun _ => none) := by
    have := Seen.made (w.alloc (.cells #[.slice none 0 0, .map none] 62))
    simpa using this
  exact {
    kept := ((k1.object _).alloc _ _).alloc _ _
    size := by simp
    r0 := ((((Kept.refl _).object _).alloc _ _).alloc _ _).some (cell_new w _ _ _ 0 rfl)
    r1 := ((((Kept.refl _).object _).alloc _ _).alloc _ _).some (cell_new w _ _ _ 1 rfl)
    s0 := ((((Kept.refl _).object _).alloc _ _).alloc _ _).soft (by simp) (by rw [frozen?_alloc_cells]; simp [World.frozen?])
    s1 := ((((Kept.refl _).object _).alloc _ _).alloc _ _).soft (by simp) (by rw [frozen?_alloc_cells]; simp [World.frozen?])
    q0 := ((Kept.refl _).alloc _ _).some (cell_new _ _ _ _ 0 (by simp))
    q1 := ((Kept.refl _).alloc _ _).some (cell_new _ _ _ _ 1 (by simp))
    rules := ⟨cell_new _ _ _ _ 0 (by simp), cell_new _ _ _ _ 1 (by simp), cell_new _ _ _ _ 2 (by simp)⟩
    seen := hs.kept (((Kept.refl _).alloc _ _).alloc _ _) }

set_option maxRecDepth 100000 in
set_option maxHeartbeats 4000000 in
theorem read_nil {w : World} (a : Option Addr) (c : Nat) : Calls Try.prog 33 #[.slice a 0 c] w (Rd w a c []) := by
  have hmm := @run_makeMap Try.prog
  go_enter Try.func33, Try.ntmps33
  go_wp2_with fail; refine (rules_any _ _).mono ?_; rintro ed w1 ⟨rfl, rfl⟩
  go_wp2_with fail
  have L := laid w a 0 c
  generalize ((((w.alloc (.cells #[.slice none 0 0, .map none] 62)).alloc (.map #[] 0)).alloc (.cells #[.slice a 0 c, .map (some (w.heap.size + 1))] 62)).alloc
      (.cells #[.func (.func 46) #[.map (some (w.heap.size + 1))] #[], .func (.func 47) #[.map (some (w.heap.size + 1))] #[], .func (.func 48) #[.map (some (w.heap.size + 1))] #[]] 84)) = W0 at L ⊢
  obtain ⟨kW, z0, r0, r1, s0, s1, q0, q1, _, hs⟩ := L
  have HZ := Lib.hid z0
  have HS := Lib.hid hs
  clear z0 hs hmm
  go_loopw [21] (fun i wr => i = .int .i64 0 ∧ wr = W0) (fun _ _ => 0)
  case atStart => exact ⟨rfl, rfl⟩
  case round =>
    obtain ⟨rfl, rfl⟩ := hrel
    go_wp2
    refine bodyPost_ret (v := .tuple #[.agg #[.slice a 0 c, .map (some (w.heap.size + 1))], .int .i64 0]) (by simp [results, Try.results33, go_sem, cell_set, r0, r1]) rfl ⟨((kW.setCell (p := ⟨w.heap.size, 0, none⟩) (Nat.le_refl _) _).setCell (p := ⟨w.heap.size, 1, none⟩) (Nat.le_refl _) _), .inl ⟨rfl, _, rfl, ?_, by omega⟩⟩
    rw [mp_nil]
    exact HS.out.but ((((But.refl (fun k => k = w.heap.size) _).here _ _).here _ _)) (by omega)

/-- The head of read's loop. -/
def RdAt (w W0 : World) (h : List Ev) (i : Value) (W : World) : Prop :=
  ∃ k : Nat, k ≤ h.length ∧ i = .int .i64 k ∧ chks (h.take k) (h.drop k) = chks [] h ∧ Vd (h.take k) ∧ But (fun b => b = w.heap.size + 1) W0 W ∧ Seen W (w.heap.size + 1) k (mp (h.take k))

set_option maxRecDepth 100000 in
set_option maxHeartbeats 8000000 in
theorem read_pos {w : World} {a : Option Addr} {c : Nat} {h : List Ev} (hE : Lay w (.slice a h.length c) h.length (flatE h)) (hp : 0 < h.length) (hw : ∀ e ∈ h, Wf e) (hl : h.length ≤ 5000) (h4 : ¬ 4096 < h.length) :
    Calls Try.prog 33 #[.slice a h.length c] w (Rd w a c h) := by
  have hmm := @run_makeMap Try.prog
  obtain ⟨g, o, c', e', h1, h2, hc⟩ := hE.ev hp
  cases e'
  have hg : g < w.heap.size := by
    obtain ⟨e, he⟩ : ∃ e, h[0]? = some e := ⟨_, List.getElem?_eq_getElem hp⟩
    exact lt_of_cell (hc 0 e he).c0
  have HW := Lib.hid hw
  have HC := Lib.hid hc
  obtain ⟨n, hn⟩ : ∃ n, n = h.length := ⟨_, rfl⟩
  have HN := Lib.hid hn
  have hchk : chk h = chks [] h := by unfold chk; rw [if_neg h4]
  have HK := Lib.hid hchk
  have hd : decide ((4096 : Int) < (n : Int)) = false := by simp; omega
  rw [← hn]
  rw [← hn] at hl h1 hp
  clear hn hE hc hw h4 hchk
  go_enter Try.func33, Try.ntmps33
  go_wp2_with fail; refine (rules_any _ _).mono ?_; rintro ed w1 ⟨rfl, rfl⟩
  go_wp2_with fail
  have L := laid w (some ⟨g, o, none⟩) n c
  generalize ((((w.alloc (.cells #[.slice none 0 0, .map none] 62)).alloc (.map #[] 0)).alloc (.cells #[.slice (some ⟨g, o, none⟩) n c, .map (some (w.heap.size + 1))] 62)).alloc
      (.cells #[.func (.func 46) #[.map (some (w.heap.size + 1))] #[], .func (.func 47) #[.map (some (w.heap.size + 1))] #[], .func (.func 48) #[.map (some (w.heap.size + 1))] #[]] 84)) = W0 at L ⊢
  obtain ⟨kW, z0, r0, r1, s0, s1, q0, q1, hr, hs⟩ := L
  have KW := Lib.hid kW
  have Z0 := Lib.hid z0
  have R0 := Lib.hid r0
  have R1 := Lib.hid r1
  have S0 := Lib.hid s0
  have S1 := Lib.hid s1
  have Q0 := Lib.hid q0
  have Q1 := Lib.hid q1
  have HR := Lib.hid hr
  have HS := Lib.hid hs
  clear z0 hs hmm kW r0 r1 s0 s1 q0 q1 hr
  go_loopw [21] (fun i wr => RdAt w W0 h i wr) (fun i _ => n - (intOf i).toNat)
  case atStart => exact ⟨0, Nat.zero_le _, rfl, by simp, by simp [vd_nil], But.refl _ _, by simpa [mp_nil] using HS.out⟩
  case round =>
    obtain ⟨k, hk, rfl, hck, hvd, hb, hs⟩ := hrel
    have hsz := hb.size
    have z4 : w.heap.size + 4 ≤ wr.heap.size := by rw [Z0.out] at hsz; exact hsz
    have HB := Lib.hid hb
    have HX := Lib.hid hs
    have VD := Lib.hid hvd
    have CK := Lib.hid hck
    rw [← HN.out] at hk
    clear hb hs hvd hck hsz
    by_cases hlt : k < n
    · obtain ⟨e, he⟩ : ∃ e, h[k]? = some e := ⟨_, List.getElem?_eq_getElem (by rw [← HN.out]; exact hlt)⟩
      have we : Wf e := HW.out e (List.mem_of_getElem? he)
      obtain ⟨x0, x1, x2, x3, x4, x5, x6, x7, x8⟩ := ((HC.out k e he).kept KW.out).but HB.out (by omega)
      have ets := take_snoc h k e he
      have eds := drop_cons h k e he
      have ETS := Lib.hid ets
      have HL : (h.take k).length = k := by rw [List.length_take, ← HN.out]; omega
      have HLL := Lib.hid HL
      have CK2 := Lib.hid (CK.out.symm.trans (by rw [eds]; rfl : chks (h.take k) (h.drop k) = if stp (h.take k) e = 0 then chks (h.take k ++ [e]) (h.drop (k + 1)) else stp (h.take k) e))
      have BK := Lib.hid (brk_eq VD.out e)
      have WE := Lib.hid we
      have kA : Kept wr (wr.alloc (.cells #[.int .i64 e.id, .bool e.ans, .int .i64 e.k, .int .i64 e.x, .int .i64 e.y, .int .u64 e.u, .int .i64 e.er, .int .i64 e.n, .int .u64 e.v] 51)) := (Kept.refl wr).alloc _ _
      have KA := Lib.hid kA
      obtain ⟨v, hv⟩ : ∃ v, v = stp (h.take k) e := ⟨_, rfl⟩
      have HV := Lib.hid hv
      clear he we ets eds HL hv kA
      by_cases hz : v = 0
      · have b1 : (v != 0) = false := by simp [hz]
        have HZ := Lib.hid hz
        clear hz
        go_wp2_with fail; refine (broken_any (HX.out.kept KA.out) ((HR.out.but HB.out (by omega)).kept KA.out) e WE.out).mono ?_; rintro ed w1 ⟨rfl, k1⟩
        rw [BK.out, ← HV.out]
        have kk := KA.out.trans k1
        have q1 := kk.some (HB.out.some Q1.out (by omega))
        obtain ⟨g0, g1, g2, g3, g4, g5, g6, g7, g8⟩ := (EvBox.new wr e 51).kept k1
        clear k1
        go_wp2_with fail; refine (add_any (HX.out.kept kk) (by omega) k e WE.out).mono ?_; rintro ed w2 ⟨rfl, hs2, hb2⟩
        clear g0 g1 g2 g3 g4 g5 g6 g7 g8 x0 x1 x2 x3 x4 x5 x6 x7 x8 q1
        have HS2 := Lib.hid hs2
        clear hs2
        go_wp2_with fail
        go_roundw
        case rel =>
          have hs0 : stp (h.take k) e = 0 := by rw [← HV.out]; exact HZ.out
          refine ⟨k + 1, by rw [← HN.out]; omega, by go_num, ?_, ?_, ?_, ?_⟩
          · rw [CK2.out, if_pos hs0, ETS.out]
          · rw [ETS.out]; exact (vd_snoc _ _).2 ⟨VD.out, hs0⟩
          · exact (HB.out.then kk).trans hb2 (fun _ _ h => h)
          · have := added_mp VD.out hs0
            rw [HLL.out] at this
            rw [ETS.out, ← this]
            exact HS2.out
        case measure => simp [intOf]; omega
      · have b1 : (v != 0) = true := by simpa using hz
        have HZ := Lib.hid hz
        clear hz
        go_wp2_with fail; refine (broken_any (HX.out.kept KA.out) ((HR.out.but HB.out (by omega)).kept KA.out) e WE.out).mono ?_; rintro ed w1 ⟨rfl, k1⟩
        rw [BK.out, ← HV.out]
        have kk := KA.out.trans k1
        clear k1 x0 x1 x2 x3 x4 x5 x6 x7 x8
        have KK := Lib.hid kk
        have r0 := kk.some (HB.out.some R0.out (by omega))
        have r1 := kk.some (HB.out.some R1.out (by omega))
        have s0 := kk.soft (by omega) (HB.out.soft (by rw [Z0.out]; omega) S0.out)
        have s1 := kk.soft (by omega) (HB.out.soft (by rw [Z0.out]; omega) S1.out)
        clear kk
        go_wp2_with fail
        refine bodyPost_ret (v := .tuple #[.agg #[.slice none 0 0, .map none], .int .i64 v]) (by simp [results, Try.results33, go_sem, cell_set, r0, r1]) rfl ⟨?_, .inr ?_⟩
        · exact ((((KW.out.but _).trans HB.out (fun _ _ h => h)).kept (fun b h1 h2 => by omega)).trans KK.out).setCell (p := ⟨w.heap.size, 0, none⟩) (Nat.le_refl _) _ |>.setCell (p := ⟨w.heap.size, 1, none⟩) (Nat.le_refl _) _
        · have e1 : chk h = v := by rw [HK.out, CK2.out, ← HV.out, if_neg HZ.out]
          rw [e1]
          exact ⟨HZ.out, rfl⟩
    · have e1 : k = n := by omega
      have HE := Lib.hid e1
      have r0 := HB.out.some R0.out (by omega)
      have r1 := HB.out.some R1.out (by omega)
      have s0 := HB.out.soft (by rw [Z0.out]; omega) S0.out
      have s1 := HB.out.soft (by rw [Z0.out]; omega) S1.out
      have q0 := HB.out.some Q0.out (by omega)
      have q1 := HB.out.some Q1.out (by omega)
      clear e1
      go_wp2_with fail
      refine bodyPost_ret (v := .tuple #[.agg #[.slice (some ⟨g, o, none⟩) n c, .map (some (w.heap.size + 1))], .int .i64 0]) (by simp [results, Try.results33, go_sem, cell_set, r0, r1]) rfl ⟨?_, .inl ?_⟩
      · exact (((KW.out.but _).trans HB.out (fun _ _ h => h)).kept (fun b h1 h2 => by omega)).setCell (p := ⟨w.heap.size, 0, none⟩) (Nat.le_refl _) _ |>.setCell (p := ⟨w.heap.size, 1, none⟩) (Nat.le_refl _) _
      · have ht : h.take k = h := by rw [HE.out, HN.out, List.take_length]
        have hd2 : h.drop k = [] := by rw [HE.out, HN.out, List.drop_length]
        have e2 : chk h = 0 := by rw [HK.out, ← CK.out, hd2]; rfl
        refine ⟨e2, _, by rw [HN.out], ?_, by omega⟩
        have hs := HX.out
        rw [ht, HE.out, HN.out] at hs
        exact hs.but ((But.refl (fun k => k = w.heap.size) _).here _ _ |>.here _ _) (by omega)

theorem read_any {w : World} {a : Option Addr} {c : Nat} {h : List Ev} (hE : Lay w (.slice a h.length c) h.length (flatE h)) (hw : ∀ e ∈ h, Wf e) (hl : h.length ≤ 5000) : Calls Try.prog 33 #[.slice a h.length c] w (Rd w a c h) := by
  by_cases h4 : 4096 < h.length
  · exact read_long a c h hl h4
  · by_cases hp : h = []
    · subst hp; exact read_nil a c
    · exact read_pos hE (List.length_pos_iff.2 hp) hw hl h4
end Go.Proofs.Ytjbplbfedndjpaa
