/- The program's Play. -/
import Derived.Test.YtpmalbdnjpbijaaFiNext2
namespace Go.Proofs.Ytpmalbdnjpbijaa
open Go.RowKit
attribute [local go_sem ↓] ld_named st_named cp_named bd_named lv_named

/-- The answers, what is left, an error. -/
def RetP (w : World) (l : List Ann) (q : List Int) (err : Int) (e : Ending) (w' : World) : Prop :=
  ∃ a c b d, e = .returned (.tuple #[.slice a l.length c, .slice b q.length d, .int .i64 err]) ∧ Kept w w' ∧ OwnA w' w.heap.size (.slice a l.length c) l ∧ OwnW w' w.heap.size (.slice b q.length d) q ∧
    ∀ g, (Value.slice a l.length c).ownBlock = some g → (Value.slice b q.length d).ownBlock ≠ some g
structure PlayAt (w wr : World) (B G r n : Nat) (l : List Opn) (k : Nat) : Prop where
  fill : Filled wr G 28 (n * 3) (flatA (playA r (l.take k)))
  ring : ∃ R, BigAt wr B R ∧ Rg R r (playQ r (l.take k))
  kept : Kept w wr
def PlayRel (w : World) (B G r n : Nat) (l : List Opn) (i : Value) (wr : World) : Prop := ∃ k : Nat, k ≤ n ∧ i = .int .i64 k ∧ PlayAt w wr B G r n l k

set_option maxRecDepth 100000 in
set_option maxHeartbeats 4000000 in
theorem play_ok {w : World} {a : Option Addr} {c r : Nat} {l : List Opn} (hl : Lay w (.slice a l.length c) l.length (flatO l)) (hlen : l.length ≤ 1000) (r1 : 1 ≤ r) (r2 : r ≤ 1024) :
    Calls Try.prog 19 #[.int .i64 r, .slice a l.length c] w (RetP w (playA r l) (playQ r l) 0) := by
  obtain ⟨Z, hZ, hZ1, _, _, hzv⟩ := zeroed
  have CK := Lib.hid (check_at (w := w) (a := none) (c := 0) (chk_ok (room := r) (n := 0) (by omega) (by omega) (by omega)))
  have FI := Lib.hid (filled_any (w := w) (v := .slice none 0 0) (q := []) r (.inl (.inl ⟨rfl, rfl, rfl⟩)) (Nat.zero_le _) r2)
  obtain ⟨n, hn⟩ : ∃ n, n = l.length := ⟨_, rfl⟩
  obtain ⟨ZA, hZA, hmake⟩ := make_answers n (by omega)
  rw [← hn] at hlen
  have HL := Lib.hid hl
  have HN := Lib.hid hn
  rw [← hn]
  clear hl hn
  go_enter Try.func19, Try.ntmps19
  go_wp2_with fail
  refine CK.out.mono ?_
  rintro e w1 ⟨rfl, rfl⟩
  go_wp2_with fail
  refine FI.out.mono ?_
  rintro e w1 ⟨R, rfl, g1, k1⟩
  obtain ⟨w3, run3, but3, big3, s3⟩ := big_st (BigAt.new w1 Z 55 hZ hZ1 _ rfl) g1.size g1.one
  have s3' : w3.heap.size = w1.heap.size + 1 := by rw [s3]; simp
  have k3 := k1.trans (((Kept.refl w1).alloc Z 55).wrote1 but3 (Nat.le_refl _))
  have l1 := k1.size
  obtain ⟨W0, hW0⟩ : ∃ W0, w3.alloc (.cells ZA 28) = W0 := ⟨_, rfl⟩
  have hW := Lib.hid hW0
  have P0 := Lib.hid (show PlayAt w W0 w1.heap.size w3.heap.size r n l 0 by
    rw [← hW0]
    exact ⟨Filled.new w3 ZA _ _ hZA, ⟨R, big3.kept ((Kept.refl _).alloc _ _), g1⟩, k3.alloc _ _⟩)
  clear hW0 k3 k1 big3 but3 hZA hZ hZ1 g1 s3
  obtain ⟨B, hB⟩ : ∃ B, w1.heap.size = B := ⟨_, rfl⟩
  obtain ⟨G, hG⟩ : ∃ G, w3.heap.size = G := ⟨_, rfl⟩
  have HBB := Lib.hid hB
  have HGG := Lib.hid hG
  rw [hB, hG] at P0
  rw [hG, hB] at s3'
  rw [hB] at l1
  clear hB hG
  go_wp2_with fail
  rw [hW.out, HBB.out, HGG.out]
  have hGB : B < G := by omega
  have hwB : w.heap.size ≤ B := by omega
  clear s3' l1
  go_loopw [26] (fun i wr => PlayRel w B G r n l i wr) (fun i _ => n - (intOf i).toNat)
  case atStart => exact ⟨0, Nat.zero_le _, rfl, P0.out⟩
  case round =>
    obtain ⟨k, hk, rfl, hp⟩ := hrel
    have P := Lib.hid hp
    clear hp
    by_cases hlt : k < n
    · obtain ⟨o, ho⟩ : ∃ o, l[k]? = some o := ⟨_, List.getElem?_eq_getElem (by rw [← HN.out]; exact hlt)⟩
      obtain ⟨g, off, c', e, h1, h2, hc⟩ := (HL.out.kept P.out.kept).op (by rw [← HN.out]; omega)
      cases e
      obtain ⟨o0, o1, o2, o3⟩ := hc k o ho
      have HO := Lib.hid ho
      obtain ⟨R, bg, rg⟩ := P.out.ring
      have G1 := Lib.hid rg
      obtain ⟨W4, hW4⟩ : ∃ W4, wr.alloc (.cells #[.int .i64 o.k, .int .i64 o.a, .int .i64 o.b, .int .u64 o.u] 25) = W4 := ⟨_, rfl⟩
      have k4 : Kept wr W4 := by rw [← hW4]; exact (Kept.refl wr).alloc _ _
      have OB := Lib.hid (show OpBox W4 wr.heap.size o by rw [← hW4]; exact OpBox.new wr o _ _ rfl)
      have B4 := Lib.hid (bg.kept k4)
      have K4 := Lib.hid k4
      have HW4 := Lib.hid hW4
      have DO := Lib.hid (does_any o B4.out rg)
      obtain ⟨v0, hv0⟩ := P.out.fill.cell (k * 3) (by omega)
      obtain ⟨v1, hv1⟩ := P.out.fill.cell (k * 3 + 1) (by omega)
      obtain ⟨v2, hv2⟩ := P.out.fill.cell (k * 3 + 2) (by omega)
      have s0 := P.out.fill.soft (k * 3)
      have s1 := P.out.fill.soft (k * 3 + 1)
      have s2 := P.out.fill.soft (k * 3 + 2)
      have gl := P.out.fill.lt
      clear hc ho bg rg hW4 k4 h1 h2
      obtain ⟨p0, p1, p2, p3⟩ := OB.out
      go_upto_region 9 with fail
      rw [HW4.out]
      go_wp2_with fail
      refine DO.out.mono ?_
      rintro e w5 ⟨F, rfl, k5, hF⟩
      have FN := func_neq hF
      have FG := func_guard hF .neq
      have k45 := K4.out.trans k5
      have x0 := k45.some hv0
      have x1 := k45.some hv1
      have x2 := k45.some hv2
      have y0 := k45.soft gl s0
      have y1 := k45.soft gl s1
      have y2 := k45.soft gl s2
      have gl5 := lt_of_cell x0
      have K45 := Lib.hid k45
      clear k45 hv0 hv1 hv2 s0 s1 s2
      obtain ⟨t0, t1, t2, ht⟩ : ∃ t0 t1 t2, tell r (playQ r (l.take k)) o = ⟨t0, t1, t2⟩ := ⟨_, _, _, rfl⟩
      rw [ht]
      have HT := Lib.hid ht
      clear ht
      go_upto_region 11 with fail
      obtain ⟨W6, hW6⟩ : ∃ W6, ((((w5.setCell ⟨G, k * 3, none⟩ (.int .i64 t0)).setCell ⟨G, k * 3 + 1, none⟩ (.int .i64 t1)).setCell ⟨G, k * 3 + 2, none⟩ (.int .u64 t2)).alloc (.cells #[.int .i64 t0, .int .i64 t1, .int .u64 t2] 28)) = W6 := ⟨_, rfl⟩
      have f6 : Filled W6 G 28 (n * 3) (flatA (playA r (l.take (k + 1)))) := by
        have f := P.out.fill.kept K45.out
        have hlen3 : (flatA (playA r (l.take k))).length = k * 3 := by rw [flatA_length, playA_length, List.length_take]; have := HN.out; omega
        have f1 := f.set (.int .i64 t0) (k * 3) hlen3.symm (by omega)
        have f2 := f1.set (.int .i64 t1) (k * 3 + 1) (by rw [List.length_append, hlen3]; rfl) (by rw [List.length_append, hlen3]; simp; omega)
        have f3 := f2.set (.int .u64 t2) (k * 3 + 2) (by rw [List.length_append, List.length_append, hlen3]; rfl) (by rw [List.length_append, List.length_append, hlen3]; simp; omega)
        rw [← hW6, take_snoc l k o HO.out, playA_snoc, HT.out, flatA_snoc]
        have f4 := f3.kept ((Kept.refl _).alloc #[.int .i64 t0, .int .i64 t1, .int .u64 t2] 28)
        simpa [anc] using f4
      have b6 : But (fun j => j = G) w5 W6 := by
        rw [← hW6]
        exact ((((But.refl _ _).here _ _).here _ _).here _ _).alloc _ _
      have F6 := Lib.hid f6
      have B6 := Lib.hid b6
      have H6 := Lib.hid hW6
      have HF := Lib.hid hF
      have hbG : ¬ B = G := by omega
      have R6 := Lib.hid ((B4.out.kept k5).but b6 hbG)
      have k56 := Lib.hid (P.out.kept.trans K45.out |>.wrote1 b6 (by omega))
      have r5 : wr.heap.size ≤ W4.heap.size := K4.out.size
      have gw : G < W4.heap.size := by omega
      rw [H6.out]
      clear f6 b6 hW6 hF k5 x0 x1 x2 y0 y1 y2 o0 o1 o2 o3 p0 p1 p2 p3 gl5
      cases hact : act r (playQ r (l.take k)) o with
      | none =>
        have ha : playQ r (l.take (k + 1)) = playQ r (l.take k) := by rw [take_snoc l k o HO.out, playQ_snoc]; unfold after; rw [hact]; rfl
        have HA := Lib.hid ha
        rw [hact] at FN
        have b0 : (none : Option (Ann × List Int)).isSome = false := rfl
        rw [b0] at FN
        clear hact ha b0
        go_wp2
        go_roundw
        case rel => exact ⟨k + 1, by omega, by go_num, F6.out, by rw [HA.out]; exact ⟨R, R6.out, G1.out⟩, k56.out⟩
        case measure => simp [intOf]; omega
      | some p =>
        have ha : playQ r (l.take (k + 1)) = p.2 := by rw [take_snoc l k o HO.out, playQ_snoc]; unfold after; rw [hact]; rfl
        have HA := Lib.hid ha
        have hf := HF.out
        rw [hact] at FN hf
        have b0 : (some p).isSome = true := rfl
        rw [b0] at FN
        clear hact ha b0
        obtain ⟨y, yb, hy, ⟨z, u, zb, hz, rfl, hq, hq'⟩ | ⟨v, rfl, hq⟩ | ⟨rfl, hq⟩⟩ := hf
        · have C1 := Lib.hid (does1_any R6.out G1.out hq (B6.out.some hy (by omega)) (B6.out.some hz (by omega)))
          rw [← hq'] at C1
          clear hq hq' hy hz
          go_wp2_with fail
          go_at_call 33
          refine C1.out.mono ?_
          rintro e w7 ⟨R7, rfl, g7, k7⟩
          obtain ⟨w8, run8, but8, big8, s8⟩ := big_st (R6.out.kept k7) g7.size g7.one
          have F8 := Lib.hid ((F6.out.kept k7).but but8 (fun e => hbG e.symm))
          have K8 := Lib.hid ((k56.out.trans k7).wrote1 but8 hwB)
          have BG8 := Lib.hid big8
          have G8 := Lib.hid g7
          clear but8 s8 big8 k7 g7
          go_wp2
          go_roundw
          case rel => exact ⟨k + 1, by omega, by go_num, F8.out, by rw [HA.out]; exact ⟨R7, BG8.out, G8.out⟩, K8.out⟩
          case measure => simp [intOf]; omega
        · have G2 := G1.out
          rw [hq] at G2
          have C2 := Lib.hid (does2_any R6.out G2 (B6.out.some hy (by omega)))
          clear hq hy G2
          go_wp2_with fail
          go_at_call 37
          refine C2.out.mono ?_
          rintro e w7 ⟨R7, rfl, g7, k7⟩
          obtain ⟨w8, run8, but8, big8, s8⟩ := big_st (R6.out.kept k7) g7.size g7.one
          have F8 := Lib.hid ((F6.out.kept k7).but but8 (fun e => hbG e.symm))
          have K8 := Lib.hid ((k56.out.trans k7).wrote1 but8 hwB)
          have BG8 := Lib.hid big8
          have G8 := Lib.hid g7
          clear but8 s8 big8 k7 g7
          go_wp2
          go_roundw
          case rel => exact ⟨k + 1, by omega, by go_num, F8.out, by rw [HA.out]; exact ⟨R7, BG8.out, G8.out⟩, K8.out⟩
          case measure => simp [intOf]; omega
        · have G2 := G1.out
          rw [← hq] at G2
          have C3 := Lib.hid (does3_any R6.out G2 (B6.out.some hy (by omega)))
          clear hq hy G2
          go_wp2_with fail
          go_at_call 39
          refine C3.out.mono ?_
          rintro e w7 ⟨R7, rfl, g7, k7⟩
          obtain ⟨w8, run8, but8, big8, s8⟩ := big_st (R6.out.kept k7) g7.size g7.one
          have F8 := Lib.hid ((F6.out.kept k7).but but8 (fun e => hbG e.symm))
          have K8 := Lib.hid ((k56.out.trans k7).wrote1 but8 hwB)
          have BG8 := Lib.hid big8
          have G8 := Lib.hid g7
          clear but8 s8 big8 k7 g7
          go_wp2
          go_roundw
          case rel => exact ⟨k + 1, by omega, by go_num, F8.out, by rw [HA.out]; exact ⟨R7, BG8.out, G8.out⟩, K8.out⟩
          case measure => simp [intOf]; omega
    · have hkn : k = n := by omega
      subst hkn
      obtain ⟨R, bg, rg⟩ := P.out.ring
      have LI := Lib.hid (list_any bg rg)
      have GL := P.out.fill.lt
      clear bg rg
      go_wp2_with fail
      refine LI.out.mono ?_
      rintro e w7 ⟨a7, c7, rfl, k7, own7⟩
      have K7 := Lib.hid (P.out.kept.trans k7)
      have F7 := Lib.hid (P.out.fill.kept k7)
      have hk7 := k7.size
      have hpk := P.out.kept.size
      have O7 := Lib.hid own7
      clear k7 own7
      go_wp2
      have hlk : l.take k = l := by rw [HN.out]; exact List.take_length
      have O8 := O7.out
      have F8 := F7.out
      rw [hlk] at O8 F8 ⊢
      have hak : (playA r l).length = k := by rw [playA_length]; exact HN.out.symm
      refine bodyPost_ret (v := .tuple #[.slice (some ⟨G, 0, none⟩) k k, .slice a7 (playQ r l).length c7, .int .i64 0]) (by simp [results, Try.results19, go_sem]) rfl
        ⟨some ⟨G, 0, none⟩, k, a7, c7, by rw [hak], K7.out, ?_, own_mono O8 hpk, fun g hg e => ?_⟩
      · have h := F8.own (base := w.heap.size) (size := 3) (m := k) (by rw [flatA_length, hak]) rfl (by omega) (by unfold maxLen; omega)
        show w7.ownsRow _ _ 3 (.slice _ (playA r l).length _) (playA r l).length _
        rw [hak]
        exact h
      · have h1 := (O8.lt g e).1
        simp [Value.ownBlock] at hg
        omega

theorem play_no {w : World} {a : Option Addr} {n c : Nat} (room : Int) (hz : chkF room 0 ≠ 0) :
    Calls Try.prog 19 #[.int .i64 room, .slice a n c] w (RetP w [] [] (chkF room 0)) := by
  have CK := Lib.hid (check_any w room none 0 0)
  obtain ⟨x, hx⟩ : ∃ x, x = chkF room 0 := ⟨_, rfl⟩
  rw [← hx] at CK hz ⊢
  have b1 : (x != 0) = true := by simpa using hz
  clear hz hx
  go_enter Try.func19, Try.ntmps19
  go_wp2_with fail
  refine CK.out.mono ?_
  rintro e w1 ⟨rfl, rfl⟩
  go_wp2
  refine bodyPost_ret (v := .tuple #[.slice none 0 0, .slice none 0 0, .int .i64 x]) (by simp [results, Try.results19, go_sem]) rfl ⟨none, 0, none, 0, rfl, Kept.refl _, World.ownsRow_nil _ _ _ _, World.ownsRow_nil _ _ _ _, fun g hg => by cases hg⟩
/-- Of any room. -/
def plA (room : Int) (l : List Opn) : List Ann := if chkF room 0 = 0 then playA room.toNat l else []
def plQ (room : Int) (l : List Opn) : List Int := if chkF room 0 = 0 then playQ room.toNat l else []
theorem play_any {w : World} {a : Option Addr} {c : Nat} (room : Int) {l : List Opn} (hl : Lay w (.slice a l.length c) l.length (flatO l)) (hlen : l.length ≤ 1000) :
    Calls Try.prog 19 #[.int .i64 room, .slice a l.length c] w (RetP w (plA room l) (plQ room l) (chkF room 0)) := by
  by_cases hz : chkF room 0 = 0
  · obtain ⟨r1, r2, _⟩ := chk_zero hz
    obtain ⟨r, rfl⟩ : ∃ r : Nat, room = r := ⟨room.toNat, by omega⟩
    unfold plA plQ
    rw [if_pos hz, if_pos hz, hz]
    exact play_ok hl hlen (by omega) (by omega)
  · unfold plA plQ
    rw [if_neg hz, if_neg hz]
    exact play_no room hz
end Go.Proofs.Ytpmalbdnjpbijaa
