/- The document's Answer. -/
import Derived.Test.YteomggjkdaddhaaHeRef
namespace Go.Proofs.Yteomggjkdaddhaa
open Go.RowKit

set_option maxRecDepth 100000 in
set_option maxHeartbeats 4000000 in
theorem refAnswer_bad {w : World} {a : Option Addr} {c n : Nat} {l : List It} {o : Opn} (h : Lay w (.slice a n c) n (flatI l)) (hn : n = (l).length) {z : Int} (hz : chk l = z) (hz0 : z ≠ 0) :
    Calls Try.prog 14 #[.slice a n c, .agg #[.int .i64 o.k, .int .i64 o.a, .int .i64 o.b, .int .u64 o.u]] w (RetA w (tellS l o)) := by
  obtain ⟨W0, hW0⟩ : ∃ W0, ((w.alloc (.cells #[.int .i64 o.k, .int .i64 o.a, .int .i64 o.b, .int .u64 o.u] 25)).alloc (.cells #[.int .i64 0, .int .i64 0, .int .u64 0] 28)) = W0 := ⟨_, rfl⟩
  have OB := Lib.hid (show OpBox W0 w.heap.size o by rw [← hW0]; exact (OpBox.new w o _ _ rfl).kept ((Kept.refl _).alloc _ _))
  have AB := Lib.hid (show AnBox W0 (w.heap.size + 1) noAnn by rw [← hW0]; exact AnBox.new _ noAnn _ _ (by simp))
  have k0 : Kept w W0 := by rw [← hW0]; exact ((Kept.refl w).alloc _ _).alloc _ _
  have HL := Lib.hid (h.kept k0)
  have K0 := Lib.hid k0
  have HW := Lib.hid hW0
  have HN := Lib.hid hn
  have CK := Lib.hid (refChk_at (h.kept k0) hn hz)
  have hb : (z != 0) = true := by simpa using hz0
  have HF0 := Lib.hid (tell_bad (o := o) (l := l) (by rw [hz]; exact hz0))
  obtain ⟨p, hp⟩ : ∃ p, tellS l o = p := ⟨_, rfl⟩
  have HP := Lib.hid hp
  rw [hp]
  clear h hn hW0 k0 hp hz hz0
  obtain ⟨p0, p1, p2, p3⟩ := OB.out
  go_enter Try.func14, Try.ntmps14
  go_upto_region 1 with fail
  rw [HW.out]
  go_wp2_with fail; refine CK.out.mono ?_; rintro e w1 ⟨rfl, k1⟩
  have K1 := Lib.hid k1
  clear k1 p0 p1 p2 p3
  have HF := Lib.hid (HP.out.symm.trans HF0.out)
  have A2 := Lib.hid (AB.out.kept K1.out)
  obtain ⟨z0, z1, z2, s⟩ := A2.out
  have s0 := s 0
  have s1 := s 1
  have s2 := s 2
  clear s
  go_wp2
  exact bodyPost_ret (ans_result Try.results14 rfl rfl (A2.out.put noAnn)) rfl (RetA.none HF.out ((K0.out.trans K1.out).wrote1 ((((But.refl _ _).here _ _).here _ _).here _ _) (by omega)))

set_option maxRecDepth 100000 in
set_option maxHeartbeats 4000000 in
theorem refAnswer_double {w : World} {a : Option Addr} {c n : Nat} {l : List It} {o : Opn} (h : Lay w (.slice a n c) n (flatI l)) (hn : n = (l).length) (hz : chk l = 0) (hk : o.k = 4) (hd : hs o.u l = true) :
    Calls Try.prog 14 #[.slice a n c, .agg #[.int .i64 o.k, .int .i64 o.a, .int .i64 o.b, .int .u64 o.u]] w (RetA w (tellS l o)) := by
  obtain ⟨W0, hW0⟩ : ∃ W0, ((w.alloc (.cells #[.int .i64 o.k, .int .i64 o.a, .int .i64 o.b, .int .u64 o.u] 25)).alloc (.cells #[.int .i64 0, .int .i64 0, .int .u64 0] 28)) = W0 := ⟨_, rfl⟩
  have OB := Lib.hid (show OpBox W0 w.heap.size o by rw [← hW0]; exact (OpBox.new w o _ _ rfl).kept ((Kept.refl _).alloc _ _))
  have AB := Lib.hid (show AnBox W0 (w.heap.size + 1) noAnn by rw [← hW0]; exact AnBox.new _ noAnn _ _ (by simp))
  have k0 : Kept w W0 := by rw [← hW0]; exact ((Kept.refl w).alloc _ _).alloc _ _
  have HL := Lib.hid (h.kept k0)
  have K0 := Lib.hid k0
  have HW := Lib.hid hW0
  have HN := Lib.hid hn
  have CK := Lib.hid (refChk_at (h.kept k0) hn hz)
  obtain ⟨Pl, hPl⟩ : ∃ Pl, pl o.u l = Pl := ⟨_, rfl⟩
  obtain ⟨Hs, hHs⟩ : ∃ Hs, hs o.u l = Hs := ⟨_, rfl⟩
  have PC := Lib.hid (fun W (k : Kept W0 W) => refPlace_any o.u ((h.kept k0).kept k) hn)
  rw [hPl, hHs] at PC
  have HF0 := Lib.hid (show tellS l o = some ⟨8, 0, 0⟩ by rw [tell_put hz hk, if_pos hd])
  have hb : Hs = true := by rw [← hHs]; exact hd
  subst hb
  have HK := Lib.hid hk
  obtain ⟨p, hp⟩ : ∃ p, tellS l o = p := ⟨_, rfl⟩
  have HP := Lib.hid hp
  rw [hp]
  clear h hn hW0 k0 hp hz hk hd hPl hHs
  obtain ⟨p0, p1, p2, p3⟩ := OB.out
  go_enter Try.func14, Try.ntmps14
  go_upto_region 1 with fail
  rw [HW.out]
  go_wp2_with fail; refine CK.out.mono ?_; rintro e w1 ⟨rfl, k1⟩
  have K1 := Lib.hid k1
  clear k1 p0 p1 p2 p3
  have HF := Lib.hid (HP.out.symm.trans HF0.out)
  obtain ⟨p0, p1, p2, p3⟩ := OB.out.kept K1.out
  go_wp2_with fail; refine (PC.out _ K1.out).mono ?_; rintro e w2 ⟨rfl, k2⟩
  have K2 := Lib.hid (K1.out.trans k2)
  clear k2 p0 p1 p2 p3
  obtain ⟨p0, p1, p2, p3⟩ := OB.out.kept K2.out
  have A2 := Lib.hid (AB.out.kept K2.out)
  obtain ⟨z0, z1, z2, s⟩ := A2.out
  have s0 := s 0
  have s1 := s 1
  have s2 := s 2
  clear s
  rw [HK.out] at p0
  go_wp2
  exact bodyPost_ret (ans_result Try.results14 rfl rfl (A2.out.put ⟨8, 0, 0⟩)) rfl (RetA.some HF.out ((K0.out.trans K2.out).wrote1 ((((But.refl _ _).here _ _).here _ _).here _ _) (by omega)))

set_option maxRecDepth 100000 in
set_option maxHeartbeats 4000000 in
theorem refAnswer_room {w : World} {a : Option Addr} {c n : Nat} {l : List It} {o : Opn} (h : Lay w (.slice a n c) n (flatI l)) (hn : n = (l).length) (hz : chk l = 0) (hk : o.k = 4) (hd : hs o.u l = false) (hr : n < 1024) :
    Calls Try.prog 14 #[.slice a n c, .agg #[.int .i64 o.k, .int .i64 o.a, .int .i64 o.b, .int .u64 o.u]] w (RetA w (tellS l o)) := by
  obtain ⟨W0, hW0⟩ : ∃ W0, ((w.alloc (.cells #[.int .i64 o.k, .int .i64 o.a, .int .i64 o.b, .int .u64 o.u] 25)).alloc (.cells #[.int .i64 0, .int .i64 0, .int .u64 0] 28)) = W0 := ⟨_, rfl⟩
  have OB := Lib.hid (show OpBox W0 w.heap.size o by rw [← hW0]; exact (OpBox.new w o _ _ rfl).kept ((Kept.refl _).alloc _ _))
  have AB := Lib.hid (show AnBox W0 (w.heap.size + 1) noAnn by rw [← hW0]; exact AnBox.new _ noAnn _ _ (by simp))
  have k0 : Kept w W0 := by rw [← hW0]; exact ((Kept.refl w).alloc _ _).alloc _ _
  have HL := Lib.hid (h.kept k0)
  have K0 := Lib.hid k0
  have HW := Lib.hid hW0
  have HN := Lib.hid hn
  have CK := Lib.hid (refChk_at (h.kept k0) hn hz)
  obtain ⟨Pl, hPl⟩ : ∃ Pl, pl o.u l = Pl := ⟨_, rfl⟩
  obtain ⟨Hs, hHs⟩ : ∃ Hs, hs o.u l = Hs := ⟨_, rfl⟩
  have PC := Lib.hid (fun W (k : Kept W0 W) => refPlace_any o.u ((h.kept k0).kept k) hn)
  rw [hPl, hHs] at PC
  have HF0 := Lib.hid (show tellS l o = some ⟨0, 0, 0⟩ by rw [tell_put hz hk, if_neg (by rw [hd]; decide), if_pos (by omega)])
  have hb : Hs = false := by rw [← hHs]; exact hd
  subst hb
  have HK := Lib.hid hk
  have hr' : (n : Int) < 1024 := by omega
  obtain ⟨p, hp⟩ : ∃ p, tellS l o = p := ⟨_, rfl⟩
  have HP := Lib.hid hp
  rw [hp]
  clear h hn hW0 k0 hp hz hk hd hPl hHs
  obtain ⟨p0, p1, p2, p3⟩ := OB.out
  go_enter Try.func14, Try.ntmps14
  go_upto_region 1 with fail
  rw [HW.out]
  go_wp2_with fail; refine CK.out.mono ?_; rintro e w1 ⟨rfl, k1⟩
  have K1 := Lib.hid k1
  clear k1 p0 p1 p2 p3
  have HF := Lib.hid (HP.out.symm.trans HF0.out)
  obtain ⟨p0, p1, p2, p3⟩ := OB.out.kept K1.out
  go_wp2_with fail; refine (PC.out _ K1.out).mono ?_; rintro e w2 ⟨rfl, k2⟩
  have K2 := Lib.hid (K1.out.trans k2)
  clear k2 p0 p1 p2 p3
  obtain ⟨p0, p1, p2, p3⟩ := OB.out.kept K2.out
  have A2 := Lib.hid (AB.out.kept K2.out)
  obtain ⟨z0, z1, z2, s⟩ := A2.out
  have s0 := s 0
  have s1 := s 1
  have s2 := s 2
  clear s
  rw [HK.out] at p0
  go_wp2
  exact bodyPost_ret (ans_result Try.results14 rfl rfl (A2.out.put ⟨0, 0, 0⟩)) rfl (RetA.some HF.out ((K0.out.trans K2.out).wrote1 ((((But.refl _ _).here _ _).here _ _).here _ _) (by omega)))

set_option maxRecDepth 100000 in
set_option maxHeartbeats 4000000 in
theorem refAnswer_full {w : World} {a : Option Addr} {c n : Nat} {l : List It} {o : Opn} (h : Lay w (.slice a n c) n (flatI l)) (hn : n = (l).length) (hz : chk l = 0) (hk : o.k = 4) (hd : hs o.u l = false) (hr : ¬ n < 1024) :
    Calls Try.prog 14 #[.slice a n c, .agg #[.int .i64 o.k, .int .i64 o.a, .int .i64 o.b, .int .u64 o.u]] w (RetA w (tellS l o)) := by
  obtain ⟨W0, hW0⟩ : ∃ W0, ((w.alloc (.cells #[.int .i64 o.k, .int .i64 o.a, .int .i64 o.b, .int .u64 o.u] 25)).alloc (.cells #[.int .i64 0, .int .i64 0, .int .u64 0] 28)) = W0 := ⟨_, rfl⟩
  have OB := Lib.hid (show OpBox W0 w.heap.size o by rw [← hW0]; exact (OpBox.new w o _ _ rfl).kept ((Kept.refl _).alloc _ _))
  have AB := Lib.hid (show AnBox W0 (w.heap.size + 1) noAnn by rw [← hW0]; exact AnBox.new _ noAnn _ _ (by simp))
  have k0 : Kept w W0 := by rw [← hW0]; exact ((Kept.refl w).alloc _ _).alloc _ _
  have HL := Lib.hid (h.kept k0)
  have K0 := Lib.hid k0
  have HW := Lib.hid hW0
  have HN := Lib.hid hn
  have CK := Lib.hid (refChk_at (h.kept k0) hn hz)
  obtain ⟨Pl, hPl⟩ : ∃ Pl, pl o.u l = Pl := ⟨_, rfl⟩
  obtain ⟨Hs, hHs⟩ : ∃ Hs, hs o.u l = Hs := ⟨_, rfl⟩
  have PC := Lib.hid (fun W (k : Kept W0 W) => refPlace_any o.u ((h.kept k0).kept k) hn)
  rw [hPl, hHs] at PC
  have HF0 := Lib.hid (show tellS l o = none by rw [tell_put hz hk, if_neg (by rw [hd]; decide), if_neg (by omega)])
  have hb : Hs = false := by rw [← hHs]; exact hd
  subst hb
  have HK := Lib.hid hk
  have hr' : decide ((n : Int) < 1024) = false := by simp; omega
  obtain ⟨p, hp⟩ : ∃ p, tellS l o = p := ⟨_, rfl⟩
  have HP := Lib.hid hp
  rw [hp]
  clear h hn hW0 k0 hp hz hk hd hPl hHs
  obtain ⟨p0, p1, p2, p3⟩ := OB.out
  go_enter Try.func14, Try.ntmps14
  go_upto_region 1 with fail
  rw [HW.out]
  go_wp2_with fail; refine CK.out.mono ?_; rintro e w1 ⟨rfl, k1⟩
  have K1 := Lib.hid k1
  clear k1 p0 p1 p2 p3
  have HF := Lib.hid (HP.out.symm.trans HF0.out)
  obtain ⟨p0, p1, p2, p3⟩ := OB.out.kept K1.out
  go_wp2_with fail; refine (PC.out _ K1.out).mono ?_; rintro e w2 ⟨rfl, k2⟩
  have K2 := Lib.hid (K1.out.trans k2)
  clear k2 p0 p1 p2 p3
  obtain ⟨p0, p1, p2, p3⟩ := OB.out.kept K2.out
  have A2 := Lib.hid (AB.out.kept K2.out)
  obtain ⟨z0, z1, z2, s⟩ := A2.out
  have s0 := s 0
  have s1 := s 1
  have s2 := s 2
  clear s
  rw [HK.out] at p0
  go_wp2
  exact bodyPost_ret (ans_result Try.results14 rfl rfl (A2.out.put noAnn)) rfl (RetA.none HF.out ((K0.out.trans K2.out).wrote1 ((((But.refl _ _).here _ _).here _ _).here _ _) (by omega)))

set_option maxRecDepth 100000 in
set_option maxHeartbeats 4000000 in
theorem refAnswer_else {w : World} {a : Option Addr} {c n : Nat} {l : List It} {o : Opn} (h : Lay w (.slice a n c) n (flatI l)) (hn : n = (l).length) (hz : chk l = 0) (h4 : o.k ≠ 4) (h5 : o.k ≠ 5) (h6 : o.k ≠ 6) :
    Calls Try.prog 14 #[.slice a n c, .agg #[.int .i64 o.k, .int .i64 o.a, .int .i64 o.b, .int .u64 o.u]] w (RetA w (tellS l o)) := by
  obtain ⟨W0, hW0⟩ : ∃ W0, ((w.alloc (.cells #[.int .i64 o.k, .int .i64 o.a, .int .i64 o.b, .int .u64 o.u] 25)).alloc (.cells #[.int .i64 0, .int .i64 0, .int .u64 0] 28)) = W0 := ⟨_, rfl⟩
  have OB := Lib.hid (show OpBox W0 w.heap.size o by rw [← hW0]; exact (OpBox.new w o _ _ rfl).kept ((Kept.refl _).alloc _ _))
  have AB := Lib.hid (show AnBox W0 (w.heap.size + 1) noAnn by rw [← hW0]; exact AnBox.new _ noAnn _ _ (by simp))
  have k0 : Kept w W0 := by rw [← hW0]; exact ((Kept.refl w).alloc _ _).alloc _ _
  have HL := Lib.hid (h.kept k0)
  have K0 := Lib.hid k0
  have HW := Lib.hid hW0
  have HN := Lib.hid hn
  have CK := Lib.hid (refChk_at (h.kept k0) hn hz)
  obtain ⟨Pl, hPl⟩ : ∃ Pl, pl o.u l = Pl := ⟨_, rfl⟩
  obtain ⟨Hs, hHs⟩ : ∃ Hs, hs o.u l = Hs := ⟨_, rfl⟩
  have PC := Lib.hid (fun W (k : Kept W0 W) => refPlace_any o.u ((h.kept k0).kept k) hn)
  rw [hPl, hHs] at PC
  have HF0 := Lib.hid (tell_else (l := l) h4 h5 h6)
  have b4 : (o.k == 4) = false := by simpa using h4
  have b5 : (o.k != 5) = true := by simpa using h5
  have b6 : (o.k != 6) = true := by simpa using h6
  obtain ⟨p, hp⟩ : ∃ p, tellS l o = p := ⟨_, rfl⟩
  have HP := Lib.hid hp
  rw [hp]
  clear h hn hW0 k0 hp hz h4 h5 h6 hPl hHs
  obtain ⟨p0, p1, p2, p3⟩ := OB.out
  go_enter Try.func14, Try.ntmps14
  go_upto_region 1 with fail
  rw [HW.out]
  go_wp2_with fail; refine CK.out.mono ?_; rintro e w1 ⟨rfl, k1⟩
  have K1 := Lib.hid k1
  clear k1 p0 p1 p2 p3
  have HF := Lib.hid (HP.out.symm.trans HF0.out)
  obtain ⟨p0, p1, p2, p3⟩ := OB.out.kept K1.out
  go_wp2_with fail; refine (PC.out _ K1.out).mono ?_; rintro e w2 ⟨rfl, k2⟩
  have K2 := Lib.hid (K1.out.trans k2)
  clear k2 p0 p1 p2 p3
  obtain ⟨p0, p1, p2, p3⟩ := OB.out.kept K2.out
  have A2 := Lib.hid (AB.out.kept K2.out)
  obtain ⟨z0, z1, z2, s⟩ := A2.out
  have s0 := s 0
  have s1 := s 1
  have s2 := s 2
  clear s
  go_wp2
  exact bodyPost_ret (ans_result Try.results14 rfl rfl (A2.out.put noAnn)) rfl (RetA.none HF.out ((K0.out.trans K2.out).wrote1 ((((But.refl _ _).here _ _).here _ _).here _ _) (by omega)))

set_option maxRecDepth 100000 in
set_option maxHeartbeats 4000000 in
theorem refAnswer_none5 {w : World} {a : Option Addr} {c n : Nat} {l : List It} {o : Opn} (h : Lay w (.slice a n c) n (flatI l)) (hn : n = (l).length) (hk : o.k = 5) (hl : l = []) :
    Calls Try.prog 14 #[.slice a n c, .agg #[.int .i64 o.k, .int .i64 o.a, .int .i64 o.b, .int .u64 o.u]] w (RetA w (tellS l o)) := by
  obtain ⟨W0, hW0⟩ : ∃ W0, ((w.alloc (.cells #[.int .i64 o.k, .int .i64 o.a, .int .i64 o.b, .int .u64 o.u] 25)).alloc (.cells #[.int .i64 0, .int .i64 0, .int .u64 0] 28)) = W0 := ⟨_, rfl⟩
  have OB := Lib.hid (show OpBox W0 w.heap.size o by rw [← hW0]; exact (OpBox.new w o _ _ rfl).kept ((Kept.refl _).alloc _ _))
  have AB := Lib.hid (show AnBox W0 (w.heap.size + 1) noAnn by rw [← hW0]; exact AnBox.new _ noAnn _ _ (by simp))
  have k0 : Kept w W0 := by rw [← hW0]; exact ((Kept.refl w).alloc _ _).alloc _ _
  have HL := Lib.hid (h.kept k0)
  have K0 := Lib.hid k0
  have HW := Lib.hid hW0
  have HN := Lib.hid hn
  have hz : chk l = 0 := by rw [hl]; rfl
  have CK := Lib.hid (refChk_at (h.kept k0) hn hz)
  obtain ⟨Pl, hPl⟩ : ∃ Pl, pl o.u l = Pl := ⟨_, rfl⟩
  obtain ⟨Hs, hHs⟩ : ∃ Hs, hs o.u l = Hs := ⟨_, rfl⟩
  have PC := Lib.hid (fun W (k : Kept W0 W) => refPlace_any o.u ((h.kept k0).kept k) hn)
  rw [hPl, hHs] at PC
  have HF0 := Lib.hid (show tellS l o = some ⟨15, 0, 0⟩ by rw [hl]; exact tell_pick0 (.inl hk))
  have HK := Lib.hid hk
  have hn0 : n = 0 := by rw [hn, hl]; rfl
  subst hn0
  obtain ⟨p, hp⟩ : ∃ p, tellS l o = p := ⟨_, rfl⟩
  have HP := Lib.hid hp
  rw [hp]
  clear h hn hW0 k0 hp hz hk hPl hHs hl
  obtain ⟨p0, p1, p2, p3⟩ := OB.out
  go_enter Try.func14, Try.ntmps14
  go_upto_region 1 with fail
  rw [HW.out]
  go_wp2_with fail; refine CK.out.mono ?_; rintro e w1 ⟨rfl, k1⟩
  have K1 := Lib.hid k1
  clear k1 p0 p1 p2 p3
  have HF := Lib.hid (HP.out.symm.trans HF0.out)
  obtain ⟨p0, p1, p2, p3⟩ := OB.out.kept K1.out
  go_wp2_with fail; refine (PC.out _ K1.out).mono ?_; rintro e w2 ⟨rfl, k2⟩
  have K2 := Lib.hid (K1.out.trans k2)
  clear k2 p0 p1 p2 p3
  obtain ⟨p0, p1, p2, p3⟩ := OB.out.kept K2.out
  have A2 := Lib.hid (AB.out.kept K2.out)
  obtain ⟨z0, z1, z2, s⟩ := A2.out
  have s0 := s 0
  have s1 := s 1
  have s2 := s 2
  clear s
  rw [HK.out] at p0
  go_wp2
  exact bodyPost_ret (ans_result Try.results14 rfl rfl (A2.out.put ⟨15, 0, 0⟩)) rfl (RetA.some HF.out ((K0.out.trans K2.out).wrote1 ((((But.refl _ _).here _ _).here _ _).here _ _) (by omega)))

set_option maxRecDepth 100000 in
set_option maxHeartbeats 4000000 in
theorem refAnswer_some5 {w : World} {a : Option Addr} {c n : Nat} {x : It} {r : List It} {o : Opn} (h : Lay w (.slice a n c) n (flatI (x :: r))) (hn : n = ((x :: r)).length) (hz : chk (x :: r) = 0) (hk : o.k = 5) :
    Calls Try.prog 14 #[.slice a n c, .agg #[.int .i64 o.k, .int .i64 o.a, .int .i64 o.b, .int .u64 o.u]] w (RetA w (tellS (x :: r) o)) := by
  obtain ⟨W0, hW0⟩ : ∃ W0, ((w.alloc (.cells #[.int .i64 o.k, .int .i64 o.a, .int .i64 o.b, .int .u64 o.u] 25)).alloc (.cells #[.int .i64 0, .int .i64 0, .int .u64 0] 28)) = W0 := ⟨_, rfl⟩
  have OB := Lib.hid (show OpBox W0 w.heap.size o by rw [← hW0]; exact (OpBox.new w o _ _ rfl).kept ((Kept.refl _).alloc _ _))
  have AB := Lib.hid (show AnBox W0 (w.heap.size + 1) noAnn by rw [← hW0]; exact AnBox.new _ noAnn _ _ (by simp))
  have k0 : Kept w W0 := by rw [← hW0]; exact ((Kept.refl w).alloc _ _).alloc _ _
  have HL := Lib.hid (h.kept k0)
  have K0 := Lib.hid k0
  have HW := Lib.hid hW0
  have HN := Lib.hid hn
  have CK := Lib.hid (refChk_at (h.kept k0) hn hz)
  obtain ⟨Pl, hPl⟩ : ∃ Pl, pl o.u (x :: r) = Pl := ⟨_, rfl⟩
  obtain ⟨Hs, hHs⟩ : ∃ Hs, hs o.u (x :: r) = Hs := ⟨_, rfl⟩
  have PC := Lib.hid (fun W (k : Kept W0 W) => refPlace_any o.u ((h.kept k0).kept k) hn)
  rw [hPl, hHs] at PC
  have HF0 := Lib.hid (show tellS (x :: r) o = some ⟨0, x.a, x.k⟩ from tell_pick hz (.inl hk))
  have HK := Lib.hid hk
  have hb : ((n : Int) == 0) = false := by simp at hn ⊢; omega
  have hn0 : 0 < n := by simp at hn; omega
  have hn0' : (0 : Int) < n := by omega
  obtain ⟨g, of, c', e, hnc, hcm, hc⟩ : ∃ g of c', Value.slice a n c = .slice (some ⟨g, of, none⟩) n c' ∧ n ≤ c' ∧ c' ≤ maxLen ∧ ItAt W0 g of x := by
    have h' := h.kept k0
    rw [hn] at h'
    obtain ⟨g, of, c', e, h1, h2, h3⟩ := h'.it (by simp)
    cases e
    exact ⟨g, of, c, by rw [hn], by omega, h2, by simpa using h3 0 x rfl⟩
  cases e
  unfold maxLen at hcm
  have HC := Lib.hid hc
  obtain ⟨p, hp⟩ : ∃ p, tellS (x :: r) o = p := ⟨_, rfl⟩
  have HP := Lib.hid hp
  rw [hp]
  clear h hn hW0 k0 hp hz hk hPl hHs hc
  obtain ⟨p0, p1, p2, p3⟩ := OB.out
  go_enter Try.func14, Try.ntmps14
  go_upto_region 1 with fail
  rw [HW.out]
  go_wp2_with fail; refine CK.out.mono ?_; rintro e w1 ⟨rfl, k1⟩
  have K1 := Lib.hid k1
  clear k1 p0 p1 p2 p3
  have HF := Lib.hid (HP.out.symm.trans HF0.out)
  obtain ⟨p0, p1, p2, p3⟩ := OB.out.kept K1.out
  go_wp2_with fail; refine (PC.out _ K1.out).mono ?_; rintro e w2 ⟨rfl, k2⟩
  have K2 := Lib.hid (K1.out.trans k2)
  clear k2 p0 p1 p2 p3
  obtain ⟨p0, p1, p2, p3⟩ := OB.out.kept K2.out
  have A2 := Lib.hid (AB.out.kept K2.out)
  obtain ⟨z0, z1, z2, s⟩ := A2.out
  have s0 := s 0
  have s1 := s 1
  have s2 := s 2
  clear s
  rw [HK.out] at p0
  obtain ⟨i0, i1⟩ := HC.out.kept K2.out
  have gl := lt_of_cell i0
  go_wp2
  go_region
  go_wp2
  exact bodyPost_ret (ans_result Try.results14 rfl rfl ((A2.out.put ⟨0, x.a, x.k⟩).kept ((Kept.refl _).drew))) rfl (RetA.some HF.out ((K0.out.trans K2.out).wrote1 ((((But.refl _ _).here _ _).here _ _).here _ _) (by omega)).drew)

set_option maxRecDepth 100000 in
set_option maxHeartbeats 4000000 in
theorem refAnswer_none6 {w : World} {a : Option Addr} {c n : Nat} {l : List It} {o : Opn} (h : Lay w (.slice a n c) n (flatI l)) (hn : n = (l).length) (hk : o.k = 6) (hl : l = []) :
    Calls Try.prog 14 #[.slice a n c, .agg #[.int .i64 o.k, .int .i64 o.a, .int .i64 o.b, .int .u64 o.u]] w (RetA w (tellS l o)) := by
  obtain ⟨W0, hW0⟩ : ∃ W0, ((w.alloc (.cells #[.int .i64 o.k, .int .i64 o.a, .int .i64 o.b, .int .u64 o.u] 25)).alloc (.cells #[.int .i64 0, .int .i64 0, .int .u64 0] 28)) = W0 := ⟨_, rfl⟩
  have OB := Lib.hid (show OpBox W0 w.heap.size o by rw [← hW0]; exact (OpBox.new w o _ _ rfl).kept ((Kept.refl _).alloc _ _))
  have AB := Lib.hid (show AnBox W0 (w.heap.size + 1) noAnn by rw [← hW0]; exact AnBox.new _ noAnn _ _ (by simp))
  have k0 : Kept w W0 := by rw [← hW0]; exact ((Kept.refl w).alloc _ _).alloc _ _
  have HL := Lib.hid (h.kept k0)
  have K0 := Lib.hid k0
  have HW := Lib.hid hW0
  have HN := Lib.hid hn
  have hz : chk l = 0 := by rw [hl]; rfl
  have CK := Lib.hid (refChk_at (h.kept k0) hn hz)
  obtain ⟨Pl, hPl⟩ : ∃ Pl, pl o.u l = Pl := ⟨_, rfl⟩
  obtain ⟨Hs, hHs⟩ : ∃ Hs, hs o.u l = Hs := ⟨_, rfl⟩
  have PC := Lib.hid (fun W (k : Kept W0 W) => refPlace_any o.u ((h.kept k0).kept k) hn)
  rw [hPl, hHs] at PC
  have HF0 := Lib.hid (show tellS l o = some ⟨15, 0, 0⟩ by rw [hl]; exact tell_pick0 (.inr hk))
  have HK := Lib.hid hk
  have hn0 : n = 0 := by rw [hn, hl]; rfl
  subst hn0
  obtain ⟨p, hp⟩ : ∃ p, tellS l o = p := ⟨_, rfl⟩
  have HP := Lib.hid hp
  rw [hp]
  clear h hn hW0 k0 hp hz hk hPl hHs hl
  obtain ⟨p0, p1, p2, p3⟩ := OB.out
  go_enter Try.func14, Try.ntmps14
  go_upto_region 1 with fail
  rw [HW.out]
  go_wp2_with fail; refine CK.out.mono ?_; rintro e w1 ⟨rfl, k1⟩
  have K1 := Lib.hid k1
  clear k1 p0 p1 p2 p3
  have HF := Lib.hid (HP.out.symm.trans HF0.out)
  obtain ⟨p0, p1, p2, p3⟩ := OB.out.kept K1.out
  go_wp2_with fail; refine (PC.out _ K1.out).mono ?_; rintro e w2 ⟨rfl, k2⟩
  have K2 := Lib.hid (K1.out.trans k2)
  clear k2 p0 p1 p2 p3
  obtain ⟨p0, p1, p2, p3⟩ := OB.out.kept K2.out
  have A2 := Lib.hid (AB.out.kept K2.out)
  obtain ⟨z0, z1, z2, s⟩ := A2.out
  have s0 := s 0
  have s1 := s 1
  have s2 := s 2
  clear s
  rw [HK.out] at p0
  go_wp2
  exact bodyPost_ret (ans_result Try.results14 rfl rfl (A2.out.put ⟨15, 0, 0⟩)) rfl (RetA.some HF.out ((K0.out.trans K2.out).wrote1 ((((But.refl _ _).here _ _).here _ _).here _ _) (by omega)))

set_option maxRecDepth 100000 in
set_option maxHeartbeats 4000000 in
theorem refAnswer_some6 {w : World} {a : Option Addr} {c n : Nat} {x : It} {r : List It} {o : Opn} (h : Lay w (.slice a n c) n (flatI (x :: r))) (hn : n = ((x :: r)).length) (hz : chk (x :: r) = 0) (hk : o.k = 6) :
    Calls Try.prog 14 #[.slice a n c, .agg #[.int .i64 o.k, .int .i64 o.a, .int .i64 o.b, .int .u64 o.u]] w (RetA w (tellS (x :: r) o)) := by
  obtain ⟨W0, hW0⟩ : ∃ W0, ((w.alloc (.cells #[.int .i64 o.k, .int .i64 o.a, .int .i64 o.b, .int .u64 o.u] 25)).alloc (.cells #[.int .i64 0, .int .i64 0, .int .u64 0] 28)) = W0 := ⟨_, rfl⟩
  have OB := Lib.hid (show OpBox W0 w.heap.size o by rw [← hW0]; exact (OpBox.new w o _ _ rfl).kept ((Kept.refl _).alloc _ _))
  have AB := Lib.hid (show AnBox W0 (w.heap.size + 1) noAnn by rw [← hW0]; exact AnBox.new _ noAnn _ _ (by simp))
  have k0 : Kept w W0 := by rw [← hW0]; exact ((Kept.refl w).alloc _ _).alloc _ _
  have HL := Lib.hid (h.kept k0)
  have K0 := Lib.hid k0
  have HW := Lib.hid hW0
  have HN := Lib.hid hn
  have CK := Lib.hid (refChk_at (h.kept k0) hn hz)
  obtain ⟨Pl, hPl⟩ : ∃ Pl, pl o.u (x :: r) = Pl := ⟨_, rfl⟩
  obtain ⟨Hs, hHs⟩ : ∃ Hs, hs o.u (x :: r) = Hs := ⟨_, rfl⟩
  have PC := Lib.hid (fun W (k : Kept W0 W) => refPlace_any o.u ((h.kept k0).kept k) hn)
  rw [hPl, hHs] at PC
  have HF0 := Lib.hid (show tellS (x :: r) o = some ⟨0, x.a, x.k⟩ from tell_pick hz (.inr hk))
  have HK := Lib.hid hk
  have hb : ((n : Int) == 0) = false := by simp at hn ⊢; omega
  have hn0 : 0 < n := by simp at hn; omega
  have hn0' : (0 : Int) < n := by omega
  obtain ⟨g, of, c', e, hnc, hcm, hc⟩ : ∃ g of c', Value.slice a n c = .slice (some ⟨g, of, none⟩) n c' ∧ n ≤ c' ∧ c' ≤ maxLen ∧ ItAt W0 g of x := by
    have h' := h.kept k0
    rw [hn] at h'
    obtain ⟨g, of, c', e, h1, h2, h3⟩ := h'.it (by simp)
    cases e
    exact ⟨g, of, c, by rw [hn], by omega, h2, by simpa using h3 0 x rfl⟩
  cases e
  unfold maxLen at hcm
  have HC := Lib.hid hc
  obtain ⟨p, hp⟩ : ∃ p, tellS (x :: r) o = p := ⟨_, rfl⟩
  have HP := Lib.hid hp
  rw [hp]
  clear h hn hW0 k0 hp hz hk hPl hHs hc
  obtain ⟨p0, p1, p2, p3⟩ := OB.out
  go_enter Try.func14, Try.ntmps14
  go_upto_region 1 with fail
  rw [HW.out]
  go_wp2_with fail; refine CK.out.mono ?_; rintro e w1 ⟨rfl, k1⟩
  have K1 := Lib.hid k1
  clear k1 p0 p1 p2 p3
  have HF := Lib.hid (HP.out.symm.trans HF0.out)
  obtain ⟨p0, p1, p2, p3⟩ := OB.out.kept K1.out
  go_wp2_with fail; refine (PC.out _ K1.out).mono ?_; rintro e w2 ⟨rfl, k2⟩
  have K2 := Lib.hid (K1.out.trans k2)
  clear k2 p0 p1 p2 p3
  obtain ⟨p0, p1, p2, p3⟩ := OB.out.kept K2.out
  have A2 := Lib.hid (AB.out.kept K2.out)
  obtain ⟨z0, z1, z2, s⟩ := A2.out
  have s0 := s 0
  have s1 := s 1
  have s2 := s 2
  clear s
  rw [HK.out] at p0
  obtain ⟨i0, i1⟩ := HC.out.kept K2.out
  have gl := lt_of_cell i0
  go_wp2
  go_region
  go_wp2
  exact bodyPost_ret (ans_result Try.results14 rfl rfl ((A2.out.put ⟨0, x.a, x.k⟩).kept ((Kept.refl _).drew))) rfl (RetA.some HF.out ((K0.out.trans K2.out).wrote1 ((((But.refl _ _).here _ _).here _ _).here _ _) (by omega)).drew)

theorem refAnswer_any {w : World} {a : Option Addr} {c n : Nat} {l : List It} (o : Opn) (h : Lay w (.slice a n c) n (flatI l)) (hn : n = l.length) : Calls Try.prog 14 #[.slice a n c, .agg #[.int .i64 o.k, .int .i64 o.a, .int .i64 o.b, .int .u64 o.u]] w (RetA w (tellS l o)) := by
  by_cases hz : chk l = 0
  · by_cases h4 : o.k = 4
    · cases hd : hs o.u l with
      | true => exact refAnswer_double h hn hz h4 hd
      | false =>
        by_cases hr : n < 1024
        · exact refAnswer_room h hn hz h4 hd hr
        · exact refAnswer_full h hn hz h4 hd hr
    by_cases h5 : o.k = 5
    · cases l with
      | nil => exact refAnswer_none5 h hn h5 rfl
      | cons x r => exact refAnswer_some5 h hn hz h5
    by_cases h6 : o.k = 6
    · cases l with
      | nil => exact refAnswer_none6 h hn h6 rfl
      | cons x r => exact refAnswer_some6 h hn hz h6
    · exact refAnswer_else h hn hz h4 h5 h6
  · exact refAnswer_bad h hn rfl hz
end Go.Proofs.Yteomggjkdaddhaa
