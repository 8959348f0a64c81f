/- One trial: where something is left, each call in its turn is tried next; what led to no end is noted. At elements of type int. -/
import Derived.Test.YtbfmmndpboagdaaGreatDoorGN3
import Derived.Deep.RegionLaw
import Derived.Carry
import Derived.Laws.EntriesVeiled
namespace Go.Proofs.YtbfmmndpboagdaaGreatDoor.SN
open Go.RowKit Go.Shelf
attribute [local go_sem ↓] ldQ_named stQ_named bsQ_named bdK_named ldX_named apS_named
attribute [local go_sem] Kept.refl Kept.drew Kept.drewN Kept.alloc

def TrRel (WI w : World) (n0 bf by_ bF bt bs mb lp : Nat) (r : Int) (l : List Sp) (v : Value) (o : List Nat) (D : Nat) (S : List (List El)) (f cnt n : Nat) (i : Value) (wr : World) : Prop :=
  ∃ k : Nat, k ≤ n ∧ i = .int .i64 k ∧ But (TW mb v) w wr ∧ TEnv WI n0 bf by_ bF bt bs mb lp r l wr (cnt + k * cost f) ∧ wr.ownsRow n0 3 1 v o.length (ints (casts o)) ∧
    ∀ j, j < k → dfs (nextM r) l f (D ||| 2 ^ j) (aftM (nextM r) l D S j) = none
def PuRel (W1 : World) (mb : Nat) (r : Int) (l : List Sp) (cnt n : Nat) (i : Value) (wr : World) : Prop :=
  ∃ k : Nat, k ≤ n ∧ i = .int .i64 k ∧ But (fun x => x = mb) W1 wr ∧ Fail (Vain r l) wr mb (cnt + k)
theorem asks_of {w : World} {bF bT mb n1 : Nat} {D : Nat} {R : Nat → List El → Prop} {cnt : Nat} (hF : Fail R w mb cnt) (hD : D < 65536) (cF : w.cell? ⟨bF, 0, none⟩ = some (.map (some mb))) (cT : w.cell? ⟨bT, 0, none⟩ = some (.int .u16 (D : Nat)))
    {v : Value} (hv : ∀ g, v.ownBlock = some g → n1 ≤ g) (h1 : bF < n1) (h2 : bT < n1) (h3 : mb < n1) : ∃ d : List El → Bool, (∀ q, Okq q → d q = true → R D q) ∧ Asks d v w ⟨bF, 0, none⟩ ⟨bT, 0, none⟩ := by
  obtain ⟨d, hd1, hd2⟩ := hF.ask hD
  refine ⟨d, hd1, fun W q b hq => ?_⟩
  have no : ∀ k, k < n1 → ¬ v.ownBlock = some k := fun k hk e => by have := hv k e; omega
  have hm : W.heap[mb]? = w.heap[mb]? := b.block mb hF.lt (no mb h3)
  exact del_any hq (b.some cF (no _ h1)) (b.some cT (no _ h2)) (fun W' hW' => hd2 W' q (hW'.trans hm) hq) (Nat.lt_of_lt_of_le hF.lt b.size)
theorem left_lt' {l : List Sp} {D i : Nat} (h : rdy l D i = true) : leftN l.length (D ||| 2 ^ i) < leftN l.length D := by
  obtain ⟨h1, c, h2, _⟩ := rdy_parts l h
  exact left_lt (List.getElem?_eq_some_iff.1 h2).1 h1
theorem left_same {r : Int} {l : List Sp} {f D : Nat} {T : List (List El)} {d : List El → Bool} (hok : ∀ q ∈ T, Okq q) (hd : ∀ q, Okq q → d q = true → Vain r l D q) (hf : T ≠ [] → leftN l.length D ≤ f) :
    dfs (nextM r) l f D (T.filter fun q => !d q) = dfs (nextM r) l f D T := by
  refine dfs_same (nextM r) l (fun x hx => .inl (List.mem_filter.1 hx).1) fun x hx => ?_
  by_cases h : d x = true
  · exact .inr (hd x (hok x hx) h f (hf (List.ne_nil_of_mem hx)))
  · exact .inl (List.mem_filter.2 ⟨hx, by simpa using h⟩)

theorem TryPost.b {ws bf mb n0 : Nat} {r : Int} {l : List Sp} {Jx : List Nat → World → Prop} {w : World} {v : Value} {o : List Nat} {D : Nat} {S : List (List El)} {f cnt : Nat} {e : Ending} {w' : World} (h : TryPost ws bf mb n0 r l Jx w v o D S f cnt e w') :
    ∃ b, e = .returned (.bool b) ∧ ((b = true ∧ dfs (nextM r) l f D S = none ∧ But (TW mb v) w w' ∧ Fail (Vain r l) w' mb (cnt + cost f) ∧ w'.ownsRow n0 3 1 v o.length (ints (casts o))) ∨ (b = false ∧ ∃ rest, dfs (nextM r) l f D S = some rest ∧ Jx (o ++ rest) w' ∧ But (TF ws bf mb v) w w')) := by
  rcases h with ⟨e, h⟩ | ⟨e, h⟩
  · exact ⟨true, e, .inl ⟨rfl, h⟩⟩
  · exact ⟨false, e, .inr ⟨rfl, h⟩⟩
theorem push_fun {w : World} {n0 : Nat} {v : Value} {n : Nat} {xs : List Int} (hrow : w.ownsRow n0 3 1 v n (ints xs)) (hb : n0 ≤ w.heap.size) (x : Int) (hn : n ≤ 1000) :
    ∃ (fa : Nat → World → Option Addr) (fc : Nat → World → Nat) (fw : Nat → World → World), ∀ g W, Kept w W → W.cell? ⟨g, 0, none⟩ = some (.int .i64 x) →
      (apS #[35, 35] 35 #[v, .slice (some ⟨g, 0, none⟩) 1 1]).run Tryz.prog W = .ok (.slice (fa g W) (n + 1) (fc g W)) (fw g W) ∧
      (fw g W).ownsRow n0 3 1 (.slice (fa g W) (n + 1) (fc g W)) (n + 1) (ints (xs ++ [x])) ∧ Grew W (fw g W) v (.slice (fa g W) (n + 1) (fc g W)) := by
  have H : ∀ g W, ∃ p : Option Addr × Nat × World, Kept w W → W.cell? ⟨g, 0, none⟩ = some (.int .i64 x) →
      (apS #[35, 35] 35 #[v, .slice (some ⟨g, 0, none⟩) 1 1]).run Tryz.prog W = .ok (.slice p.1 (n + 1) p.2.1) p.2.2 ∧
      p.2.2.ownsRow n0 3 1 (.slice p.1 (n + 1) p.2.1) (n + 1) (ints (xs ++ [x])) ∧ Grew W p.2.2 v (.slice p.1 (n + 1) p.2.1) := fun g W => by
    by_cases k : Kept w W ∧ W.cell? ⟨g, 0, none⟩ = some (.int .i64 x)
    · obtain ⟨a, c, w1, h1, h2, h3⟩ := push_two hrow k.1 hb (y := .slice (some ⟨g, 0, none⟩) 1 1) x ⟨_, _, _, rfl, k.2, by decide, Nat.le_refl _⟩ hn
      exact ⟨(a, c, w1), fun _ _ => ⟨h1, h2, h3⟩⟩
    · exact ⟨(none, 0, w), fun k1 k2 => absurd ⟨k1, k2⟩ k⟩
  exact ⟨fun g W => (Classical.choose (H g W)).1, fun g W => (Classical.choose (H g W)).2.1, fun g W => (Classical.choose (H g W)).2.2, fun g W => Classical.choose_spec (H g W)⟩
theorem grew_but {w W w1 : World} {mb : Nat} {v v' : Value} (k : Kept w W) (hg : Grew W w1 v v') : But (TW mb v) w w1 := by
  rcases hg with ⟨g, n, c, rfl, rfl, b⟩ | ⟨k2, _⟩
  · exact ((k.but _).trans b fun _ _ h => by subst h; rfl).mono fun j _ h => .inr (by subst h; rfl)
  · exact (k.trans k2).but _

theorem after_trial {ws bf mb n0 : Nat} {r : Int} {l : List Sp} {Jx : List Nat → World → Prop} {w3 W0 W1 v9 : World} {v v' : Value} {o : List Nat} {k D' f cnt : Nat} {F : List (List El)} {b9 : Bool} (K : Kept w3 W0) (hgr : Grew W0 W1 v v')
    (row : w3.ownsRow n0 3 1 v o.length (ints (casts o))) (hm : ∀ g, v.ownBlock = some g → g ≠ mb)
    (h9 : (b9 = true ∧ dfs (nextM r) l f D' F = none ∧ But (TW mb v') W1 v9 ∧ Fail (Vain r l) v9 mb (cnt + cost f) ∧ v9.ownsRow n0 3 1 v' (o ++ [k]).length (ints (casts (o ++ [k])))) ∨ (b9 = false ∧ ∃ rest, dfs (nextM r) l f D' F = some rest ∧ Jx ((o ++ [k]) ++ rest) v9 ∧ But (TF ws bf mb v') W1 v9)) :
    (b9 = true ∧ dfs (nextM r) l f D' F = none ∧ But (TW mb v) w3 v9 ∧ Fail (Vain r l) v9 mb (cnt + cost f) ∧ v9.ownsRow n0 3 1 v o.length (ints (casts o))) ∨ (b9 = false ∧ ∃ rest, dfs (nextM r) l f D' F = some rest ∧ Jx (o ++ k :: rest) v9 ∧ But (TF ws bf mb v) w3 v9) := by
  have up : ∀ i, i < w3.heap.size → v'.ownBlock = some i → v.ownBlock = some i := fun i hi h => by
    rcases hgr with ⟨g, n, c, e1, e2, _⟩ | ⟨_, g2, h1, h2⟩
    · rw [e1]
      rw [e2] at h
      exact h
    · rw [h1] at h
      have := Option.some.inj h
      have := K.size
      omega
  have bg := grew_but (mb := mb) K hgr
  rcases h9 with ⟨hb, h1, h2, h3, h4⟩ | ⟨hb, rest, h1, h2, h3⟩
  · refine .inl ⟨hb, h1, bg.trans h2 fun i hi h => h.elim .inl fun h => .inr (up i hi h), h3, ?_⟩
    rcases hgr with ⟨g, n, c, e1, e2, _⟩ | ⟨k2, g2, h5, h6⟩
    · obtain ⟨a5, c5, e5⟩ := own_form row
      rw [e1] at e5
      injection e5 with e6 e7 e8
      subst e1 e2 e7
      have e9 : casts (o ++ [k]) = casts o ++ [(k : Int)] := by simp [casts]
      rw [e9, List.length_append, List.length_singleton] at h4
      exact own_less h4
    · exact own_but row (((K.trans k2).but (TW mb v')).trans h2 fun _ _ h => h) fun g hg h => h.elim (hm g hg) fun h => by
        rw [h5] at h
        have := Option.some.inj h
        have := (row.lt g hg).2
        have := K.size
        omega
  · exact .inr ⟨hb, rest, h1, by rw [List.append_assoc] at h2; exact h2, (bg.mono fun _ _ h => .inr (.inr h)).trans h3 fun i hi h => h.elim .inl fun h => .inr (h.elim .inl fun h => .inr (h.elim .inl fun h => .inr (up i hi h)))⟩

set_option maxRecDepth 100000 in
set_option maxHeartbeats 16000000 in
theorem try_step {WI : World} {n0 bf by_ bF bt bs mb lp bM bA rb : Nat} {r : Int} {l : List Sp} {sa : Option Addr} {sn sc : Nat} {A : Nat → Nat} {m : Nat} {q0 : List El} {I : Nat → List (List El) → Prop} {Jx : List Nat → World → Prop}
    (hB : TBlk WI n0 bf by_ bF bt mb) (hSB : SBox WI bs q0 bM bA sa sn sc A m) (hS : Srch WI bM bA rb l sa sn sc A m) (hE : Env rb r WI) (hI : Inv r l q0 I) (f : Nat)
    (IH : ∀ (w : World) (v : Value) (o : List Nat) (D : Nat) (u : Value) (S : List (List El)) (cnt : Nat), TEnv WI n0 bf by_ bF bt bs mb lp r l w cnt → TArg WI n0 mb r l I w v o D u S f cnt →
      Calls Tryz.prog 160 #[v, .int .u16 D, u, .pointer (some ⟨bf, 0, none⟩), .pointer (some ⟨bs, 0, none⟩), .pointer (some ⟨by_, 0, none⟩), .pointer (some ⟨bF, 0, none⟩), .pointer (some ⟨bt, 0, none⟩)] w (TryPost WI.heap.size bf mb n0 r l Jx w v o D S f cnt))
    {w : World} {v : Value} {o : List Nat} {D : Nat} {u : Value} {S : List (List El)} {cnt : Nat} (hT : TEnv WI n0 bf by_ bF bt bs mb lp r l w cnt) (hA : TArg WI n0 mb r l I w v o D u S (f + 1) cnt) (hf : full l D = false) :
    Calls Tryz.prog 160 #[v, .int .u16 D, u, .pointer (some ⟨bf, 0, none⟩), .pointer (some ⟨bs, 0, none⟩), .pointer (some ⟨by_, 0, none⟩), .pointer (some ⟨bF, 0, none⟩), .pointer (some ⟨bt, 0, none⟩)] w (TryPost WI.heap.size bf mb n0 r l Jx w v o D S (f + 1) cnt) := by
  have HOL := Lib.hid (fun W => holds_set D m hA.DB hS.ansB W)
  rw [← full_asked hS hA.DB, hf] at HOL
  have dn := (hSB.kept hT.old).done
  have cc := (hSB.kept hT.old).calls
  have c1 := hT.found
  obtain ⟨a, c, rfl⟩ := own_form hA.row
  obtain ⟨n1, hrowS⟩ := hA.rowS
  obtain ⟨ua, uc, rfl⟩ := own_form hrowS
  have HLK := Lib.hid (show leftN l.length D ≠ 0 from fun e => by rw [left_full l e] at hf; cases hf)
  have HFU := Lib.hid hf
  have HA := Lib.hid hA
  have HT := Lib.hid hT
  have HBf := Lib.hid hB
  have HSB := Lib.hid hSB
  have HS := Lib.hid hS
  have HEn := Lib.hid hE
  have HI := Lib.hid hI
  have HIH := Lib.hid IH
  have HRS := Lib.hid hrowS
  have sn10 : sn ≤ 10 := by rw [hS.len]; exact hS.few
  have S1024 : S.length ≤ 1024 := (hI.ok _ S (by have := hA.few; omega) hA.inv).2
  have HOWN := Lib.hid (fun g (hg : (Value.slice a o.length c).ownBlock = some g) => (hA.row.lt g hg).1)
  clear hA hT hf hB hSB hS hE hI IH hrowS
  go_enter Tryz.func160, Tryz.ntmps160
  go_wp2_with fail; refine (HOL.out _).mono ?_; rintro e w1 ⟨rfl, rfl⟩
  go_wp2
  go_loopw [33] (TrRel WI w n0 bf by_ bF bt bs mb lp r l (.slice a o.length c) o D S f cnt sn) (fun i _ => sn - (intOf i).toNat)
  case atStart => exact ⟨0, Nat.zero_le _, rfl, But.refl _ _, by simpa using HT.out, HA.out.row, fun j hj => by omega⟩
  case round =>
    obtain ⟨k, hkn, rfl, hbu, hte, hrow, hno⟩ := hrel
    have BU := Lib.hid hbu
    have TE := Lib.hid hte
    have RO := Lib.hid hrow
    have NO := Lib.hid hno
    have RS := Lib.hid (own_but HRS.out hbu fun g hg h => h.elim (fun e => row_no_map HRS.out HT.out.tried (by rw [← e]; exact hg)) fun e => rows_apart HA.out.row HRS.out g e hg)
    clear hbu hte hrow hno
    by_cases hlt : k < sn
    · obtain ⟨s, hs⟩ : ∃ s, l[k]? = some s := ⟨_, List.getElem?_eq_getElem (by rw [← HS.out.len]; exact hlt)⟩
      have WI_ := Lib.hid (fun W => with_set D k HA.out.DB (by omega) W)
      obtain ⟨Wt, hWt⟩ : ∃ Wt, wr.alloc (.cells #[.int .u16 ((D ||| 2 ^ k : Nat) : Int)] 82) = Wt := ⟨_, rfl⟩
      have kt : Kept wr Wt := by rw [← hWt]; exact (Kept.refl _).alloc _ _
      have ct : Wt.cell? ⟨wr.heap.size, 0, none⟩ = some (.int .u16 ((D ||| 2 ^ k : Nat) : Int)) := by rw [← hWt]; exact cell_new _ _ _ _ 0 rfl
      have TEt := Lib.hid (TE.out.kept HBf.out.b1.1 kt)
      have Wts := Lib.hid (show Wt.heap.size = wr.heap.size + 1 by rw [← hWt]; simp)
      have ok10 : o.length < 10 := by have := HA.out.few; have := HLK.out; omega
      have AF := Lib.hid (after_any (q0 := q0) (HS.out.kept TEt.out.old) (HEn.out.kept TEt.out.old) D HA.out.DB ((own_lies (own_kept RS.out kt)).lay) rfl (HI.out.good _ S ok10 HA.out.inv) hs)
      have LX := ldX_run (enc_len q0) (HSB.out.kept TEt.out.old).all
      have HWt := Lib.hid hWt
      have CT := Lib.hid ct
      have KT0 := Lib.hid kt
      have hs' := Lib.hid hs
      clear hs hWt kt ct
      go_wp2_with fail; refine (WI_.out _).mono ?_; rintro e w1 ⟨rfl, rfl⟩
      go_upto_region 10 with fail
      rw [HWt.out]
      go_wp2_with fail; refine AF.out.mono ?_; rintro e w2 ⟨a2, c2, rfl, k2, own2⟩
      have I2 := Lib.hid (HI.out.step o.length S D k ok10 HA.out.inv)
      obtain ⟨T, hT2⟩ : ∃ T, aftM (nextM r) l D S k = T := ⟨_, rfl⟩
      have HT2 := Lib.hid hT2
      rw [hT2] at own2 I2 ⊢
      have DB2 := Lib.hid (or16 HA.out.DB (show k < 16 by omega))
      have OK2 := Lib.hid (HI.out.ok (o.length + 1) T (by omega) I2.out).1
      have TE2 := Lib.hid (TEt.out.kept HBf.out.b1.1 k2)
      obtain ⟨d, hd1, hd2⟩ := asks_of TE2.out.tried DB2.out TE2.out.fail (k2.some CT.out) (fun g hg => (own2.lt g hg).1) (by have := HBf.out.b3.1; have := TE.out.room; have := Wts.out; omega) (by have := Wts.out; omega) (by have := HBf.out.b5.1; have := TE.out.room; have := Wts.out; omega)
      have DL := Lib.hid (deleteFunc_any own2 rfl k2.size OK2.out hd2)
      have HD1 := Lib.hid hd1
      have K2 := Lib.hid (KT0.out.trans k2)
      have CT2 := Lib.hid (k2.some CT.out)
      have O2 := Lib.hid own2
      have S2s := Lib.hid k2.size
      clear hT2 own2 k2 hd1 hd2 LX
      go_wp2_with fail; refine DL.out.mono ?_; rintro e w3 ⟨a3, c3, rfl, b3, own3⟩
      obtain ⟨F, hF⟩ : ∃ F, T.filter (fun q => !d q) = F := ⟨_, rfl⟩
      have HF := Lib.hid hF
      rw [hF] at own3 ⊢
      have K3 := Lib.hid (K2.out.put b3 fun j e => by have := (O2.out.lt j e).1; have := Wts.out; omega)
      have O3 := Lib.hid own3
      have CT3 := Lib.hid (b3.some CT2.out fun e => by have := (O2.out.lt _ e).1; have := Wts.out; omega)
      have TE3 := Lib.hid (TE.out.kept HBf.out.b1.1 K3.out)
      have RO3 := Lib.hid (own_kept RO.out K3.out)
      have LE2 := Lib.hid (show T ≠ [] → leftN l.length (D ||| 2 ^ k) ≤ f ∧ leftN l.length (D ||| 2 ^ k) < leftN l.length D from fun h => by
        have h1 := left_lt' (aft_mem_lt (nextM r) l (by rw [HT2.out]; exact h)).1
        have h2 := HA.out.fuel
        omega)
      have SAME := Lib.hid (show dfs (nextM r) l f (D ||| 2 ^ k) F = dfs (nextM r) l f (D ||| 2 ^ k) T by rw [← HF.out]; exact left_same OK2.out HD1.out fun h => (LE2.out h).1)
      have F10 : F.length ≤ 1024 := by rw [← hF]; exact Nat.le_trans (List.length_filter_le ..) (HI.out.ok (o.length + 1) T (by omega) I2.out).2
      clear hF own3 b3
      by_cases hF0 : F.length = 0
      · have NONE := Lib.hid (show dfs (nextM r) l f (D ||| 2 ^ k) (aftM (nextM r) l D S k) = none by
          rw [HT2.out, ← SAME.out, List.eq_nil_of_length_eq_zero hF0]
          exact (dfs_none (nextM r) l).2 fun x hx => by cases hx)
        obtain ⟨fl, hfl⟩ : ∃ fl, F.length = fl := ⟨_, rfl⟩
        rw [hfl] at hF0 F10 ⊢
        subst hF0
        clear hfl
        go_wp2
        go_quiet (fail)
        go_wp2
        go_roundw
        case rel => exact ⟨k + 1, by omega, by go_num, BU.out.then (K3.out.drewN _), by
            have := (TE3.out.kept HBf.out.b1.1 ((Kept.refl _).drewN nq))
            exact ⟨this.old, this.room, this.found, this.soft, this.yld, this.fail, this.try_, this.tried.mono (by rw [Nat.add_mul]; omega)⟩, own_kept RO3.out ((Kept.refl _).drewN _), fun j hj => by
            by_cases e : j = k
            · rw [e]; exact NONE.out
            · exact NO.out j (by omega)⟩
        case measure => simp [intOf]; omega
      · have T0 := Lib.hid (show T ≠ [] from fun e => by
          have := HF.out
          rw [e] at this
          exact hF0 (by rw [← this]; rfl))
        have hFp : (0 : Int) < (F.length : Int) := by omega
        have hFn : 0 < F.length := by omega
        obtain ⟨fa, fc, fw, hpush⟩ := push_fun RO3.out TE3.out.room (k : Int) (by omega)
        have HPU := Lib.hid hpush
        have AP := fun (g : Nat) (W : World) (K : Kept w3 W) (C : W.cell? ⟨g, 0, none⟩ = some (.int .i64 (k : Int))) => (hpush g W K C).1
        have tv := TE3.out.try_
        have SKF := Lib.hid (fun (g : Nat) (W : World) (K : Kept w3 W) (C : W.cell? ⟨g, 0, none⟩ = some (.int .i64 (k : Int))) => show (fw g W).cell? ⟨bt, 0, none⟩ = some (fnT bf bs by_ bF bt) ∧ (fw g W).cell? ⟨wr.heap.size, 0, none⟩ = some (.int .u16 ((D ||| 2 ^ k : Nat) : Int)) by
          have b := grew_but (mb := mb) K (HPU.out g W K C).2.2
          refine ⟨b.some TE3.out.try_ fun h => h.elim HBf.out.b4.2.1 fun e => by have := HOWN.out _ e; have := HBf.out.b4.1; omega, b.some CT3.out fun h => h.elim (fun e => by have := HBf.out.b5.1; have := TE.out.room; omega) fun e => by have := (RO.out.lt _ e).2; omega⟩)
        have SK := Lib.hid (fun (W : World) (K : Kept w3 W) => show W.cell? ⟨bt, 0, none⟩ = some (fnT bf bs by_ bF bt) ∧ W.cell? ⟨wr.heap.size, 0, none⟩ = some (.int .u16 ((D ||| 2 ^ k : Nat) : Int)) from ⟨K.some TE3.out.try_, K.some CT3.out⟩)
        obtain ⟨s0, s1⟩ := SK.out w3 (Kept.refl _)
        have IHC := Lib.hid (fun (g : Nat) (W : World) (K : Kept w3 W) (C : W.cell? ⟨g, 0, none⟩ = some (.int .i64 (k : Int))) => show Calls Tryz.prog 160 #[.slice (fa g W) (o.length + 1) (fc g W), .int .u16 ((D ||| 2 ^ k : Nat) : Int), .slice a3 F.length c3, .pointer (some ⟨bf, 0, none⟩), .pointer (some ⟨bs, 0, none⟩), .pointer (some ⟨by_, 0, none⟩), .pointer (some ⟨bF, 0, none⟩), .pointer (some ⟨bt, 0, none⟩)] (fw g W)
            (TryPost WI.heap.size bf mb n0 r l Jx (fw g W) (.slice (fa g W) (o.length + 1) (fc g W)) (o ++ [k]) (D ||| 2 ^ k) F f (cnt + k * cost f)) by
          obtain ⟨_, hown, hgr⟩ := HPU.out g W K C
          have b := grew_but (mb := mb) K hgr
          have e2 : casts o ++ [(k : Int)] = casts (o ++ [k]) := by simp [casts]
          rw [e2] at hown
          have hvn : ∀ g1, (Value.slice (fa g W) (o.length + 1) (fc g W)).ownBlock = some g1 → n0 ≤ g1 := fun g1 hg => (hown.lt g1 hg).1
          have FF : Fail (Vain r l) (fw g W) mb (cnt + k * cost f) := by
            have hmo : ¬ (Value.slice a o.length c).ownBlock = some mb := fun e => by have := HOWN.out _ e; have := HBf.out.b5.1; omega
            rcases hgr with ⟨g9, n, c', e1, _, bb⟩ | ⟨k2, _⟩
            · refine (TE3.out.tried.kept K).but bb fun h => hmo ?_
              rw [e1, h]
              rfl
            · exact (TE3.out.tried.kept K).kept k2
          have TE9 := TEnv.but HBf.out TE3.out HOWN.out b FF
          exact HIH.out (fw g W) (.slice (fa g W) (o.length + 1) (fc g W)) (o ++ [k]) (D ||| 2 ^ k) (.slice a3 F.length c3) F (cnt + k * cost f) TE9
            ⟨by rw [List.length_append]; exact hown, ⟨_, own_but O3.out b fun g hg h => h.elim (fun e => row_no_map O3.out TE3.out.tried (by rw [← e]; exact hg)) fun e => rows_apart RO3.out O3.out g e hg⟩, DB2.out, fun e => hF0 (by rw [e]; rfl),
              by rw [List.length_append, List.length_singleton]; exact HI.out.sub _ T F (by rw [← HF.out]; exact List.filter_sublist) I2.out, (LE2.out T0.out).1, by have h1 := HA.out.few; have h2 := (LE2.out T0.out).2; rw [List.length_append, List.length_singleton]; omega,
              by have h1 := HA.out.room; have h2 : k * cost f + cost f ≤ 10 * cost f := (by have : (k + 1) * cost f ≤ 10 * cost f := Nat.mul_le_mul_right _ (by omega); rw [Nat.add_mul] at this; omega); have h3 : cost (f + 1) = 10 * cost f + 1024 := rfl; omega, fun i hi => (List.mem_append.1 hi).elim (HA.out.lt i) fun h => by rw [List.mem_singleton.1 h, ← HS.out.len]; exact hlt⟩)
        have SKN := Lib.hid (fun (g : Nat) (W : World) (K : Kept w3 W) (C : W.cell? ⟨g, 0, none⟩ = some (.int .i64 (k : Int))) (b9 : Bool) (v9 : World) (h9 : (b9 = true ∧ dfs (nextM r) l f (D ||| 2 ^ k) F = none ∧ But (TW mb (.slice (fa g W) (o.length + 1) (fc g W))) (fw g W) v9 ∧ Fail (Vain r l) v9 mb (cnt + k * cost f + cost f) ∧ v9.ownsRow n0 3 1 (.slice (fa g W) (o.length + 1) (fc g W)) (o ++ [k]).length (ints (casts (o ++ [k])))) ∨ (b9 = false ∧ ∃ rest, dfs (nextM r) l f (D ||| 2 ^ k) F = some rest ∧ Jx ((o ++ [k]) ++ rest) v9 ∧ But (TF WI.heap.size bf mb (.slice (fa g W) (o.length + 1) (fc g W))) (fw g W) v9)) => show v9.cell? ⟨bt, 0, none⟩ = some (fnT bf bs by_ bF bt) ∧ v9.cell? ⟨wr.heap.size, 0, none⟩ = some (.int .u16 ((D ||| 2 ^ k : Nat) : Int)) by
          have b : But (TF WI.heap.size bf mb (.slice (fa g W) (o.length + 1) (fc g W))) (fw g W) v9 := by
            rcases h9 with ⟨_, _, b, _⟩ | ⟨_, _, _, _, b⟩
            · exact b.mono fun _ _ h => .inr (.inr h)
            · exact b
          obtain ⟨c1, c2⟩ := SKF.out g W K C
          obtain ⟨_, hown, hgr⟩ := HPU.out g W K C
          have hb1 := HBf.out.b1
          have hb4 := HBf.out.b4
          have hb5 := HBf.out.b5
          have hro := TE.out.room
          have hb6 := HBf.out.b6
          refine ⟨b.some c1 fun h => ?_, b.some c2 fun h => ?_⟩
          · rcases h with h | h | h | h
            · omega
            · have := TE3.out.found
              rw [← h, TE3.out.try_] at this
              cases this
            · exact hb4.2.1 h
            · have := (hown.lt _ h).1
              omega
          · rcases h with h | h | h | h
            · omega
            · omega
            · omega
            · rcases hgr with ⟨g9, n, c', e1, e2, _⟩ | ⟨_, g2, h21, h22⟩
              · have e3 : (Value.slice a o.length c).ownBlock = some wr.heap.size := by
                  rw [e1]
                  rw [e2] at h
                  exact h
                have := (RO.out.lt _ e3).2
                omega
              · have h5 : g2 = wr.heap.size := by rw [h21] at h; exact Option.some.inj h
                have h6 := lt_of_cell CT3.out
                have h7 := K.size
                omega)
        have BACK := Lib.hid (fun (g : Nat) (W : World) (K : Kept w3 W) (C : W.cell? ⟨g, 0, none⟩ = some (.int .i64 (k : Int))) (b9 : Bool) (v9 : World) (h9 : (b9 = true ∧ dfs (nextM r) l f (D ||| 2 ^ k) F = none ∧ But (TW mb (.slice (fa g W) (o.length + 1) (fc g W))) (fw g W) v9 ∧ Fail (Vain r l) v9 mb (cnt + k * cost f + cost f) ∧ v9.ownsRow n0 3 1 (.slice (fa g W) (o.length + 1) (fc g W)) (o ++ [k]).length (ints (casts (o ++ [k])))) ∨ (b9 = false ∧ ∃ rest, dfs (nextM r) l f (D ||| 2 ^ k) F = some rest ∧ Jx ((o ++ [k]) ++ rest) v9 ∧ But (TF WI.heap.size bf mb (.slice (fa g W) (o.length + 1) (fc g W))) (fw g W) v9)) => after_trial K (HPU.out g W K C).2.2 RO3.out (fun g1 hg => by have := HOWN.out g1 hg; have := HBf.out.b5.1; omega) h9)
        clear hpush
        have cn : ∀ W : World, W.heap.size = w3.heap.size → (W.alloc (.cells #[.int .i64 (k : Int)] 3)).cell? ⟨w3.heap.size, 0, none⟩ = some (.int .i64 (k : Int)) := fun W e => by rw [← e]; exact cell_new _ _ _ _ 0 rfl
        have AP0 := AP w3.heap.size (w3.alloc (.cells #[.int .i64 (k : Int)] 3)) ((Kept.refl _).alloc _ _) (cn _ rfl)
        have AP1 := AP w3.heap.size (w3.alloc (.cells #[.int .i64 (k : Int)] 3)).drew ((Kept.refl _).alloc _ _).drew (cn _ rfl)
        have AP2 := AP w3.heap.size (w3.drew.alloc (.cells #[.int .i64 (k : Int)] 3)) ((Kept.refl _).drew.alloc _ _) (cn _ rfl)
        have AP3 := AP w3.heap.size (w3.drew.alloc (.cells #[.int .i64 (k : Int)] 3)).drew ((Kept.refl _).drew.alloc _ _).drew (cn _ rfl)
        have AP4 := fun n : Nat => AP w3.heap.size ((w3.drewN n).alloc (.cells #[.int .i64 (k : Int)] 3)) (((Kept.refl _).drewN _).alloc _ _) (cn _ rfl)
        have AP5 := fun n : Nat => AP w3.heap.size ((w3.drewN n).alloc (.cells #[.int .i64 (k : Int)] 3)).drew (((Kept.refl _).drewN _).alloc _ _).drew (cn _ rfl)
        have AP6 := fun n m : Nat => AP w3.heap.size (((w3.drewN n).alloc (.cells #[.int .i64 (k : Int)] 3)).drewN m) ((((Kept.refl _).drewN _).alloc _ _).drewN _) (cn _ rfl)
        have AP7 := fun m : Nat => AP w3.heap.size ((w3.alloc (.cells #[.int .i64 (k : Int)] 3)).drewN m) (((Kept.refl _).alloc _ _).drewN _) (cn _ rfl)
        clear AP
        go_wp2
        go_region_held3 (fun w' => w'.cell? ⟨bt, 0, none⟩ = some (fnT bf bs by_ bF bt) ∧ w'.cell? ⟨wr.heap.size, 0, none⟩ = some (.int .u16 ((D ||| 2 ^ k : Nat) : Int)))
          (first | (with_reducible exact SKR.out) | (with_reducible refine SK.out _ ?_; ((repeat (first | (with_reducible exact Kept.refl _) | (with_reducible assumption) | (with_reducible refine Kept.drew ?_) | (with_reducible refine Kept.drewN ?_ _) | (with_reducible refine Kept.alloc ?_ _ _))); done)) | (with_reducible refine SKF.out _ _ ?_ (by simp); ((repeat (first | (with_reducible exact Kept.refl _) | (with_reducible assumption) | (with_reducible refine Kept.drew ?_) | (with_reducible refine Kept.drewN ?_ _) | (with_reducible refine Kept.alloc ?_ _ _))); done)) | fail)
          (first
            | (go_at_call 160; refine (IHC.out _ _ (by ((repeat (first | (with_reducible exact Kept.refl _) | (with_reducible assumption) | (with_reducible refine Kept.drew ?_) | (with_reducible refine Kept.drewN ?_ _) | (with_reducible refine Kept.alloc ?_ _ _))); done)) (by simp)).mono ?_; rintro e v9 hp9; obtain ⟨b9, rfl, h9⟩ := hp9.b; have SKR := Lib.hid (SKN.out _ _ (by ((repeat (first | (with_reducible exact Kept.refl _) | (with_reducible assumption) | (with_reducible refine Kept.drew ?_) | (with_reducible refine Kept.drewN ?_ _) | (with_reducible refine Kept.alloc ?_ _ _))); done)) (by simp) _ _ h9); have H9 := Lib.hid (BACK.out _ _ (by ((repeat (first | (with_reducible exact Kept.refl _) | (with_reducible assumption) | (with_reducible refine Kept.drew ?_) | (with_reducible refine Kept.drewN ?_ _) | (with_reducible refine Kept.alloc ?_ _ _))); done)) (by simp) _ _ h9); clear h9 hp9)
            | fail)
        rcases H9.out with ⟨rfl, hn9, bt9, ff9, row9⟩ | ⟨rfl, rest, hs9, hj9, bt9⟩
        · have TE9 := Lib.hid (TEnv.but HBf.out TE3.out HOWN.out bt9 ff9)
          have BT9 := Lib.hid bt9
          have ROW9 := Lib.hid row9
          have NONE := Lib.hid (show dfs (nextM r) l f (D ||| 2 ^ k) (aftM (nextM r) l D S k) = none by rw [HT2.out, ← SAME.out]; exact hn9)
          clear hn9 bt9 ff9 row9
          go_wp2
          go_roundw
          case rel => exact ⟨k + 1, by omega, by go_num, (BU.out.then K3.out).trans BT9.out (fun _ _ h => h), by
              have := TE9.out
              exact ⟨this.old, this.room, this.found, this.soft, this.yld, this.fail, this.try_, this.tried.mono (by rw [Nat.add_mul]; omega)⟩, ROW9.out, fun j hj => by
              by_cases e : j = k
              · rw [e]; exact NONE.out
              · exact NO.out j (by omega)⟩
          case measure => simp [intOf]; omega
        · go_wp2
          go_ret
          refine .inr ⟨rfl, k :: rest, ?_, hj9, (BU.out.then K3.out |>.mono fun _ _ h => .inr (.inr h)).trans bt9 fun _ _ h => h⟩
          rw [dfs_step (nextM r) l HFU.out]
          refine firstOf_at (i := 0) (k := k) (by rw [← HS.out.len]; exact hlt) ?_ fun j hj => ?_
          · simp only [Nat.zero_add]
            rw [HT2.out, ← SAME.out, hs9]
            rfl
          · simp only [Nat.zero_add]
            rw [NO.out j hj]
            rfl
    · have hk9 : k = sn := by omega
      subst hk9
      have cf := TE.out.found
      have NN := Lib.hid (show dfs (nextM r) l (f + 1) D S = none from (dfs_step_none (nextM r) l HFU.out).2 fun i hi => NO.out i (by rw [HS.out.len]; exact hi))
      have VN := Lib.hid (show ∀ x ∈ S, Vain r l D x from fun x hx => vain_of HA.out.fuel ((dfs_none (nextM r) l).1 ((dfs_step_none (nextM r) l HFU.out).2 fun i hi => NO.out i (by rw [HS.out.len]; exact hi)) x hx))
      obtain ⟨cnt1, hc1⟩ : ∃ cnt1, cnt + k * cost f = cnt1 := ⟨_, rfl⟩
      have FL := Lib.hid (show Fail (Vain r l) wr mb cnt1 by rw [← hc1]; exact TE.out.tried)
      have CN := Lib.hid (show cnt1 + 1024 ≤ cnt + cost (f + 1) by
        have h1 : k * cost f ≤ 10 * cost f := Nat.mul_le_mul_right _ sn10
        have h3 : cost (f + 1) = 10 * cost f + 1024 := rfl
        omega)
      have ML := Lib.hid (show cnt + cost (f + 1) ≤ 4611686018427387904 from HA.out.room)
      have OKS := Lib.hid (show ∀ x ∈ S, Okq x from (HI.out.ok _ S (by have := HA.out.few; omega) HA.out.inv).1)
      clear hc1
      obtain ⟨Wo, rfl⟩ : ∃ Wo, Wo = wr := ⟨_, rfl⟩
      go_wp2
      go_loopw [66] (PuRel Wo mb r l cnt1 S.length) (fun i _ => S.length - (intOf i).toNat)
      case atStart => exact ⟨0, Nat.zero_le _, rfl, But.refl _ _, FL.out⟩
      case round =>
        obtain ⟨j, hjn, rfl, hbj, hfj⟩ := hrel
        have BJ := Lib.hid hbj
        by_cases hlt2 : j < S.length
        · obtain ⟨x, hx⟩ : ∃ x, S[j]? = some x := ⟨_, List.getElem?_eq_getElem hlt2⟩
          have xm : x ∈ S := List.mem_of_getElem? hx
          have okx := OKS.out x xm
          obtain ⟨g, oo, hgo, hat⟩ := st_one (own_lies (own_but RS.out hbj fun g hg e => row_no_map HRS.out HT.out.tried (by rw [← e]; exact hg))).lay rfl j x hx
          cases hgo
          have L1 := ldQ_ok okx hat
          have S1 := fun (W : World) b (Z : Array Value) t (hb : b = W.heap.size) (hZ : Z.size = 11) => stQ_fresh (w := W) (b := b) okx Z t hb hZ
          obtain ⟨Wa, hWa⟩ : ∃ Wa, wr.alloc (.cells (enc x).toArray 103) = Wa := ⟨_, rfl⟩
          have ka : Kept wr Wa := by rw [← hWa]; exact (Kept.refl _).alloc _ _
          have ra : Wa.rangeAt wr.heap.size 0 (enc x) := by rw [← hWa]; have := range_new wr (enc x).toArray 103 wr.heap.size rfl; simpa using this
          have L3 := ldQ_ok okx ra
          have BK := bdK_run okx.1 (D : Int) Wa
          have cFa := ka.some (hbj.some TE.out.fail HBf.out.b3.2)
          obtain ⟨Wp, hput, hfp, hbp⟩ := (hfj.kept ka).put (by unfold maxLen; have := CN.out; have := ML.out; omega) HA.out.DB okx (VN.out x xm)
          have hput' : (Instr.mapUpdate 230 (.map (some mb)) (.agg (.int .u16 (D : Nat) :: enc x).toArray) (.agg #[])).run Tryz.prog Wa = .ok () Wp := hput
          have HWa := Lib.hid hWa
          have FP := Lib.hid hfp
          have BP := Lib.hid ((hbj.then ka).trans hbp fun _ _ h => h)
          clear hx hat ra hWa hfp hbp hput hfj hbj ka
          go_upto_region 18 with fail
          rw [HWa.out]
          go_wp2
          go_roundw
          case rel => exact ⟨j + 1, by omega, by go_num, BP.out, FP.out⟩
          case measure => simp [intOf]; omega
        · have hjn9 : j = S.length := by omega
          subst hjn9
          go_wp2
          go_ret
          exact .inl ⟨rfl, NN.out, BU.out.trans BJ.out fun _ _ h => .inl h, hfj.mono (by have := CN.out; omega), own_but RO.out BJ.out fun g hg e => by
            have := HOWN.out g hg
            have := HBf.out.b5.1
            omega⟩
end Go.Proofs.YtbfmmndpboagdaaGreatDoor.SN

namespace Go.Proofs.YtbfmmndpboagdaaGreatDoor.SN
open Go.RowKit Go.Shelf
attribute [local go_sem] Oper.semAt_some
attribute [local go_sem ↓] ldQ_named stQ_named bsQ_named bdK_named ldX_named
attribute [local go_sem] Kept.refl Kept.drew Kept.drewN Kept.alloc run_makeMap

theorem try_any {WI : World} {n0 bf by_ bF bt bs mb lp bM bA rb : Nat} {r : Int} {l : List Sp} {sa : Option Addr} {sn sc : Nat} {A : Nat → Nat} {m : Nat} {q0 : List El} {I : Nat → List (List El) → Prop} {Jx : List Nat → World → Prop}
    (hB : TBlk WI n0 bf by_ bF bt mb) (hSB : SBox WI bs q0 bM bA sa sn sc A m) (hS : Srch WI bM bA rb l sa sn sc A m) (hE : Env rb r WI) (hI : Inv r l q0 I) (hY : Yields WI l lp Jx) : ∀ (f : Nat)
    (w : World) (v : Value) (o : List Nat) (D : Nat) (u : Value) (S : List (List El)) (cnt : Nat), TEnv WI n0 bf by_ bF bt bs mb lp r l w cnt → TArg WI n0 mb r l I w v o D u S f cnt →
      Calls Tryz.prog 160 #[v, .int .u16 D, u, .pointer (some ⟨bf, 0, none⟩), .pointer (some ⟨bs, 0, none⟩), .pointer (some ⟨by_, 0, none⟩), .pointer (some ⟨bF, 0, none⟩), .pointer (some ⟨bt, 0, none⟩)] w (TryPost WI.heap.size bf mb n0 r l Jx w v o D S f cnt) := by
  intro f
  induction f with
  | zero => exact fun w v o D u S cnt hT hA => try_full hB hSB hS hY hT hA (left_full l (Nat.le_zero.1 hA.fuel))
  | succ f ih =>
    intro w v o D u S cnt hT hA
    cases hf : full l D with
    | true => exact try_full hB hSB hS hY hT hA hf
    | false => exact try_step hB hSB hS hE hI f ih hT hA hf

theorem left_ten {l : List Sp} (h : l.length ≤ 10) : leftN l.length 0 ≤ 10 := Nat.le_trans List.countP_le_length (by simpa using h)
theorem flat_one (q : List El) : (enc q).toArray.toList.take (1 * 11) = flatQ [q] := by
  have e : flatQ [q] = enc q := by simp [flatQ]
  rw [e]
  exact List.take_of_length_le (by simp [enc_len])
theorem laid_any {w W1 W2 W3 W4 W5 : World} {lp b1 b2 b3 b4 : Nat} {r : Int} {l : List Sp} (h1 : w.alloc (.cells #[.func (.yield lp) #[] #[]] 63) = W1) (e1 : w.heap.size + 1 = b1) (e2 : b1 + 1 = b2) (e3 : b2 + 1 = b3) (e4 : b3 + 1 = b4)
    (h2 : W1.alloc (.map #[] 0) = W2) (h3 : W2.alloc (.cells #[.map (some b1)] 230) = W3) (h4 : W3.alloc (.cells #[.int .i64 0] 3) = W4) (h5 : W4.alloc (.cells #[.nilFunc] 231) = W5) :
    Kept w W5 ∧ W5.heap.size = b4 + 1 ∧ W5.cell? ⟨w.heap.size, 0, none⟩ = some (.func (.yield lp) #[] #[]) ∧ Fail (Vain r l) W5 b1 0 ∧ W5.cell? ⟨b2, 0, none⟩ = some (.map (some b1)) ∧ W5.cell? ⟨b3, 0, none⟩ = some (.int .i64 0) ∧ W5.cell? ⟨b4, 0, none⟩ = some .nilFunc ∧ W5.frozen? ⟨b4, 0, none⟩ = false ∧ W5.frozen? ⟨b3, 0, none⟩ = false := by
  have s1 : W1.heap.size = b1 := by rw [← h1]; simp; omega
  have s2 : W2.heap.size = b2 := by rw [← h2]; simp; omega
  have s3 : W3.heap.size = b3 := by rw [← h3]; simp; omega
  have s4 : W4.heap.size = b4 := by rw [← h4]; simp; omega
  have k1 : Kept w W1 := by rw [← h1]; exact (Kept.refl _).alloc _ _
  have k2 : Kept W1 W2 := by rw [← h2]; exact ⟨(Kept.refl _).below.alloc (Kept.refl _).below.size _⟩
  have k3 : Kept W2 W3 := by rw [← h3]; exact (Kept.refl _).alloc _ _
  have k4 : Kept W3 W4 := by rw [← h4]; exact (Kept.refl _).alloc _ _
  have k5 : Kept W4 W5 := by rw [← h5]; exact (Kept.refl _).alloc _ _
  refine ⟨k1.trans (k2.trans (k3.trans (k4.trans k5))), by rw [← h5]; simp; omega, (k2.trans (k3.trans (k4.trans k5))).some (by rw [← h1]; exact cell_new _ _ _ _ 0 rfl), ?_, (k4.trans k5).some (by rw [← h3]; exact cell_new _ _ _ _ 0 s2.symm), k5.some (by rw [← h4]; exact cell_new _ _ _ _ 0 s3.symm), by rw [← h5]; exact cell_new _ _ _ _ 0 s4.symm, ?_, ?_⟩
  · have := Fail.made (Vain r l) W1 b1 s1.symm
    rw [h2] at this
    exact this.kept (k3.trans (k4.trans k5))
  · rw [← h5, ← s4]; simp
  · refine k5.soft (by omega) ?_
    rw [← h4, ← s3]; simp

set_option maxRecDepth 100000 in
set_option maxHeartbeats 16000000 in
theorem orders1_any {w : World} {bs lp bM bA rb : Nat} {r : Int} {l : List Sp} {sa : Option Addr} {sn sc : Nat} {A : Nat → Nat} {m : Nat} {q0 : List El} {I : Nat → List (List El) → Prop} {Jx : List Nat → World → Prop}
    (hSB : SBox w bs q0 bM bA sa sn sc A m) (hS : Srch w bM bA rb l sa sn sc A m) (hE : Env rb r w) (hI : Inv r l q0 I) (hY : Yields w l lp Jx) :
    Calls Tryz.prog 159 #[.func (.yield lp) #[] #[], .pointer (some ⟨bs, 0, none⟩)] w fun e w' => e = .returned (.tuple #[]) ∧ ((dfs (nextM r) l 10 0 [q0] = none ∧ Kept w w') ∨ ∃ o, dfs (nextM r) l 10 0 [q0] = some o ∧ Jx o w') := by
  go_enter Tryz.func159, Tryz.ntmps159
  go_upto_region 4 with fail
  obtain ⟨W1, hW1⟩ : ∃ W1, w.alloc (.cells #[.func (.yield lp) #[] #[]] 63) = W1 := ⟨_, rfl⟩
  rw [hW1]
  obtain ⟨b1, e1⟩ : ∃ b1, w.heap.size + 1 = b1 := ⟨_, rfl⟩
  obtain ⟨b2, e2⟩ : ∃ b2, b1 + 1 = b2 := ⟨_, rfl⟩
  obtain ⟨b3, e3⟩ : ∃ b3, b2 + 1 = b3 := ⟨_, rfl⟩
  obtain ⟨b4, e4⟩ : ∃ b4, b3 + 1 = b4 := ⟨_, rfl⟩
  rw [e1, e2, e3, e4]
  obtain ⟨W2, hW2⟩ : ∃ W2, W1.alloc (.map #[] 0) = W2 := ⟨_, rfl⟩
  rw [hW2]
  obtain ⟨W3, hW3⟩ : ∃ W3, W2.alloc (.cells #[.map (some b1)] 230) = W3 := ⟨_, rfl⟩
  rw [hW3]
  obtain ⟨W4, hW4⟩ : ∃ W4, W3.alloc (.cells #[.int .i64 0] 3) = W4 := ⟨_, rfl⟩
  rw [hW4]
  obtain ⟨W5, hW5⟩ : ∃ W5, W4.alloc (.cells #[.nilFunc] 231) = W5 := ⟨_, rfl⟩
  rw [hW5]
  obtain ⟨k5, s5, cY, hF, cF, cf, cT, fT, ff⟩ := laid_any (r := r) (l := l) hW1 e1 e2 e3 e4 hW2 hW3 hW4 hW5
  have E := Lib.hid (show b1 = w.heap.size + 1 ∧ b2 = w.heap.size + 2 ∧ b3 = w.heap.size + 3 ∧ b4 = w.heap.size + 4 from ⟨by omega, by omega, by omega, by omega⟩)
  clear hW1 hW2 hW3 hW4 hW5 e1 e2 e3 e4
  have W6e := Lib.hid (show ∀ W6 x, W5.setCell ⟨b4, 0, none⟩ x = W6 → Kept w W6 ∧ W6.heap.size = b4 + 1 ∧ W6.cell? ⟨w.heap.size, 0, none⟩ = some (.func (.yield lp) #[] #[]) ∧ Fail (Vain r l) W6 b1 0 ∧ W6.cell? ⟨b2, 0, none⟩ = some (.map (some b1)) ∧ W6.cell? ⟨b3, 0, none⟩ = some (.int .i64 0) ∧ W6.cell? ⟨b4, 0, none⟩ = some x ∧ W6.frozen? ⟨b3, 0, none⟩ = false from fun W6 x h => by
    have ee := E.out
    have bb : But (fun k => k = b4) W5 W6 := by rw [← h]; exact (But.refl (fun k => k = b4) _).setCell (p := ⟨b4, 0, none⟩) (.inl rfl) _
    refine ⟨k5.put bb fun j e => by omega, by rw [← h]; simpa using s5, bb.some cY (by omega), hF.but bb (by omega), bb.some cF (by omega), bb.some cf (by omega), by rw [← h]; exact World.cell?_setCell_same' _ _ _ (by rw [cT]; rfl), bb.soft (by omega) ff⟩)
  go_upto_region 5 with fail
  obtain ⟨W6, hW6⟩ : ∃ W6, W5.setCell ⟨b4, 0, none⟩ (fnT b3 bs w.heap.size b2 b4) = W6 := ⟨_, rfl⟩
  obtain ⟨k6, s6, cY6, hF6, cF6, cf6, cT6, ff6⟩ := W6e.out W6 _ hW6
  rw [hW6]
  have hq := (hI.ok 0 _ (by decide) hI.start).1 q0 (List.mem_singleton.2 rfl)
  have LF := fun W (K : Kept W6 W) => (hSB.kept (k6.trans K)).first hq
  have BQ := fun W => bsQ_run (q := q0) hq.1 W
  have TB := Lib.hid (show TBlk w (b4 + 1) b3 w.heap.size b2 b4 b1 from by have ee := E.out; exact ⟨⟨by omega, by omega, by omega⟩, ⟨by omega, by omega⟩, ⟨by omega, by omega⟩, ⟨by omega, by omega, by omega⟩, ⟨by omega, by omega⟩, by omega⟩)
  have TE := Lib.hid (show TEnv w (b4 + 1) b3 w.heap.size b2 b4 bs b1 lp r l W6 0 from ⟨k6, by omega, cf6, ff6, cY6, cF6, cT6, hF6⟩)
  have TRY := Lib.hid (fun (W7 : World) (K : Kept W6 W7) (u : Value) (hu : ∃ n1, W7.ownsRow n1 103 11 u 1 (flatQ [q0])) => try_any TB.out hSB hS hE hI hY 10 W7 (.slice none 0 0) [] 0 u [q0] 0 (TE.out.kept TB.out.b1.1 K) ⟨World.ownsRow_nil _ _ _ _, hu, by decide, by simp, hI.start, left_ten hS.few, by simpa using left_ten hS.few, by decide, by simp⟩)
  have HK6 := Lib.hid k6
  have OWN := Lib.hid (show (W6.alloc (.cells (enc q0).toArray 103)).ownsRow (b4 + 1) 103 11 (.slice (some ⟨b4 + 1, 0, none⟩) 1 1) 1 (flatQ [q0]) from ⟨by simp [flatQ, enc_len], .inr ⟨b4 + 1, 1, (enc q0).toArray, rfl, Nat.le_refl _, by rw [← s6]; exact heap_alloc_new W6 (.cells (enc q0).toArray 103), Nat.le_refl _, by decide, by simp [enc_len], flat_one q0⟩⟩)
  clear hW6 hF hF6 k5 s5 cY cF cf cT fT ff hI hSB hS hE hY cY6 cF6 cf6 ff6 k6
  go_wp2_with fail; refine (TRY.out _ ((Kept.refl _).alloc _ _) _ ⟨b4 + 1, OWN.out⟩).mono ?_
  rintro e v9 hp9
  obtain ⟨b9, rfl, h9⟩ := hp9.b
  have H9 := Lib.hid h9
  clear h9 hp9
  cases b9
  all_goals go_wp2
  all_goals refine bodyPost_end (results_none rfl _ _ _) rfl ?_
  all_goals refine ⟨rfl, ?_⟩
  · rcases H9.out with ⟨e, h1, h2, _⟩ | ⟨e, o, h1, h2, _⟩
    · cases e
    · exact .inr ⟨o, h1, h2⟩
  · rcases H9.out with ⟨e, h1, h2, _⟩ | ⟨e, o, h1, h2, _⟩
    · exact .inl ⟨h1, (HK6.out.trans ((Kept.refl _).alloc _ _)).put h2 fun j hj => hj.elim (fun e => by have ee := E.out; omega) fun e => by cases e⟩
    · cases e
end Go.Proofs.YtbfmmndpboagdaaGreatDoor.SN

namespace Go.Proofs.YtbfmmndpboagdaaGreatDoor.SN
open Go.RowKit Go.Shelf
attribute [local go_sem] Oper.semAt_some
attribute [local go_sem ↓] ldQ_named stQ_named bsQ_named bdK_named ldX_named bdM_named stM_named lvM_named
attribute [local go_sem] Kept.refl Kept.drew Kept.drewN Kept.alloc

set_option maxRecDepth 100000 in
set_option maxHeartbeats 8000000 in
theorem orders_any {w : World} {q0 : List El} {bM bA : Nat} {sa : Option Addr} {sn sc : Nat} {A : Nat → Nat} {m : Nat} :
    Calls Tryz.prog 157 #[.agg (sV q0 bM bA sa sn sc A m)] w fun e w' => ∃ bs, e = .returned (.func (.func 159) #[] #[.pointer (some ⟨bs, 0, none⟩)]) ∧ Kept w w' ∧ SBox w' bs q0 bM bA sa sn sc A m := by
  have SB := Lib.hid (SBox.new (q0 := q0) (bM := bM) (bA := bA) (sa := sa) (sn := sn) (sc := sc) (A := A) (m := m) w 108 rfl)
  go_enter Tryz.func157, Tryz.ntmps157
  go_wp2
  go_ret
  exact ⟨_, rfl, (Kept.refl _).alloc _ _, SB.out⟩

theorem model_result {fn : Func} {tmps : Array Value} {n b : Nat} {w : World} {R : List Value} {F : Value} (hr : fn.results = #[.cell n 106]) (ht : tmps.getD n undef = .pointer (some ⟨b, 0, none⟩)) (hR : R.length = 11) (h : w.rangeAt b 0 (R ++ [F])) :
    (results fn tmps).run Tryz.prog w = .ok (.agg (modA R F)) w := by
  have hv := lvM_run hR h
  unfold lvM at hv
  have ht' : tmps[n]?.getD undef = .pointer (some ⟨b, 0, none⟩) := by simpa using ht
  unfold results
  rw [hr]
  simp [ht', asAddr, hv]
set_option maxRecDepth 100000 in
set_option maxHeartbeats 8000000 in
theorem modelOf_any {w : World} {rb : Nat} {a : Option Addr} {n c : Nat} {q0 : List El} (h : Lay w (.slice a n c) n (tcs q0)) (hn : n = q0.length) (hq : q0.length ≤ 10) :
    Calls Tryz.prog 62 #[.slice a n c, .func (.func 63) #[] #[], .func (.func 64) #[] #[]] w fun e w' => ∃ bM bA, e = .returned (.agg (modA (enc q0) (fnN bM bA))) ∧ Kept w w' ∧ Caps w' bM bA rb := by
  have HL := Lib.hid h
  have HN := Lib.hid hn
  have BM := fun g bs cs W => bdM_run (q := q0) hq g bs cs W
  obtain ⟨W1, h1⟩ : ∃ W1, w.alloc (.cells #[.func (.func 63) #[] #[]] 139) = W1 := ⟨_, rfl⟩
  obtain ⟨W2, h2⟩ : ∃ W2, W1.alloc (.cells #[.func (.func 64) #[] #[]] 140) = W2 := ⟨_, rfl⟩
  have k1 : Kept w W1 := by rw [← h1]; exact (Kept.refl _).alloc _ _
  have k2 : Kept W1 W2 := by rw [← h2]; exact (Kept.refl _).alloc _ _
  have s1 : W1.heap.size = w.heap.size + 1 := by rw [← h1]; simp
  have s2 : W2.heap.size = w.heap.size + 1 + 1 := by rw [← h2]; simp [s1]
  have cm : W2.cell? ⟨w.heap.size, 0, none⟩ = some (.func (.func 63) #[] #[]) := k2.some (by rw [← h1]; exact cell_new _ _ _ _ 0 rfl)
  have ca : W2.cell? ⟨w.heap.size + 1, 0, none⟩ = some (.func (.func 64) #[] #[]) := by rw [← h2]; exact cell_new _ _ _ _ 0 s1.symm
  have H1 := Lib.hid h1
  have H2 := Lib.hid h2
  have K2 := Lib.hid (k1.trans k2)
  have CM := Lib.hid cm
  have CA := Lib.hid ca
  have S2 := Lib.hid s2
  clear h hn h1 h2 k1 k2 s1 s2 cm ca
  go_enter Tryz.func62, Tryz.ntmps62
  go_upto_region 1 with fail
  rw [H1.out, H2.out]
  obtain ⟨W3, h3⟩ : ∃ W3, W2.alloc (.cells #[.int .i64 0, .int .i64 0, .int .i64 0, .int .i64 0, .int .i64 0, .int .i64 0, .int .i64 0, .int .i64 0, .int .i64 0, .int .i64 0, .int .i64 0, .nilFunc] 106) = W3 := ⟨_, rfl⟩
  rw [h3]
  have K3 := Lib.hid (show Kept W2 W3 by rw [← h3]; exact (Kept.refl _).alloc _ _)
  have TH := Lib.hid (show W3.there (w.heap.size + 1 + 1) 0 12 by
    intro j hj
    obtain ⟨v, hv⟩ : ∃ v, (#[.int .i64 0, .int .i64 0, .int .i64 0, .int .i64 0, .int .i64 0, .int .i64 0, .int .i64 0, .int .i64 0, .int .i64 0, .int .i64 0, .int .i64 0, .nilFunc] : Array Value)[j]? = some v := ⟨_, Array.getElem?_eq_getElem (by simpa using hj)⟩
    have c := cell_new W2 #[.int .i64 0, .int .i64 0, .int .i64 0, .int .i64 0, .int .i64 0, .int .i64 0, .int .i64 0, .int .i64 0, .int .i64 0, .int .i64 0, .int .i64 0, .nilFunc] 106 (w.heap.size + 1 + 1) j S2.out.symm
    rw [hv] at c
    rw [Nat.zero_add, ← h3]
    exact ⟨by rw [c]; rfl, soft_new _ _ _ _ _ S2.out.symm⟩)
  have K13 := Lib.hid (K2.out.trans K3.out)
  clear h3
  go_wp2_with fail; refine (stateOf_any (HL.out.kept K13.out) HN.out hq).mono ?_
  rintro e v1 ⟨rfl, kv⟩
  have TH1 : v1.there (w.heap.size + 1 + 1) 0 12 := fun j hj => by
    obtain ⟨g1, g2⟩ := TH.out j hj
    obtain ⟨v, hv⟩ := Option.isSome_iff_exists.1 g1
    exact ⟨by rw [kv.some hv]; rfl, kv.soft (lt_of_cell hv) g2⟩
  have SZ : (modA (enc q0) (fnN w.heap.size (w.heap.size + 1))).size = 12 := by simp [modA, enc_len]
  have SM := storeMid_any (w := v1) (b := w.heap.size + 1 + 1) (o := 0) (T := 106) (R := modA (enc q0) (fnN w.heap.size (w.heap.size + 1))) (by rw [SZ]; exact TH1) (by rw [SZ]; exact sizeM) (by
    have h9 := enc_one q0
    intro v hv
    simp only [modA] at hv
    rcases List.mem_append.1 hv with h | h
    · exact h9 v h
    · rw [List.mem_singleton.1 h]; rfl)
  rw [stM_named] at SM
  have RG := Lib.hid (show (v1.setCells (w.heap.size + 1 + 1) 0 (modA (enc q0) (fnN w.heap.size (w.heap.size + 1))).toList).rangeAt (w.heap.size + 1 + 1) 0 (enc q0 ++ [fnN w.heap.size (w.heap.size + 1)]) by
    have := World.rangeAt_setCells_same v1 (w.heap.size + 1 + 1) 0 (modA (enc q0) (fnN w.heap.size (w.heap.size + 1))).toList (by rw [Array.length_toList, SZ]; exact TH1)
    simpa [modA] using this)
  have BB := Lib.hid (show But (fun x => x = w.heap.size + 1 + 1) v1 (v1.setCells (w.heap.size + 1 + 1) 0 (modA (enc q0) (fnN w.heap.size (w.heap.size + 1))).toList) from but_setCells _ _ _ (But.refl _ _))
  have KV := Lib.hid kv
  clear TH1 SZ kv
  go_wp2
  refine bodyPost_ret (model_result Tryz.results62 rfl (enc_len q0) RG.out) rfl ⟨_, _, rfl, (K13.out.trans KV.out).put1 BB.out (by omega), ?_⟩
  have k9 := K3.out.trans KV.out
  exact ⟨BB.out.some (k9.some CM.out) (by omega), BB.out.some (k9.some CA.out) (by omega)⟩
theorem model_home {W v1 : World} (kv : Kept (W.alloc (.cells #[.int .i64 0, .int .i64 0, .int .i64 0, .int .i64 0, .int .i64 0, .int .i64 0, .int .i64 0, .int .i64 0, .int .i64 0, .int .i64 0, .int .i64 0, .nilFunc] 106)) v1) (q0 : List El) (bM bA : Nat) {b : Nat} (hb : b = W.heap.size) :
    ∃ W9, (stM (.pointer (some ⟨b, 0, none⟩)) (.agg (modA (enc q0) (fnN bM bA)))).run Tryz.prog v1 = .ok () W9 ∧ W9.rangeAt b 0 (enc q0 ++ [fnN bM bA]) ∧ But (fun x => x = b) v1 W9 := by
  subst hb
  have TH1 : v1.there W.heap.size 0 12 := fun j hj => by
    obtain ⟨v, hv⟩ : ∃ v, (#[.int .i64 0, .int .i64 0, .int .i64 0, .int .i64 0, .int .i64 0, .int .i64 0, .int .i64 0, .int .i64 0, .int .i64 0, .int .i64 0, .int .i64 0, .nilFunc] : Array Value)[j]? = some v := ⟨_, Array.getElem?_eq_getElem (by simpa using hj)⟩
    have c := cell_new W #[.int .i64 0, .int .i64 0, .int .i64 0, .int .i64 0, .int .i64 0, .int .i64 0, .int .i64 0, .int .i64 0, .int .i64 0, .int .i64 0, .int .i64 0, .nilFunc] 106 W.heap.size j rfl
    rw [hv] at c
    rw [Nat.zero_add]
    exact ⟨by rw [kv.some c]; rfl, kv.soft (lt_of_cell c) (soft_new _ _ _ _ _ rfl)⟩
  have SZ : (modA (enc q0) (fnN bM bA)).size = 12 := by simp [modA, enc_len]
  refine ⟨v1.setCells W.heap.size 0 (modA (enc q0) (fnN bM bA)).toList, ?_, ?_, but_setCells _ _ _ (But.refl _ _)⟩
  · exact storeMid_any (w := v1) (b := W.heap.size) (o := 0) (T := 106) (R := modA (enc q0) (fnN bM bA)) (by rw [SZ]; exact TH1) (by rw [SZ]; exact sizeM) (by
      have h9 := enc_one q0
      intro v hv
      simp only [modA] at hv
      rcases List.mem_append.1 hv with h | h
      · exact h9 v h
      · rw [List.mem_singleton.1 h]; rfl)
  · have := World.rangeAt_setCells_same v1 W.heap.size 0 (modA (enc q0) (fnN bM bA)).toList (by rw [Array.length_toList, SZ]; exact TH1)
    simpa [modA] using this
def homeM (W : World) : World := W.alloc (.cells #[.int .i64 0, .int .i64 0, .int .i64 0, .int .i64 0, .int .i64 0, .int .i64 0, .int .i64 0, .int .i64 0, .int .i64 0, .int .i64 0, .int .i64 0, .nilFunc] 106)
end Go.Proofs.YtbfmmndpboagdaaGreatDoor.SN
