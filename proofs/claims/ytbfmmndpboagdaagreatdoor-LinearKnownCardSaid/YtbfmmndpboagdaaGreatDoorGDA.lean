/- What is struck from a list (slices.DeleteFunc), the func being one of the program's. At api.Ans. -/
import Derived.Test.YtbfmmndpboagdaaGreatDoorGL
namespace Go.Proofs.YtbfmmndpboagdaaGreatDoor.SA
open Go.RowKit
attribute [local go_sem ↓] ldQ_named stQ_named
def clE (ts : Array TypeId) (ty : TypeId) (args : Array Value) : Sem Value := Builtin.clear_ ts ty args
theorem clE_named (ts : Array TypeId) (ty : TypeId) (args : Array Value) : Builtin.clear_ ts ty args = clE ts ty args := rfl
attribute [local go_sem ↓] clE_named
attribute [local go_sem] Kept.refl Kept.drew Kept.drewN Kept.alloc

def Asks (d : Stt → Bool) (v : Value) (w : World) : Prop := ∀ W q, But (fun k => v.ownBlock = some k) w W → Okq q → Calls Tryz.prog 81 #[.agg (enc q).toArray] W fun e w' => e = .returned (.bool (d q)) ∧ Kept W w'

theorem find_first {S : List Stt} {d : Stt → Bool} {k : Nat} {y : Stt} (hy : S[k]? = some y) (hd : d y = true) (hb : ∀ j z, j < k → S[j]? = some z → d z = false) : S.findIdx? d = some k := by
  rw [List.findIdx?_eq_some_iff_getElem]
  obtain ⟨hk, e⟩ := List.getElem?_eq_some_iff.1 hy
  exact ⟨hk, by rw [e]; exact hd, fun j hj => by rw [hb j S[j] hj (List.getElem?_eq_getElem (by omega))]; decide⟩
theorem find_no {S : List Stt} {d : Stt → Bool} (hb : ∀ (j : Nat) z, S[j]? = some z → d z = false) : S.findIdx? d = none := by
  rw [List.findIdx?_eq_none_iff]
  intro x hx
  obtain ⟨j, hj⟩ := List.mem_iff_getElem?.1 hx
  exact hb j x hj

set_option maxRecDepth 100000 in
set_option maxHeartbeats 4000000 in
theorem indexFunc_any {w : World} {a : Option Addr} {n c : Nat} {S : List Stt} (h : Lay w (.slice a n c) n (flatQ S)) (hn : n = S.length) (hS : ∀ q ∈ S, Okq q) {d : Stt → Bool} (hd : Asks d (.slice a n c) w) :
    Calls Tryz.prog 104 #[.slice a n c, .func (.func 81) #[] #[]] w fun e w' => e = .returned (.int .i64 ((S.findIdx? d).elim (-1 : Int) (fun (i : Nat) => (i : Int)))) ∧ Kept w w' := by
  obtain ⟨a', c', e, hnc, hcm⟩ := h.form
  cases e
  unfold maxLen at hcm
  have CE := Lib.hid (fun W (k : Kept w W) i y hy => st_one (h.kept k) hn i y hy)
  have HN := Lib.hid hn
  have HS := Lib.hid hS
  have HD := Lib.hid hd
  clear h hn hS hd
  go_enter Tryz.func104, Tryz.ntmps104
  go_wp2
  go_loopw [8] (fun i wr => ∃ k : Nat, k ≤ n ∧ i = .int .i64 k ∧ (∀ j y, j < k → S[j]? = some y → d y = false) ∧ Kept w wr) (fun i _ => n - (intOf i).toNat)
  case atStart => exact ⟨0, Nat.zero_le _, rfl, fun j y hj => by omega, Kept.refl _⟩
  case round =>
    obtain ⟨k, hkn, rfl, hlo, hk⟩ := hrel
    have LO := Lib.hid hlo
    have KE := Lib.hid hk
    clear hlo hk
    by_cases hlt : k < n
    · obtain ⟨y, hy⟩ : ∃ y, S[k]? = some y := ⟨_, List.getElem?_eq_getElem (by rw [← HN.out]; omega)⟩
      obtain ⟨g, o, rfl, hat⟩ := CE.out _ KE.out k y hy
      have oky : Okq y := HS.out y (List.mem_of_getElem? hy)
      have L2 := ldQ_ok oky hat
      have DC := Lib.hid (fun W (K : Kept w W) => HD.out W y (K.but _) oky)
      have HY := Lib.hid hy
      clear hy hat
      cases hq : d y with
      | true =>
        have HK := Lib.hid (show S.findIdx? d = some k from find_first HY.out hq LO.out)
        rw [hq] at DC
        clear hq
        go_wp2_with fail; go_at_call 81; refine (DC.out _ KE.out).mono ?_; rintro e v1 ⟨rfl, k1⟩
        go_wp2
        go_ret
        rw [HK.out]
        exact ⟨rfl, KE.out.trans k1⟩
      | false =>
        have HQ := Lib.hid hq
        rw [hq] at DC
        clear hq
        go_wp2_with fail; go_at_call 81; refine (DC.out _ KE.out).mono ?_; rintro e v1 ⟨rfl, k1⟩
        go_wp2
        go_roundw
        case rel => exact ⟨k + 1, by omega, by go_num, fun j z hj hz => by
          by_cases e : j = k
          · subst e; have h1 := HY.out; rw [hz] at h1; cases h1; exact HQ.out
          · exact LO.out j z (by omega) hz, KE.out.trans k1⟩
        case measure => simp [intOf]; omega
    · have HK := Lib.hid (show S.findIdx? d = none from find_no fun j y hy => LO.out j y (by have := (List.getElem?_eq_some_iff.1 hy).1; have := HN.out; omega) hy)
      go_wp2
      go_ret
      rw [HK.out]
      exact ⟨rfl, KE.out⟩

def Half (S T : List Stt) (d : Stt → Bool) (k : Nat) : Prop := T.length = S.length ∧ (∀ q ∈ T, Okq q) ∧ T.take ((S.take k).filter (fun q => !d q)).length = (S.take k).filter (fun q => !d q) ∧ ∀ j, k ≤ j → T[j]? = S[j]?
def DelRel (w : World) (S : List Stt) (d : Stt → Bool) (g n c : Nat) (i j : Value) (wr : World) : Prop :=
  ∃ k T, k ≤ n ∧ j = .int .i64 (k : Nat) ∧ i = .int .i64 (((S.take k).filter (fun q => !d q)).length : Nat) ∧ ((S.take k).filter (fun q => !d q)).length < k ∧ Half S T d k ∧ Fi.Filled wr g 27 (c * 3) (flatQ T) ∧ But (fun x => x = g) w wr
theorem half_stay {S T : List Stt} {d : Stt → Bool} {k : Nat} {y : Stt} (h : Half S T d k) (hy : S[k]? = some y) (hd : d y = true) : Half S T d (k + 1) := by
  obtain ⟨h1, h2, h3, h4⟩ := h
  have e : (S.take (k + 1)).filter (fun q => !d q) = (S.take k).filter (fun q => !d q) := by rw [List.take_add_one, hy]; simp [hd]
  refine ⟨h1, h2, by rw [e]; exact h3, fun j hj => h4 j (by omega)⟩
theorem half_move {S T : List Stt} {d : Stt → Bool} {k : Nat} {y : Stt} (h : Half S T d k) (hy : S[k]? = some y) (oy : Okq y) (hd : d y = false) (hlt : ((S.take k).filter (fun q => !d q)).length < k) :
    (S.take (k + 1)).filter (fun q => !d q) = (S.take k).filter (fun q => !d q) ++ [y] ∧ Half S (T.set ((S.take k).filter (fun q => !d q)).length y) d (k + 1) := by
  obtain ⟨h1, h2, h3, h4⟩ := h
  have hk := (List.getElem?_eq_some_iff.1 hy).1
  have e : (S.take (k + 1)).filter (fun q => !d q) = (S.take k).filter (fun q => !d q) ++ [y] := by rw [List.take_add_one, hy]; simp [hd]
  refine ⟨e, by simp [h1], fun q hq => ?_, ?_, fun j hj => ?_⟩
  · rcases List.mem_or_eq_of_mem_set hq with hq | hq
    · exact h2 q hq
    · subst hq; exact oy
  · rw [e, List.length_append, List.length_singleton]
    generalize (S.take k).filter (fun q => !d q) = F at h3 hlt
    have hl : F.length < T.length := by omega
    rw [List.take_add_one, List.take_set_of_le (Nat.le_refl _), h3]
    congr 1
    simp [hl]
  · rw [List.getElem?_set_ne (by omega)]
    exact h4 j (by omega)

def Left (w : World) (base : Nat) (v : Value) (F : List Stt) (e : Ending) (w' : World) : Prop :=
  ∃ a c, e = .returned (.slice a F.length c) ∧ But (fun k => v.ownBlock = some k) w w' ∧ w'.ownsRow base 27 3 (.slice a F.length c) F.length (flatQ F)

set_option maxRecDepth 100000 in
set_option maxHeartbeats 8000000 in
theorem deleteFunc_any {w : World} {a : Option Addr} {n c base : Nat} {S : List Stt} (h : w.ownsRow base 27 3 (.slice a n c) n (flatQ S)) (hn : n = S.length) (_hb : base ≤ w.heap.size) (hS : ∀ q ∈ S, Okq q) {d : Stt → Bool} (hd : Asks d (.slice a n c) w) :
    Calls Tryz.prog 79 #[.slice a n c, .func (.func 81) #[] #[]] w (Left w base (.slice a n c) (S.filter (fun q => !d q))) := by
  obtain ⟨a', c', e, hnc, hcm⟩ := (own_lies h).lay.form
  cases e
  have hcm' := hcm
  unfold maxLen at hcm
  have IX := Lib.hid (indexFunc_any (own_lies h).lay hn hS hd)
  have HN := Lib.hid hn
  have HS := Lib.hid hS
  have HD := Lib.hid hd
  cases hf : S.findIdx? d with
  | none =>
    have HF := Lib.hid (show S.filter (fun q => !d q) = S by
      rw [List.filter_eq_self]
      intro x hx
      have := List.findIdx?_eq_none_iff.1 hf x hx
      simp [this])
    rw [hf] at IX
    have HO := Lib.hid h
    clear h hn hS hd hf
    go_enter Tryz.func79, Tryz.ntmps79
    go_wp2_with fail; refine IX.out.mono ?_; rintro e w1 ⟨rfl, k1⟩
    go_wp2
    go_ret
    refine ⟨a, c, by rw [HF.out, ← HN.out]; rfl, k1.but _, ?_⟩
    rw [HF.out, ← HN.out]
    exact own_kept HO.out k1
  | some m =>
    rw [hf] at IX
    obtain ⟨hm1, hm2, hm3⟩ := List.findIdx?_eq_some_iff_getElem.1 hf
    obtain ⟨g, rfl⟩ : ∃ g, a = some ⟨g, 0, none⟩ := by
      rcases h.2 with ⟨_, h0⟩ | ⟨g, cap, cur, hv, _⟩
      · omega
      · cases hv; exact ⟨g, rfl⟩
    obtain ⟨_, hnc', _, hbg, _, hfi⟩ := filled_of_own h
    have FI0 := Lib.hid hfi
    have hown : ∀ k, (Value.slice (some ⟨g, 0, none⟩) n c).ownBlock = some k ↔ k = g := fun k => by simp [Value.ownBlock]; exact ⟨fun e => e.symm, fun e => e.symm⟩
    have hgl : g < w.heap.size := hfi.lt
    have HOWN := Lib.hid hown
    have HB := Lib.hid hbg
    have e0 : (S.take (m + 1)).filter (fun q => !d q) = S.take m := by
      rw [List.take_add_one, List.getElem?_eq_getElem hm1, List.filter_append]
      simp only [Option.toList_some, List.filter_cons, hm2, Bool.not_true, Bool.false_eq_true, if_false, List.filter_nil, List.append_nil]
      rw [List.filter_eq_self]
      intro x hx
      obtain ⟨j, hj⟩ := List.mem_iff_getElem?.1 hx
      have hj' := (List.getElem?_eq_some_iff.1 hj).1
      rw [List.length_take] at hj'
      rw [List.getElem?_take_of_lt (by omega)] at hj
      obtain ⟨_, e⟩ := List.getElem?_eq_some_iff.1 hj
      have := hm3 j (by omega)
      rw [e] at this
      simpa using this
    have START := Lib.hid (show ∀ wr, Kept w wr → DelRel w S d g n c (.int .i64 (m : Nat)) (.int .i64 ((m : Int) + 1)) wr from fun wr k => ⟨m + 1, S, by omega, by simp, by rw [e0, List.length_take, Nat.min_eq_left (by omega)], by rw [e0, List.length_take]; omega, ⟨rfl, hS, by rw [e0, List.length_take, Nat.min_eq_left (by omega)], fun _ _ => rfl⟩, hfi.kept k, k.but _⟩)
    have mlt : m < n := by omega
    have NEG : ((m : Int) == -1) = false := by simp
    clear h hn hS hd hf hm1 hm2 hm3 hfi e0 hown hbg
    go_enter Tryz.func79, Tryz.ntmps79
    go_wp2_with fail; refine IX.out.mono ?_; rintro e w1 ⟨rfl, k1⟩
    go_wp2
    go_loopw [5, 6] (DelRel w S d g n c) (fun _ j _ => n - (intOf j).toNat)
    case atStart => exact START.out _ k1
    case round =>
      obtain ⟨k, T, hkn, rfl, rfl, hik, hhalf, hfil, hbut⟩ := hrel
      obtain ⟨i, hi⟩ : ∃ i, i = ((S.take k).filter (fun q => !d q)).length := ⟨_, rfl⟩
      have HI := Lib.hid hi
      rw [← hi] at hik ⊢
      have HH := Lib.hid hhalf
      have FI := Lib.hid hfil
      have BU := Lib.hid hbut
      have HTl := Lib.hid hhalf.1
      clear hi hhalf hfil hbut
      by_cases hlt : k < n
      · obtain ⟨y, hy⟩ : ∃ y, S[k]? = some y := ⟨_, List.getElem?_eq_getElem (by rw [← HN.out]; omega)⟩
        have oky : Okq y := HS.out y (List.mem_of_getElem? hy)
        have hTk : T[k]? = some y := (HH.out.2.2.2 k (Nat.le_refl _)).trans hy
        have L1 := ldQ_ok oky (filled_range FI.out (o := k * 3) (fun j u hu => by
          have hj : j < 3 := by have := (List.getElem?_eq_some_iff.1 hu).1; rw [enc_len] at this; exact this
          rw [flatQ_get T k j y hTk hj]; exact hu))
        have S1 := fun (W : World) b (Z : Array Value) t (hb : b = W.heap.size) (hZ : Z.size = 3) => stQ_fresh (w := W) (b := b) oky Z t hb hZ
        have L3 := fun (W : World) b (hb : b = W.heap.size) => ldQ_ok (w := W.alloc (.cells (enc y).toArray 27)) (b := b) (o := 0) oky (by have := range_new W (enc y).toArray 27 b hb; simpa using this)
        have DC := Lib.hid (HD.out (wr.alloc (.cells (enc y).toArray 27)) y (((BU.out.alloc _ _)).mono fun j _ e => (HOWN.out j).2 e) oky)
        have HY := Lib.hid hy
        clear hy hTk
        cases hq : d y with
        | true =>
          have HQ := Lib.hid hq
          rw [hq] at DC
          clear hq
          go_wp2_with fail; refine DC.out.mono ?_; rintro e v1 ⟨rfl, kv⟩
          go_wp2
          go_roundw
          case rel =>
            have hh := HH.out
            have HY' := HY.out
            refine ⟨k + 1, T, by omega, by simp, ?_, ?_, half_stay hh HY' HQ.out, (FI.out.kept ((Kept.refl _).alloc _ _)).kept kv, (BU.out.alloc _ _).then kv⟩
            · rw [List.take_add_one, HY']
              simp only [Option.toList_some, List.filter_append, List.filter_cons, HQ.out, Bool.not_true, Bool.false_eq_true, if_false, List.filter_nil, List.append_nil]
              rw [← HI.out]
            · rw [List.take_add_one, HY']
              simp only [Option.toList_some, List.filter_append, List.filter_cons, HQ.out, Bool.not_true, Bool.false_eq_true, if_false, List.filter_nil, List.append_nil]
              rw [← HI.out]
              omega
          case measure => simp [intOf]; omega
        | false =>
          have HQ := Lib.hid hq
          rw [hq] at DC
          clear hq
          go_wp2_with fail; refine DC.out.mono ?_; rintro e v1 ⟨rfl, kv⟩
          have F1 := Lib.hid ((FI.out.kept ((Kept.refl _).alloc _ _)).kept kv)
          have ST := stQ_mid (w := v1) (b := g) (o := i * 3) oky (filled_there F1.out (i * 3) 3 (by
            have := Nat.mul_le_mul_right 3 (show i + 1 ≤ c by omega)
            omega))
          have L4 := ldQ_ok oky (range_kept (by have := range_new wr (enc y).toArray 27 wr.heap.size rfl; simpa using this) kv)
          have KV := Lib.hid kv
          clear kv
          go_wp2
          go_roundw
          case rel =>
            have hh := HH.out
            have HY' := HY.out
            obtain ⟨m1, m2⟩ := half_move hh HY' oky HQ.out (by rw [← HI.out]; exact hik)
            have hTl := HTl.out
            have hN := HN.out
            refine ⟨k + 1, T.set i y, by omega, by simp, by rw [m1, List.length_append, ← HI.out]; simp, by rw [m1, List.length_append, ← HI.out]; simp; omega, by rw [HI.out]; exact m2, ?_, ?_⟩
            · have fm := filled_mid F1.out (i * 3) (enc y) (by
                rw [flatQ_length, enc_len, hTl, ← hN]
                have := Nat.mul_le_mul_right 3 (show i + 1 ≤ n by omega)
                omega) (by
                rw [flatQ_length, hTl, ← hN]
                exact Nat.mul_le_mul_right _ hnc)
              have e := wide_set enc_len T i y (by omega)
              unfold flatQ
              rw [e]
              rw [enc_len] at fm
              exact fm
            · exact but_setCells _ _ _ ((BU.out.alloc _ _).then KV.out)
          case measure => simp [intOf]; omega
      · obtain rfl : k = n := by omega
        have hT := HH.out.2.2.1
        have hF : S.take k = S := by rw [HN.out, List.take_length]
        rw [← HI.out, hF] at hT
        have HF := Lib.hid (show T.take i = S.filter (fun q => !d q) from hT)
        have HIl := Lib.hid (show (S.filter (fun q => !d q)).length = i by rw [HI.out, hF])
        obtain ⟨i0, hi0, hz0, hz1, hz2⟩ := info_parts infoQ
        have FC := filled_cut FI.out (i * 3)
        have eC : (flatQ T).take (i * 3) = flatQ (S.filter (fun q => !d q)) := by
          have := wide_take enc_len T i
          unfold flatQ
          rw [this, HF.out]
        rw [eC] at FC
        have hTl := HTl.out
        obtain ⟨wc, hclr, FIc, BUc⟩ := clear_any (T := 128) FC Tryz.underlying128 hi0 hz0 (by intro u hu; simp [Value.cells] at hu; exact enc_one _ u hu) (k - i) (c - i) (o := i * 3) (by rw [flatQ_length, HIl.out]; exact Nat.le_refl _) (by
          have e1 : (Value.agg (enc ⟨0, 0, 0⟩).toArray).cells.size = 3 := by simp [Value.cells, enc_len]
          rw [e1, ← Nat.add_mul]
          exact Nat.mul_le_mul_right _ (by omega)) 0
        have CL : (clE #[128] 0 #[.slice (some ⟨g, i * 3, none⟩) (k - i) (c - i)]).run Tryz.prog wr = .ok (.tuple #[]) wc := hclr
        have OW := Lib.hid (own_of_filled (base := base) (n := i) FIc (by rw [flatQ_length, HIl.out]) (by omega) hcm' HB.out)
        have BW := Lib.hid (BU.out.trans BUc (fun _ _ h => h))
        clear hT hF FC eC FIc BUc hclr hi0 hz0 hz1 hz2
        go_wp2
        go_ret
        refine ⟨some ⟨g, 0, none⟩, c, by rw [HIl.out]; rfl, BW.out.mono fun j _ e => (HOWN.out j).2 e, ?_⟩
        rw [HIl.out]
        exact OW.out
end Go.Proofs.YtbfmmndpboagdaaGreatDoor.SA
