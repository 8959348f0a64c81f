/- The program's Check, Most, those over its two closures, Whole, Only. -/
import Derived.Test.YtjbplbfedndjpaaEvRead
import Derived.Test.YtjbplbfedndjpaaEvRef2
namespace Go.Proofs.Ytjbplbfedndjpaa
open Go.RowKit Go.Maps

theorem Rd.bad {w w' : World} {a : Option Addr} {c : Nat} {h : List Ev} {ed : Ending} (r : Rd w a c h ed w') (hz : chk h ≠ 0) : ed = .returned (.tuple #[.agg #[.slice none 0 0, .map none], .int .i64 (chk h)]) ∧ Kept w w' := by
  obtain ⟨k, ⟨e, _⟩ | ⟨_, e⟩⟩ := r
  · exact absurd e hz
  · exact ⟨e, k⟩
theorem Rd.ok {w w' : World} {a : Option Addr} {c : Nat} {h : List Ev} {ed : Ending} (r : Rd w a c h ed w') (hz : chk h = 0) : ∃ b, ed = .returned (.tuple #[.agg #[.slice a h.length c, .map (some b)], .int .i64 0]) ∧ Seen w' b h.length (mp h) ∧ w.heap.size ≤ b ∧ Kept w w' := by
  obtain ⟨k, ⟨_, b, e, s, hb⟩ | ⟨e, _⟩⟩ := r
  · exact ⟨b, e, s, hb, k⟩
  · exact absurd hz e
/-- read of a history that may be, and of one that may not. -/
theorem read_ok {w : World} {a : Option Addr} {c : Nat} {h : List Ev} (hE : Lay w (.slice a h.length c) h.length (flatE h)) (hw : ∀ e ∈ h, Wf e) (hl : h.length ≤ 5000) (hz : chk h = 0) :
    Calls Try.prog 33 #[.slice a h.length c] w fun ed w' => ∃ b, ed = .returned (.tuple #[.agg #[.slice a h.length c, .map (some b)], .int .i64 0]) ∧ Seen w' b h.length (mp h) ∧ w.heap.size ≤ b ∧ Kept w w' :=
  (read_any hE hw hl).mono fun _ _ r => r.ok hz
theorem read_bad {w : World} {a : Option Addr} {c : Nat} {h : List Ev} (hE : Lay w (.slice a h.length c) h.length (flatE h)) (hw : ∀ e ∈ h, Wf e) (hl : h.length ≤ 5000) (v : Int) (hv : chk h = v) (hz : v ≠ 0) :
    Calls Try.prog 33 #[.slice a h.length c] w fun ed w' => ed = .returned (.tuple #[.agg #[.slice none 0 0, .map none], .int .i64 v]) ∧ Kept w w' := by
  subst hv
  exact (read_any hE hw hl).mono fun _ _ r => r.bad hz

set_option maxHeartbeats 2000000 in
theorem check_any {w : World} {a : Option Addr} {c : Nat} {h : List Ev} (hE : Lay w (.slice a h.length c) h.length (flatE h)) (hw : ∀ e ∈ h, Wf e) (hl : h.length ≤ 5000) :
    Calls Try.prog 15 #[.slice a h.length c] w fun ed w' => ed = .returned (.int .i64 (chk h)) ∧ Kept w w' := by
  by_cases hz : chk h = 0
  · have RD := Lib.hid (read_ok hE hw hl hz)
    rw [hz]
    clear hE hw hz
    go_enter Try.func15, Try.ntmps15
    go_wp2_with fail; refine RD.out.mono ?_; rintro ed w1 ⟨b, rfl, _, _, k1⟩
    have K1 := Lib.hid k1
    clear k1
    go_wp2
    go_ret
    exact ⟨rfl, K1.out.alloc _ _⟩
  · have RD := Lib.hid (read_bad hE hw hl _ rfl hz)
    generalize chk h = v at *
    clear hE hw hz
    go_enter Try.func15, Try.ntmps15
    go_wp2_with fail; refine RD.out.mono ?_; rintro ed w1 ⟨rfl, k1⟩
    have K1 := Lib.hid k1
    clear k1
    go_wp2
    go_ret
    exact ⟨rfl, K1.out.alloc _ _⟩

/-! ### Most -/
def MostAt2 (w : World) (h : List Ev) (now most_ i : Value) (W : World) : Prop :=
  ∃ k : Nat, k ≤ h.length ∧ i = .int .i64 k ∧ Kept w W ∧ now = .int .i64 (most (h.take k)).1 ∧ most_ = .int .i64 (most (h.take k)).2

set_option maxHeartbeats 4000000 in
theorem most_bad {w : World} {a : Option Addr} {c : Nat} {h : List Ev} (hE : Lay w (.slice a h.length c) h.length (flatE h)) (hw : ∀ e ∈ h, Wf e) (hl : h.length ≤ 5000) (v : Int) (hv : chk h = v) (hz : v ≠ 0) :
    Calls Try.prog 19 #[.slice a h.length c] w fun ed w' => ed = .returned (.int .i64 0) ∧ Kept w w' := by
  have RD := Lib.hid (read_bad hE hw hl v hv hz)
  clear hE hv hz hw
  go_enter Try.func19, Try.ntmps19
  go_wp2_with fail; refine RD.out.mono ?_; rintro ed w1 ⟨rfl, k1⟩
  have K1 := Lib.hid k1
  clear k1
  go_wp2
  go_loopw [6, 17] (fun v i wr => v = .int .i64 0 ∧ i = .int .i64 0 ∧ Kept w wr) (fun _ _ _ => 0)
  case atStart => exact ⟨rfl, rfl, K1.out.alloc _ _⟩
  case round =>
    obtain ⟨rfl, rfl, k2⟩ := hrel
    go_wp2
    go_ret
    exact ⟨rfl, k2⟩

set_option maxHeartbeats 4000000 in
theorem most_ok {w : World} {a : Option Addr} {c : Nat} {h : List Ev} (hE : Lay w (.slice a h.length c) h.length (flatE h)) (hw : ∀ e ∈ h, Wf e) (hl : h.length ≤ 5000) (hv : chk h = 0) :
    Calls Try.prog 19 #[.slice a h.length c] w fun ed w' => ed = .returned (.int .i64 (most h).2) ∧ Kept w w' := by
  have RD := Lib.hid (read_ok hE hw hl hv)
  by_cases h0 : h = []
  · subst h0
    clear hE hl hv hw
    go_enter Try.func19, Try.ntmps19
    go_wp2_with fail; refine RD.out.mono ?_; rintro ed w1 ⟨b, rfl, _, _, k1⟩
    have K1 := Lib.hid k1
    clear k1
    go_wp2
    go_loopw [6, 17] (fun v i wr => v = .int .i64 0 ∧ i = .int .i64 0 ∧ Kept w wr) (fun _ _ _ => 0)
    case atStart => exact ⟨rfl, rfl, K1.out.alloc _ _⟩
    case round =>
      obtain ⟨rfl, rfl, k2⟩ := hrel
      go_wp2
      go_ret
      exact ⟨rfl, k2⟩
  · have hp : 0 < h.length := List.length_pos_iff.2 h0
    obtain ⟨g, o, c, e, h1, h2, hc⟩ := hE.ev hp
    cases e
    have HC := Lib.hid hc
    obtain ⟨n, hn⟩ : ∃ n, n = h.length := ⟨_, rfl⟩
    have HN := Lib.hid hn
    rw [← hn] at hl RD ⊢
    obtain ⟨R, hR⟩ : ∃ R, R = (most h).2 := ⟨_, rfl⟩
    rw [← hR]
    have HR := Lib.hid hR
    clear hc hE h0 hp hn hv hR hw
    go_enter Try.func19, Try.ntmps19
    go_wp2_with fail; refine RD.out.mono ?_; rintro ed w1 ⟨b, rfl, _, _, k1⟩
    have K1 := Lib.hid k1
    clear k1
    go_wp2
    go_loopw [5, 6, 17] (fun now v i wr => MostAt2 w h now v i wr) (fun _ _ i _ => n - (intOf i).toNat)
    case atStart => exact ⟨0, Nat.zero_le _, rfl, K1.out.alloc _ _, rfl, rfl⟩
    case round =>
      obtain ⟨k, hk, rfl, hkept, rfl, rfl⟩ := hrel
      rw [← HN.out] at hk
      have KR := Lib.hid hkept
      clear hkept
      have ml := most_le (h.take k)
      have mk : (h.take k).length ≤ k := by rw [List.length_take]; omega
      obtain ⟨m1, m2, m3, m4⟩ := ml
      by_cases hlt : k < n
      · obtain ⟨e, he⟩ : ∃ e, h[k]? = some e := ⟨_, List.getElem?_eq_getElem (by rw [← HN.out]; exact hlt)⟩
        obtain ⟨x0, x1, x2, x3, x4, x5, x6, x7, x8⟩ := (HC.out k e he).kept KR.out
        have MS := Lib.hid (show most (h.take (k + 1)) = mst (most (h.take k)) e by rw [take_snoc h k e he, most_snoc])
        clear he
        generalize hs : most (h.take k) = s at *
        obtain ⟨p, q⟩ := s
        have HS := Lib.hid hs
        dsimp only at m1 m2 m3 m4
        have b1 : -5000 ≤ p := by omega
        have b2 : q ≤ 5000 := by omega
        clear hs m2 m3 mk
        cases hqe : e.ans with
        | true =>
          rw [hqe] at x1
          have Q0 := Lib.hid hqe
          clear hqe
          go_wp2
          go_roundw
          case rel =>
            refine ⟨k + 1, by rw [← HN.out]; omega, by go_num, KR.out.alloc _ _, ?_, ?_⟩
            · rw [MS.out]; simp [mst, Q0.out]
            · rw [MS.out]; simp [mst, Q0.out]
          case measure => simp [intOf]; omega
        | false =>
          rw [hqe] at x1
          have Q0 := Lib.hid hqe
          clear hqe
          by_cases hgt : q < p + 1
          · go_wp2
            go_roundw
            case rel =>
              refine ⟨k + 1, by rw [← HN.out]; omega, by go_num, KR.out.alloc _ _, ?_, ?_⟩
              · rw [MS.out]; simp [mst, Q0.out]
              · rw [MS.out]; simp [mst, Q0.out]; omega
            case measure => simp [intOf]; omega
          · go_wp2
            go_roundw
            case rel =>
              refine ⟨k + 1, by rw [← HN.out]; omega, by go_num, KR.out.alloc _ _, ?_, ?_⟩
              · rw [MS.out]; simp [mst, Q0.out]
              · rw [MS.out]; simp [mst, Q0.out]; omega
            case measure => simp [intOf]; omega
      · have HK := Lib.hid (show R = (most (h.take k)).2 by rw [HR.out, show k = h.length by rw [← HN.out]; omega, List.take_length])
        go_wp2
        go_ret
        refine ⟨?_, KR.out⟩
        rw [HK.out]
        rfl

/-! ### those -/

set_option maxHeartbeats 4000000 in
theorem those_whole {w : World} {a : Option Addr} {c B : Nat} {h : List Ev} (q : Ev → Bool) (hE : Lay w (.slice a h.length c) h.length (flatE h)) (hw : ∀ e ∈ h, Wf e) (hl : h.length ≤ 5000)
    (hf : ∀ (W : World) (e : Ev), Kept w W → Wf e → Calls Try.prog 39 #[.agg #[.int .i64 e.id, .bool e.ans, .int .i64 e.k, .int .i64 e.x, .int .i64 e.y, .int .u64 e.u, .int .i64 e.er, .int .i64 e.n, .int .u64 e.v], .pointer (some ⟨B, 0, none⟩)] W fun ed w' => ed = .returned (.bool (q e)) ∧ Kept W w') :
    Calls Try.prog 38 #[.slice a h.length c, .func (.func 39) #[] #[.pointer (some ⟨B, 0, none⟩)]] w (RetE w (h.filter q)) := by
  by_cases h0 : h = []
  · subst h0
    clear hE hl hw hf
    go_enter Try.func38, Try.ntmps38
    go_wp2
    go_loopw [5, 10] (fun v i wr => v = .slice none 0 0 ∧ i = .int .i64 0 ∧ wr = w) (fun _ _ _ => 0)
    case atStart => exact ⟨rfl, rfl, rfl⟩
    case round =>
      obtain ⟨rfl, rfl, rfl⟩ := hrel
      go_wp2
      go_ret
      exact ⟨none, 0, rfl, Kept.refl _, World.ownsRow_nil _ _ _ _⟩
  · have hp : 0 < h.length := List.length_pos_iff.2 h0
    obtain ⟨g, o, c, e, h1, h2, hc⟩ := hE.ev hp
    cases e
    have HC := Lib.hid hc
    have HF := Lib.hid hf
    have HW := Lib.hid hw
    obtain ⟨n, hn⟩ : ∃ n, n = h.length := ⟨_, rfl⟩
    have HN := Lib.hid hn
    rw [← hn] at hl ⊢
    obtain ⟨i0, hi0, hz0, hz1, hz2⟩ := info_parts infoEv
    clear hc hE h0 hp hn hw hf
    go_enter Try.func38, Try.ntmps38
    go_wp2
    go_loopw [5, 10] (fun v i wr => Got w q h v i wr) (fun _ i _ => n - (intOf i).toNat)
    case atStart => exact ⟨0, Nat.zero_le _, rfl, Kept.refl _, none, 0, by simp, by simp [flatE]; exact World.ownsRow_nil _ _ _ _⟩
    case round =>
      obtain ⟨k, hk, rfl, hkept, a2, c2, rfl, own2⟩ := hrel
      rw [← HN.out] at hk
      have KR := Lib.hid hkept
      have OW := Lib.hid own2
      clear hkept own2
      by_cases hlt : k < n
      · obtain ⟨e, he⟩ : ∃ e, h[k]? = some e := ⟨_, List.getElem?_eq_getElem (by rw [← HN.out]; exact hlt)⟩
        obtain ⟨x0, x1, x2, x3, x4, x5, x6, x7, x8⟩ := (HC.out k e he).kept KR.out
        have FS := Lib.hid (filter_snoc q h k e he)
        have tl := filter_le q h k
        have WE := Lib.hid (HW.out e (List.mem_of_getElem? he))
        clear he
        cases hqe : q e with
        | false =>
          have CF := Lib.hid (fun W k => hqe ▸ HF.out W e k WE.out)
          have Q0 := Lib.hid hqe
          clear hqe
          go_wp2_with fail; refine (CF.out _ (KR.out.alloc _ _)).mono ?_; rintro ed w1 ⟨rfl, k1⟩
          have K1 := Lib.hid k1
          clear k1
          go_wp2
          go_roundw
          case rel =>
            have e3 : (h.take (k + 1)).filter q = (h.take k).filter q := by rw [FS.out, Q0.out]; simp
            refine ⟨k + 1, by rw [← HN.out]; omega, by go_num, (KR.out.alloc _ _).trans K1.out, a2, c2, by rw [e3], ?_⟩
            rw [e3]
            exact own_kept OW.out (((Kept.refl _).alloc _ _).trans K1.out)
          case measure => simp [intOf]; omega
        | true =>
          have CF := Lib.hid (fun W k => hqe ▸ HF.out W e k WE.out)
          have Q0 := Lib.hid hqe
          clear hqe
          go_wp2_with fail; refine (CF.out _ (KR.out.alloc _ _)).mono ?_; rintro ed w1 ⟨rfl, k1⟩
          have K1 := Lib.hid k1
          obtain ⟨g0, g1, g2, g3, g4, g5, g6, g7, g8⟩ := (EvBox.new wr e 51).kept k1
          clear k1
          go_wp2_with (at_builtin; refine wpList_append_lay _ rfl _ _ _ rfl w.heap.size 51 i0 _ 9 72 Try.underlying22 hi0 hz0 hz1 hz2 (by rfl) (by decide) (.slice a2 ((h.take k).filter q).length c2) ((h.take k).filter q).length (flatE ((h.take k).filter q)) (by simp [Act.eval, Act.put]) (own_kept OW.out ((((Kept.refl _).alloc _ _).trans K1.out).alloc _ _)) _ 1 (flatE [e]) (by simp [Act.eval, Act.put]) (flatE_length [e]) (lay_new (heap_alloc_new _ _) (by decide)) (flatE_one _) (by unfold maxLen; omega) (by omega) (by have := ((KR.out.alloc #[.int .i64 e.id, .bool e.ans, .int .i64 e.k, .int .i64 e.x, .int .i64 e.y, .int .u64 e.u, .int .i64 e.er, .int .i64 e.n, .int .u64 e.v] 51).trans K1.out).size; simp; omega) ?_; intro a4 c4 w4 own4 but4 at4)
          go_roundw
          case rel =>
            have e3 : (h.take (k + 1)).filter q = (h.take k).filter q ++ [e] := by rw [FS.out, Q0.out]; simp
            refine ⟨k + 1, by rw [← HN.out]; omega, by go_num, (((((KR.out.alloc _ _).trans K1.out).alloc _ _).but _).trans but4 (fun _ _ h => h)).kept (fun k hk e => by have := (OW.out.lt k e).1; omega), a4, c4, by rw [e3]; simp, ?_⟩
            unfold OwnE
            rw [e3, flatE_snoc, List.length_append]
            simpa [flatE] using own4
          case measure => simp [intOf]; omega
      · have tt : (h.take k).filter q = h.filter q := by rw [show k = h.length by rw [← HN.out]; omega, List.take_length]
        rw [tt] at OW ⊢
        clear tt
        go_wp2
        go_ret
        exact ⟨a2, c2, rfl, KR.out, OW.out⟩

set_option maxHeartbeats 4000000 in
theorem those_only {w : World} {a : Option Addr} {c B : Nat} {h : List Ev} (q : Ev → Bool) (hE : Lay w (.slice a h.length c) h.length (flatE h)) (hw : ∀ e ∈ h, Wf e) (hl : h.length ≤ 5000)
    (hf : ∀ (W : World) (e : Ev), Kept w W → Wf e → Calls Try.prog 41 #[.agg #[.int .i64 e.id, .bool e.ans, .int .i64 e.k, .int .i64 e.x, .int .i64 e.y, .int .u64 e.u, .int .i64 e.er, .int .i64 e.n, .int .u64 e.v], .pointer (some ⟨B, 0, none⟩)] W fun ed w' => ed = .returned (.bool (q e)) ∧ Kept W w') :
    Calls Try.prog 38 #[.slice a h.length c, .func (.func 41) #[] #[.pointer (some ⟨B, 0, none⟩)]] w (RetE w (h.filter q)) := by
  by_cases h0 : h = []
  · subst h0
    clear hE hl hw hf
    go_enter Try.func38, Try.ntmps38
    go_wp2
    go_loopw [5, 10] (fun v i wr => v = .slice none 0 0 ∧ i = .int .i64 0 ∧ wr = w) (fun _ _ _ => 0)
    case atStart => exact ⟨rfl, rfl, rfl⟩
    case round =>
      obtain ⟨rfl, rfl, rfl⟩ := hrel
      go_wp2
      go_ret
      exact ⟨none, 0, rfl, Kept.refl _, World.ownsRow_nil _ _ _ _⟩
  · have hp : 0 < h.length := List.length_pos_iff.2 h0
    obtain ⟨g, o, c, e, h1, h2, hc⟩ := hE.ev hp
    cases e
    have HC := Lib.hid hc
    have HF := Lib.hid hf
    have HW := Lib.hid hw
    obtain ⟨n, hn⟩ : ∃ n, n = h.length := ⟨_, rfl⟩
    have HN := Lib.hid hn
    rw [← hn] at hl ⊢
    obtain ⟨i0, hi0, hz0, hz1, hz2⟩ := info_parts infoEv
    clear hc hE h0 hp hn hw hf
    go_enter Try.func38, Try.ntmps38
    go_wp2
    go_loopw [5, 10] (fun v i wr => Got w q h v i wr) (fun _ i _ => n - (intOf i).toNat)
    case atStart => exact ⟨0, Nat.zero_le _, rfl, Kept.refl _, none, 0, by simp, by simp [flatE]; exact World.ownsRow_nil _ _ _ _⟩
    case round =>
      obtain ⟨k, hk, rfl, hkept, a2, c2, rfl, own2⟩ := hrel
      rw [← HN.out] at hk
      have KR := Lib.hid hkept
      have OW := Lib.hid own2
      clear hkept own2
      by_cases hlt : k < n
      · obtain ⟨e, he⟩ : ∃ e, h[k]? = some e := ⟨_, List.getElem?_eq_getElem (by rw [← HN.out]; exact hlt)⟩
        obtain ⟨x0, x1, x2, x3, x4, x5, x6, x7, x8⟩ := (HC.out k e he).kept KR.out
        have FS := Lib.hid (filter_snoc q h k e he)
        have tl := filter_le q h k
        have WE := Lib.hid (HW.out e (List.mem_of_getElem? he))
        clear he
        cases hqe : q e with
        | false =>
          have CF := Lib.hid (fun W k => hqe ▸ HF.out W e k WE.out)
          have Q0 := Lib.hid hqe
          clear hqe
          go_wp2_with fail; refine (CF.out _ (KR.out.alloc _ _)).mono ?_; rintro ed w1 ⟨rfl, k1⟩
          have K1 := Lib.hid k1
          clear k1
          go_wp2
          go_roundw
          case rel =>
            have e3 : (h.take (k + 1)).filter q = (h.take k).filter q := by rw [FS.out, Q0.out]; simp
            refine ⟨k + 1, by rw [← HN.out]; omega, by go_num, (KR.out.alloc _ _).trans K1.out, a2, c2, by rw [e3], ?_⟩
            rw [e3]
            exact own_kept OW.out (((Kept.refl _).alloc _ _).trans K1.out)
          case measure => simp [intOf]; omega
        | true =>
          have CF := Lib.hid (fun W k => hqe ▸ HF.out W e k WE.out)
          have Q0 := Lib.hid hqe
          clear hqe
          go_wp2_with fail; refine (CF.out _ (KR.out.alloc _ _)).mono ?_; rintro ed w1 ⟨rfl, k1⟩
          have K1 := Lib.hid k1
          obtain ⟨g0, g1, g2, g3, g4, g5, g6, g7, g8⟩ := (EvBox.new wr e 51).kept k1
          clear k1
          go_wp2_with (at_builtin; refine wpList_append_lay _ rfl _ _ _ rfl w.heap.size 51 i0 _ 9 72 Try.underlying22 hi0 hz0 hz1 hz2 (by rfl) (by decide) (.slice a2 ((h.take k).filter q).length c2) ((h.take k).filter q).length (flatE ((h.take k).filter q)) (by simp [Act.eval, Act.put]) (own_kept OW.out ((((Kept.refl _).alloc _ _).trans K1.out).alloc _ _)) _ 1 (flatE [e]) (by simp [Act.eval, Act.put]) (flatE_length [e]) (lay_new (heap_alloc_new _ _) (by decide)) (flatE_one _) (by unfold maxLen; omega) (by omega) (by have := ((KR.out.alloc #[.int .i64 e.id, .bool e.ans, .int .i64 e.k, .int .i64 e.x, .int .i64 e.y, .int .u64 e.u, .int .i64 e.er, .int .i64 e.n, .int .u64 e.v] 51).trans K1.out).size; simp; omega) ?_; intro a4 c4 w4 own4 but4 at4)
          go_roundw
          case rel =>
            have e3 : (h.take (k + 1)).filter q = (h.take k).filter q ++ [e] := by rw [FS.out, Q0.out]; simp
            refine ⟨k + 1, by rw [← HN.out]; omega, by go_num, (((((KR.out.alloc _ _).trans K1.out).alloc _ _).but _).trans but4 (fun _ _ h => h)).kept (fun k hk e => by have := (OW.out.lt k e).1; omega), a4, c4, by rw [e3]; simp, ?_⟩
            unfold OwnE
            rw [e3, flatE_snoc, List.length_append]
            simpa [flatE] using own4
          case measure => simp [intOf]; omega
      · have tt : (h.take k).filter q = h.filter q := by rw [show k = h.length by rw [← HN.out]; omega, List.take_length]
        rw [tt] at OW ⊢
        clear tt
        go_wp2
        go_ret
        exact ⟨a2, c2, rfl, KR.out, OW.out⟩
end Go.Proofs.Ytjbplbfedndjpaa
