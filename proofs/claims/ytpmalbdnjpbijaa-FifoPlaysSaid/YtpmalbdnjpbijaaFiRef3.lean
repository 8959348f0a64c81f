/- The document's Play. -/
import Derived.Test.YtpmalbdnjpbijaaFiRef2
namespace Go.Proofs.Ytpmalbdnjpbijaa
open Go.RowKit
attribute [local go_sem ↓] app_named

/-- The answers, what is left, an error: to be read. -/
def RetQ (w : World) (l : List Ann) (q : List Int) (err : Int) (e : Ending) (w' : World) : Prop :=
  ∃ a c b d, e = .returned (.tuple #[.slice a l.length c, .slice b q.length d, .int .i64 err]) ∧ Kept w w' ∧ Lay w' (.slice a l.length c) l.length (flatA l) ∧ Lay w' (.slice b q.length d) q.length (words q)
structure RefAt (w wr : World) (r : Nat) (l : List Opn) (k : Nat) (a : Option Addr) (c : Nat) (b : Option Addr) (m d : Nat) : Prop where
  own : wr.ownsRow w.heap.size 28 3 (.slice a k c) k (flatA (playA r (l.take k)))
  len : m = (playQ r (l.take k)).length
  lay : Lay wr (.slice b m d) m (words (playQ r (l.take k)))
  apart : ∀ g, (Value.slice a k c).ownBlock = some g → (Value.slice b m d).ownBlock ≠ some g
  old : ∀ g, (Value.slice b m d).ownBlock = some g → g < wr.heap.size
  kept : Kept w wr
def RefRel (w : World) (r n : Nat) (l : List Opn) (v s i : Value) (wr : World) : Prop :=
  ∃ k : Nat, k ≤ n ∧ i = .int .i64 k ∧ ∃ a c b m d, v = .slice a k c ∧ s = .slice b m d ∧ RefAt w wr r l k a c b m d
theorem refDoes_n {w : World} {a : Option Addr} {c m : Nat} {q : List Int} {r : Nat} {o : Opn} {p : Option (Ann × List Int)} (hl : Lay w (.slice a m c) m (words q)) (hm : m = q.length) (hq : q.length ≤ r) (r1 : 1 ≤ r) (r2 : r ≤ 1024) (hp : act r q o = p) :
    Calls Try.prog 30 #[.int .i64 r, .slice a m c, .agg #[.int .i64 o.k, .int .i64 o.a, .int .i64 o.b, .int .u64 o.u]] w (RetX w (p.elim noAnn (·.1)) (p.elim [] (·.2)) p.isSome) := by
  subst hm
  have e0 : actI r q o = p := by unfold actI; rw [if_pos (chk_ok (by omega) (by omega) (by omega))]; exact hp
  rw [← e0]
  exact refDoes_any hl (by omega)

set_option maxRecDepth 100000 in
set_option maxHeartbeats 4000000 in
theorem refPlay_ok {w : World} {a : Option Addr} {c r : Nat} {l : List Opn} (hl : Lay w (.slice a l.length c) l.length (flatO l)) (hlen : l.length ≤ 1000) (r1 : 1 ≤ r) (r2 : r ≤ 1024) :
    Calls Try.prog 20 #[.int .i64 r, .slice a l.length c] w (RetQ w (playA r l) (playQ r l) 0) := by
  obtain ⟨i0, hi0, hz0, hz1, hz2⟩ := info_parts infoA
  have CK := Lib.hid (refCheck_at (w := w) (a := none) (c := 0) (chk_ok (room := r) (n := 0) (by omega) (by omega) (by omega)))
  obtain ⟨n, hn⟩ : ∃ n, n = l.length := ⟨_, rfl⟩
  rw [← hn] at hlen
  have HL := Lib.hid hl
  have HN := Lib.hid hn
  rw [← hn]
  clear hl hn
  go_enter Try.func20, Try.ntmps20
  go_wp2_with fail
  refine CK.out.mono ?_
  rintro e w1 ⟨rfl, rfl⟩
  go_wp2_with fail
  go_loopw [8, 9, 10] (fun v s i wr => RefRel w r n l v s i wr) (fun _ _ i _ => n - (intOf i).toNat)
  case atStart => exact ⟨0, Nat.zero_le _, rfl, none, 0, none, 0, 0, rfl, rfl, World.ownsRow_nil _ _ _ _, rfl, .inl (.inl ⟨rfl, rfl, rfl⟩), (fun g hg => by cases hg), (fun g hg => by cases hg), Kept.refl _⟩
  case round =>
    obtain ⟨k, hk, rfl, a2, c2, b2, m2, d2, rfl, rfl, hp⟩ := hrel
    have P := Lib.hid hp
    clear hp
    by_cases hlt : k < n
    · obtain ⟨o, ho⟩ : ∃ o, l[k]? = some o := ⟨_, List.getElem?_eq_getElem (by rw [← HN.out]; exact hlt)⟩
      obtain ⟨g, off, c', e, h1, h2, hc⟩ := (HL.out.kept P.out.kept).op (by rw [← HN.out]; omega)
      cases e
      obtain ⟨o0, o1, o2, o3⟩ := hc k o ho
      have HO := Lib.hid ho
      obtain ⟨p, hp⟩ : ∃ p, act r (playQ r (l.take k)) o = p := ⟨_, rfl⟩
      have AC := Lib.hid hp
      have DO := Lib.hid (refDoes_n P.out.lay P.out.len (playQ_room r (l.take k)) r1 r2 hp)
      have tl : tell r (playQ r (l.take k)) o = p.elim noAnn (·.1) := by unfold tell; rw [hp]
      obtain ⟨t, ht⟩ : ∃ t, p.elim noAnn (·.1) = t := ⟨_, rfl⟩
      have TL := Lib.hid (tl.trans ht)
      rw [ht] at DO
      clear hc ho h1 h2 hp tl ht
      go_wp2_with fail
      refine DO.out.mono ?_
      rintro e w5 ⟨b5, d5, rfl, k5, L5, F5⟩
      have K5 := Lib.hid k5
      have z5 := k5.size
      have LL := Lib.hid L5
      have FF := Lib.hid F5
      clear L5 F5
      obtain ⟨a6, c6, w6, hrun0, own6, but6, at6⟩ := append_lay (P := Try.prog) ((w5.alloc (.cells #[.int .i64 t.e, .int .i64 t.n, .int .u64 t.v] 28)).alloc (.cells #[.int .i64 t.e, .int .i64 t.n, .int .u64 t.v] 28)) w.heap.size 41 41 28 i0 _ 3 24 Try.underlying41 hi0 hz0 hz1 hz2 (by rfl) (by decide)
        (.slice a2 k c2) k (flatA (playA r (l.take k))) (own_kept P.out.own (k5.trans (((Kept.refl w5).alloc _ _).alloc _ _))) (.slice (some ⟨w5.heap.size + 1, 0, none⟩) 1 1) 1 (flatA [t]) (flatA_length [_]) (lay_new (by have h := heap_alloc_new (w5.alloc (.cells #[.int .i64 t.e, .int .i64 t.n, .int .u64 t.v] 28)) (.cells #[.int .i64 t.e, .int .i64 t.n, .int .u64 t.v] 28); rw [World.size_alloc] at h; exact h) (by decide)) (flatA_one _) (by unfold maxLen; omega) (by omega) (by have := P.out.kept.size; simp; omega)
      have hrun := hrun0
      rw [app_named] at hrun
      have fresh : ∀ g, (Value.slice a6 (k + 1) c6).ownBlock = some g → (Value.slice a2 k c2).ownBlock = some g ∨ w5.heap.size ≤ g := fun g hg => by
        rcases at6 with h | h
        · exact .inl (h ▸ hg)
        · right
          rw [h] at hg
          simp at hg
          omega
      have K6 := Lib.hid (show Kept w w6 from (((P.out.kept.trans k5).alloc _ _).alloc _ _).wrote but6 (fun g hg => (P.out.own.lt g hg).1))
      have own7 : w6.ownsRow w.heap.size 28 3 (.slice a6 (k + 1) c6) (k + 1) (flatA (playA r (l.take (k + 1)))) := by
        rw [take_snoc l k o HO.out, playA_snoc, TL.out, flatA_snoc]
        simpa [flatA] using own6
      have O7 := Lib.hid own7
      have B6 := Lib.hid (show But (fun j => (Value.slice a2 k c2).ownBlock = some j) w5 w6 from ((((Kept.refl w5).alloc _ _).alloc _ _).but _).trans but6 (fun _ _ h => h))
      have FR := Lib.hid fresh
      clear hrun0 own6 but6 at6 own7 k5 fresh
      cases p with
      | none =>
        have ha : playQ r (l.take (k + 1)) = playQ r (l.take k) := by rw [take_snoc l k o HO.out, playQ_snoc]; unfold after; rw [AC.out]; rfl
        have HA := Lib.hid ha
        clear ha
        go_wp2
        go_roundw
        case rel => exact ⟨k + 1, by omega, by go_num, a6, c6, b2, m2, d2, rfl, rfl, O7.out, by rw [HA.out]; exact P.out.len, by rw [HA.out]; exact (P.out.lay.kept K5.out).but B6.out (fun g hg e => P.out.apart g e hg), fun g hg e => by
            rcases FR.out g hg with h | h
            · exact P.out.apart g h e
            · have := P.out.old g e; omega, fun g hg => by have := P.out.old g hg; have := B6.out.size; omega, K6.out⟩
        case measure => simp [intOf]; omega
      | some p =>
        have ha : playQ r (l.take (k + 1)) = p.2 := by rw [take_snoc l k o HO.out, playQ_snoc]; unfold after; rw [AC.out]; rfl
        have HA := Lib.hid ha
        clear ha
        go_wp2
        go_roundw
        case rel => exact ⟨k + 1, by omega, by go_num, a6, c6, b5, p.2.length, d5, rfl, rfl, O7.out, by rw [HA.out], by rw [HA.out]; exact LL.out.but B6.out (fun g hg e => by have h1 := (FF.out g hg).1; have h2 := (P.out.own.lt g e).2; omega), fun g hg e => by
            rcases FR.out g hg with h | h
            · have h1 := (FF.out g e).1; have h2 := (P.out.own.lt g h).2; omega
            · have := (FF.out g e).2; omega, fun g hg => by have := (FF.out g hg).2; have := B6.out.size; omega, K6.out⟩
        case measure => simp [intOf]; omega
    · have hkn : k = n := by omega
      subst hkn
      have hlk : l.take k = l := by rw [HN.out]; exact List.take_length
      have hak : k = (playA r l).length := by rw [playA_length]; exact HN.out
      have hm := P.out.len
      have L1 := Lib.hid (own_lies P.out.own).lay
      have L2 := Lib.hid P.out.lay
      rw [hlk] at L1 L2 hm
      have HAK := Lib.hid hak
      have HM := Lib.hid hm
      clear hlk hm hak
      go_wp2
      refine bodyPost_ret (v := .tuple #[.slice a2 k c2, .slice b2 m2 d2, .int .i64 0]) (by simp [results, Try.results20, go_sem]) rfl ⟨a2, c2, b2, d2, ?_, P.out.kept, ?_, ?_⟩
      · rw [← HAK.out, ← HM.out]
      · rw [← HAK.out]; exact L1.out
      · rw [← HM.out]; exact L2.out

theorem refPlay_no {w : World} {a : Option Addr} {n c : Nat} (room : Int) (hz : chkF room 0 ≠ 0) :
    Calls Try.prog 20 #[.int .i64 room, .slice a n c] w (RetQ w [] [] (chkF room 0)) := by
  have CK := Lib.hid (refCheck_any w room none 0 0)
  obtain ⟨x, hx⟩ : ∃ x, x = chkF room 0 := ⟨_, rfl⟩
  rw [← hx] at CK hz ⊢
  have b1 : (x != 0) = true := by simpa using hz
  clear hz hx
  go_enter Try.func20, Try.ntmps20
  go_wp2_with fail
  refine CK.out.mono ?_
  rintro e w1 ⟨rfl, rfl⟩
  go_wp2
  refine bodyPost_ret (v := .tuple #[.slice none 0 0, .slice none 0 0, .int .i64 x]) (by simp [results, Try.results20, go_sem]) rfl ⟨none, 0, none, 0, rfl, Kept.refl _, .inl (.inl ⟨rfl, rfl, rfl⟩), .inl (.inl ⟨rfl, rfl, rfl⟩)⟩
theorem refPlay_any {w : World} {a : Option Addr} {c : Nat} (room : Int) {l : List Opn} (hl : Lay w (.slice a l.length c) l.length (flatO l)) (hlen : l.length ≤ 1000) :
    Calls Try.prog 20 #[.int .i64 room, .slice a l.length c] w (RetQ w (plA room l) (plQ room l) (chkF room 0)) := by
  by_cases hz : chkF room 0 = 0
  · obtain ⟨r1, r2, _⟩ := chk_zero hz
    obtain ⟨r, rfl⟩ : ∃ r : Nat, room = r := ⟨room.toNat, by omega⟩
    unfold plA plQ
    rw [if_pos hz, if_pos hz, hz]
    exact refPlay_ok hl hlen (by omega) (by omega)
  · unfold plA plQ
    rw [if_neg hz, if_neg hz]
    exact refPlay_no room hz
end Go.Proofs.Ytpmalbdnjpbijaa
