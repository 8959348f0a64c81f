/- A range over a func whose body leaves at its first round. -/
import Derived.Test.YtbfmmndpboagdaaGreatDoorGL
import Derived.RangeFuncNested
import Derived.RangeFuncBound
import Derived.RangeFuncCalls
import Derived.RangeFuncLeaves
import Derived.Shelf.Abstract
import Derived.Shelf.RegionOpen
import Derived.OwnWalkIn
import Derived.TacticsInMore
import Derived.LoopNIn
import Derived.LoopIn
import Derived.Test.YtbfmmndpboagdaaGreatDoorGU4
import Derived.Test.YtbfmmndpboagdaaGreatDoorGHH4
import Derived.Test.YtbfmmndpboagdaaGreatDoorGN4
import Derived.Laws.EntriesVeiled
set_option maxRecDepth 20000
namespace Go.Proofs.YtbfmmndpboagdaaGreatDoor
open Go.RowKit Go.Shelf

theorem But.turned {S : Nat → Prop} {a w : World} {l : Nat} {o o' : Obj} (h : But S a w) (hl : w.heap[l]? = Option.some o) (ho : o.isCells = false) (ho' : o'.isCells = false) (hS : S l ∨ a.heap.size ≤ l) : But S a (w.putObj l o') := by
  have hlt := (Array.getElem?_eq_some_iff.1 hl).1
  refine ⟨h.os, h.tape, h.output, by simpa [World.putObj] using h.size, fun k hk hk' => ?_, fun x hx => ?_⟩
  · have hne : k ≠ l := fun e => hS.elim (fun s => hk' (e ▸ s)) fun s => by omega
    exact (World.putObj_heap_other hne).trans (h.block k hk hk')
  · refine Eq.trans ?_ (h.froze x hx)
    by_cases e : x.block = l
    · have h1 : (w.putObj l o').heap[x.block]? = Option.some o' := by rw [e]; exact World.putObj_heap_same hlt
      have h2 : w.heap[x.block]? = Option.some o := by rw [e]; exact hl
      unfold World.frozen?
      rw [h1, h2]
      cases o <;> cases o' <;> simp_all [Obj.isCells]
    · exact World.frozen?_of_block (World.putObj_heap_other e)

theorem range_once {α : Type} {Nn : Prop} {So : α → Prop} {Arg : α → Value → World → World → Prop} {n : Nat} {P : Program} {g : Operand} {p : Tmp} {assign body : Code} {Q : Exit → Act → World → Prop} {a : Act} {w : World} (h1 : 1 ≤ n)
    {gf : Nat} {lb : Array Value} (hg : a.eval g = .func (.func gf) #[] lb) (eg : ∀ args w, (callFunc gf args).run P w = .ok (.enter gf args) w)
    (hArg : ∀ x v W0 W1, Arg x v W0 W1 → ∀ k, v.ownBlock = some k → W0.heap.size ≤ k)
    (hseq : ∀ (l : Nat) (W0 : World) (Jx : α → World → Prop), Kept w W0 → l < W0.heap.size →
      (∀ x v W1, Kept W0 W1 → Arg x v W0 W1 → YieldAt Fence.wide (n - 1 - 1) P l #[v] W1 fun e W' => e = .returned (.bool false) ∧ Jx x W' ∧ But (fun k => k < W0.heap.size ∨ v.ownBlock = some k) W1 W') →
      CallsIn Fence.wide (n - 1) P gf (#[.func (.yield l) #[] #[]] ++ lb) W0 fun e W' => (∃ v, e = .returned v) ∧ ((Nn ∧ Kept W0 W') ∨ ∃ x, So x ∧ Jx x W'))
    (a1 : Value → Act) (hassign : ∀ (l : Nat) (v : Value) (W : World) (K : Act → World → Prop), K (a1 v) W → assign.wpIn (Fence.wide.inRound l) (n - 1 - 1) P (Exit.then K (fun _ _ _ => False)) { tmps := a.tmps.setIfInBounds p v, defers := [] } W)
    (Bd : α → World → Prop)
    (hbody : ∀ (l : Nat) (x : α) (v : Value) (W0 W1 W2 : World), Kept w W0 → w.heap.size ≤ l → l < W0.heap.size → Kept W0 W1 → Arg x v W0 W1 → But (fun k => k = l) W1 W2 →
      body.wpIn (Fence.wide.inRound l) (n - 1 - 1) P (fun e _ W3 => e = .ret ∧ Bd x W3 ∧ But (fun k => k < w.heap.size ∨ v.ownBlock = some k) W2 W3) (a1 v) W2)
    (hdone : ∀ (D : Nat) (W : World), Nn → Kept w W → w.heap.size ≤ D → W.heap[D]? = some (.deferred (some [])) → Q .normal { a with defers := { target := .collected D, args := #[] } :: a.defers } W)
    (hstop : ∀ (D l : Nat) (x : α) (W3 W : World), So x → Bd x W3 → w.heap.size ≤ l → (∃ y, W3.heap[l]? = some (.loop y)) → But (fun k => k = l) W3 W → w.heap.size ≤ D → W.heap[D]? = some (.deferred (some [])) → Code.ret.wpIn Fence.wide n P Q { a with defers := { target := .collected D, args := #[] } :: a.defers } W) :
    (Code.rangeFunc g #[p] assign body).wpIn Fence.wide n P Q a w := by
  refine wpIn_rangeFunc fun fn hfn => ?_
  rw [show Fence.wide.round = none from rfl]
  obtain ⟨rc, hrc⟩ : ∃ rc : LoopState → Option Code → Loop, rc = fun st pe => { state := st, pending := pe, fn, tmps := a.tmps, params := #[p], assign, body, defers := w.heap.size } := ⟨_, rfl⟩
  obtain ⟨WD, hWD⟩ : ∃ WD, w.alloc (.deferred (some [])) = WD := ⟨_, rfl⟩
  obtain ⟨W0, hW0⟩ : ∃ W0, WD.alloc (.loop (rc .ready none)) = W0 := ⟨_, rfl⟩
  have sD : WD.heap.size = w.heap.size + 1 := by rw [← hWD]; simp
  have s0 : W0.heap.size = w.heap.size + 1 + 1 := by rw [← hW0]; simp [sD]
  have kD : Kept w WD := by rw [← hWD]; exact ⟨(Kept.refl _).below.alloc (Kept.refl _).below.size _⟩
  have k0 : Kept WD W0 := by rw [← hW0]; exact ⟨(Kept.refl _).below.alloc (Kept.refl _).below.size _⟩
  have bL : W0.heap[w.heap.size + 1]? = some (.loop (rc .ready none)) := by
    rw [← hW0, ← sD]; exact World.alloc_heap_new _ _
  have bD : W0.heap[w.heap.size]? = some (.deferred (some [])) := by
    rw [k0.below.block _ (by omega), ← hWD]; exact World.alloc_heap_new _ _
  have h0 : (Instr.enterLoop fn a.tmps #[p] assign body none).run P w = .ok (w.heap.size + 1, [{ target := .collected w.heap.size, args := #[] }]) W0 := by
    rw [← hW0, ← hWD, hrc]; exact run_enterLoop_outer _ _ _ _ _
  refine ⟨_, _, W0, { target := .fn (.func gf) lb, args := #[.func (.yield (w.heap.size + 1)) #[] #[]] }, W0, gf, #[.func (.yield (w.heap.size + 1)) #[] #[]] ++ lb, W0, h0, ?_, fun _ _ => trivial, ?_, fun _ => h1, ?_⟩
  · simp only [resolve, hg]
    simp [go_sem]
  · simp [invoke, go_sem, eg]
  refine (hseq (w.heap.size + 1) W0 (fun x W' => ∃ W3, Bd x W3 ∧ W' = W3.putObj (w.heap.size + 1) (.loop (rc .done (some .ret))) ∧ W3.heap[w.heap.size + 1]? = some (.loop (rc .busy none)) ∧ W3.heap[w.heap.size]? = some (.deferred (some []))) (kD.trans k0) (by omega) ?_).mono ?_
  · intro x v W1 k1 harg
    have l1 : W1.heap[w.heap.size + 1]? = some (.loop (rc .ready none)) := (k1.below.block _ (by omega)).trans bL
    have d1 : W1.heap[w.heap.size]? = some (.deferred (some [])) := (k1.below.block _ (by omega)).trans bD
    have hy := run_yield (P := P) (args := #[v]) l1 (by rw [hrc]; rfl)
    rw [hrc] at hy
    have e0 : ((#[p]).zip #[v]).foldl (fun (t : Array Value) (q : Tmp × Value) => t.setIfInBounds q.1 q.2) a.tmps = a.tmps.setIfInBounds p v := by simp
    have hy' : (Instr.yield (w.heap.size + 1) #[v]).run P W1 = .ok (.round (w.heap.size + 1) fn (a.tmps.setIfInBounds p v) assign body) W1 := by rw [← e0]; exact hy
    clear hy e0
    refine ⟨fn, _, assign, body, hy', roundIn_of_wpIn hfn (hassign _ v W1 _ ?_)⟩
    have hlt := (Array.getElem?_eq_some_iff.1 l1).1
    have hb := run_beginRound (P := P) l1 (by rw [hrc])
    have e1 : ({ rc .ready none with state := .busy } : Loop) = rc .busy none := by rw [hrc]
    rw [e1] at hb
    have b2 : But (fun k => k = w.heap.size + 1) W1 (W1.putObj (w.heap.size + 1) (.loop (rc .busy none))) := (But.refl _ _).turned l1 rfl rfl (.inl rfl)
    refine ⟨_, hb, wpIn_mono (hbody (w.heap.size + 1) x v W0 W1 _ (kD.trans k0) (by omega) (by omega) k1 harg b2) ?_⟩
    rintro e a3 W3 ⟨rfl, hbd, b3⟩
    have no : ∀ k, w.heap.size ≤ k → k < W0.heap.size → ¬ (k < w.heap.size ∨ v.ownBlock = some k) := fun k h1 h2 h => h.elim (by omega) fun h => by
      have := hArg x v W0 W1 harg k h
      omega
    have sz : w.heap.size + 1 < (W1.putObj (w.heap.size + 1) (.loop (rc .busy none))).heap.size := Nat.lt_of_lt_of_le hlt b2.size
    have l3 : W3.heap[w.heap.size + 1]? = some (.loop (rc .busy none)) := (b3.block _ sz (no _ (by omega) (by omega))).trans (World.putObj_heap_same hlt)
    have d3 : W3.heap[w.heap.size]? = some (.deferred (some [])) := (b3.block _ (by omega) (no _ (by omega) (by omega))).trans ((World.putObj_heap_other (by omega)).trans d1)
    have he := run_endRound (P := P) (some .ret) l3
    have e2 : ({ rc .busy none with state := if (some Code.ret).isNone then .ready else .done, pending := some .ret } : Loop) = rc .done (some .ret) := by rw [hrc]; rfl
    rw [e2] at he
    refine ⟨_, _, he, rfl, ⟨W3, hbd, rfl, l3, d3⟩, ?_⟩
    refine ((b2.mono fun k _ h => .inl (by rw [h]; omega)).trans b3 fun k _ h => h.imp (fun h => by omega) id).turned l3 rfl rfl (.inl (.inl (by omega)))
  · rintro e W2 ⟨⟨v, rfl⟩, hN | ⟨x, hS, W3, hbd, rfl, l3, d3⟩⟩
    · obtain ⟨hN, k2⟩ := hN
      have l2 := (k2.below.block _ (by omega)).trans bL
      have d2 := (k2.below.block _ (by omega)).trans bD
      have hen := run_endLoop (P := P) l2 (by rw [hrc]; simp)
      have e3 : (rc .ready none).pending = none := by rw [hrc]
      rw [e3] at hen
      refine ⟨none, _, hen, hdone _ _ hN ?_ (Nat.le_refl _) ((World.putObj_heap_other (by omega)).trans d2)⟩
      exact (((kD.trans (k0.trans k2)).but (fun _ => False)).turned l2 rfl rfl (.inr (by omega))).kept fun _ _ h => h
    · have hlt := (Array.getElem?_eq_some_iff.1 l3).1
      have l4 : (W3.putObj (w.heap.size + 1) (.loop (rc .done (some .ret)))).heap[w.heap.size + 1]? = some (.loop (rc .done (some .ret))) := World.putObj_heap_same hlt
      have hen := run_endLoop (P := P) l4 (by rw [hrc]; simp)
      have e3 : (rc .done (some .ret)).pending = some .ret := by rw [hrc]
      rw [e3] at hen
      refine ⟨some .ret, _, hen, hstop _ _ x W3 _ hS hbd (by omega) ⟨_, l3⟩ (((But.refl (fun k => k = w.heap.size + 1) _).turned l3 rfl rfl (.inl rfl)).turned l4 rfl rfl (.inl rfl)) (Nat.le_refl _) ((World.putObj_heap_other (by omega)).trans ((World.putObj_heap_other (by omega)).trans d3))⟩
end Go.Proofs.YtbfmmndpboagdaaGreatDoor

set_option maxRecDepth 20000
namespace Go.Proofs.YtbfmmndpboagdaaGreatDoor
open Go.RowKit Go.Shelf
attribute [local go_sem] Oper.semAt_some

attribute [local go_sem ↓] SU.stM_named SH.stM_named SN.stM_named

set_option maxHeartbeats 4000000 in
theorem fifoModel_any (r : Int) (w : World) : Calls Tryz.prog 34 #[.int .i64 r] w fun e w' => ∃ bM bA rb, e = .returned (.agg (SU.modA (SU.enc []) (SU.fnN bM bA))) ∧ Kept w w' ∧ SU.Caps w' bM bA rb ∧ SU.Env rb r w' := by
  obtain ⟨W0, hW0⟩ : ∃ W0, w.alloc (.cells #[.int .i64 r] 3) = W0 := ⟨_, rfl⟩
  have k0 : Kept w W0 := by rw [← hW0]; exact (Kept.refl _).alloc _ _
  have c0 : W0.cell? ⟨w.heap.size, 0, none⟩ = some (.int .i64 r) := by rw [← hW0]; exact cell_new _ _ _ _ 0 rfl
  have s0 : W0.heap.size = w.heap.size + 1 := by rw [← hW0]; simp
  have k1 : Kept W0 (SU.homeM W0) := (Kept.refl _).alloc _ _
  have MO := Lib.hid (SU.modelOf_any (w := SU.homeM W0) (rb := w.heap.size) (a := none) (n := 0) (c := 0) (q0 := []) (.inl (.inl ⟨rfl, rfl, rfl⟩)) rfl (by decide))
  have K0 := Lib.hid k0
  have C0 := Lib.hid c0
  have S0 := Lib.hid s0
  have K1 := Lib.hid k1
  have HW := Lib.hid hW0
  clear k0 c0 s0 k1 hW0
  go_enter Tryz.func34, Tryz.ntmps34
  go_wp2_with fail; rw [HW.out]; refine MO.out.mono ?_; rintro e v1 ⟨bM, bA, rfl, kv, caps⟩
  obtain ⟨W9, SM, RG, BB⟩ := SU.model_home kv [] bM bA (b := w.heap.size + 1) S0.out.symm
  have HC := Lib.hid caps
  have KV := Lib.hid kv
  have HRG := Lib.hid RG
  have HBB := Lib.hid BB
  clear caps kv RG BB
  go_wp2
  refine bodyPost_ret (SU.model_result Tryz.results34 rfl (SU.enc_len []) HRG.out) rfl ?_
  have hs := S0.out
  have e := HBB.out.some (KV.out.some (K1.out.some C0.out)) (by omega)
  have z0 : v1.cell? ⟨w.heap.size + 1, 0, none⟩ = some (.int .i64 0) := KV.out.some (by rw [← hs]; exact cell_new W0 _ _ _ 0 rfl)
  exact ⟨bM, bA, w.heap.size, rfl, (K0.out.trans (K1.out.trans KV.out)).put1 HBB.out (by omega), ⟨HBB.out.some HC.out.m fun e => by (have := HC.out.m; rw [e, z0] at this; cases this), HBB.out.some HC.out.a fun e => by (have := HC.out.a; rw [e, z0] at this; cases this)⟩, e⟩
set_option maxHeartbeats 4000000 in
theorem heapModel_any (w : World) : Calls Tryz.prog 37 #[] w fun e w' => ∃ bM bA, e = .returned (.agg (SH.modA (SH.enc []) (SH.fnN bM bA))) ∧ Kept w w' ∧ SH.Caps w' bM bA 0 := by
  have k1 : Kept w (SH.homeM w) := (Kept.refl _).alloc _ _
  have MO := Lib.hid (SH.modelOf_any (w := SH.homeM w) (rb := 0) (a := none) (n := 0) (c := 0) (q0 := []) (.inl (.inl ⟨rfl, rfl, rfl⟩)) rfl (by decide))
  have K1 := Lib.hid k1
  clear k1
  go_enter Tryz.func37, Tryz.ntmps37
  go_wp2_with fail; refine MO.out.mono ?_; rintro e v1 ⟨bM, bA, rfl, kv, caps⟩
  obtain ⟨W9, SM, RG, BB⟩ := SH.model_home kv [] bM bA (b := w.heap.size) rfl
  have HC := Lib.hid caps
  have KV := Lib.hid kv
  have HRG := Lib.hid RG
  have HBB := Lib.hid BB
  clear caps kv RG BB
  go_wp2
  refine bodyPost_ret (SH.model_result Tryz.results37 rfl (SH.enc_len []) HRG.out) rfl ?_
  have z0 : v1.cell? ⟨w.heap.size, 0, none⟩ = some (.int .i64 0) := KV.out.some (cell_new w _ _ _ 0 rfl)
  exact ⟨bM, bA, rfl, (K1.out.trans KV.out).put1 HBB.out (by omega), ⟨HBB.out.some HC.out.m fun e => by (have := HC.out.m; rw [e, z0] at this; cases this), HBB.out.some HC.out.a fun e => by (have := HC.out.a; rw [e, z0] at this; cases this)⟩⟩
end Go.Proofs.YtbfmmndpboagdaaGreatDoor

set_option maxRecDepth 20000
namespace Go.Proofs.YtbfmmndpboagdaaGreatDoor
open Go.RowKit Go.Shelf
attribute [local go_sem] Oper.semAt_some
attribute [local go_sem ↓] apS_named
attribute [local go_sem] Kept.refl Kept.drew Kept.drewN Kept.alloc

def frontsM (l : List Sp) : List Int := (l.filter fun s => decide (s.k = 2) && !pend s).map (·.v)
def FrRel (w : World) (l : List Sp) (n : Nat) (t i : Value) (wr : World) : Prop :=
  ∃ k : Nat, k ≤ n ∧ i = .int .i64 k ∧ Kept w wr ∧ ∃ a c, t = .slice a (frontsM (l.take k)).length c ∧ wr.ownsRow w.heap.size 22 1 (.slice a (frontsM (l.take k)).length c) (frontsM (l.take k)).length (Fi.words (frontsM (l.take k)))
set_option maxRecDepth 100000 in
set_option maxHeartbeats 4000000 in
theorem fronts_any {w : World} {a : Option Addr} {n c : Nat} {l : List Sp} (h : Lay w (.slice a n c) n (flatS l)) (hn : n = l.length) (h10 : n ≤ 1000) :
    Calls Tryz.prog 55 #[.slice a n c] w fun e w' => ∃ a' c', e = .returned (.slice a' (frontsM l).length c') ∧ Kept w w' ∧ w'.ownsRow w.heap.size 22 1 (.slice a' (frontsM l).length c') (frontsM l).length (Fi.words (frontsM l)) := by
  have CE := Lib.hid (fun W (k : Kept w W) i y hy => sp_one (h.kept k) hn i y hy)
  have HN := Lib.hid hn
  clear h hn
  go_enter Tryz.func55, Tryz.ntmps55
  go_wp2
  go_loopw [3, 8] (FrRel w l n) (fun _ i _ => n - (intOf i).toNat)
  case atStart => exact ⟨0, Nat.zero_le _, rfl, Kept.refl w, none, 0, rfl, World.ownsRow_nil _ _ _ _⟩
  case round =>
    obtain ⟨k, hkn, rfl, hk, aS, cS, rfl, hown⟩ := hrel
    have KE := Lib.hid hk
    obtain ⟨T, hT⟩ : ∃ T, frontsM (l.take k) = T := ⟨_, rfl⟩
    rw [hT] at hown ⊢
    have HT := Lib.hid hT
    have OS := Lib.hid hown
    have Tl : T.length ≤ 1000 := by rw [← hT]; unfold frontsM; rw [List.length_map]; exact Nat.le_trans (List.length_filter_le ..) (by simp; omega)
    clear hk hown hT
    by_cases hlt : k < n
    · obtain ⟨y, hy⟩ : ∃ y, l[k]? = some y := ⟨_, List.getElem?_eq_getElem (by rw [← HN.out]; omega)⟩
      obtain ⟨g, o, rfl, c0, c1, c2, c3, c4, c5, c6, c7, c8, c9⟩ := CE.out _ KE.out k y hy
      have HY := Lib.hid (show l.take (k + 1) = l.take k ++ [y] by rw [List.take_add_one, hy]; rfl)
      have PE := Lib.hid (fun W => pend_any y W)
      clear hy
      by_cases h7 : y.k = 2
      · cases hp : pend y with
        | true =>
          have HS := Lib.hid (show frontsM (l.take (k + 1)) = T by rw [HY.out]; unfold frontsM; rw [List.filter_append, List.map_append]; simp [hp]; exact HT.out)
          rw [hp] at PE
          have h7' : (y.k == 2) = true := by simpa using h7
          clear hp h7
          go_wp2_with fail; refine (PE.out _).mono ?_; rintro e w1 ⟨rfl, k1⟩
          go_wp2
          go_roundw
          case rel => exact ⟨k + 1, by omega, by go_num, (KE.out.alloc _ _).trans k1, aS, cS, by rw [HS.out], by rw [HS.out]; exact own_kept (own_kept OS.out ((Kept.refl _).alloc _ _)) k1⟩
          case measure => simp [intOf]; omega
        | false =>
          have HS := Lib.hid (show frontsM (l.take (k + 1)) = T ++ [y.v] by rw [HY.out]; unfold frontsM; rw [List.filter_append, List.map_append]; simp [h7, hp]; exact HT.out)
          rw [hp] at PE
          have h7' : (y.k == 2) = true := by simpa using h7
          clear hp h7
          go_wp2_with fail; refine (PE.out _).mono ?_; rintro e w1 ⟨rfl, k1⟩
          have KV := Lib.hid (show Kept wr w1 from ((Kept.refl _).alloc _ _).trans k1)
          have q9 : w1.cell? ⟨wr.heap.size, 9, none⟩ = some (.int .u64 y.v) := k1.some (cell_new wr #[.int .i64 y.id, .int .i64 y.from_, .int .i64 y.to, .int .i64 y.k, .int .i64 y.x, .int .i64 y.y, .int .u64 y.u, .int .i64 y.er, .int .i64 y.n, .int .u64 y.v] 29 wr.heap.size 9 rfl)
          obtain ⟨i0, hi0, hz0, hz1, hz2⟩ := info_parts Fi.infoW
          obtain ⟨a4, c4', v4, run4, own4, but4, _⟩ := push_any (W := w1) (m := 1) (R := Fi.words [y.v]) Tryz.underlying64 hi0 hz0 hz1 hz2 (by rfl) (by decide) (by decide) (own_kept OS.out KV.out) (by have := KE.out.size; have := KV.out.size; omega) (by rfl) (Fi.words_one _) (by omega) (by decide)
          have AP : (apS #[64, 64] 64 #[.slice aS T.length cS, .slice (some ⟨w1.heap.size, 0, none⟩) 1 1]).run Tryz.prog (w1.alloc (.cells #[.int .u64 y.v] 22)) = .ok (.slice a4 (T.length + 1) c4') v4 := run4
          have KV4 := Lib.hid (show Kept w v4 from (KE.out.trans KV.out).put but4 fun j e => (OS.out.lt j e).1)
          have O4 := Lib.hid own4
          clear run4 own4 but4 k1
          go_wp2
          go_roundw
          case rel => exact ⟨k + 1, by omega, by go_num, KV4.out, a4, c4', by rw [HS.out]; simp, by rw [HS.out, List.length_append, Fi.words_append]; exact O4.out⟩
          case measure => simp [intOf]; omega
      · have HS := Lib.hid (show frontsM (l.take (k + 1)) = T by rw [HY.out]; unfold frontsM; rw [List.filter_append, List.map_append]; simp [h7]; exact HT.out)
        have h7' : (y.k == 2) = false := by simpa using h7
        go_wp2
        go_roundw
        case rel => exact ⟨k + 1, by omega, by go_num, KE.out.alloc _ _, aS, cS, by rw [HS.out], by rw [HS.out]; exact own_kept OS.out ((Kept.refl _).alloc _ _)⟩
        case measure => simp [intOf]; omega
    · obtain rfl : k = n := by omega
      have HF := Lib.hid (show T = frontsM l by rw [← HT.out, HN.out, List.take_length])
      go_wp2
      go_ret
      rw [← HF.out]
      exact ⟨aS, cS, rfl, KE.out, OS.out⟩
end Go.Proofs.YtbfmmndpboagdaaGreatDoor

set_option maxRecDepth 20000
namespace Go.Proofs.YtbfmmndpboagdaaGreatDoor
open Go.RowKit Go.Shelf
attribute [local go_sem] Oper.semAt_some
attribute [local go_sem ↓] apS_named
attribute [local go_sem] Kept.refl Kept.drew Kept.drewN Kept.alloc

theorem less_few : ∀ (k : Nat) (T : List Int), (∀ j : Nat, j < k → (j : Int) ∈ T) → k ≤ T.length := by
  intro k
  induction k with
  | zero => intro T _; exact Nat.zero_le _
  | succ k ih =>
    intro T h
    have hk := h k (by omega)
    have := ih (T.erase (k : Int)) fun j hj => (List.mem_erase_of_ne (by omega)).2 (h j (by omega))
    rw [List.length_erase_of_mem hk] at this
    have := List.length_pos_of_mem hk
    omega
def otherM (T : List Int) : Nat := ((List.range (T.length + 1)).find? fun k : Nat => decide (¬ ((k : Int) ∈ T))).getD 0
theorem other_eq {T : List Int} {k : Nat} (h1 : ∀ j : Nat, j < k → (j : Int) ∈ T) (h2 : ¬ (k : Int) ∈ T) : otherM T = k := by
  have h3 := less_few k T h1
  have : (List.range (T.length + 1)).find? (fun k : Nat => decide (¬ ((k : Int) ∈ T))) = some k := by
    rw [List.find?_range_eq_some]
    exact ⟨by simpa using h2, by simp; omega, fun j hj => by simpa using h1 j hj⟩
  unfold otherM
  rw [this]
  rfl
def like (T : List Int) (u : Int) (s : Sp) : Sp := if s.k = 1 ∧ ¬ s.u ∈ T then { s with u := u } else s
def alikeM (l : List Sp) : List Sp := l.map (like (frontsM l) (otherM (frontsM l) : Nat))
theorem set_flat : ∀ (L : List Sp) (k : Nat) (y : Sp) (u : Int), L[k]? = some y → (flatS L).set (k * 10 + 6) (.int .u64 u) = flatS (L.set k { y with u := u }) := by
  intro L
  induction L with
  | nil => intro k y u h; cases h
  | cons x L ih =>
    intro k y u h
    cases k with
    | zero =>
      have e : x = y := by simpa using h
      subst e
      rfl
    | succ k =>
      have hk : L[k]? = some y := by simpa using h
      have e : flatS (x :: L) = spc x ++ flatS L := rfl
      have e2 : flatS ((x :: L).set (k + 1) { y with u := u }) = spc x ++ flatS (L.set k { y with u := u }) := rfl
      rw [e, e2, List.set_append_right _ _ (by rw [spc_length]; omega), spc_length, ← ih k y u hk]
      congr 2
      omega
theorem set_same {α : Type} {L : List α} {q : Nat} {y : α} (h : L[q]? = some y) : L.set q y = L := by
  apply List.ext_getElem?
  intro j
  by_cases e : q = j
  · subst e
    rw [List.getElem?_set_self (List.getElem?_eq_some_iff.1 h).1, h]
  · rw [List.getElem?_set_ne e]
theorem own_word {w : World} {b g n c q : Nat} {L : List Sp} {y : Sp} {u : Int} (hq : L[q]? = some y) (hn : n = L.length) (h : w.ownsRow b 29 10 (.slice (some ⟨g, 0, none⟩) n c) n (flatS L)) :
    (w.setCell ⟨g, q * 10 + 6, none⟩ (.int .u64 u)).ownsRow b 29 10 (.slice (some ⟨g, 0, none⟩) n c) n (flatS (L.set q { y with u := u })) := by
  obtain ⟨_, hnc, hcm, hbg, hxl, FI⟩ := filled_of_own h
  have hql := (List.getElem?_eq_some_iff.1 hq).1
  have hlt : q * 10 + 6 < (flatS L).length := by rw [flatS_length]; omega
  have fm := filled_mid FI (q * 10 + 6) [.int .u64 u] (by simp only [List.length_cons, List.length_nil]; omega) (by rw [hxl]; exact Nat.mul_le_mul_right _ hnc)
  have e : (flatS L).take (q * 10 + 6) ++ [.int .u64 u] ++ (flatS L).drop (q * 10 + 6 + [Value.int .u64 u].length) = flatS (L.set q { y with u := u }) := by
    rw [← set_flat L q y u hq, List.set_eq_take_append_cons_drop, if_pos hlt]
    simp
  rw [e] at fm
  exact own_of_filled fm (by rw [flatS_length, List.length_set, hn]) hnc hcm hbg
def LkRel (w1 : World) (T : List Int) (i : Value) (wr : World) : Prop := wr = w1 ∧ ∃ k : Nat, i = .int .u64 k ∧ ∀ j : Nat, j < k → (j : Int) ∈ T
def AlRel (W2 : World) (b : Nat) (v : Value) (T : List Int) (u : Int) (l : List Sp) (n : Nat) (i : Value) (wr : World) : Prop :=
  ∃ k : Nat, k ≤ n ∧ i = .int .i64 k ∧ But (fun x => v.ownBlock = some x) W2 wr ∧ wr.ownsRow b 29 10 v n (flatS ((l.map (like T u)).take k ++ l.drop k))
set_option maxRecDepth 100000 in
set_option maxHeartbeats 8000000 in
theorem alike_any {w : World} {a : Option Addr} {n c : Nat} {l : List Sp} (h : Lay w (.slice a n c) n (flatS l)) (hn : n = l.length) (h10 : n ≤ 1000) :
    Calls Tryz.prog 35 #[.slice a n c] w fun e w' => ∃ a' c', e = .returned (.slice a' n c') ∧ Kept w w' ∧ w'.ownsRow w.heap.size 29 10 (.slice a' n c') n (flatS (alikeM l)) := by
  have FR := Lib.hid (fronts_any h hn h10)
  have HL := Lib.hid h
  have HN := Lib.hid hn
  clear h hn
  go_enter Tryz.func35, Tryz.ntmps35
  go_wp2_with fail; refine FR.out.mono ?_; rintro e w1 ⟨aT, cT, rfl, k1, ownT⟩
  obtain ⟨T, hT⟩ : ∃ T, frontsM l = T := ⟨_, rfl⟩
  rw [hT] at ownT ⊢
  have HT := Lib.hid hT
  have K1 := Lib.hid k1
  have OT := Lib.hid ownT
  have Tl : T.length ≤ 1000 := by rw [← hT]; unfold frontsM; rw [List.length_map]; exact Nat.le_trans (List.length_filter_le ..) (by have := HN.out; omega)
  have CO := Lib.hid (fun (x : Int) => wrd_has (own_lies ownT).lay rfl x)
  clear k1 ownT hT FR
  go_wp2
  go_loopw [4] (LkRel w1 T) (fun i _ => T.length + 1 - (intOf i).toNat)
  case atStart => exact ⟨rfl, 0, rfl, fun j hj => by omega⟩
  case round =>
    obtain ⟨rfl, k, rfl, hk⟩ := hrel
    have HK := Lib.hid hk
    have kT := less_few k T hk
    have CK := Lib.hid (CO.out (k : Int))
    clear hk
    by_cases hm : (k : Int) ∈ T
    · have HM := Lib.hid hm
      rw [decide_eq_true hm] at CK
      clear hm
      go_wp2_with fail; refine CK.out.mono ?_; rintro e w2 ⟨rfl, rfl⟩
      go_wp2
      go_roundw
      case rel => exact ⟨rfl, k + 1, by go_num, fun j hj => by
          by_cases e : j = k
          · rw [e]; exact HM.out
          · exact HK.out j (by omega)⟩
      case measure => simp [intOf]; omega
    · have HO := Lib.hid (other_eq HK.out hm)
      rw [decide_eq_false hm] at CK
      have CL := Lib.hid (cloneS_any (HL.out.kept K1.out) HN.out h10)
      clear hm
      go_wp2_with fail; refine CK.out.mono ?_; rintro e w2 ⟨rfl, rfl⟩
      go_wp2_with fail; refine CL.out.mono ?_; rintro e w3 ⟨a2, c2, rfl, k3, own3⟩
      have K3 := Lib.hid k3
      have O3 := Lib.hid own3
      clear k3 own3
      obtain ⟨Wo, rfl⟩ : ∃ Wo, Wo = wr := ⟨_, rfl⟩
      have HLN := Lib.hid HN.out
      have LT := Lib.hid (show ∀ W, But (fun x => (Value.slice a2 n c2).ownBlock = some x) w3 W → Lay W (.slice aT T.length cT) T.length (Fi.words T) from fun W b => (own_lies (own_but (own_kept OT.out K3.out) b fun g hg e => by have h1 := (O3.out.lt g e).1; have h2 := (OT.out.lt g hg).2; omega)).lay)
      go_wp2
      go_loopw [19] (AlRel w3 Wo.heap.size (.slice a2 n c2) T (k : Int) l n) (fun i _ => n - (intOf i).toNat)
      case atStart => exact ⟨0, Nat.zero_le _, rfl, But.refl _ _, O3.out⟩
      case round =>
        obtain ⟨q, hqn, rfl, hb, hown⟩ := hrel
        have BU := Lib.hid hb
        have OW := Lib.hid hown
        by_cases hlt : q < n
        · obtain ⟨y, hy⟩ : ∃ y, l[q]? = some y := ⟨_, List.getElem?_eq_getElem (by rw [← HN.out]; omega)⟩
          have hql : q < l.length := (List.getElem?_eq_some_iff.1 hy).1
          have hLq : ((l.map (like T k)).take q ++ l.drop q)[q]? = some y := by
            rw [List.getElem?_append_right (by simp; omega)]
            simp [Nat.min_eq_left (Nat.le_of_lt hql), hy]
          have hLl : n = ((l.map (like T k)).take q ++ l.drop q).length := by simp [Nat.min_eq_left (Nat.le_of_lt hql)]; have := HN.out; omega
          have STEP := Lib.hid (show (l.map (like T k)).take (q + 1) ++ l.drop (q + 1) = ((l.map (like T k)).take q ++ l.drop q).set q (like T k y) by
            apply List.ext_getElem?
            intro j
            have ll : ((l.map (like T k)).take q).length = q := by simp [Nat.min_eq_left (Nat.le_of_lt hql)]
            have l2 : ((l.map (like T k)).take (q + 1)).length = q + 1 := by simp [Nat.min_eq_left (Nat.succ_le_of_lt hql)]
            rcases Nat.lt_trichotomy j q with h | h | h
            · rw [List.getElem?_set_ne (by omega), List.getElem?_append_left (by omega), List.getElem?_append_left (by omega), List.getElem?_take_of_lt (by omega), List.getElem?_take_of_lt (by omega)]
            · subst h
              rw [List.getElem?_set_self (by rw [← hLl]; omega), List.getElem?_append_left (by omega), List.getElem?_take_of_lt (by omega), List.getElem?_map, hy]
              rfl
            · rw [List.getElem?_set_ne (by omega), List.getElem?_append_right (by omega), List.getElem?_append_right (by omega), l2, ll, List.getElem?_drop, List.getElem?_drop]
              congr 1
              omega)
          obtain ⟨g, o, e, c0, c1, c2', c3, c4, c5, c6, c7, c8, c9⟩ := sp_one (own_lies hown).lay hLl q y hLq
          cases e
          obtain ⟨rfl, hnc, hcm, hbg, hxl, FI⟩ := filled_of_own hown
          have hgo : (Value.slice (some ⟨g, 0, none⟩) n c2).ownBlock = some g := rfl
          simp only [Nat.zero_add] at c0 c1 c2' c3 c4 c5 c6 c7 c8 c9
          have HLL := Lib.hid hLl
          have HFI := Lib.hid FI
          have HY := Lib.hid hy
          have HLQ := Lib.hid hLq
          have HXL := Lib.hid hxl
          clear hb hown FI hy hLq hxl hLl
          by_cases h7 : y.k = 1
          · have h7' : (y.k == 1) = true := by simpa using h7
            have CU := Lib.hid (fun W b => wrd_has (LT.out W b) rfl y.u)
            have BA := Lib.hid (show But (fun x => (Value.slice (some ⟨g, 0, none⟩) n c2).ownBlock = some x) w3 (wr.alloc (.cells #[.int .i64 y.id, .int .i64 y.from_, .int .i64 y.to, .int .i64 y.k, .int .i64 y.x, .int .i64 y.y, .int .u64 y.u, .int .i64 y.er, .int .i64 y.n, .int .u64 y.v] 29)) from BU.out.alloc _ _)
            by_cases hu : y.u ∈ T
            · have HS := Lib.hid (show like T k y = y by unfold like; rw [if_neg (by simp [hu])])
              have CV := Lib.hid (CU.out _ BA.out)
              rw [decide_eq_true hu] at CV
              clear h7 hu
              go_wp2_with fail; refine CV.out.mono ?_; rintro e w5 ⟨rfl, rfl⟩
              go_wp2
              go_roundw
              case rel => exact ⟨q + 1, by omega, by go_num, BA.out, by
                rw [STEP.out, HS.out, set_same HLQ.out]
                exact own_kept OW.out ((Kept.refl _).alloc _ _)⟩
              case measure => simp [intOf]; omega
            · have HS := Lib.hid (show like T k y = { y with u := k } by unfold like; rw [if_pos ⟨h7, hu⟩])
              have CV := Lib.hid (CU.out _ BA.out)
              rw [decide_eq_false hu] at CV
              clear h7 hu
              have cs : (wr.alloc (.cells #[.int .i64 y.id, .int .i64 y.from_, .int .i64 y.to, .int .i64 y.k, .int .i64 y.x, .int .i64 y.y, .int .u64 y.u, .int .i64 y.er, .int .i64 y.n, .int .u64 y.v] 29)).cell? ⟨g, q * 10 + 3 + 3, none⟩ = some (.int .u64 y.u) := ((Kept.refl wr).alloc _ _).some c6
              have fs : (wr.alloc (.cells #[.int .i64 y.id, .int .i64 y.from_, .int .i64 y.to, .int .i64 y.k, .int .i64 y.x, .int .i64 y.y, .int .u64 y.u, .int .i64 y.er, .int .i64 y.n, .int .u64 y.v] 29)).frozen? ⟨g, q * 10 + 3 + 3, none⟩ = false := (HFI.out.kept ((Kept.refl wr).alloc _ _)).soft _
              go_wp2_with fail; refine CV.out.mono ?_; rintro e w5 ⟨rfl, rfl⟩
              go_wp2
              go_roundw
              case rel => exact ⟨q + 1, by omega, by go_num, BA.out.setCell (p := ⟨g, q * 10 + 3 + 3, none⟩) (.inl rfl) _, by
                rw [STEP.out, HS.out]
                exact own_word HLQ.out HLL.out (own_kept OW.out ((Kept.refl _).alloc _ _))⟩
              case measure => simp [intOf]; omega
          · have h7' : (y.k == 1) = false := by simpa using h7
            have HS := Lib.hid (show like T k y = y by unfold like; rw [if_neg (by simp [h7])])
            clear h7
            go_wp2
            go_roundw
            case rel => exact ⟨q + 1, by omega, by go_num, BU.out.alloc _ _, by
              rw [STEP.out, HS.out, set_same HLQ.out]
              exact own_kept OW.out ((Kept.refl _).alloc _ _)⟩
            case measure => simp [intOf]; omega
        · obtain rfl : q = n := by omega
          have HF := Lib.hid (show flatS ((l.map (like T k)).take q ++ l.drop q) = flatS (alikeM l) by
            have hql : q = l.length := HN.out
            subst hql
            unfold alikeM
            rw [HT.out, HO.out, List.take_of_length_le (by simp), List.drop_length, List.append_nil])
          go_wp2
          go_ret
          refine ⟨a2, c2, rfl, (K1.out.trans K3.out).put BU.out fun j e => by have h1 := (O3.out.lt j e).1; have h2 := K1.out.size; omega, ?_⟩
          have := OW.out
          rw [HF.out] at this
          exact own_mono this K1.out.size
end Go.Proofs.YtbfmmndpboagdaaGreatDoor

set_option maxRecDepth 20000
namespace Go.Proofs.YtbfmmndpboagdaaGreatDoor
open Go.RowKit Go.Shelf
attribute [local go_sem] Oper.semAt_some
attribute [local go_sem ↓] apS_named
attribute [local go_sem] Kept.refl Kept.drew Kept.drewN Kept.alloc

def namedOf (s : Sp) : List Int := if s.k = 7 ∧ pend s = false then [s.n] else if s.k = 8 then [s.x] else []
def namedM (l : List Sp) : List Int := l.flatMap namedOf
theorem namedOf_few (s : Sp) : (namedOf s).length ≤ 1 := by
  unfold namedOf
  split
  · simp
  · split <;> simp
theorem namedM_few (l : List Sp) : (namedM l).length ≤ l.length := by
  induction l with
  | nil => exact Nat.le_refl _
  | cons s l ih =>
    have e : namedM (s :: l) = namedOf s ++ namedM l := rfl
    have := namedOf_few s
    rw [e, List.length_append, List.length_cons]
    omega
def NaRel (w : World) (l : List Sp) (n : Nat) (t i : Value) (wr : World) : Prop :=
  ∃ k : Nat, k ≤ n ∧ i = .int .i64 k ∧ Kept w wr ∧ ∃ a c, t = .slice a (namedM (l.take k)).length c ∧ wr.ownsRow w.heap.size 3 1 (.slice a (namedM (l.take k)).length c) (namedM (l.take k)).length (ints (namedM (l.take k)))
set_option maxRecDepth 100000 in
set_option maxHeartbeats 4000000 in
theorem named_any {w : World} {a : Option Addr} {n c : Nat} {l : List Sp} (h : Lay w (.slice a n c) n (flatS l)) (hn : n = l.length) (h10 : n ≤ 1000) :
    Calls Tryz.prog 61 #[.slice a n c] w fun e w' => ∃ a' c', e = .returned (.slice a' (namedM l).length c') ∧ Kept w w' ∧ w'.ownsRow w.heap.size 3 1 (.slice a' (namedM l).length c') (namedM l).length (ints (namedM l)) := by
  have CE := Lib.hid (fun W (k : Kept w W) i y hy => sp_one (h.kept k) hn i y hy)
  have HN := Lib.hid hn
  clear h hn
  go_enter Tryz.func61, Tryz.ntmps61
  go_wp2
  go_loopw [3, 8] (NaRel w l n) (fun _ i _ => n - (intOf i).toNat)
  case atStart => exact ⟨0, Nat.zero_le _, rfl, Kept.refl w, none, 0, rfl, World.ownsRow_nil _ _ _ _⟩
  case round =>
    obtain ⟨k, hkn, rfl, hk, aS, cS, rfl, hown⟩ := hrel
    have KE := Lib.hid hk
    obtain ⟨T, hT⟩ : ∃ T, namedM (l.take k) = T := ⟨_, rfl⟩
    rw [hT] at hown ⊢
    have HT := Lib.hid hT
    have OS := Lib.hid hown
    have Tl : T.length ≤ 1000 := by rw [← hT]; exact Nat.le_trans (namedM_few _) (by simp; omega)
    clear hk hown hT
    by_cases hlt : k < n
    · obtain ⟨y, hy⟩ : ∃ y, l[k]? = some y := ⟨_, List.getElem?_eq_getElem (by rw [← HN.out]; omega)⟩
      obtain ⟨g, o, rfl, c0, c1, c2, c3, c4, c5, c6, c7, c8, c9⟩ := CE.out _ KE.out k y hy
      have HY := Lib.hid (show namedM (l.take (k + 1)) = T ++ namedOf y by rw [take_snoc' l k y hy]; unfold namedM; rw [List.flatMap_append]; simp; exact HT.out)
      have PE := Lib.hid (fun W => pend_any y W)
      clear hy
      by_cases h7 : y.k = 7
      · have h7' : (y.k == 7) = true := by simpa using h7
        have h8' : (y.k == 8) = false := by simp [h7]
        cases hp : pend y with
        | true =>
          have HS := Lib.hid (show namedM (l.take (k + 1)) = T by rw [HY.out]; unfold namedOf; rw [if_neg (by simp [hp]), if_neg (by omega)]; simp)
          rw [hp] at PE
          clear hp h7
          go_wp2_with fail; refine (PE.out _).mono ?_; rintro e w1 ⟨rfl, k1⟩
          have q3 : w1.cell? ⟨wr.heap.size, 3, none⟩ = some (.int .i64 y.k) := k1.some (cell_new wr #[.int .i64 y.id, .int .i64 y.from_, .int .i64 y.to, .int .i64 y.k, .int .i64 y.x, .int .i64 y.y, .int .u64 y.u, .int .i64 y.er, .int .i64 y.n, .int .u64 y.v] 29 wr.heap.size 3 rfl)
          have K1 := Lib.hid k1
          clear k1
          go_wp2
          go_roundw
          case rel => exact ⟨k + 1, by omega, by go_num, (KE.out.alloc _ _).trans K1.out, aS, cS, by rw [HS.out], by rw [HS.out]; exact own_kept (own_kept OS.out ((Kept.refl _).alloc _ _)) K1.out⟩
          case measure => simp [intOf]; omega
        | false =>
          have HS := Lib.hid (show namedM (l.take (k + 1)) = T ++ [y.n] by rw [HY.out]; unfold namedOf; rw [if_pos ⟨h7, hp⟩])
          rw [hp] at PE
          clear hp h7
          go_wp2_with fail; refine (PE.out _).mono ?_; rintro e w1 ⟨rfl, k1⟩
          have KV := Lib.hid (show Kept wr w1 from ((Kept.refl _).alloc _ _).trans k1)
          have q8 : w1.cell? ⟨wr.heap.size, 8, none⟩ = some (.int .i64 y.n) := k1.some (cell_new wr #[.int .i64 y.id, .int .i64 y.from_, .int .i64 y.to, .int .i64 y.k, .int .i64 y.x, .int .i64 y.y, .int .u64 y.u, .int .i64 y.er, .int .i64 y.n, .int .u64 y.v] 29 wr.heap.size 8 rfl)
          clear k1
          obtain ⟨i0, hi0, hz0, hz1, hz2⟩ := info_parts infoI
          obtain ⟨a4, c4', v4, run4, own4, but4, _⟩ := push_any (W := w1) (m := 1) (R := ints [y.n]) Tryz.underlying35 hi0 hz0 hz1 hz2 (by rfl) (by decide) (by decide) (own_kept OS.out KV.out) (by have := KE.out.size; have := KV.out.size; omega) (by rfl) (ints_one _) (by omega) (by decide)
          have AP : (apS #[35, 35] 35 #[.slice aS T.length cS, .slice (some ⟨w1.heap.size, 0, none⟩) 1 1]).run Tryz.prog (w1.alloc (.cells #[.int .i64 y.n] 3)) = .ok (.slice a4 (T.length + 1) c4') v4 := run4
          have KV4 := Lib.hid (show Kept w v4 from (KE.out.trans KV.out).put but4 fun j e => (OS.out.lt j e).1)
          have O4 := Lib.hid own4
          clear run4 own4 but4
          go_wp2
          go_roundw
          case rel => exact ⟨k + 1, by omega, by go_num, KV4.out, a4, c4', by rw [HS.out]; simp, by rw [HS.out, List.length_append, ints_append]; exact O4.out⟩
          case measure => simp [intOf]; omega
      · have h7' : (y.k == 7) = false := by simpa using h7
        by_cases h8 : y.k = 8
        · have h8' : (y.k == 8) = true := by simpa using h8
          have HS := Lib.hid (show namedM (l.take (k + 1)) = T ++ [y.x] by rw [HY.out]; unfold namedOf; rw [if_neg (by simp [h7]), if_pos h8])
          obtain ⟨w1, hw1⟩ : ∃ w1, wr.alloc (.cells #[.int .i64 y.id, .int .i64 y.from_, .int .i64 y.to, .int .i64 y.k, .int .i64 y.x, .int .i64 y.y, .int .u64 y.u, .int .i64 y.er, .int .i64 y.n, .int .u64 y.v] 29) = w1 := ⟨_, rfl⟩
          have KV := Lib.hid (show Kept wr w1 by rw [← hw1]; exact (Kept.refl _).alloc _ _)
          clear h7 h8
          obtain ⟨i0, hi0, hz0, hz1, hz2⟩ := info_parts infoI
          obtain ⟨a4, c4', v4, run4, own4, but4, _⟩ := push_any (W := w1) (m := 1) (R := ints [y.x]) Tryz.underlying35 hi0 hz0 hz1 hz2 (by rfl) (by decide) (by decide) (own_kept OS.out KV.out) (by have := KE.out.size; have := KV.out.size; omega) (by rfl) (ints_one _) (by omega) (by decide)
          have AP : (apS #[35, 35] 35 #[.slice aS T.length cS, .slice (some ⟨w1.heap.size, 0, none⟩) 1 1]).run Tryz.prog (w1.alloc (.cells #[.int .i64 y.x] 3)) = .ok (.slice a4 (T.length + 1) c4') v4 := run4
          have KV4 := Lib.hid (show Kept w v4 from (KE.out.trans KV.out).put but4 fun j e => (OS.out.lt j e).1)
          have O4 := Lib.hid own4
          have ss : w1.heap.size = wr.heap.size + 1 := by rw [← hw1]; simp
          rw [ss, ← hw1] at AP
          clear run4 own4 but4 hw1
          go_wp2
          go_roundw
          case rel => exact ⟨k + 1, by omega, by go_num, KV4.out, a4, c4', by rw [HS.out]; simp, by rw [HS.out, List.length_append, ints_append]; exact O4.out⟩
          case measure => simp [intOf]; omega
        · have h8' : (y.k == 8) = false := by simpa using h8
          have HS := Lib.hid (show namedM (l.take (k + 1)) = T by rw [HY.out]; unfold namedOf; rw [if_neg (by simp [h7]), if_neg h8]; simp)
          clear h7 h8
          go_wp2
          go_roundw
          case rel => exact ⟨k + 1, by omega, by go_num, KE.out.alloc _ _, aS, cS, by rw [HS.out], by rw [HS.out]; exact own_kept OS.out ((Kept.refl _).alloc _ _)⟩
          case measure => simp [intOf]; omega
    · obtain rfl : k = n := by omega
      have HF := Lib.hid (show T = namedM l by rw [← HT.out, HN.out, List.take_length])
      go_wp2
      go_ret
      rw [← HF.out]
      exact ⟨aS, cS, rfl, KE.out, OS.out⟩
end Go.Proofs.YtbfmmndpboagdaaGreatDoor

set_option maxRecDepth 20000
namespace Go.Proofs.YtbfmmndpboagdaaGreatDoor
open Go.RowKit Go.Shelf
attribute [local go_sem] Oper.semAt_some
attribute [local go_sem ↓] SN.stM_named
attribute [local go_sem] Kept.refl Kept.drew Kept.drewN Kept.alloc

def spareM (r : Int) (l : List Sp) : List Int := let u := Po.memI (Po.restM (namedM l) (Po.restN r)); u.drop (min (nAll l) u.length)
def firstN (r : Int) (l : List Sp) : List Int := Po.memI (Po.restM (spareM r l) (Po.restN r))
theorem num_tail {w : World} {a : Option Addr} {n c m : Nat} {s : List Int} (h : Lay w (.slice a n c) n (ints s)) (hl : n = s.length) (hm : m ≤ n) (hnc : n ≤ c) (hc : c ≤ maxLen) (h0 : a = none → c = 0) :
    Lay w (.slice (if c = m then a else a.map (·.add m)) (n - m) (c - m)) (n - m) (ints (s.drop m)) := by
  by_cases e : n = m
  · have e2 : s.drop m = [] := List.drop_of_length_le (by omega)
    rw [e2, show n - m = 0 by omega]
    cases a with
    | none =>
      have := h0 rfl
      subst this
      have : m = 0 := by omega
      subst this
      exact .inl (.inl ⟨rfl, rfl, rfl⟩)
    | some x =>
      refine .inr ⟨if c = m then x else x.add m, c - m, ?_, rfl, rfl, by omega⟩
      split <;> rfl
  · obtain ⟨g, o, c', e', _, _, hcell⟩ := h.at (by omega)
    cases e'
    rw [if_neg (by omega)]
    simp only [Option.map_some, add_none]
    refine .inl (.inr ⟨g, o + m, c - m, rfl, by omega, by omega, fun j u hu => ?_⟩)
    rw [Nat.add_assoc]
    refine hcell (m + j) u ?_
    have : (ints (s.drop m))[j]? = (ints s)[m + j]? := by unfold ints; rw [List.map_drop, List.getElem?_drop]
    rw [← this]
    exact hu
theorem own_cap {w : World} {b n c : Nat} {a : Option Addr} {e : TypeId} {size : Nat} {xs : List Value} (h : w.ownsRow b e size (.slice a n c) n xs) : n ≤ c ∧ c ≤ maxLen ∧ (a = none → c = 0) := by
  rcases h.2 with ⟨h1, h2⟩ | ⟨g, cap, cur, h1, _, _, h2, h3, _⟩
  · injection h1 with e1 e2 e3
    subst e1 e2 e3
    exact ⟨Nat.le_refl _, by decide, fun _ => rfl⟩
  · injection h1 with e1 e2 e3
    subst e1 e3
    exact ⟨h2, h3, fun e => by cases e⟩
set_option maxRecDepth 100000 in
set_option maxHeartbeats 2000000 in
theorem poolModel_any {w : World} {a : Option Addr} {n c : Nat} {l : List Sp} (h : Lay w (.slice a n c) n (flatS l)) (hn : n = l.length) (h10 : n ≤ 1000) (hT : Po.Tab w) (r : Int) (hf : (firstN r l).length ≤ 10) :
    Calls Tryz.prog 39 #[.int .i64 r, .slice a n c] w fun e w' => ∃ bM bA, e = .returned (.agg (SN.modA (SN.enc (firstN r l)) (SN.fnN bM bA))) ∧ Kept w w' ∧ SN.Caps w' bM bA 0 := by
  obtain ⟨W0, hW0⟩ : ∃ W0, SN.homeM w = W0 := ⟨_, rfl⟩
  have k1 : Kept w W0 := by rw [← hW0]; exact (Kept.refl _).alloc _ _
  have NA := Lib.hid (named_any (h.kept k1) hn h10)
  have AL := Lib.hid (fun W (k : Kept w W) => allocs_any (h.kept k) hn h10)
  have K1 := Lib.hid k1
  have HOME := Lib.hid hW0
  have HT := Lib.hid hT
  have HF := Lib.hid hf
  have HW := Lib.hid (show w.alloc (.cells #[.int .i64 0, .int .i64 0, .int .i64 0, .int .i64 0, .int .i64 0, .int .i64 0, .int .i64 0, .int .i64 0, .int .i64 0, .int .i64 0, .int .i64 0, .nilFunc] 106) = W0 from hW0)
  obtain ⟨U, hU⟩ : ∃ U, Po.memI (Po.restM (namedM l) (Po.restN r)) = U := ⟨_, rfl⟩
  have HU := Lib.hid hU
  obtain ⟨m, hm⟩ : ∃ m, nAll l = m := ⟨_, rfl⟩
  have HM := Lib.hid hm
  have ml : m ≤ 1000 := by rw [← hm]; unfold nAll; exact Nat.le_trans List.countP_le_length (by omega)
  rw [hm] at AL
  obtain ⟨N, hN⟩ : ∃ N, namedM l = N := ⟨_, rfl⟩
  rw [hN] at NA hU
  have HN2 := Lib.hid hN
  have HU2 := Lib.hid hU
  obtain ⟨R, hR⟩ : ∃ R, firstN r l = R := ⟨_, rfl⟩
  have HR := Lib.hid hR
  rw [hR]
  clear k1 h hT hf hW0 hU hm hN hR hn h10
  go_enter Tryz.func39, Tryz.ntmps39
  go_upto_region 1 with fail
  rw [HW.out]
  go_wp2_with fail; refine NA.out.mono ?_; rintro e w1 ⟨a1, c1, rfl, k2, own1⟩
  have K2 := Lib.hid (K1.out.trans k2)
  have K01 := Lib.hid k2
  have RE := Lib.hid (Po.rest_S (own_lies own1).lay rfl (HT.out.kept K2.out) r)
  rw [HU2.out] at RE
  clear own1 k2
  go_wp2_with fail; refine RE.out.mono ?_; rintro e w2 ⟨a2, c2, rfl, k3, own2⟩
  have K3 := Lib.hid (K2.out.trans k3)
  have K02 := Lib.hid (K01.out.trans k3)
  have AC := Lib.hid (AL.out _ K3.out)
  have O2 := Lib.hid own2
  clear own2 k3
  have RE2 := fun (W3 : World) (k : Kept w2 W3) (p : Nat) (hp : p ≤ U.length) => Po.rest_S (num_tail ((own_lies O2.out).lay.kept k) rfl hp (own_cap O2.out).1 (own_cap O2.out).2.1 (own_cap O2.out).2.2) (by simp) (HT.out.kept (K3.out.trans k)) r
  have HRE := Lib.hid RE2
  clear RE2
  have HR5 := Lib.hid (show Po.memI (Po.restM (U.drop (min m U.length)) (Po.restN r)) = R by rw [← HR.out]; unfold firstN spareM; simp only [HM.out, HU.out])
  by_cases hlt : (U.length : Int) < (m : Int)
  · have e5 : min m U.length = U.length := Nat.min_eq_right (by omega)
    rw [e5] at HR5
    by_cases hc : c2 = U.length
    · subst hc
      go_wp2_with fail; refine AC.out.mono ?_; rintro e w3 ⟨rfl, k4⟩
      have RA := Lib.hid (HRE.out w3 k4 U.length (Nat.le_refl _))
      rw [if_pos rfl, Nat.sub_self, HR5.out] at RA
      go_wp2_with fail; refine RA.out.mono ?_; rintro e w4 ⟨a4, c4, rfl, k5, own4⟩
      have K5 := Lib.hid (K02.out.trans (k4.trans k5))
      have R10 := (show R.length ≤ 10 by have h9 := HF.out; rw [HR.out] at h9; exact h9)
      have MO := Lib.hid (SN.modelOf_any (rb := 0) (own_lies own4).lay rfl R10)
      clear own4 k4 k5 R10
      go_wp2_with fail; refine MO.out.mono ?_; rintro e v1 ⟨bM, bA, rfl, kv, caps⟩
      obtain ⟨W9, SM, RG, BB⟩ := SN.model_home (W := w) (v1 := v1) (by have h9 := HOME.out; unfold SN.homeM at h9; rw [h9]; exact K5.out.trans kv) R bM bA rfl
      have z0 : v1.cell? ⟨w.heap.size, 0, none⟩ = some (.int .i64 0) := (K5.out.trans kv).some (by rw [← HOME.out]; exact cell_new w _ _ _ 0 rfl)
      have Z0 := Lib.hid z0
      have HC := Lib.hid caps
      have KV := Lib.hid (K1.out.trans (K5.out.trans kv))
      have HRG := Lib.hid RG
      have HBB := Lib.hid BB
      clear caps kv RG BB z0
      go_wp2
      refine bodyPost_ret (SN.model_result Tryz.results39 rfl (SN.enc_len R) HRG.out) rfl ?_
      exact ⟨bM, bA, rfl, KV.out.put1 HBB.out (by omega), ⟨HBB.out.some HC.out.m fun e => by (have := HC.out.m; rw [e, Z0.out] at this; cases this), HBB.out.some HC.out.a fun e => by (have := HC.out.a; rw [e, Z0.out] at this; cases this)⟩⟩
    · go_wp2_with fail; refine AC.out.mono ?_; rintro e w3 ⟨rfl, k4⟩
      have RA := Lib.hid (HRE.out w3 k4 U.length (Nat.le_refl _))
      rw [if_neg hc, Nat.sub_self, HR5.out] at RA
      go_wp2_with fail; refine RA.out.mono ?_; rintro e w4 ⟨a4, c4, rfl, k5, own4⟩
      have K5 := Lib.hid (K02.out.trans (k4.trans k5))
      have R10 := (show R.length ≤ 10 by have h9 := HF.out; rw [HR.out] at h9; exact h9)
      have MO := Lib.hid (SN.modelOf_any (rb := 0) (own_lies own4).lay rfl R10)
      clear own4 k4 k5 R10
      go_wp2_with fail; refine MO.out.mono ?_; rintro e v1 ⟨bM, bA, rfl, kv, caps⟩
      obtain ⟨W9, SM, RG, BB⟩ := SN.model_home (W := w) (v1 := v1) (by have h9 := HOME.out; unfold SN.homeM at h9; rw [h9]; exact K5.out.trans kv) R bM bA rfl
      have z0 : v1.cell? ⟨w.heap.size, 0, none⟩ = some (.int .i64 0) := (K5.out.trans kv).some (by rw [← HOME.out]; exact cell_new w _ _ _ 0 rfl)
      have Z0 := Lib.hid z0
      have HC := Lib.hid caps
      have KV := Lib.hid (K1.out.trans (K5.out.trans kv))
      have HRG := Lib.hid RG
      have HBB := Lib.hid BB
      clear caps kv RG BB z0
      go_wp2
      refine bodyPost_ret (SN.model_result Tryz.results39 rfl (SN.enc_len R) HRG.out) rfl ?_
      exact ⟨bM, bA, rfl, KV.out.put1 HBB.out (by omega), ⟨HBB.out.some HC.out.m fun e => by (have := HC.out.m; rw [e, Z0.out] at this; cases this), HBB.out.some HC.out.a fun e => by (have := HC.out.a; rw [e, Z0.out] at this; cases this)⟩⟩
  · have e5 : min m U.length = m := Nat.min_eq_left (by omega)
    rw [e5] at HR5
    by_cases hc : c2 = m
    · go_wp2_with fail; refine AC.out.mono ?_; rintro e w3 ⟨rfl, k4⟩
      have RA := Lib.hid (HRE.out w3 k4 m (by omega))
      rw [if_pos hc, show c2 - m = 0 by omega, HR5.out] at RA
      go_wp2_with fail; refine RA.out.mono ?_; rintro e w4 ⟨a4, c4, rfl, k5, own4⟩
      have K5 := Lib.hid (K02.out.trans (k4.trans k5))
      have R10 := (show R.length ≤ 10 by have h9 := HF.out; rw [HR.out] at h9; exact h9)
      have MO := Lib.hid (SN.modelOf_any (rb := 0) (own_lies own4).lay rfl R10)
      clear own4 k4 k5 R10
      go_wp2_with fail; refine MO.out.mono ?_; rintro e v1 ⟨bM, bA, rfl, kv, caps⟩
      obtain ⟨W9, SM, RG, BB⟩ := SN.model_home (W := w) (v1 := v1) (by have h9 := HOME.out; unfold SN.homeM at h9; rw [h9]; exact K5.out.trans kv) R bM bA rfl
      have z0 : v1.cell? ⟨w.heap.size, 0, none⟩ = some (.int .i64 0) := (K5.out.trans kv).some (by rw [← HOME.out]; exact cell_new w _ _ _ 0 rfl)
      have Z0 := Lib.hid z0
      have HC := Lib.hid caps
      have KV := Lib.hid (K1.out.trans (K5.out.trans kv))
      have HRG := Lib.hid RG
      have HBB := Lib.hid BB
      clear caps kv RG BB z0
      go_wp2
      refine bodyPost_ret (SN.model_result Tryz.results39 rfl (SN.enc_len R) HRG.out) rfl ?_
      exact ⟨bM, bA, rfl, KV.out.put1 HBB.out (by omega), ⟨HBB.out.some HC.out.m fun e => by (have := HC.out.m; rw [e, Z0.out] at this; cases this), HBB.out.some HC.out.a fun e => by (have := HC.out.a; rw [e, Z0.out] at this; cases this)⟩⟩
    · have hc' : ¬ (c2 : Int) = (m : Int) := by omega
      have hmu : (m : Int) ≤ (U.length : Int) := by omega
      have hmc : (m : Int) ≤ (c2 : Int) := by have := (own_cap O2.out).1; omega
      go_wp2_with fail; refine AC.out.mono ?_; rintro e w3 ⟨rfl, k4⟩
      have RA := Lib.hid (HRE.out w3 k4 m (by omega))
      rw [if_neg hc, HR5.out] at RA
      go_wp2_with fail; refine RA.out.mono ?_; rintro e w4 ⟨a4, c4, rfl, k5, own4⟩
      have K5 := Lib.hid (K02.out.trans (k4.trans k5))
      have R10 := (show R.length ≤ 10 by have h9 := HF.out; rw [HR.out] at h9; exact h9)
      have MO := Lib.hid (SN.modelOf_any (rb := 0) (own_lies own4).lay rfl R10)
      clear own4 k4 k5 R10
      go_wp2_with fail; refine MO.out.mono ?_; rintro e v1 ⟨bM, bA, rfl, kv, caps⟩
      obtain ⟨W9, SM, RG, BB⟩ := SN.model_home (W := w) (v1 := v1) (by have h9 := HOME.out; unfold SN.homeM at h9; rw [h9]; exact K5.out.trans kv) R bM bA rfl
      have z0 : v1.cell? ⟨w.heap.size, 0, none⟩ = some (.int .i64 0) := (K5.out.trans kv).some (by rw [← HOME.out]; exact cell_new w _ _ _ 0 rfl)
      have Z0 := Lib.hid z0
      have HC := Lib.hid caps
      have KV := Lib.hid (K1.out.trans (K5.out.trans kv))
      have HRG := Lib.hid RG
      have HBB := Lib.hid BB
      clear caps kv RG BB z0
      go_wp2
      refine bodyPost_ret (SN.model_result Tryz.results39 rfl (SN.enc_len R) HRG.out) rfl ?_
      exact ⟨bM, bA, rfl, KV.out.put1 HBB.out (by omega), ⟨HBB.out.some HC.out.m fun e => by (have := HC.out.m; rw [e, Z0.out] at this; cases this), HBB.out.some HC.out.a fun e => by (have := HC.out.a; rw [e, Z0.out] at this; cases this)⟩⟩
end Go.Proofs.YtbfmmndpboagdaaGreatDoor

namespace Go.Proofs.YtbfmmndpboagdaaGreatDoor.SU
open Go.RowKit Go.Shelf

theorem srch_of {w : World} {bM bA rb : Nat} {l : List Sp} {sa : Option Addr} {sn sc : Nat} (hC : Caps w bM bA rb) (hl : Lay w (.slice sa sn sc) sn (flatS l)) (hn : sn = l.length) (h10 : l.length ≤ 10) :
    Srch w bM bA rb l sa sn sc (aO l l.length) (maskTo (pM l) l.length) := by
  refine ⟨hC, hl, hn, h10, fun i c hi j => ?_, fun i _ => ?_, fun j => ?_, mask_lt _ _ (by omega)⟩
  · have hil := (List.getElem?_eq_some_iff.1 hi).1
    unfold aO
    rw [if_pos hil, mask_bit]
    unfold pA
    rw [hi]
    by_cases hj : j < l.length
    · rw [List.getElem?_eq_getElem hj]
      simp [hj]
    · rw [List.getElem?_eq_none (by omega)]
      simp
  · unfold aO
    split
    · exact mask_lt _ _ (by omega)
    · decide
  · rw [mask_bit]
    unfold pM
    by_cases hj : j < l.length
    · rw [List.getElem?_eq_getElem hj]
      simp [hj]
    · rw [List.getElem?_eq_none (by omega)]
      simp
end Go.Proofs.YtbfmmndpboagdaaGreatDoor.SU

namespace Go.Proofs.YtbfmmndpboagdaaGreatDoor.SH
open Go.RowKit Go.Shelf

theorem srch_of {w : World} {bM bA rb : Nat} {l : List Sp} {sa : Option Addr} {sn sc : Nat} (hC : Caps w bM bA rb) (hl : Lay w (.slice sa sn sc) sn (flatS l)) (hn : sn = l.length) (h10 : l.length ≤ 10) :
    Srch w bM bA rb l sa sn sc (aO l l.length) (maskTo (pM l) l.length) := by
  refine ⟨hC, hl, hn, h10, fun i c hi j => ?_, fun i _ => ?_, fun j => ?_, mask_lt _ _ (by omega)⟩
  · have hil := (List.getElem?_eq_some_iff.1 hi).1
    unfold aO
    rw [if_pos hil, mask_bit]
    unfold pA
    rw [hi]
    by_cases hj : j < l.length
    · rw [List.getElem?_eq_getElem hj]
      simp [hj]
    · rw [List.getElem?_eq_none (by omega)]
      simp
  · unfold aO
    split
    · exact mask_lt _ _ (by omega)
    · decide
  · rw [mask_bit]
    unfold pM
    by_cases hj : j < l.length
    · rw [List.getElem?_eq_getElem hj]
      simp [hj]
    · rw [List.getElem?_eq_none (by omega)]
      simp
end Go.Proofs.YtbfmmndpboagdaaGreatDoor.SH

namespace Go.Proofs.YtbfmmndpboagdaaGreatDoor.SN
open Go.RowKit Go.Shelf

theorem srch_of {w : World} {bM bA rb : Nat} {l : List Sp} {sa : Option Addr} {sn sc : Nat} (hC : Caps w bM bA rb) (hl : Lay w (.slice sa sn sc) sn (flatS l)) (hn : sn = l.length) (h10 : l.length ≤ 10) :
    Srch w bM bA rb l sa sn sc (aO l l.length) (maskTo (pM l) l.length) := by
  refine ⟨hC, hl, hn, h10, fun i c hi j => ?_, fun i _ => ?_, fun j => ?_, mask_lt _ _ (by omega)⟩
  · have hil := (List.getElem?_eq_some_iff.1 hi).1
    unfold aO
    rw [if_pos hil, mask_bit]
    unfold pA
    rw [hi]
    by_cases hj : j < l.length
    · rw [List.getElem?_eq_getElem hj]
      simp [hj]
    · rw [List.getElem?_eq_none (by omega)]
      simp
  · unfold aO
    split
    · exact mask_lt _ _ (by omega)
    · decide
  · rw [mask_bit]
    unfold pM
    by_cases hj : j < l.length
    · rw [List.getElem?_eq_getElem hj]
      simp [hj]
    · rw [List.getElem?_eq_none (by omega)]
      simp
end Go.Proofs.YtbfmmndpboagdaaGreatDoor.SN

set_option maxRecDepth 20000
namespace Go.Proofs.YtbfmmndpboagdaaGreatDoor
open Go.RowKit Go.Shelf
attribute [local go_sem] Oper.semAt_some
attribute [local go_sem] Kept.refl Kept.drew Kept.drewN Kept.alloc

set_option maxRecDepth 100000 in
set_option maxHeartbeats 1000000 in
theorem finder_heap {w : World} {a : Option Addr} {n c : Nat} {l : List Sp} (h : Lay w (.slice a n c) n (flatS l)) (hn : n = l.length) (h10 : n ≤ 10) (r : Int) :
    Calls Tryz.prog 23 #[.int .i64 2, .int .i64 r, .slice a n c] w fun e w' => ∃ bM bA, e = .returned (.iface 98 (.agg (SH.sV [] bM bA a n c (SH.aO l l.length) (SH.maskTo (SH.pM l) l.length)))) ∧ Kept w w' ∧ SH.Srch w' bM bA 0 l a n c (SH.aO l l.length) (SH.maskTo (SH.pM l) l.length) := by
  have HM := Lib.hid (heapModel_any w)
  have HS := Lib.hid (fun W (k : Kept w W) bM bA => SH.searchOf_any (q0 := []) bM bA (by exact ⟨by decide, fun x hx => by cases hx⟩) (h.kept k) hn h10)
  have HL := Lib.hid h
  have HN := Lib.hid hn
  clear h hn
  go_enter Tryz.func23, Tryz.ntmps23
  go_wp2_with fail; refine HM.out.mono ?_; rintro e w1 ⟨bM, bA, rfl, k1, caps⟩
  have K1 := Lib.hid k1
  have HC := Lib.hid caps
  clear k1 caps
  go_wp2_with fail; refine (HS.out _ K1.out _ _).mono ?_; rintro e w2 ⟨rfl, k2⟩
  have K2 := Lib.hid k2
  clear k2
  go_wp2
  go_ret
  exact ⟨bM, bA, rfl, K1.out.trans K2.out, SH.srch_of (HC.out.kept K2.out) (HL.out.kept (K1.out.trans K2.out)) HN.out (by rw [← HN.out]; exact h10)⟩
set_option maxRecDepth 100000 in
set_option maxHeartbeats 1000000 in
theorem finder_fifo {w : World} {a : Option Addr} {n c : Nat} {l : List Sp} (h : Lay w (.slice a n c) n (flatS l)) (hn : n = l.length) (h10 : n ≤ 10) (r : Int) :
    Calls Tryz.prog 23 #[.int .i64 1, .int .i64 r, .slice a n c] w fun e w' => ∃ bM bA rb sa sc, e = .returned (.iface 85 (.agg (SU.sV [] bM bA sa n sc (SU.aO (alikeM l) (alikeM l).length) (SU.maskTo (SU.pM (alikeM l)) (alikeM l).length)))) ∧ Kept w w' ∧ SU.Srch w' bM bA rb (alikeM l) sa n sc (SU.aO (alikeM l) (alikeM l).length) (SU.maskTo (SU.pM (alikeM l)) (alikeM l).length) ∧ SU.Env rb r w' := by
  have HM := Lib.hid (fifoModel_any r w)
  have HA := Lib.hid (fun W (k : Kept w W) => alike_any (h.kept k) hn (by omega))
  have HN := Lib.hid hn
  have LE := Lib.hid (show n = (alikeM l).length by unfold alikeM; rw [List.length_map]; exact hn)
  clear h hn
  go_enter Tryz.func23, Tryz.ntmps23
  go_wp2_with fail; refine HM.out.mono ?_; rintro e w1 ⟨bM, bA, rb, rfl, k1, caps, env⟩
  have K1 := Lib.hid k1
  have HC := Lib.hid caps
  have HE := Lib.hid env
  clear k1 caps env
  go_wp2_with fail; refine (HA.out _ K1.out).mono ?_; rintro e w2 ⟨a2, c2, rfl, k2, own2⟩
  have K2 := Lib.hid k2
  have HL := Lib.hid (own_lies own2).lay
  have HS := Lib.hid (SU.searchOf_any (q0 := []) bM bA (by exact ⟨by decide, fun x hx => by cases hx⟩) HL.out LE.out h10)
  clear k2 own2
  go_wp2_with fail; refine HS.out.mono ?_; rintro e w3 ⟨rfl, k3⟩
  have K3 := Lib.hid k3
  clear k3
  go_wp2
  go_ret
  exact ⟨bM, bA, rb, a2, c2, rfl, K1.out.trans (K2.out.trans K3.out), SU.srch_of (HC.out.kept (K2.out.trans K3.out)) (HL.out.kept K3.out) LE.out (by rw [← LE.out]; exact h10), HE.out.kept (K2.out.trans K3.out)⟩
set_option maxRecDepth 100000 in
set_option maxHeartbeats 1000000 in
theorem finder_pool {w : World} {a : Option Addr} {n c : Nat} {l : List Sp} (h : Lay w (.slice a n c) n (flatS l)) (hn : n = l.length) (h10 : n ≤ 10) (hT : Po.Tab w) (r : Int) (hf : (firstN r l).length ≤ 10) (hw : SN.Okq (firstN r l)) :
    Calls Tryz.prog 23 #[.int .i64 3, .int .i64 r, .slice a n c] w fun e w' => ∃ bM bA, e = .returned (.iface 108 (.agg (SN.sV (firstN r l) bM bA a n c (SN.aO l l.length) (SN.maskTo (SN.pM l) l.length)))) ∧ Kept w w' ∧ SN.Srch w' bM bA 0 l a n c (SN.aO l l.length) (SN.maskTo (SN.pM l) l.length) := by
  have HM := Lib.hid (poolModel_any h hn (by omega) hT r hf)
  have HS := Lib.hid (fun W (k : Kept w W) bM bA => SN.searchOf_any (q0 := firstN r l) bM bA hw (h.kept k) hn h10)
  have HL := Lib.hid h
  have HN := Lib.hid hn
  obtain ⟨R, hR⟩ : ∃ R, firstN r l = R := ⟨_, rfl⟩
  rw [hR] at HM HS ⊢
  clear h hn hT hf hw hR
  go_enter Tryz.func23, Tryz.ntmps23
  go_wp2_with fail; refine HM.out.mono ?_; rintro e w1 ⟨bM, bA, rfl, k1, caps⟩
  have K1 := Lib.hid k1
  have HC := Lib.hid caps
  clear k1 caps
  go_wp2_with fail; refine (HS.out _ K1.out _ _).mono ?_; rintro e w2 ⟨rfl, k2⟩
  have K2 := Lib.hid k2
  clear k2
  go_wp2
  go_ret
  exact ⟨bM, bA, rfl, K1.out.trans K2.out, SN.srch_of (HC.out.kept K2.out) (HL.out.kept (K1.out.trans K2.out)) HN.out (by rw [← HN.out]; exact h10)⟩
end Go.Proofs.YtbfmmndpboagdaaGreatDoor

set_option maxRecDepth 20000
namespace Go.Proofs.YtbfmmndpboagdaaGreatDoor
open Go.RowKit Go.Shelf
attribute [local go_sem] Oper.semAt_some
attribute [local go_sem] Kept.refl Kept.drew Kept.drewN Kept.alloc

structure OrdBox (w W : World) (a : Option Addr) (n c : Nat) : Prop where
  kept : Kept w W
  size : W.heap.size = w.heap.size + 1 + 1 + 1 + 1
  l : W.cell? ⟨w.heap.size, 0, none⟩ = some (.slice a n c)
  r0 : W.cell? ⟨w.heap.size + 1, 0, none⟩ = some (.slice none 0 0)
  r1 : W.cell? ⟨w.heap.size + 1 + 1, 0, none⟩ = some (.bool false)
  r2 : W.cell? ⟨w.heap.size + 1 + 1 + 1, 0, none⟩ = some (.int .i64 0)
  s0 : W.frozen? ⟨w.heap.size + 1, 0, none⟩ = false
  s1 : W.frozen? ⟨w.heap.size + 1 + 1, 0, none⟩ = false
  s2 : W.frozen? ⟨w.heap.size + 1 + 1 + 1, 0, none⟩ = false
theorem ord_box {w : World} {a : Option Addr} {n c : Nat} (t0 t1 t2 t3 : TypeId) : OrdBox w ((((w.alloc (.cells #[.slice a n c] t0)).alloc (.cells #[.slice none 0 0] t1)).alloc (.cells #[.bool false] t2)).alloc (.cells #[.int .i64 0] t3)) a n c := by
  have k : ∀ (W : World) (x : Array Value) (t : TypeId), Kept W (W.alloc (.cells x t)) := fun W x t => (Kept.refl W).alloc _ _
  refine ⟨(((k _ _ _).trans (k _ _ _)).trans (k _ _ _)).trans (k _ _ _), by simp, ((k _ _ _).trans ((k _ _ _).trans (k _ _ _))).some (cell_new _ _ _ _ 0 rfl), ((k _ _ _).trans (k _ _ _)).some (cell_new _ _ _ _ 0 (by simp)), (k _ _ _).some (cell_new _ _ _ _ 0 (by simp)), cell_new _ _ _ _ 0 (by simp), ?_, ?_, ?_⟩
  · exact ((k _ _ _).trans (k _ _ _)).soft (by simp) (soft_new _ _ _ _ _ (by simp))
  · exact (k _ _ _).soft (by simp) (soft_new _ _ _ _ _ (by simp))
  · exact soft_new _ _ _ _ _ (by simp)
theorem OrdBox.next {w W W' : World} {a : Option Addr} {n c : Nat} (h : OrdBox w W a n c) (k : Kept W W') : Kept w W' ∧ W'.cell? ⟨w.heap.size, 0, none⟩ = some (.slice a n c) ∧ W'.cell? ⟨w.heap.size + 1, 0, none⟩ = some (.slice none 0 0) ∧ W'.cell? ⟨w.heap.size + 1 + 1, 0, none⟩ = some (.bool false) ∧ W'.cell? ⟨w.heap.size + 1 + 1 + 1, 0, none⟩ = some (.int .i64 0) :=
  ⟨h.kept.trans k, k.some h.l, k.some h.r0, k.some h.r1, k.some h.r2⟩
theorem OrdBox.soft {w W W' : World} {a : Option Addr} {n c : Nat} (h : OrdBox w W a n c) (k : Kept W W') : W'.frozen? ⟨w.heap.size + 1, 0, none⟩ = false ∧ W'.frozen? ⟨w.heap.size + 1 + 1, 0, none⟩ = false ∧ W'.frozen? ⟨w.heap.size + 1 + 1 + 1, 0, none⟩ = false := by
  have := h.size
  exact ⟨k.soft (by omega) h.s0, k.soft (by omega) h.s1, k.soft (by omega) h.s2⟩
def idsO (l : List Sp) (o : List Nat) : List Int := o.map fun i => ((l[i]?).map (·.id)).getD 0
def RetO (w : World) (l : List Sp) (d : Option (List Nat)) (e : Ending) (w' : World) : Prop :=
  Kept w w' ∧ ((d = none ∧ e = .returned (.tuple #[.slice none 0 0, .bool false, .int .i64 0])) ∨ ∃ o a c, d = some o ∧ e = .returned (.tuple #[.slice a o.length c, .bool true, .int .i64 0]) ∧ OwnI w' w.heap.size (.slice a o.length c) (idsO l o))
theorem three_set {W : World} {b : Nat} {u0 u1 u2 : Value} (v0 v1 v2 : Value) (h0 : W.cell? ⟨b, 0, none⟩ = some u0) (h1 : W.cell? ⟨b + 1, 0, none⟩ = some u1) (h2 : W.cell? ⟨b + 1 + 1, 0, none⟩ = some u2) :
    ∃ X, ((W.setCell ⟨b, 0, none⟩ v0).setCell ⟨b + 1, 0, none⟩ v1).setCell ⟨b + 1 + 1, 0, none⟩ v2 = X ∧ X.cell? ⟨b, 0, none⟩ = some v0 ∧ X.cell? ⟨b + 1, 0, none⟩ = some v1 ∧ X.cell? ⟨b + 1 + 1, 0, none⟩ = some v2 ∧ But (fun k => b ≤ k ∧ k ≤ b + 1 + 1) W X := by
  refine ⟨_, rfl, ?_⟩
  have e0 := World.cell?_setCell_same' W ⟨b, 0, none⟩ v0 (by rw [h0]; rfl)
  have b0 : But (fun k => k = b) W (W.setCell ⟨b, 0, none⟩ v0) := (But.refl _ _).here 0 v0
  have e1 := World.cell?_setCell_same' (W.setCell ⟨b, 0, none⟩ v0) ⟨b + 1, 0, none⟩ v1 (by rw [b0.some h1 (by omega)]; rfl)
  have b1 : But (fun k => k = b + 1) (W.setCell ⟨b, 0, none⟩ v0) ((W.setCell ⟨b, 0, none⟩ v0).setCell ⟨b + 1, 0, none⟩ v1) := (But.refl _ _).here 0 v1
  have e2 := World.cell?_setCell_same' ((W.setCell ⟨b, 0, none⟩ v0).setCell ⟨b + 1, 0, none⟩ v1) ⟨b + 1 + 1, 0, none⟩ v2 (by rw [b1.some (b0.some h2 (by omega)) (by omega)]; rfl)
  have b2 : But (fun k => k = b + 1 + 1) ((W.setCell ⟨b, 0, none⟩ v0).setCell ⟨b + 1, 0, none⟩ v1) (((W.setCell ⟨b, 0, none⟩ v0).setCell ⟨b + 1, 0, none⟩ v1).setCell ⟨b + 1 + 1, 0, none⟩ v2) := (But.refl _ _).here 0 v2
  exact ⟨b2.some (b1.some e0 (by omega)) (by omega), b2.some e1 (by omega), e2, ((b0.mono fun _ _ h => by omega).trans b1 fun _ _ h => by omega).trans b2 fun _ _ h => by omega⟩
theorem own_num {w : World} {b g n c q : Nat} {L : List Int} {u : Int} (hq : q < L.length) (h : w.ownsRow b 3 1 (.slice (some ⟨g, 0, none⟩) n c) n (ints L)) :
    (w.setCell ⟨g, q, none⟩ (.int .i64 u)).ownsRow b 3 1 (.slice (some ⟨g, 0, none⟩) n c) n (ints (L.set q u)) := by
  obtain ⟨_, hnc, hcm, hbg, hxl, FI⟩ := filled_of_own h
  have hlt : q < (ints L).length := by simpa [ints] using hq
  have fm := filled_mid FI q [.int .i64 u] (by simp only [List.length_cons, List.length_nil]; omega) (by rw [hxl]; exact Nat.mul_le_mul_right _ hnc)
  have e : (ints L).take q ++ [.int .i64 u] ++ (ints L).drop (q + [Value.int .i64 u].length) = ints (L.set q u) := by
    have e2 : ints (L.set q u) = (ints L).set q (.int .i64 u) := by unfold ints; rw [List.map_set]
    rw [e2, List.set_eq_take_append_cons_drop, if_pos hlt]
    simp
  rw [e] at fm
  refine own_of_filled fm ?_ hnc hcm hbg
  rw [← hxl]
  simp [ints]
def IdRel (W2 : World) (b : Nat) (v : Value) (l : List Sp) (o : List Nat) (n : Nat) (i : Value) (wr : World) : Prop :=
  ∃ k : Nat, k ≤ o.length ∧ i = .int .i64 k ∧ But (fun x => v.ownBlock = some x) W2 wr ∧ wr.ownsRow b 3 1 v n (ints (idsO l (o.take k) ++ SH.casts (o.drop k)))
set_option maxRecDepth 100000 in
theorem meth_heap (v : Value) (W : World) : (method 339 98 v "coxswain/linear.orders").run Tryz.prog W = .ok (147, v) W := by kernel_rfl
set_option maxRecDepth 100000 in
set_option maxHeartbeats 400000 in
theorem order_heap {w : World} {a : Option Addr} {n c : Nat} {l : List Sp} (h : Lay w (.slice a n c) n (flatS l)) (hn : n = l.length) (h10 : n ≤ 10) (r : Int) (hc : chkL 2 r l = 0) {I : Nat → List (List SH.El) → Prop} (hI : SH.Inv r l [] I) :
    Calls Tryz.prog 11 #[.int .i64 2, .int .i64 r, .slice a n c] w (RetO w l (dfs (SH.nextM r) l 10 0 [[]])) := by
  have CH := Lib.hid (fun W (k : Kept w W) => check_any 2 r (h.kept k) hn)
  simp only [hc] at CH
  have FI := Lib.hid (fun W (k : Kept w W) => finder_heap (h.kept k) hn h10 r)
  have OB := fun t0 t1 t2 t3 => ord_box (w := w) (a := a) (n := n) (c := c) t0 t1 t2 t3
  have HOB := Lib.hid OB
  have HI := Lib.hid hI
  have HLay := Lib.hid h
  have HN := Lib.hid hn
  clear h hn hc OB hI
  refine (callsIn_wide (n := 6)).1 ?_
  refine callsIn_of_wp_marks Tryz.func11 rfl trivial ?_ rfl
  simp only [Tryz.ntmps11, List.size_toArray, List.length_cons, List.length_nil, Nat.reduceAdd, Nat.reduceSub, Array.replicate_succ, Array.replicate_zero, List.push_toArray, List.append_toArray, List.nil_append, List.cons_append]
  rw [wpIn_wide]
  go_wp2_with fail; refine (CH.out _ (HOB.out _ _ _ _).kept).mono ?_; rintro e w1 ⟨rfl, k1⟩
  obtain ⟨kw1, q0, q1, q2, q3⟩ := (HOB.out _ _ _ _).next k1
  have K1 := Lib.hid k1
  have SO1 := Lib.hid ((HOB.out _ _ _ _).soft k1)
  have SZ1 := Lib.hid (Nat.le_trans (Nat.le_of_eq (HOB.out _ _ _ _).size.symm) k1.size)
  have KW1 := Lib.hid kw1
  clear k1 kw1
  go_wp2_with fail; refine (FI.out _ KW1.out).mono ?_; rintro e w2 ⟨bM, bA, rfl, k2, hs⟩
  have p0 := k2.some q0
  have p1 := k2.some q1
  have p2 := k2.some q2
  have p3 := k2.some q3
  have K2 := Lib.hid k2
  have HS := Lib.hid hs
  clear k2 hs
  have ME := fun v W => meth_heap v W
  go_wp2_with fail; refine SH.orders_any.mono ?_; rintro e w3 ⟨bs, rfl, k3, hsb⟩
  have K3 := Lib.hid k3
  have HSB := Lib.hid hsb
  clear k3 hsb
  go_wp2_with fail; rename_i KK hKK
  rw [← wpIn_wide (n := 6)]
  refine range_once (α := List Nat) (Nn := dfs (SH.nextM r) l 10 0 [[]] = none) (So := fun o => dfs (SH.nextM r) l 10 0 [[]] = some o)
    (Arg := fun o v W0 W1 => ∃ a c, v = .slice a (SH.casts o).length c ∧ o.length ≤ 10 ∧ (∀ i ∈ o, i < l.length) ∧ OwnI W1 W0.heap.size (.slice a (SH.casts o).length c) (SH.casts o)) (by decide)
    (gf := 149) (lb := #[.pointer (some ⟨bs, 0, none⟩)]) rfl (enters_of Tryz.func149 (by kernel_rfl) rfl)
    ?harg ?hseq ?aa ?hassign (fun o W3 => Kept w W3 ∧ ∃ a c, W3.cell? ⟨w.heap.size + 1, 0, none⟩ = some (.slice a o.length c) ∧ W3.cell? ⟨w.heap.size + 1 + 1, 0, none⟩ = some (.bool true) ∧ W3.cell? ⟨w.heap.size + 1 + 1 + 1, 0, none⟩ = some (.int .i64 0) ∧ OwnI W3 w.heap.size (.slice a o.length c) (idsO l o)) ?hbody ?hdone ?hstop
  case harg =>
    rintro o v W0 W1 ⟨a1, c1, rfl, _, _, own⟩ k hk
    exact (own.lt k hk).1
  case hseq =>
    intro l0 W0 Jx kW hl hy
    refine (callsIn_wide.2 (SH.orders1_any (Jx := Jx) (HSB.out.kept kW) (HS.out.kept (K3.out.trans kW)) trivial HI.out ?_)).mono ?_
    · intro o a1 c1 W1 k1 h10 hlt own
      exact SH.yield_any (hy o _ W1 k1 ⟨a1, c1, rfl, h10, hlt, own⟩)
    · rintro e w' ⟨rfl, h⟩
      exact ⟨⟨_, rfl⟩, h⟩
  case hassign =>
    intro l0 v W K hK
    gi_wp2
    exact hK
  case hbody =>
    rintro l0 o v W0 W1 W2 kW hge hl0 k1 ⟨a1, c1, rfl, ho10, hlo, own⟩ hb
    have il : (SH.casts o).length = o.length := by simp [SH.casts]
    have qL := hb.some (k1.some (kW.some (K3.out.some p0))) (by have h1 := SZ1.out; have h2 := K2.out.size; have h3 := K3.out.size; omega)
    have OW := Lib.hid (own_but own hb fun g hg e => by have := (own.lt g hg).1; omega)
    have HLO := Lib.hid hlo
    clear own hlo
    gi_wp2
    rw [il] at OW
    simp only [il]
    gi_loopw [28] (IdRel W2 W0.heap.size (.slice a1 o.length c1) l o o.length) (fun i _ => o.length - (intOf i).toNat)
    case atStart => exact ⟨0, Nat.zero_le _, rfl, But.refl _ _, by simpa [idsO] using OW.out⟩
    case round =>
      obtain ⟨k, hk, rfl, hbk, hok⟩ := hrel
      have BK := Lib.hid hbk
      have OK := Lib.hid hok
      clear hbk hok
      have qk := BK.out.some qL (fun e => by have h1 := SZ1.out; have h2 := K2.out.size; have h3 := K3.out.size; have h4 := kW.size; have h5 := (OW.out.lt _ e).1; omega)
      by_cases hlt : k < o.length
      · obtain ⟨i, hi⟩ : ∃ i, o[k]? = some i := ⟨_, List.getElem?_eq_getElem hlt⟩
        have hil := HLO.out i (List.mem_of_getElem? hi)
        obtain ⟨s, hs⟩ : ∃ s, l[i]? = some s := ⟨_, List.getElem?_eq_getElem hil⟩
        have LL : (idsO l (o.take k) ++ SH.casts (o.drop k)).length = o.length := by simp [idsO, SH.casts]; omega
        have LK : (idsO l (o.take k) ++ SH.casts (o.drop k))[k]? = some (i : Int) := by
          rw [List.getElem?_append_right (by simp [idsO]; omega)]
          simp [idsO, SH.casts, Nat.min_eq_left (Nat.le_of_lt hlt), hi]
        have ST := Lib.hid (show (idsO l (o.take k) ++ SH.casts (o.drop k)).set k s.id = idsO l (o.take (k + 1)) ++ SH.casts (o.drop (k + 1)) by
          have e1 : (idsO l (o.take k)).length = k := by simp [idsO]; omega
          rw [List.set_append_right _ _ (by omega), e1, Nat.sub_self]
          have e2 : o.drop k = i :: o.drop (k + 1) := by
            rw [List.drop_eq_getElem_cons hlt]
            congr 1
            exact Option.some.inj ((List.getElem?_eq_getElem hlt).symm.trans hi)
          have e3 : o.take (k + 1) = o.take k ++ [i] := by rw [List.take_add_one, hi]; rfl
          rw [e2, e3]
          simp [idsO, SH.casts, hs])
        obtain ⟨g, p, e, cn⟩ := num_one (own_lies OK.out).lay LL.symm k (i : Int) LK
        cases e
        obtain ⟨rfl, _, _, _, _, FI⟩ := filled_of_own OK.out
        rw [Nat.zero_add] at cn
        have fz := FI.soft k
        have KWr := Lib.hid (show Kept w wr from ((KW1.out.trans (K2.out.trans (K3.out.trans (kW.trans k1)))).put hb fun j e => by have h1 := SZ1.out; have h2 := K2.out.size; have h3 := K3.out.size; omega).put BK.out fun j e => by have h1 := SZ1.out; have h2 := K2.out.size; have h3 := K3.out.size; have h4 := kW.size; have h5 := (OW.out.lt _ e).1; omega)
        obtain ⟨gl, ol, e, c0, _⟩ := sp_one (HLay.out.kept KWr.out) HN.out i s hs
        cases e
        have inn : (i : Int) < (n : Int) := by have := HN.out; omega
        have LLh := Lib.hid LL
        have LKh := Lib.hid LK
        clear hs hi LL LK FI
        gi_wp2
        go_roundw
        case rel => exact ⟨k + 1, by omega, by go_num, BK.out.setCell (p := ⟨g, k, none⟩) (.inl rfl) _, by
          rw [← ST.out]
          exact own_num (by rw [LLh.out]; omega) OK.out⟩
        case measure => simp [intOf]; omega
      · have hk9 : k = o.length := by omega
        have KWr := Lib.hid (show Kept w wr from ((KW1.out.trans (K2.out.trans (K3.out.trans (kW.trans k1)))).put hb fun j e => by have h1 := SZ1.out; have h2 := K2.out.size; have h3 := K3.out.size; omega).put BK.out fun j e => by have h1 := SZ1.out; have h2 := K2.out.size; have h3 := K3.out.size; have h4 := kW.size; have h5 := (OW.out.lt _ e).1; omega)
        have low := SZ1.out
        have low2 := K2.out.size
        have low3 := K3.out.size
        have low4 := kW.size
        have low5 := k1.size
        have nob : ∀ j, j ≤ w.heap.size + 1 + 1 + 1 → ¬ (Value.slice a1 o.length c1).ownBlock = some j := fun j hj e => by have h5 := (OW.out.lt _ e).1; omega
        have KS := K2.out.trans (K3.out.trans (kW.trans k1))
        have z1 := BK.out.some (hb.some ((kW.trans k1).some (K3.out.some p1)) (by omega)) (nob _ (by omega))
        have z2 := BK.out.some (hb.some ((kW.trans k1).some (K3.out.some p2)) (by omega)) (nob _ (by omega))
        have z3 := BK.out.some (hb.some ((kW.trans k1).some (K3.out.some p3)) (by omega)) (nob _ (by omega))
        have f1 := BK.out.soft (by have := hb.size; omega) (hb.soft (by omega) (KS.soft (by omega) SO1.out.1))
        have f2 := BK.out.soft (by have := hb.size; omega) (hb.soft (by omega) (KS.soft (by omega) SO1.out.2.1))
        have f3 := BK.out.soft (by have := hb.size; omega) (hb.soft (by omega) (KS.soft (by omega) SO1.out.2.2))
        obtain ⟨X, hX, x1, x2, x3, bX⟩ := three_set (W := wr) (b := w.heap.size + 1) (.slice a1 o.length c1) (.bool true) (.int .i64 0) z1 z2 z3
        have FIN := Lib.hid (show (Kept w X ∧ ∃ a c, X.cell? ⟨w.heap.size + 1, 0, none⟩ = some (.slice a o.length c) ∧ X.cell? ⟨w.heap.size + 1 + 1, 0, none⟩ = some (.bool true) ∧ X.cell? ⟨w.heap.size + 1 + 1 + 1, 0, none⟩ = some (.int .i64 0) ∧ OwnI X w.heap.size (.slice a o.length c) (idsO l o)) ∧ But (fun j => j < w3.heap.size ∨ (Value.slice a1 o.length c1).ownBlock = some j) W2 X by
          refine ⟨⟨KWr.out.put bX fun j h => by omega, a1, c1, x1, x2, x3, ?_⟩, (BK.out.mono fun _ _ h => .inr h).trans bX fun j _ h => .inl (by omega)⟩
          have h9 := own_mono (own_but OK.out bX fun g hg h => nob g (by omega) hg) (show w.heap.size ≤ W0.heap.size by omega)
          have e9 : idsO l (o.take k) ++ SH.casts (o.drop k) = idsO l o := by rw [hk9, List.take_length, List.drop_length]; simp [SH.casts]
          rw [e9] at h9
          have e8 : (idsO l o).length = o.length := by simp [idsO]
          unfold OwnI
          rw [e8]
          exact h9)
        have HX := Lib.hid hX
        have F2 := Lib.hid (show OwnI X w.heap.size (.slice a1 o.length c1) (idsO l o) by
          obtain ⟨⟨_, a', c', e1, _, _, h9⟩, _⟩ := FIN.out
          rw [x1] at e1
          injection e1 with e1
          injection e1 with e1 _ e3
          rw [e1, e3]
          exact h9)
        clear hX x1 x2 x3 bX KS low low2 low3 low4 low5 nob
        subst hk9
        gi_wp2
        rw [HX.out]
        exact ⟨⟨FIN.out.1.1, a1, c1, ⟨rfl, rfl⟩, F2.out⟩, FIN.out.2⟩
  case hdone =>
    intro D W hN kW hD hK
    apply hKK
    have p1' := kW.some (K3.out.some p1)
    have p2' := kW.some (K3.out.some p2)
    have p3' := kW.some (K3.out.some p3)
    have KS := K2.out.trans (K3.out.trans kW)
    have f1 := KS.soft (by have := SZ1.out; omega) SO1.out.1
    have f2 := KS.soft (by have := SZ1.out; omega) SO1.out.2.1
    have f3 := KS.soft (by have := SZ1.out; omega) SO1.out.2.2
    have HKD := Lib.hid hK
    have KWW := Lib.hid (KW1.out.trans KS)
    have HD := Lib.hid (show w.heap.size + 1 + 1 + 1 < D by have h1 := SZ1.out; have h2 := K2.out.size; have h3 := K3.out.size; omega)
    obtain ⟨X, hX, x1, x2, x3, bX⟩ := three_set (W := W) (b := w.heap.size + 1) (.slice none 0 0) (.bool false) (.int .i64 0) p1' p2' p3'
    have HX := Lib.hid hX
    have X1 := Lib.hid x1
    have X2 := Lib.hid x2
    have X3 := Lib.hid x3
    have BX := Lib.hid bX
    clear KS hK hX x1 x2 x3 bX
    go_wp2
    rw [HX.out]
    have dX := (BX.out.block D (Array.getElem?_eq_some_iff.1 HKD.out).1 (by have := HD.out; omega)).trans HKD.out
    have bY : But (fun k => k = D) X (X.putObj D (.deferred none)) := (But.refl _ _).turned dX rfl rfl (.inl rfl)
    have y1 := bY.some X1.out (by have := HD.out; omega)
    have y2 := bY.some X2.out (by have := HD.out; omega)
    have y3 := bY.some X3.out (by have := HD.out; omega)
    refine ⟨by simp, .inl ⟨_, _, rfl, run_takeDeferred dX, ?_⟩⟩
    refine ⟨.tuple #[.slice none 0 0, .bool false, .int .i64 0], by simp [results, Tryz.results11, go_sem, y1, y2, y3], ?_, .inl ⟨hN, rfl⟩⟩
    exact (KWW.out.put BX.out fun j h => by omega).put bY fun j h => by have := HD.out; omega
  case hstop =>
    rintro D l0 o W3 W hS ⟨kB, a1, c1, z1, z2, z3, own⟩ hl ⟨ly, hly⟩ hb hD hK
    have hd4 : w.heap.size + 1 + 1 + 1 + 1 ≤ l0 ∧ w.heap.size + 1 + 1 + 1 + 1 ≤ D := by have h1 := SZ1.out; have h2 := K2.out.size; have h3 := K3.out.size; omega
    have il : (idsO l o).length = o.length := by simp [idsO]
    have own2 : OwnI W w.heap.size (.slice a1 o.length c1) (idsO l o) := own_but own hb fun g hg e => by
      subst e
      rcases own.2 with ⟨h1, _⟩ | ⟨g2, c2, cur2, h1, _, h2, _⟩
      · rw [h1] at hg; cases hg
      · rw [h1] at hg
        have e2 : g2 = g := by simpa [Value.ownBlock] using hg
        rw [e2, hly] at h2
        cases h2
    have y1 := hb.some z1 (by omega)
    have y2 := hb.some z2 (by omega)
    have y3 := hb.some z3 (by omega)
    have bY : But (fun k => k = D) W (W.putObj D (.deferred none)) := (But.refl _ _).turned hK rfl rfl (.inl rfl)
    have x1 := bY.some y1 (by omega)
    have x2 := bY.some y2 (by omega)
    have x3 := bY.some y3 (by omega)
    rw [wpIn_wide]
    go_wp2
    refine ⟨by simp, .inl ⟨_, _, rfl, run_takeDeferred hK, ?_⟩⟩
    refine ⟨.tuple #[.slice a1 o.length c1, .bool true, .int .i64 0], by simp [results, Tryz.results11, go_sem, x1, x2, x3], (kB.put hb fun j h => by omega).put bY fun j h => by omega, .inr ⟨o, a1, c1, hS, rfl, ?_⟩⟩
    exact ownsRow_putObj own2 _ hK rfl
end Go.Proofs.YtbfmmndpboagdaaGreatDoor
