/- Which answers a model may give, and which list follows an answer: the pool. -/
import Derived.Test.YtbfmmndpboagdaaGreatDoorGN1
import Derived.Test.YtbfmmndpboagdaaGreatDoorGL
import Derived.Test.YtbfmmndpboagdaaGreatDoorGDA
import Derived.RegionTactic
namespace Go.Proofs.YtbfmmndpboagdaaGreatDoor.SN
set_option maxRecDepth 100000
open Go.RowKit

def RetA (w : World) (L : List Fi.Ann) (e : Ending) (w' : World) : Prop := ∃ a c, e = .returned (.slice a L.length c) ∧ Kept w w' ∧ w'.ownsRow w.heap.size 27 3 (.slice a L.length c) L.length (SA.flatQ L)
def RetL (w : World) (p : Option (List El)) (e : Ending) (w' : World) : Prop := ∃ a c, e = .returned (.tuple #[.slice a (p.getD []).length c, .bool p.isSome]) ∧ Kept w w' ∧ Lay w' (.slice a (p.getD []).length c) (p.getD []).length (tcs (p.getD []))

def opO (s : Sp) : Po.Opn := ⟨s.k, s.x, s.y, s.u⟩
def an7 (x : Po.Ann) : Fi.Ann := ⟨x.e, x.n, x.v⟩
def Env (_ : Nat) (_ : Int) (w : World) : Prop := Po.Tab w
theorem Env.kept {rb : Nat} {r : Int} {w w' : World} (h : Env rb r w) (k : Kept w w') : Env rb r w' := Po.Tab.kept h k
def mayM (_ : Int) (q : List El) (s : Sp) : List Fi.Ann := (Po.allS q (opO s)).map an7
def nxM (_ : Int) (q : List El) (s : Sp) (x : Fi.Ann) : Option (List El) := if (⟨x.e, x.n, x.v⟩ : Po.Ann) ∈ Po.allS q (opO s) then some (Po.nextL q (opO s) ⟨x.e, x.n, x.v⟩) else none
theorem may_any {w : World} {rb : Nat} {r : Int} (hE : Env rb r w) {a : Option Addr} {n c : Nat} {q : List El} (s : Sp) (h : Lay w (.slice a n c) n (tcs q)) (hn : n = q.length) :
    Calls Tryz.prog 63 #[.slice a n c, .agg #[.int .i64 s.k, .int .i64 s.x, .int .i64 s.y, .int .u64 s.u]] w (RetA w (mayM r q s)) := by
  refine (Po.all_S h hn hE (opO s)).mono ?_
  rintro e w' ⟨a1, c1, rfl, k1, own1⟩
  have e1 : (mayM r q s).length = (Po.allS q (opO s)).length := by simp [mayM]
  have e2 : SA.flatQ (mayM r q s) = Po.flatA (Po.allS q (opO s)) := by
    unfold mayM SA.flatQ Po.flatA
    rw [List.flatMap_map]
    rfl
  refine ⟨a1, c1, by rw [e1], k1, ?_⟩
  rw [e1, e2]
  exact own1
theorem nx_any {w : World} {rb : Nat} {r : Int} (hE : Env rb r w) {a : Option Addr} {n c : Nat} {q : List El} (s : Sp) (x : Fi.Ann) (h : Lay w (.slice a n c) n (tcs q)) (hn : n = q.length) :
    Calls Tryz.prog 64 #[.slice a n c, .agg #[.int .i64 s.k, .int .i64 s.x, .int .i64 s.y, .int .u64 s.u], .agg #[.int .i64 x.e, .int .i64 x.n, .int .u64 x.v]] w (RetL w (nxM r q s x)) := by
  refine (Po.next_S h hn hE (opO s) ⟨x.e, x.n, x.v⟩).mono ?_
  rintro e w' ⟨a1, c1, rfl, k1, own1⟩
  unfold nxM
  by_cases hm : (⟨x.e, x.n, x.v⟩ : Po.Ann) ∈ Po.allS q (opO s)
  · rw [if_pos hm]
    exact ⟨a1, c1, by simp [hm], k1, (own_lies own1).lay⟩
  · rw [if_neg hm]
    have e0 : Po.nextL q (opO s) ⟨x.e, x.n, x.v⟩ = [] := by unfold Po.nextL; rw [if_neg hm]
    rw [e0] at own1
    exact ⟨a1, c1, by simp [hm, e0], k1, (own_lies own1).lay⟩
end Go.Proofs.YtbfmmndpboagdaaGreatDoor.SN

namespace Go.Proofs.YtbfmmndpboagdaaGreatDoor.SN
open Go.RowKit
attribute [local go_sem ↓] ldQ_named stQ_named lvQ_named bdQ_named bsQ_named apE_named
attribute [local go_sem] Kept.refl Kept.drew Kept.drewN Kept.alloc

def annO (s : Sp) : Fi.Ann := ⟨s.er, s.n, s.v⟩
def ansM (r : Int) (q : List El) (s : Sp) : List Fi.Ann := if pend s then (mayM r q s).filter (fun x => !(x.e != 0)) else [annO s]
def nextM (r : Int) (q : List El) (s : Sp) : List (List El) := (ansM r q s).filterMap (nxM r q s)

structure Caps (w : World) (bM bA rb : Nat) : Prop where
  m : w.cell? ⟨bM, 0, none⟩ = some (.func (.func 63) #[] #[])
  a : w.cell? ⟨bA, 0, none⟩ = some (.func (.func 64) #[] #[])
theorem Caps.kept {w w' : World} {bM bA rb : Nat} (h : Caps w bM bA rb) (k : Kept w w') : Caps w' bM bA rb := ⟨k.some h.m, k.some h.a⟩
abbrev OwnQ (w : World) (base : Nat) (v : Value) (S : List (List El)) : Prop := w.ownsRow base 103 11 v S.length (flatQ S)
def RetQ (w : World) (S : List (List El)) (e : Ending) (w' : World) : Prop := ∃ a c, e = .returned (.slice a S.length c) ∧ Kept w w' ∧ OwnQ w' w.heap.size (.slice a S.length c) S
theorem ref_asks (v : Value) (w : World) : SA.Asks (fun x => x.e != 0) v w := fun W q _ _ => refused_any q.e q.n q.v W

def NxRel (WL : World) (r : Int) (q : List El) (s : Sp) (L : List Fi.Ann) (n : Nat) (l i : Value) (wr : World) : Prop :=
  ∃ k : Nat, k ≤ n ∧ i = .int .i64 k ∧ Kept WL wr ∧ ∃ a c, l = .slice a ((L.take k).filterMap (nxM r q s)).length c ∧ OwnQ wr WL.heap.size (.slice a ((L.take k).filterMap (nxM r q s)).length c) ((L.take k).filterMap (nxM r q s))
set_option maxRecDepth 100000 in
set_option maxHeartbeats 4000000 in
theorem next_any {w : World} {bM bA rb : Nat} {r : Int} (hC : Caps w bM bA rb) (hE : Env rb r w) {q : List El} (hq : Okq q) (s : Sp) (hok : ∀ x ∈ ansM r q s, ∀ p, nxM r q s x = some p → Okq p) (hl : (ansM r q s).length ≤ 10000) :
    Calls Tryz.prog 91 #[.agg (enc q).toArray, .agg #[.int .i64 s.id, .int .i64 s.from_, .int .i64 s.to, .int .i64 s.k, .int .i64 s.x, .int .i64 s.y, .int .u64 s.u, .int .i64 s.er, .int .i64 s.n, .int .u64 s.v], .pointer (some ⟨bM, 0, none⟩), .pointer (some ⟨bA, 0, none⟩)] w (RetQ w (nextM r q s)) := by
  obtain ⟨W0, hW0⟩ : ∃ W0, (w.alloc (.cells (enc q).toArray 103)).alloc (.cells #[.int .i64 s.id, .int .i64 s.from_, .int .i64 s.to, .int .i64 s.k, .int .i64 s.x, .int .i64 s.y, .int .u64 s.u, .int .i64 s.er, .int .i64 s.n, .int .u64 s.v] 29) = W0 := ⟨_, rfl⟩
  have k0 : Kept w W0 := by rw [← hW0]; exact ((Kept.refl w).alloc _ _).alloc _ _
  have rq : W0.rangeAt w.heap.size 0 (enc q) := by
    rw [← hW0]
    have := range_kept (range_new w (enc q).toArray 103 w.heap.size rfl) ((Kept.refl _).alloc #[.int .i64 s.id, .int .i64 s.from_, .int .i64 s.to, .int .i64 s.k, .int .i64 s.x, .int .i64 s.y, .int .u64 s.u, .int .i64 s.er, .int .i64 s.n, .int .u64 s.v] 29)
    simpa using this
  have bs : SpBox W0 (w.heap.size + 1) s := by rw [← hW0]; exact SpBox.at _ s _ _ (by simp)
  have K0 := Lib.hid k0
  have HW := Lib.hid hW0
  have BS := Lib.hid bs
  have CP := Lib.hid (hC.kept k0)
  have HE := Lib.hid hE
  have LQ := Lib.hid (fun (W : World) (K : Kept W0 W) => ldQ_ok hq (range_kept rq K))
  have PE := Lib.hid (fun W => pend_any s W)
  have LI := Lib.hid (fun W => list_any W hq.1)
  have HOK := Lib.hid hok
  have HL := Lib.hid hl
  clear hW0 k0 rq bs hC hE hok hl
  cases hp : pend s with
  | false =>
    rw [hp] at PE
    have HAM := Lib.hid (show ansM r q s = [annO s] by unfold ansM; rw [hp]; rfl)
    obtain ⟨c0, c1, c2, c3, c4, c5, c6, c7, c8, c9⟩ := BS.out
    have lb := lt_of_cell c0
    go_enter Tryz.func91, Tryz.ntmps91
    go_upto_region 1 with fail
    rw [HW.out]
    go_wp2_with fail; refine (PE.out _).mono ?_; rintro e WL ⟨rfl, k1⟩
    have KL := Lib.hid (show Kept W0 WL from ((Kept.refl _).alloc _ _).trans k1)
    obtain ⟨n, hn1⟩ : ∃ n : Nat, n = 1 := ⟨_, rfl⟩
    have HLn := Lib.hid (show n = (ansM r q s).length by rw [HAM.out, hn1]; rfl)
    have HLA := Lib.hid (show Lay WL (.slice (some ⟨W0.heap.size, 0, none⟩) n n) n (SA.flatQ (ansM r q s)) by
      rw [HAM.out, hn1]
      exact (lay_new (heap_alloc_new _ _) (by decide) : Lay (W0.alloc (.cells (SA.flatQ [annO s]).toArray 27)) _ _ _).kept k1)
    clear k1
    go_wp2
    have LA := Lib.hid (fun W (K : Kept WL W) i y hy => SA.st_one (HLA.out.kept K) HLn.out i y hy)
    have CPL := Lib.hid (CP.out.kept KL.out)
    have BSL := Lib.hid (BS.out.kept KL.out)
    have KWL := Lib.hid (K0.out.trans KL.out)
    go_loopw [8, 27] (NxRel WL r q s (ansM r q s) 1) (fun _ i _ => 1 - (intOf i).toNat)
    case atStart => exact ⟨0, Nat.zero_le _, rfl, Kept.refl _, none, 0, by simp, World.ownsRow_nil _ _ _ _⟩
    case round =>
      obtain ⟨k, hkn, rfl, hkr, aS, cS, rfl, hown⟩ := hrel
      have KE := Lib.hid hkr
      have OS := Lib.hid hown
      obtain ⟨SS, hSS⟩ : ∃ SS, ((ansM r q s).take k).filterMap (nxM r q s) = SS := ⟨_, rfl⟩
      have HSS := Lib.hid hSS
      rw [hSS] at OS ⊢
      clear hkr hown hSS
      by_cases hlt : k < n
      · obtain ⟨y, hy⟩ : ∃ y, (ansM r q s)[k]? = some y := ⟨_, List.getElem?_eq_getElem (by rw [← HLn.out]; omega)⟩
        obtain ⟨g, o, hgo, hat⟩ := LA.out _ KE.out k y hy
        cases hgo
        have ym := Lib.hid (List.mem_of_getElem? hy)
        have HT := Lib.hid (show (ansM r q s).take (k + 1) = (ansM r q s).take k ++ [y] by rw [List.take_add_one, hy]; rfl)
        obtain ⟨y0, y1, y2⟩ := SA.cells3 hat
        try rw [Nat.zero_add] at y0 y1 y2
        have K1 := Lib.hid (show Kept WL (wr.alloc (.cells #[.int .i64 y.e, .int .i64 y.n, .int .u64 y.v] 27)) from KE.out.alloc _ _)
        obtain ⟨Wa, hWa⟩ : ∃ Wa, wr.alloc (.cells #[.int .i64 y.e, .int .i64 y.n, .int .u64 y.v] 27) = Wa := ⟨_, rfl⟩
        have a0 : Wa.cell? ⟨wr.heap.size, 0, none⟩ = some (.int .i64 y.e) := by rw [← hWa]; exact cell_new _ _ _ _ 0 rfl
        have a1 : Wa.cell? ⟨wr.heap.size, 1, none⟩ = some (.int .i64 y.n) := by rw [← hWa]; exact cell_new _ _ _ _ 1 rfl
        have a2 : Wa.cell? ⟨wr.heap.size, 2, none⟩ = some (.int .u64 y.v) := by rw [← hWa]; exact cell_new _ _ _ _ 2 rfl
        have OSa := Lib.hid (show OwnQ Wa WL.heap.size (.slice aS SS.length cS) SS by rw [← hWa]; exact own_kept OS.out ((Kept.refl _).alloc _ _))
        have HWa := Lib.hid hWa
        rw [hWa] at K1
        have PK := Lib.hid (fun W (K : Kept Wa W) => show W.cell? ⟨bA, 0, none⟩ = some (.func (.func 64) #[] #[]) ∧ (ldQ (.pointer (some ⟨w.heap.size, 0, none⟩))).run Tryz.prog W = .ok (.agg (enc q).toArray) W ∧ W.cell? ⟨wr.heap.size, 0, none⟩ = some (.int .i64 y.e) ∧ W.cell? ⟨wr.heap.size, 1, none⟩ = some (.int .i64 y.n) ∧ W.cell? ⟨wr.heap.size, 2, none⟩ = some (.int .u64 y.v) ∧
            W.cell? ⟨w.heap.size + 1, 3, none⟩ = some (.int .i64 s.k) ∧ W.cell? ⟨w.heap.size + 1, 4, none⟩ = some (.int .i64 s.x) ∧ W.cell? ⟨w.heap.size + 1, 5, none⟩ = some (.int .i64 s.y) ∧ W.cell? ⟨w.heap.size + 1, 6, none⟩ = some (.int .u64 s.u) by
          have b := (BSL.out.kept K1.out).kept K
          exact ⟨((CPL.out.kept K1.out).kept K).a, LQ.out _ ((KL.out.trans K1.out).trans K), K.some a0, K.some a1, K.some a2, b.c3, b.c4, b.c5, b.c6⟩)
        clear hy hat a0 a1 a2 hWa
        go_upto_region 8 with fail
        rw [HWa.out]
        obtain ⟨pk0, pk1, pk2, pk3, pk4, pk5, pk6, pk7, pk8⟩ := PK.out Wa (Kept.refl _)
        have NX := Lib.hid (fun W a n c (E : Env rb r W) (hl : Lay W (.slice a n c) n (tcs q)) hn => nx_any E s y hl hn)
        cases hp2 : nxM r q s y with
        | none =>
          have HS2 := Lib.hid (show ((ansM r q s).take (k + 1)).filterMap (nxM r q s) = SS by rw [HT.out, List.filterMap_append, HSS.out]; simp [hp2])
          rw [hp2] at NX
          clear hp2
          go_region_held3 (fun w' => w'.cell? ⟨bA, 0, none⟩ = some (.func (.func 64) #[] #[]) ∧ (ldQ (.pointer (some ⟨w.heap.size, 0, none⟩))).run Tryz.prog w' = .ok (.agg (enc q).toArray) w' ∧ w'.cell? ⟨wr.heap.size, 0, none⟩ = some (.int .i64 y.e) ∧ w'.cell? ⟨wr.heap.size, 1, none⟩ = some (.int .i64 y.n) ∧ w'.cell? ⟨wr.heap.size, 2, none⟩ = some (.int .u64 y.v) ∧
            w'.cell? ⟨w.heap.size + 1, 3, none⟩ = some (.int .i64 s.k) ∧ w'.cell? ⟨w.heap.size + 1, 4, none⟩ = some (.int .i64 s.x) ∧ w'.cell? ⟨w.heap.size + 1, 5, none⟩ = some (.int .i64 s.y) ∧ w'.cell? ⟨w.heap.size + 1, 6, none⟩ = some (.int .u64 s.u))
            (first | (with_reducible exact PK.out _ (KT.trans (by repeat (first | (with_reducible exact Kept.refl _) | (with_reducible assumption) | (with_reducible refine Kept.drew ?_) | (with_reducible refine Kept.drewN ?_ _))))) | (with_reducible exact PK.out _ (by repeat (first | (with_reducible exact Kept.refl _) | (with_reducible assumption) | (with_reducible refine Kept.drew ?_) | (with_reducible refine Kept.drewN ?_ _)))))
            (first
              | (go_at_call 92; refine (LI.out _).mono ?_; rintro e v1 ⟨a1, c1, rfl, kv1, l1⟩; have KT : Kept Wa v1 := Kept.trans (by repeat (first | (with_reducible exact Kept.refl _) | (with_reducible assumption) | (with_reducible refine Kept.drew ?_) | (with_reducible refine Kept.drewN ?_ _))) kv1; have L1 := Lib.hid l1; clear l1 kv1)
              | (go_at_call 64; refine (NX.out _ _ _ _ (HE.out.kept (KWL.out.trans (K1.out.trans (KT.trans (by repeat (first | (with_reducible exact Kept.refl _) | (with_reducible assumption) | (with_reducible refine Kept.drew ?_) | (with_reducible refine Kept.drewN ?_ _))))))) (L1.out.kept (by repeat (first | (with_reducible exact Kept.refl _) | (with_reducible assumption) | (with_reducible refine Kept.drew ?_) | (with_reducible refine Kept.drewN ?_ _)))) rfl).mono ?_; rintro e v2 ⟨a2, c2, rfl, kv2, l2⟩; have KT := KT.trans (Kept.trans (by repeat (first | (with_reducible exact Kept.refl _) | (with_reducible assumption) | (with_reducible refine Kept.drew ?_) | (with_reducible refine Kept.drewN ?_ _))) kv2); have L2 := Lib.hid l2; clear l2 kv2))
          go_wp2
          go_roundw
          case rel => exact ⟨k + 1, by omega, by go_num, K1.out.trans KT, aS, cS, by rw [HS2.out], by rw [HS2.out]; exact own_kept OSa.out KT⟩
          case measure => simp [intOf]; omega
        | some p =>
          have okp : Okq p := HOK.out y ym.out p hp2
          have HS2 := Lib.hid (show ((ansM r q s).take (k + 1)).filterMap (nxM r q s) = SS ++ [p] by rw [HT.out, List.filterMap_append, HSS.out]; simp [hp2])
          have SO := Lib.hid (fun W a c (hl : Lay W (.slice a p.length c) p.length (tcs p)) => stateOf_any hl rfl okp.1)
          have BQ := fun W => bsQ_run okp.1 W
          have SSl := Lib.hid (show SS.length ≤ 10000 by rw [← HSS.out]; exact Nat.le_trans (List.length_filterMap_le ..) (Nat.le_trans (List.length_take_le' ..) HL.out))
          rw [hp2] at NX
          clear hp2
          go_region_held3 (fun w' => w'.cell? ⟨bA, 0, none⟩ = some (.func (.func 64) #[] #[]) ∧ (ldQ (.pointer (some ⟨w.heap.size, 0, none⟩))).run Tryz.prog w' = .ok (.agg (enc q).toArray) w' ∧ w'.cell? ⟨wr.heap.size, 0, none⟩ = some (.int .i64 y.e) ∧ w'.cell? ⟨wr.heap.size, 1, none⟩ = some (.int .i64 y.n) ∧ w'.cell? ⟨wr.heap.size, 2, none⟩ = some (.int .u64 y.v) ∧
            w'.cell? ⟨w.heap.size + 1, 3, none⟩ = some (.int .i64 s.k) ∧ w'.cell? ⟨w.heap.size + 1, 4, none⟩ = some (.int .i64 s.x) ∧ w'.cell? ⟨w.heap.size + 1, 5, none⟩ = some (.int .i64 s.y) ∧ w'.cell? ⟨w.heap.size + 1, 6, none⟩ = some (.int .u64 s.u))
            (first | (with_reducible exact PK.out _ (KT.trans (by repeat (first | (with_reducible exact Kept.refl _) | (with_reducible assumption) | (with_reducible refine Kept.drew ?_) | (with_reducible refine Kept.drewN ?_ _))))) | (with_reducible exact PK.out _ (by repeat (first | (with_reducible exact Kept.refl _) | (with_reducible assumption) | (with_reducible refine Kept.drew ?_) | (with_reducible refine Kept.drewN ?_ _)))))
            (first
              | (go_at_call 92; refine (LI.out _).mono ?_; rintro e v1 ⟨a1, c1, rfl, kv1, l1⟩; have KT : Kept Wa v1 := Kept.trans (by repeat (first | (with_reducible exact Kept.refl _) | (with_reducible assumption) | (with_reducible refine Kept.drew ?_) | (with_reducible refine Kept.drewN ?_ _))) kv1; have L1 := Lib.hid l1; clear l1 kv1)
              | (go_at_call 64; refine (NX.out _ _ _ _ (HE.out.kept (KWL.out.trans (K1.out.trans (KT.trans (by repeat (first | (with_reducible exact Kept.refl _) | (with_reducible assumption) | (with_reducible refine Kept.drew ?_) | (with_reducible refine Kept.drewN ?_ _))))))) (L1.out.kept (by repeat (first | (with_reducible exact Kept.refl _) | (with_reducible assumption) | (with_reducible refine Kept.drew ?_) | (with_reducible refine Kept.drewN ?_ _)))) rfl).mono ?_; rintro e v2 ⟨a2, c2, rfl, kv2, l2⟩; have KT := KT.trans (Kept.trans (by repeat (first | (with_reducible exact Kept.refl _) | (with_reducible assumption) | (with_reducible refine Kept.drew ?_) | (with_reducible refine Kept.drewN ?_ _))) kv2); have L2 := Lib.hid l2; clear l2 kv2))
          go_wp2_with fail; refine (SO.out _ _ _ L2.out).mono ?_; rintro e v3 ⟨rfl, kv3⟩
          have KT3 := Lib.hid (KT.trans kv3)
          obtain ⟨i0, hi0, hz0, hz1, hz2⟩ := info_parts infoQ
          obtain ⟨a4, c4, v4, run4, own4, but4, _⟩ := push_any (W := v3) (m := 1) (R := enc p) Tryz.underlying160 hi0 hz0 hz1 hz2 (by simp [Value.cells, enc_len]) (by decide) (by decide) (own_kept OSa.out KT3.out) (by have := K1.out.size; have := KT3.out.size; omega) (by rw [enc_len]) (enc_one p) (by have := SSl.out; omega) (by decide)
          have AP : (apE #[160, 160] 160 #[.slice aS SS.length cS, .slice (some ⟨v3.heap.size, 0, none⟩) 1 1]).run Tryz.prog (v3.alloc (.cells (enc p).toArray 103)) = .ok (.slice a4 (SS.length + 1) c4) v4 := run4
          have KV4 := Lib.hid (show Kept WL v4 from ((K1.out.trans KT3.out)).put but4 fun j e => (OSa.out.lt j e).1)
          have O4 := Lib.hid own4
          clear run4 own4 but4 kv3
          go_wp2
          go_roundw
          case rel =>
            refine ⟨k + 1, by omega, by go_num, KV4.out, a4, c4, by rw [HS2.out]; simp, ?_⟩
            rw [HS2.out]
            unfold OwnQ
            rw [flatQ_snoc, List.length_append]
            exact O4.out
          case measure => simp [intOf]; omega
      · obtain rfl : k = n := by omega
        have HF := Lib.hid (show SS = nextM r q s by rw [← HSS.out, HLn.out, List.take_length]; rfl)
        go_wp2
        go_ret
        rw [← HF.out]
        exact ⟨aS, cS, rfl, KWL.out.trans KE.out, own_mono OS.out KWL.out.size⟩
  | true =>
    rw [hp] at PE
    have HAM := Lib.hid (show ansM r q s = (mayM r q s).filter (fun x => !(x.e != 0)) by unfold ansM; rw [hp]; rfl)
    obtain ⟨c0, c1, c2, c3, c4, c5, c6, c7, c8, c9⟩ := BS.out
    have lb := lt_of_cell c0
    go_enter Tryz.func91, Tryz.ntmps91
    go_upto_region 1 with fail
    rw [HW.out]
    go_wp2_with fail; refine (PE.out _).mono ?_; rintro e w1 ⟨rfl, k1⟩
    have K1 := Lib.hid (show Kept W0 w1 from ((Kept.refl _).alloc _ _).trans k1)
    have PK3 := Lib.hid (fun W (K : Kept w1 W) => show W.cell? ⟨bM, 0, none⟩ = some (.func (.func 63) #[] #[]) ∧ (ldQ (.pointer (some ⟨w.heap.size, 0, none⟩))).run Tryz.prog W = .ok (.agg (enc q).toArray) W ∧
        W.cell? ⟨w.heap.size + 1, 3, none⟩ = some (.int .i64 s.k) ∧ W.cell? ⟨w.heap.size + 1, 4, none⟩ = some (.int .i64 s.x) ∧ W.cell? ⟨w.heap.size + 1, 5, none⟩ = some (.int .i64 s.y) ∧ W.cell? ⟨w.heap.size + 1, 6, none⟩ = some (.int .u64 s.u) by
      have b := (BS.out.kept K1.out).kept K
      exact ⟨((CP.out.kept K1.out).kept K).m, LQ.out _ (K1.out.trans K), b.c3, b.c4, b.c5, b.c6⟩)
    clear k1 c0 c1 c2 c3 c4 c5 c6 c7 c8 c9 lb
    obtain ⟨pm0, pm1, pm2, pm3, pm4, pm5⟩ := PK3.out w1 (Kept.refl _)
    go_wp2
    go_region_held3 (fun w' => w'.cell? ⟨bM, 0, none⟩ = some (.func (.func 63) #[] #[]) ∧ (ldQ (.pointer (some ⟨w.heap.size, 0, none⟩))).run Tryz.prog w' = .ok (.agg (enc q).toArray) w' ∧
        w'.cell? ⟨w.heap.size + 1, 3, none⟩ = some (.int .i64 s.k) ∧ w'.cell? ⟨w.heap.size + 1, 4, none⟩ = some (.int .i64 s.x) ∧ w'.cell? ⟨w.heap.size + 1, 5, none⟩ = some (.int .i64 s.y) ∧ w'.cell? ⟨w.heap.size + 1, 6, none⟩ = some (.int .u64 s.u))
      (first | (with_reducible exact PK3.out _ (KT.trans (by repeat (first | (with_reducible exact Kept.refl _) | (with_reducible assumption) | (with_reducible refine Kept.drew ?_) | (with_reducible refine Kept.drewN ?_ _))))) | (with_reducible exact PK3.out _ (by repeat (first | (with_reducible exact Kept.refl _) | (with_reducible assumption) | (with_reducible refine Kept.drew ?_) | (with_reducible refine Kept.drewN ?_ _)))))
      (first
        | (go_at_call 92; refine (LI.out _).mono ?_; rintro e v1 ⟨a1, c1, rfl, kv1, l1⟩; have KT : Kept w1 v1 := Kept.trans (by repeat (first | (with_reducible exact Kept.refl _) | (with_reducible assumption) | (with_reducible refine Kept.drew ?_) | (with_reducible refine Kept.drewN ?_ _))) kv1; have L1 := Lib.hid l1; clear l1 kv1)
        | (go_at_call 63; refine (may_any (HE.out.kept (K0.out.trans (K1.out.trans (KT.trans (by repeat (first | (with_reducible exact Kept.refl _) | (with_reducible assumption) | (with_reducible refine Kept.drew ?_) | (with_reducible refine Kept.drewN ?_ _))))))) s (L1.out.kept (by repeat (first | (with_reducible exact Kept.refl _) | (with_reducible assumption) | (with_reducible refine Kept.drew ?_) | (with_reducible refine Kept.drewN ?_ _)))) rfl).mono ?_; rintro e v2 ⟨a2, c2, rfl, kv2, o2⟩; have KT2 := Lib.hid KT; have KT := KT.trans (Kept.trans (by repeat (first | (with_reducible exact Kept.refl _) | (with_reducible assumption) | (with_reducible refine Kept.drew ?_) | (with_reducible refine Kept.drewN ?_ _))) kv2); have O2 := Lib.hid (own_mono o2 (Nat.le_trans KT2.out.size (Kept.size (by repeat (first | (with_reducible exact Kept.refl _) | (with_reducible assumption) | (with_reducible refine Kept.drew ?_) | (with_reducible refine Kept.drewN ?_ _)))))); clear o2 kv2)
        | (go_at_call 79; refine (SA.deleteFunc_any O2.out rfl KT.size (fun _ _ => trivial) (ref_asks _ _)).mono ?_; rintro e v3 ⟨a3, c3, rfl, b3, o3⟩; have KT := push_kept KT O2.out b3; have O3 := Lib.hid o3; clear b3 o3))
    have KL := Lib.hid (K1.out.trans KT)
    obtain ⟨WL, hWL⟩ : ∃ WL, WL = v3 := ⟨_, rfl⟩
    subst hWL
    rw [← HAM.out] at O3 ⊢
    obtain ⟨n, hn1⟩ : ∃ n : Nat, n = (ansM r q s).length := ⟨_, rfl⟩
    have HLn := Lib.hid hn1
    rw [← hn1] at O3 ⊢
    have HLA := Lib.hid (own_lies O3.out).lay
    have h9 : n ≤ 10000 := by rw [hn1]; exact HL.out
    clear hn1
    go_wp2
    have LA := Lib.hid (fun W (K : Kept WL W) i y hy => SA.st_one (HLA.out.kept K) HLn.out i y hy)
    have CPL := Lib.hid (CP.out.kept KL.out)
    have BSL := Lib.hid (BS.out.kept KL.out)
    have KWL := Lib.hid (K0.out.trans KL.out)
    go_loopw [8, 27] (NxRel WL r q s (ansM r q s) n) (fun _ i _ => n - (intOf i).toNat)
    case atStart => exact ⟨0, Nat.zero_le _, rfl, Kept.refl _, none, 0, by simp, World.ownsRow_nil _ _ _ _⟩
    case round =>
      obtain ⟨k, hkn, rfl, hkr, aS, cS, rfl, hown⟩ := hrel
      have KE := Lib.hid hkr
      have OS := Lib.hid hown
      obtain ⟨SS, hSS⟩ : ∃ SS, ((ansM r q s).take k).filterMap (nxM r q s) = SS := ⟨_, rfl⟩
      have HSS := Lib.hid hSS
      rw [hSS] at OS ⊢
      clear hkr hown hSS
      by_cases hlt : k < n
      · obtain ⟨y, hy⟩ : ∃ y, (ansM r q s)[k]? = some y := ⟨_, List.getElem?_eq_getElem (by rw [← HLn.out]; omega)⟩
        obtain ⟨g, o, hgo, hat⟩ := LA.out _ KE.out k y hy
        cases hgo
        have ym := Lib.hid (List.mem_of_getElem? hy)
        have HT := Lib.hid (show (ansM r q s).take (k + 1) = (ansM r q s).take k ++ [y] by rw [List.take_add_one, hy]; rfl)
        obtain ⟨y0, y1, y2⟩ := SA.cells3 hat
        try rw [Nat.zero_add] at y0 y1 y2
        have K1 := Lib.hid (show Kept WL (wr.alloc (.cells #[.int .i64 y.e, .int .i64 y.n, .int .u64 y.v] 27)) from KE.out.alloc _ _)
        obtain ⟨Wa, hWa⟩ : ∃ Wa, wr.alloc (.cells #[.int .i64 y.e, .int .i64 y.n, .int .u64 y.v] 27) = Wa := ⟨_, rfl⟩
        have a0 : Wa.cell? ⟨wr.heap.size, 0, none⟩ = some (.int .i64 y.e) := by rw [← hWa]; exact cell_new _ _ _ _ 0 rfl
        have a1 : Wa.cell? ⟨wr.heap.size, 1, none⟩ = some (.int .i64 y.n) := by rw [← hWa]; exact cell_new _ _ _ _ 1 rfl
        have a2 : Wa.cell? ⟨wr.heap.size, 2, none⟩ = some (.int .u64 y.v) := by rw [← hWa]; exact cell_new _ _ _ _ 2 rfl
        have OSa := Lib.hid (show OwnQ Wa WL.heap.size (.slice aS SS.length cS) SS by rw [← hWa]; exact own_kept OS.out ((Kept.refl _).alloc _ _))
        have HWa := Lib.hid hWa
        rw [hWa] at K1
        have PK := Lib.hid (fun W (K : Kept Wa W) => show W.cell? ⟨bA, 0, none⟩ = some (.func (.func 64) #[] #[]) ∧ (ldQ (.pointer (some ⟨w.heap.size, 0, none⟩))).run Tryz.prog W = .ok (.agg (enc q).toArray) W ∧ W.cell? ⟨wr.heap.size, 0, none⟩ = some (.int .i64 y.e) ∧ W.cell? ⟨wr.heap.size, 1, none⟩ = some (.int .i64 y.n) ∧ W.cell? ⟨wr.heap.size, 2, none⟩ = some (.int .u64 y.v) ∧
            W.cell? ⟨w.heap.size + 1, 3, none⟩ = some (.int .i64 s.k) ∧ W.cell? ⟨w.heap.size + 1, 4, none⟩ = some (.int .i64 s.x) ∧ W.cell? ⟨w.heap.size + 1, 5, none⟩ = some (.int .i64 s.y) ∧ W.cell? ⟨w.heap.size + 1, 6, none⟩ = some (.int .u64 s.u) by
          have b := (BSL.out.kept K1.out).kept K
          exact ⟨((CPL.out.kept K1.out).kept K).a, LQ.out _ ((KL.out.trans K1.out).trans K), K.some a0, K.some a1, K.some a2, b.c3, b.c4, b.c5, b.c6⟩)
        clear hy hat a0 a1 a2 hWa
        go_upto_region 8 with fail
        rw [HWa.out]
        obtain ⟨pk0, pk1, pk2, pk3, pk4, pk5, pk6, pk7, pk8⟩ := PK.out Wa (Kept.refl _)
        have NX := Lib.hid (fun W a n c (E : Env rb r W) (hl : Lay W (.slice a n c) n (tcs q)) hn => nx_any E s y hl hn)
        cases hp2 : nxM r q s y with
        | none =>
          have HS2 := Lib.hid (show ((ansM r q s).take (k + 1)).filterMap (nxM r q s) = SS by rw [HT.out, List.filterMap_append, HSS.out]; simp [hp2])
          rw [hp2] at NX
          clear hp2
          go_region_held3 (fun w' => w'.cell? ⟨bA, 0, none⟩ = some (.func (.func 64) #[] #[]) ∧ (ldQ (.pointer (some ⟨w.heap.size, 0, none⟩))).run Tryz.prog w' = .ok (.agg (enc q).toArray) w' ∧ w'.cell? ⟨wr.heap.size, 0, none⟩ = some (.int .i64 y.e) ∧ w'.cell? ⟨wr.heap.size, 1, none⟩ = some (.int .i64 y.n) ∧ w'.cell? ⟨wr.heap.size, 2, none⟩ = some (.int .u64 y.v) ∧
            w'.cell? ⟨w.heap.size + 1, 3, none⟩ = some (.int .i64 s.k) ∧ w'.cell? ⟨w.heap.size + 1, 4, none⟩ = some (.int .i64 s.x) ∧ w'.cell? ⟨w.heap.size + 1, 5, none⟩ = some (.int .i64 s.y) ∧ w'.cell? ⟨w.heap.size + 1, 6, none⟩ = some (.int .u64 s.u))
            (first | (with_reducible exact PK.out _ (KT.trans (by repeat (first | (with_reducible exact Kept.refl _) | (with_reducible assumption) | (with_reducible refine Kept.drew ?_) | (with_reducible refine Kept.drewN ?_ _))))) | (with_reducible exact PK.out _ (by repeat (first | (with_reducible exact Kept.refl _) | (with_reducible assumption) | (with_reducible refine Kept.drew ?_) | (with_reducible refine Kept.drewN ?_ _)))))
            (first
              | (go_at_call 92; refine (LI.out _).mono ?_; rintro e v1 ⟨a1, c1, rfl, kv1, l1⟩; have KT : Kept Wa v1 := Kept.trans (by repeat (first | (with_reducible exact Kept.refl _) | (with_reducible assumption) | (with_reducible refine Kept.drew ?_) | (with_reducible refine Kept.drewN ?_ _))) kv1; have L1 := Lib.hid l1; clear l1 kv1)
              | (go_at_call 64; refine (NX.out _ _ _ _ (HE.out.kept (KWL.out.trans (K1.out.trans (KT.trans (by repeat (first | (with_reducible exact Kept.refl _) | (with_reducible assumption) | (with_reducible refine Kept.drew ?_) | (with_reducible refine Kept.drewN ?_ _))))))) (L1.out.kept (by repeat (first | (with_reducible exact Kept.refl _) | (with_reducible assumption) | (with_reducible refine Kept.drew ?_) | (with_reducible refine Kept.drewN ?_ _)))) rfl).mono ?_; rintro e v2 ⟨a2, c2, rfl, kv2, l2⟩; have KT := KT.trans (Kept.trans (by repeat (first | (with_reducible exact Kept.refl _) | (with_reducible assumption) | (with_reducible refine Kept.drew ?_) | (with_reducible refine Kept.drewN ?_ _))) kv2); have L2 := Lib.hid l2; clear l2 kv2))
          go_wp2
          go_roundw
          case rel => exact ⟨k + 1, by omega, by go_num, K1.out.trans KT, aS, cS, by rw [HS2.out], by rw [HS2.out]; exact own_kept OSa.out KT⟩
          case measure => simp [intOf]; omega
        | some p =>
          have okp : Okq p := HOK.out y ym.out p hp2
          have HS2 := Lib.hid (show ((ansM r q s).take (k + 1)).filterMap (nxM r q s) = SS ++ [p] by rw [HT.out, List.filterMap_append, HSS.out]; simp [hp2])
          have SO := Lib.hid (fun W a c (hl : Lay W (.slice a p.length c) p.length (tcs p)) => stateOf_any hl rfl okp.1)
          have BQ := fun W => bsQ_run okp.1 W
          have SSl := Lib.hid (show SS.length ≤ 10000 by rw [← HSS.out]; exact Nat.le_trans (List.length_filterMap_le ..) (Nat.le_trans (List.length_take_le' ..) HL.out))
          rw [hp2] at NX
          clear hp2
          go_region_held3 (fun w' => w'.cell? ⟨bA, 0, none⟩ = some (.func (.func 64) #[] #[]) ∧ (ldQ (.pointer (some ⟨w.heap.size, 0, none⟩))).run Tryz.prog w' = .ok (.agg (enc q).toArray) w' ∧ w'.cell? ⟨wr.heap.size, 0, none⟩ = some (.int .i64 y.e) ∧ w'.cell? ⟨wr.heap.size, 1, none⟩ = some (.int .i64 y.n) ∧ w'.cell? ⟨wr.heap.size, 2, none⟩ = some (.int .u64 y.v) ∧
            w'.cell? ⟨w.heap.size + 1, 3, none⟩ = some (.int .i64 s.k) ∧ w'.cell? ⟨w.heap.size + 1, 4, none⟩ = some (.int .i64 s.x) ∧ w'.cell? ⟨w.heap.size + 1, 5, none⟩ = some (.int .i64 s.y) ∧ w'.cell? ⟨w.heap.size + 1, 6, none⟩ = some (.int .u64 s.u))
            (first | (with_reducible exact PK.out _ (KT.trans (by repeat (first | (with_reducible exact Kept.refl _) | (with_reducible assumption) | (with_reducible refine Kept.drew ?_) | (with_reducible refine Kept.drewN ?_ _))))) | (with_reducible exact PK.out _ (by repeat (first | (with_reducible exact Kept.refl _) | (with_reducible assumption) | (with_reducible refine Kept.drew ?_) | (with_reducible refine Kept.drewN ?_ _)))))
            (first
              | (go_at_call 92; refine (LI.out _).mono ?_; rintro e v1 ⟨a1, c1, rfl, kv1, l1⟩; have KT : Kept Wa v1 := Kept.trans (by repeat (first | (with_reducible exact Kept.refl _) | (with_reducible assumption) | (with_reducible refine Kept.drew ?_) | (with_reducible refine Kept.drewN ?_ _))) kv1; have L1 := Lib.hid l1; clear l1 kv1)
              | (go_at_call 64; refine (NX.out _ _ _ _ (HE.out.kept (KWL.out.trans (K1.out.trans (KT.trans (by repeat (first | (with_reducible exact Kept.refl _) | (with_reducible assumption) | (with_reducible refine Kept.drew ?_) | (with_reducible refine Kept.drewN ?_ _))))))) (L1.out.kept (by repeat (first | (with_reducible exact Kept.refl _) | (with_reducible assumption) | (with_reducible refine Kept.drew ?_) | (with_reducible refine Kept.drewN ?_ _)))) rfl).mono ?_; rintro e v2 ⟨a2, c2, rfl, kv2, l2⟩; have KT := KT.trans (Kept.trans (by repeat (first | (with_reducible exact Kept.refl _) | (with_reducible assumption) | (with_reducible refine Kept.drew ?_) | (with_reducible refine Kept.drewN ?_ _))) kv2); have L2 := Lib.hid l2; clear l2 kv2))
          go_wp2_with fail; refine (SO.out _ _ _ L2.out).mono ?_; rintro e v3 ⟨rfl, kv3⟩
          have KT3 := Lib.hid (KT.trans kv3)
          obtain ⟨i0, hi0, hz0, hz1, hz2⟩ := info_parts infoQ
          obtain ⟨a4, c4, v4, run4, own4, but4, _⟩ := push_any (W := v3) (m := 1) (R := enc p) Tryz.underlying160 hi0 hz0 hz1 hz2 (by simp [Value.cells, enc_len]) (by decide) (by decide) (own_kept OSa.out KT3.out) (by have := K1.out.size; have := KT3.out.size; omega) (by rw [enc_len]) (enc_one p) (by have := SSl.out; omega) (by decide)
          have AP : (apE #[160, 160] 160 #[.slice aS SS.length cS, .slice (some ⟨v3.heap.size, 0, none⟩) 1 1]).run Tryz.prog (v3.alloc (.cells (enc p).toArray 103)) = .ok (.slice a4 (SS.length + 1) c4) v4 := run4
          have KV4 := Lib.hid (show Kept WL v4 from ((K1.out.trans KT3.out)).put but4 fun j e => (OSa.out.lt j e).1)
          have O4 := Lib.hid own4
          clear run4 own4 but4 kv3
          go_wp2
          go_roundw
          case rel =>
            refine ⟨k + 1, by omega, by go_num, KV4.out, a4, c4, by rw [HS2.out]; simp, ?_⟩
            rw [HS2.out]
            unfold OwnQ
            rw [flatQ_snoc, List.length_append]
            exact O4.out
          case measure => simp [intOf]; omega
      · obtain rfl : k = n := by omega
        have HF := Lib.hid (show SS = nextM r q s by rw [← HSS.out, HLn.out, List.take_length]; rfl)
        go_wp2
        go_ret
        rw [← HF.out]
        exact ⟨aS, cS, rfl, KWL.out.trans KE.out, own_mono OS.out KWL.out.size⟩
end Go.Proofs.YtbfmmndpboagdaaGreatDoor.SN

namespace Go.Proofs.YtbfmmndpboagdaaGreatDoor.SN
open Go.RowKit
attribute [local go_sem ↓] ldS_named ldQ_named stQ_named bsQ_named apE_named
attribute [local go_sem] Kept.refl Kept.drew Kept.drewN Kept.alloc

structure Srch (w : World) (bM bA rb : Nat) (l : List Sp) (sa : Option Addr) (sn sc : Nat) (A : Nat → Nat) (m : Nat) : Prop where
  caps : Caps w bM bA rb
  calls : Lay w (.slice sa sn sc) sn (flatS l)
  len : sn = l.length
  few : l.length ≤ 10
  ahead : ∀ i c, l[i]? = some c → ∀ j, (A i).testBit j = (match l[j]? with | some s => j != i && ahd s c | none => false)
  aheadB : ∀ i, i < 10 → A i < 65536
  ans : ∀ j, m.testBit j = (match l[j]? with | some s => !pend s | none => false)
  ansB : m < 65536
theorem Srch.kept {w w' : World} {bM bA rb : Nat} {l : List Sp} {sa : Option Addr} {sn sc : Nat} {A : Nat → Nat} {m : Nat} (h : Srch w bM bA rb l sa sn sc A m) (k : Kept w w') : Srch w' bM bA rb l sa sn sc A m :=
  ⟨h.caps.kept k, h.calls.kept k, h.len, h.few, h.ahead, h.aheadB, h.ans, h.ansB⟩
abbrev fnN (bM bA : Nat) : Value := .func (.func 91) #[] #[.pointer (some ⟨bM, 0, none⟩), .pointer (some ⟨bA, 0, none⟩)]
abbrev sV (q0 : List El) (bM bA : Nat) (sa : Option Addr) (sn sc : Nat) (A : Nat → Nat) (m : Nat) : Array Value := srchA (enc q0) (fnN bM bA) (.slice sa sn sc) A m

structure SBox (w : World) (b : Nat) (q0 : List El) (bM bA : Nat) (sa : Option Addr) (sn sc : Nat) (A : Nat → Nat) (m : Nat) : Prop where
  all : w.rangeAt b 0 (srchL (enc q0) (fnN bM bA) (.slice sa sn sc) A m)
section
variable {w w' : World} {b : Nat} {q0 : List El} {bM bA : Nat} {sa : Option Addr} {sn sc : Nat} {A : Nat → Nat} {m : Nat}
theorem SBox.kept (h : SBox w b q0 bM bA sa sn sc A m) (k : Kept w w') : SBox w' b q0 bM bA sa sn sc A m := ⟨range_kept h.all k⟩
theorem SBox.but {S : Nat → Prop} (h : SBox w b q0 bM bA sa sn sc A m) (k : But S w w') (hS : ¬ S b) : SBox w' b q0 bM bA sa sn sc A m := ⟨fun j v hv => k.some (h.all j v hv) hS⟩
theorem SBox.new (w : World) (t : TypeId) (hb : b = w.heap.size) : SBox (w.alloc (.cells (sV q0 bM bA sa sn sc A m) t)) b q0 bM bA sa sn sc A m := ⟨by have := range_new w (sV q0 bM bA sa sn sc A m) t b hb; simpa [srchA] using this⟩
theorem SBox.first (h : SBox w b q0 bM bA sa sn sc A m) (hq : Okq q0) : (ldQ (.pointer (some ⟨b, 0, none⟩))).run Tryz.prog w = .ok (.agg (enc q0).toArray) w :=
  ldQ_ok hq fun j v hv => h.all j v (by unfold srchL; rw [List.getElem?_append_left (List.getElem?_eq_some_iff.1 hv).1]; exact hv)
theorem SBox.past (h : SBox w b q0 bM bA sa sn sc A m) (i : Nat) (v : Value) (hv : ([fnN bM bA, .slice sa sn sc, .int .u16 (A 0), .int .u16 (A 1), .int .u16 (A 2), .int .u16 (A 3), .int .u16 (A 4), .int .u16 (A 5), .int .u16 (A 6), .int .u16 (A 7), .int .u16 (A 8), .int .u16 (A 9), .int .u16 m] : List Value)[i]? = some v) : w.cell? ⟨b, 11 + i, none⟩ = some v := by
  have := h.all (11 + i) v (by unfold srchL; rw [List.getElem?_append_right (by rw [enc_len]; omega), enc_len, Nat.add_sub_cancel_left]; exact hv)
  rwa [Nat.zero_add] at this
theorem SBox.fn (h : SBox w b q0 bM bA sa sn sc A m) : w.cell? ⟨b, 11, none⟩ = some (fnN bM bA) := h.past 0 _ rfl
theorem SBox.calls (h : SBox w b q0 bM bA sa sn sc A m) : w.cell? ⟨b, 12, none⟩ = some (.slice sa sn sc) := h.past 1 _ rfl
theorem SBox.ahead (h : SBox w b q0 bM bA sa sn sc A m) (i : Nat) (hi : i < 10) : w.cell? ⟨b, 13 + i, none⟩ = some (.int .u16 (A i)) := by
  have := h.past (2 + i) (.int .u16 (A i)) (by
    match i, hi with
    | 0, _ => rfl
    | 1, _ => rfl
    | 2, _ => rfl
    | 3, _ => rfl
    | 4, _ => rfl
    | 5, _ => rfl
    | 6, _ => rfl
    | 7, _ => rfl
    | 8, _ => rfl
    | 9, _ => rfl)
  rw [← Nat.add_assoc] at this
  exact this
theorem SBox.done (h : SBox w b q0 bM bA sa sn sc A m) : w.cell? ⟨b, 23, none⟩ = some (.int .u16 m) := h.past 12 _ rfl
end

theorem rdy_asked {w : World} {bM bA rb : Nat} {l : List Sp} {sa : Option Addr} {sn sc : Nat} {A : Nat → Nat} {m : Nat} (h : Srch w bM bA rb l sa sn sc A m) {D i : Nat} {c : Sp} (hD : D < 65536) (hc : l[i]? = some c) : rdy l D i = (!D.testBit i && subB D (A i)) := by
  have hi : i < 10 := by have := (List.getElem?_eq_some_iff.1 hc).1; have := h.few; omega
  unfold rdy
  rw [hc]
  simp only [Option.elim_some]
  congr 1
  refine eq_of_bool ?_
  rw [allAt_iff, subB_iff hD (h.aheadB i hi)]
  constructor
  · intro H j hj
    rw [h.ahead i c hc] at hj
    cases hs : l[j]? with
    | none => rw [hs] at hj; cases hj
    | some s =>
      rw [hs] at hj
      simp at hj
      have := H j s hs
      simp [hj.1, hj.2] at this
      exact this
  · intro H j s hs
    by_cases e : j = i
    · simp [e]
    · cases ha : ahd s c with
      | false => simp
      | true =>
        have := H j (by rw [h.ahead i c hc, hs]; simp [e, ha])
        simp [this]
theorem full_asked {w : World} {bM bA rb : Nat} {l : List Sp} {sa : Option Addr} {sn sc : Nat} {A : Nat → Nat} {m : Nat} (h : Srch w bM bA rb l sa sn sc A m) {D : Nat} (hD : D < 65536) : full l D = subB D m := by
  refine eq_of_bool ?_
  unfold full
  rw [allAt_iff, subB_iff hD h.ansB]
  constructor
  · intro H j hj
    rw [h.ans] at hj
    cases hs : l[j]? with
    | none => rw [hs] at hj; cases hj
    | some s =>
      rw [hs] at hj
      simp at hj
      have := H j s hs
      simpa [hj] using this
  · intro H j s hs
    cases hp : pend s with
    | true => simp
    | false =>
      have := H j (by rw [h.ans, hs]; simp [hp])
      simp [this]

structure Good (r : Int) (l : List Sp) (S : List (List El)) : Prop where
  ok : ∀ q ∈ S, Okq q
  next : ∀ q ∈ S, ∀ s ∈ l, (∀ x ∈ ansM r q s, ∀ p, nxM r q s x = some p → Okq p) ∧ (ansM r q s).length ≤ 1000
  few : S.length ≤ 1024
def AfRel (W0 : World) (r : Int) (c : Sp) (S : List (List El)) (n : Nat) (v i : Value) (wr : World) : Prop :=
  ∃ k : Nat, k ≤ n ∧ i = .int .i64 k ∧ Kept W0 wr ∧ ∃ a ca, v = .slice a (((S.take k).flatMap fun x => nextM r x c).foldl addNew []).length ca ∧ OwnQ wr W0.heap.size (.slice a (((S.take k).flatMap fun x => nextM r x c).foldl addNew []).length ca) (((S.take k).flatMap fun x => nextM r x c).foldl addNew [])
def AfRel2 (W1 : World) (lo hi : Nat) (X N : List (List El)) (n : Nat) (v i : Value) (wr : World) : Prop :=
  ∃ k : Nat, k ≤ n ∧ i = .int .i64 k ∧ But (fun b => lo ≤ b ∧ b < hi) W1 wr ∧ ∃ a ca, v = .slice a ((N.take k).foldl addNew X).length ca ∧ OwnQ wr lo (.slice a ((N.take k).foldl addNew X).length ca) ((N.take k).foldl addNew X) ∧
    ∀ g, (Value.slice a ((N.take k).foldl addNew X).length ca).ownBlock = some g → g < hi ∨ W1.heap.size ≤ g

set_option maxRecDepth 100000 in
set_option maxHeartbeats 8000000 in
theorem after_any {w : World} {bM bA rb : Nat} {r : Int} {l : List Sp} {sa : Option Addr} {sn sc : Nat} {A : Nat → Nat} {m : Nat} (h : Srch w bM bA rb l sa sn sc A m) (hE : Env rb r w) {q0 : List El} (D : Nat) (hD : D < 65536)
    {ta : Option Addr} {tn tc : Nat} {S : List (List El)} (hS : Lay w (.slice ta tn tc) tn (flatQ S)) (hn : tn = S.length) (hG : Good r l S) {i : Nat} {c : Sp} (hi : l[i]? = some c) :
    Calls Tryz.prog 155 #[.agg (sV q0 bM bA sa sn sc A m), .int .u16 D, .slice ta tn tc, .int .i64 i] w (RetQ w (aftM (nextM r) l D S i)) := by
  have i10 : i < 10 := by have := (List.getElem?_eq_some_iff.1 hi).1; have := h.few; omega
  have HR := Lib.hid (rdy_asked h hD hi)
  obtain ⟨W0, hW0⟩ : ∃ W0, w.alloc (.cells (sV q0 bM bA sa sn sc A m) 108) = W0 := ⟨_, rfl⟩
  have k0 : Kept w W0 := by rw [← hW0]; exact (Kept.refl w).alloc _ _
  have bx : SBox W0 w.heap.size q0 bM bA sa sn sc A m := by rw [← hW0]; exact SBox.new w _ rfl
  have K0 := Lib.hid k0
  have HW := Lib.hid hW0
  have SR := Lib.hid (h.kept k0)
  have HE := Lib.hid (hE.kept k0)
  have BX := Lib.hid bx
  have HAS := Lib.hid (fun W => has_set D i hD (by omega) W)
  have HOL := Lib.hid (fun W => holds_set D (A i) hD (h.aheadB i i10) W)
  have HD := Lib.hid hD
  have ca := bx.ahead i i10
  have hi9 : (i : Int) < 10 := by omega
  cases hb : D.testBit i with
  | true =>
    have HF := Lib.hid (show aftM (nextM r) l D S i = [] by unfold aftM; rw [HR.out, hb]; simp)
    rw [hb] at HAS
    clear h hE hS hn hG hi k0 hW0 bx hb hD
    go_enter Tryz.func155, Tryz.ntmps155
    go_upto_region 1 with fail
    rw [HW.out]
    go_wp2_with fail; refine (HAS.out _).mono ?_; rintro e w1 ⟨rfl, rfl⟩
    go_wp2
    go_ret
    rw [HF.out]
    exact ⟨none, 0, rfl, K0.out, World.ownsRow_nil _ _ _ _⟩
  | false =>
    cases hs : subB D (A i) with
    | false =>
      have HF := Lib.hid (show aftM (nextM r) l D S i = [] by unfold aftM; rw [HR.out, hs]; simp)
      rw [hb] at HAS
      rw [hs] at HOL
      clear h hE hS hn hG hi k0 hW0 bx hb hD hs
      go_enter Tryz.func155, Tryz.ntmps155
      go_upto_region 1 with fail
      rw [HW.out]
      go_wp2_with fail; refine (HAS.out _).mono ?_; rintro e w1 ⟨rfl, rfl⟩
      go_wp2_with fail; refine (HOL.out _).mono ?_; rintro e w1 ⟨rfl, rfl⟩
      go_wp2
      go_ret
      rw [HF.out]
      exact ⟨none, 0, rfl, K0.out, World.ownsRow_nil _ _ _ _⟩
    | true =>
      have HF := Lib.hid (show aftM (nextM r) l D S i = (S.flatMap fun x => nextM r x c).foldl addNew [] by unfold aftM; rw [HR.out, hs, hb, hi]; simp)
      rw [hb] at HAS
      rw [hs] at HOL
      have HS := Lib.hid (fun W (k : Kept w W) j y hy => st_one (hS.kept k) hn j y hy)
      have HN := Lib.hid hn
      have tnb0 := hG.few
      have HG := Lib.hid hG
      have HC := Lib.hid hi
      have tnb : tn ≤ 1024 := by omega
      clear tnb0
      have CM := Lib.hid (show c ∈ l from List.mem_of_getElem? hi)
      clear h hE hS hn hG hi k0 hW0 bx hb hD hs
      go_enter Tryz.func155, Tryz.ntmps155
      go_upto_region 1 with fail
      rw [HW.out]
      go_wp2_with fail; refine (HAS.out _).mono ?_; rintro e w1 ⟨rfl, rfl⟩
      go_wp2_with fail; refine (HOL.out _).mono ?_; rintro e w1 ⟨rfl, rfl⟩
      go_wp2
      go_loopw [9, 28] (AfRel W0 r c S tn) (fun _ i _ => tn - (intOf i).toNat)
      case atStart => exact ⟨0, Nat.zero_le _, rfl, Kept.refl _, none, 0, by simp, World.ownsRow_nil _ _ _ _⟩
      case round =>
        obtain ⟨k, hkn, rfl, hkr, aS, cS, rfl, hown⟩ := hrel
        have KE := Lib.hid hkr
        have OS := Lib.hid hown
        obtain ⟨SS, hSS⟩ : ∃ SS, ((S.take k).flatMap fun x => nextM r x c).foldl addNew [] = SS := ⟨_, rfl⟩
        have HSS := Lib.hid hSS
        rw [hSS] at OS ⊢
        clear hkr hown hSS
        by_cases hlt : k < tn
        · obtain ⟨x, hx⟩ : ∃ x, S[k]? = some x := ⟨_, List.getElem?_eq_getElem (by rw [← HN.out]; omega)⟩
          obtain ⟨g, o, hgo, hat⟩ := HS.out _ (K0.out.trans KE.out) k x hx
          cases hgo
          have xm : x ∈ S := List.mem_of_getElem? hx
          have okx := HG.out.ok x xm
          have HNX := Lib.hid (HG.out.next x xm c CM.out)
          have HT := Lib.hid (show S.take (k + 1) = S.take k ++ [x] by rw [List.take_add_one, hx]; rfl)
          have SSl := Lib.hid (show SS.length ≤ 1024 * 1000 by
            rw [← HSS.out]
            refine Nat.le_trans (adds_length _ _) ?_
            have h1 := flatMap_le (N := 1000) (f := fun x => nextM r x c) (S.take k) fun y hy => Nat.le_trans (List.length_filterMap_le ..) (HG.out.next y (List.mem_of_mem_take hy) c CM.out).2
            have h2 := HG.out.few
            have h3 : (S.take k).length * 1000 ≤ 1024 * 1000 := Nat.mul_le_mul_right _ (by rw [List.length_take]; omega)
            simp only [List.length_nil]
            omega)
          have L1 := ldQ_ok okx hat
          have S1 := fun (W : World) b (Z : Array Value) t (hb : b = W.heap.size) (hZ : Z.size = 11) => stQ_fresh (w := W) (b := b) okx Z t hb hZ
          have K1 := Lib.hid (show Kept W0 (wr.alloc (.cells (enc x).toArray 103)) from KE.out.alloc _ _)
          obtain ⟨Wa, hWa⟩ : ∃ Wa, wr.alloc (.cells (enc x).toArray 103) = Wa := ⟨_, rfl⟩
          have ra : Wa.rangeAt wr.heap.size 0 (enc x) := by rw [← hWa]; have := range_new wr (enc x).toArray 103 wr.heap.size rfl; simpa using this
          have OSa := Lib.hid (show OwnQ Wa W0.heap.size (.slice aS SS.length cS) SS by rw [← hWa]; exact own_kept OS.out ((Kept.refl _).alloc _ _))
          have HWa := Lib.hid hWa
          rw [hWa] at K1
          obtain ⟨gs, os, hgs, hspan⟩ := sp_one (SR.out.kept K1.out).calls (SR.out.kept K1.out).len i c HC.out
          cases hgs
          have isn : (i : Int) < (sn : Int) := by have h1 := (List.getElem?_eq_some_iff.1 HC.out).1; have h2 := SR.out.len; omega
          have PK := Lib.hid (fun W (K : Kept Wa W) => show W.cell? ⟨w.heap.size, 11, none⟩ = some (fnN bM bA) ∧ (ldQ (.pointer (some ⟨wr.heap.size, 0, none⟩))).run Tryz.prog W = .ok (.agg (enc x).toArray) W ∧ W.cell? ⟨w.heap.size, 12, none⟩ = some (.slice (some ⟨gs, os, none⟩) sn sc) ∧ (ldS (.pointer (some ⟨gs, os + i * 10, none⟩))).run Tryz.prog W = .ok (.agg #[.int .i64 c.id, .int .i64 c.from_, .int .i64 c.to, .int .i64 c.k, .int .i64 c.x, .int .i64 c.y, .int .u64 c.u, .int .i64 c.er, .int .i64 c.n, .int .u64 c.v]) W from
            ⟨((BX.out.kept K1.out).kept K).fn, ldQ_ok okx (range_kept ra K), ((BX.out.kept K1.out).kept K).calls, ldS_run (hspan.kept K)⟩)
          clear hx hat ra hWa hspan
          go_upto_region 7 with fail
          rw [HWa.out]
          obtain ⟨pk0, pk1, pk2, pk3⟩ := PK.out Wa (Kept.refl _)
          go_region_held3 (fun W => W.cell? ⟨w.heap.size, 11, none⟩ = some (fnN bM bA) ∧ (ldQ (.pointer (some ⟨wr.heap.size, 0, none⟩))).run Tryz.prog W = .ok (.agg (enc x).toArray) W ∧ W.cell? ⟨w.heap.size, 12, none⟩ = some (.slice (some ⟨gs, os, none⟩) sn sc) ∧ (ldS (.pointer (some ⟨gs, os + i * 10, none⟩))).run Tryz.prog W = .ok (.agg #[.int .i64 c.id, .int .i64 c.from_, .int .i64 c.to, .int .i64 c.k, .int .i64 c.x, .int .i64 c.y, .int .u64 c.u, .int .i64 c.er, .int .i64 c.n, .int .u64 c.v]) W)
            (first | (with_reducible exact PK.out _ (KT.trans (by repeat (first | (with_reducible exact Kept.refl _) | (with_reducible assumption) | (with_reducible refine Kept.drew ?_) | (with_reducible refine Kept.drewN ?_ _))))) | (with_reducible exact PK.out _ (by repeat (first | (with_reducible exact Kept.refl _) | (with_reducible assumption) | (with_reducible refine Kept.drew ?_) | (with_reducible refine Kept.drewN ?_ _)))))
            (first
              | (go_at_call 91; refine (next_any (SR.out.caps.kept (K1.out.trans (by repeat (first | (with_reducible exact Kept.refl _) | (with_reducible assumption) | (with_reducible refine Kept.drew ?_) | (with_reducible refine Kept.drewN ?_ _))))) (HE.out.kept (K1.out.trans (by repeat (first | (with_reducible exact Kept.refl _) | (with_reducible assumption) | (with_reducible refine Kept.drew ?_) | (with_reducible refine Kept.drewN ?_ _))))) okx c HNX.out.1 (Nat.le_trans HNX.out.2 (by decide))).mono ?_; rintro e v1 ⟨a1, c1, rfl, kv1, o1⟩; have KT : Kept Wa v1 := Kept.trans (by repeat (first | (with_reducible exact Kept.refl _) | (with_reducible assumption) | (with_reducible refine Kept.drew ?_) | (with_reducible refine Kept.drewN ?_ _))) kv1; have O1 := Lib.hid (own_mono o1 (Kept.size (w := Wa) (by repeat (first | (with_reducible exact Kept.refl _) | (with_reducible assumption) | (with_reducible refine Kept.drew ?_) | (with_reducible refine Kept.drewN ?_ _))))); clear o1 kv1))
          go_wp2
          have K2 := Lib.hid (K1.out.trans KT)
          have OS2 := Lib.hid (own_kept OSa.out KT)
          obtain ⟨V1, hV1⟩ : ∃ V1, V1 = v1 := ⟨_, rfl⟩
          subst hV1
          obtain ⟨N, hN⟩ : ∃ N, nextM r x c = N := ⟨_, rfl⟩
          have HNN := Lib.hid hN
          rw [hN] at O1 ⊢
          have NOK := Lib.hid (show ∀ q ∈ N, Okq q from fun q hq => by
            rw [← HNN.out] at hq
            obtain ⟨a, ha, hq⟩ := List.mem_filterMap.1 hq
            exact HNX.out.1 a ha q hq)
          have Nl := Lib.hid (show N.length ≤ 1000 by rw [← HNN.out]; exact Nat.le_trans (List.length_filterMap_le ..) HNX.out.2)
          have SOK := Lib.hid (show ∀ q ∈ SS, Okq q from fun q hq => by
            rw [← HSS.out, mem_adds] at hq
            rcases hq with hq | hq
            · cases hq
            · obtain ⟨y, hy, hq⟩ := List.mem_flatMap.1 hq
              obtain ⟨a, ha, hq⟩ := List.mem_filterMap.1 hq
              exact (HG.out.next y (List.mem_of_mem_take hy) c CM.out).1 a ha q hq)
          have NS := Lib.hid (fun W (k : But (fun b => W0.heap.size ≤ b ∧ b < Wa.heap.size) V1 W) j y hy => st_one ((own_lies O1.out).lay.but k fun g hg h => by have := (O1.out.lt g hg).1; omega) rfl j y hy)
          obtain ⟨nn, hnn⟩ : ∃ nn, nn = N.length := ⟨_, rfl⟩
          have HNL := Lib.hid hnn
          have nn1 : nn ≤ 1000 := by rw [hnn]; exact Nl.out
          rw [← hnn]
          clear hN hnn KT
          have SL := Lib.hid (fun g hg => Or.inl (OSa.out.lt g hg).2 : ∀ g, (Value.slice aS SS.length cS).ownBlock = some g → g < Wa.heap.size ∨ V1.heap.size ≤ g)
          obtain ⟨hi, hhi⟩ : ∃ hi, hi = Wa.heap.size := ⟨_, rfl⟩
          have HHI := Lib.hid hhi
          rw [← hhi] at NS SL
          clear hhi
          obtain ⟨wo, rfl⟩ : ∃ wo : World, wo = wr := ⟨_, rfl⟩
          go_loopw [9, 43] (AfRel2 V1 W0.heap.size hi SS N nn) (fun _ i _ => nn - (intOf i).toNat)
          case atStart => exact ⟨0, Nat.zero_le _, rfl, But.refl _ _, aS, cS, rfl, OS2.out, SL.out⟩
          case round =>
            obtain ⟨p, hpn, rfl, hkp, aT, cT, rfl, hownT, hblk⟩ := hrel
            have BLK := Lib.hid hblk
            have KP := Lib.hid hkp
            have OT := Lib.hid hownT
            obtain ⟨TT, hTT⟩ : ∃ TT, (N.take p).foldl addNew SS = TT := ⟨_, rfl⟩
            have HTT := Lib.hid hTT
            rw [hTT] at OT BLK ⊢
            clear hkp hownT hTT hblk
            by_cases hltp : p < nn
            · obtain ⟨y, hy⟩ : ∃ y, N[p]? = some y := ⟨_, List.getElem?_eq_getElem (by rw [← HNL.out]; omega)⟩
              obtain ⟨g2, o2, hg2, hat2⟩ := NS.out _ KP.out p y hy
              cases hg2
              have oky := NOK.out y (List.mem_of_getElem? hy)
              have HT2 := Lib.hid (show (N.take (p + 1)).foldl addNew SS = addNew TT y by rw [List.take_add_one, hy, List.foldl_append, HTT.out]; rfl)
              have TOK := Lib.hid (show ∀ q ∈ TT, Okq q from fun q hq => by
                rw [← HTT.out, mem_adds] at hq
                rcases hq with hq | hq
                · exact SOK.out q hq
                · exact NOK.out q (List.mem_of_mem_take hq))
              have TTl := Lib.hid (show TT.length ≤ 2000000 by
                rw [← HTT.out]
                refine Nat.le_trans (adds_length _ _) ?_
                have h1 := SSl.out
                have h2 := Nl.out
                rw [List.length_take]
                omega)
              have L1 := ldQ_ok oky hat2
              have S1 := fun (W : World) b (Z : Array Value) t (hb : b = W.heap.size) (hZ : Z.size = 11) => stQ_fresh (w := W) (b := b) oky Z t hb hZ
              have K3 := Lib.hid (show But (fun b => W0.heap.size ≤ b ∧ b < hi) V1 (wr.alloc (.cells (enc y).toArray 103)) from KP.out.alloc _ _)
              obtain ⟨Wb, hWb⟩ : ∃ Wb, wr.alloc (.cells (enc y).toArray 103) = Wb := ⟨_, rfl⟩
              have rb2 : Wb.rangeAt wr.heap.size 0 (enc y) := by rw [← hWb]; have := range_new wr (enc y).toArray 103 wr.heap.size rfl; simpa using this
              have L3 := Lib.hid (fun W (K : Kept Wb W) => ldQ_ok oky (range_kept rb2 K))
              have OTb := Lib.hid (show OwnQ Wb W0.heap.size (.slice aT TT.length cT) TT by rw [← hWb]; exact own_kept OT.out ((Kept.refl _).alloc _ _))
              have HWb := Lib.hid hWb
              rw [hWb] at K3
              have CT := Lib.hid (contains_any (own_lies OTb.out).lay rfl TOK.out oky)
              clear hy hat2 rb2 hWb
              go_upto_region 10 with fail
              rw [HWb.out]
              have L3a := L3.out Wb (Kept.refl _)
              by_cases hm : y ∈ TT
              · have HA := Lib.hid (show addNew TT y = TT by unfold addNew; rw [if_pos hm])
                rw [decide_eq_true hm] at CT
                clear hm
                go_wp2_with fail; refine CT.out.mono ?_; rintro e v5 ⟨rfl, k5⟩
                go_wp2
                go_roundw
                case rel => exact ⟨p + 1, by omega, by go_num, K3.out.then k5, aT, cT, by rw [HT2.out, HA.out], by rw [HT2.out, HA.out]; exact own_kept OTb.out k5, by rw [HT2.out, HA.out]; exact BLK.out⟩
                case measure => simp [intOf]; omega
              · have HA := Lib.hid (show addNew TT y = TT ++ [y] by unfold addNew; rw [if_neg hm])
                rw [decide_eq_false hm] at CT
                have BQ := fun W => bsQ_run oky.1 W
                clear hm
                go_wp2_with fail; refine CT.out.mono ?_; rintro e v5 ⟨rfl, k5⟩
                have L5 := L3.out v5 k5
                obtain ⟨i0, hi0, hz0, hz1, hz2⟩ := info_parts infoQ
                obtain ⟨a4, c4, v4, run4, own4, but4, at4⟩ := push_any (W := v5) (m := 1) (R := enc y) Tryz.underlying160 hi0 hz0 hz1 hz2 (by simp [Value.cells, enc_len]) (by decide) (by decide) (own_kept OTb.out k5) (by have := K2.out.size; have := K3.out.size; have := k5.size; omega) (by rw [enc_len]) (enc_one y) (by have := TTl.out; omega) (by decide)
                have AP : (apE #[160, 160] 160 #[.slice aT TT.length cT, .slice (some ⟨v5.heap.size, 0, none⟩) 1 1]).run Tryz.prog (v5.alloc (.cells (enc y).toArray 103)) = .ok (.slice a4 (TT.length + 1) c4) v4 := run4
                have B4 := Lib.hid but4
                have O4 := Lib.hid own4
                have K5 := Lib.hid (K3.out.then k5)
                have A4 := Lib.hid at4
                clear run4 own4 but4 k5 at4
                go_wp2
                go_roundw
                case rel =>
                  refine ⟨p + 1, by omega, by go_num, ?_, a4, c4, by rw [HT2.out, HA.out]; simp, ?_⟩
                  · exact K5.out.trans B4.out fun b hb e => by
                      have h1 := (OTb.out.lt b e).1
                      rcases BLK.out b e with h | h
                      · exact ⟨h1, h⟩
                      · omega
                  · rw [HT2.out, HA.out]
                    refine ⟨?_, fun b e => ?_⟩
                    · unfold OwnQ
                      rw [flatQ_snoc, List.length_append]
                      exact O4.out
                    · rw [List.length_append] at e
                      rcases A4.out with h | h
                      · exact BLK.out b (h.symm.trans e)
                      · have e' := h.symm.trans e
                        cases e'
                        have := K5.out.size
                        omega
                case measure => simp [intOf]; omega
            · obtain rfl : p = nn := by omega
              have HE2 := Lib.hid (show ((S.take (k + 1)).flatMap fun x => nextM r x c).foldl addNew [] = TT by
                rw [HT.out, List.flatMap_append, List.foldl_append, HSS.out, ← HTT.out, HNL.out, List.take_length]
                simp [HNN.out])
              go_wp2
              go_roundw
              case rel =>
                refine ⟨k + 1, by omega, by go_num, K2.out.put KP.out fun b h => h.1, aT, cT, by rw [HE2.out], by rw [HE2.out]; exact OT.out⟩
              case measure => simp [intOf]; omega
        · obtain rfl : k = tn := by omega
          have HF2 := Lib.hid (show SS = aftM (nextM r) l D S i by rw [HF.out, ← HSS.out, HN.out, List.take_length])
          go_wp2
          go_ret
          rw [← HF2.out]
          exact ⟨aS, cS, rfl, K0.out.trans KE.out, own_mono OS.out K0.out.size⟩
end Go.Proofs.YtbfmmndpboagdaaGreatDoor.SN

namespace Go.Proofs.YtbfmmndpboagdaaGreatDoor.SN
open Go.RowKit
attribute [local go_sem ↓] ldQ_named stQ_named bsQ_named apE_named ldX_named
attribute [local go_sem] Kept.refl Kept.drew Kept.drewN Kept.alloc

structure Inv (r : Int) (l : List Sp) (q0 : List El) (I : Nat → List (List El) → Prop) : Prop where
  start : I 0 [q0]
  step : ∀ k S D i, k < 10 → I k S → I (k + 1) (aftM (nextM r) l D S i)
  sub : ∀ k S T, T.Sublist S → I k S → I k T
  good : ∀ k S, k < 10 → I k S → Good r l S
  ok : ∀ k S, k ≤ 10 → I k S → (∀ q ∈ S, Okq q) ∧ S.length ≤ 1024
theorem run_snoc (r : Int) (l : List Sp) : ∀ (o : List Nat) (D : Nat) (S : List (List El)) (i : Nat), runM (nextM r) l D S (o ++ [i]) = ((runM (nextM r) l D S o).1 ||| 2 ^ i, aftM (nextM r) l (runM (nextM r) l D S o).1 (runM (nextM r) l D S o).2 i) := by
  intro o
  induction o with
  | nil => intro D S i; rfl
  | cons j o ih => intro D S i; rw [List.cons_append, runM, ih]; rfl
theorem run_inv {r : Int} {l : List Sp} {q0 : List El} {I : Nat → List (List El) → Prop} (h : Inv r l q0 I) : ∀ (o : List Nat) (k D : Nat) (S : List (List El)), I k S → k + o.length ≤ 10 → I (k + o.length) (runM (nextM r) l D S o).2 := by
  intro o
  induction o with
  | nil => intro k D S hi _; exact hi
  | cons i o ih =>
    intro k D S hi hl
    simp only [List.length_cons] at hl ⊢
    have := ih (k + 1) (D ||| 2 ^ i) _ (h.step k S D i (by omega) hi) (by omega)
    rw [show k + (o.length + 1) = k + 1 + o.length by omega]
    exact this
theorem run_small (r : Int) (l : List Sp) : ∀ (o : List Nat) (D : Nat) (S : List (List El)), D < 65536 → (∀ i ∈ o, i < 10) → (runM (nextM r) l D S o).1 < 65536 := by
  intro o
  induction o with
  | nil => intro D S h _; exact h
  | cons i o ih =>
    intro D S h ho
    exact ih _ _ (or16 h (by have := ho i (List.mem_cons_self ..); omega)) fun j hj => ho j (List.mem_cons_of_mem _ hj)
def casts (o : List Nat) : List Int := o.map fun (i : Nat) => (i : Int)
def FitRel (W1 : World) (r : Int) (l : List Sp) (q0 : List El) (o : List Nat) (n : Nat) (d s i : Value) (wr : World) : Prop :=
  ∃ k : Nat, k ≤ n ∧ i = .int .i64 k ∧ Kept W1 wr ∧ d = .int .u16 ((runM (nextM r) l 0 [q0] (o.take k)).1 : Nat) ∧ ∃ a c, s = .slice a (runM (nextM r) l 0 [q0] (o.take k)).2.length c ∧ Lay wr (.slice a (runM (nextM r) l 0 [q0] (o.take k)).2.length c) (runM (nextM r) l 0 [q0] (o.take k)).2.length (flatQ (runM (nextM r) l 0 [q0] (o.take k)).2)

set_option maxRecDepth 100000 in
set_option maxHeartbeats 4000000 in
theorem fits_any {w : World} {bM bA rb : Nat} {r : Int} {l : List Sp} {sa : Option Addr} {sn sc : Nat} {A : Nat → Nat} {m : Nat} (h : Srch w bM bA rb l sa sn sc A m) (hE : Env rb r w) {q0 : List El} (hq : Okq q0) {I : Nat → List (List El) → Prop} (hI : Inv r l q0 I)
    {oa : Option Addr} {on oc : Nat} {o : List Nat} (hO : Lay w (.slice oa on oc) on (ints (casts o))) (hn : on = o.length) (h10 : on ≤ 10) (hlt : ∀ i ∈ o, i < l.length) :
    Calls Tryz.prog 156 #[.agg (sV q0 bM bA sa sn sc A m), .slice oa on oc] w fun e w' => e = .returned (.bool (fitsM (nextM r) l [q0] o)) ∧ Kept w w' := by
  obtain ⟨W0, hW0⟩ : ∃ W0, w.alloc (.cells (sV q0 bM bA sa sn sc A m) 108) = W0 := ⟨_, rfl⟩
  have k0 : Kept w W0 := by rw [← hW0]; exact (Kept.refl w).alloc _ _
  have bx : SBox W0 w.heap.size q0 bM bA sa sn sc A m := by rw [← hW0]; exact SBox.new w _ rfl
  have K0 := Lib.hid k0
  have HW := Lib.hid hW0
  have SR := Lib.hid (h.kept k0)
  have HE := Lib.hid (hE.kept k0)
  have BX := Lib.hid bx
  have HI := Lib.hid hI
  have HO := Lib.hid (fun W (k : Kept w W) j y hy => num_one (h := hO.kept k) (hn := by rw [hn]; simp [casts]) j y hy)
  have HN := Lib.hid hn
  have HLT := Lib.hid hlt
  have l10 := h.few
  have LF := fun W (K : Kept W0 W) => (bx.kept K).first hq
  have BQ := fun W => bsQ_run (q := q0) hq.1 W
  clear h hE hO hn hlt hI hW0 bx k0
  go_enter Tryz.func156, Tryz.ntmps156
  go_upto_region 1 with fail
  rw [HW.out]
  go_region
  go_wp2
  go_loopw [5, 6, 15] (FitRel W0 r l q0 o on) (fun _ _ i _ => on - (intOf i).toNat)
  case atStart =>
    refine ⟨0, Nat.zero_le _, rfl, ((Kept.refl _).alloc _ _).drew, rfl, some ⟨W0.heap.size, 0, none⟩, 1, rfl, ?_⟩
    have := (lay_new (n := 1) (heap_alloc_new W0 (.cells (flatQ [q0]).toArray 103)) (by decide)).kept (Kept.refl _).drew
    have e : flatQ [q0] = enc q0 := by simp [flatQ]
    rw [e] at this
    simpa [e, runM] using this
  case round =>
    obtain ⟨k, hkn, rfl, hkr, rfl, aS, cS, rfl, hlay⟩ := hrel
    obtain ⟨D, hD⟩ : ∃ D, (runM (nextM r) l 0 [q0] (o.take k)).1 = D := ⟨_, rfl⟩
    obtain ⟨S, hS⟩ : ∃ S, (runM (nextM r) l 0 [q0] (o.take k)).2 = S := ⟨_, rfl⟩
    have HD := Lib.hid hD
    have HS := Lib.hid hS
    rw [hS] at hlay
    rw [hD, hS]
    have KE := Lib.hid hkr
    have LS := Lib.hid hlay
    have hon := HN.out
    have DB := Lib.hid (show D < 65536 by
      rw [← hD]
      exact run_small r l _ 0 _ (by decide) fun i hi => by have := HLT.out i (List.mem_of_mem_take hi); omega)
    have IK := Lib.hid (show I k S by
      have := run_inv HI.out (o.take k) 0 0 [q0] HI.out.start (by rw [List.length_take]; omega)
      rw [hS, List.length_take, Nat.min_eq_left (by omega), Nat.zero_add] at this
      exact this)
    clear hkr hlay hD hS
    by_cases hlt : k < on
    · obtain ⟨i, hi⟩ : ∃ i, o[k]? = some i := ⟨_, List.getElem?_eq_getElem (by omega)⟩
      have hil := HLT.out i (List.mem_of_getElem? hi)
      obtain ⟨c, hc⟩ : ∃ c, l[i]? = some c := ⟨_, List.getElem?_eq_getElem hil⟩
      obtain ⟨g, p, hgp, c0⟩ := HO.out _ (K0.out.trans KE.out) k (i : Int) (by simp [casts, hi])
      cases hgp
      have HR := Lib.hid (show runM (nextM r) l 0 [q0] (o.take (k + 1)) = (D ||| 2 ^ i, aftM (nextM r) l D S i) by
        have e := run_snoc r l (o.take k) 0 [q0] i
        rw [HD.out, HS.out] at e
        rw [← e, List.take_add_one, hi]
        rfl)
      have AF := Lib.hid (after_any (q0 := q0) (SR.out.kept KE.out) (HE.out.kept KE.out) D DB.out LS.out rfl (HI.out.good k S (by omega) IK.out) hc)
      have LX := ldX_run (enc_length hq.1) (BX.out.kept KE.out).all
      have WI := Lib.hid (fun W => with_set D i DB.out (by omega) W)
      clear hi hc hon hil
      go_wp2_with fail; refine AF.out.mono ?_; rintro e w1 ⟨a1, c1, rfl, k1, own1⟩
      go_wp2_with fail; refine (WI.out _).mono ?_; rintro e w2 ⟨rfl, rfl⟩
      have L1 := Lib.hid (own_lies own1).lay
      clear own1
      go_wp2
      go_roundw
      case rel => exact ⟨k + 1, by omega, by go_num, KE.out.trans k1, by rw [HR.out], a1, c1, by rw [HR.out], by rw [HR.out]; exact L1.out⟩
      case measure => simp [intOf]; omega
    · obtain rfl : k = on := by omega
      have e : o.take k = o := by rw [hon, List.take_length]
      have HFI := Lib.hid (show fitsM (nextM r) l [q0] o = (!S.isEmpty && full l D) by
        unfold fitsM
        have h1 := HD.out
        have h2 := HS.out
        rw [e] at h1 h2
        rw [h1, h2])
      have SL := (HI.out.ok k S h10 IK.out).2
      have FA := Lib.hid (full_asked (SR.out.kept KE.out) DB.out)
      have HOL := Lib.hid (fun W => holds_set D m DB.out SR.out.ansB W)
      have dn := (BX.out.kept KE.out).done
      clear hon e
      by_cases h0 : S.length = 0
      · have HE0 := Lib.hid (show S.isEmpty = true by rw [List.eq_nil_of_length_eq_zero h0]; rfl)
        obtain ⟨sl, hsl⟩ : ∃ sl, S.length = sl := ⟨_, rfl⟩
        rw [hsl] at h0 SL ⊢
        subst h0
        clear hsl
        go_wp2
        go_ret
        exact ⟨by rw [HFI.out, HE0.out]; rfl, K0.out.trans KE.out⟩
      · have HE0 := Lib.hid (show S.isEmpty = false by cases S with | nil => exact absurd rfl h0 | cons => rfl)
        obtain ⟨sl, hsl⟩ : ∃ sl, S.length = sl := ⟨_, rfl⟩
        rw [hsl] at h0 SL ⊢
        have sp : (0 : Int) < (sl : Int) := by omega
        clear hsl
        obtain ⟨fb, hfb⟩ : ∃ fb, subB D m = fb := ⟨_, rfl⟩
        rw [hfb] at FA HOL
        clear hfb
        go_wp2_with fail; refine (HOL.out _).mono ?_; rintro e w1 ⟨rfl, rfl⟩
        go_wp2
        go_ret
        exact ⟨by rw [HFI.out, HE0.out, FA.out]; rfl, K0.out.trans KE.out⟩
end Go.Proofs.YtbfmmndpboagdaaGreatDoor.SN
