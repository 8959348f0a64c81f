/- A list as a value of eleven cells or more (linear.state): its cells, loads, stores and comparisons of it; the search as a value. At elements of type coxswain/api.Item. -/
import Derived.Test.YtbfmmndpboagdaaGreatDoorGL
import Derived.Test.YtbfmmndpboagdaaGreatDoorGH2
import Derived.DeepKeys4
import Derived.Maps.OwnSet
import Derived.Maps.OwnIn
import Derived.Maps.Views
namespace Go.Proofs.YtbfmmndpboagdaaGreatDoor.SH
open Go.RowKit Go.Maps

abbrev El := He.It
def elc (x : El) : List Value := [.int .u64 x.k, .int .i64 x.a]
def z0 : El := ⟨0, 0⟩
def tcs (q : List El) : List Value := He.flatI q
theorem tcs_flat (q : List El) : tcs q = q.flatMap elc := by unfold tcs elc; rfl
theorem elc_length (x : El) : (elc x).length = 2 := rfl
theorem tcs_length (q : List El) : (tcs q).length = q.length * 2 := by rw [tcs_flat]; exact wide_length elc_length q
theorem tcs_append (p q : List El) : tcs (p ++ q) = tcs p ++ tcs q := by rw [tcs_flat, tcs_flat, tcs_flat, List.flatMap_append]
theorem tcs_one (q : List El) : ∀ u ∈ tcs q, u.oneCell' = true := by rw [tcs_flat]; exact wide_one (fun a u h => by simp [elc, elc] at h; rcases h with h | h <;> subst h <;> rfl) q
theorem tcs_inj : ∀ {p q : List El}, p.length = q.length → tcs p = tcs q → p = q := by
  intro p
  induction p with
  | nil => intro q h _; cases q with | nil => rfl | cons => simp at h
  | cons x p ih =>
    intro q h e
    cases q with
    | nil => simp at h
    | cons y q =>
      rw [tcs_flat, tcs_flat, List.flatMap_cons, List.flatMap_cons] at e
      obtain ⟨e1, e2⟩ := List.append_inj e rfl
      rw [← tcs_flat, ← tcs_flat] at e2
      have hxy : x = y := by simp [elc, elc] at e1; cases x; cases y; simp_all
      rw [hxy, ih (by simpa using h) e2]
def pad (q : List El) : List El := (q ++ List.replicate (10 - q.length) z0).take 10
theorem pad_len (q : List El) : (pad q).length = 10 := by simp [pad]; omega
theorem pad_length {q : List El} (_ : q.length ≤ 10) : (pad q).length = 10 := pad_len q
theorem pad_eq {q : List El} (h : q.length ≤ 10) : pad q = q ++ List.replicate (10 - q.length) z0 := List.take_of_length_le (by simp; omega)
def enc (q : List El) : List Value := .int .i64 (q.length : Nat) :: tcs (pad q)
theorem enc_len (q : List El) : (enc q).length = 21 := by simp [enc, tcs_length, pad_len]
theorem enc_length {q : List El} (_ : q.length ≤ 10) : (enc q).length = 21 := enc_len q
def flatQ (S : List (List El)) : List Value := S.flatMap enc
theorem flatQ_length (S : List (List El)) : (flatQ S).length = S.length * 21 := wide_length enc_len S
theorem flatQ_get (S : List (List El)) (i j : Nat) (q : List El) (h : S[i]? = some q) (hj : j < 21) : (flatQ S)[i * 21 + j]? = (enc q)[j]? := wide_get enc_len S i j q h hj
theorem flatQ_snoc (S : List (List El)) (q : List El) : flatQ (S ++ [q]) = flatQ S ++ enc q := wide_snoc S q
theorem enc_one (q : List El) : ∀ u ∈ enc q, u.oneCell' = true := by
  intro u h
  rcases List.mem_cons.1 h with rfl | h
  · rfl
  · exact tcs_one _ u h
theorem enc_inj {p q : List El} (hp : p.length ≤ 10) (hq : q.length ≤ 10) (h : enc p = enc q) : p = q := by
  unfold enc at h
  obtain ⟨h1, h2⟩ := List.cons.inj h
  injection h1 with _ h1
  have e := tcs_inj (by rw [pad_length hp, pad_length hq]) h2
  rw [pad_eq hp, pad_eq hq] at e
  exact (List.append_inj e (by omega)).1

def ldQ (p : Value) : Sem Value := Instr.loadAt 93 p
def stQ (p v : Value) : Sem Unit := Instr.storeAt 93 p v
def lvQ (a : Addr) : Sem Value := loadVar 93 a
def bdQ (parts : Array (Nat × Value)) : Sem Value := Instr.build 93 parts
def bsQ (n : Nat) (parts : Array (Nat × Value)) : Sem Value := Instr.buildSlice 152 n parts
def ldM (p : Value) : Sem Value := Instr.loadAt 96 p
def stM (p v : Value) : Sem Unit := Instr.storeAt 96 p v
def lvM (a : Addr) : Sem Value := loadVar 96 a
def bdM (parts : Array (Nat × Value)) : Sem Value := Instr.build 96 parts
def ldX (p : Value) : Sem Value := Instr.loadAt 98 p
def stX (p v : Value) : Sem Unit := Instr.storeAt 98 p v
def lvX (a : Addr) : Sem Value := loadVar 98 a
def bdX (parts : Array (Nat × Value)) : Sem Value := Instr.build 98 parts
def bdK (parts : Array (Nat × Value)) : Sem Value := Instr.build 224 parts
def cpE (ts : Array TypeId) (ty : TypeId) (args : Array Value) : Sem Value := Builtin.copy_ ts ty args
def apE (ts : Array TypeId) (ty : TypeId) (args : Array Value) : Sem Value := Builtin.append_ ts ty args
def eqQ (x y : Value) : Sem Value := binOp .eql 93 x y
theorem ldQ_named (p : Value) : Instr.loadAt 93 p = ldQ p := rfl
theorem stQ_named (p v : Value) : Instr.storeAt 93 p v = stQ p v := rfl
theorem lvQ_named (a : Addr) : loadVar 93 a = lvQ a := rfl
theorem bdQ_named (parts : Array (Nat × Value)) : Instr.build 93 parts = bdQ parts := rfl
theorem bsQ_named (n : Nat) (parts : Array (Nat × Value)) : Instr.buildSlice 152 n parts = bsQ n parts := rfl
theorem ldM_named (p : Value) : Instr.loadAt 96 p = ldM p := rfl
theorem stM_named (p v : Value) : Instr.storeAt 96 p v = stM p v := rfl
theorem lvM_named (a : Addr) : loadVar 96 a = lvM a := rfl
theorem bdM_named (parts : Array (Nat × Value)) : Instr.build 96 parts = bdM parts := rfl
theorem ldX_named (p : Value) : Instr.loadAt 98 p = ldX p := rfl
theorem stX_named (p v : Value) : Instr.storeAt 98 p v = stX p v := rfl
theorem lvX_named (a : Addr) : loadVar 98 a = lvX a := rfl
theorem bdX_named (parts : Array (Nat × Value)) : Instr.build 98 parts = bdX parts := rfl
theorem bdK_named (parts : Array (Nat × Value)) : Instr.build 224 parts = bdK parts := rfl
theorem cpE_named (ts : Array TypeId) (ty : TypeId) (args : Array Value) : Builtin.copy_ ts ty args = cpE ts ty args := rfl
theorem apE_named (ts : Array TypeId) (ty : TypeId) (args : Array Value) : Builtin.append_ ts ty args = apE ts ty args := rfl
theorem eqQ_named (x y : Value) : binOp .eql 93 x y = eqQ x y := rfl

theorem infoQ : (Tryz.prog.info? 93).map (fun i => (i.zero, i.size, i.bytes)) = some (some (.agg (enc []).toArray), 21, 168) := by kernel_rfl
theorem sizeQ : (Tryz.prog.info? 93).map (·.size) = some 21 := by kernel_rfl
theorem sizeM : (Tryz.prog.info? 96).map (·.size) = some 22 := by kernel_rfl
theorem sizeX : (Tryz.prog.info? 98).map (·.size) = some 34 := by kernel_rfl
def modA (R : List Value) (F : Value) : Array Value := (R ++ [F]).toArray
def srchL (R : List Value) (F S : Value) (A : Nat → Nat) (m : Nat) : List Value := R ++ [F, S, .int .u16 (A 0), .int .u16 (A 1), .int .u16 (A 2), .int .u16 (A 3), .int .u16 (A 4), .int .u16 (A 5), .int .u16 (A 6), .int .u16 (A 7), .int .u16 (A 8), .int .u16 (A 9), .int .u16 m]
def srchA (R : List Value) (F S : Value) (A : Nat → Nat) (m : Nat) : Array Value := (srchL R F S A m).toArray

section
variable {w : World} {b o : Nat} {q : List El}
theorem ldQ_run (hq : q.length ≤ 10) (hc : w.rangeAt b o (enc q)) : (ldQ (.pointer (some ⟨b, o, none⟩))).run Tryz.prog w = .ok (.agg (enc q).toArray) w :=
  load_any Tryz.underlying93 rfl (by rw [enc_length hq]; exact sizeQ) hc
theorem lvQ_run (hq : q.length ≤ 10) (hc : w.rangeAt b o (enc q)) : (lvQ ⟨b, o, none⟩).run Tryz.prog w = .ok (.agg (enc q).toArray) w :=
  loadVar_any Tryz.underlying93 rfl (by rw [enc_length hq]; exact sizeQ) hc
theorem stQ_new (hq : q.length ≤ 10) (Z : Array Value) (t : TypeId) (hb : b = w.heap.size) (hZ : Z.size = 21) : (stQ (.pointer (some ⟨b, 0, none⟩)) (.agg (enc q).toArray)).run Tryz.prog (w.alloc (.cells Z t)) = .ok () (w.alloc (.cells (enc q).toArray t)) :=
  storeNew_any (by simp [enc_length hq, hZ]) (by rw [List.size_toArray, enc_length hq]; exact sizeQ) (by simpa using enc_one q) hb t
theorem ldM_run {R : List Value} {F : Value} (hR : R.length = 21) (hc : w.rangeAt b o (R ++ [F])) : (ldM (.pointer (some ⟨b, o, none⟩))).run Tryz.prog w = .ok (.agg (modA R F)) w :=
  load_any Tryz.underlying96 rfl (by rw [show (R ++ [F]).length = 22 by simp [hR]]; exact sizeM) hc
theorem lvM_run {R : List Value} {F : Value} (hR : R.length = 21) (hc : w.rangeAt b o (R ++ [F])) : (lvM ⟨b, o, none⟩).run Tryz.prog w = .ok (.agg (modA R F)) w :=
  loadVar_any Tryz.underlying96 rfl (by rw [show (R ++ [F]).length = 22 by simp [hR]]; exact sizeM) hc
theorem srchL_length {R : List Value} (hR : R.length = 21) (F S : Value) (A : Nat → Nat) (m : Nat) : (srchL R F S A m).length = 34 := by simp [srchL, hR]
theorem ldX_run {R : List Value} {F S : Value} {A : Nat → Nat} {m : Nat} (hR : R.length = 21) (hc : w.rangeAt b o (srchL R F S A m)) : (ldX (.pointer (some ⟨b, o, none⟩))).run Tryz.prog w = .ok (.agg (srchA R F S A m)) w :=
  load_any Tryz.underlying98 rfl (by rw [srchL_length hR]; exact sizeX) hc
theorem lvX_run {R : List Value} {F S : Value} {A : Nat → Nat} {m : Nat} (hR : R.length = 21) (hc : w.rangeAt b o (srchL R F S A m)) : (lvX ⟨b, o, none⟩).run Tryz.prog w = .ok (.agg (srchA R F S A m)) w :=
  loadVar_any Tryz.underlying98 rfl (by rw [srchL_length hR]; exact sizeX) hc
theorem stX_new {R : List Value} {F S : Value} {A : Nat → Nat} {m : Nat} (hR : R.length = 21) (h1 : ∀ v ∈ srchL R F S A m, v.oneCell' = true) (Z : Array Value) (t : TypeId) (hb : b = w.heap.size) (hZ : Z.size = 34) : (stX (.pointer (some ⟨b, 0, none⟩)) (.agg (srchA R F S A m))).run Tryz.prog (w.alloc (.cells Z t)) = .ok () (w.alloc (.cells (srchA R F S A m) t)) :=
  storeNew_any (by simp [srchA, srchL_length hR, hZ]) (by rw [show (srchA R F S A m).size = 34 by simp [srchA, srchL_length hR]]; exact sizeX) (by simpa [srchA] using h1) hb t
end
theorem srch_one {R : List Value} (h : ∀ v ∈ R, v.oneCell' = true) {F S : Value} (hF : F.oneCell' = true) (hS : S.oneCell' = true) (A : Nat → Nat) (m : Nat) : ∀ v ∈ srchL R F S A m, v.oneCell' = true := by
  intro v hv
  unfold srchL at hv
  rcases List.mem_append.1 hv with hv | hv
  · exact h v hv
  · simp at hv
    rcases hv with rfl | rfl | rfl | rfl | rfl | rfl | rfl | rfl | rfl | rfl | rfl | rfl | rfl <;> first | assumption | rfl

theorem eleven {q : List El} (h : q.length = 10) : ∃ x0 x1 x2 x3 x4 x5 x6 x7 x8 x9, q = [x0, x1, x2, x3, x4, x5, x6, x7, x8, x9] := by
  match q, h with
  | [x0, x1, x2, x3, x4, x5, x6, x7, x8, x9], _ => exact ⟨x0, x1, x2, x3, x4, x5, x6, x7, x8, x9, rfl⟩
theorem bdK_run {q : List El} (hq : q.length ≤ 10) (D : Int) (w : World) : (bdK #[(0, .int .u16 D), (1, .agg (enc q).toArray)]).run Tryz.prog w = .ok (.agg (.int .u16 D :: enc q).toArray) w := by
  obtain ⟨x0, x1, x2, x3, x4, x5, x6, x7, x8, x9, e⟩ := eleven (pad_length hq)
  unfold enc
  rw [e]
  unfold bdK
  refine run_build w _ _ _ ?_
  kernel_rfl
theorem bdM_run {q : List El} (hq : q.length ≤ 10) (g : Nat) (bs : Array Value) (cs : Array Value) (w : World) : (bdM #[(0, .agg (enc q).toArray), (1, .func (.func g) bs cs)]).run Tryz.prog w = .ok (.agg (modA (enc q) (.func (.func g) bs cs))) w := by
  obtain ⟨x0, x1, x2, x3, x4, x5, x6, x7, x8, x9, e⟩ := eleven (pad_length hq)
  unfold enc
  rw [e]
  unfold bdM
  refine run_build w _ _ _ ?_
  kernel_rfl
theorem bdX_run {q : List El} (hq : q.length ≤ 10) (g : Nat) (bs cs : Array Value) (a : Option Addr) (n c : Nat) (w : World) : (bdX #[(0, .agg (modA (enc q) (.func (.func g) bs cs))), (1, .slice a n c)]).run Tryz.prog w = .ok (.agg (srchA (enc q) (.func (.func g) bs cs) (.slice a n c) (fun _ => 0) 0)) w := by
  obtain ⟨x0, x1, x2, x3, x4, x5, x6, x7, x8, x9, e⟩ := eleven (pad_length hq)
  unfold enc
  rw [e]
  unfold bdX
  refine run_build w _ _ _ ?_
  kernel_rfl
theorem bdQ_run (n : Int) (w : World) : (bdQ #[(0, .int .i64 n)]).run Tryz.prog w = .ok (.agg (Value.int .i64 n :: tcs (pad [])).toArray) w := by
  unfold bdQ
  refine run_build w _ _ _ ?_
  kernel_rfl
theorem bsQ_run {q : List El} (hq : q.length ≤ 10) (w : World) : (bsQ 1 #[(0, .agg (enc q).toArray)]).run Tryz.prog w = .ok (.slice (some ⟨w.heap.size, 0, none⟩) 1 1) (w.alloc (.cells (enc q).toArray 93)) := by
  obtain ⟨x0, x1, x2, x3, x4, x5, x6, x7, x8, x9, e⟩ := eleven (pad_length hq)
  unfold enc
  rw [e]
  unfold bsQ
  kernel_rfl
end Go.Proofs.YtbfmmndpboagdaaGreatDoor.SH

namespace Go.Proofs.YtbfmmndpboagdaaGreatDoor.SH
set_option maxRecDepth 100000
open Go.RowKit Go.Maps

def Okq (q : List El) : Prop := q.length ≤ 10 ∧ ∀ x ∈ q, (Lit.int .u64 x.k).wf = true ∧ (Lit.int .i64 x.a).wf = true
theorem ok_pad {q : List El} (h : Okq q) : ∀ x ∈ pad q, (Lit.int .u64 x.k).wf = true ∧ (Lit.int .i64 x.a).wf = true := by
  intro x hx
  rw [pad_eq h.1] at hx
  rcases List.mem_append.1 hx with hx | hx
  · exact h.2 x hx
  · rw [(List.mem_replicate.1 hx).2]
    unfold z0
    decide
theorem laidOut : laidOutB Tryz.prog = true := by kernel_rfl
theorem keyAtQ : Tryz.prog.keyTypeAt 4 93 = true := by kernel_rfl
theorem keyAtK : Tryz.prog.keyTypeAt 5 224 = true := by kernel_rfl
theorem rowK : (224 : TypeId) < Tryz.prog.types.size := of_decide_eq_true (by kernel_rfl)
theorem wideK : (match Tryz.prog.underlying 224 with | some (.array _ _) | some (.struct _) => true | _ => false) = true := by kernel_rfl
theorem keyed : Keyed Tryz.prog 224 := Keyed.of_law (deep_law_laid laidOut (m := 5) (by omega) rowK keyAtK wideK)
theorem cellsQ : Tryz.prog.cellsOf 93 = 21 := by kernel_rfl
theorem cellsK : Tryz.prog.cellsOf 224 = 22 := by kernel_rfl
theorem cellsAr : Tryz.prog.cellsOf 91 = 10 * 2 := by kernel_rfl
theorem cellsE : Tryz.prog.cellsOf 90 = 2 := by kernel_rfl
theorem cellsI : Tryz.prog.cellsOf 3 = 1 := by kernel_rfl
theorem cellsU : Tryz.prog.cellsOf 22 = 1 := by kernel_rfl
theorem cellsS : Tryz.prog.cellsOf 82 = 1 := by kernel_rfl
theorem wf_len {n : Nat} (h : n ≤ 10) : (Lit.int .i64 (n : Nat)).wf = true := by
  have e : IntKind.i64.min = -9223372036854775808 := by decide
  simp [Lit.wf, e]
  omega
theorem wf_set {D : Nat} (h : D < 65536) : (Lit.int .u16 (D : Nat)).wf = true := by
  have e : IntKind.u16.min = 0 := by decide
  have e' : IntKind.u16.max = 65535 := by decide
  simp [Lit.wf, e, e']
  omega
theorem mapM_some {α β : Type} {f : α → Option β} : ∀ {l : List α}, (∀ x ∈ l, ∃ y, f x = some y) → ∃ ys, l.mapM f = some ys := by
  intro l
  induction l with
  | nil => intro _; exact ⟨[], rfl⟩
  | cons x l ih =>
    intro h
    obtain ⟨y, hy⟩ := h x (List.mem_cons_self ..)
    obtain ⟨ys, hys⟩ := ih fun z hz => h z (List.mem_cons_of_mem _ hz)
    exact ⟨y :: ys, by simp [List.mapM_cons, hy, hys]⟩
theorem lits_el (d : Nat) {x : El} (h : (Lit.int .u64 x.k).wf = true ∧ (Lit.int .i64 x.a).wf = true) : ∃ L, Tryz.prog.keyLits (d + 2) 90 (elc x) = some L := by
  obtain ⟨fs, hu, h1, h2⟩ : ∃ fs : Array Field, Tryz.prog.underlying 90 = some (.struct fs) ∧ fs.all (·.name != "_") = true ∧ fs.toList.map (fun f => (f.offset, f.type)) = [(0, 22), (1, 3)] := ⟨_, Tryz.underlying90, by kernel_rfl, by kernel_rfl⟩
  unfold Program.keyLits
  simp only [hu]
  rw [if_pos ⟨by rw [cellsE]; rfl, h1⟩]
  obtain ⟨ys, hys⟩ := mapM_some (f := fun f : Field => Tryz.prog.keyLits (d + 1) f.type (((elc x).drop f.offset).take (Tryz.prog.cellsOf f.type))) (l := fs.toList) fun f hf => by
    have hm : (f.offset, f.type) ∈ fs.toList.map (fun f => (f.offset, f.type)) := List.mem_map.2 ⟨f, hf, rfl⟩
    rw [h2] at hm
    simp at hm
    rcases hm with ⟨e1, e2⟩ | ⟨e1, e2⟩
    · rw [e1, e2, cellsU]
      refine ⟨[.int .u64 x.k], ?_⟩
      unfold Program.keyLits elc
      simp [Tryz.underlying22, h.1]
    · rw [e1, e2, cellsI]
      refine ⟨[.int .i64 x.a], ?_⟩
      unfold Program.keyLits elc
      simp [Tryz.underlying3, h.2]
  exact ⟨ys.flatten, by rw [hys]; rfl⟩
theorem drop_tcs (q : List El) (i : Nat) (x : El) (h : q[i]? = some x) : ((tcs q).drop (i * 2)).take 2 = elc x := by
  rw [tcs_flat]
  induction q generalizing i with
  | nil => simp at h
  | cons y q ih =>
    rw [List.flatMap_cons]
    cases i with
    | zero => simp at h; subst h; simp [elc]
    | succ i =>
      rw [show (i + 1) * 2 = (elc y).length + i * 2 by rw [elc_length]; omega, ← List.drop_drop, List.drop_left]
      exact ih i (by simpa using h)
theorem lits_arr (d : Nat) {p : List El} (hp : p.length = 10) (h : ∀ x ∈ p, (Lit.int .u64 x.k).wf = true ∧ (Lit.int .i64 x.a).wf = true) : ∃ L, Tryz.prog.keyLits (d + 3) 91 (tcs p) = some L := by
  have hu : Tryz.prog.underlying 91 = some (.array 10 90) := Tryz.underlying91
  unfold Program.keyLits
  simp only [hu]
  rw [if_pos (by rw [cellsAr, tcs_length, hp])]
  obtain ⟨ys, hys⟩ := mapM_some (f := fun i => Tryz.prog.keyLits (d + 2) 90 (((tcs p).drop (i * Tryz.prog.cellsOf 90)).take (Tryz.prog.cellsOf 90))) (l := List.range 10) fun i hi => by
    have hi' := List.mem_range.1 hi
    have hx : p[i]? = some p[i] := List.getElem?_eq_getElem (by omega)
    rw [cellsE, drop_tcs p i _ hx]
    exact lits_el d (h _ (List.mem_of_getElem? hx))
  exact ⟨ys.flatten, by rw [hys]; rfl⟩
theorem lits_state (d : Nat) {q : List El} (h : Okq q) : ∃ L, Tryz.prog.keyLits (d + 4) 93 (enc q) = some L := by
  obtain ⟨fs, hu, h1, h2⟩ : ∃ fs : Array Field, Tryz.prog.underlying 93 = some (.struct fs) ∧ fs.all (·.name != "_") = true ∧ fs.toList.map (fun f => (f.offset, f.type)) = [(0, 3), (1, 91)] := ⟨_, Tryz.underlying93, by kernel_rfl, by kernel_rfl⟩
  unfold Program.keyLits
  simp only [hu]
  rw [if_pos ⟨by rw [cellsQ, enc_length h.1], h1⟩]
  obtain ⟨ys, hys⟩ := mapM_some (f := fun f : Field => Tryz.prog.keyLits (d + 3) f.type (((enc q).drop f.offset).take (Tryz.prog.cellsOf f.type))) (l := fs.toList) fun f hf => by
    have hm : (f.offset, f.type) ∈ fs.toList.map (fun f => (f.offset, f.type)) := List.mem_map.2 ⟨f, hf, rfl⟩
    rw [h2] at hm
    simp at hm
    rcases hm with ⟨e1, e2⟩ | ⟨e1, e2⟩
    · rw [e1, e2, cellsI]
      refine ⟨[.int .i64 (q.length : Nat)], ?_⟩
      unfold Program.keyLits enc
      simp [Tryz.underlying3, wf_len h.1]
    · rw [e1, e2, cellsAr]
      obtain ⟨L, hL⟩ := lits_arr d (pad_length h.1) (ok_pad h)
      refine ⟨L, ?_⟩
      rw [← hL]
      congr 1
      unfold enc
      simp only [List.drop_succ_cons, List.drop_zero]
      exact List.take_of_length_le (by rw [tcs_length, pad_length h.1]; omega)
  exact ⟨ys.flatten, by rw [hys]; rfl⟩
def trc (D : Nat) (q : List El) : List Value := .int .u16 (D : Nat) :: enc q
theorem trc_length {D : Nat} {q : List El} (h : q.length ≤ 10) : (trc D q).length = 22 := by simp [trc, enc_length h]
theorem lits_tried (d : Nat) {D : Nat} (hD : D < 65536) {q : List El} (h : Okq q) : ∃ L, Tryz.prog.keyLits (d + 5) 224 (trc D q) = some L := by
  obtain ⟨fs, hu, h1, h2⟩ : ∃ fs : Array Field, Tryz.prog.underlying 224 = some (.struct fs) ∧ fs.all (·.name != "_") = true ∧ fs.toList.map (fun f => (f.offset, f.type)) = [(0, 82), (1, 93)] := ⟨_, Tryz.underlying224, by kernel_rfl, by kernel_rfl⟩
  unfold Program.keyLits
  simp only [hu]
  rw [if_pos ⟨by rw [cellsK, trc_length h.1], h1⟩]
  obtain ⟨ys, hys⟩ := mapM_some (f := fun f : Field => Tryz.prog.keyLits (d + 4) f.type (((trc D q).drop f.offset).take (Tryz.prog.cellsOf f.type))) (l := fs.toList) fun f hf => by
    have hm : (f.offset, f.type) ∈ fs.toList.map (fun f => (f.offset, f.type)) := List.mem_map.2 ⟨f, hf, rfl⟩
    rw [h2] at hm
    simp at hm
    rcases hm with ⟨e1, e2⟩ | ⟨e1, e2⟩
    · rw [e1, e2, cellsS]
      refine ⟨[.int .u16 (D : Nat)], ?_⟩
      unfold Program.keyLits trc
      simp [Tryz.underlying82, wf_set hD]
    · rw [e1, e2, cellsQ]
      obtain ⟨L, hL⟩ := lits_state d h
      refine ⟨L, ?_⟩
      rw [← hL]
      congr 1
      unfold trc
      simp only [List.drop_succ_cons, List.drop_zero]
      exact List.take_of_length_le (by rw [enc_length h.1]; omega)
  exact ⟨ys.flatten, by rw [hys]; rfl⟩
theorem formedQ {q : List El} (h : q.length ≤ 10) : (Value.agg (enc q).toArray).formed Tryz.prog 93 = true := by
  obtain ⟨fs, hu⟩ : ∃ fs, Tryz.prog.underlying 93 = some (.struct fs) := ⟨_, Tryz.underlying93⟩
  simp [Value.formed, hu, cellsQ, enc_length h]
theorem formedK {D : Nat} {q : List El} (h : q.length ≤ 10) : (Value.agg (trc D q).toArray).formed Tryz.prog 224 = true := by
  obtain ⟨fs, hu⟩ : ∃ fs, Tryz.prog.underlying 224 = some (.struct fs) := ⟨_, Tryz.underlying224⟩
  simp [Value.formed, hu, cellsK, trc_length h]

theorem eqQ_run {p q : List El} (hp : Okq p) (hq : Okq q) (w : World) : (eqQ (.agg (enc p).toArray) (.agg (enc q).toArray)).run Tryz.prog w = .ok (.bool (decide (p = q))) w := by
  obtain ⟨L, hL⟩ := lits_state 0 hp
  obtain ⟨M, hM⟩ := lits_state 0 hq
  obtain ⟨r, hr, hiff⟩ := run_equalIn_deep 9996 4 93 keyAtQ w 4 4 _ _ L M (formedQ hp.1) (formedQ hq.1) (by simpa [Value.cells] using hL) (by simpa [Value.cells] using hM)
  unfold eqQ
  rw [run_eql_struct, hr]
  have ht := tiled_of_laidOut laidOut 4 93 (by kernel_rfl) keyAtQ
  have hpq : L = M ↔ p = q := by
    constructor
    · intro e
      refine enc_inj hp.1 hq.1 ?_
      rw [cells_of_lits 4 _ ht _ _ _ hL, cells_of_lits 4 _ ht _ _ _ hM, e]
    · intro e
      subst e
      rw [hL] at hM
      exact Option.some.inj hM
  have : r = decide (p = q) := by
    cases r with
    | true => rw [decide_eq_true (hpq.1 (hiff.1 rfl))]
    | false =>
      rw [decide_eq_false]
      intro e
      have := hiff.2 (hpq.2 e)
      cases this
  rw [this]
  rfl

theorem key_of {D : Nat} (hD : D < 65536) {q : List El} (h : Okq q) : ∃ s, keyOf Tryz.prog 224 (.agg (trc D q).toArray) = some s := by
  have hnum : 4 < Tryz.prog.types.size := Nat.lt_trans (m := 224) (by decide) rowK
  obtain ⟨k, hk⟩ : ∃ k, Tryz.prog.types.size + 1 = k + 5 := ⟨Tryz.prog.types.size - 4, by omega⟩
  obtain ⟨L, hL⟩ := lits_tried k hD h
  obtain ⟨fs, hu⟩ : ∃ fs, Tryz.prog.underlying 224 = some (.struct fs) := ⟨_, Tryz.underlying224⟩
  refine ⟨.string (keyBytes L), ?_⟩
  unfold keyOf
  simp only [hu]
  have hK : Tryz.prog.keyType 224 = true := by kernel_rfl
  rw [hK, formedK h.1, hk]
  have e : (Value.agg (trc D q).toArray).cells.toList = trc D q := by simp [Value.cells]
  rw [e, hL]
  rfl
theorem trc_inj {D E : Nat} {p q : List El} (hp : p.length ≤ 10) (hq : q.length ≤ 10) (h : (Value.agg (trc D p).toArray) = .agg (trc E q).toArray) : D = E ∧ p = q := by
  injection h with h
  have h := congrArg Array.toList h
  simp only [trc] at h
  obtain ⟨h1, h2⟩ := List.cons.inj h
  injection h1 with _ h1
  exact ⟨by omega, enc_inj hp hq h2⟩
def Fail (R : Nat → List El → Prop) (w : World) (b n : Nat) : Prop :=
  ∃ Dt : DataW Unit, w.ownsMap Tryz.prog 224 unitElem b n Dt ∧ ∀ D q s, D < 65536 → Okq q → keyOf Tryz.prog 224 (.agg (trc D q).toArray) = some s → Maps.has Dt s = true → R D q
variable {R : Nat → List El → Prop} {w w' : World} {b n : Nat}
theorem owns_as {k : TypeId} {Rd : Value → Option (DataW Unit × List MemPlace)} {D : DataW Unit} (h : w.ownsMap Tryz.prog k Rd b n D) (hs : w'.heap[b]? = w.heap[b]?) : w'.ownsMap Tryz.prog k Rd b n D := by
  obtain ⟨es, clock, hb, r⟩ := h
  exact ⟨es, clock, hs.trans hb, r⟩
theorem Fail.lt (h : Fail R w b n) : b < w.heap.size := by obtain ⟨D, h, _⟩ := h; exact h.lt
theorem Fail.same (h : Fail R w b n) (hs : w'.heap[b]? = w.heap[b]?) : Fail R w' b n := by obtain ⟨D, h, r⟩ := h; exact ⟨D, owns_as h hs, r⟩
theorem Fail.kept (h : Fail R w b n) (k : Kept w w') : Fail R w' b n := h.same (k.below.block b h.lt)
theorem Fail.but {S : Nat → Prop} (h : Fail R w b n) (k : But S w w') (hS : ¬ S b) : Fail R w' b n := h.same (k.block b h.lt hS)
theorem Fail.mono (h : Fail R w b n) {n' : Nat} (hn : n ≤ n') : Fail R w b n' := by obtain ⟨D, h, r⟩ := h; exact ⟨D, h.mono hn, r⟩
theorem Fail.made (R : Nat → List El → Prop) (w : World) (b : Nat) (hb : b = w.heap.size) : Fail R (w.alloc (.map #[] 0)) b 0 := by
  subst hb
  exact ⟨.map [], World.ownsMap_made w _ _ _, fun D q s _ _ _ h => by cases h⟩
theorem zeroUn (w : World) : (zeroValue 210).run Tryz.prog w = .ok (.agg #[]) w := by kernel_rfl
theorem turned_as (h : w.mapTurned w' b) : But (fun k => k = b) w w' :=
  ⟨h.grown.os, h.grown.tape, h.grown.output, h.grown.size, fun k hk hS => h.grown.block k hk (fun e => hS (by cases e; rfl)), fun a _ => h.frozen a⟩
theorem Fail.put (h : Fail R w b n) (hn : n < maxLen) {D : Nat} (hD : D < 65536) {q : List El} (hq : Okq q) (hR : R D q) :
    ∃ w', (Instr.mapUpdate 220 (.map (some b)) (.agg (trc D q).toArray) (.agg #[])).run Tryz.prog w = .ok () w' ∧ Fail R w' b (n + 1) ∧ But (fun k => k = b) w w' := by
  obtain ⟨s, hs⟩ := key_of hD hq
  obtain ⟨Dt, h, hr⟩ := h
  obtain ⟨w', hrun, h', ht⟩ := h.store keyed Tryz.underlying220 hn hs unitElem_mk
  refine ⟨w', hrun, ⟨_, h', fun E p s' hE hp hs' hh => ?_⟩, turned_as ht⟩
  by_cases e : s' = s
  · subst e
    obtain ⟨rfl, rfl⟩ := trc_inj hp.1 hq.1 (keyed.inj hs' hs)
    exact hR
  · rw [has_put_other e] at hh
    exact hr E p s' hE hp hs' hh
end Go.Proofs.YtbfmmndpboagdaaGreatDoor.SH

namespace Go.Proofs.YtbfmmndpboagdaaGreatDoor.SH
open Go.RowKit
attribute [local go_sem ↓] ldQ_named stQ_named lvQ_named bdQ_named bsQ_named cpE_named apE_named eqQ_named

theorem stQ_cells {w : World} {b : Nat} {cs : List Value} (hl : cs.length = 21) (h1 : ∀ u ∈ cs, u.oneCell' = true) (Z : Array Value) (t : TypeId) (hb : b = w.heap.size) (hZ : Z.size = 21) : (stQ (.pointer (some ⟨b, 0, none⟩)) (.agg cs.toArray)).run Tryz.prog (w.alloc (.cells Z t)) = .ok () (w.alloc (.cells cs.toArray t)) :=
  storeNew_any (by simp [hl, hZ]) (by rw [List.size_toArray, hl]; exact sizeQ) (by simpa using h1) hb t
theorem stQ_old {w : World} {b : Nat} {q : List El} (hq : q.length ≤ 10) (Z : Array Value) (t : TypeId) (X : Obj) (hb : b = w.heap.size) (hZ : Z.size = 21) : (stQ (.pointer (some ⟨b, 0, none⟩)) (.agg (enc q).toArray)).run Tryz.prog ((w.alloc (.cells Z t)).alloc X) = .ok () ((w.alloc (.cells (enc q).toArray t)).alloc X) :=
  storeOld_any (by simp [enc_length hq, hZ]) (by rw [List.size_toArray, enc_length hq]; exact sizeQ) (by simpa using enc_one q) hb t X
theorem state_result {fn : Func} {tmps : Array Value} {n b : Nat} {w : World} {q : List El} (hr : fn.results = #[.cell n 93]) (ht : tmps.getD n undef = .pointer (some ⟨b, 0, none⟩)) (hq : q.length ≤ 10) (h : w.rangeAt b 0 (enc q)) :
    (results fn tmps).run Tryz.prog w = .ok (.agg (enc q).toArray) w := by
  have hv := lvQ_run hq h
  unfold lvQ at hv
  have ht' : tmps[n]?.getD undef = .pointer (some ⟨b, 0, none⟩) := by simpa using ht
  unfold results
  rw [hr]
  simp [ht', asAddr, hv]
theorem cp_run {w : World} {b : Nat} {q : List El} (hq : q.length ≤ 10) {v : Value} {n : Nat} (hn : n = q.length) (hl : Lay w v n (tcs q)) (hb : b = w.heap.size) (ty : TypeId) :
    (cpE #[65, 65] ty #[.slice (some ⟨b, 1, none⟩) 10 10, v]).run Tryz.prog (w.alloc (.cells (Value.int .i64 (n : Nat) :: tcs (pad [])).toArray 93)) = .ok (goInt n) (w.alloc (.cells (enc q).toArray 93)) := by
  subst hb
  subst hn
  have kA : Kept w (w.alloc (.cells (Value.int .i64 (q.length : Nat) :: tcs (pad [])).toArray 93)) := (Kept.refl w).alloc _ _
  have hp : (pad ([] : List El)).length = 10 := rfl
  have h := copy_any (w.alloc (.cells (Value.int .i64 (q.length : Nat) :: tcs (pad [])).toArray 93)) 65 65 ty 90 w.heap.size 1 10 10 v q.length 2 (tcs q) Tryz.underlying65 (by kernel_rfl) (hl.kept kA) (tcs_length q) hq
    (fun j hj => by
      rw [cell_new _ _ _ _ _ rfl]
      rw [tcs_length] at hj
      refine ⟨?_, soft_new _ _ _ _ _ rfl⟩
      rw [Array.getElem?_eq_getElem (by simp [tcs_length, hp]; omega)]
      rfl) (tcs_one q)
  unfold cpE
  rw [h]
  have e := setCells_mid w 93 (tcs q) [Value.int .i64 (q.length : Nat)] (tcs (List.replicate q.length z0)) (tcs (List.replicate (10 - q.length) z0)) (by rw [tcs_length, tcs_length, List.length_replicate])
  have e1 : tcs (pad []) = tcs (List.replicate q.length z0) ++ tcs (List.replicate (10 - q.length) z0) := by
    rw [← tcs_append, List.replicate_append_replicate, show q.length + (10 - q.length) = 10 by omega]
    rfl
  have e2 : enc q = [Value.int .i64 (q.length : Nat)] ++ tcs q ++ tcs (List.replicate (10 - q.length) z0) := by simp [enc, pad_eq hq, tcs_append]
  rw [e1, e2]
  simpa using e

set_option maxRecDepth 100000 in
set_option maxHeartbeats 2000000 in
theorem stateOf_any {w : World} {a : Option Addr} {n c : Nat} {q : List El} (h : Lay w (.slice a n c) n (tcs q)) (hn : n = q.length) (hq : q.length ≤ 10) :
    Calls Tryz.prog 86 #[.slice a n c] w fun e w' => e = .returned (.agg (enc q).toArray) ∧ Kept w w' := by
  have B := fun W => bdQ_run (n : Int) W
  have S := fun (W : World) b (Z : Array Value) t (hb : b = W.heap.size) (hZ : Z.size = 21) => stQ_cells (w := W) (b := b) (cs := Value.int .i64 (n : Nat) :: tcs (pad [])) (by simp [tcs_length, pad_length]) (fun u hu => by
    rcases List.mem_cons.1 hu with rfl | hu
    · rfl
    · exact tcs_one _ u hu) Z t hb hZ
  have w1 : Kept w (w.alloc (.cells #[.int .i64 0, .int .u64 0, .int .i64 0, .int .u64 0, .int .i64 0, .int .u64 0, .int .i64 0, .int .u64 0, .int .i64 0, .int .u64 0, .int .i64 0, .int .u64 0, .int .i64 0, .int .u64 0, .int .i64 0, .int .u64 0, .int .i64 0, .int .u64 0, .int .i64 0, .int .u64 0, .int .i64 0] 93)) := (Kept.refl w).alloc _ _
  have C := fun ty => cp_run (b := w.heap.size + 1) hq hn (h.kept w1) (by simp) ty
  have L := fun (W : World) b (hb : b = W.heap.size) => ldQ_run (w := W.alloc (.cells (enc q).toArray 93)) (b := b) (o := 0) hq (by have := range_new W (enc q).toArray 93 b hb; simpa using this)
  have O := fun (W : World) b (Z : Array Value) t X (hb : b = W.heap.size) (hZ : Z.size = 21) => stQ_old (w := W) (b := b) hq Z t X hb hZ
  clear h w1 hn
  go_enter Tryz.func86, Tryz.ntmps86
  go_wp2
  refine bodyPost_ret (state_result Tryz.results86 rfl hq ?_) rfl ⟨rfl, ((Kept.refl w).alloc _ _).alloc _ _⟩
  have := range_kept (range_new w (enc q).toArray 93 w.heap.size rfl) ((Kept.refl _).alloc (enc q).toArray 93)
  simpa using this

theorem list_any (w : World) {q : List El} (hq : q.length ≤ 10) :
    Calls Tryz.prog 85 #[.agg (enc q).toArray] w fun e w' => ∃ a c, e = .returned (.slice a q.length c) ∧ Kept w w' ∧ Lay w' (.slice a q.length c) q.length (tcs q) := by
  have c0 : (w.alloc (.cells (enc q).toArray 93)).cell? ⟨w.heap.size, 0, none⟩ = some (.int .i64 (q.length : Nat)) := by rw [cell_new _ _ _ _ _ rfl]; rfl
  have HL := Lib.hid (show Lay (w.alloc (.cells (enc q).toArray 93)) (.slice (some ⟨w.heap.size, 1, none⟩) q.length 10) q.length (tcs q) from .inl (.inr ⟨w.heap.size, 1, 10, rfl, hq, by decide, fun j u hu => by
    rw [cell_new _ _ _ _ _ rfl]
    have h2 : (enc q)[1 + j]? = some u := by
      unfold enc
      rw [pad_eq hq, tcs_append, Nat.add_comm, List.getElem?_cons_succ, List.getElem?_append_left (List.getElem?_eq_some_iff.1 hu).1]
      exact hu
    simpa using h2⟩))
  obtain ⟨n, hn⟩ : ∃ n, n = q.length := ⟨_, rfl⟩
  rw [← hn] at c0 hq HL ⊢
  have h10 : (n : Int) ≤ 10 := by omega
  obtain ⟨W0, hW0⟩ : ∃ W0, w.alloc (.cells (enc q).toArray 93) = W0 := ⟨_, rfl⟩
  have K0 : Kept w W0 := by rw [← hW0]; exact (Kept.refl w).alloc _ _
  have HW := Lib.hid hW0
  rw [hW0] at c0 HL
  clear hn hW0
  go_enter Tryz.func85, Tryz.ntmps85
  go_upto_region 1 with fail
  rw [HW.out]
  go_wp2
  go_ret
  exact ⟨_, _, rfl, K0, HL.out⟩

abbrev Stt := List El
theorem ldQ_ok {w : World} {b o : Nat} {q : Stt} (h : Okq q) (hc : w.rangeAt b o (enc q)) : (ldQ (.pointer (some ⟨b, o, none⟩))).run Tryz.prog w = .ok (.agg (enc q).toArray) w := ldQ_run h.1 hc
theorem stQ_fresh {w : World} {b : Nat} {q : Stt} (h : Okq q) (Z : Array Value) (t : TypeId) (hb : b = w.heap.size) (hZ : Z.size = 21) : (stQ (.pointer (some ⟨b, 0, none⟩)) (.agg (enc q).toArray)).run Tryz.prog (w.alloc (.cells Z t)) = .ok () (w.alloc (.cells (enc q).toArray t)) := stQ_new h.1 Z t hb hZ
theorem stQ_mid {w : World} {b o : Nat} {q : Stt} (h : Okq q) (ht : w.there b o 21) : (stQ (.pointer (some ⟨b, o, none⟩)) (.agg (enc q).toArray)).run Tryz.prog w = .ok () (w.setCells b o (enc q)) := by
  have := storeMid_any (w := w) (b := b) (o := o) (T := 93) (R := (enc q).toArray) (by simpa [enc_length h.1] using ht) (by rw [List.size_toArray, enc_length h.1]; exact sizeQ) (by simpa using enc_one q)
  unfold stQ
  simpa using this
end Go.Proofs.YtbfmmndpboagdaaGreatDoor.SH

namespace Go.Proofs.YtbfmmndpboagdaaGreatDoor.SH
open Go.RowKit
attribute [local go_sem ↓] ldQ_named stQ_named lvQ_named bdQ_named bsQ_named cpE_named apE_named eqQ_named
attribute [local go_sem] Kept.refl Kept.drew Kept.drewN Kept.alloc

theorem st_one {w : World} {a : Option Addr} {n c : Nat} {S : List (List El)} (h : Lay w (.slice a n c) n (flatQ S)) (hn : n = S.length) (i : Nat) (q : List El) (hq : S[i]? = some q) :
    ∃ g o, a = some ⟨g, o, none⟩ ∧ w.rangeAt g (o + i * 21) (enc q) := by
  have hi := (List.getElem?_eq_some_iff.1 hq).1
  obtain ⟨g, o, c', e, _, _, hc⟩ := h.at (by omega)
  cases e
  refine ⟨g, o, rfl, fun j v hv => ?_⟩
  have hj : j < 21 := by have := (List.getElem?_eq_some_iff.1 hv).1; rw [enc_len] at this; exact this
  rw [Nat.add_assoc]
  exact hc _ _ ((flatQ_get S i j q hq hj).trans hv)
set_option maxRecDepth 100000 in
set_option maxHeartbeats 4000000 in
theorem index_any {w : World} {a : Option Addr} {n c : Nat} {S : List (List El)} (h : Lay w (.slice a n c) n (flatQ S)) (hn : n = S.length) (hS : ∀ q ∈ S, Okq q) {x : List El} (hx : Okq x) :
    Calls Tryz.prog 153 #[.slice a n c, .agg (enc x).toArray] w fun e w' => (∃ r : Int, e = .returned (.int .i64 r) ∧ decide (r ≥ 0) = decide (x ∈ S)) ∧ Kept w w' := by
  obtain ⟨a', c', e, hnc, hcm⟩ := h.form
  cases e
  unfold maxLen at hcm
  have CE := Lib.hid (fun W (k : Kept w W) i y hy => st_one (h.kept k) hn i y hy)
  have HN := Lib.hid hn
  have BX := Lib.hid (show (w.alloc (.cells (enc x).toArray 93)).rangeAt w.heap.size 0 (enc x) by have := range_new w (enc x).toArray 93 w.heap.size rfl; simpa using this)
  obtain ⟨W0, hW0⟩ : ∃ W0, w.alloc (.cells (enc x).toArray 93) = W0 := ⟨_, rfl⟩
  have K0 := Lib.hid (show Kept w W0 by rw [← hW0]; exact (Kept.refl w).alloc _ _)
  have HW := Lib.hid hW0
  rw [hW0] at BX
  have HS := Lib.hid hS
  have HX := Lib.hid hx
  clear h hn hW0 hS hx
  go_enter Tryz.func153, Tryz.ntmps153
  go_upto_region 1 with fail
  rw [HW.out]
  go_wp2
  go_loopw [8] (fun i wr => ∃ k : Nat, k ≤ n ∧ i = .int .i64 k ∧ (∀ j y, j < k → S[j]? = some y → x ≠ y) ∧ Kept W0 wr) (fun i _ => n - (intOf i).toNat)
  case atStart => exact ⟨0, Nat.zero_le _, rfl, fun j y hj => by omega, Kept.refl _⟩
  case round =>
    obtain ⟨k, hkn, rfl, hlo, hk⟩ := hrel
    have LO := Lib.hid hlo
    have KE := Lib.hid hk
    clear hlo hk
    by_cases hlt : k < n
    · obtain ⟨y, hy⟩ : ∃ y, S[k]? = some y := ⟨_, List.getElem?_eq_getElem (by rw [← HN.out]; omega)⟩
      obtain ⟨g, o, rfl, hat⟩ := CE.out _ (K0.out.trans KE.out) k y hy
      have oky : Okq y := HS.out y (List.mem_of_getElem? hy)
      have L1 := fun (W : World) (K : Kept wr W) => ldQ_run HX.out.1 (range_kept BX.out (KE.out.trans K))
      have L2 := fun (W : World) (K : Kept wr W) => ldQ_run oky.1 (range_kept hat K)
      have EQ := fun W => eqQ_run HX.out oky W
      have HY := Lib.hid hy
      clear hy hat
      by_cases hxy : x = y
      · rw [decide_eq_true hxy] at EQ
        have HK := Lib.hid (show decide ((k : Int) ≥ 0) = decide (x ∈ S) by
          rw [decide_eq_true (p := x ∈ S) (List.mem_iff_getElem?.2 ⟨k, by rw [hxy]; exact HY.out⟩)]
          simp)
        clear hxy
        go_wp2
        go_quiet (fail)
        go_wp2
        go_ret
        exact ⟨⟨_, rfl, HK.out⟩, K0.out.trans (KE.out.drewN _)⟩
      · rw [decide_eq_false hxy] at EQ
        have HXY := Lib.hid hxy
        clear hxy
        go_wp2
        go_quiet (fail)
        go_wp2
        go_roundw
        case rel => exact ⟨k + 1, by omega, by go_num, fun j z hj hz => by
          by_cases e : j = k
          · subst e; have h1 := HY.out; rw [hz] at h1; cases h1; exact HXY.out
          · exact LO.out j z (by omega) hz, KE.out.drewN _⟩
        case measure => simp [intOf]; omega
    · have HK := Lib.hid (show decide ((-1 : Int) ≥ 0) = decide (x ∈ S) by
        rw [decide_eq_false (p := x ∈ S) (fun hx => by
          obtain ⟨j, hj⟩ := List.mem_iff_getElem?.1 hx
          have h1 := (List.getElem?_eq_some_iff.1 hj).1
          exact LO.out j x (by have := HN.out; omega) hj rfl)]
        rfl)
      go_wp2
      go_ret
      exact ⟨⟨_, rfl, HK.out⟩, K0.out.trans KE.out⟩

theorem ret_b {r : Int} {b : Bool} (h : decide (r ≥ 0) = b) : Ending.returned (.bool (decide (r ≥ 0))) = .returned (.bool b) := by rw [h]
set_option maxHeartbeats 1000000 in
theorem contains_any {w : World} {a : Option Addr} {n c : Nat} {S : List (List El)} (h : Lay w (.slice a n c) n (flatQ S)) (hn : n = S.length) (hS : ∀ q ∈ S, Okq q) {x : List El} (hx : Okq x) :
    Calls Tryz.prog 148 #[.slice a n c, .agg (enc x).toArray] w fun e w' => e = .returned (.bool (decide (x ∈ S))) ∧ Kept w w' := by
  have IX := Lib.hid (fun W (k : Kept w W) => index_any (h.kept k) hn hS hx)
  have L := fun (W : World) b (hb : b = W.heap.size) => ldQ_ok (w := W.alloc (.cells (enc x).toArray 93)) (b := b) (o := 0) hx (by have := range_new W (enc x).toArray 93 b hb; simpa using this)
  clear h hn hS
  go_enter Tryz.func148, Tryz.ntmps148
  go_wp2_with fail; refine (IX.out _ ((Kept.refl w).alloc _ _)).mono ?_; rintro e w1 ⟨⟨r, rfl, hr⟩, k1⟩
  have HR := Lib.hid hr
  clear hr
  go_wp2
  go_ret
  exact ⟨ret_b HR.out, ((Kept.refl w).alloc _ _).trans k1⟩
end Go.Proofs.YtbfmmndpboagdaaGreatDoor.SH

namespace Go.Proofs.YtbfmmndpboagdaaGreatDoor.SH
open Go.RowKit
attribute [local go_sem ↓] ldQ_named stQ_named
def clE (ts : Array TypeId) (ty : TypeId) (args : Array Value) : Sem Value := Builtin.clear_ ts ty args
theorem clE_named (ts : Array TypeId) (ty : TypeId) (args : Array Value) : Builtin.clear_ ts ty args = clE ts ty args := rfl
attribute [local go_sem ↓] clE_named
attribute [local go_sem] Kept.refl Kept.drew Kept.drewN Kept.alloc

def Asks (d : Stt → Bool) (v : Value) (w : World) (p1 p2 : Addr) : Prop := ∀ W q, But (fun k => v.ownBlock = some k) w W → Okq q → Calls Tryz.prog 152 #[.agg (enc q).toArray, .pointer (some p1), .pointer (some p2)] W fun e w' => e = .returned (.bool (d q)) ∧ Kept W w'

theorem find_first {S : List Stt} {d : Stt → Bool} {k : Nat} {y : Stt} (hy : S[k]? = some y) (hd : d y = true) (hb : ∀ j z, j < k → S[j]? = some z → d z = false) : S.findIdx? d = some k := by
  rw [List.findIdx?_eq_some_iff_getElem]
  obtain ⟨hk, e⟩ := List.getElem?_eq_some_iff.1 hy
  exact ⟨hk, by rw [e]; exact hd, fun j hj => by rw [hb j S[j] hj (List.getElem?_eq_getElem (by omega))]; decide⟩
theorem find_no {S : List Stt} {d : Stt → Bool} (hb : ∀ (j : Nat) z, S[j]? = some z → d z = false) : S.findIdx? d = none := by
  rw [List.findIdx?_eq_none_iff]
  intro x hx
  obtain ⟨j, hj⟩ := List.mem_iff_getElem?.1 hx
  exact hb j x hj

set_option maxRecDepth 100000 in
set_option maxHeartbeats 4000000 in
theorem indexFunc_any {w : World} {a : Option Addr} {n c : Nat} {S : List Stt} (h : Lay w (.slice a n c) n (flatQ S)) (hn : n = S.length) (hS : ∀ q ∈ S, Okq q) {d : Stt → Bool} {bF bT : Nat} (hd : Asks d (.slice a n c) w ⟨bF, 0, none⟩ ⟨bT, 0, none⟩) :
    Calls Tryz.prog 154 #[.slice a n c, .func (.func 152) #[] #[.pointer (some ⟨bF, 0, none⟩), .pointer (some ⟨bT, 0, none⟩)]] w fun e w' => e = .returned (.int .i64 ((S.findIdx? d).elim (-1 : Int) (fun (i : Nat) => (i : Int)))) ∧ Kept w w' := by
  obtain ⟨a', c', e, hnc, hcm⟩ := h.form
  cases e
  unfold maxLen at hcm
  have CE := Lib.hid (fun W (k : Kept w W) i y hy => st_one (h.kept k) hn i y hy)
  have HN := Lib.hid hn
  have HS := Lib.hid hS
  have HD := Lib.hid hd
  clear h hn hS hd
  go_enter Tryz.func154, Tryz.ntmps154
  go_wp2
  go_loopw [8] (fun i wr => ∃ k : Nat, k ≤ n ∧ i = .int .i64 k ∧ (∀ j y, j < k → S[j]? = some y → d y = false) ∧ Kept w wr) (fun i _ => n - (intOf i).toNat)
  case atStart => exact ⟨0, Nat.zero_le _, rfl, fun j y hj => by omega, Kept.refl _⟩
  case round =>
    obtain ⟨k, hkn, rfl, hlo, hk⟩ := hrel
    have LO := Lib.hid hlo
    have KE := Lib.hid hk
    clear hlo hk
    by_cases hlt : k < n
    · obtain ⟨y, hy⟩ : ∃ y, S[k]? = some y := ⟨_, List.getElem?_eq_getElem (by rw [← HN.out]; omega)⟩
      obtain ⟨g, o, rfl, hat⟩ := CE.out _ KE.out k y hy
      have oky : Okq y := HS.out y (List.mem_of_getElem? hy)
      have L2 := ldQ_ok oky hat
      have DC := Lib.hid (fun W (K : Kept w W) => HD.out W y (K.but _) oky)
      have HY := Lib.hid hy
      clear hy hat
      cases hq : d y with
      | true =>
        have HK := Lib.hid (show S.findIdx? d = some k from find_first HY.out hq LO.out)
        rw [hq] at DC
        clear hq
        go_wp2_with fail; go_at_call 152; refine (DC.out _ KE.out).mono ?_; rintro e v1 ⟨rfl, k1⟩
        go_wp2
        go_ret
        rw [HK.out]
        exact ⟨rfl, KE.out.trans k1⟩
      | false =>
        have HQ := Lib.hid hq
        rw [hq] at DC
        clear hq
        go_wp2_with fail; go_at_call 152; refine (DC.out _ KE.out).mono ?_; rintro e v1 ⟨rfl, k1⟩
        go_wp2
        go_roundw
        case rel => exact ⟨k + 1, by omega, by go_num, fun j z hj hz => by
          by_cases e : j = k
          · subst e; have h1 := HY.out; rw [hz] at h1; cases h1; exact HQ.out
          · exact LO.out j z (by omega) hz, KE.out.trans k1⟩
        case measure => simp [intOf]; omega
    · have HK := Lib.hid (show S.findIdx? d = none from find_no fun j y hy => LO.out j y (by have := (List.getElem?_eq_some_iff.1 hy).1; have := HN.out; omega) hy)
      go_wp2
      go_ret
      rw [HK.out]
      exact ⟨rfl, KE.out⟩

def Half (S T : List Stt) (d : Stt → Bool) (k : Nat) : Prop := T.length = S.length ∧ (∀ q ∈ T, Okq q) ∧ T.take ((S.take k).filter (fun q => !d q)).length = (S.take k).filter (fun q => !d q) ∧ ∀ j, k ≤ j → T[j]? = S[j]?
def DelRel (w : World) (S : List Stt) (d : Stt → Bool) (g n c : Nat) (i j : Value) (wr : World) : Prop :=
  ∃ k T, k ≤ n ∧ j = .int .i64 (k : Nat) ∧ i = .int .i64 (((S.take k).filter (fun q => !d q)).length : Nat) ∧ ((S.take k).filter (fun q => !d q)).length < k ∧ Half S T d k ∧ Fi.Filled wr g 93 (c * 21) (flatQ T) ∧ But (fun x => x = g) w wr
theorem half_stay {S T : List Stt} {d : Stt → Bool} {k : Nat} {y : Stt} (h : Half S T d k) (hy : S[k]? = some y) (hd : d y = true) : Half S T d (k + 1) := by
  obtain ⟨h1, h2, h3, h4⟩ := h
  have e : (S.take (k + 1)).filter (fun q => !d q) = (S.take k).filter (fun q => !d q) := by rw [List.take_add_one, hy]; simp [hd]
  refine ⟨h1, h2, by rw [e]; exact h3, fun j hj => h4 j (by omega)⟩
theorem half_move {S T : List Stt} {d : Stt → Bool} {k : Nat} {y : Stt} (h : Half S T d k) (hy : S[k]? = some y) (oy : Okq y) (hd : d y = false) (hlt : ((S.take k).filter (fun q => !d q)).length < k) :
    (S.take (k + 1)).filter (fun q => !d q) = (S.take k).filter (fun q => !d q) ++ [y] ∧ Half S (T.set ((S.take k).filter (fun q => !d q)).length y) d (k + 1) := by
  obtain ⟨h1, h2, h3, h4⟩ := h
  have hk := (List.getElem?_eq_some_iff.1 hy).1
  have e : (S.take (k + 1)).filter (fun q => !d q) = (S.take k).filter (fun q => !d q) ++ [y] := by rw [List.take_add_one, hy]; simp [hd]
  refine ⟨e, by simp [h1], fun q hq => ?_, ?_, fun j hj => ?_⟩
  · rcases List.mem_or_eq_of_mem_set hq with hq | hq
    · exact h2 q hq
    · subst hq; exact oy
  · rw [e, List.length_append, List.length_singleton]
    generalize (S.take k).filter (fun q => !d q) = F at h3 hlt
    have hl : F.length < T.length := by omega
    rw [List.take_add_one, List.take_set_of_le (Nat.le_refl _), h3]
    congr 1
    simp [hl]
  · rw [List.getElem?_set_ne (by omega)]
    exact h4 j (by omega)

def Left (w : World) (base : Nat) (v : Value) (F : List Stt) (e : Ending) (w' : World) : Prop :=
  ∃ a c, e = .returned (.slice a F.length c) ∧ But (fun k => v.ownBlock = some k) w w' ∧ w'.ownsRow base 93 21 (.slice a F.length c) F.length (flatQ F)

set_option maxRecDepth 100000 in
set_option maxHeartbeats 8000000 in
theorem deleteFunc_any {w : World} {a : Option Addr} {n c base : Nat} {S : List Stt} (h : w.ownsRow base 93 21 (.slice a n c) n (flatQ S)) (hn : n = S.length) (_hb : base ≤ w.heap.size) (hS : ∀ q ∈ S, Okq q) {d : Stt → Bool} {bF bT : Nat} (hd : Asks d (.slice a n c) w ⟨bF, 0, none⟩ ⟨bT, 0, none⟩) :
    Calls Tryz.prog 151 #[.slice a n c, .func (.func 152) #[] #[.pointer (some ⟨bF, 0, none⟩), .pointer (some ⟨bT, 0, none⟩)]] w (Left w base (.slice a n c) (S.filter (fun q => !d q))) := by
  obtain ⟨a', c', e, hnc, hcm⟩ := (own_lies h).lay.form
  cases e
  have hcm' := hcm
  unfold maxLen at hcm
  have IX := Lib.hid (indexFunc_any (own_lies h).lay hn hS hd)
  have HN := Lib.hid hn
  have HS := Lib.hid hS
  have HD := Lib.hid hd
  cases hf : S.findIdx? d with
  | none =>
    have HF := Lib.hid (show S.filter (fun q => !d q) = S by
      rw [List.filter_eq_self]
      intro x hx
      have := List.findIdx?_eq_none_iff.1 hf x hx
      simp [this])
    rw [hf] at IX
    have HO := Lib.hid h
    clear h hn hS hd hf
    go_enter Tryz.func151, Tryz.ntmps151
    go_wp2_with fail; refine IX.out.mono ?_; rintro e w1 ⟨rfl, k1⟩
    go_wp2
    go_ret
    refine ⟨a, c, by rw [HF.out, ← HN.out]; rfl, k1.but _, ?_⟩
    rw [HF.out, ← HN.out]
    exact own_kept HO.out k1
  | some m =>
    rw [hf] at IX
    obtain ⟨hm1, hm2, hm3⟩ := List.findIdx?_eq_some_iff_getElem.1 hf
    obtain ⟨g, rfl⟩ : ∃ g, a = some ⟨g, 0, none⟩ := by
      rcases h.2 with ⟨_, h0⟩ | ⟨g, cap, cur, hv, _⟩
      · omega
      · cases hv; exact ⟨g, rfl⟩
    obtain ⟨_, hnc', _, hbg, _, hfi⟩ := filled_of_own h
    have FI0 := Lib.hid hfi
    have hown : ∀ k, (Value.slice (some ⟨g, 0, none⟩) n c).ownBlock = some k ↔ k = g := fun k => by simp [Value.ownBlock]; exact ⟨fun e => e.symm, fun e => e.symm⟩
    have hgl : g < w.heap.size := hfi.lt
    have HOWN := Lib.hid hown
    have HB := Lib.hid hbg
    have e0 : (S.take (m + 1)).filter (fun q => !d q) = S.take m := by
      rw [List.take_add_one, List.getElem?_eq_getElem hm1, List.filter_append]
      simp only [Option.toList_some, List.filter_cons, hm2, Bool.not_true, Bool.false_eq_true, if_false, List.filter_nil, List.append_nil]
      rw [List.filter_eq_self]
      intro x hx
      obtain ⟨j, hj⟩ := List.mem_iff_getElem?.1 hx
      have hj' := (List.getElem?_eq_some_iff.1 hj).1
      rw [List.length_take] at hj'
      rw [List.getElem?_take_of_lt (by omega)] at hj
      obtain ⟨_, e⟩ := List.getElem?_eq_some_iff.1 hj
      have := hm3 j (by omega)
      rw [e] at this
      simpa using this
    have START := Lib.hid (show ∀ wr, Kept w wr → DelRel w S d g n c (.int .i64 (m : Nat)) (.int .i64 ((m : Int) + 1)) wr from fun wr k => ⟨m + 1, S, by omega, by simp, by rw [e0, List.length_take, Nat.min_eq_left (by omega)], by rw [e0, List.length_take]; omega, ⟨rfl, hS, by rw [e0, List.length_take, Nat.min_eq_left (by omega)], fun _ _ => rfl⟩, hfi.kept k, k.but _⟩)
    have mlt : m < n := by omega
    have NEG : ((m : Int) == -1) = false := by simp
    clear h hn hS hd hf hm1 hm2 hm3 hfi e0 hown hbg
    go_enter Tryz.func151, Tryz.ntmps151
    go_wp2_with fail; refine IX.out.mono ?_; rintro e w1 ⟨rfl, k1⟩
    go_wp2
    go_loopw [5, 6] (DelRel w S d g n c) (fun _ j _ => n - (intOf j).toNat)
    case atStart => exact START.out _ k1
    case round =>
      obtain ⟨k, T, hkn, rfl, rfl, hik, hhalf, hfil, hbut⟩ := hrel
      obtain ⟨i, hi⟩ : ∃ i, i = ((S.take k).filter (fun q => !d q)).length := ⟨_, rfl⟩
      have HI := Lib.hid hi
      rw [← hi] at hik ⊢
      have HH := Lib.hid hhalf
      have FI := Lib.hid hfil
      have BU := Lib.hid hbut
      have HTl := Lib.hid hhalf.1
      clear hi hhalf hfil hbut
      by_cases hlt : k < n
      · obtain ⟨y, hy⟩ : ∃ y, S[k]? = some y := ⟨_, List.getElem?_eq_getElem (by rw [← HN.out]; omega)⟩
        have oky : Okq y := HS.out y (List.mem_of_getElem? hy)
        have hTk : T[k]? = some y := (HH.out.2.2.2 k (Nat.le_refl _)).trans hy
        have L1 := ldQ_ok oky (filled_range FI.out (o := k * 21) (fun j u hu => by
          have hj : j < 21 := by have := (List.getElem?_eq_some_iff.1 hu).1; rw [enc_len] at this; exact this
          rw [flatQ_get T k j y hTk hj]; exact hu))
        have S1 := fun (W : World) b (Z : Array Value) t (hb : b = W.heap.size) (hZ : Z.size = 21) => stQ_fresh (w := W) (b := b) oky Z t hb hZ
        have L3 := fun (W : World) b (hb : b = W.heap.size) => ldQ_ok (w := W.alloc (.cells (enc y).toArray 93)) (b := b) (o := 0) oky (by have := range_new W (enc y).toArray 93 b hb; simpa using this)
        have DC := Lib.hid (HD.out (wr.alloc (.cells (enc y).toArray 93)) y (((BU.out.alloc _ _)).mono fun j _ e => (HOWN.out j).2 e) oky)
        have HY := Lib.hid hy
        clear hy hTk
        cases hq : d y with
        | true =>
          have HQ := Lib.hid hq
          rw [hq] at DC
          clear hq
          go_wp2_with fail; refine DC.out.mono ?_; rintro e v1 ⟨rfl, kv⟩
          go_wp2
          go_roundw
          case rel =>
            have hh := HH.out
            have HY' := HY.out
            refine ⟨k + 1, T, by omega, by simp, ?_, ?_, half_stay hh HY' HQ.out, (FI.out.kept ((Kept.refl _).alloc _ _)).kept kv, (BU.out.alloc _ _).then kv⟩
            · rw [List.take_add_one, HY']
              simp only [Option.toList_some, List.filter_append, List.filter_cons, HQ.out, Bool.not_true, Bool.false_eq_true, if_false, List.filter_nil, List.append_nil]
              rw [← HI.out]
            · rw [List.take_add_one, HY']
              simp only [Option.toList_some, List.filter_append, List.filter_cons, HQ.out, Bool.not_true, Bool.false_eq_true, if_false, List.filter_nil, List.append_nil]
              rw [← HI.out]
              omega
          case measure => simp [intOf]; omega
        | false =>
          have HQ := Lib.hid hq
          rw [hq] at DC
          clear hq
          go_wp2_with fail; refine DC.out.mono ?_; rintro e v1 ⟨rfl, kv⟩
          have F1 := Lib.hid ((FI.out.kept ((Kept.refl _).alloc _ _)).kept kv)
          have ST := stQ_mid (w := v1) (b := g) (o := i * 21) oky (filled_there F1.out (i * 21) 21 (by
            have := Nat.mul_le_mul_right 21 (show i + 1 ≤ c by omega)
            omega))
          have L4 := ldQ_ok oky (range_kept (by have := range_new wr (enc y).toArray 93 wr.heap.size rfl; simpa using this) kv)
          have KV := Lib.hid kv
          clear kv
          go_wp2
          go_roundw
          case rel =>
            have hh := HH.out
            have HY' := HY.out
            obtain ⟨m1, m2⟩ := half_move hh HY' oky HQ.out (by rw [← HI.out]; exact hik)
            have hTl := HTl.out
            have hN := HN.out
            refine ⟨k + 1, T.set i y, by omega, by simp, by rw [m1, List.length_append, ← HI.out]; simp, by rw [m1, List.length_append, ← HI.out]; simp; omega, by rw [HI.out]; exact m2, ?_, ?_⟩
            · have fm := filled_mid F1.out (i * 21) (enc y) (by
                rw [flatQ_length, enc_len, hTl, ← hN]
                have := Nat.mul_le_mul_right 21 (show i + 1 ≤ n by omega)
                omega) (by
                rw [flatQ_length, hTl, ← hN]
                exact Nat.mul_le_mul_right _ hnc)
              have e := wide_set enc_len T i y (by omega)
              unfold flatQ
              rw [e]
              rw [enc_len] at fm
              exact fm
            · exact but_setCells _ _ _ ((BU.out.alloc _ _).then KV.out)
          case measure => simp [intOf]; omega
      · obtain rfl : k = n := by omega
        have hT := HH.out.2.2.1
        have hF : S.take k = S := by rw [HN.out, List.take_length]
        rw [← HI.out, hF] at hT
        have HF := Lib.hid (show T.take i = S.filter (fun q => !d q) from hT)
        have HIl := Lib.hid (show (S.filter (fun q => !d q)).length = i by rw [HI.out, hF])
        obtain ⟨i0, hi0, hz0, hz1, hz2⟩ := info_parts infoQ
        have FC := filled_cut FI.out (i * 21)
        have eC : (flatQ T).take (i * 21) = flatQ (S.filter (fun q => !d q)) := by
          have := wide_take enc_len T i
          unfold flatQ
          rw [this, HF.out]
        rw [eC] at FC
        have hTl := HTl.out
        obtain ⟨wc, hclr, FIc, BUc⟩ := clear_any (T := 152) FC Tryz.underlying152 hi0 hz0 (by intro u hu; simp [Value.cells] at hu; exact enc_one _ u hu) (k - i) (c - i) (o := i * 21) (by rw [flatQ_length, HIl.out]; exact Nat.le_refl _) (by
          have e1 : (Value.agg (enc []).toArray).cells.size = 21 := by simp [Value.cells, enc_len]
          rw [e1, ← Nat.add_mul]
          exact Nat.mul_le_mul_right _ (by omega)) 0
        have CL : (clE #[152] 0 #[.slice (some ⟨g, i * 21, none⟩) (k - i) (c - i)]).run Tryz.prog wr = .ok (.tuple #[]) wc := hclr
        have OW := Lib.hid (own_of_filled (base := base) (n := i) FIc (by rw [flatQ_length, HIl.out]) (by omega) hcm' HB.out)
        have BW := Lib.hid (BU.out.trans BUc (fun _ _ h => h))
        clear hT hF FC eC FIc BUc hclr hi0 hz0 hz1 hz2
        go_wp2
        go_ret
        refine ⟨some ⟨g, 0, none⟩, c, by rw [HIl.out]; rfl, BW.out.mono fun j _ e => (HOWN.out j).2 e, ?_⟩
        rw [HIl.out]
        exact OW.out
end Go.Proofs.YtbfmmndpboagdaaGreatDoor.SH
