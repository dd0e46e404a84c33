/- Stage 11: what a mutation does to a state of its own (written by wip/gen11chg.py). Stage 11: the code's changed: what is gone (written by wip/gen11chg.py). -/
import Derived.Test.YtjaaehbllkbiaaaGreatMy
import Derived.Test.YtjaaehbllkbiaaaGreatKg
namespace Go.Proofs.YtjaaehbllkbiaaaGreat
set_option maxRecDepth 100000

section
open Go.RowKit Go.Lib

/-- A state of the call's own. -/
structure OS (s : MSt) (B : Nat) (w : World) : Prop where
 l : OwnR w B 50 2 s.A s.ls.length s.c (lcells s.ls)
 k : OwnR w B 45 7 s.A2 s.ms.length s.c2 (tkcells s.ms)
 t : TagsOwn w B s.ms
theorem OwnR.room {w : World} {B : Nat} {t : TypeId} {k n c : Nat} {A : Option Addr} {xs : List Value} (h : OwnR w B t k A n c xs) : n ≤ c := by
 rcases h with ⟨q, r⟩ | ⟨g, e, q⟩
 ·omega
 ·exact (own_room q).2
theorem OS.smt {s : MSt} {B : Nat} {w : World} (h : OS s B w) : SMT s w :=
 ⟨h.l.lies (lcells_len _), h.k.lies (tkcells_len _), fun x hx => ⟨(h.t.1 x hx).lies (by rw [gcells_len, Nat.mul_one]), (h.t.1 x hx).room⟩, h.l.room, h.k.room⟩
theorem OS.sm {s : MSt} {B : Nat} {w : World} (h : OS s B w) : SM s w := h.smt.sm
theorem OS.tch {s : MSt} {B B' : Nat} {w w' : World} {ts : List TypeId} (h : OS s B w) (hT : Tch B' ts w w') (h1 : 50 ∉ ts) (h2 : 45 ∉ ts) (h3 : 9 ∉ ts) : OS s B w' := ⟨h.l.tch hT h1, h.k.tch hT h2, h.t.tch hT h3⟩
theorem OS.stay {s : MSt} {B : Nat} {w w' : World} (h : OS s B w) (hb : Below w.heap.size w w') : OS s B w' := h.tch (Tch.of_below hb (Nat.le_refl _) []) (by simp) (by simp) (by simp)

/-- The frame of changed: the state, the mutation, the result, each in its variable, from block b on. -/
structure CF (s : MSt) (m : T9.Mu) (B b : Nat) (w : World) : Prop where
 st : w.heap[b]? = some (.cells #[.slice s.A s.ls.length s.c, .slice s.A2 s.ms.length s.c2] 25 (0, 0))
 mu : MBox m (b + 1) w
 rv : w.heap[b + 2]? = some (.cells #[.slice none 0 0, .slice none 0 0] 25 (0, 0))
theorem CF.stay {s : MSt} {m : T9.Mu} {B b : Nat} {w w' : World} (h : CF s m B b w) (hb : Below w.heap.size w w') : CF s m B b w' := ⟨blk_keep h.st hb, h.mu.stay hb, blk_keep h.rv hb⟩
theorem CF.tch {s : MSt} {m : T9.Mu} {B b B' : Nat} {w w' : World} {ts : List TypeId} (h : CF s m B b w) (hT : Tch B' ts w w') (h1 : 25 ∉ ts) (h2 : 29 ∉ ts) : CF s m B b w' := ⟨hT.blk h.st h1, hT.blk h.mu h2, hT.blk h.rv h1⟩
theorem CF.start {s : MSt} {m : T9.Mu} {B : Nat} {w w1 w2 w3 : World} (h1 : w.alloc (.cells #[.slice s.A s.ls.length s.c, .slice s.A2 s.ms.length s.c2] 25) = w1) (h2 : w1.alloc (.cells #[.int .i64 m.kind, .int .u64 (m.id : Int), .int .u64 (m.list : Int), .string (str m.text), .float .f64 m.f, .bool m.flag] 29) = w2) (h3 : w2.alloc (.cells #[.slice none 0 0, .slice none 0 0] 25) = w3) :
  CF s m B w.heap.size w3 ∧ Below w.heap.size w w3 ∧ w1.heap.size = w.heap.size + 1 ∧ w2.heap.size = w.heap.size + 2 := by
 obtain ⟨a1, b1, z1⟩ := new_two h1
 obtain ⟨a2, b2, z2⟩ := new_six11 h2
 obtain ⟨a3, b3, z3⟩ := new_two h3
 rw [z1] at a2
 rw [z2, z1] at a3
 exact ⟨⟨blk_keep (blk_keep a1 b2) b3, MBox.stay (m := m) a2 b3, a3⟩, b1.trans ((b2.mono (by omega)).trans (b3.mono (by omega))), z1, by omega⟩
/-- The state's variable turned: the slices of q. -/
theorem CF.turn {s q : MSt} {m : T9.Mu} {B b : Nat} {w : World} (h : CF s m B b w) :
  CF q m B b ((w.setCell ⟨b, 0, none⟩ (.slice q.A q.ls.length q.c)).setCell ⟨b, 1, none⟩ (.slice q.A2 q.ms.length q.c2)) ∧ Tch b [25] w ((w.setCell ⟨b, 0, none⟩ (.slice q.A q.ls.length q.c)).setCell ⟨b, 1, none⟩ (.slice q.A2 q.ms.length q.c2)) := by
 have y : Ty w b 25 := ⟨_, _, h.st⟩
 refine ⟨⟨(blk_set (blk_set h.st 0 _) 1 _).trans rfl, ?_, ?_⟩, ((Tch.refl _ _ w).setTy (p := ⟨b, 0, none⟩) y (by simp) (Nat.le_refl _) _).setTy (p := ⟨b, 1, none⟩) (y.set _ _) (by simp) (Nat.le_refl _) _⟩
 ·exact blk_far (blk_far h.mu (p := ⟨b, 0, none⟩) (by show b + 1 ≠ b; omega) _) (p := ⟨b, 1, none⟩) (by show b + 1 ≠ b; omega) _
 ·exact blk_far (blk_far h.rv (p := ⟨b, 0, none⟩) (by show b + 2 ≠ b; omega) _) (p := ⟨b, 1, none⟩) (by show b + 2 ≠ b; omega) _
theorem CF.turnL {s : MSt} {m : T9.Mu} {B b : Nat} {w : World} (h : CF s m B b w) (A : Option Addr) (ls : List T9.Li) (c : Nat) :
  CF { s with A := A, ls := ls, c := c } m B b (w.setCell ⟨b, 0, none⟩ (.slice A ls.length c)) ∧ Tch b [25] w (w.setCell ⟨b, 0, none⟩ (.slice A ls.length c)) := by
 have y : Ty w b 25 := ⟨_, _, h.st⟩
 exact ⟨⟨(blk_set h.st 0 _).trans rfl, blk_far h.mu (p := ⟨b, 0, none⟩) (by show b + 1 ≠ b; omega) _, blk_far h.rv (p := ⟨b, 0, none⟩) (by show b + 2 ≠ b; omega) _⟩, (Tch.refl _ _ w).setTy (p := ⟨b, 0, none⟩) y (by simp) (Nat.le_refl _) _⟩
theorem CF.turnK {s : MSt} {m : T9.Mu} {B b : Nat} {w : World} (h : CF s m B b w) (A : Option Addr) (ms : List MTk) (c : Nat) :
  CF { s with A2 := A, ms := ms, c2 := c } m B b (w.setCell ⟨b, 1, none⟩ (.slice A ms.length c)) ∧ Tch b [25] w (w.setCell ⟨b, 1, none⟩ (.slice A ms.length c)) := by
 have y : Ty w b 25 := ⟨_, _, h.st⟩
 exact ⟨⟨(blk_set h.st 1 _).trans rfl, blk_far h.mu (p := ⟨b, 1, none⟩) (by show b + 1 ≠ b; omega) _, blk_far h.rv (p := ⟨b, 1, none⟩) (by show b + 2 ≠ b; omega) _⟩, (Tch.refl _ _ w).setTy (p := ⟨b, 1, none⟩) y (by simp) (Nat.le_refl _) _⟩
/-- The end: the result's variable is written. -/
theorem CF.fin {s : MSt} {m : T9.Mu} {B b : Nat} {w w' : World} (h : CF s m B b w) (q : SMT s w) (hw : (w.setCell ⟨b + 2, 0, none⟩ (.slice s.A s.ls.length s.c)).setCell ⟨b + 2, 1, none⟩ (.slice s.A2 s.ms.length s.c2) = w') :
  SMT s w' ∧ Below b w w' ∧ w'.cell? ⟨b + 2, 0, none⟩ = some (.slice s.A s.ls.length s.c) ∧ w'.cell? ⟨b + 2, 1, none⟩ = some (.slice s.A2 s.ms.length s.c2) := by
 subst hw
 have y : Ty w (b + 2) 25 := ⟨_, _, h.rv⟩
 have T : Tch b [25] w ((w.setCell ⟨b + 2, 0, none⟩ (.slice s.A s.ls.length s.c)).setCell ⟨b + 2, 1, none⟩ (.slice s.A2 s.ms.length s.c2)) := ((Tch.refl _ _ w).setTy (p := ⟨b + 2, 0, none⟩) y (by simp) (Nat.le_add_right _ _) _).setTy (p := ⟨b + 2, 1, none⟩) (y.set _ _) (by simp) (Nat.le_add_right _ _) _
 have z := (blk_set (blk_set h.rv 0 (.slice s.A s.ls.length s.c)) 1 (.slice s.A2 s.ms.length s.c2)).trans rfl
 exact ⟨q.tch T (by decide) (by decide) (by decide), T.below, (two_cells z).1, (two_cells z).2⟩
/-- What changed told: a state, or a refusal. -/
def ChgOk (r : Int × T9.St) (B : Nat) (w : World) (e : Ending) (w' : World) : Prop :=
 Below B w w' ∧ (r.1 = 0 → ∃ q : MSt, e = .returned q.val ∧ SMT q w' ∧ q.st = r.2) ∧ (r.1 ≠ 0 → e = .panicked [{ v := .iface 33 (.int .i64 r.1), recovered := false }])
theorem ChgOk.bad {r : Int × T9.St} {B : Nat} {w w' : World} (hb : Below B w w') (h : r.1 ≠ 0) : ChgOk r B w (.panicked [{ v := .iface 33 (.int .i64 r.1), recovered := false }]) w' := ⟨hb, fun z => absurd z h, fun _ => rfl⟩
theorem ChgOk.good {r : Int × T9.St} {B : Nat} {w w' : World} {q : MSt} (hb : Below B w w') (hq : SMT q w') (hr : r = (0, q.st)) : ChgOk r B w (.returned q.val) w' := ⟨hb, fun _ => ⟨q, rfl, hq, by rw [hr]⟩, fun z => absurd (by rw [hr]) z⟩
theorem right_upL {s : T9.St} (h : T9.rightE s = 0) : s.lists.Pairwise fun x y => x.id < y.id := ((T9.listsE_iff.1 (T9.rightE_parts h).2.2.1).2).imp fun q => of_decide_eq_true q
theorem right_upK {s : T9.St} (h : T9.rightE s = 0) : s.tasks.Pairwise fun x y => x.id < y.id := ((T9.tasksE_iff.1 (T9.rightE_parts h).2.2.2).2).imp fun q => of_decide_eq_true q
theorem insL_at {ls : List T9.Li} {x : T9.Li} (h : T9.hasL ls x.id = false) : Sr.ins T9.ltL x ls = ls.take (T9.posL ls x.id) ++ x :: ls.drop (T9.posL ls x.id) := by
 refine Sr.ins_pos fun y hy => ?_
 unfold T9.hasL at h
 rw [List.any_eq_false] at h
 have ne := h y hy
 simp only [beq_iff_eq] at ne
 unfold T9.ltL
 rw [decide_eq_true_eq, decide_eq_true_eq]
 omega
theorem insK_at {ls : List T9.Tk} {x : T9.Tk} (h : T9.hasK ls x.id = false) : Sr.ins T9.ltK x ls = ls.take (T9.posK ls x.id) ++ x :: ls.drop (T9.posK ls x.id) := by
 refine Sr.ins_pos fun y hy => ?_
 unfold T9.hasK at h
 rw [List.any_eq_false] at h
 have ne := h y hy
 simp only [beq_iff_eq] at ne
 unfold T9.ltK
 rw [decide_eq_true_eq, decide_eq_true_eq]
 omega
namespace T9
theorem doM1_a {s : St} {id list f : Nat} {text : List UInt8} {flag : Bool} (h : hasL s.lists id = true) : doM s ⟨1, id, list, text, f, flag⟩ = (92, s) := by unfold doM; dsimp only; rw [if_pos rfl, if_pos h]
theorem doM1_b {s : St} {id list f : Nat} {text : List UInt8} {flag : Bool} (h : hasL s.lists id = false) (h2 : 20 ≤ s.lists.length) : doM s ⟨1, id, list, text, f, flag⟩ = (95, s) := by unfold doM; dsimp only; rw [if_pos rfl, if_neg (by rw [h]; decide), if_pos h2]
theorem doM1_c {s : St} {id list f : Nat} {text : List UInt8} {flag : Bool} (h : hasL s.lists id = false) (h2 : ¬ 20 ≤ s.lists.length) : doM s ⟨1, id, list, text, f, flag⟩ = (0, ⟨Sr.ins ltL ⟨id, text⟩ s.lists, s.tasks⟩) := by unfold doM; dsimp only; rw [if_pos rfl, if_neg (by rw [h]; decide), if_neg h2]
theorem doM2_a {s : St} {id list f : Nat} {text : List UInt8} {flag : Bool} (h : hasL s.lists id = false) : doM s ⟨2, id, list, text, f, flag⟩ = (91, s) := by unfold doM; dsimp only; rw [if_neg (by decide), if_pos rfl, if_pos h]
theorem doM2_b {s : St} {id list f : Nat} {text : List UInt8} {flag : Bool} (h : hasL s.lists id = true) : doM s ⟨2, id, list, text, f, flag⟩ = (0, ⟨s.lists.filter fun l => !(l.id == id), wo s.tasks id false 0⟩) := by unfold doM; dsimp only; rw [if_neg (by decide), if_pos rfl, if_neg (by rw [h]; decide)]
theorem doM12_a {s : St} {id list f : Nat} {text : List UInt8} {flag : Bool} (h : hasL s.lists list = false) : doM s ⟨12, id, list, text, f, flag⟩ = (91, s) := by unfold doM; dsimp only; rw [if_neg (by decide), if_neg (by decide), if_pos rfl, if_pos h]
theorem doM12_b {s : St} {id list f : Nat} {text : List UInt8} {flag : Bool} (h : hasL s.lists list = true) : doM s ⟨12, id, list, text, f, flag⟩ = (0, ⟨s.lists, wo s.tasks list true 0⟩) := by unfold doM; dsimp only; rw [if_neg (by decide), if_neg (by decide), if_pos rfl, if_neg (by rw [h]; decide)]
theorem doM13_a {s : St} {id list f : Nat} {text : List UInt8} {flag : Bool} (h : hasL s.lists list = false) : doM s ⟨13, id, list, text, f, flag⟩ = (91, s) := by unfold doM; dsimp only; rw [if_neg (by decide), if_neg (by decide), if_neg (by decide), if_pos rfl, if_pos h]
theorem doM13_b {s : St} {id list f : Nat} {text : List UInt8} {flag : Bool} (h : hasL s.lists list = true) : doM s ⟨13, id, list, text, f, flag⟩ = (0, ⟨s.lists, s.tasks.map (spr (ordK s.tasks list))⟩) := by unfold doM; dsimp only; rw [if_neg (by decide), if_neg (by decide), if_neg (by decide), if_pos rfl, if_neg (by rw [h]; decide)]
theorem doM3_a {s : St} {id list f : Nat} {text : List UInt8} {flag : Bool} (h : hasK s.tasks id = true) : doM s ⟨3, id, list, text, f, flag⟩ = (92, s) := by unfold doM; dsimp only; rw [if_neg (by decide), if_neg (by decide), if_neg (by decide), if_neg (by decide), if_pos rfl, if_pos h]
theorem doM3_b {s : St} {id list f : Nat} {text : List UInt8} {flag : Bool} (h : hasK s.tasks id = false) (h2 : hasL s.lists list = false) : doM s ⟨3, id, list, text, f, flag⟩ = (91, s) := by unfold doM; dsimp only; rw [if_neg (by decide), if_neg (by decide), if_neg (by decide), if_neg (by decide), if_pos rfl, if_neg (by rw [h]; decide), if_pos h2]
theorem doM3_c {s : St} {id list f : Nat} {text : List UInt8} {flag : Bool} (h : hasK s.tasks id = false) (h2 : hasL s.lists list = true) (h3 : 60 ≤ s.tasks.length) : doM s ⟨3, id, list, text, f, flag⟩ = (95, s) := by unfold doM; dsimp only; rw [if_neg (by decide), if_neg (by decide), if_neg (by decide), if_neg (by decide), if_pos rfl, if_neg (by rw [h]; decide), if_neg (by rw [h2]; decide), if_pos h3]
theorem doM3_d {s : St} {id list f : Nat} {text : List UInt8} {flag : Bool} (h : hasK s.tasks id = false) (h2 : hasL s.lists list = true) (h3 : ¬ 60 ≤ s.tasks.length) : doM s ⟨3, id, list, text, f, flag⟩ = (0, ⟨s.lists, Sr.ins ltK ⟨id, list, text, false, f, Fl.nanW, []⟩ s.tasks⟩) := by unfold doM; dsimp only; rw [if_neg (by decide), if_neg (by decide), if_neg (by decide), if_neg (by decide), if_pos rfl, if_neg (by rw [h]; decide), if_neg (by rw [h2]; decide), if_neg h3]
theorem doM_a {s : St} {k : Int} {id list f : Nat} {text : List UInt8} {flag : Bool} (hk : k = 4 ∨ k = 5 ∨ k = 6 ∨ k = 7 ∨ k = 8 ∨ k = 9 ∨ k = 10 ∨ k = 11) (h : hasK s.tasks id = false) : doM s ⟨k, id, list, text, f, flag⟩ = (93, s) := by unfold doM; dsimp only; rw [if_neg (by omega), if_neg (by omega), if_neg (by omega), if_neg (by omega), if_neg (by omega), if_pos h]
theorem doM_b {s : St} {k : Int} {id list f : Nat} {text : List UInt8} {flag : Bool} (hk : k = 4 ∨ k = 5 ∨ k = 6 ∨ k = 7 ∨ k = 8 ∨ k = 9 ∨ k = 10) (h : hasK s.tasks id = true) : doM s ⟨k, id, list, text, f, flag⟩ = ((chg (hasL s.lists list) ⟨k, id, list, text, f, flag⟩ (findK s.tasks id).1).1, ⟨s.lists, Sr.ins ltK (chg (hasL s.lists list) ⟨k, id, list, text, f, flag⟩ (findK s.tasks id).1).2 (wo s.tasks 0 false id)⟩) := by unfold doM; dsimp only; rw [if_neg (by omega), if_neg (by omega), if_neg (by omega), if_neg (by omega), if_neg (by omega), if_neg (by rw [h]; decide), if_neg (by omega)]
theorem doM11_b {s : St} {id list f : Nat} {text : List UInt8} {flag : Bool} (h : hasK s.tasks id = true) : doM s ⟨11, id, list, text, f, flag⟩ = (0, ⟨s.lists, wo s.tasks 0 false id⟩) := by unfold doM; dsimp only; rw [if_neg (by decide), if_neg (by decide), if_neg (by decide), if_neg (by decide), if_neg (by decide), if_neg (by rw [h]; decide), if_pos rfl]
end T9
theorem bs11L (a b : Value) (w : World) : (Instr.buildSlice 22 1 #[(0, .agg #[a, b])]).run Tryz.prog w = .ok (.slice (some ⟨w.heap.size, 0, none⟩) 1 1) (w.alloc (.cells #[a, b] 50)) := by
 obtain ⟨i0, hi, hz0, hz1, hz2⟩ := info_parts Tryz.infoLi9
 exact run_buildSlice_one w 22 50 #[a, b] i0 _ Tryz.underlying22 hi hz0 hz1 (by simp) (by simp)
theorem bl11L (a : Int) (b : ByteArray) (w : World) : (Instr.build 50 #[(0, .int .u64 a), (1, .string b)]).run Tryz.prog w = .ok (.agg #[.int .u64 a, .string b]) w := run_build w 50 _ _ (by kernel_rfl)

set_option linter.unusedSimpArgs false in
set_option maxHeartbeats 4000000 in
set_option maxRecDepth 100000 in
theorem chg1_c {s : MSt} {u : T9.Mu} {B : Nat} {w : World} (h : OS s B w) (hB : B ≤ w.heap.size) (hr : T9.rightE s.st = 0) (hk : u.kind = 1) :
  Calls Tryz.prog 22 #[s.val, u.val] w (ChgOk (T9.doM s.st u) B w) := by
 obtain ⟨kd, id, list, text, f, flag⟩ := u
 obtain rfl : kd = 1 := hk
 obtain ⟨w1, hw1⟩ : ∃ v, w.alloc (.cells #[.slice s.A s.ls.length s.c, .slice s.A2 s.ms.length s.c2] 25) = v := ⟨_, rfl⟩
 obtain ⟨w2, hw2⟩ : ∃ v, w1.alloc (.cells #[.int .i64 1, .int .u64 (id : Int), .int .u64 (list : Int), .string (str text), .float .f64 f, .bool flag] 29) = v := ⟨_, rfl⟩
 obtain ⟨w3, hw3⟩ : ∃ v, w2.alloc (.cells #[.slice none 0 0, .slice none 0 0] 25) = v := ⟨_, rfl⟩
 obtain ⟨cf, b3, z1, z2⟩ := CF.start (s := s) (m := ⟨1, id, list, text, f, flag⟩) (B := B) hw1 hw2 hw3
 have C3 := Lib.hid cf
 have B3 := Lib.hid b3
 have O3 := Lib.hid (h.stay b3)
 have HB := Lib.hid hB
 have O0 := Lib.hid h
 have UL := Lib.hid (right_upL hr)
 have UK := Lib.hid (right_upK hr)
 obtain ⟨s0, s1⟩ := two_cells cf.st
 obtain ⟨m0, m1, m2, m3, m4, m5⟩ := six_cells11 cf.mu
 have nl : s.ls.length ≤ 20 := (T9.rightE_parts hr).1
 have nk : s.ms.length ≤ 60 := by have := (T9.rightE_parts hr).2.1; simpa [MSt.st, tks] using this
 obtain ⟨R, hR⟩ : ∃ r, T9.doM s.st ⟨1, id, list, text, f, flag⟩ = r := ⟨_, rfl⟩
 rw [hR]
 have HR := Lib.hid hR
 have HRT := Lib.hid hr
 unfold MSt.val T9.Mu.val
 dsimp only
 clear h hB hr cf b3 hR
 have LC := Lib.hid (listAt_c (id := id) O3.out.sm (by omega) UL.out)
 obtain ⟨hh, hhh⟩ : ∃ b, T9.hasL s.ls id = b := ⟨_, rfl⟩
 obtain ⟨pp, hpp⟩ : ∃ b, T9.posL s.ls id = b := ⟨_, rfl⟩
 rw [hhh, hpp] at LC
 have HH := Lib.hid hhh
 have HP := Lib.hid hpp
 unfold MSt.val at LC
 clear hhh hpp
 go_enter Tryz.func22, Tryz.ntmps22
 go_wp2_with fail
 refine LC.out.mono ?_
 rintro e w4 ⟨rfl, h4⟩
 have C4 := Lib.hid (C3.out.stay h4)
 have O4 := Lib.hid (O3.out.stay h4)
 have B4 := Lib.hid (B3.out.trans (h4.mono B3.out.size))
 clear h4 s0 s1 m0 m1 m2 m3 m4 m5
 obtain ⟨s0, s1⟩ := two_cells C4.out.st
 obtain ⟨m0, m1, m2, m3, m4, m5⟩ := six_cells11 C4.out.mu
 cases hh with
 | true =>
  go_wp2_with (go_at_call 42; refine (refuse_yes _ _).mono ?_; rintro e w' ⟨rfl, rfl⟩)
  have e : R = (92, s.st) := HR.out.symm.trans (T9.doM1_a HH.out)
  subst e
  exact ⟨rfl, ChgOk.bad (B4.out.mono HB.out) (show (92 : Int) ≠ 0 by decide)⟩
 | false =>
  by_cases h20 : 20 ≤ s.ls.length
  ·have h20z : (20 : Int) ≤ (s.ls.length : Int) := by omega
   have h20d : decide ((20 : Int) ≤ (s.ls.length : Int)) = true := decide_eq_true h20z
   have h20n : decide (20 ≤ s.ls.length) = true := decide_eq_true h20
   go_wp2_with (first | (go_at_call 42; (with_reducible refine (refuse_no 92 _).mono ?_); rintro e w' ⟨rfl, rfl⟩) | (go_at_call 42; refine (refuse_yes _ _).mono ?_; rintro e w' ⟨rfl, rfl⟩))
   have e : R = (95, s.st) := HR.out.symm.trans (T9.doM1_b HH.out h20)
   subst e
   exact ⟨rfl, ChgOk.bad (B4.out.mono HB.out) (show (95 : Int) ≠ 0 by decide)⟩
  ·have h20z : ¬ ((20 : Int) ≤ (s.ls.length : Int)) := by omega
   have h20d : decide ((20 : Int) ≤ (s.ls.length : Int)) = false := decide_eq_false h20z
   have h20n : decide (20 ≤ s.ls.length) = false := decide_eq_false h20
   have hbl := bl11L (id : Int) (str text)
   have hbs := bs11L (.int .u64 (id : Int)) (.string (str text))
   obtain ⟨w5, hw5⟩ : ∃ v, w4.alloc (.cells #[.int .u64 (id : Int), .string (str text)] 50) = v := ⟨_, rfl⟩
   obtain ⟨lb, b5, z5⟩ := new_two hw5
   have PP : pp ≤ s.ls.length := by rw [← HP.out]; exact Sr.pos_le
   have C5 := Lib.hid (C4.out.stay b5)
   have O5 := Lib.hid (O4.out.stay b5)
   have B5 := Lib.hid (B4.out.trans (b5.mono B4.out.size))
   have NE : Hid (obk s.A s.c ≠ some w4.heap.size) := Lib.hid fun e => by
    rcases O4.out.l.parts with ⟨_, q⟩ | ⟨g, e2, c0, q⟩
    ·rw [show obk s.A s.c = none by unfold obk; rw [if_pos q]] at e; cases e
    ·rw [e2, obk_some c0] at e
     injection e with e
     have := (q.lt g rfl).2
     omega
   have IC := Lib.hid (insertL_c (p := pp) (v := encL ⟨id, text⟩) O5.out.l (lcells_len _) (lcells_one _) lb rfl (encL_one _) PP NE.out (by omega) (Nat.le_trans HB.out B5.out.size))
   obtain ⟨t0, t1⟩ := two_cells C5.out.st
   clear lb b5 z5
   go_wp2_with (go_at_call 42; refine (refuse_no _ _).mono ?_; rintro e w' ⟨rfl, rfl⟩)
   refine IC.out.mono ?_
   rintro e w6 ⟨A', c', rfl, ho, hg, hb⟩
   have T6 := Lib.hid (O5.out.l.tch_of hg (Nat.le_trans HB.out B5.out.size))
   have LN : Hid ((s.ls.take pp ++ (⟨id, text⟩ : T9.Li) :: s.ls.drop pp).length = s.ls.length + 1) := Lib.hid (by rw [List.length_append, List.length_cons, List.length_take, List.length_drop]; omega)
   have O6 : Hid (OS { s with A := A', ls := s.ls.take pp ++ (⟨id, text⟩ : T9.Li) :: s.ls.drop pp, c := c' } B w6) := Lib.hid ⟨by
    show OwnR w6 B _ 2 A' (s.ls.take pp ++ (⟨id, text⟩ : T9.Li) :: s.ls.drop pp).length c' _
    rw [LN.out]
    rw [lcells_take, lcells_drop] at ho
    have e : lcells (s.ls.take pp ++ (⟨id, text⟩ : T9.Li) :: s.ls.drop pp) = lcells (s.ls.take pp) ++ encL ⟨id, text⟩ ++ lcells (s.ls.drop pp) := by simp [lcells]
    rw [e]
    exact ho, O5.out.k.tch T6.out (by decide), O5.out.t.tch T6.out (by decide)⟩
   have C6 := Lib.hid (C5.out.tch T6.out (by decide) (by decide))
   have ER : Hid (R = (0, ⟨s.ls.take pp ++ (⟨id, text⟩ : T9.Li) :: s.ls.drop pp, tks s.ms⟩)) := Lib.hid (by
    refine HR.out.symm.trans ((T9.doM1_c HH.out h20).trans ?_)
    show (0, T9.St.mk (Sr.ins T9.ltL ⟨id, text⟩ s.ls) (tks s.ms)) = _
    rw [insL_at (x := ⟨id, text⟩) HH.out, HP.out])
   clear ho hg hb t0 t1 s0 s1
   obtain ⟨t0, t1⟩ := two_cells C6.out.st
   have f0 := blk_free C6.out.st 0
   have TL := C6.out.turnL A' (s.ls.take pp ++ (⟨id, text⟩ : T9.Li) :: s.ls.drop pp) c'
   rw [LN.out] at TL
   obtain ⟨w7, hw7⟩ : ∃ v, w6.setCell ⟨w.heap.size, 0, none⟩ (.slice A' (s.ls.length + 1) c') = v := ⟨_, rfl⟩
   rw [hw7] at TL
   have C7 := Lib.hid TL.1
   have T7 := Lib.hid TL.2
   have O7 := Lib.hid (O6.out.tch T7.out (by decide) (by decide) (by decide))
   clear TL
   obtain ⟨wz, hwz⟩ : ∃ v, (w7.setCell ⟨w.heap.size + 2, 0, none⟩ (Value.slice A' (s.ls.length + 1) c')).setCell ⟨w.heap.size + 2, 1, none⟩ (Value.slice s.A2 s.ms.length s.c2) = v := ⟨_, rfl⟩
   have FN := Lib.hid (C7.out.fin (w' := wz) O7.out.smt (by dsimp only; rw [LN.out]; exact hwz))
   have g0 := blk_free C7.out.rv 0
   have g1 := blk_free C7.out.rv 1
   obtain ⟨u0, u1⟩ := two_cells C7.out.st
   obtain ⟨v0, v1⟩ := two_cells C7.out.rv
   have y0 := FN.out.2.2.1
   have y1 := FN.out.2.2.2
   dsimp only at u0 u1 y0 y1
   try rw [LN.out] at u0
   try rw [LN.out] at u1
   try rw [LN.out] at y0
   try rw [LN.out] at y1
   go_wp2
   refine bodyPost_ret (v := .agg #[Value.slice A' (s.ls.length + 1) c', Value.slice s.A2 s.ms.length s.c2]) (by simp [results, Tryz.results22, go_sem, y0, y1]) rfl ?_
   have G := ChgOk.good (r := R) (B := B) (w := w) ((((B5.out.mono HB.out).trans T6.out.below).trans (T7.out.below.mono HB.out)).trans (FN.out.2.1.mono HB.out)) FN.out.1 ER.out
   unfold MSt.val at G
   dsimp only at G
   rw [LN.out] at G
   exact G
end

section
open Go.RowKit Go.Lib

theorem TagsOwn.filter {w : World} {B : Nat} {ms : List MTk} (h : TagsOwn w B ms) (p : MTk → Bool) : TagsOwn w B (ms.filter p) := ⟨fun m hm => h.1 m (List.mem_filter.1 hm).1, List.Pairwise.filter _ h.2⟩
theorem tks_filter (p : T9.Tk → Bool) (ms : List MTk) : tks (ms.filter fun m => !p m.t) = (tks ms).filter fun t => !p t := by
 unfold tks
 rw [List.filter_map]
 rfl
theorem deleteL_any {A : Option Addr} {n c p B : Nat} {xs : List Value} {w : World} (h : OwnR w B 50 2 A n c xs) (h1 : ∀ u ∈ xs, u.oneCell' = true) (hp : p < n) (hs : n ≤ 1001) :
  Calls Tryz.prog 46 #[.slice A n c, .int .i64 (p : Int), .int .i64 ((p : Int) + 1)] w (InsR 50 2 A c (xs.take (p * 2) ++ xs.drop ((p + 1) * 2)) (n - 1) B w) := by
 obtain ⟨g, rfl, c0, own⟩ := h.parts.resolve_left (fun q => by omega)
 obtain ⟨m, rfl⟩ : ∃ m, n = m + 1 := ⟨n - 1, by omega⟩
 rw [Nat.add_sub_cancel]
 exact deleteL_c own h1 (by omega) (by omega)
theorem deleteK_any {A : Option Addr} {n c p B : Nat} {xs : List Value} {w : World} (h : OwnR w B 45 7 A n c xs) (h1 : ∀ u ∈ xs, u.oneCell' = true) (hp : p < n) (hs : n ≤ 1001) :
  Calls Tryz.prog 56 #[.slice A n c, .int .i64 (p : Int), .int .i64 ((p : Int) + 1)] w (InsR 45 7 A c (xs.take (p * 7) ++ xs.drop ((p + 1) * 7)) (n - 1) B w) := by
 obtain ⟨g, rfl, c0, own⟩ := h.parts.resolve_left (fun q => by omega)
 obtain ⟨m, rfl⟩ : ∃ m, n = m + 1 := ⟨n - 1, by omega⟩
 rw [Nat.add_sub_cancel]
 exact deleteK_c own h1 (by omega) (by omega)

theorem TagsOwn.sub {w : World} {B : Nat} {ms ns : List MTk} (h : TagsOwn w B ms) (hs : ns.Sublist ms) : TagsOwn w B ns := ⟨fun m hm => h.1 m (hs.subset hm), h.2.sublist hs⟩
theorem cut_sub {α : Type} (l : List α) (p : Nat) : (l.take p ++ l.drop (p + 1)).Sublist l := by
 conv => rhs; rw [← List.take_append_drop p l]
 refine List.Sublist.append_left ?_ _
 have q := List.drop_sublist 1 (l.drop p)
 rw [List.drop_drop] at q
 exact q
namespace T9
theorem filK_at {l : List Tk} {id : Nat} (hu : l.Pairwise fun x y => x.id < y.id) (h : hasK l id = true) : wo l 0 false id = l.take (posK l id) ++ l.drop (posK l id + 1) := by
 have e : wo l 0 false id = l.filter fun y => !(y.id == id) := by
  unfold wo
  refine List.filter_congr fun t _ => ?_
  simp
 rw [e]
 obtain ⟨y, hy, rfl⟩ := (hasK_at hu).1 h
 obtain ⟨hp, ey⟩ := List.getElem?_eq_some_iff.1 hy
 conv => lhs; rw [← List.take_append_drop (posK l y.id) l]
 rw [List.filter_append, List.drop_eq_getElem_cons hp, ey, List.filter_cons, if_neg (by simp)]
 congr 1
 ·rw [List.filter_eq_self]
  intro z hz
  obtain ⟨i, hi, rfl⟩ := List.mem_iff_getElem.1 hz
  rw [List.length_take] at hi
  have := List.pairwise_iff_getElem.1 hu i (posK l y.id) (by omega) hp (by omega)
  rw [ey] at this
  rw [List.getElem_take]
  have ne : ¬ l[i].id = y.id := by omega
  simp [ne]
 ·rw [List.filter_eq_self]
  intro z hz
  obtain ⟨i, hi, rfl⟩ := List.mem_iff_getElem.1 hz
  rw [List.length_drop] at hi
  have := List.pairwise_iff_getElem.1 hu (posK l y.id) (posK l y.id + 1 + i) hp (by omega) (by omega)
  rw [ey] at this
  rw [List.getElem_drop]
  have ne : ¬ l[posK l y.id + 1 + i].id = y.id := by omega
  simp [ne]
/-- A task that is changed stays where it was. -/
theorem ins_set {l : List Tk} {id : Nat} {t : Tk} (hu : l.Pairwise fun x y => x.id < y.id) (h : hasK l id = true) (ht : t.id = id) : Sr.ins ltK t (wo l 0 false id) = l.set (posK l id) t := by
 rw [filK_at hu h]
 obtain ⟨y, hy, ey⟩ := (hasK_at hu).1 h
 have hp := (List.getElem?_eq_some_iff.1 hy).1
 have tl : (l.take (posK l id)).length = posK l id := by rw [List.length_take]; omega
 have t1 : (l.take (posK l id) ++ l.drop (posK l id + 1)).take (posK l id) = l.take (posK l id) := List.take_left' tl
 have d1 : (l.take (posK l id) ++ l.drop (posK l id + 1)).drop (posK l id) = l.drop (posK l id + 1) := List.drop_left' tl
 rw [Sr.ins_new (i := posK l id) (fun z hz => ?_) (fun z hz => ?_), t1, d1, List.set_eq_take_append_cons_drop, if_pos hp]
 ·rw [t1] at hz
  obtain ⟨i, hi, rfl⟩ := List.mem_iff_getElem.1 hz
  rw [List.length_take] at hi
  rw [List.getElem_take]
  unfold ltK
  rw [decide_eq_true_eq, ht]
  exact (posK_iff hu (List.getElem?_eq_getElem (by omega))).1 (by omega)
 ·rw [List.getElem?_append_right (by rw [tl]; exact Nat.le_refl _), tl, Nat.sub_self, List.getElem?_drop, Nat.add_zero] at hz
  have q := (List.getElem?_eq_some_iff.1 hz).1
  have := List.pairwise_iff_getElem.1 hu (posK l id) (posK l id + 1) hp q (by omega)
  rw [(List.getElem?_eq_some_iff.1 hz).2, (List.getElem?_eq_some_iff.1 hy).2, ey] at this
  unfold ltK
  rw [decide_eq_false_iff_not, decide_eq_true_eq, ht]
  omega
theorem findK_at {l : List Tk} {id : Nat} (hu : l.Pairwise fun x y => x.id < y.id) (h : hasK l id = true) : l[posK l id]? = some (findK l id).1 ∧ (findK l id).1.id = id := by
 obtain ⟨y, hy, ey⟩ := (hasK_at hu).1 h
 have q := findK_one (hu.imp fun h => by omega) (List.mem_of_getElem? hy)
 rw [ey] at q
 rw [q]
 exact ⟨hy, ey⟩
theorem filL_at {l : List Li} {id : Nat} (hu : l.Pairwise fun x y => x.id < y.id) (h : hasL l id = true) : (l.filter fun y => !(y.id == id)) = l.take (posL l id) ++ l.drop (posL l id + 1) := by
 obtain ⟨y, hy, rfl⟩ := (hasL_at hu).1 h
 obtain ⟨hp, ey⟩ := List.getElem?_eq_some_iff.1 hy
 conv => lhs; rw [← List.take_append_drop (posL l y.id) l]
 rw [List.filter_append, List.drop_eq_getElem_cons hp, ey, List.filter_cons, if_neg (by simp)]
 congr 1
 ·rw [List.filter_eq_self]
  intro z hz
  obtain ⟨i, hi, rfl⟩ := List.mem_iff_getElem.1 hz
  rw [List.length_take] at hi
  have := List.pairwise_iff_getElem.1 hu i (posL l y.id) (by omega) hp (by omega)
  rw [ey] at this
  rw [List.getElem_take]
  have ne : ¬ l[i].id = y.id := by omega
  simp [ne]
 ·rw [List.filter_eq_self]
  intro z hz
  obtain ⟨i, hi, rfl⟩ := List.mem_iff_getElem.1 hz
  rw [List.length_drop] at hi
  have := List.pairwise_iff_getElem.1 hu (posL l y.id) (posL l y.id + 1 + i) hp (by omega) (by omega)
  rw [ey] at this
  rw [List.getElem_drop]
  have ne : ¬ l[posL l y.id + 1 + i].id = y.id := by omega
  simp [ne]
theorem wo_drop {s : St} {id : Nat} (h : rightE s = 0) (hh : hasL s.lists id = true) : wo s.tasks id false 0 = s.tasks.filter fun t => !(t.list == id) := by
 obtain ⟨h1, h2, h3, h4⟩ := rightE_parts h
 obtain ⟨l, hl, e⟩ := hasL_iff.1 hh
 have p := ((listsE_iff.1 h3).1 l hl).1
 unfold wo
 refine List.filter_congr fun t ht => ?_
 have q := ((tasksE_iff.1 h4).1 t ht).1
 have a : (t.id == 0) = false := by rw [beq_eq_false_iff_ne]; omega
 have b : (id == 0) = false := by rw [beq_eq_false_iff_ne]; omega
 rw [a, b]
 simp
theorem wo_clear {s : St} {id : Nat} (h : rightE s = 0) (hh : hasL s.lists id = true) : wo s.tasks id true 0 = s.tasks.filter fun t => !(t.list == id && t.done) := by
 obtain ⟨h1, h2, h3, h4⟩ := rightE_parts h
 obtain ⟨l, hl, e⟩ := hasL_iff.1 hh
 have p := ((listsE_iff.1 h3).1 l hl).1
 unfold wo
 refine List.filter_congr fun t ht => ?_
 have q := ((tasksE_iff.1 h4).1 t ht).1
 have a : (t.id == 0) = false := by rw [beq_eq_false_iff_ne]; omega
 have b : (id == 0) = false := by rw [beq_eq_false_iff_ne]; omega
 rw [a, b]
 simp
end T9

set_option linter.unusedSimpArgs false in
set_option maxHeartbeats 4000000 in
set_option maxRecDepth 100000 in
theorem chg12_c {s : MSt} {u : T9.Mu} {B : Nat} {w : World} (h : OS s B w) (hB : B ≤ w.heap.size) (hr : T9.rightE s.st = 0) (hk : u.kind = 12) :
  Calls Tryz.prog 22 #[s.val, u.val] w (ChgOk (T9.doM s.st u) B w) := by
 obtain ⟨kd, id, list, text, f, flag⟩ := u
 obtain rfl : kd = 12 := hk
 obtain ⟨w1, hw1⟩ : ∃ v, w.alloc (.cells #[.slice s.A s.ls.length s.c, .slice s.A2 s.ms.length s.c2] 25) = v := ⟨_, rfl⟩
 obtain ⟨w2, hw2⟩ : ∃ v, w1.alloc (.cells #[.int .i64 12, .int .u64 (id : Int), .int .u64 (list : Int), .string (str text), .float .f64 f, .bool flag] 29) = v := ⟨_, rfl⟩
 obtain ⟨w3, hw3⟩ : ∃ v, w2.alloc (.cells #[.slice none 0 0, .slice none 0 0] 25) = v := ⟨_, rfl⟩
 obtain ⟨cf, b3, z1, z2⟩ := CF.start (s := s) (m := ⟨12, id, list, text, f, flag⟩) (B := B) hw1 hw2 hw3
 have C3 := Lib.hid cf
 have B3 := Lib.hid b3
 have O3 := Lib.hid (h.stay b3)
 have HB := Lib.hid hB
 have O0 := Lib.hid h
 have UL := Lib.hid (right_upL hr)
 have UK := Lib.hid (right_upK hr)
 obtain ⟨s0, s1⟩ := two_cells cf.st
 obtain ⟨m0, m1, m2, m3, m4, m5⟩ := six_cells11 cf.mu
 have nl : s.ls.length ≤ 20 := (T9.rightE_parts hr).1
 have nk : s.ms.length ≤ 60 := by have := (T9.rightE_parts hr).2.1; simpa [MSt.st, tks] using this
 obtain ⟨R, hR⟩ : ∃ r, T9.doM s.st ⟨12, id, list, text, f, flag⟩ = r := ⟨_, rfl⟩
 rw [hR]
 have HR := Lib.hid hR
 have HRT := Lib.hid hr
 unfold MSt.val T9.Mu.val
 dsimp only
 clear h hB hr cf b3 hR
 obtain ⟨pp, hpp⟩ : ∃ b, T9.posL (s.ls) list = b := ⟨_, rfl⟩
 have HP := Lib.hid hpp
 cases hhh : T9.hasL (s.ls) list with
 | false =>
  have LC := Lib.hid (mustList_no (id := list) O3.out.sm (by omega) UL.out hhh)
  have e : R = (91, s.st) := HR.out.symm.trans (T9.doM12_a  hhh)
  have E := Lib.hid e
  unfold MSt.val at LC
  clear hpp hhh e
  go_enter Tryz.func22, Tryz.ntmps22
  go_wp2_with fail
  refine LC.out.mono ?_
  rintro e w4 ⟨rfl, h4⟩
  have B4 := Lib.hid (B3.out.trans (h4.mono B3.out.size))
  rw [E.out]
  exact ⟨rfl, ChgOk.bad (B4.out.mono HB.out) (show (91 : Int) ≠ 0 by decide)⟩
 | true =>
  have LC := Lib.hid (mustList_yes (id := list) O3.out.sm (by omega) UL.out hhh)
  rw [hpp] at LC
  have HH := Lib.hid hhh
  have PP : pp < s.ls.length := by
   obtain ⟨y, hy, _⟩ := (T9.hasL_at UL.out).1 hhh
   have z : T9.posL (s.ls) list < (s.ls).length := (List.getElem?_eq_some_iff.1 hy).1
   rw [hpp] at z
   exact z
  unfold MSt.val at LC
  clear hpp hhh
  go_enter Tryz.func22, Tryz.ntmps22
  go_wp2_with fail
  refine LC.out.mono ?_
  rintro e w4 ⟨rfl, h4⟩
  have C4 := Lib.hid (C3.out.stay h4)
  have O4 := Lib.hid (O3.out.stay h4)
  have B4 := Lib.hid (B3.out.trans (h4.mono B3.out.size))
  have D4 := Lib.hid (B4.out.mono HB.out)
  clear h4
  clear s0 s1 m0 m1 m2 m3 m4 m5
  obtain ⟨s0, s1⟩ := two_cells C4.out.st
  obtain ⟨m0, m1, m2, m3, m4, m5⟩ := six_cells11 C4.out.mu
  have hmf : ∀ (fn : Fn) (first cap : Array Value) (w : World), (Instr.makeFunc fn first cap).run Tryz.prog w = .ok (.func fn first cap) w := fun _ _ _ _ => rfl
  have DF0 := deleteF_c (p := (fun t : T9.Tk => t.list == list && t.done)) O4.out.k rfl (fun m hm => (O4.out.smt.t m hm).fine) C4.out.mu (show s.ms.length ≤ 1000 by omega) (fun args w => Tryz.call49 args w) (fun m W hm => goneD_c m W hm)
  obtain ⟨ns, hns⟩ : ∃ l, (s.ms.filter fun m => !(fun t : T9.Tk => t.list == list && t.done) m.t) = l := ⟨_, rfl⟩
  rw [hns] at DF0
  have DF := Lib.hid DF0
  have HNS := Lib.hid hns
  clear DF0 hns
  go_wp2_with fail
  refine DF.out.mono ?_
  rintro e w5 ⟨A9, c9, rfl, ho, hg, hb⟩
  have T5 := Lib.hid (O4.out.k.tch_of hg (Nat.le_trans HB.out D4.out.size))
  have O5 : Hid (OS { s with A2 := A9, ms := ns, c2 := c9 } B w5) := Lib.hid ⟨O4.out.l.tch T5.out (by decide), ho, by have q := (O4.out.t.tch T5.out (by decide)).filter (fun m => !(fun t : T9.Tk => t.list == list && t.done) m.t); rw [HNS.out] at q; exact q⟩
  have C5 := Lib.hid (C4.out.tch T5.out (by decide) (by decide))
  have D5 : Hid (Below B w w5) := Lib.hid (D4.out.trans T5.out.below)
  clear ho hg hb s0 s1
  obtain ⟨s0, s1⟩ := two_cells C5.out.st
  have f1 := blk_free C5.out.st 1
  have TK := C5.out.turnK A9 ns c9
  obtain ⟨w6, hw6⟩ : ∃ v, w5.setCell ⟨w.heap.size, 1, none⟩ (.slice A9 ns.length c9) = v := ⟨_, rfl⟩
  rw [hw6] at TK
  have C6 := Lib.hid TK.1
  have T6 := Lib.hid TK.2
  have D6 : Hid (Below B w w6) := Lib.hid (D5.out.trans (T6.out.below.mono HB.out))
  have O6 := Lib.hid (O5.out.tch T6.out (by decide) (by decide) (by decide))
  clear TK
  have ER : Hid (R = (0, ⟨s.ls, tks ns⟩)) := Lib.hid (by
   refine HR.out.symm.trans ((T9.doM12_b HH.out).trans ?_)
   rw [T9.wo_clear HRT.out HH.out, ← HNS.out, tks_filter (fun t => t.list == list && t.done)]
   rfl)
  obtain ⟨wz, hwz⟩ : ∃ v, (w6.setCell ⟨w.heap.size + 2, 0, none⟩ (Value.slice s.A s.ls.length s.c)).setCell ⟨w.heap.size + 2, 1, none⟩ (Value.slice A9 ns.length c9) = v := ⟨_, rfl⟩
  have FN := Lib.hid (C6.out.fin (w' := wz) O6.out.smt (by dsimp only; exact hwz))
  have g0 := blk_free C6.out.rv 0
  have g1 := blk_free C6.out.rv 1
  obtain ⟨u0, u1⟩ := two_cells C6.out.st
  obtain ⟨v0, v1⟩ := two_cells C6.out.rv
  have y0 := FN.out.2.2.1
  have y1 := FN.out.2.2.2
  dsimp only at u0 u1 y0 y1
  skip
  go_wp2
  refine bodyPost_ret (v := .agg #[Value.slice s.A s.ls.length s.c, Value.slice A9 ns.length c9]) (by simp [results, Tryz.results22, go_sem, y0, y1]) rfl ?_
  have G := ChgOk.good (r := R) (B := B) (w := w) ((D6.out).trans (FN.out.2.1.mono HB.out)) FN.out.1 ER.out
  unfold MSt.val at G
  dsimp only at G
  skip
  exact G

set_option linter.unusedSimpArgs false in
set_option maxHeartbeats 4000000 in
set_option maxRecDepth 100000 in
theorem chg2_c {s : MSt} {u : T9.Mu} {B : Nat} {w : World} (h : OS s B w) (hB : B ≤ w.heap.size) (hr : T9.rightE s.st = 0) (hk : u.kind = 2) :
  Calls Tryz.prog 22 #[s.val, u.val] w (ChgOk (T9.doM s.st u) B w) := by
 obtain ⟨kd, id, list, text, f, flag⟩ := u
 obtain rfl : kd = 2 := hk
 obtain ⟨w1, hw1⟩ : ∃ v, w.alloc (.cells #[.slice s.A s.ls.length s.c, .slice s.A2 s.ms.length s.c2] 25) = v := ⟨_, rfl⟩
 obtain ⟨w2, hw2⟩ : ∃ v, w1.alloc (.cells #[.int .i64 2, .int .u64 (id : Int), .int .u64 (list : Int), .string (str text), .float .f64 f, .bool flag] 29) = v := ⟨_, rfl⟩
 obtain ⟨w3, hw3⟩ : ∃ v, w2.alloc (.cells #[.slice none 0 0, .slice none 0 0] 25) = v := ⟨_, rfl⟩
 obtain ⟨cf, b3, z1, z2⟩ := CF.start (s := s) (m := ⟨2, id, list, text, f, flag⟩) (B := B) hw1 hw2 hw3
 have C3 := Lib.hid cf
 have B3 := Lib.hid b3
 have O3 := Lib.hid (h.stay b3)
 have HB := Lib.hid hB
 have O0 := Lib.hid h
 have UL := Lib.hid (right_upL hr)
 have UK := Lib.hid (right_upK hr)
 obtain ⟨s0, s1⟩ := two_cells cf.st
 obtain ⟨m0, m1, m2, m3, m4, m5⟩ := six_cells11 cf.mu
 have nl : s.ls.length ≤ 20 := (T9.rightE_parts hr).1
 have nk : s.ms.length ≤ 60 := by have := (T9.rightE_parts hr).2.1; simpa [MSt.st, tks] using this
 obtain ⟨R, hR⟩ : ∃ r, T9.doM s.st ⟨2, id, list, text, f, flag⟩ = r := ⟨_, rfl⟩
 rw [hR]
 have HR := Lib.hid hR
 have HRT := Lib.hid hr
 unfold MSt.val T9.Mu.val
 dsimp only
 clear h hB hr cf b3 hR
 obtain ⟨pp, hpp⟩ : ∃ b, T9.posL (s.ls) id = b := ⟨_, rfl⟩
 have HP := Lib.hid hpp
 cases hhh : T9.hasL (s.ls) id with
 | false =>
  have LC := Lib.hid (mustList_no (id := id) O3.out.sm (by omega) UL.out hhh)
  have e : R = (91, s.st) := HR.out.symm.trans (T9.doM2_a  hhh)
  have E := Lib.hid e
  unfold MSt.val at LC
  clear hpp hhh e
  go_enter Tryz.func22, Tryz.ntmps22
  go_wp2_with fail
  refine LC.out.mono ?_
  rintro e w4 ⟨rfl, h4⟩
  have B4 := Lib.hid (B3.out.trans (h4.mono B3.out.size))
  rw [E.out]
  exact ⟨rfl, ChgOk.bad (B4.out.mono HB.out) (show (91 : Int) ≠ 0 by decide)⟩
 | true =>
  have LC := Lib.hid (mustList_yes (id := id) O3.out.sm (by omega) UL.out hhh)
  rw [hpp] at LC
  have HH := Lib.hid hhh
  have PP : pp < s.ls.length := by
   obtain ⟨y, hy, _⟩ := (T9.hasL_at UL.out).1 hhh
   have z : T9.posL (s.ls) id < (s.ls).length := (List.getElem?_eq_some_iff.1 hy).1
   rw [hpp] at z
   exact z
  unfold MSt.val at LC
  clear hpp hhh
  go_enter Tryz.func22, Tryz.ntmps22
  go_wp2_with fail
  refine LC.out.mono ?_
  rintro e w4 ⟨rfl, h4⟩
  have C4 := Lib.hid (C3.out.stay h4)
  have O4 := Lib.hid (O3.out.stay h4)
  have B4 := Lib.hid (B3.out.trans (h4.mono B3.out.size))
  have D4 := Lib.hid (B4.out.mono HB.out)
  clear h4
  clear s0 s1 m0 m1 m2 m3 m4 m5
  obtain ⟨s0, s1⟩ := two_cells C4.out.st
  obtain ⟨m0, m1, m2, m3, m4, m5⟩ := six_cells11 C4.out.mu
  have hw9 : IntKind.i64.wrap ((pp : Int) + 1) = (pp : Int) + 1 := by rw [IntKind.wrap_i64]; omega
  obtain ⟨nls, hnls⟩ : ∃ l, s.ls.take pp ++ s.ls.drop (pp + 1) = l := ⟨_, rfl⟩
  have HNL := Lib.hid hnls
  have LN : nls.length = s.ls.length - 1 := by rw [← hnls, List.length_append, List.length_take, List.length_drop]; omega
  have DL0 := deleteL_any (p := pp) O4.out.l (lcells_one _) PP (by omega)
  rw [← LN, lcells_take, lcells_drop] at DL0
  have DL := Lib.hid DL0
  clear DL0 LN hnls
  go_wp2_with fail
  refine DL.out.mono ?_
  rintro e w5 ⟨A', c', rfl, ho, hg, hb⟩
  have T5 := Lib.hid (O4.out.l.tch_of hg (Nat.le_trans HB.out D4.out.size))
  have O5 : Hid (OS { s with A := A', ls := nls, c := c' } B w5) := Lib.hid ⟨by
   have e : lcells nls = lcells (s.ls.take pp) ++ lcells (s.ls.drop (pp + 1)) := by rw [← HNL.out]; simp [lcells]
   show OwnR w5 B _ 2 A' nls.length c' (lcells nls)
   rw [e]
   exact ho, O4.out.k.tch T5.out (by decide), O4.out.t.tch T5.out (by decide)⟩
  have C5 := Lib.hid (C4.out.tch T5.out (by decide) (by decide))
  have D5 : Hid (Below B w w5) := Lib.hid (D4.out.trans T5.out.below)
  clear ho hg hb s0 s1 m0 m1 m2 m3 m4 m5
  obtain ⟨s0, s1⟩ := two_cells C5.out.st
  have f0 := blk_free C5.out.st 0
  have TL := C5.out.turnL A' nls c'
  obtain ⟨w6, hw6⟩ : ∃ v, w5.setCell ⟨w.heap.size, 0, none⟩ (.slice A' nls.length c') = v := ⟨_, rfl⟩
  rw [hw6] at TL
  have C6 := Lib.hid TL.1
  have T6 := Lib.hid TL.2
  have O6 := Lib.hid (O5.out.tch T6.out (by decide) (by decide) (by decide))
  have D6 : Hid (Below B w w6) := Lib.hid (D5.out.trans (T6.out.below.mono HB.out))
  obtain ⟨u0, u1⟩ := two_cells C6.out.st
  dsimp only at u0 u1
  clear TL
  have hmf : ∀ (fn : Fn) (first cap : Array Value) (w : World), (Instr.makeFunc fn first cap).run Tryz.prog w = .ok (.func fn first cap) w := fun _ _ _ _ => rfl
  have DF0 := deleteF_c (p := (fun t : T9.Tk => t.list == id)) O6.out.k rfl (fun m hm => (O6.out.smt.t m hm).fine) C6.out.mu (show s.ms.length ≤ 1000 by omega) (fun args w => Tryz.call48 args w) (fun m W hm => goneL_c m W hm)
  obtain ⟨ns, hns⟩ : ∃ l, (s.ms.filter fun m => !(fun t : T9.Tk => t.list == id) m.t) = l := ⟨_, rfl⟩
  rw [hns] at DF0
  have DF := Lib.hid DF0
  have HNS := Lib.hid hns
  clear DF0 hns
  go_wp2_with fail
  refine DF.out.mono ?_
  rintro e w7 ⟨A9, c9, rfl, ho, hg, hb⟩
  have T7 := Lib.hid (O6.out.k.tch_of hg (Nat.le_trans HB.out D6.out.size))
  have O7 : Hid (OS { s with A := A', ls := nls, c := c', A2 := A9, ms := ns, c2 := c9 } B w7) := Lib.hid ⟨O6.out.l.tch T7.out (by decide), ho, by have q := (O6.out.t.tch T7.out (by decide)).filter (fun m => !(fun t : T9.Tk => t.list == id) m.t); rw [HNS.out] at q; exact q⟩
  have C7 := Lib.hid (C6.out.tch T7.out (by decide) (by decide))
  have D7 : Hid (Below B w w7) := Lib.hid (D6.out.trans T7.out.below)
  clear ho hg hb s0 s1 u0 u1
  obtain ⟨s0, s1⟩ := two_cells C7.out.st
  have f1 := blk_free C7.out.st 1
  have TK := C7.out.turnK A9 ns c9
  obtain ⟨w8, hw8⟩ : ∃ v, w7.setCell ⟨w.heap.size, 1, none⟩ (.slice A9 ns.length c9) = v := ⟨_, rfl⟩
  rw [hw8] at TK
  have C8 := Lib.hid TK.1
  have T8 := Lib.hid TK.2
  have D8 : Hid (Below B w w8) := Lib.hid (D7.out.trans (T8.out.below.mono HB.out))
  have O8 := Lib.hid (O7.out.tch T8.out (by decide) (by decide) (by decide))
  clear TK
  have ER : Hid (R = (0, ⟨nls, tks ns⟩)) := Lib.hid (by
   refine HR.out.symm.trans ((T9.doM2_b HH.out).trans ?_)
   rw [T9.wo_drop HRT.out HH.out, ← HNS.out, tks_filter (fun t => t.list == id), ← HNL.out]
   refine congrArg (fun z => ((0 : Int), T9.St.mk z _)) ?_
   have q := T9.filL_at (id := id) UL.out HH.out
   rw [show T9.posL s.st.lists id = pp from HP.out] at q
   exact q)
  obtain ⟨wz, hwz⟩ : ∃ v, (w8.setCell ⟨w.heap.size + 2, 0, none⟩ (Value.slice A' nls.length c')).setCell ⟨w.heap.size + 2, 1, none⟩ (Value.slice A9 ns.length c9) = v := ⟨_, rfl⟩
  have FN := Lib.hid (C8.out.fin (w' := wz) O8.out.smt (by dsimp only; exact hwz))
  have g0 := blk_free C8.out.rv 0
  have g1 := blk_free C8.out.rv 1
  obtain ⟨u0, u1⟩ := two_cells C8.out.st
  obtain ⟨v0, v1⟩ := two_cells C8.out.rv
  have y0 := FN.out.2.2.1
  have y1 := FN.out.2.2.2
  dsimp only at u0 u1 y0 y1
  skip
  go_wp2
  refine bodyPost_ret (v := .agg #[Value.slice A' nls.length c', Value.slice A9 ns.length c9]) (by simp [results, Tryz.results22, go_sem, y0, y1]) rfl ?_
  have G := ChgOk.good (r := R) (B := B) (w := w) ((D8.out).trans (FN.out.2.1.mono HB.out)) FN.out.1 ER.out
  unfold MSt.val at G
  dsimp only at G
  skip
  exact G
end
end Go.Proofs.YtjaaehbllkbiaaaGreat
