import Derived.Test.YtpphmbfghfmdlaaGreatZ36
import Derived.Test.YtpphmbfghfmdlaaGreatZ30
namespace Go.Proofs.YtpphmbfghfmdlaaGreat
set_option linter.unusedSimpArgs false
set_option maxRecDepth 100000
section
section
open Go.RowKit Go.Lib
structure OS (s : MSt) (B : Nat) (w : World) : Prop where
 l : cZ w B 51 2 s.A s.ls.length s.c (aF s.ls)
 k : cZ w B 56 7 s.A2 s.ms.length s.c2 (ah s.ms)
 t : bu w B s.ms
theorem cZ.room {w : World} {B : Nat} {t : TypeId} {k n c : Nat} {A : Option Addr} {xs : List Value} (h : cZ w B t k A n c xs) : n ≤ c := by
 rcases h with ⟨q, r⟩ | ⟨g, e, q⟩
 ·omega
 ·exact (aJ q).2
theorem OS.smt {s : MSt} {B : Nat} {w : World} (h : OS s B w) : SMT s w :=
 ⟨h.l.lies (dC _), h.k.lies (aH _), fun x hx => ⟨(h.t.1 x hx).lies (by rw [bQ, Nat.mul_one]), (h.t.1 x hx).room⟩, h.l.room, h.k.room⟩
theorem OS.sm {s : MSt} {B : Nat} {w : World} (h : OS s B w) : SM s w := h.smt.sm
theorem OS.tch {s : MSt} {B B' : Nat} {w w' : World} {ts : List TypeId} (h : OS s B w) (hT : Tch B' ts w w') (h1 : 51 ∉ ts) (h2 : 56 ∉ ts) (h3 : 9 ∉ ts) : OS s B w' := ⟨h.l.tch hT h1, h.k.tch hT h2, h.t.tch hT h3⟩
theorem OS.stay {s : MSt} {B : Nat} {w w' : World} (h : OS s B w) (hb : Below w.heap.size w w') : OS s B w' := h.tch (Tch.of_below hb (Nat.le_refl _) []) (by simp) (by simp) (by simp)
structure CF (s : MSt) (m : T9.Mu) (B b : Nat) (w : World) : Prop where
 st : w.heap[b]? = some (.cells #[.slice s.A s.ls.length s.c, .slice s.A2 s.ms.length s.c2] 25 (0, 0))
 mu : gD m (b + 1) w
 rv : w.heap[b + 2]? = some (.cells #[.slice none 0 0, .slice none 0 0] 25 (0, 0))
theorem CF.stay {s : MSt} {m : T9.Mu} {B b : Nat} {w w' : World} (h : CF s m B b w) (hb : Below w.heap.size w w') : CF s m B b w' := ⟨ae h.st hb, h.mu.stay hb, ae h.rv hb⟩
theorem CF.tch {s : MSt} {m : T9.Mu} {B b B' : Nat} {w w' : World} {ts : List TypeId} (h : CF s m B b w) (hT : Tch B' ts w w') (h1 : 25 ∉ ts) (h2 : 29 ∉ ts) : CF s m B b w' := ⟨hT.blk h.st h1, hT.blk h.mu h2, hT.blk h.rv h1⟩
theorem CF.start {s : MSt} {m : T9.Mu} {B : Nat} {w w1 w2 w3 : World} (h1 : w.alloc (.cells #[.slice s.A s.ls.length s.c, .slice s.A2 s.ms.length s.c2] 25) = w1) (h2 : w1.alloc (.cells #[.int .i64 m.kind, .int .u64 (m.id : Int), .int .u64 (m.list : Int), .string (str m.text), .float .f64 m.f, .bool m.flag] 29) = w2) (h3 : w2.alloc (.cells #[.slice none 0 0, .slice none 0 0] 25) = w3) :
  CF s m B w.heap.size w3 ∧ Below w.heap.size w w3 ∧ w1.heap.size = w.heap.size + 1 ∧ w2.heap.size = w.heap.size + 2 := by
 obtain ⟨a1, b1, z1⟩ := au h1
 obtain ⟨a2, b2, z2⟩ := aW h2
 obtain ⟨a3, b3, z3⟩ := au h3
 rw [z1] at a2
 rw [z2, z1] at a3
 exact ⟨⟨ae (ae a1 b2) b3, gD.stay (m := m) a2 b3, a3⟩, b1.trans ((b2.mono (by omega)).trans (b3.mono (by omega))), z1, by omega⟩
theorem CF.turn {s q : MSt} {m : T9.Mu} {B b : Nat} {w : World} (h : CF s m B b w) :
  CF q m B b ((w.setCell ⟨b, 0, none⟩ (.slice q.A q.ls.length q.c)).setCell ⟨b, 1, none⟩ (.slice q.A2 q.ms.length q.c2)) ∧ Tch b [25] w ((w.setCell ⟨b, 0, none⟩ (.slice q.A q.ls.length q.c)).setCell ⟨b, 1, none⟩ (.slice q.A2 q.ms.length q.c2)) := by
 have y : Ty w b 25 := ⟨_, _, h.st⟩
 refine ⟨⟨(ai (ai h.st 0 _) 1 _).trans rfl, ?_, ?_⟩, ((Tch.refl _ _ w).aM (p := ⟨b, 0, none⟩) y (by simp) (Nat.le_refl _) _).aM (p := ⟨b, 1, none⟩) (y.set _ _) (by simp) (Nat.le_refl _) _⟩
 ·exact ay (ay h.mu (p := ⟨b, 0, none⟩) (by show b + 1 ≠ b; omega) _) (p := ⟨b, 1, none⟩) (by show b + 1 ≠ b; omega) _
 ·exact ay (ay h.rv (p := ⟨b, 0, none⟩) (by show b + 2 ≠ b; omega) _) (p := ⟨b, 1, none⟩) (by show b + 2 ≠ b; omega) _
theorem CF.turnL {s : MSt} {m : T9.Mu} {B b : Nat} {w : World} (h : CF s m B b w) (A : Option Addr) (ls : List T9.Li) (c : Nat) :
  CF { s with A := A, ls := ls, c := c } m B b (w.setCell ⟨b, 0, none⟩ (.slice A ls.length c)) ∧ Tch b [25] w (w.setCell ⟨b, 0, none⟩ (.slice A ls.length c)) := by
 have y : Ty w b 25 := ⟨_, _, h.st⟩
 exact ⟨⟨(ai h.st 0 _).trans rfl, ay h.mu (p := ⟨b, 0, none⟩) (by show b + 1 ≠ b; omega) _, ay h.rv (p := ⟨b, 0, none⟩) (by show b + 2 ≠ b; omega) _⟩, (Tch.refl _ _ w).aM (p := ⟨b, 0, none⟩) y (by simp) (Nat.le_refl _) _⟩
theorem CF.tY {s : MSt} {m : T9.Mu} {B b : Nat} {w : World} (h : CF s m B b w) (A : Option Addr) (ms : List MTk) (c : Nat) :
  CF { s with A2 := A, ms := ms, c2 := c } m B b (w.setCell ⟨b, 1, none⟩ (.slice A ms.length c)) ∧ Tch b [25] w (w.setCell ⟨b, 1, none⟩ (.slice A ms.length c)) := by
 have y : Ty w b 25 := ⟨_, _, h.st⟩
 exact ⟨⟨(ai h.st 1 _).trans rfl, ay h.mu (p := ⟨b, 1, none⟩) (by show b + 1 ≠ b; omega) _, ay h.rv (p := ⟨b, 1, none⟩) (by show b + 2 ≠ b; omega) _⟩, (Tch.refl _ _ w).aM (p := ⟨b, 1, none⟩) y (by simp) (Nat.le_refl _) _⟩
theorem CF.fin {s : MSt} {m : T9.Mu} {B b : Nat} {w w' : World} (h : CF s m B b w) (q : SMT s w) (hw : (w.setCell ⟨b + 2, 0, none⟩ (.slice s.A s.ls.length s.c)).setCell ⟨b + 2, 1, none⟩ (.slice s.A2 s.ms.length s.c2) = w') :
  SMT s w' ∧ Below b w w' ∧ w'.cell? ⟨b + 2, 0, none⟩ = some (.slice s.A s.ls.length s.c) ∧ w'.cell? ⟨b + 2, 1, none⟩ = some (.slice s.A2 s.ms.length s.c2) := by
 subst hw
 have y : Ty w (b + 2) 25 := ⟨_, _, h.rv⟩
 have T : Tch b [25] w ((w.setCell ⟨b + 2, 0, none⟩ (.slice s.A s.ls.length s.c)).setCell ⟨b + 2, 1, none⟩ (.slice s.A2 s.ms.length s.c2)) := ((Tch.refl _ _ w).aM (p := ⟨b + 2, 0, none⟩) y (by simp) (Nat.le_add_right _ _) _).aM (p := ⟨b + 2, 1, none⟩) (y.set _ _) (by simp) (Nat.le_add_right _ _) _
 have z := (ai (ai h.rv 0 (.slice s.A s.ls.length s.c)) 1 (.slice s.A2 s.ms.length s.c2)).trans rfl
 exact ⟨q.tch T (by decide) (by decide) (by decide), T.below, (aa z).1, (aa z).2⟩
def bZ (r : Int × T9.St) (B : Nat) (w : World) (e : Ending) (w' : World) : Prop :=
 Below B w w' ∧ (r.1 = 0 → ∃ q : MSt, e = .returned q.val ∧ SMT q w' ∧ q.st = r.2) ∧ (r.1 ≠ 0 → e = .panicked [{ v := .iface 33 (.int .i64 r.1), recovered := false }])
theorem bZ.bad {r : Int × T9.St} {B : Nat} {w w' : World} (hb : Below B w w') (h : r.1 ≠ 0) : bZ r B w (.panicked [{ v := .iface 33 (.int .i64 r.1), recovered := false }]) w' := ⟨hb, fun z => absurd z h, fun _ => rfl⟩
theorem bZ.good {r : Int × T9.St} {B : Nat} {w w' : World} {q : MSt} (hb : Below B w w') (hq : SMT q w') (hr : r = (0, q.st)) : bZ r B w (.returned q.val) w' := ⟨hb, fun _ => ⟨q, rfl, hq, by rw [hr]⟩, fun z => absurd (by rw [hr]) z⟩
theorem fe {s : T9.St} (h : T9.aG s = 0) : s.lists.Pairwise fun x y => x.id < y.id := ((T9.eY.1 (T9.aB h).2.2.1).2).imp fun q => of_decide_eq_true q
theorem fw {s : T9.St} (h : T9.aG s = 0) : s.aN.Pairwise fun x y => x.id < y.id := ((T9.bK.1 (T9.aB h).2.2.2).2).imp fun q => of_decide_eq_true q
theorem insL_at {ls : List T9.Li} {x : T9.Li} (h : T9.aZ ls x.id = false) : Sr.ins T9.ltL x ls = ls.take (T9.fA ls x.id) ++ x :: ls.drop (T9.fA ls x.id) := by
 refine Sr.lg fun y hy => ?_
 unfold T9.aZ at h
 rw [List.any_eq_false] at h
 have ne := h y hy
 simp only [beq_iff_eq] at ne
 unfold T9.ltL
 rw [decide_eq_true_eq, decide_eq_true_eq]
 omega
theorem insK_at {ls : List T9.Tk} {x : T9.Tk} (h : T9.dh ls x.id = false) : Sr.ins T9.ltK x ls = ls.take (T9.cz ls x.id) ++ x :: ls.drop (T9.cz ls x.id) := by
 refine Sr.lg fun y hy => ?_
 unfold T9.dh at h
 rw [List.any_eq_false] at h
 have ne := h y hy
 simp only [beq_iff_eq] at ne
 unfold T9.ltK
 rw [decide_eq_true_eq, decide_eq_true_eq]
 omega
namespace T9
theorem xU {s : St} {id list f : Nat} {text : List UInt8} {flag : Bool} (h : aZ s.lists id = true) : doM s ⟨1, id, list, text, f, flag⟩ = (92, s) := by unfold doM; dsimp only; rw [if_pos rfl, if_pos h]
theorem wS {s : St} {id list f : Nat} {text : List UInt8} {flag : Bool} (h : aZ s.lists id = false) (h2 : 20 ≤ s.lists.length) : doM s ⟨1, id, list, text, f, flag⟩ = (95, s) := by unfold doM; dsimp only; rw [if_pos rfl, if_neg (by rw [h]; decide), if_pos h2]
theorem sj {s : St} {id list f : Nat} {text : List UInt8} {flag : Bool} (h : aZ s.lists id = false) (h2 : ¬ 20 ≤ s.lists.length) : doM s ⟨1, id, list, text, f, flag⟩ = (0, ⟨Sr.ins ltL ⟨id, text⟩ s.lists, s.aN⟩) := by unfold doM; dsimp only; rw [if_pos rfl, if_neg (by rw [h]; decide), if_neg h2]
theorem xJ {s : St} {id list f : Nat} {text : List UInt8} {flag : Bool} (h : aZ s.lists id = false) : doM s ⟨2, id, list, text, f, flag⟩ = (91, s) := by unfold doM; dsimp only; rw [if_neg (by decide), if_pos rfl, if_pos h]
theorem sN {s : St} {id list f : Nat} {text : List UInt8} {flag : Bool} (h : aZ s.lists id = true) : doM s ⟨2, id, list, text, f, flag⟩ = (0, ⟨s.lists.filter fun l => !(l.id == id), wo s.aN id false 0⟩) := by unfold doM; dsimp only; rw [if_neg (by decide), if_pos rfl, if_neg (by rw [h]; decide)]
theorem uf {s : St} {id list f : Nat} {text : List UInt8} {flag : Bool} (h : aZ s.lists list = false) : doM s ⟨12, id, list, text, f, flag⟩ = (91, s) := by unfold doM; dsimp only; rw [if_neg (by decide), if_neg (by decide), if_pos rfl, if_pos h]
theorem oC {s : St} {id list f : Nat} {text : List UInt8} {flag : Bool} (h : aZ s.lists list = true) : doM s ⟨12, id, list, text, f, flag⟩ = (0, ⟨s.lists, wo s.aN list true 0⟩) := by unfold doM; dsimp only; rw [if_neg (by decide), if_neg (by decide), if_pos rfl, if_neg (by rw [h]; decide)]
theorem tL {s : St} {id list f : Nat} {text : List UInt8} {flag : Bool} (h : aZ s.lists list = false) : doM s ⟨13, id, list, text, f, flag⟩ = (91, s) := by unfold doM; dsimp only; rw [if_neg (by decide), if_neg (by decide), if_neg (by decide), if_pos rfl, if_pos h]
theorem oD {s : St} {id list f : Nat} {text : List UInt8} {flag : Bool} (h : aZ s.lists list = true) : doM s ⟨13, id, list, text, f, flag⟩ = (0, ⟨s.lists, s.aN.map (spr (gW s.aN list))⟩) := by unfold doM; dsimp only; rw [if_neg (by decide), if_neg (by decide), if_neg (by decide), if_pos rfl, if_neg (by rw [h]; decide)]
theorem xN {s : St} {id list f : Nat} {text : List UInt8} {flag : Bool} (h : dh s.aN id = true) : doM s ⟨3, id, list, text, f, flag⟩ = (92, s) := by unfold doM; dsimp only; rw [if_neg (by decide), if_neg (by decide), if_neg (by decide), if_neg (by decide), if_pos rfl, if_pos h]
theorem xW {s : St} {id list f : Nat} {text : List UInt8} {flag : Bool} (h : dh s.aN id = false) (h2 : aZ s.lists list = false) : doM s ⟨3, id, list, text, f, flag⟩ = (91, s) := by unfold doM; dsimp only; rw [if_neg (by decide), if_neg (by decide), if_neg (by decide), if_neg (by decide), if_pos rfl, if_neg (by rw [h]; decide), if_pos h2]
theorem xq {s : St} {id list f : Nat} {text : List UInt8} {flag : Bool} (h : dh s.aN id = false) (h2 : aZ s.lists list = true) (h3 : 60 ≤ s.aN.length) : doM s ⟨3, id, list, text, f, flag⟩ = (95, s) := by unfold doM; dsimp only; rw [if_neg (by decide), if_neg (by decide), if_neg (by decide), if_neg (by decide), if_pos rfl, if_neg (by rw [h]; decide), if_neg (by rw [h2]; decide), if_pos h3]
theorem vZ {s : St} {id list f : Nat} {text : List UInt8} {flag : Bool} (h : dh s.aN id = false) (h2 : aZ s.lists list = true) (h3 : ¬ 60 ≤ s.aN.length) : doM s ⟨3, id, list, text, f, flag⟩ = (0, ⟨s.lists, Sr.ins ltK ⟨id, list, text, false, f, Fl.eQ, []⟩ s.aN⟩) := by unfold doM; dsimp only; rw [if_neg (by decide), if_neg (by decide), if_neg (by decide), if_neg (by decide), if_pos rfl, if_neg (by rw [h]; decide), if_neg (by rw [h2]; decide), if_neg h3]
theorem iO {s : St} {k : Int} {id list f : Nat} {text : List UInt8} {flag : Bool} (hk : k = 4 ∨ k = 5 ∨ k = 6 ∨ k = 7 ∨ k = 8 ∨ k = 9 ∨ k = 10 ∨ k = 11) (h : dh s.aN id = false) : doM s ⟨k, id, list, text, f, flag⟩ = (93, s) := by unfold doM; dsimp only; rw [if_neg (by omega), if_neg (by omega), if_neg (by omega), if_neg (by omega), if_neg (by omega), if_pos h]
theorem iQ {s : St} {k : Int} {id list f : Nat} {text : List UInt8} {flag : Bool} (hk : k = 4 ∨ k = 5 ∨ k = 6 ∨ k = 7 ∨ k = 8 ∨ k = 9 ∨ k = 10) (h : dh s.aN id = true) : doM s ⟨k, id, list, text, f, flag⟩ = ((chg (aZ s.lists list) ⟨k, id, list, text, f, flag⟩ (bT s.aN id).1).1, ⟨s.lists, Sr.ins ltK (chg (aZ s.lists list) ⟨k, id, list, text, f, flag⟩ (bT s.aN id).1).2 (wo s.aN 0 false id)⟩) := by unfold doM; dsimp only; rw [if_neg (by omega), if_neg (by omega), if_neg (by omega), if_neg (by omega), if_neg (by omega), if_neg (by rw [h]; decide), if_neg (by omega)]
theorem oo {s : St} {id list f : Nat} {text : List UInt8} {flag : Bool} (h : dh s.aN id = true) : doM s ⟨11, id, list, text, f, flag⟩ = (0, ⟨s.lists, wo s.aN 0 false id⟩) := by unfold doM; dsimp only; rw [if_neg (by decide), if_neg (by decide), if_neg (by decide), if_neg (by decide), if_neg (by decide), if_neg (by rw [h]; decide), if_pos rfl]
end T9
theorem bs11L (a b : Value) (w : World) : (Instr.buildSlice 22 1 #[(0, .agg #[a, b])]).run Tryz.prog w = .ok (.slice (some ⟨w.heap.size, 0, none⟩) 1 1) (w.alloc (.cells #[a, b] 51)) := by
 obtain ⟨i0, hi, hz0, hz1, hz2⟩ := info_parts Tryz.infoLi9
 exact dQ w 22 51 #[a, b] i0 _ Tryz.underlying22 hi hz0 hz1 (by simp) (by simp)
theorem bl11L (a : Int) (b : ByteArray) (w : World) : (Instr.build 51 #[(0, .int .u64 a), (1, .string b)]).run Tryz.prog w = .ok (.agg #[.int .u64 a, .string b]) w := run_build w 51 _ _ (by kernel_rfl)
set_option maxHeartbeats 4000000 in
theorem chg1_c {s : MSt} {u : T9.Mu} {B : Nat} {w : World} (h : OS s B w) (hB : B ≤ w.heap.size) (hr : T9.aG s.st = 0) (hk : u.kind = 1) :
  Calls Tryz.prog 29 #[s.val, u.val] w (bZ (T9.doM s.st u) B w) := by
 obtain ⟨kd, id, list, text, f, flag⟩ := u
 obtain rfl : kd = 1 := hk
 obtain ⟨w1, hw1⟩ : ∃ v, w.alloc (.cells #[.slice s.A s.ls.length s.c, .slice s.A2 s.ms.length s.c2] 25) = v := ⟨_, rfl⟩
 obtain ⟨w2, hw2⟩ : ∃ v, w1.alloc (.cells #[.int .i64 1, .int .u64 (id : Int), .int .u64 (list : Int), .string (str text), .float .f64 f, .bool flag] 29) = v := ⟨_, rfl⟩
 obtain ⟨w3, hw3⟩ : ∃ v, w2.alloc (.cells #[.slice none 0 0, .slice none 0 0] 25) = v := ⟨_, rfl⟩
 obtain ⟨cf, b3, z1, z2⟩ := CF.start (s := s) (m := ⟨1, id, list, text, f, flag⟩) (B := B) hw1 hw2 hw3
 have C3 := hid cf
 have B3 := hid b3
 have O3 := hid (h.stay b3)
 have HB := hid hB
 have O0 := hid h
 have UL := hid (fe hr)
 have UK := hid (fw hr)
 obtain ⟨s0, s1⟩ := aa cf.st
 obtain ⟨m0, m1, m2, m3, m4, m5⟩ := af cf.mu
 have nl : s.ls.length ≤ 20 := (T9.aB hr).1
 have nk : s.ms.length ≤ 60 := by have := (T9.aB hr).2.1; simpa [MSt.st, tks] using this
 obtain ⟨R, hR⟩ : ∃ r, T9.doM s.st ⟨1, id, list, text, f, flag⟩ = r := ⟨_, rfl⟩
 rw [hR]
 have HR := hid hR
 have HRT := hid hr
 unfold MSt.val T9.Mu.val
 dsimp only
 clear h hB hr cf b3 hR
 have LC := hid (lX (id := id) O3.out.sm (by omega) UL.out)
 obtain ⟨hh, hhh⟩ : ∃ b, T9.aZ s.ls id = b := ⟨_, rfl⟩
 obtain ⟨pp, hpp⟩ : ∃ b, T9.fA s.ls id = b := ⟨_, rfl⟩
 rw [hhh, hpp] at LC
 have HH := hid hhh
 have HP := hid hpp
 unfold MSt.val at LC
 clear hhh hpp
 go_enter Tryz.func29, Tryz.ntmps29
 go_wp2_with fail
 refine LC.out.mono ?_
 rintro e w4 ⟨rfl, h4⟩
 have C4 := hid (C3.out.stay h4)
 have O4 := hid (O3.out.stay h4)
 have B4 := hid (B3.out.trans (h4.mono B3.out.size))
 clear h4 s0 s1 m0 m1 m2 m3 m4 m5
 obtain ⟨s0, s1⟩ := aa C4.out.st
 obtain ⟨m0, m1, m2, m3, m4, m5⟩ := af C4.out.mu
 cases hh with
 | true =>
  go_wp2_with (go_at_call 63; refine (dD _ _).mono ?_; rintro e w' ⟨rfl, rfl⟩)
  have e : R = (92, s.st) := HR.out.symm.trans (T9.xU HH.out)
  subst e
  exact ⟨rfl, bZ.bad (B4.out.mono HB.out) (show (92 : Int) ≠ 0 by decide)⟩
 | false =>
  by_cases h20 : 20 ≤ s.ls.length
  ·have h20z : (20 : Int) ≤ (s.ls.length : Int) := by omega
   have h20d : decide ((20 : Int) ≤ (s.ls.length : Int)) = true := decide_eq_true h20z
   have h20n : decide (20 ≤ s.ls.length) = true := decide_eq_true h20
   go_wp2_with (first | (go_at_call 63; (with_reducible refine (dK 92 _).mono ?_); rintro e w' ⟨rfl, rfl⟩) | (go_at_call 63; refine (dD _ _).mono ?_; rintro e w' ⟨rfl, rfl⟩))
   have e : R = (95, s.st) := HR.out.symm.trans (T9.wS HH.out h20)
   subst e
   exact ⟨rfl, bZ.bad (B4.out.mono HB.out) (show (95 : Int) ≠ 0 by decide)⟩
  ·have h20z : ¬ ((20 : Int) ≤ (s.ls.length : Int)) := by omega
   have h20d : decide ((20 : Int) ≤ (s.ls.length : Int)) = false := decide_eq_false h20z
   have h20n : decide (20 ≤ s.ls.length) = false := decide_eq_false h20
   have hbl := bl11L (id : Int) (str text)
   have hbs := bs11L (.int .u64 (id : Int)) (.string (str text))
   obtain ⟨w5, hw5⟩ : ∃ v, w4.alloc (.cells #[.int .u64 (id : Int), .string (str text)] 51) = v := ⟨_, rfl⟩
   obtain ⟨lb, b5, z5⟩ := au hw5
   have PP : pp ≤ s.ls.length := by rw [← HP.out]; exact Sr.jI
   have C5 := hid (C4.out.stay b5)
   have O5 := hid (O4.out.stay b5)
   have B5 := hid (B4.out.trans (b5.mono B4.out.size))
   have NE : Hid (obk s.A s.c ≠ some w4.heap.size) := hid fun e => by
    rcases O4.out.l.parts with ⟨_, q⟩ | ⟨g, e2, c0, q⟩
    ·rw [show obk s.A s.c = none by unfold obk; rw [if_pos q]] at e; cases e
    ·rw [e2, aS c0] at e
     injection e with e
     have := (q.lt g rfl).2
     omega
   have IC := hid (vN (p := pp) (v := aV ⟨id, text⟩) O5.out.l (dC _) (eU _) lb rfl (il _) PP NE.out (by omega) (Nat.le_trans HB.out B5.out.size))
   obtain ⟨t0, t1⟩ := aa C5.out.st
   clear lb b5 z5
   go_wp2_with (go_at_call 63; refine (dK _ _).mono ?_; rintro e w' ⟨rfl, rfl⟩)
   refine IC.out.mono ?_
   rintro e w6 ⟨A', c', rfl, ho, hg, hb⟩
   have T6 := hid (O5.out.l.iG hg (Nat.le_trans HB.out B5.out.size))
   have LN : Hid ((s.ls.take pp ++ (⟨id, text⟩ : T9.Li) :: s.ls.drop pp).length = s.ls.length + 1) := hid (by rw [List.length_append, List.length_cons, List.length_take, List.length_drop]; omega)
   have O6 : Hid (OS { s with A := A', ls := s.ls.take pp ++ (⟨id, text⟩ : T9.Li) :: s.ls.drop pp, c := c' } B w6) := hid ⟨by
    show cZ w6 B _ 2 A' (s.ls.take pp ++ (⟨id, text⟩ : T9.Li) :: s.ls.drop pp).length c' _
    rw [LN.out]
    rw [gU, gP] at ho
    have e : aF (s.ls.take pp ++ (⟨id, text⟩ : T9.Li) :: s.ls.drop pp) = aF (s.ls.take pp) ++ aV ⟨id, text⟩ ++ aF (s.ls.drop pp) := by simp [aF]
    rw [e]
    exact ho, O5.out.k.tch T6.out (by decide), O5.out.t.tch T6.out (by decide)⟩
   have C6 := hid (C5.out.tch T6.out (by decide) (by decide))
   have ER : Hid (R = (0, ⟨s.ls.take pp ++ (⟨id, text⟩ : T9.Li) :: s.ls.drop pp, tks s.ms⟩)) := hid (by
    refine HR.out.symm.trans ((T9.sj HH.out h20).trans ?_)
    show (0, T9.St.mk (Sr.ins T9.ltL ⟨id, text⟩ s.ls) (tks s.ms)) = _
    rw [insL_at (x := ⟨id, text⟩) HH.out, HP.out])
   clear ho hg hb t0 t1 s0 s1
   obtain ⟨t0, t1⟩ := aa C6.out.st
   have f0 := ag C6.out.st 0
   have TL := C6.out.turnL A' (s.ls.take pp ++ (⟨id, text⟩ : T9.Li) :: s.ls.drop pp) c'
   rw [LN.out] at TL
   obtain ⟨w7, hw7⟩ : ∃ v, w6.setCell ⟨w.heap.size, 0, none⟩ (.slice A' (s.ls.length + 1) c') = v := ⟨_, rfl⟩
   rw [hw7] at TL
   have C7 := hid TL.1
   have T7 := hid TL.2
   have O7 := hid (O6.out.tch T7.out (by decide) (by decide) (by decide))
   clear TL
   obtain ⟨wz, hwz⟩ : ∃ v, (w7.setCell ⟨w.heap.size + 2, 0, none⟩ (Value.slice A' (s.ls.length + 1) c')).setCell ⟨w.heap.size + 2, 1, none⟩ (Value.slice s.A2 s.ms.length s.c2) = v := ⟨_, rfl⟩
   have FN := hid (C7.out.fin (w' := wz) O7.out.smt (by dsimp only; rw [LN.out]; exact hwz))
   have g0 := ag C7.out.rv 0
   have g1 := ag C7.out.rv 1
   obtain ⟨u0, u1⟩ := aa C7.out.st
   obtain ⟨v0, v1⟩ := aa C7.out.rv
   have y0 := FN.out.2.2.1
   have y1 := FN.out.2.2.2
   dsimp only at u0 u1 y0 y1
   try rw [LN.out] at u0
   try rw [LN.out] at u1
   try rw [LN.out] at y0
   try rw [LN.out] at y1
   go_wp2
   refine bodyPost_ret (v := .agg #[Value.slice A' (s.ls.length + 1) c', Value.slice s.A2 s.ms.length s.c2]) (by simp [results, Tryz.results29, go_sem, y0, y1]) rfl ?_
   have G := bZ.good (r := R) (B := B) (w := w) ((((B5.out.mono HB.out).trans T6.out.below).trans (T7.out.below.mono HB.out)).trans (FN.out.2.1.mono HB.out)) FN.out.1 ER.out
   unfold MSt.val at G
   dsimp only at G
   rw [LN.out] at G
   exact G
end
section
open Go.RowKit Go.Lib
theorem bu.filter {w : World} {B : Nat} {ms : List MTk} (h : bu w B ms) (p : MTk → Bool) : bu w B (ms.filter p) := ⟨fun m hm => h.1 m (List.mem_filter.1 hm).1, List.Pairwise.filter _ h.2⟩
theorem lU (p : T9.Tk → Bool) (ms : List MTk) : tks (ms.filter fun m => !p m.t) = (tks ms).filter fun t => !p t := by
 unfold tks
 rw [List.filter_map]
 rfl
theorem pJ {A : Option Addr} {n c p B : Nat} {xs : List Value} {w : World} (h : cZ w B 51 2 A n c xs) (h1 : ∀ u ∈ xs, u.oneCell' = true) (hp : p < n) (hs : n ≤ 1001) :
  Calls Tryz.prog 67 #[.slice A n c, .int .i64 (p : Int), .int .i64 ((p : Int) + 1)] w (jA 51 2 A c (xs.take (p * 2) ++ xs.drop ((p + 1) * 2)) (n - 1) B w) := by
 obtain ⟨g, rfl, c0, own⟩ := h.parts.resolve_left (fun q => by omega)
 obtain ⟨m, rfl⟩ : ∃ m, n = m + 1 := ⟨n - 1, by omega⟩
 rw [Nat.add_sub_cancel]
 exact vJ own h1 (by omega) (by omega)
theorem qh {A : Option Addr} {n c p B : Nat} {xs : List Value} {w : World} (h : cZ w B 56 7 A n c xs) (h1 : ∀ u ∈ xs, u.oneCell' = true) (hp : p < n) (hs : n ≤ 1001) :
  Calls Tryz.prog 77 #[.slice A n c, .int .i64 (p : Int), .int .i64 ((p : Int) + 1)] w (jA 56 7 A c (xs.take (p * 7) ++ xs.drop ((p + 1) * 7)) (n - 1) B w) := by
 obtain ⟨g, rfl, c0, own⟩ := h.parts.resolve_left (fun q => by omega)
 obtain ⟨m, rfl⟩ : ∃ m, n = m + 1 := ⟨n - 1, by omega⟩
 rw [Nat.add_sub_cancel]
 exact vP own h1 (by omega) (by omega)
theorem bu.sub {w : World} {B : Nat} {ms ns : List MTk} (h : bu w B ms) (hs : ns.Sublist ms) : bu w B ns := ⟨fun m hm => h.1 m (hs.subset hm), h.2.sublist hs⟩
theorem cut_sub {α : Type} (l : List α) (p : Nat) : (l.take p ++ l.drop (p + 1)).Sublist l := by
 conv => rhs; rw [← List.take_append_drop p l]
 refine List.Sublist.append_left ?_ _
 have q := List.drop_sublist 1 (l.drop p)
 rw [List.drop_drop] at q
 exact q
namespace T9
theorem tZ {l : List Tk} {id : Nat} (hu : l.Pairwise fun x y => x.id < y.id) (h : dh l id = true) : wo l 0 false id = l.take (cz l id) ++ l.drop (cz l id + 1) := by
 have e : wo l 0 false id = l.filter fun y => !(y.id == id) := by
  unfold wo
  refine List.filter_congr fun t _ => ?_
  simp
 rw [e]
 obtain ⟨y, hy, rfl⟩ := (iy hu).1 h
 obtain ⟨hp, ey⟩ := List.getElem?_eq_some_iff.1 hy
 conv => lhs; rw [← List.take_append_drop (cz l y.id) l]
 rw [List.filter_append, List.drop_eq_getElem_cons hp, ey, List.filter_cons, if_neg (by simp)]
 congr 1
 ·rw [List.filter_eq_self]
  intro z hz
  obtain ⟨i, hi, rfl⟩ := List.mem_iff_getElem.1 hz
  rw [List.length_take] at hi
  have := List.pairwise_iff_getElem.1 hu i (cz l y.id) (by omega) hp (by omega)
  rw [ey] at this
  rw [List.getElem_take]
  have ne : ¬ l[i].id = y.id := by omega
  simp [ne]
 ·rw [List.filter_eq_self]
  intro z hz
  obtain ⟨i, hi, rfl⟩ := List.mem_iff_getElem.1 hz
  rw [List.length_drop] at hi
  have := List.pairwise_iff_getElem.1 hu (cz l y.id) (cz l y.id + 1 + i) hp (by omega) (by omega)
  rw [ey] at this
  rw [List.getElem_drop]
  have ne : ¬ l[cz l y.id + 1 + i].id = y.id := by omega
  simp [ne]
theorem uz {l : List Tk} {id : Nat} {t : Tk} (hu : l.Pairwise fun x y => x.id < y.id) (h : dh l id = true) (ht : t.id = id) : Sr.ins ltK t (wo l 0 false id) = l.set (cz l id) t := by
 rw [tZ hu h]
 obtain ⟨y, hy, ey⟩ := (iy hu).1 h
 have hp := (List.getElem?_eq_some_iff.1 hy).1
 have tl : (l.take (cz l id)).length = cz l id := by rw [List.length_take]; omega
 have t1 : (l.take (cz l id) ++ l.drop (cz l id + 1)).take (cz l id) = l.take (cz l id) := List.take_left' tl
 have d1 : (l.take (cz l id) ++ l.drop (cz l id + 1)).drop (cz l id) = l.drop (cz l id + 1) := List.drop_left' tl
 rw [Sr.eu (i := cz l id) (fun z hz => ?_) (fun z hz => ?_), t1, d1, List.set_eq_take_append_cons_drop, if_pos hp]
 ·rw [t1] at hz
  obtain ⟨i, hi, rfl⟩ := List.mem_iff_getElem.1 hz
  rw [List.length_take] at hi
  rw [List.getElem_take]
  unfold ltK
  rw [decide_eq_true_eq, ht]
  exact (p8 hu (List.getElem?_eq_getElem (by omega))).1 (by omega)
 ·rw [List.getElem?_append_right (by rw [tl]; exact Nat.le_refl _), tl, Nat.sub_self, List.getElem?_drop, Nat.add_zero] at hz
  have q := (List.getElem?_eq_some_iff.1 hz).1
  have := List.pairwise_iff_getElem.1 hu (cz l id) (cz l id + 1) hp q (by omega)
  rw [(List.getElem?_eq_some_iff.1 hz).2, (List.getElem?_eq_some_iff.1 hy).2, ey] at this
  unfold ltK
  rw [decide_eq_false_iff_not, decide_eq_true_eq, ht]
  omega
theorem qZ {l : List Tk} {id : Nat} (hu : l.Pairwise fun x y => x.id < y.id) (h : dh l id = true) : l[cz l id]? = some (bT l id).1 ∧ (bT l id).1.id = id := by
 obtain ⟨y, hy, ey⟩ := (iy hu).1 h
 have q := uQ (hu.imp fun h => by omega) (List.mem_of_getElem? hy)
 rw [ey] at q
 rw [q]
 exact ⟨hy, ey⟩
theorem filL_at {l : List Li} {id : Nat} (hu : l.Pairwise fun x y => x.id < y.id) (h : aZ l id = true) : (l.filter fun y => !(y.id == id)) = l.take (fA l id) ++ l.drop (fA l id + 1) := by
 obtain ⟨y, hy, rfl⟩ := (jO hu).1 h
 obtain ⟨hp, ey⟩ := List.getElem?_eq_some_iff.1 hy
 conv => lhs; rw [← List.take_append_drop (fA l y.id) l]
 rw [List.filter_append, List.drop_eq_getElem_cons hp, ey, List.filter_cons, if_neg (by simp)]
 congr 1
 ·rw [List.filter_eq_self]
  intro z hz
  obtain ⟨i, hi, rfl⟩ := List.mem_iff_getElem.1 hz
  rw [List.length_take] at hi
  have := List.pairwise_iff_getElem.1 hu i (fA l y.id) (by omega) hp (by omega)
  rw [ey] at this
  rw [List.getElem_take]
  have ne : ¬ l[i].id = y.id := by omega
  simp [ne]
 ·rw [List.filter_eq_self]
  intro z hz
  obtain ⟨i, hi, rfl⟩ := List.mem_iff_getElem.1 hz
  rw [List.length_drop] at hi
  have := List.pairwise_iff_getElem.1 hu (fA l y.id) (fA l y.id + 1 + i) hp (by omega) (by omega)
  rw [ey] at this
  rw [List.getElem_drop]
  have ne : ¬ l[fA l y.id + 1 + i].id = y.id := by omega
  simp [ne]
theorem wo_drop {s : St} {id : Nat} (h : aG s = 0) (hh : aZ s.lists id = true) : wo s.aN id false 0 = s.aN.filter fun t => !(t.list == id) := by
 obtain ⟨h1, h2, h3, h4⟩ := aB h
 obtain ⟨l, hl, e⟩ := ic.1 hh
 have p := ((eY.1 h3).1 l hl).1
 unfold wo
 refine List.filter_congr fun t ht => ?_
 have q := ((bK.1 h4).1 t ht).1
 have a : (t.id == 0) = false := by rw [beq_eq_false_iff_ne]; omega
 have b : (id == 0) = false := by rw [beq_eq_false_iff_ne]; omega
 rw [a, b]
 simp
theorem yH {s : St} {id : Nat} (h : aG s = 0) (hh : aZ s.lists id = true) : wo s.aN id true 0 = s.aN.filter fun t => !(t.list == id && t.done) := by
 obtain ⟨h1, h2, h3, h4⟩ := aB h
 obtain ⟨l, hl, e⟩ := ic.1 hh
 have p := ((eY.1 h3).1 l hl).1
 unfold wo
 refine List.filter_congr fun t ht => ?_
 have q := ((bK.1 h4).1 t ht).1
 have a : (t.id == 0) = false := by rw [beq_eq_false_iff_ne]; omega
 have b : (id == 0) = false := by rw [beq_eq_false_iff_ne]; omega
 rw [a, b]
 simp
end T9
set_option maxHeartbeats 4000000 in
theorem chg12_c {s : MSt} {u : T9.Mu} {B : Nat} {w : World} (h : OS s B w) (hB : B ≤ w.heap.size) (hr : T9.aG s.st = 0) (hk : u.kind = 12) :
  Calls Tryz.prog 29 #[s.val, u.val] w (bZ (T9.doM s.st u) B w) := by
 obtain ⟨kd, id, list, text, f, flag⟩ := u
 obtain rfl : kd = 12 := hk
 obtain ⟨w1, hw1⟩ : ∃ v, w.alloc (.cells #[.slice s.A s.ls.length s.c, .slice s.A2 s.ms.length s.c2] 25) = v := ⟨_, rfl⟩
 obtain ⟨w2, hw2⟩ : ∃ v, w1.alloc (.cells #[.int .i64 12, .int .u64 (id : Int), .int .u64 (list : Int), .string (str text), .float .f64 f, .bool flag] 29) = v := ⟨_, rfl⟩
 obtain ⟨w3, hw3⟩ : ∃ v, w2.alloc (.cells #[.slice none 0 0, .slice none 0 0] 25) = v := ⟨_, rfl⟩
 obtain ⟨cf, b3, z1, z2⟩ := CF.start (s := s) (m := ⟨12, id, list, text, f, flag⟩) (B := B) hw1 hw2 hw3
 have C3 := hid cf
 have B3 := hid b3
 have O3 := hid (h.stay b3)
 have HB := hid hB
 have O0 := hid h
 have UL := hid (fe hr)
 have UK := hid (fw hr)
 obtain ⟨s0, s1⟩ := aa cf.st
 obtain ⟨m0, m1, m2, m3, m4, m5⟩ := af cf.mu
 have nl : s.ls.length ≤ 20 := (T9.aB hr).1
 have nk : s.ms.length ≤ 60 := by have := (T9.aB hr).2.1; simpa [MSt.st, tks] using this
 obtain ⟨R, hR⟩ : ∃ r, T9.doM s.st ⟨12, id, list, text, f, flag⟩ = r := ⟨_, rfl⟩
 rw [hR]
 have HR := hid hR
 have HRT := hid hr
 unfold MSt.val T9.Mu.val
 dsimp only
 clear h hB hr cf b3 hR
 obtain ⟨pp, hpp⟩ : ∃ b, T9.fA (s.ls) list = b := ⟨_, rfl⟩
 have HP := hid hpp
 cases hhh : T9.aZ (s.ls) list with
 | false =>
  have LC := hid (fQ (id := list) O3.out.sm (by omega) UL.out hhh)
  have e : R = (91, s.st) := HR.out.symm.trans (T9.uf  hhh)
  have E := hid e
  unfold MSt.val at LC
  clear hpp hhh e
  go_enter Tryz.func29, Tryz.ntmps29
  go_wp2_with fail
  refine LC.out.mono ?_
  rintro e w4 ⟨rfl, h4⟩
  have B4 := hid (B3.out.trans (h4.mono B3.out.size))
  rw [E.out]
  exact ⟨rfl, bZ.bad (B4.out.mono HB.out) (show (91 : Int) ≠ 0 by decide)⟩
 | true =>
  have LC := hid (fB (id := list) O3.out.sm (by omega) UL.out hhh)
  rw [hpp] at LC
  have HH := hid hhh
  have PP : pp < s.ls.length := by
   obtain ⟨y, hy, _⟩ := (T9.jO UL.out).1 hhh
   have z : T9.fA (s.ls) list < (s.ls).length := (List.getElem?_eq_some_iff.1 hy).1
   rw [hpp] at z
   exact z
  unfold MSt.val at LC
  clear hpp hhh
  go_enter Tryz.func29, Tryz.ntmps29
  go_wp2_with fail
  refine LC.out.mono ?_
  rintro e w4 ⟨rfl, h4⟩
  have C4 := hid (C3.out.stay h4)
  have O4 := hid (O3.out.stay h4)
  have B4 := hid (B3.out.trans (h4.mono B3.out.size))
  have D4 := hid (B4.out.mono HB.out)
  clear h4
  clear s0 s1 m0 m1 m2 m3 m4 m5
  obtain ⟨s0, s1⟩ := aa C4.out.st
  obtain ⟨m0, m1, m2, m3, m4, m5⟩ := af C4.out.mu
  have hmf : ∀ (fn : Fn) (first cap : Array Value) (w : World), (Instr.makeFunc fn first cap).run Tryz.prog w = .ok (.func fn first cap) w := fun _ _ _ _ => rfl
  have DF0 := nO (p := (fun t : T9.Tk => t.list == list && t.done)) O4.out.k rfl (fun m hm => (O4.out.smt.t m hm).fine) C4.out.mu (show s.ms.length ≤ 1000 by omega) (fun args w => Tryz.call70 args w) (fun m W hm => goneD_c m W hm)
  obtain ⟨ns, hns⟩ : ∃ l, (s.ms.filter fun m => !(fun t : T9.Tk => t.list == list && t.done) m.t) = l := ⟨_, rfl⟩
  rw [hns] at DF0
  have DF := hid DF0
  have HNS := hid hns
  clear DF0 hns
  go_wp2_with fail
  refine DF.out.mono ?_
  rintro e w5 ⟨A9, c9, rfl, ho, hg, hb⟩
  have T5 := hid (O4.out.k.iG hg (Nat.le_trans HB.out D4.out.size))
  have O5 : Hid (OS { s with A2 := A9, ms := ns, c2 := c9 } B w5) := hid ⟨O4.out.l.tch T5.out (by decide), ho, by have q := (O4.out.t.tch T5.out (by decide)).filter (fun m => !(fun t : T9.Tk => t.list == list && t.done) m.t); rw [HNS.out] at q; exact q⟩
  have C5 := hid (C4.out.tch T5.out (by decide) (by decide))
  have D5 : Hid (Below B w w5) := hid (D4.out.trans T5.out.below)
  clear ho hg hb s0 s1
  obtain ⟨s0, s1⟩ := aa C5.out.st
  have f1 := ag C5.out.st 1
  have TK := C5.out.tY A9 ns c9
  obtain ⟨w6, hw6⟩ : ∃ v, w5.setCell ⟨w.heap.size, 1, none⟩ (.slice A9 ns.length c9) = v := ⟨_, rfl⟩
  rw [hw6] at TK
  have C6 := hid TK.1
  have T6 := hid TK.2
  have D6 : Hid (Below B w w6) := hid (D5.out.trans (T6.out.below.mono HB.out))
  have O6 := hid (O5.out.tch T6.out (by decide) (by decide) (by decide))
  clear TK
  have ER : Hid (R = (0, ⟨s.ls, tks ns⟩)) := hid (by
   refine HR.out.symm.trans ((T9.oC HH.out).trans ?_)
   rw [T9.yH HRT.out HH.out, ← HNS.out, lU (fun t => t.list == list && t.done)]
   rfl)
  obtain ⟨wz, hwz⟩ : ∃ v, (w6.setCell ⟨w.heap.size + 2, 0, none⟩ (Value.slice s.A s.ls.length s.c)).setCell ⟨w.heap.size + 2, 1, none⟩ (Value.slice A9 ns.length c9) = v := ⟨_, rfl⟩
  have FN := hid (C6.out.fin (w' := wz) O6.out.smt (by dsimp only; exact hwz))
  have g0 := ag C6.out.rv 0
  have g1 := ag C6.out.rv 1
  obtain ⟨u0, u1⟩ := aa C6.out.st
  obtain ⟨v0, v1⟩ := aa C6.out.rv
  have y0 := FN.out.2.2.1
  have y1 := FN.out.2.2.2
  dsimp only at u0 u1 y0 y1
  skip
  go_wp2
  refine bodyPost_ret (v := .agg #[Value.slice s.A s.ls.length s.c, Value.slice A9 ns.length c9]) (by simp [results, Tryz.results29, go_sem, y0, y1]) rfl ?_
  have G := bZ.good (r := R) (B := B) (w := w) ((D6.out).trans (FN.out.2.1.mono HB.out)) FN.out.1 ER.out
  unfold MSt.val at G
  dsimp only at G
  skip
  exact G
set_option maxHeartbeats 4000000 in
theorem chg2_c {s : MSt} {u : T9.Mu} {B : Nat} {w : World} (h : OS s B w) (hB : B ≤ w.heap.size) (hr : T9.aG s.st = 0) (hk : u.kind = 2) :
  Calls Tryz.prog 29 #[s.val, u.val] w (bZ (T9.doM s.st u) B w) := by
 obtain ⟨kd, id, list, text, f, flag⟩ := u
 obtain rfl : kd = 2 := hk
 obtain ⟨w1, hw1⟩ : ∃ v, w.alloc (.cells #[.slice s.A s.ls.length s.c, .slice s.A2 s.ms.length s.c2] 25) = v := ⟨_, rfl⟩
 obtain ⟨w2, hw2⟩ : ∃ v, w1.alloc (.cells #[.int .i64 2, .int .u64 (id : Int), .int .u64 (list : Int), .string (str text), .float .f64 f, .bool flag] 29) = v := ⟨_, rfl⟩
 obtain ⟨w3, hw3⟩ : ∃ v, w2.alloc (.cells #[.slice none 0 0, .slice none 0 0] 25) = v := ⟨_, rfl⟩
 obtain ⟨cf, b3, z1, z2⟩ := CF.start (s := s) (m := ⟨2, id, list, text, f, flag⟩) (B := B) hw1 hw2 hw3
 have C3 := hid cf
 have B3 := hid b3
 have O3 := hid (h.stay b3)
 have HB := hid hB
 have O0 := hid h
 have UL := hid (fe hr)
 have UK := hid (fw hr)
 obtain ⟨s0, s1⟩ := aa cf.st
 obtain ⟨m0, m1, m2, m3, m4, m5⟩ := af cf.mu
 have nl : s.ls.length ≤ 20 := (T9.aB hr).1
 have nk : s.ms.length ≤ 60 := by have := (T9.aB hr).2.1; simpa [MSt.st, tks] using this
 obtain ⟨R, hR⟩ : ∃ r, T9.doM s.st ⟨2, id, list, text, f, flag⟩ = r := ⟨_, rfl⟩
 rw [hR]
 have HR := hid hR
 have HRT := hid hr
 unfold MSt.val T9.Mu.val
 dsimp only
 clear h hB hr cf b3 hR
 obtain ⟨pp, hpp⟩ : ∃ b, T9.fA (s.ls) id = b := ⟨_, rfl⟩
 have HP := hid hpp
 cases hhh : T9.aZ (s.ls) id with
 | false =>
  have LC := hid (fQ (id := id) O3.out.sm (by omega) UL.out hhh)
  have e : R = (91, s.st) := HR.out.symm.trans (T9.xJ  hhh)
  have E := hid e
  unfold MSt.val at LC
  clear hpp hhh e
  go_enter Tryz.func29, Tryz.ntmps29
  go_wp2_with fail
  refine LC.out.mono ?_
  rintro e w4 ⟨rfl, h4⟩
  have B4 := hid (B3.out.trans (h4.mono B3.out.size))
  rw [E.out]
  exact ⟨rfl, bZ.bad (B4.out.mono HB.out) (show (91 : Int) ≠ 0 by decide)⟩
 | true =>
  have LC := hid (fB (id := id) O3.out.sm (by omega) UL.out hhh)
  rw [hpp] at LC
  have HH := hid hhh
  have PP : pp < s.ls.length := by
   obtain ⟨y, hy, _⟩ := (T9.jO UL.out).1 hhh
   have z : T9.fA (s.ls) id < (s.ls).length := (List.getElem?_eq_some_iff.1 hy).1
   rw [hpp] at z
   exact z
  unfold MSt.val at LC
  clear hpp hhh
  go_enter Tryz.func29, Tryz.ntmps29
  go_wp2_with fail
  refine LC.out.mono ?_
  rintro e w4 ⟨rfl, h4⟩
  have C4 := hid (C3.out.stay h4)
  have O4 := hid (O3.out.stay h4)
  have B4 := hid (B3.out.trans (h4.mono B3.out.size))
  have D4 := hid (B4.out.mono HB.out)
  clear h4
  clear s0 s1 m0 m1 m2 m3 m4 m5
  obtain ⟨s0, s1⟩ := aa C4.out.st
  obtain ⟨m0, m1, m2, m3, m4, m5⟩ := af C4.out.mu
  have hw9 : IntKind.i64.wrap ((pp : Int) + 1) = (pp : Int) + 1 := by rw [IntKind.wrap_i64]; omega
  obtain ⟨nls, hnls⟩ : ∃ l, s.ls.take pp ++ s.ls.drop (pp + 1) = l := ⟨_, rfl⟩
  have HNL := hid hnls
  have LN : nls.length = s.ls.length - 1 := by rw [← hnls, List.length_append, List.length_take, List.length_drop]; omega
  have DL0 := pJ (p := pp) O4.out.l (eU _) PP (by omega)
  rw [← LN, gU, gP] at DL0
  have DL := hid DL0
  clear DL0 LN hnls
  go_wp2_with fail
  refine DL.out.mono ?_
  rintro e w5 ⟨A', c', rfl, ho, hg, hb⟩
  have T5 := hid (O4.out.l.iG hg (Nat.le_trans HB.out D4.out.size))
  have O5 : Hid (OS { s with A := A', ls := nls, c := c' } B w5) := hid ⟨by
   have e : aF nls = aF (s.ls.take pp) ++ aF (s.ls.drop (pp + 1)) := by rw [← HNL.out]; simp [aF]
   show cZ w5 B _ 2 A' nls.length c' (aF nls)
   rw [e]
   exact ho, O4.out.k.tch T5.out (by decide), O4.out.t.tch T5.out (by decide)⟩
  have C5 := hid (C4.out.tch T5.out (by decide) (by decide))
  have D5 : Hid (Below B w w5) := hid (D4.out.trans T5.out.below)
  clear ho hg hb s0 s1 m0 m1 m2 m3 m4 m5
  obtain ⟨s0, s1⟩ := aa C5.out.st
  have f0 := ag C5.out.st 0
  have TL := C5.out.turnL A' nls c'
  obtain ⟨w6, hw6⟩ : ∃ v, w5.setCell ⟨w.heap.size, 0, none⟩ (.slice A' nls.length c') = v := ⟨_, rfl⟩
  rw [hw6] at TL
  have C6 := hid TL.1
  have T6 := hid TL.2
  have O6 := hid (O5.out.tch T6.out (by decide) (by decide) (by decide))
  have D6 : Hid (Below B w w6) := hid (D5.out.trans (T6.out.below.mono HB.out))
  obtain ⟨u0, u1⟩ := aa C6.out.st
  dsimp only at u0 u1
  clear TL
  have hmf : ∀ (fn : Fn) (first cap : Array Value) (w : World), (Instr.makeFunc fn first cap).run Tryz.prog w = .ok (.func fn first cap) w := fun _ _ _ _ => rfl
  have DF0 := nO (p := (fun t : T9.Tk => t.list == id)) O6.out.k rfl (fun m hm => (O6.out.smt.t m hm).fine) C6.out.mu (show s.ms.length ≤ 1000 by omega) (fun args w => Tryz.call69 args w) (fun m W hm => goneL_c m W hm)
  obtain ⟨ns, hns⟩ : ∃ l, (s.ms.filter fun m => !(fun t : T9.Tk => t.list == id) m.t) = l := ⟨_, rfl⟩
  rw [hns] at DF0
  have DF := hid DF0
  have HNS := hid hns
  clear DF0 hns
  go_wp2_with fail
  refine DF.out.mono ?_
  rintro e w7 ⟨A9, c9, rfl, ho, hg, hb⟩
  have T7 := hid (O6.out.k.iG hg (Nat.le_trans HB.out D6.out.size))
  have O7 : Hid (OS { s with A := A', ls := nls, c := c', A2 := A9, ms := ns, c2 := c9 } B w7) := hid ⟨O6.out.l.tch T7.out (by decide), ho, by have q := (O6.out.t.tch T7.out (by decide)).filter (fun m => !(fun t : T9.Tk => t.list == id) m.t); rw [HNS.out] at q; exact q⟩
  have C7 := hid (C6.out.tch T7.out (by decide) (by decide))
  have D7 : Hid (Below B w w7) := hid (D6.out.trans T7.out.below)
  clear ho hg hb s0 s1 u0 u1
  obtain ⟨s0, s1⟩ := aa C7.out.st
  have f1 := ag C7.out.st 1
  have TK := C7.out.tY A9 ns c9
  obtain ⟨w8, hw8⟩ : ∃ v, w7.setCell ⟨w.heap.size, 1, none⟩ (.slice A9 ns.length c9) = v := ⟨_, rfl⟩
  rw [hw8] at TK
  have C8 := hid TK.1
  have T8 := hid TK.2
  have D8 : Hid (Below B w w8) := hid (D7.out.trans (T8.out.below.mono HB.out))
  have O8 := hid (O7.out.tch T8.out (by decide) (by decide) (by decide))
  clear TK
  have ER : Hid (R = (0, ⟨nls, tks ns⟩)) := hid (by
   refine HR.out.symm.trans ((T9.sN HH.out).trans ?_)
   rw [T9.wo_drop HRT.out HH.out, ← HNS.out, lU (fun t => t.list == id), ← HNL.out]
   refine congrArg (fun z => ((0 : Int), T9.St.mk z _)) ?_
   have q := T9.filL_at (id := id) UL.out HH.out
   rw [show T9.fA s.st.lists id = pp from HP.out] at q
   exact q)
  obtain ⟨wz, hwz⟩ : ∃ v, (w8.setCell ⟨w.heap.size + 2, 0, none⟩ (Value.slice A' nls.length c')).setCell ⟨w.heap.size + 2, 1, none⟩ (Value.slice A9 ns.length c9) = v := ⟨_, rfl⟩
  have FN := hid (C8.out.fin (w' := wz) O8.out.smt (by dsimp only; exact hwz))
  have g0 := ag C8.out.rv 0
  have g1 := ag C8.out.rv 1
  obtain ⟨u0, u1⟩ := aa C8.out.st
  obtain ⟨v0, v1⟩ := aa C8.out.rv
  have y0 := FN.out.2.2.1
  have y1 := FN.out.2.2.2
  dsimp only at u0 u1 y0 y1
  skip
  go_wp2
  refine bodyPost_ret (v := .agg #[Value.slice A' nls.length c', Value.slice A9 ns.length c9]) (by simp [results, Tryz.results29, go_sem, y0, y1]) rfl ?_
  have G := bZ.good (r := R) (B := B) (w := w) ((D8.out).trans (FN.out.2.1.mono HB.out)) FN.out.1 ER.out
  unfold MSt.val at G
  dsimp only at G
  skip
  exact G
end
end
end Go.Proofs.YtpphmbfghfmdlaaGreat
