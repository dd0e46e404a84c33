import Derived.Test.YtpphmbfghfmdlaaGreatZ1
import Derived.Test.YtpphmbfghfmdlaaGreatZ6
import Derived.Test.YtpphmbfghfmdlaaGreatZ4
namespace Go.Proofs.YtpphmbfghfmdlaaGreat
set_option maxRecDepth 100000
section
open Go.RowKit
namespace T9
structure Li where
 id : Nat
 name : List UInt8
structure Tk where
 id : Nat
 list : Nat
 title : List UInt8
 done : Bool
 rank : Nat
 est : Nat
 tags : List (List UInt8)
structure St where
 lists : List Li
 aN : List Tk
instance : Inhabited Li := ⟨⟨0, []⟩⟩
instance : Inhabited Tk := ⟨⟨0, 0, [], false, 0, 0, []⟩⟩
instance : Inhabited St := ⟨⟨[], []⟩⟩
theorem Li.g_ {a b : Li} : a = b ↔ a.id = b.id ∧ a.name = b.name := by
 cases a; cases b; simp
instance : DecidableEq Li := fun _ _ => decidable_of_iff _ Li.g_.symm
theorem Tk.g_ {a b : Tk} : a = b ↔ a.id = b.id ∧ a.list = b.list ∧ a.title = b.title ∧ a.done = b.done ∧ a.rank = b.rank ∧ a.est = b.est ∧ a.tags = b.tags := by
 cases a; cases b; simp
instance : DecidableEq Tk := fun _ _ => decidable_of_iff _ Tk.g_.symm
theorem St.g_ {a b : St} : a = b ↔ a.lists = b.lists ∧ a.aN = b.aN := by
 cases a; cases b; simp
instance : DecidableEq St := fun _ _ => decidable_of_iff _ St.g_.symm
def Tk.ok (t : Tk) : Prop := t.id < 18446744073709551616 ∧ t.list < 18446744073709551616 ∧ t.rank < 18446744073709551616 ∧ t.est < 18446744073709551616
def Li.ok (l : Li) : Prop := l.id < 18446744073709551616
def St.ok (s : St) : Prop := (∀ l ∈ s.lists, l.ok) ∧ ∀ t ∈ s.aN, t.ok
def ltL (a b : Li) : Bool := decide (a.id < b.id)
def ltK (a b : Tk) : Bool := decide (a.id < b.id)
def ltS (a b : List UInt8) : Bool := decide (a < b)
theorem woL : Sr.WO ltL := ⟨fun a => by simp [ltL], fun a b c h k => by simp [ltL] at *; omega, fun a b c h => by simp [ltL] at *; omega⟩
theorem woK : Sr.WO ltK := ⟨fun a => by simp [ltK], fun a b c h k => by simp [ltK] at *; omega, fun a b c h => by simp [ltK] at *; omega⟩
theorem woS : Sr.WO ltS := ⟨fun a => by simp [ltS], fun a b c h k => by
  simp only [ltS, decide_eq_true_eq] at *
  exact List.lt_trans h k, fun a b c h => by
  simp only [ltS, decide_eq_true_eq] at *
  by_cases q : a < b
  ·exact .inl q
  ·right
   rcases List.le_iff_lt_or_eq.1 (List.not_lt.1 q) with r | r
   ·exact List.lt_trans r h
   ·subst r; exact h⟩
def norm (t : Tk) : Tk := { t with rank := Fl.canon t.rank, est := Fl.canon t.est, tags := Sr.canon ltS t.tags }
def canon (s : St) : St := ⟨Sr.canon ltL s.lists, (Sr.canon ltK s.aN).map norm⟩
def eF (a b : Tk) : Bool := a.id == b.id && a.list == b.list && decide (a.title = b.title) && a.done == b.done && Fl.same a.rank b.rank && Fl.same a.est b.est && decide (a.tags = b.tags)
def eG : List Tk → List Tk → Bool
 | [], [] => true
 | a :: l, b :: m => eF a b && eG l m
 | _, _ => false
def same (a b : St) : Bool := decide (a.lists = b.lists) && eG a.aN b.aN
theorem rT (a : Tk) : eF a a = true := by simp [eF, Fl.same]
theorem lZ : ∀ l : List Tk, eG l l = true
 | [] => rfl
 | a :: l => by simp [eG, rT, lZ l]
theorem uV (s : St) : same s s = true := by simp [same, lZ]
theorem nQ : ∀ {l m : List Tk}, eG l m = true → l.length = m.length
 | [], [], _ => rfl
 | a :: l, b :: m, h => by
  simp only [eG, Bool.and_eq_true] at h
  rw [List.length_cons, List.length_cons, nQ h.2]
 | [], _ :: _, h => by simp [eG] at h
 | _ :: _, [], h => by simp [eG] at h
theorem rJ {l m : List Tk} (hl : l.length = m.length) (a b : Tk) : eG (l ++ [a]) (m ++ [b]) = (eG l m && eF a b) := by
 induction l generalizing m with
 | nil =>
  cases m with
  | nil => simp [eG]
  | cons b m => simp at hl
 | cons x l ih =>
  cases m with
  | nil => simp at hl
  | cons y m =>
   simp only [List.length_cons, Nat.add_right_cancel_iff] at hl
   simp [eG, ih hl, Bool.and_assoc]
end T9
section
structure MTk where
 t : T9.Tk
 A : Option Addr
 c : Nat
instance : Inhabited MTk := ⟨⟨default, none, 0⟩⟩
def aV (l : T9.Li) : List Value := [.int .u64 (l.id : Int), .string (str l.name)]
def encS (s : List UInt8) : Value := .string (str s)
def ax (m : MTk) : List Value := [.int .u64 (m.t.id : Int), .int .u64 (m.t.list : Int), .string (str m.t.title), .bool m.t.done, .float .f64 m.t.rank, .float .f64 m.t.est, .slice m.A m.t.tags.length m.c]
def ltM (a b : MTk) : Bool := T9.ltK a.t b.t
theorem woM : Sr.WO ltM := ⟨fun a => T9.woK.irr a.t, fun a b c => T9.woK.tr a.t b.t c.t, fun a b c => T9.woK.ng a.t b.t c.t⟩
theorem dR (l : T9.Li) : (aV l).length = 2 := rfl
theorem aO (m : MTk) : (ax m).length = 7 := rfl
theorem il (l : T9.Li) : ∀ v ∈ aV l, v.oneCell' = true := by
 intro v hv
 simp only [aV, List.mem_cons, List.not_mem_nil, or_false] at hv
 rcases hv with rfl | rfl <;> rfl
theorem bU (m : MTk) : ∀ v ∈ ax m, v.oneCell' = true := by
 intro v hv
 simp only [ax, List.mem_cons, List.not_mem_nil, or_false] at hv
 rcases hv with rfl | rfl | rfl | rfl | rfl | rfl | rfl <;> rfl
def aF (ls : List T9.Li) : List Value := ls.flatMap aV
def ah (ms : List MTk) : List Value := ms.flatMap ax
def az (ts : List (List UInt8)) : List Value := ts.map encS
theorem dC (ls : List T9.Li) : (aF ls).length = ls.length * 2 := gQ fun l _ => dR l
theorem aH (ms : List MTk) : (ah ms).length = ms.length * 7 := gQ fun m _ => aO m
theorem bQ (ts : List (List UInt8)) : (az ts).length = ts.length := by simp [az]
theorem eU (ls : List T9.Li) : ∀ v ∈ aF ls, v.oneCell' = true := fun v hv => by
 obtain ⟨l, _, h⟩ := List.mem_flatMap.1 hv
 exact il l v h
theorem bL (ms : List MTk) : ∀ v ∈ ah ms, v.oneCell' = true := fun v hv => by
 obtain ⟨l, _, h⟩ := List.mem_flatMap.1 hv
 exact bU l v h
theorem dA (ts : List (List UInt8)) : ∀ v ∈ az ts, v.oneCell' = true := fun v hv => by
 obtain ⟨l, _, rfl⟩ := List.mem_map.1 hv
 rfl
theorem p_ (ls : List T9.Li) (l : T9.Li) : aF (ls ++ [l]) = aF ls ++ aV l := by simp [aF]
theorem ed (ms : List MTk) (m : MTk) : ah (ms ++ [m]) = ah ms ++ ax m := by simp [ah]
theorem kN (ts : List (List UInt8)) (t : List UInt8) : az (ts ++ [t]) = az ts ++ [encS t] := by simp [az]
def MTk.fine (m : MTk) (w : World) : Prop := ak w w.heap.size 0 m.A (az m.t.tags) ∧ m.t.tags.length ≤ m.c
def KL (w : World) (A : Option Addr) (ms : List MTk) : Prop := ak w w.heap.size 0 A (ah ms) ∧ ∀ m ∈ ms, m.fine w
def LL (w : World) (A : Option Addr) (ls : List T9.Li) : Prop := ak w w.heap.size 0 A (aF ls)
def GL (w : World) (A : Option Addr) (ts : List (List UInt8)) : Prop := ak w w.heap.size 0 A (az ts)
def tks (ms : List MTk) : List T9.Tk := ms.map (·.t)
theorem aD (ms : List MTk) : (tks ms).length = ms.length := by simp [tks]
theorem dI (ms : List MTk) (m : MTk) : tks (ms ++ [m]) = tks ms ++ [m.t] := by simp [tks]
section
variable {w w' : World} {A : Option Addr} {ls : List T9.Li} {ms : List MTk} {ts : List (List UInt8)}
theorem ak.stay {xs : List Value} (h : ak w w.heap.size 0 A xs) (hb : Below w.heap.size w w') : ak w' w'.heap.size 0 A xs := (h.below (Nat.le_refl _) hb).more hb.size
theorem LL.stay (h : LL w A ls) (hb : Below w.heap.size w w') : LL w' A ls := ak.stay h hb
theorem GL.stay (h : GL w A ts) (hb : Below w.heap.size w w') : GL w' A ts := ak.stay h hb
theorem MTk.fine.stay {m : MTk} (h : m.fine w) (hb : Below w.heap.size w w') : m.fine w' := ⟨ak.stay h.1 hb, h.2⟩
theorem KL.stay (h : KL w A ms) (hb : Below w.heap.size w w') : KL w' A ms := ⟨ak.stay h.1 hb, fun m hm => (h.2 m hm).stay hb⟩
theorem LL.nil : LL w A [] := ak.nil
theorem GL.nil : GL w A [] := ak.nil
theorem KL.nil : KL w A [] := ⟨ak.nil, by simp⟩
theorem LL.at_ (h : LL w A ls) {k : Nat} (hk : k < ls.length) : ∃ ad l, A = some ad ∧ ls[k]? = some l ∧ w.cell? (ad.add (k * 2)) = some (.int .u64 (l.id : Int)) ∧ w.cell? ⟨(ad.add (k * 2)).block, (ad.add (k * 2)).off + 1, none⟩ = some (.string (str l.name)) := by
 have hx : ls[k]? = some ls[k] := List.getElem?_eq_getElem hk
 obtain ⟨ad, e, _, hc⟩ := h (fun q => by have := dC ls; rw [q] at this; simp at this; omega)
 have c : ∀ j u, j < 2 → (aV ls[k])[j]? = some u → w.cell? ((ad.add (k * 2)).add j) = some u := fun j u hj hu => by
  rw [addr_add]
  exact hc _ _ ((fJ (f := aV) (size := 2) (fun l _ => dR l) hx hj).trans hu)
 exact ⟨ad, ls[k], e, hx, c 0 _ (by omega) rfl, c 1 _ (by omega) rfl⟩
theorem GL.at_ (h : GL w A ts) {k : Nat} (hk : k < ts.length) : ∃ ad t, A = some ad ∧ ts[k]? = some t ∧ w.cell? (ad.add k) = some (.string (str t)) := by
 have hx : ts[k]? = some ts[k] := List.getElem?_eq_getElem hk
 obtain ⟨ad, e, hc⟩ := ak.at_ h (k := k) (by rw [bQ]; exact hk)
 refine ⟨ad, ts[k], e, hx, ?_⟩
 rw [hc]
 simp [az, encS]
theorem KL.at_ (h : KL w A ms) {k : Nat} (hk : k < ms.length) : ∃ ad m, A = some ad ∧ ms[k]? = some m ∧ m.fine w ∧ w.cell? (ad.add (k * 7)) = some (.int .u64 (m.t.id : Int)) ∧ w.cell? ⟨(ad.add (k * 7)).block, (ad.add (k * 7)).off + 1, none⟩ = some (.int .u64 (m.t.list : Int)) ∧
  w.cell? ⟨(ad.add (k * 7)).block, (ad.add (k * 7)).off + 2, none⟩ = some (.string (str m.t.title)) ∧ w.cell? ⟨(ad.add (k * 7)).block, (ad.add (k * 7)).off + 3, none⟩ = some (.bool m.t.done) ∧ w.cell? ⟨(ad.add (k * 7)).block, (ad.add (k * 7)).off + 4, none⟩ = some (.float .f64 m.t.rank) ∧
  w.cell? ⟨(ad.add (k * 7)).block, (ad.add (k * 7)).off + 5, none⟩ = some (.float .f64 m.t.est) ∧ w.cell? ⟨(ad.add (k * 7)).block, (ad.add (k * 7)).off + 6, none⟩ = some (.slice m.A m.t.tags.length m.c) := by
 have hx : ms[k]? = some ms[k] := List.getElem?_eq_getElem hk
 obtain ⟨ad, e, _, hc⟩ := h.1 (fun q => by have := aH ms; rw [q] at this; simp at this; omega)
 have c : ∀ j u, j < 7 → (ax ms[k])[j]? = some u → w.cell? ((ad.add (k * 7)).add j) = some u := fun j u hj hu => by
  rw [addr_add]
  exact hc _ _ ((fJ (f := ax) (size := 7) (fun l _ => aO l) hx hj).trans hu)
 exact ⟨ad, ms[k], e, hx, h.2 _ (List.getElem_mem hk), c 0 _ (by omega) rfl, c 1 _ (by omega) rfl, c 2 _ (by omega) rfl, c 3 _ (by omega) rfl, c 4 _ (by omega) rfl, c 5 _ (by omega) rfl, c 6 _ (by omega) rfl⟩
theorem MTk.fine.gl {m : MTk} (h : m.fine w) : GL w m.A m.t.tags := h.1
end
theorem aa {w : World} {g : Nat} {a b : Value} {t : TypeId} {fr : Nat × Nat} (h : w.heap[g]? = some (.cells #[a, b] t fr)) : w.cell? ⟨g, 0, none⟩ = some a ∧ w.cell? ⟨g, 1, none⟩ = some b := ⟨by simp [World.cell?, h], by simp [World.cell?, h]⟩
theorem aj {w : World} {p : Nat} {t : TypeId} {a b c d e f g : Value} {fr : Nat × Nat} (h : w.heap[p]? = some (.cells #[a, b, c, d, e, f, g] t fr)) : w.cell? ⟨p, 0, none⟩ = some a ∧ w.cell? ⟨p, 1, none⟩ = some b ∧ w.cell? ⟨p, 2, none⟩ = some c ∧ w.cell? ⟨p, 3, none⟩ = some d ∧ w.cell? ⟨p, 4, none⟩ = some e ∧ w.cell? ⟨p, 5, none⟩ = some f ∧ w.cell? ⟨p, 6, none⟩ = some g := by
 simp [World.cell?, h]
structure MSt where
 ls : List T9.Li
 A : Option Addr
 c : Nat
 ms : List MTk
 A2 : Option Addr
 c2 : Nat
def MSt.val (m : MSt) : Value := .agg #[.slice m.A m.ls.length m.c, .slice m.A2 m.ms.length m.c2]
def MSt.st (m : MSt) : T9.St := ⟨m.ls, tks m.ms⟩
structure SM (m : MSt) (w : World) : Prop where
 l : LL w m.A m.ls
 k : KL w m.A2 m.ms
 lc : m.ls.length ≤ m.c
 kc : m.ms.length ≤ m.c2
theorem SM.stay {m : MSt} {w w' : World} (h : SM m w) (hb : Below w.heap.size w w') : SM m w' := ⟨h.l.stay hb, h.k.stay hb, h.lc, h.kc⟩
end
end
section
namespace Sr
section
variable {α : Type} {lt : α → α → Bool}
theorem wD [DecidableEq α] (h : WO lt) {l r : List α} (s : Stb lt l r) : r.Perm l := by
 rw [List.perm_iff_count]
 intro a
 have e := congrArg (List.count a) (s a)
 rw [List.count_filter (gG h a), List.count_filter (gG h a)] at e
 exact e
theorem srt_str {r : List α} (hs : Srt lt r) (hd : r.Pairwise fun a b => eqv lt a b = false) : Str lt r := by
 unfold Str Srt at *
 refine (hs.and hd).imp fun {a b} hk => ?_
 obtain ⟨h, k⟩ := hk
 unfold eqv at k
 rw [h] at k
 simpa using k
theorem nP (h : WO lt) : ∀ {l r : List α}, Str lt l → Str lt r → l.Perm r → l = r
 | [], r, _, _, p => (List.nil_perm.1 p).symm
 | x :: l, [], _, _, p => absurd (List.perm_nil.1 p) (by simp)
 | x :: l, y :: r, hl, hr, p => by
  have hl' := List.pairwise_cons.1 hl
  have hr' := List.pairwise_cons.1 hr
  have hx : x ∈ y :: r := p.mem_iff.1 List.mem_cons_self
  have hy : y ∈ x :: l := p.mem_iff.2 List.mem_cons_self
  have e : x = y := by
   rcases List.mem_cons.1 hx with q | q
   ·exact q
   ·rcases List.mem_cons.1 hy with q2 | q2
    ·exact q2.symm
    ·have a := hr'.1 x q
     have b := hl'.1 y q2
     rw [h.asym a] at b
     cases b
  subst e
  rw [nP h hl'.2 hr'.2 (List.Perm.cons_inv p)]
end
end Sr
namespace Fl
def flo (k : Nat) : Nat := FloatKind.f64.nearest (k : Int)
theorem wG : ∀ k, k ≤ 80 → flo k < 18446744073709551616 ∧ isN (flo k) = false ∧ (I (flo k) == I (canon (flo k))) = true ∧ flo k < 9223372036854775808 := by
 intro k hk
 have q : ∀ k : Fin 81, flo k.1 < 18446744073709551616 ∧ isN (flo k.1) = false ∧ (I (flo k.1) == I (canon (flo k.1))) = true ∧ flo k.1 < 9223372036854775808 := by decide +kernel
 exact q ⟨k, by omega⟩
end Fl
namespace T9
def ltR (a b : Tk) : Bool := Fl.lt a.rank b.rank || (!Fl.lt b.rank a.rank && decide (a.id < b.id))
theorem jk {a b : Tk} : ltR a b = true ↔ Fl.pl a.rank < Fl.pl b.rank ∨ (Fl.pl a.rank = Fl.pl b.rank ∧ a.id < b.id) := by
 unfold ltR
 rw [Bool.or_eq_true, Bool.and_eq_true, Fl.kY, Bool.not_eq_true', Fl.yX, decide_eq_true_iff]
 omega
theorem lq {a b : Tk} : ltR a b = false ↔ Fl.pl b.rank < Fl.pl a.rank ∨ (Fl.pl a.rank = Fl.pl b.rank ∧ b.id ≤ a.id) := by
 rw [← Bool.not_eq_true, jk]
 omega
theorem woR : Sr.WO ltR := ⟨fun a => by rw [lq]; exact .inr ⟨rfl, Nat.le_refl _⟩, fun a b c h k => by rw [jk] at *; omega, fun a b c h => by rw [jk, jk] at *; omega⟩
theorem eqvR {a b : Tk} (h : a.id ≠ b.id) : Sr.eqv ltR a b = false := by
 cases e : Sr.eqv ltR a b with
 | false => rfl
 | true =>
  unfold Sr.eqv at e
  rw [Bool.and_eq_true, Bool.not_eq_true', Bool.not_eq_true', lq, lq] at e
  omega
def dO (ts : List Tk) (list : Nat) : List Tk := ts.filter fun t => t.list == list
def mV (ts : List Tk) (list : Nat) (r : List Tk) : Prop := Sr.Srt ltR r ∧ Sr.Stb ltR (dO ts list) r
theorem mV.perm {ts r : List Tk} {list : Nat} (h : mV ts list r) : r.Perm (dO ts list) := Sr.wD woR h.2
def Uni (ts : List Tk) : Prop := ts.Pairwise fun a b => a.id ≠ b.id
theorem Uni.filter {ts : List Tk} (h : Uni ts) (p : Tk → Bool) : Uni (ts.filter p) := List.Pairwise.filter p h
theorem Uni.perm {l r : List Tk} (h : Uni l) (p : r.Perm l) : Uni r := (p.pairwise_iff (fun q => Ne.symm q)).2 h
theorem Uni.str {r : List Tk} (h : Uni r) (hs : Sr.Srt ltR r) : Sr.Str ltR r := Sr.srt_str hs (h.imp fun q => eqvR q)
theorem mV.str {ts r : List Tk} {list : Nat} (h : mV ts list r) (u : Uni ts) : Sr.Str ltR r := ((u.filter _).perm h.perm).str h.1
theorem mV.is {ts r x : List Tk} {list : Nat} (h : mV ts list r) (u : Uni ts) (hx : Sr.Str ltR x) (p : x.Perm (dO ts list)) : r = x := Sr.nP woR (h.str u) hx (h.perm.trans p.symm)
def plc (l : List Tk) (id : Nat) : Option Nat := l.findIdx? fun t => t.id == id
end T9
end
end Go.Proofs.YtpphmbfghfmdlaaGreat
