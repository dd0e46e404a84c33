import Derived.Test.YtnhpkcphgdkdiaaGreatZ16
import Derived.Test.YtnhpkcphgdkdiaaGreatZ19
import Derived.Test.YtnhpkcphgdkdiaaGreatZ18
import Derived.Test.YtnhpkcphgdkdiaaGreatZ13
namespace Go.Proofs.YtnhpkcphgdkdiaaGreat
set_option linter.unusedSimpArgs false
set_option maxRecDepth 100000
section
open Go.RowKit
namespace T9
structure Li where
 id : Nat
 name : List UInt8
structure Tk where
 id : Nat
 list : Nat
 title : List UInt8
 done : Bool
 rank : Nat
 est : Nat
 tags : List (List UInt8)
structure St where
 lists : List Li
 tasks : List Tk
instance : Inhabited Li := ⟨⟨0, []⟩⟩
instance : Inhabited Tk := ⟨⟨0, 0, [], false, 0, 0, []⟩⟩
instance : Inhabited St := ⟨⟨[], []⟩⟩
theorem Li.ext_iff' {a b : Li} : a = b ↔ a.id = b.id ∧ a.name = b.name := by
 cases a; cases b; simp
instance : DecidableEq Li := fun _ _ => decidable_of_iff _ Li.ext_iff'.symm
theorem Tk.ext_iff' {a b : Tk} : a = b ↔ a.id = b.id ∧ a.list = b.list ∧ a.title = b.title ∧ a.done = b.done ∧ a.rank = b.rank ∧ a.est = b.est ∧ a.tags = b.tags := by
 cases a; cases b; simp
instance : DecidableEq Tk := fun _ _ => decidable_of_iff _ Tk.ext_iff'.symm
theorem St.ext_iff' {a b : St} : a = b ↔ a.lists = b.lists ∧ a.tasks = b.tasks := by
 cases a; cases b; simp
instance : DecidableEq St := fun _ _ => decidable_of_iff _ St.ext_iff'.symm
def Tk.ok (t : Tk) : Prop := t.id < 18446744073709551616 ∧ t.list < 18446744073709551616 ∧ t.rank < 18446744073709551616 ∧ t.est < 18446744073709551616
def Li.ok (l : Li) : Prop := l.id < 18446744073709551616
def St.ok (s : St) : Prop := (∀ l ∈ s.lists, l.ok) ∧ ∀ t ∈ s.tasks, t.ok
def ltL (a b : Li) : Bool := decide (a.id < b.id)
def ltK (a b : Tk) : Bool := decide (a.id < b.id)
def ltS (a b : List UInt8) : Bool := decide (a < b)
theorem woL : Sr.WO ltL := ⟨fun a => by simp [ltL], fun a b c h k => by simp [ltL] at *; omega, fun a b c h => by simp [ltL] at *; omega⟩
theorem woK : Sr.WO ltK := ⟨fun a => by simp [ltK], fun a b c h k => by simp [ltK] at *; omega, fun a b c h => by simp [ltK] at *; omega⟩
theorem woS : Sr.WO ltS := ⟨fun a => by simp [ltS], fun a b c h k => by
  simp only [ltS, decide_eq_true_eq] at *
  exact List.lt_trans h k, fun a b c h => by
  simp only [ltS, decide_eq_true_eq] at *
  by_cases q : a < b
  ·exact .inl q
  ·right
   rcases List.le_iff_lt_or_eq.1 (List.not_lt.1 q) with r | r
   ·exact List.lt_trans r h
   ·subst r; exact h⟩
def norm (t : Tk) : Tk := { t with rank := Fl.canon t.rank, est := Fl.canon t.est, tags := Sr.canon ltS t.tags }
def canon (s : St) : St := ⟨Sr.canon ltL s.lists, (Sr.canon ltK s.tasks).map norm⟩
def same1 (a b : Tk) : Bool := a.id == b.id && a.list == b.list && decide (a.title = b.title) && a.done == b.done && Fl.same a.rank b.rank && Fl.same a.est b.est && decide (a.tags = b.tags)
def sameT : List Tk → List Tk → Bool
 | [], [] => true
 | a :: l, b :: m => same1 a b && sameT l m
 | _, _ => false
def same (a b : St) : Bool := decide (a.lists = b.lists) && sameT a.tasks b.tasks
theorem same1_refl (a : Tk) : same1 a a = true := by simp [same1, Fl.same]
theorem sameT_refl : ∀ l : List Tk, sameT l l = true
 | [] => rfl
 | a :: l => by simp [sameT, same1_refl, sameT_refl l]
theorem same_refl (s : St) : same s s = true := by simp [same, sameT_refl]
theorem sameT_len : ∀ {l m : List Tk}, sameT l m = true → l.length = m.length
 | [], [], _ => rfl
 | a :: l, b :: m, h => by
  simp only [sameT, Bool.and_eq_true] at h
  rw [List.length_cons, List.length_cons, sameT_len h.2]
 | [], _ :: _, h => by simp [sameT] at h
 | _ :: _, [], h => by simp [sameT] at h
theorem sameT_snoc {l m : List Tk} (hl : l.length = m.length) (a b : Tk) : sameT (l ++ [a]) (m ++ [b]) = (sameT l m && same1 a b) := by
 induction l generalizing m with
 | nil =>
  cases m with
  | nil => simp [sameT]
  | cons b m => simp at hl
 | cons x l ih =>
  cases m with
  | nil => simp at hl
  | cons y m =>
   simp only [List.length_cons, Nat.add_right_cancel_iff] at hl
   simp [sameT, ih hl, Bool.and_assoc]
end T9
section
structure MTk where
 t : T9.Tk
 A : Option Addr
 c : Nat
instance : Inhabited MTk := ⟨⟨default, none, 0⟩⟩
def encL (l : T9.Li) : List Value := [.int .u64 (l.id : Int), .string (str l.name)]
def encS (s : List UInt8) : Value := .string (str s)
def encK (m : MTk) : List Value := [.int .u64 (m.t.id : Int), .int .u64 (m.t.list : Int), .string (str m.t.title), .bool m.t.done, .float .f64 m.t.rank, .float .f64 m.t.est, .slice m.A m.t.tags.length m.c]
def ltM (a b : MTk) : Bool := T9.ltK a.t b.t
theorem woM : Sr.WO ltM := ⟨fun a => T9.woK.irr a.t, fun a b c => T9.woK.tr a.t b.t c.t, fun a b c => T9.woK.ng a.t b.t c.t⟩
theorem encL_len (l : T9.Li) : (encL l).length = 2 := rfl
theorem encK_len (m : MTk) : (encK m).length = 7 := rfl
theorem encL_one (l : T9.Li) : ∀ v ∈ encL l, v.oneCell' = true := by
 intro v hv
 simp only [encL, List.mem_cons, List.not_mem_nil, or_false] at hv
 rcases hv with rfl | rfl <;> rfl
theorem encK_one (m : MTk) : ∀ v ∈ encK m, v.oneCell' = true := by
 intro v hv
 simp only [encK, List.mem_cons, List.not_mem_nil, or_false] at hv
 rcases hv with rfl | rfl | rfl | rfl | rfl | rfl | rfl <;> rfl
def lcells (ls : List T9.Li) : List Value := ls.flatMap encL
def tkcells (ms : List MTk) : List Value := ms.flatMap encK
def gcells (ts : List (List UInt8)) : List Value := ts.map encS
theorem lcells_len (ls : List T9.Li) : (lcells ls).length = ls.length * 2 := cel_len fun l _ => encL_len l
theorem tkcells_len (ms : List MTk) : (tkcells ms).length = ms.length * 7 := cel_len fun m _ => encK_len m
theorem gcells_len (ts : List (List UInt8)) : (gcells ts).length = ts.length := by simp [gcells]
theorem lcells_one (ls : List T9.Li) : ∀ v ∈ lcells ls, v.oneCell' = true := fun v hv => by
 obtain ⟨l, _, h⟩ := List.mem_flatMap.1 hv
 exact encL_one l v h
theorem tkcells_one (ms : List MTk) : ∀ v ∈ tkcells ms, v.oneCell' = true := fun v hv => by
 obtain ⟨l, _, h⟩ := List.mem_flatMap.1 hv
 exact encK_one l v h
theorem gcells_one (ts : List (List UInt8)) : ∀ v ∈ gcells ts, v.oneCell' = true := fun v hv => by
 obtain ⟨l, _, rfl⟩ := List.mem_map.1 hv
 rfl
theorem lcells_snoc (ls : List T9.Li) (l : T9.Li) : lcells (ls ++ [l]) = lcells ls ++ encL l := by simp [lcells]
theorem tkcells_snoc (ms : List MTk) (m : MTk) : tkcells (ms ++ [m]) = tkcells ms ++ encK m := by simp [tkcells]
def MTk.fine (m : MTk) (w : World) : Prop := Lies w w.heap.size 0 m.A (gcells m.t.tags) ∧ m.t.tags.length ≤ m.c
def KL (w : World) (A : Option Addr) (ms : List MTk) : Prop := Lies w w.heap.size 0 A (tkcells ms) ∧ ∀ m ∈ ms, m.fine w
def LL (w : World) (A : Option Addr) (ls : List T9.Li) : Prop := Lies w w.heap.size 0 A (lcells ls)
def GL (w : World) (A : Option Addr) (ts : List (List UInt8)) : Prop := Lies w w.heap.size 0 A (gcells ts)
def tks (ms : List MTk) : List T9.Tk := ms.map (·.t)
theorem tks_len (ms : List MTk) : (tks ms).length = ms.length := by simp [tks]
theorem tks_snoc (ms : List MTk) (m : MTk) : tks (ms ++ [m]) = tks ms ++ [m.t] := by simp [tks]
section
variable {w w' : World} {A : Option Addr} {ls : List T9.Li} {ms : List MTk} {ts : List (List UInt8)}
theorem Lies.stay {xs : List Value} (h : Lies w w.heap.size 0 A xs) (hb : Below w.heap.size w w') : Lies w' w'.heap.size 0 A xs := (h.below (Nat.le_refl _) hb).more hb.size
theorem LL.stay (h : LL w A ls) (hb : Below w.heap.size w w') : LL w' A ls := Lies.stay h hb
theorem GL.stay (h : GL w A ts) (hb : Below w.heap.size w w') : GL w' A ts := Lies.stay h hb
theorem MTk.fine.stay {m : MTk} (h : m.fine w) (hb : Below w.heap.size w w') : m.fine w' := ⟨Lies.stay h.1 hb, h.2⟩
theorem KL.stay (h : KL w A ms) (hb : Below w.heap.size w w') : KL w' A ms := ⟨Lies.stay h.1 hb, fun m hm => (h.2 m hm).stay hb⟩
theorem LL.nil : LL w A [] := Lies.nil
theorem GL.nil : GL w A [] := Lies.nil
theorem KL.nil : KL w A [] := ⟨Lies.nil, by simp⟩
theorem LL.at_ (h : LL w A ls) {k : Nat} (hk : k < ls.length) : ∃ ad l, A = some ad ∧ ls[k]? = some l ∧ w.cell? (ad.add (k * 2)) = some (.int .u64 (l.id : Int)) ∧ w.cell? ⟨(ad.add (k * 2)).block, (ad.add (k * 2)).off + 1, none⟩ = some (.string (str l.name)) := by
 have hx : ls[k]? = some ls[k] := List.getElem?_eq_getElem hk
 obtain ⟨ad, e, _, hc⟩ := h (fun q => by have := lcells_len ls; rw [q] at this; simp at this; omega)
 have c : ∀ j u, j < 2 → (encL ls[k])[j]? = some u → w.cell? ((ad.add (k * 2)).add j) = some u := fun j u hj hu => by
  rw [addr_add]
  exact hc _ _ ((cel_at (f := encL) (size := 2) (fun l _ => encL_len l) hx hj).trans hu)
 exact ⟨ad, ls[k], e, hx, c 0 _ (by omega) rfl, c 1 _ (by omega) rfl⟩
theorem GL.at_ (h : GL w A ts) {k : Nat} (hk : k < ts.length) : ∃ ad t, A = some ad ∧ ts[k]? = some t ∧ w.cell? (ad.add k) = some (.string (str t)) := by
 have hx : ts[k]? = some ts[k] := List.getElem?_eq_getElem hk
 obtain ⟨ad, e, hc⟩ := Lies.at_ h (k := k) (by rw [gcells_len]; exact hk)
 refine ⟨ad, ts[k], e, hx, ?_⟩
 rw [hc]
 simp [gcells, encS]
theorem KL.at_ (h : KL w A ms) {k : Nat} (hk : k < ms.length) : ∃ ad m, A = some ad ∧ ms[k]? = some m ∧ m.fine w ∧ w.cell? (ad.add (k * 7)) = some (.int .u64 (m.t.id : Int)) ∧ w.cell? ⟨(ad.add (k * 7)).block, (ad.add (k * 7)).off + 1, none⟩ = some (.int .u64 (m.t.list : Int)) ∧
  w.cell? ⟨(ad.add (k * 7)).block, (ad.add (k * 7)).off + 2, none⟩ = some (.string (str m.t.title)) ∧ w.cell? ⟨(ad.add (k * 7)).block, (ad.add (k * 7)).off + 3, none⟩ = some (.bool m.t.done) ∧ w.cell? ⟨(ad.add (k * 7)).block, (ad.add (k * 7)).off + 4, none⟩ = some (.float .f64 m.t.rank) ∧
  w.cell? ⟨(ad.add (k * 7)).block, (ad.add (k * 7)).off + 5, none⟩ = some (.float .f64 m.t.est) ∧ w.cell? ⟨(ad.add (k * 7)).block, (ad.add (k * 7)).off + 6, none⟩ = some (.slice m.A m.t.tags.length m.c) := by
 have hx : ms[k]? = some ms[k] := List.getElem?_eq_getElem hk
 obtain ⟨ad, e, _, hc⟩ := h.1 (fun q => by have := tkcells_len ms; rw [q] at this; simp at this; omega)
 have c : ∀ j u, j < 7 → (encK ms[k])[j]? = some u → w.cell? ((ad.add (k * 7)).add j) = some u := fun j u hj hu => by
  rw [addr_add]
  exact hc _ _ ((cel_at (f := encK) (size := 7) (fun l _ => encK_len l) hx hj).trans hu)
 exact ⟨ad, ms[k], e, hx, h.2 _ (List.getElem_mem hk), c 0 _ (by omega) rfl, c 1 _ (by omega) rfl, c 2 _ (by omega) rfl, c 3 _ (by omega) rfl, c 4 _ (by omega) rfl, c 5 _ (by omega) rfl, c 6 _ (by omega) rfl⟩
theorem MTk.fine.gl {m : MTk} (h : m.fine w) : GL w m.A m.t.tags := h.1
end
theorem two_cells {w : World} {g : Nat} {a b : Value} {t : TypeId} {fr : Nat × Nat} (h : w.heap[g]? = some (.cells #[a, b] t fr)) : w.cell? ⟨g, 0, none⟩ = some a ∧ w.cell? ⟨g, 1, none⟩ = some b := ⟨by simp [World.cell?, h], by simp [World.cell?, h]⟩
theorem seven_cells {w : World} {p : Nat} {t : TypeId} {a b c d e f g : Value} {fr : Nat × Nat} (h : w.heap[p]? = some (.cells #[a, b, c, d, e, f, g] t fr)) : w.cell? ⟨p, 0, none⟩ = some a ∧ w.cell? ⟨p, 1, none⟩ = some b ∧ w.cell? ⟨p, 2, none⟩ = some c ∧ w.cell? ⟨p, 3, none⟩ = some d ∧ w.cell? ⟨p, 4, none⟩ = some e ∧ w.cell? ⟨p, 5, none⟩ = some f ∧ w.cell? ⟨p, 6, none⟩ = some g := by
 simp [World.cell?, h]
structure MSt where
 ls : List T9.Li
 A : Option Addr
 c : Nat
 ms : List MTk
 A2 : Option Addr
 c2 : Nat
def MSt.val (m : MSt) : Value := .agg #[.slice m.A m.ls.length m.c, .slice m.A2 m.ms.length m.c2]
def MSt.st (m : MSt) : T9.St := ⟨m.ls, tks m.ms⟩
structure SM (m : MSt) (w : World) : Prop where
 l : LL w m.A m.ls
 k : KL w m.A2 m.ms
 lc : m.ls.length ≤ m.c
 kc : m.ms.length ≤ m.c2
theorem SM.stay {m : MSt} {w w' : World} (h : SM m w) (hb : Below w.heap.size w w') : SM m w' := ⟨h.l.stay hb, h.k.stay hb, h.lc, h.kc⟩
end
end
end Go.Proofs.YtnhpkcphgdkdiaaGreat
