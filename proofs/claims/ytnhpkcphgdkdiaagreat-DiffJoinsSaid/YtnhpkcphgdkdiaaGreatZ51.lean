import Derived.Test.YtnhpkcphgdkdiaaGreatZ46
import Derived.Test.YtnhpkcphgdkdiaaGreatZ50
namespace Go.Proofs.YtnhpkcphgdkdiaaGreat
set_option linter.unusedSimpArgs false
set_option maxRecDepth 100000
section
set_option linter.unusedSimpArgs false
section
open Go.RowKit Go.Lib Go.Shelf
end
end
section
set_option linter.unusedSimpArgs false
section
open Go.RowKit Go.Lib Go.Shelf
def twoJ {α : Type} (g : α → Nat) (sm : α → α → Bool) (os bs cs : List α) : Nat → Option (Option α) := ovJ (pwN g (news g sm bs cs) (gone g bs cs)) (pwN g (news g sm os bs) (gone g os bs))
theorem two_cases {α : Type} {g : α → Nat} {sm : α → α → Bool} {os bs cs : List α} (hb : bs.Pairwise (fun x y => g x < g y)) (hc : cs.Pairwise (fun x y => g x < g y)) (s1 : ∀ x ∈ os, ∀ y ∈ bs, sm x y = true → x = y) (s2 : ∀ x ∈ bs, ∀ y ∈ cs, sm x y = true → x = y) (k : Nat) :
  (∃ x, twoJ g sm os bs cs k = some (some x) ∧ firstN g cs k = some x) ∨ (twoJ g sm os bs cs k = some none ∧ firstN g cs k = none ∧ ((∃ y, firstN g bs k = some y) ∨ ∃ y, firstN g os k = some y)) ∨ (twoJ g sm os bs cs k = none ∧ firstN g os k = firstN g cs k) := by
 have tq := turn_eq hc s2 k
 have tp := turn_eq hb s1 k
 unfold resN minN at tq tp
 unfold twoJ ovJ pwN
 cases e1 : firstN g (news g sm bs cs) k with
 | some x =>
  rw [e1] at tq
  exact .inl ⟨x, by simp, by simpa using tq.symm⟩
 | none =>
  rw [e1] at tq
  by_cases i1 : k ∈ gone g bs cs
  ·simp only [Option.isSome_none, Bool.false_eq_true, if_false, if_pos i1] at tq
   exact .inr (.inl ⟨by simp [i1], tq.symm, .inl (gone_there i1)⟩)
  ·simp only [Option.isSome_none, Bool.false_eq_true, if_false, if_neg i1] at tq
   cases e2 : firstN g (news g sm os bs) k with
   | some x =>
    rw [e2] at tp
    exact .inl ⟨x, by simp [i1], by rw [← tq]; simpa using tp.symm⟩
   | none =>
    rw [e2] at tp
    by_cases i2 : k ∈ gone g os bs
    ·simp only [Option.isSome_none, Bool.false_eq_true, if_false, if_pos i2] at tp
     exact .inr (.inl ⟨by simp [i1, i2], by rw [← tq, ← tp], .inr (gone_there i2)⟩)
    ·simp only [Option.isSome_none, Bool.false_eq_true, if_false, if_neg i2] at tp
     exact .inr (.inr ⟨by simp [i1, i2], by rw [← tq, ← tp]⟩)
theorem joins_res {α : Type} {g : α → Nat} {sm : α → α → Bool} {os bs cs rs : List α} {gs : List Nat} (hb : bs.Pairwise (fun x y => g x < g y)) (hc : cs.Pairwise (fun x y => g x < g y)) (s1 : ∀ x ∈ os, ∀ y ∈ bs, sm x y = true → x = y) (s2 : ∀ x ∈ bs, ∀ y ∈ cs, sm x y = true → x = y)
  (h1 : Told g (jn (twoJ g sm os bs cs)) rs) (h2 : ∀ x, x ∈ gs ↔ twoJ g sm os bs cs x = some none) (k : Nat) : resN g os gs rs k = firstN g cs k := by
 unfold resN minN
 rw [h1.fst k]
 unfold jn
 rcases two_cases hb hc s1 s2 k with ⟨x, e1, e2⟩ | ⟨e1, e2, _⟩ | ⟨e1, e2⟩
 ·rw [e1, e2]; rfl
 ·rw [e1, if_neg (by simp), if_pos ((h2 k).2 e1), e2]
 ·rw [e1, if_neg (by simp), if_neg (fun q => by rw [h2 k, e1] at q; cases q), e2]
theorem joins_there {α : Type} {g : α → Nat} {sm : α → α → Bool} {os bs cs : List α} {gs : List Nat} (hb : bs.Pairwise (fun x y => g x < g y)) (hc : cs.Pairwise (fun x y => g x < g y)) (s1 : ∀ x ∈ os, ∀ y ∈ bs, sm x y = true → x = y) (s2 : ∀ x ∈ bs, ∀ y ∈ cs, sm x y = true → x = y)
  (h2 : ∀ x, x ∈ gs ↔ twoJ g sm os bs cs x = some none) (H : ∀ x ∈ bs, (firstN g os (g x)).isSome = true ∨ (firstN g cs (g x)).isSome = true) {n : Nat} (hn : n ∈ gs) : ∃ y, firstN g os n = some y := by
 have e := (h2 n).1 hn
 rcases two_cases hb hc s1 s2 n with ⟨x, e1, _⟩ | ⟨_, e2, q⟩ | ⟨e1, _⟩
 ·rw [e1] at e; injection e with e; cases e
 ·rcases q with ⟨y, hy⟩ | q
  ·rcases H y (List.mem_of_find?_eq_some hy) with r | r
   ·rw [first_id hy] at r
    exact Option.isSome_iff_exists.1 r
   ·rw [first_id hy, e2] at r
    cases r
  ·exact q
 ·rw [e1] at e; cases e
theorem two_mem {α : Type} {g : α → Nat} {sm : α → α → Bool} {os bs cs rs : List α} (h1 : Told g (jn (twoJ g sm os bs cs)) rs) {x : α} (hx : x ∈ rs) : x ∈ cs ∨ x ∈ bs := by
 have q := (h1.fst (g x)).symm.trans (first_self12 h1.srt hx)
 have q2 : twoJ g sm os bs cs (g x) = some (some x) := by
  unfold jn at q
  cases e : twoJ g sm os bs cs (g x) with
  | none => rw [e] at q; cases q
  | some o => rw [e] at q; rw [show o = some x from q]
 rcases (ov_mem q2).1 with r | r
 ·exact .inl (news_mem r)
 ·exact .inr (news_mem r)
theorem two_len {α : Type} {g : α → Nat} {sm : α → α → Bool} {os bs cs rs : List α} {gs : List Nat} (h1 : Told g (jn (twoJ g sm os bs cs)) rs) (h2 : gs.Pairwise (· < ·) ∧ ∀ x, x ∈ gs ↔ twoJ g sm os bs cs x = some none) :
  rs.length ≤ (cs.length + bs.length) + (bs.length + os.length) ∧ gs.length ≤ (cs.length + bs.length) + (bs.length + os.length) := by
 have n1 : (news g sm bs cs).length ≤ cs.length := news_len
 have n2 : (news g sm os bs).length ≤ bs.length := news_len
 have n3 : (gone g bs cs).length ≤ bs.length := gone_len
 have n4 : (gone g os bs).length ≤ os.length := gone_len
 constructor
 ·have q := len_sub (ss := rs.map g) (L := ((news g sm bs cs).map g ++ gone g bs cs) ++ ((news g sm os bs).map g ++ gone g os bs)) (List.pairwise_map.2 (h1.srt.imp (fun {a b} r => by omega))) (fun x hx => by
   obtain ⟨y, hy, rfl⟩ := List.mem_map.1 hx
   refine ov_key (g := g) ?_
   have q := (h1.fst (g y)).symm.trans (first_self12 h1.srt hy)
   show (twoJ g sm os bs cs (g y)).isSome = true
   unfold jn at q
   cases e : twoJ g sm os bs cs (g y) with
   | none => rw [e] at q; cases q
   | some o => rfl)
  simp only [List.length_map, List.length_append] at q
  omega
 ·have q := len_sub (ss := gs) (L := ((news g sm bs cs).map g ++ gone g bs cs) ++ ((news g sm os bs).map g ++ gone g os bs)) (h2.1.imp (fun {a b} r => by omega)) (fun x hx => by
   refine ov_key (g := g) ?_
   show (twoJ g sm os bs cs x).isSome = true
   rw [(h2.2 x).1 hx]
   rfl)
  simp only [List.length_map, List.length_append] at q
  omega
def hasL (s : T9.St) (x : Nat) : Bool := (firstN idL s.lists x).isSome
def hasK (s : T9.St) (x : Nat) : Bool := (firstN T9.Tk.id s.tasks x).isSome
theorem joinApply_c {a b c : MSt} {v : World} (ha : SM a v) (la : a.st.light) (lb : b.st.light) (lc : c.st.light) (oa : a.st.ok) (ob : b.st.ok) (oc : c.st.ok) (ra : T9.rightE a.st = 0) (rb : T9.rightE b.st = 0) (rc : T9.rightE c.st = 0)
  (HL : ∀ l ∈ b.st.lists, hasL a.st l.id = true ∨ hasL c.st l.id = true) (HK : ∀ t ∈ b.st.tasks, hasK a.st t.id = true ∨ hasK c.st t.id = true) {p q r : PDt} (hr : TPd r v)
  (p1 : p.ls = newL (T9.canon a.st) (T9.canon b.st)) (p2 : tks p.ms = newK (T9.canon a.st) (T9.canon b.st)) (p3 : p.gl = goneL (T9.canon a.st) (T9.canon b.st)) (p4 : p.gk = goneK (T9.canon a.st) (T9.canon b.st))
  (q1 : q.ls = newL (T9.canon b.st) (T9.canon c.st)) (q2 : tks q.ms = newK (T9.canon b.st) (T9.canon c.st)) (q3 : q.gl = goneL (T9.canon b.st) (T9.canon c.st)) (q4 : q.gk = goneK (T9.canon b.st) (T9.canon c.st))
  (r1 : Told idL (jn (wordL p q)) r.ls) (r2 : r.gl.Pairwise (· < ·) ∧ ∀ x, x ∈ r.gl ↔ wordL p q x = some none) (r3 : Told T9.Tk.id (jn (wordK p q)) (tks r.ms)) (r4 : r.gk.Pairwise (· < ·) ∧ ∀ x, x ∈ r.gk ↔ wordK p q x = some none) :
  Calls Tryz.prog 9 #[a.val, .agg r.cells] v fun e w' => ∃ m : MSt, e = .returned (.tuple #[m.val, .int .i64 0]) ∧ TS m w' ∧ m.st = c.st ∧ Below v.heap.size v w' := by
 have ca := T9.canon_right ra
 have cb := T9.canon_right rb
 have cc := T9.canon_right rc
 rw [ca, cb] at p1 p2 p3 p4
 rw [cb, cc] at q1 q2 q3 q4
 have WL : wordL p q = twoJ idL smL a.st.lists b.st.lists c.st.lists := by
  unfold wordL twoJ
  rw [p1, p3, q1, q3]
  rfl
 have WK : wordK p q = twoJ T9.Tk.id T9.same1 a.st.tasks b.st.tasks c.st.tasks := by
  unfold wordK twoJ
  rw [p2, p4, q2, q4]
  rfl
 rw [WL] at r1 r2
 rw [WK] at r3 r4
 have sl : ∀ {s t : T9.St}, ∀ x ∈ s.lists, ∀ y ∈ t.lists, smL x y = true → x = y := fun {s t} x _ y _ h => of_decide_eq_true h
 have sk1 : ∀ x ∈ a.st.tasks, ∀ y ∈ b.st.tasks, T9.same1 x y = true → x = y := fun x hx y hy h => same1_eq12 (oa.2 x hx) (ob.2 y hy) (canon_float12 ca hx) (canon_float12 cb hy) h
 have sk2 : ∀ x ∈ b.st.tasks, ∀ y ∈ c.st.tasks, T9.same1 x y = true → x = y := fun x hx y hy h => same1_eq12 (ob.2 x hx) (oc.2 y hy) (canon_float12 cb hx) (canon_float12 cc hy) h
 obtain ⟨len1, len2⟩ := two_len r1 r2
 obtain ⟨len3, len4⟩ := two_len r3 r4
 have ba := la.nl
 have bb := lb.nl
 have bc := lc.nl
 have ta := la.nt
 have tb := lb.nt
 have tc := lc.nt
 have mk : ∀ m ∈ r.ms, m.t ∈ c.st.tasks ∨ m.t ∈ b.st.tasks := fun m hm => two_mem r3 (List.mem_map.2 ⟨m, hm, rfl⟩)
 have T := fun (ls : List T9.Li) (ts : List T9.Tk) (h1 : Told idL (resN idL a.st.lists r.gl r.ls) ls) (h2 : Told T9.Tk.id (resN T9.Tk.id a.st.tasks r.gk (tks r.ms)) ts) => (show (⟨ls, ts⟩ : T9.St) = c.st from by
  have e1 : ls = c.st.lists := told_eq h1.srt (lists_srt12 cc) fun k => (h1.fst k).trans (joins_res (lists_srt12 cb) (lists_srt12 cc) sl sl r1 r2.2 k)
  have e2 : ts = c.st.tasks := told_eq h2.srt (tasks_srt12 cc) fun k => (h2.fst k).trans (joins_res (tasks_srt12 cb) (tasks_srt12 cc) sk1 sk2 r3 r4.2 k)
  rw [e1, e2])
 rw [tks_len] at len3
 refine (apply12_c ha la oa hr (by omega) (by omega) (by omega) (by omega) (fun m hm => by
   rcases mk m hm with z | z
   ·have := lc.few m.t z; omega
   ·have := lb.few m.t z; omega) (fun l hl => by
   rcases two_mem r1 hl with z | z
   ·exact oc.1 l z
   ·exact ob.1 l z) (fun m hm => by
   rcases mk m hm with z | z
   ·exact (oc.2 m.t z).1
   ·exact (ob.2 m.t z).1) (r2.1.imp (fun {a b} z => by omega)) (r4.1.imp (fun {a b} z => by omega)) (fun n hn => by rw [ca]; exact joins_there (lists_srt12 cb) (lists_srt12 cc) sl sl r2.2 HL hn) (fun n hn => by rw [ca]; exact joins_there (tasks_srt12 cb) (tasks_srt12 cc) sk1 sk2 r4.2 HK hn) (fun ls ts h1 h2 => by
  rw [ca] at h1 h2
  rw [T ls ts h1 h2]
  exact ⟨rc, lc.short⟩)).mono ?_
 rintro e w' ⟨m, rfl, hm, h1, h2, hb⟩
 rw [ca] at h1 h2
 exact ⟨m, rfl, hm, T m.ls (tks m.ms) h1 h2, hb⟩
end
end
end Go.Proofs.YtnhpkcphgdkdiaaGreat
