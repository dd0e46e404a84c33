import Derived.Test.YtnhpkcphgdkdiaaGreatZ39
import Derived.Test.YtnhpkcphgdkdiaaGreatZ33
import Derived.Test.YtnhpkcphgdkdiaaGreatZ16
namespace Go.Proofs.YtnhpkcphgdkdiaaGreat
set_option linter.unusedSimpArgs false
set_option maxRecDepth 100000
section
set_option linter.unusedSimpArgs false
section
open Go.RowKit Go.Lib Go.Shelf
end
end
section
open Go.RowKit Go.Lib
def MTk.fineT (m : MTk) (w : World) : Prop := Lies w 0 9 m.A (gcells m.t.tags) ∧ m.t.tags.length ≤ m.c
theorem MTk.fineT.fine {m : MTk} {w : World} (h : m.fineT w) : m.fine w := ⟨h.1.old, h.2⟩
end
section
section
open Go.RowKit Go.Lib
end
section
open Go.RowKit Go.Lib
section
variable {P : Program} {ops : Array Oper} {Q : Exit → Act → World → Prop} {md : Region.Mode} {S : World → Prop} {bad : Nat → Bool}
def AnyB (P : Program) (md : Region.Mode) (ops : Array Oper) (Q : Exit → Act → World → Prop) (S : World → Prop) (bad : Nat → Bool) : Nat → Array Bool → Act → World → Prop
 | 0, ls, a, w => Region.ready md ops ls = [] ∧ Q .normal a w
 | f + 1, ls, a, w => (Region.ready md ops ls = [] → Q .normal a w) ∧ ∀ j ∈ Region.ready md ops ls, wpOp P ops Q j (fun b u => (bad j = false → S u) ∧ AnyB P md ops Q S bad f (ls.setIfInBounds j true) b u) a w
theorem AnyB.first {i : Nat} {oi : Oper} {v : Value} (hi : ops[i]? = some oi) (hsel : Region.noSelect ops = true) (hQ : ∀ c a w, Q (.panic c) (a.put oi.dst v) w → Q (.panic c) a w)
  (hw : ∀ j os, bad j = true → ops[j]? = some os → ∃ e ∈ os.after, Region.binds md e = true ∧ e.on = i) (f : Nat) (ls : Array Bool) (a : Act) (w : World)
  (hfree : ∀ j oj, ops[j]? = some oj → j ≠ i → ls.getD j true = false → (∀ e ∈ oj.after, Region.binds md e = true → e.on ≠ i) → oi.apart ops oj = true)
  (hr : i ∈ Region.ready md ops ls) (hy : YieldsIf P ops S oi v a) (hS : S w) (H : AnyB P md ops Q S bad f (ls.setIfInBounds i true) (a.put oi.dst v) w) : AnyB P md ops Q S bad (f + 1) ls a w := by
 have selects := Region.noSelect_spec hsel
 induction f generalizing ls a w with
 | zero =>
  refine ⟨fun e => absurd hr (by rw [e]; simp), fun j hj => ?_⟩
  rcases Nat.decEq j i with q | q
  ·exact absurd (ready_mono hj q) (by rw [H.1]; simp)
  ·subst q
   exact hy.wpOp hi hS ⟨fun _ => hS, H⟩
 | succ f ih =>
  refine ⟨fun e => absurd hr (by rw [e]; simp), fun j hj => ?_⟩
  rcases Nat.decEq j i with q | q
  ·obtain ⟨un, oj, hoj, _⟩ := mem_ready.1 hj
   have now : bad j = false := by
    cases hb : bad j with
    | false => rfl
    | true =>
     obtain ⟨e, he, hb, hon⟩ := hw j oj hb hoj
     exact absurd hon (waits hr hj hoj e he hb)
   have stays : ∀ k ok, ops[k]? = some ok → k ≠ i → (ls.setIfInBounds j true).getD k true = false → (∀ e ∈ ok.after, Region.binds md e = true → e.on ≠ i) → oi.apart ops ok = true := by
    intro k ok hk hki hun hno
    refine hfree k ok hk hki ?_ hno
    rcases Nat.decEq j k with r | r
    ·rwa [getD_set_ne true r] at hun
    ·rw [← r]; exact un
   have next := wpOp_putIf hoj (hfree j oj hoj q un (waits hr hj hoj)) (fun cs b => selects i oi cs b hi) (fun cs b => selects j oj cs b hoj) hQ hy (H.2 j (ready_mono hj q))
   refine wpOp_mono (fun b u g => ⟨g.2.1, ih _ b u stays (ready_mono hr (Ne.symm q)) g.1 (g.2.1 now) ?_⟩) next
   rw [Array.setIfInBounds_comm _ _ q]
   exact g.2.2
  ·subst q
   exact hy.wpOp hi hS ⟨fun _ => hS, H⟩
theorem AnyB.take {i : Nat} {oi : Oper} {v : Value} {f : Nat} {ls : Array Bool} {a : Act} {w : World} (hi : ops[i]? = some oi) (hsel : Region.noSelect ops = true) (hf : Region.free md ops ls i = true) (hr : (Region.ready md ops ls).contains i = true)
  (hb : ∀ j, bad j = true → j < ops.size → j ∈ List.range ops.size) (hw : ((List.range ops.size).all fun j => !bad j || (match ops[j]? with | some o => o.after.any fun e => Region.binds md e && e.on == i | none => true)) = true) (hQ : ∀ c a w, Q (.panic c) (a.put oi.dst v) w → Q (.panic c) a w) (hy : YieldsIf P ops S oi v a) (hS : S w)
  (H : AnyB P md ops Q S bad f (ls.setIfInBounds i true) (a.put oi.dst v) w) : AnyB P md ops Q S bad (f + 1) ls a w := by
 refine AnyB.first hi hsel hQ (fun j os hj ho => ?_) f ls a w (Region.free_spec hi hf) (by simpa using hr) hy hS H
 have hlt : j < ops.size := by
  rcases Nat.lt_or_ge j ops.size with q | q
  ·exact q
  ·rw [Array.getElem?_eq_none q] at ho; cases ho
 have q := List.all_eq_true.1 hw j (hb j hj hlt)
 rw [hj, ho] at q
 simp only [Bool.not_true, Bool.false_or] at q
 obtain ⟨e, he, hb⟩ := Array.any_eq_true'.1 q
 simp only [Bool.and_eq_true, beq_iff_eq] at hb
 exact ⟨e, he, hb.1, hb.2⟩
theorem AnyB.one {i : Nat} {oi : Oper} {f : Nat} {ls : Array Bool} {a : Act} {w : World} (hr : Region.ready md ops ls = [i]) (hi : ops[i]? = some oi)
  (h : ∀ K : Act → World → Prop, (∀ b u, (bad i = false → S u) → AnyB P md ops Q S bad f (ls.setIfInBounds i true) b u → K b u) → if Region.wanted oi (yielded ops a.tmps) = true then Oper.wp P oi a w K Q else K (a.put oi.dst undef) w) : AnyB P md ops Q S bad (f + 1) ls a w := by
 refine ⟨fun e => absurd e (by rw [hr]; simp), fun j hj => ?_⟩
 rw [hr, List.mem_singleton] at hj
 subst hj
 exact wpOp_step hi (fun K hK => h K (fun b u q1 q2 => hK b u ⟨q1, q2⟩))
theorem AnyB.done {ls : Array Bool} {a : Act} {w : World} {f : Nat} (hr : Region.ready md ops ls = []) (h : Q .normal a w) : AnyB P md ops Q S bad f ls a w := by
 cases f with
 | zero => exact ⟨hr, h⟩
 | succ f => exact ⟨fun _ => h, fun j hj => by rw [hr] at hj; cases hj⟩
end
end
end
section
set_option linter.unusedSimpArgs false
section
open Go.RowKit Go.Lib Go.Shelf
structure Bt (g : Nat) (v u : World) : Prop where
 os : u.os = v.os
 tape : u.tape = v.tape
 output : u.output = v.output
 size : v.heap.size ≤ u.heap.size
 block : ∀ k, k < v.heap.size → k ≠ g → u.heap[k]? = v.heap[k]?
section
variable {g : Nat} {v u u' : World}
theorem Bt.refl (g : Nat) (v : World) : Bt g v v := ⟨rfl, rfl, rfl, Nat.le_refl _, fun _ _ _ => rfl⟩
theorem Bt.stay (h : Bt g v u) (hb : Below u.heap.size u u') : Bt g v u' := ⟨hb.os.trans h.os, hb.tape.trans h.tape, hb.output.trans h.output, Nat.le_trans h.size hb.size, fun k hk hn => (hb.block k (Nat.lt_of_lt_of_le hk h.size)).trans (h.block k hk hn)⟩
theorem Bt.grown (h : Bt g v u) {row : Option Nat} (hg : u.grownBy u' row) (hr : ∀ k, row = some k → v.heap.size ≤ k) : Bt g v u' :=
 ⟨hg.os.trans h.os, hg.tape.trans h.tape, hg.output.trans h.output, Nat.le_trans h.size hg.size, fun k hk hn => (hg.block k (Nat.lt_of_lt_of_le hk h.size) (fun e => by have := hr k e.symm; omega)).trans (h.block k hk hn)⟩
theorem Bt.blk (h : Bt g v u) {k : Nat} {o : Obj} (hb : v.heap[k]? = some o) (hn : k ≠ g) : u.heap[k]? = some o := (h.block k (lt_of_block hb) hn).trans hb
theorem Bt.below (h : Bt g v u) {B : Nat} (h1 : B ≤ g) (h2 : B ≤ v.heap.size) : Below B v u := ⟨h.os, h.tape, h.output, h.size, fun k hk => h.block k (by omega) (by omega)⟩
theorem Bt.lies (h : Bt g v u) {cs : Array Value} {fr : Nat × Nat} (hg : v.heap[g]? = some (.cells cs 45 fr)) {t : TypeId} {A : Option Addr} {xs : List Value} (hl : Lies v 0 t A xs) (ht : t ≠ 45) : Lies u 0 t A xs :=
 hl.keep fun b hb => hb.elim (fun q => absurd q (Nat.not_lt_zero _)) (fun ⟨cs2, fr2, r⟩ => h.block b (lt_of_block r) (fun e => by
  subst e
  rw [hg] at r
  injection r with r
  injection r with _ r _
  exact ht r.symm))
theorem Bt.ts (h : Bt g v u) {cs : Array Value} {fr : Nat × Nat} (hg : v.heap[g]? = some (.cells cs 45 fr)) {s : MSt} (hs : TS s v) : TS s u :=
 ⟨h.lies hg hs.l (by decide), h.lies hg hs.k (by decide), fun q hq => ⟨h.lies hg (hs.t q hq).1 (by decide), (hs.t q hq).2⟩, hs.lc, hs.kc⟩
end
structure DI (w : World) (g : Nat) (sa sb : MSt) (cs : Array Value) (v : World) : Prop where
 ga : v.heap[w.heap.size]? = some (.cells #[.slice sa.A sa.ls.length sa.c, .slice sa.A2 sa.ms.length sa.c2] 25 (0, 0))
 gb : v.heap[w.heap.size + 1]? = some (.cells #[.slice sb.A sb.ls.length sb.c, .slice sb.A2 sb.ms.length sb.c2] 25 (0, 0))
 pc : v.heap[w.heap.size + 2]? = some (.cells #[.slice none 0 0, .slice none 0 0, .slice none 0 0, .slice none 0 0] 45 (0, 0))
 pe : v.heap[g]? = some (.cells cs 45 (0, 0))
 ta : TS sa v
 tb : TS sb v
 bw : Below w.heap.size w v
 zg : w.heap.size + 2 < g
theorem DI.next {w : World} {g : Nat} {sa sb : MSt} {cs cs' : Array Value} {v u : World} (h : DI w g sa sb cs v) (hb : Bt g v u) (hp : u.heap[g]? = some (.cells cs' 45 (0, 0))) : DI w g sa sb cs' u :=
 ⟨hb.blk h.ga (by have := h.zg; omega), hb.blk h.gb (by have := h.zg; omega), hb.blk h.pc (by have := h.zg; omega), hp, hb.ts h.pe h.ta, hb.ts h.pe h.tb, h.bw.trans (hb.below (by have := h.zg; omega) h.bw.size), h.zg⟩
end
end
section
set_option linter.unusedSimpArgs false
section
open Go.RowKit Go.Lib Go.Shelf
theorem news_len {α : Type} {g : α → Nat} {sm : α → α → Bool} {os ns : List α} : (news g sm os ns).length ≤ ns.length := List.length_filter_le _ _
theorem gone_len {α : Type} {g : α → Nat} {os ns : List α} : (gone g os ns).length ≤ os.length := by
 unfold gone
 rw [List.length_map]
 exact List.length_filter_le _ _
end
end
end Go.Proofs.YtnhpkcphgdkdiaaGreat
