/- Contract of the document's own Wal: put. Wals of plain values: the records lie one behind the other, from the head to the tail, within the ring. Nothing of the program. Disks under a wal: what a change leaves of their bounds. Nothing of the program. Contract of the document's own Wal: Records. -/
import Derived.Test.YtpnfpeeijghamaaGreatWm
import Derived.Deep.DeepCutAuto
namespace Go.Proofs.YtpnfpeeijghamaaGreat
open Go.RowKit
set_option maxRecDepth 100000

/-- Texts that the caller handed in: none of the disk's blocks. -/
structure Txs (w : World) (F : Nat → Prop) (A : Option Addr) (ms : List MTx) : Prop where
  l : Lies w w.heap.size 23 A (tcells ms)
  lF : tcells ms ≠ [] → InF (fun k => ¬ F k ∧ k < w.heap.size) A
  t : ∀ m ∈ ms, m.fine w w.heap.size 5 ∧ (bcells m.b ≠ [] → InF (fun k => ¬ F k ∧ k < w.heap.size) m.A) ∧ m.b.length ≤ 1000000
theorem Txs.text {w wr : World} {F : Nat → Prop} {A : Option Addr} {ms : List MTx} (h : Txs w F A ms) (hb : But F w.heap.size w wr) {m : MTx} (hm : m ∈ ms) : Lies wr w.heap.size 5 m.A (bcells m.b) := (h.t m hm).1.1.but (h.t m hm).2.1 hb
theorem Txs.at {w wr : World} {F : Nat → Prop} {A : Option Addr} {ms : List MTx} (h : Txs w F A ms) (hb : But F w.heap.size w wr) {k : Nat} {m : MTx} (hm : ms[k]? = some m) : ∃ ad, A = some ad ∧ wr.cell? (ad.add k) = some m.cell := by
  have hk : k < ms.length := (List.getElem?_eq_some_iff.1 hm).1
  obtain ⟨ad, e, hc⟩ := (h.l.but h.lF hb).at_ (k := k) (by rw [tcells_len]; exact hk)
  refine ⟨ad, e, hc.trans ?_⟩
  congr 1
  have : (tcells ms)[k]? = some m.cell := by simp [tcells, hm]
  rw [List.getElem?_eq_getElem (by rw [tcells_len]; exact hk)] at this
  injection this

theorem drop_next {α : Type} {l : List α} {k : Nat} {b : α} (h : l[k]? = some b) : l.drop k = b :: l.drop (k + 1) := by
  obtain ⟨h1, h2⟩ := List.getElem?_eq_some_iff.1 h
  rw [List.drop_eq_getElem_cons h1, h2]
theorem need_cut {b : List UInt8} (h : b.length ≤ 60000) : Wl.need b = (Wl.cut (Fr.frame b)).length := by
  unfold Wl.need
  rw [if_neg (by omega), Wl.cut_len, Fr.frame_len]
  omega
theorem recsAt_snoc (p : Nat) (l : List (List UInt8)) (b : List UInt8) : Wl.recsAt p (l ++ [b]) = Wl.recsAt p l ++ [⟨b, p + Wl.needs l, p + Wl.needs l + Wl.need b⟩] := by
  induction l generalizing p with
  | nil => simp [Wl.recsAt, Wl.needs]
  | cons c l ih =>
    rw [List.cons_append, Wl.recsAt, ih, Wl.recsAt, List.cons_append, show Wl.needs (c :: l) = Wl.need c + Wl.needs l by simp [Wl.needs]]
    simp [Nat.add_assoc]
theorem need_small (b : List UInt8) : Wl.need b ≤ 938 := by unfold Wl.need; split <;> omega
theorem needs_take (l : List (List UInt8)) {k : Nat} {b : List UInt8} (h : l[k]? = some b) : Wl.needs (l.take (k + 1)) = Wl.needs (l.take k) + Wl.need b := by
  rw [take_next h, Wl.needs_app]
  simp [Wl.needs]
theorem needs_small (l : List (List UInt8)) : Wl.needs l ≤ 938 * l.length := by
  induction l with
  | nil => exact Nat.le_refl _
  | cons b l ih =>
    have := need_small b
    show ((b :: l).map Wl.need).sum ≤ _
    rw [List.map_cons, List.sum_cons, List.length_cons]
    have : (l.map Wl.need).sum ≤ 938 * l.length := ih
    omega
theorem need_zero {b : List UInt8} : Wl.need b = 0 ↔ 60000 < b.length := by
  unfold Wl.need
  split
  · simp_all
  · rename_i h
    constructor
    · intro q; omega
    · intro q; exact absurd q h

/-- Disks on which writes of one row of pieces have begun. -/
structure PD (D : Dk.D) (L m : Nat) : Prop where
  ok : D.ok
  left : D.left ≤ 9223372036854775807
  few : D.cache.length ≤ 1000000 + m
  len : D.s.length = L
theorem PD.write {D D' : Dk.D} {L m : Nat} {i e : Int} {b : List UInt8} (h : PD D L m) (hw : Dk.write D i b = (e, D')) : PD D' L (m + 1) := by
  have q1 := Dk.write_ok h.ok i b
  have q2 := Dk.write_left h.left i b
  have q3 := Dk.write_few h.few i b
  have q4 : (Dk.write D i b).2.s.length = D.s.length := by
    unfold Dk.write
    split
    · rfl
    split
    · rfl
    split
    · rfl
    split
    · show (Dk.act D).2.s.length = _
      unfold Dk.act
      split
      · rfl
      · dsimp only
        split <;> rfl
    · unfold Dk.act
      split
      · rfl
      · dsimp only
        split <;> rfl
  rw [hw] at q1 q2 q3 q4
  exact ⟨q1, q2, q3, q4.trans h.len⟩

namespace Wl
/-- What every wal keeps that was opened well, whatever is done with it. -/
structure Tidy (w : W) (r h : Nat) (l : List (List UInt8)) : Prop where
  recs : w.recs = recsAt h l
  tail : w.tail = h + needs l
  fits : needs l ≤ r
theorem Tidy.head {w : W} {r h : Nat} {l : List (List UInt8)} (t : Tidy w r h l) : headOf w.recs w.tail = h := by rw [t.recs, t.tail, headOf_at]
theorem Tidy.le {w : W} {r h : Nat} {l : List (List UInt8)} (t : Tidy w r h l) : headOf w.recs w.tail ≤ w.tail := by rw [t.head, t.tail]; omega
theorem Tidy.room {w : W} {r h : Nat} {l : List (List UInt8)} (t : Tidy w r h l) : w.tail - headOf w.recs w.tail ≤ r := by rw [t.head, t.tail]; have := t.fits; omega
theorem Tidy.over {w : W} {r h : Nat} {l : List (List UInt8)} (t : Tidy w r h l) : Tidy { w with over := true } r h l := ⟨t.recs, t.tail, t.fits⟩
theorem turn_tidy {w : W} {r h h' : Nat} {l l' : List (List UInt8)} (t : Tidy w r h l) (d : Dk.D) {x : List Rec} {p : Nat} (hx : x = recsAt h' l') (hp : p = h' + needs l') (hr : needs l' ≤ r) :
    Tidy (turn w d x p).2.1 r h l ∨ Tidy (turn w d x p).2.1 r h' l' := by
  unfold turn
  split
  · exact .inr ⟨hx, hp, hr⟩
  · exact .inl t.over
theorem put_tidy {w : W} {d : Dk.D} {h : Nat} {l : List (List UInt8)} (t : Tidy w (ring d) h l) (m : List (List UInt8)) (s : Bool) : ∃ h' l', Tidy (put w d m s).2.1 (ring d) h' l' := by
  unfold put
  split
  · exact ⟨h, l, t⟩
  split
  · exact ⟨h, l, t⟩
  split
  · exact ⟨h, l, t⟩
  rename_i _ _ hf
  have fr : needs m ≤ ring d - needs l := by
    unfold free at hf
    rw [t.head, t.tail] at hf
    omega
  have ft := t.fits
  split
  · cases s
    · exact (turn_tidy t _ (h' := h) (l' := l ++ m) (by rw [t.recs, t.tail, recsAt_app]; rfl) (by rw [t.tail, needs_app, Nat.add_assoc]) (by rw [needs_app]; omega)).elim (fun q => ⟨_, _, q⟩) (fun q => ⟨_, _, q⟩)
    · exact (turn_tidy t _ (h' := w.tail) (l' := m) (by simp) rfl (by omega)).elim (fun q => ⟨_, _, q⟩) (fun q => ⟨_, _, q⟩)
  · exact ⟨h, l, t.over⟩
theorem needs_drop (l : List (List UInt8)) (n : Nat) : needs (l.take n) + needs (l.drop n) = needs l := by rw [← needs_app, List.take_append_drop]
theorem drop_tidy {w : W} {r : Nat} {d : Dk.D} {h : Nat} {l : List (List UInt8)} (t : Tidy w r h l) (n : Int) : ∃ h' l', Tidy (drop w d n).2.1 r h' l' := by
  unfold drop
  split
  · exact ⟨h, l, t⟩
  split
  · exact ⟨h, l, t⟩
  have q := needs_drop l n.toNat
  have ft := t.fits
  exact (turn_tidy t d (h' := h + needs (l.take n.toNat)) (l' := l.drop n.toNat) (by rw [t.recs, recsAt_drop]) (by rw [t.tail]; omega) (by omega)).elim (fun q => ⟨_, _, q⟩) (fun q => ⟨_, _, q⟩)
theorem Good.tidy {d : Dk.D} {g h : Nat} {l : List (List UInt8)} (t : Good d g h l) : Tidy ⟨g, h + needs l, recsAt h l, false⟩ (ring d) h l := ⟨rfl, rfl, t.fits⟩
end Wl

theorem PD.up {D : Dk.D} {L m m' : Nat} (h : PD D L m) (hm : m ≤ m') : PD D L m' := ⟨h.ok, h.left, by have := h.few; omega, h.len⟩
theorem PD.flush {D : Dk.D} {L m : Nat} (h : PD D L m) : PD (Dk.flush D).2 L m := by
  refine ⟨Dk.flush_ok h.ok, Dk.flush_left h.left, Dk.flush_few h.few, ?_⟩
  have a : (Dk.act D).2.s.length = D.s.length := by
    unfold Dk.act
    split
    · rfl
    · dsimp only
      split <;> rfl
  unfold Dk.flush
  split
  · show (Dk.keepAll D.s D.cache).length = L
    rw [Dk.keepAll_len]
    exact h.len
  · exact a.trans h.len
theorem PD.then {D : Dk.D} {L m : Nat} (h : PD D L m) (i : Int) (b : List UInt8) : PD (Dk.write D i b).2 L (m + 1) := h.write rfl
theorem PD.save {D : Dk.D} {L m : Nat} (h : PD D L m) (g : Nat) (l : List Nat) : PD (Su.save D g l).2 L (m + 1) := by
  unfold Su.save
  split
  · exact h.up (by omega)
  split
  · split
    · exact (h.flush.then _ _).flush
    · exact h.flush.then _ _
  · exact h.flush.up (by omega)
theorem PD.format {D : Dk.D} {L m : Nat} (h : PD D L m) (l : List Nat) : PD (Su.format D l).2 L (m + 3) := by
  unfold Su.format
  split
  · split
    · exact ((h.then _ _).then _ _).save _ _
    · exact ((h.then _ _).then _ _).up (by omega)
  · exact (h.then _ _).up (by omega)
theorem PD.wrs {r : Nat} (cs : List (List UInt8)) : ∀ {D : Dk.D} {L m : Nat} (p : Nat), PD D L m → PD (Wl.wrs r p cs D).2 L (m + cs.length) := by
  induction cs with
  | nil => intro D L m p h; exact h
  | cons c cs ih =>
    intro D L m p h
    unfold Wl.wrs
    split
    · have q := ih (p + 1) (h.then ((2 + p % r : Nat) : Int) c)
      rw [show m + 1 + cs.length = m + (c :: cs).length by simp; omega] at q
      exact q
    · exact (h.then _ _).up (by simp)
theorem PD.turn {D : Dk.D} {L m : Nat} (h : PD D L m) (w : Wl.W) (x : List Wl.Rec) (t : Nat) : PD (Wl.turn w D x t).2.2 L (m + 1) := by
  unfold Wl.turn
  split
  · exact h.save _ _
  · exact h.save _ _
theorem PD.put {D : Dk.D} {L m : Nat} (h : PD D L m) (w : Wl.W) (l : List (List UInt8)) (s : Bool) (hl : ∀ b ∈ l, b.length ≤ 60000) : PD (Wl.put w D l s).2.2 L (m + Wl.needs l + 1) := by
  have c := PD.wrs (r := Wl.ring D) (Wl.chunks l) w.tail h
  rw [Wl.chunks_len hl] at c
  unfold Wl.put
  split
  · exact h.up (by omega)
  split
  · exact h.up (by omega)
  split
  · exact h.up (by omega)
  split
  · exact c.turn _ _ _
  · exact c.up (by omega)
theorem PD.drop {D : Dk.D} {L m : Nat} (h : PD D L m) (w : Wl.W) (n : Int) : PD (Wl.drop w D n).2.2 L (m + 1) := by
  unfold Wl.drop
  split
  · exact h.up (by omega)
  split
  · exact h.up (by omega)
  exact h.turn _ _ _
namespace Wl
/-- How far a change moves a wal's numbers. -/
theorem turn_far (w : W) (d : Dk.D) (x : List Rec) (t : Nat) : (turn w d x t).2.1.gen ≤ w.gen + 1 ∧ ((turn w d x t).2.1.tail = t ∨ (turn w d x t).2.1.tail = w.tail) := by
  unfold turn
  split
  · exact ⟨Nat.le_refl _, .inl rfl⟩
  · exact ⟨Nat.le_succ _, .inr rfl⟩
theorem put_far (w : W) (d : Dk.D) (l : List (List UInt8)) (s : Bool) : (put w d l s).2.1.gen ≤ w.gen + 1 ∧ (put w d l s).2.1.tail ≤ w.tail + needs l := by
  unfold put
  split
  · exact ⟨Nat.le_succ _, Nat.le_add_right _ _⟩
  split
  · exact ⟨Nat.le_succ _, Nat.le_add_right _ _⟩
  split
  · exact ⟨Nat.le_succ _, Nat.le_add_right _ _⟩
  split
  · obtain ⟨h1, h2⟩ := turn_far w (wrs (ring d) w.tail (chunks l) d).2 ((if s = true then [] else w.recs) ++ recsAt w.tail l) (w.tail + needs l)
    exact ⟨h1, by rcases h2 with h2 | h2 <;> omega⟩
  · exact ⟨Nat.le_succ _, Nat.le_add_right _ _⟩
theorem drop_far (w : W) (d : Dk.D) (n : Int) : (drop w d n).2.1.gen ≤ w.gen + 1 ∧ (drop w d n).2.1.tail ≤ w.tail := by
  unfold drop
  split
  · exact ⟨Nat.le_succ _, Nat.le_refl _⟩
  split
  · exact ⟨Nat.le_succ _, Nat.le_refl _⟩
  obtain ⟨h1, h2⟩ := turn_far w d (w.recs.drop n.toNat) w.tail
  exact ⟨h1, by rcases h2 with h2 | h2 <;> omega⟩
end Wl

open Go.RowKit


/-- What Records hands back: a list of its own; its texts are the wal's. -/
def RecsOk (E : Nat → Prop) (l : List (List UInt8)) (w : World) (e : Ending) (w' : World) : Prop :=
  ∃ (A : Option Addr) (n c : Nat) (ms : List MTx), e = .returned (.slice A n c) ∧ n = ms.length ∧ txs ms = l ∧ w'.ownsRow w.heap.size 23 1 (.slice A n c) n (tcells ms) ∧ Below w.heap.size w w' ∧ ∀ m ∈ ms, m.fine w 0 5 ∧ InF E m.A ∧ m.b.length ≤ 60000

theorem xr_at {w : World} {B : Nat} {t : TypeId} {A : Option Addr} {l : List MRc} (h : Lies w B t A (xcells l)) {k : Nat} {x : MRc} (hx : l[k]? = some x) : ∃ ad, A = some ad ∧
    w.cell? (ad.add (k * 3)) = some x.m.cell ∧ w.cell? ⟨(ad.add (k * 3)).block, (ad.add (k * 3)).off + 1, none⟩ = some (.int .u64 (x.fr : Int)) ∧ w.cell? ⟨(ad.add (k * 3)).block, (ad.add (k * 3)).off + 2, none⟩ = some (.int .u64 (x.to : Int)) := by
  have hk : k < l.length := (List.getElem?_eq_some_iff.1 hx).1
  obtain ⟨ad, e, _, hc⟩ := h (fun q => by
    have := xcells_len l
    rw [q] at this
    simp at this
    omega)
  have c : ∀ j u, j < 3 → x.cells[j]? = some u → w.cell? ((ad.add (k * 3)).add j) = some u := fun j u hj hu => by
    rw [addr_add]
    refine hc _ _ ?_
    have q : ((xcells l).drop (k * 3))[j]? = (xcells l)[k * 3 + j]? := List.getElem?_drop
    rw [← q, xcells_drop, drop_next hx, show xcells (x :: l.drop (k + 1)) = x.cells ++ xcells (l.drop (k + 1)) from rfl, List.getElem?_append_left (by rw [xcells_three]; exact hj)]
    exact hu
  exact ⟨ad, e, c 0 _ (by omega) rfl, c 1 _ (by omega) rfl, c 2 _ (by omega) rfl⟩

end Go.Proofs.YtpnfpeeijghamaaGreat
