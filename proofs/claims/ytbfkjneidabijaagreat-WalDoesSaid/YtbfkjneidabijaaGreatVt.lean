/- Stage 7: what is known of a wal while things are done with it; lists of deeds in memory. -/
import Derived.Test.YtbfkjneidabijaaGreatVs
namespace Go.Proofs.YtbfkjneidabijaaGreat
open Go.RowKit
set_option maxRecDepth 100000

theorem VS.of_over {s : VS} {g h : Nat} {l : List (List UInt8)} (e : s.wal = { Wl.wal g h l with over := true }) : s = ⟨g, h, l, true⟩ := by
  obtain ⟨sg, sh, sl, so⟩ := s
  have e' : (⟨sg, sh + Wl.needs sl, Wl.recsAt sh sl, so⟩ : Wl.W) = ⟨g, h + Wl.needs l, Wl.recsAt h l, true⟩ := e
  injection e' with e1 e2 e3 e4
  have e5 : sl = l := by
    have z := congrArg (List.map (·.b)) e3
    rwa [Wl.recsAt_map, Wl.recsAt_map] at z
  subst e5
  have e6 : sh = h := by omega
  rw [e1, e4, e6]

/-- A crash would leave a wal's records, with few numbers used up. -/
def After (k : Nat) (d : Dk.D) : Prop := ∀ ks, ∃ g h l, Wl.Good (Dk.crash d ks) g h l ∧ g ≤ k ∧ h + Wl.needs l ≤ 42 * k
/-- What is known of a wal and its disk when k things were done. -/
structure Wn (k : Nat) (s : VS) (d : Dk.D) : Prop where
  ok : d.ok
  len : 3 ≤ d.s.length
  bad : ∀ i, d.bad.getD i false = false
  lo : -1 ≤ d.left
  hi : d.left ≤ 9223372036854775807
  few : d.cache.length ≤ 43
  gen : s.g ≤ k
  tail : s.h + Wl.needs s.l ≤ 42 * k
  fine : s.over = false → Wl.Idle d ∧ Wl.Good d s.g s.h s.l
  after : After k d
theorem After.up {k m : Nat} {d : Dk.D} (h : After k d) (hk : k ≤ m) : After m d := fun ks => by
  obtain ⟨g, h, l, a, b, c⟩ := h ks
  exact ⟨g, h, l, a, by omega, by omega⟩
theorem Wn.up {k m : Nat} {s : VS} {d : Dk.D} (h : Wn k s d) (hk : k ≤ m) : Wn m s d := ⟨h.ok, h.len, h.bad, h.lo, h.hi, h.few, by have := h.gen; omega, by have := h.tail; omega, h.fine, h.after.up hk⟩
theorem Wl.Good.crashed {d : Dk.D} {g h : Nat} {l : List (List UInt8)} (t : Wl.Good d g h l) (hc : d.cache = []) (ks : List Bool) : Wl.Good (Dk.crash d ks) g h l := by
  refine t.reach ?_
  show Dk.keepSome d.s d.cache ks = d.s
  rw [hc]
  cases ks <;> rfl
theorem Wn.fresh {k : Nat} {g h : Nat} {l : List (List UInt8)} {d : Dk.D} (i : Wl.Idle d) (hl : d.left = -1) (t : Wl.Good d g h l) (hg : g ≤ k) (ht : h + Wl.needs l ≤ 42 * k) : Wn k ⟨g, h, l, false⟩ d :=
  ⟨i.ok, t.len, i.bad, by omega, by omega, by rw [i.cache]; exact Nat.zero_le _, hg, ht, fun _ => ⟨i, t⟩, fun ks => ⟨g, h, l, t.crashed i.cache ks, hg, ht⟩⟩
theorem Wn.arm {k : Nat} {s : VS} {d : Dk.D} (h : Wn k s d) {n : Int} (hn : n ≤ 9223372036854775807) : Wn k s (Dk.arm d n) :=
  ⟨Dk.arm_ok h.ok n, h.len, h.bad, by show -1 ≤ (if 0 ≤ n then n else -1); split <;> omega, by show (if 0 ≤ n then n else -1) ≤ _; split <;> omega, h.few, h.gen, h.tail, fun ho => ⟨(h.fine ho).1.arm n, (h.fine ho).2.reach rfl⟩, fun ks => h.after ks⟩
/-- How a change ends. -/
theorem Wn.ends {k g h h' n : Nat} {l l' : List (List UInt8)} {s s' : VS} {d d' : Dk.D} {e : Int} (w : Wn k s d) (hs : s = ⟨g, h, l, false⟩) (hE : Wl.Ends g h l h' l' d n e s'.wal d') (hn : n ≤ 43) (ht : h' + Wl.needs l' ≤ 42 * (k + 1)) (hi : d'.left ≤ 9223372036854775807) : Wn (k + 1) s' d' := by
  obtain ⟨e1, e2, e3, e4, e5, e6, e7⟩ := hE
  subst hs
  have hg := w.gen
  have htl := w.tail
  dsimp only at hg htl
  refine ⟨e1, by rw [e2]; exact w.len, e3, e4, hi, by omega, ?_, ?_, ?_, fun ks => ?_⟩
  · rcases e6 with ⟨_, f, _⟩ | ⟨_, f, _⟩ | ⟨_, f, _⟩
    · rw [VS.of_wal f]; show g + 1 ≤ k + 1; omega
    · rw [VS.of_wal f]; show g ≤ k + 1; omega
    · rw [VS.of_over f]; show g ≤ k + 1; omega
  · rcases e6 with ⟨_, f, _⟩ | ⟨_, f, _⟩ | ⟨_, f, _⟩
    · rw [VS.of_wal f]; exact ht
    · rw [VS.of_wal f]; show h + Wl.needs l ≤ 42 * (k + 1); omega
    · rw [VS.of_over f]; show h + Wl.needs l ≤ 42 * (k + 1); omega
  · intro ho
    rcases e6 with ⟨_, f, i, t⟩ | ⟨_, f, rfl⟩ | ⟨_, f, _⟩
    · rw [VS.of_wal f]; exact ⟨i, t⟩
    · rw [VS.of_wal f]; exact w.fine rfl
    · rw [VS.of_over f] at ho; cases ho
  · rcases e7 ks with ⟨q, _⟩ | q
    · exact ⟨g, h, l, q, by omega, by omega⟩
    · exact ⟨g + 1, h', l', q, by omega, ht⟩
theorem Wn.chg {k : Nat} {s s' : VS} {d d' : Dk.D} {e : Int} {m : List (List UInt8)} (sw : Bool) (w : Wn k s d) (hk : k ≤ 1000) (hm : Wl.needs m ≤ 42) (hb : ∀ b ∈ m, b.length ≤ 60000) (hv : vchg s d (if sw = true then s.l.length else 0) m = (e, s', d')) : Wn (k + 1) s' d' := by
  cases ho : s.over
  · obtain ⟨i, t⟩ := w.fine ho
    have hg := w.gen
    have ht := w.tail
    obtain ⟨e2, s2, d2, hv2, hE⟩ := vchg_good (m := m) sw ho i w.lo t (by omega) (by omega)
    rw [hv] at hv2
    injection hv2 with p1 p2
    injection p2 with p2 p3
    subst p1; subst p2; subst p3
    have pd : PD d d.s.length 0 := ⟨w.ok, w.hi, by have := w.few; omega, rfl⟩
    have pd1 := pd.put s.wal m sw hb
    rw [put_same t.len, hv] at pd1
    refine w.ends (by obtain ⟨a, b, c, o⟩ := s; dsimp only at ho; rw [ho]) hE (by omega) ?_ pd1.left
    cases sw
    · show s.h + Wl.needs (s.l ++ m) ≤ _
      rw [Wl.needs_app]
      omega
    · show s.h + Wl.needs s.l + Wl.needs m ≤ _
      omega
  · rw [vchg_over ho] at hv
    injection hv with p1 p2
    injection p2 with p2 p3
    subst p2; subst p3
    exact w.up (Nat.le_succ _)
theorem Wn.cut {k : Nat} {s s' : VS} {d d' : Dk.D} {e : Int} {n : Int} (w : Wn k s d) (hk : k ≤ 1000) (hv : vcut s d n = (e, s', d')) : Wn (k + 1) s' d' := by
  cases ho : s.over
  · obtain ⟨i, t⟩ := w.fine ho
    have hg := w.gen
    have ht := w.tail
    obtain ⟨e2, s2, d2, hv2, hE⟩ := vcut_good n ho i w.lo t (by omega) (by omega)
    rw [hv] at hv2
    injection hv2 with p1 p2
    injection p2 with p2 p3
    subst p1; subst p2; subst p3
    have pd : PD d d.s.length 0 := ⟨w.ok, w.hi, by have := w.few; omega, rfl⟩
    have pd1 := pd.drop s.wal n
    rw [drop_same t.len, hv] at pd1
    refine w.ends (by obtain ⟨a, b, c, o⟩ := s; dsimp only at ho; rw [ho]) hE (by omega) ?_ pd1.left
    have nd := Wl.needs_drop s.l n.toNat
    omega
  · have : vcut s d n = (50, s, d) := by unfold vcut; rw [if_pos ho]
    rw [this] at hv
    injection hv with p1 p2
    injection p2 with p2 p3
    subst p2; subst p3
    exact w.up (Nat.le_succ _)
theorem Wn.crash {k : Nat} {s : VS} {d : Dk.D} (w : Wn k s d) (ks : List Bool) : ∃ g h l, Wn k ⟨g, h, l, false⟩ (Dk.crash d ks) ∧ Wl.openIt (Dk.crash d ks) = (0, ⟨g, h + Wl.needs l, Wl.recsAt h l, false⟩) := by
  obtain ⟨g, h, l, a, b, c⟩ := w.after ks
  have i := Wl.crash_idle w.ok w.bad ks
  exact ⟨g, h, l, Wn.fresh i rfl a b c, a.opens i.clear⟩
theorem CWS.fit {w : World} {B : Nat} {E G : Nat → Prop} {pw q : Nat} {s : VS} {d : Dk.D} (h : CWS w B E G pw q s d) : Wl.headOf s.wal.recs s.wal.tail ≤ s.wal.tail ∧ s.wal.tail - Wl.headOf s.wal.recs s.wal.tail ≤ Wl.ring d := by
  obtain ⟨AN, cN, y⟩ := h.x.cw
  have e : Wl.headOf s.wal.recs s.wal.tail = s.h := Wl.headOf_at _ _
  rw [e]
  have := y.fits
  exact ⟨by show s.h ≤ s.h + _; omega, by show s.h + Wl.needs s.l - s.h ≤ _; omega⟩

/-- A deed, and where its lists lie. -/
structure MDw where
  kind : Int
  L : List MTx
  LA : Option Addr
  Lc : Nat
  n : Int
  keep : List Bool
  KA : Option Addr
  Kc : Nat
def MDw.cells (m : MDw) : List Value := [.int .i64 m.kind, .slice m.LA m.L.length m.Lc, .int .i64 m.n, .slice m.KA m.keep.length m.Kc]
def MDw.ok (m : MDw) : Prop := (-9223372036854775808 ≤ m.kind ∧ m.kind < 9223372036854775808) ∧ (-9223372036854775808 ≤ m.n ∧ m.n < 9223372036854775808) ∧ m.L.length ≤ maxLen ∧ (∀ x ∈ m.L, x.b.length ≤ maxLen) ∧ m.keep.length ≤ maxLen
def wcells7 (l : List MDw) : List Value := l.flatMap MDw.cells
def MDw.fine (m : MDw) (w : World) (B : Nat) : Prop := TL w B 0 0 m.LA m.L ∧ Lies w B 0 m.KA (m.keep.map Value.bool) ∧ m.keep.length ≤ m.Kc
def DW (w : World) (B : Nat) (A : Option Addr) (l : List MDw) : Prop := Lies w B 0 A (wcells7 l) ∧ ∀ m ∈ l, m.fine w B
theorem wcells7_len (l : List MDw) : (wcells7 l).length = l.length * 4 := by
  induction l with
  | nil => rfl
  | cons m l ih => simp only [wcells7, List.flatMap_cons, List.length_append, List.length_cons] at ih ⊢; rw [ih]; simp [MDw.cells]; omega
theorem wcells7_at {l : List MDw} {k : Nat} {m : MDw} (h : l[k]? = some m) {j : Nat} (hj : j < 4) : (wcells7 l)[k * 4 + j]? = m.cells[j]? := by
  induction l generalizing k with
  | nil => simp at h
  | cons q l ih =>
    have hq : q.cells.length = 4 := rfl
    cases k with
    | zero =>
      simp only [List.getElem?_cons_zero, Option.some.injEq] at h
      subst h
      simp only [wcells7, List.flatMap_cons, Nat.zero_mul, Nat.zero_add]
      rw [List.getElem?_append_left (by omega)]
    | succ k =>
      simp only [List.getElem?_cons_succ] at h
      have := ih h
      simp only [wcells7, List.flatMap_cons] at this ⊢
      rw [List.getElem?_append_right (by omega), hq, show (k + 1) * 4 + j - 4 = k * 4 + j by omega]
      exact this
section
variable {w w' : World} {B : Nat} {A : Option Addr} {l : List MDw}
theorem DW.nil : DW w B A [] := ⟨Lies.nil, by simp⟩
theorem MDw.fine.below {m : MDw} (h : m.fine w B) (hB : B ≤ w.heap.size) (hT : Below w.heap.size w w') : m.fine w' B := ⟨h.1.below hB hT, h.2.1.below hB hT, h.2.2⟩
theorem DW.below (h : DW w B A l) (hB : B ≤ w.heap.size) (hT : Below w.heap.size w w') : DW w' B A l := ⟨h.1.below hB hT, fun m hm => (h.2 m hm).below hB hT⟩
theorem DW.at_ (h : DW w B A l) {k : Nat} (hk : k < l.length) : ∃ ad m, A = some ad ∧ l[k]? = some m ∧ m.fine w B ∧
    w.cell? (ad.add (k * 4)) = some (.int .i64 m.kind) ∧ w.cell? ⟨(ad.add (k * 4)).block, (ad.add (k * 4)).off + 1, none⟩ = some (.slice m.LA m.L.length m.Lc) ∧
    w.cell? ⟨(ad.add (k * 4)).block, (ad.add (k * 4)).off + 2, none⟩ = some (.int .i64 m.n) ∧
    w.cell? ⟨(ad.add (k * 4)).block, (ad.add (k * 4)).off + 3, none⟩ = some (.slice m.KA m.keep.length m.Kc) := by
  have hx : l[k]? = some l[k] := List.getElem?_eq_getElem hk
  obtain ⟨ad, e, _, hc⟩ := h.1 (fun q => by
    have := wcells7_len l
    rw [q] at this
    simp at this
    omega)
  have c : ∀ j u, j < 4 → (l[k]).cells[j]? = some u → w.cell? ((ad.add (k * 4)).add j) = some u := fun j u hj hu => by
    rw [addr_add]
    exact hc _ _ ((wcells7_at hx hj).trans hu)
  refine ⟨ad, l[k], e, hx, h.2 _ (List.getElem_mem hk), ?_, ?_, ?_, ?_⟩
  · exact c 0 _ (by omega) rfl
  · exact c 1 _ (by omega) rfl
  · exact c 2 _ (by omega) rfl
  · exact c 3 _ (by omega) rfl
end
end Go.Proofs.YtbfkjneidabijaaGreat
