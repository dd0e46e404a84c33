/- Stage 7: the law WalKeeps, the walk. -/
import Derived.Test.YtbfkjneidabijaaGreatVn
namespace Go.Proofs.YtbfkjneidabijaaGreat
open Go.RowKit
set_option maxRecDepth 100000

theorem Wl.Good.reach {d d' : Dk.D} {g h : Nat} {l : List (List UInt8)} (t : Wl.Good d g h l) (hs : d'.s = d.s) : Wl.Good d' g h l :=
  ⟨by rw [hs]; exact t.two, by rw [hs]; exact t.len, t.small, by have := t.fits; unfold Wl.ring at this ⊢; rwa [hs], by have := t.at_; unfold Wl.ring at this ⊢; rwa [hs]⟩
theorem Wl.Idle.arm {d : Dk.D} (i : Wl.Idle d) (n : Int) : Wl.Idle (Dk.arm d n) := ⟨Dk.arm_ok i.ok n, i.dead, i.cache, i.bad⟩
theorem Wl.needs_few : ∀ {l : List (List UInt8)}, (∀ b ∈ l, b.length ≤ 400) → Wl.needs l ≤ 7 * l.length := by
  intro l
  induction l with
  | nil => intro _; exact Nat.le_refl _
  | cons b l ih =>
    intro h
    have h1 := ih (fun x hx => h x (by simp [hx]))
    have h2 : Wl.need b ≤ 7 := by
      have := h b (by simp)
      unfold Wl.need
      rw [if_neg (by omega)]
      omega
    have h3 : Wl.needs (b :: l) = Wl.need b + Wl.needs l := by simp [Wl.needs]
    rw [h3, List.length_cons]
    omega
/-- What a change leaves to a crash: the records from before, or those it asked for. -/
theorem Ends.after {g h h' n : Nat} {l l' : List (List UInt8)} {d d' : Dk.D} {e : Int} {x : Wl.W} (hE : Wl.Ends g h l h' l' d n e x d') (ks : List Bool) :
    ∃ g2 h2 l2, Wl.Good (Dk.crash d' ks) g2 h2 l2 ∧ Wl.Idle (Dk.crash d' ks) ∧ ((l2 = l ∧ e ≠ 0) ∨ l2 = l') ∧ (Dk.crash d' ks).s.length = d.s.length := by
  obtain ⟨e1, e2, e3, _, _, _, e7⟩ := hE
  have i := Wl.crash_idle e1 e3 ks
  have len : (Dk.crash d' ks).s.length = d.s.length := by
    rw [← e2]
    show (Dk.keepSome d'.s d'.cache ks).length = _
    rw [Dk.keepSome_len]
  rcases e7 ks with ⟨q, hn⟩ | q
  · exact ⟨g, h, l, q, i, .inl ⟨rfl, hn⟩, len⟩
  · exact ⟨g + 1, h', l', q, i, .inr rfl, len⟩
theorem vchg_err {s : VS} {d : Dk.D} {gone : Nat} {m : List (List UInt8)} (ho : s.over = false) (hr : Wl.roomE (Wl.ring d - Wl.needs s.l) m = 0) (h3 : 3 ≤ d.s.length) : (vchg s d gone m).1 = 0 ∨ (vchg s d gone m).1 = 50 := by
  obtain ⟨e, D, hw⟩ : ∃ e D, Wl.wrs (Wl.ring d) (s.h + Wl.needs s.l) (Wl.chunks m) d = (e, D) := ⟨_, _, rfl⟩
  have er := wrs_err (r := Wl.ring d) (Wl.chunks m) (d := d) (s.h + Wl.needs s.l) rfl h3 (Wl.chunks_small m)
  have sz := wrs_size (r := Wl.ring d) (Wl.chunks m) (d := d) (s.h + Wl.needs s.l)
  rw [hw] at er sz
  by_cases he : e = 0
  · subst he
    obtain ⟨e2, s2, D2, hv⟩ : ∃ e2 s2 D2, vsave s D (s.h + Wl.needs (s.l.take gone)) (s.l.drop gone ++ m) = (e2, s2, D2) := ⟨_, _, _, rfl⟩
    rw [vchg_save ho hr hw hv]
    have e := save_err (d := D) (g := s.g + 1) (l := [s.h + Wl.needs (s.l.take gone), s.h + Wl.needs (s.l.take gone) + Wl.needs (s.l.drop gone ++ m)]) (by dsimp only at sz; omega) (by simp)
    unfold vsave at hv
    split at hv
    · injection hv with hv _
      exact .inl hv.symm
    · injection hv with hv _
      rw [← hv]
      exact e
  · rw [vchg_bad ho hr hw he]
    exact er
theorem tcells_app (a b : List MTx) : tcells (a ++ b) = tcells a ++ tcells b := by simp [tcells]
theorem CWStep.row {w w' : World} {B base : Nat} {E G E2 G2 : Nat → Prop} {pw q : Nat} {s : VS} {d : Dk.D} {e : TypeId} {size n : Nat} {v : Value} {xs : List Value} (hs : CWStep w w' B E G E2 G2 pw q s d) (ho : w.ownsRow base e size v n xs) (hoff : ∀ k, v.ownBlock = some k → ¬ E k ∧ ¬ G k) :
    w'.ownsRow base e size v n xs ∧ ∀ k, v.ownBlock = some k → ¬ E2 k ∧ ¬ G2 k :=
  ⟨own_keep ho (fun k e => hs.but.block k (ho.lt k e).2 (fun z => z.elim (hoff k e).1 (hoff k e).2)), fun k e => ⟨fun g => (hoff k e).1 (hs.ne k (ho.lt k e).2 g), fun g => (hoff k e).2 (hs.ng k (ho.lt k e).2 g)⟩⟩
theorem few_needs {l : List MTx} (h : l.length ≤ 6 ∧ ∀ x ∈ l, x.b.length ≤ 400) : Wl.needs (txs l) ≤ 42 ∧ ∀ b ∈ txs l, b.length ≤ 60000 := by
  have q : ∀ b ∈ txs l, b.length ≤ 400 := fun b hb => by
    obtain ⟨x, hx, rfl⟩ := List.mem_map.1 hb
    exact h.2 x hx
  have n := Wl.needs_few q
  rw [txs_len] at n
  exact ⟨by omega, fun b hb => by have := q b hb; omega⟩

end Go.Proofs.YtbfkjneidabijaaGreat
