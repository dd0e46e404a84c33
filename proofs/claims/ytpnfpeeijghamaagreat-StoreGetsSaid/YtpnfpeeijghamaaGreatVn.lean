/- Stage 7: few, and chapter 7's example. Stage 7: the law WalKeeps, the walk. -/
import Derived.Test.YtpnfpeeijghamaaGreatVh
import Derived.Test.YtpnfpeeijghamaaGreatSu
import Derived.Lib.SlBytesConst
import Derived.Lib.SmallJoins
namespace Go.Proofs.YtpnfpeeijghamaaGreat
set_option maxRecDepth 100000

section
open Go.RowKit

theorem CS.old_lt {w : World} {B : Nat} {G : Nat → Prop} {q : Nat} {d : Dk.D} (h : CS w B G q d) : ∀ k, G k → k < w.heap.size := fun k hk => (h.old k hk).2
/-- A row of no disk, behind a call on the disk. -/
theorem CStep.row7 {w w' : World} {B base : Nat} {G G2 : Nat → Prop} {q : Nat} {d : Dk.D} {e : TypeId} {size n : Nat} {v : Value} {xs : List Value} (hs : CStep w w' B G G2 q d) (ho : w.ownsRow base e size v n xs) (hoff : ∀ k, v.ownBlock = some k → ¬ G k) :
    w'.ownsRow base e size v n xs ∧ ∀ k, v.ownBlock = some k → ¬ G2 k :=
  ⟨own_keep ho (fun k e => hs.but.block k (ho.lt k e).2 (hoff k e)), fun k e g => hoff k e (hs.new k (ho.lt k e).2 g)⟩
theorem TL.txs {w wr : World} {G : Nat → Prop} {A : Option Addr} {ms : List MTx} {t1 t2 : TypeId} (h : TL w w.heap.size t1 t2 A ms) (hm : ∀ m ∈ ms, m.b.length ≤ 1000000) (hb : Below w.heap.size w wr) (hG : ∀ k, G k → w.heap.size ≤ k ∧ k < wr.heap.size) : Txs wr G A ms :=
  ⟨(h.1.below (Nat.le_refl _) hb).old, h.1.far hG hb.size, fun m hx => ⟨⟨((h.2 m hx).1.below (Nat.le_refl _) hb).old, (h.2 m hx).2⟩, (h.2 m hx).1.far hG hb.size, hm m hx⟩⟩
theorem Wl.Idle.live {d : Dk.D} (i : Wl.Idle d) (h : d.left = -1) : Dk.Live 0 d := ⟨i.ok, h, i.dead, by rw [i.cache]; exact Nat.le_refl _⟩
theorem vchg_fine {s : VS} {d : Dk.D} {m : List (List UInt8)} (sw : Bool) (ho : s.over = false) (i : Wl.Idle d) (hl : d.left = -1) (t : Wl.Good d s.g s.h s.l) (hr : Wl.roomE (Wl.ring d - Wl.needs s.l) m = 0) (hg : s.g + 1 < 18446744073709551616) (hn : s.h + Wl.needs s.l + Wl.needs m < 18446744073709551616) :
    ∃ d', vchg s d (if sw = true then s.l.length else 0) m = (0, ⟨s.g + 1, Wl.nextHead s.h s.l sw, Wl.nextRecs s.l m sw, false⟩, d') ∧ Wl.Idle d' ∧ d'.left = -1 ∧ Wl.Good d' (s.g + 1) (Wl.nextHead s.h s.l sw) (Wl.nextRecs s.l m sw) ∧ d'.s.length = d.s.length := by
  obtain ⟨e, s', d', hv, hE⟩ := vchg_good (m := m) sw ho i (by omega) t hg hn
  obtain ⟨z1, z2⟩ := vchg_live (gone := if sw = true then s.l.length else 0) ho hr t.len (i.live hl)
  rw [hv] at z1 z2
  dsimp only at z1 z2
  subst z1
  obtain ⟨_, e2, _, _, _, e6, _⟩ := hE
  rcases e6 with ⟨_, f2, f3, f4⟩ | ⟨f1, _⟩ | ⟨f1, _⟩
  · rw [VS.of_wal f2] at hv
    exact ⟨d', hv, f3, z2.2.1, f4, e2⟩
  · omega
  · omega
theorem vcut_fine {s : VS} {d : Dk.D} {n : Nat} (ho : s.over = false) (i : Wl.Idle d) (hl : d.left = -1) (t : Wl.Good d s.g s.h s.l) (hk : n ≤ s.l.length) (hg : s.g + 1 < 18446744073709551616) (hn : s.h + Wl.needs s.l < 18446744073709551616) :
    ∃ d', vcut s d (n : Int) = (0, ⟨s.g + 1, s.h + Wl.needs (s.l.take n), s.l.drop n, false⟩, d') ∧ Wl.Idle d' ∧ d'.left = -1 ∧ Wl.Good d' (s.g + 1) (s.h + Wl.needs (s.l.take n)) (s.l.drop n) ∧ d'.s.length = d.s.length := by
  obtain ⟨e, s', d', hv, hE⟩ := vcut_good (n : Int) ho i (by omega) t hg hn
  have hr : Wl.roomE (Wl.ring d - Wl.needs s.l) [] = 0 := Wl.roomE_ok (by simp) (by simp [Wl.needs])
  obtain ⟨z1, z2⟩ := vchg_live (gone := n) ho hr t.len (i.live hl)
  have vc : vcut s d (n : Int) = vchg s d n [] := by unfold vcut; rw [if_neg (by rw [ho]; simp), if_neg (by omega)]; rfl
  rw [← vc, hv] at z1 z2
  rw [Int.toNat_natCast] at hE
  dsimp only at z1 z2
  subst z1
  obtain ⟨_, e2, _, _, _, e6, _⟩ := hE
  rcases e6 with ⟨_, f2, f3, f4⟩ | ⟨f1, _⟩ | ⟨f1, _⟩
  · rw [VS.of_wal f2] at hv
    exact ⟨d', hv, f3, z2.2.1, f4, e2⟩
  · omega
  · omega

/-- Two texts of one byte each, just made. -/
theorem txs_two {w : World} {G : Nat → Prop} (hG : ∀ k, G k → k < w.heap.size) : Txs (((w.alloc (.cells #[.int .u8 97] 5 (1, 2))).alloc (.cells #[.int .u8 98] 5 (1, 2))).alloc (.cells #[.slice (some ⟨w.heap.size, 0, none⟩) 1 1, .slice (some ⟨w.heap.size + 1, 0, none⟩) 1 1] 23)) G (some ⟨w.heap.size + 2, 0, none⟩) [⟨[97], some ⟨w.heap.size, 0, none⟩, 1⟩, ⟨[98], some ⟨w.heap.size + 1, 0, none⟩, 1⟩] := by
  have z1 : (w.alloc (.cells #[.int .u8 97] 5 (1, 2))).heap.size = w.heap.size + 1 := by simp
  have z2 : ((w.alloc (.cells #[.int .u8 97] 5 (1, 2))).alloc (.cells #[.int .u8 98] 5 (1, 2))).heap.size = w.heap.size + 2 := by simp
  have h1 := heap_alloc_new w (.cells #[.int .u8 97] 5 (1, 2))
  have h2 := heap_alloc_new (w.alloc (.cells #[.int .u8 97] 5 (1, 2))) (.cells #[.int .u8 98] 5 (1, 2))
  have h3 := heap_alloc_new ((w.alloc (.cells #[.int .u8 97] 5 (1, 2))).alloc (.cells #[.int .u8 98] 5 (1, 2))) (.cells #[.slice (some ⟨w.heap.size, 0, none⟩) 1 1, .slice (some ⟨w.heap.size + 1, 0, none⟩) 1 1] 23)
  have h1 := blk_alloc (blk_alloc h1 (.cells #[.int .u8 98] 5 (1, 2))) (.cells #[.slice (some ⟨w.heap.size, 0, none⟩) 1 1, .slice (some ⟨w.heap.size + 1, 0, none⟩) 1 1] 23)
  have h2 := blk_alloc h2 (.cells #[.slice (some ⟨w.heap.size, 0, none⟩) 1 1, .slice (some ⟨w.heap.size + 1, 0, none⟩) 1 1] 23)
  rw [z1] at h2
  rw [z2] at h3
  have far : ∀ g, w.heap.size ≤ g → g < w.heap.size + 3 → InF (fun k => ¬ G k ∧ k < (((w.alloc (.cells #[.int .u8 97] 5 (1, 2))).alloc (.cells #[.int .u8 98] 5 (1, 2))).alloc (.cells #[.slice (some ⟨w.heap.size, 0, none⟩) 1 1, .slice (some ⟨w.heap.size + 1, 0, none⟩) 1 1] 23)).heap.size) (some ⟨g, 0, none⟩) := fun g h1 h2 ad e => by
    injection e with e
    subst e
    exact ⟨fun q => by have := hG _ q; simp at this; omega, by simp; omega⟩
  refine ⟨Lies.of_blk h3, fun _ => far _ (by omega) (by omega), fun m hm => ?_⟩
  simp only [List.mem_cons, List.not_mem_nil, or_false] at hm
  rcases hm with rfl | rfl
  · exact ⟨⟨Lies.of_blk h1, Nat.le_refl 1⟩, fun _ => far _ (by omega) (by omega), (by decide : 1 ≤ 1000000)⟩
  · exact ⟨⟨Lies.of_blk h2, Nat.le_refl 1⟩, fun _ => far _ (by omega) (by omega), (by decide : 1 ≤ 1000000)⟩
theorem i64_of {z : Int} (h : z = -1) : z ≤ 9223372036854775807 := by omega

end

section
open Go.RowKit

theorem Wl.Good.reach {d d' : Dk.D} {g h : Nat} {l : List (List UInt8)} (t : Wl.Good d g h l) (hs : d'.s = d.s) : Wl.Good d' g h l :=
  ⟨by rw [hs]; exact t.two, by rw [hs]; exact t.len, t.small, by have := t.fits; unfold Wl.ring at this ⊢; rwa [hs], by have := t.at_; unfold Wl.ring at this ⊢; rwa [hs]⟩
theorem Wl.Idle.arm {d : Dk.D} (i : Wl.Idle d) (n : Int) : Wl.Idle (Dk.arm d n) := ⟨Dk.arm_ok i.ok n, i.dead, i.cache, i.bad⟩
theorem Wl.needs_few : ∀ {l : List (List UInt8)}, (∀ b ∈ l, b.length ≤ 400) → Wl.needs l ≤ 7 * l.length := by
  intro l
  induction l with
  | nil => intro _; exact Nat.le_refl _
  | cons b l ih =>
    intro h
    have h1 := ih (fun x hx => h x (by simp [hx]))
    have h2 : Wl.need b ≤ 7 := by
      have := h b (by simp)
      unfold Wl.need
      rw [if_neg (by omega)]
      omega
    have h3 : Wl.needs (b :: l) = Wl.need b + Wl.needs l := by simp [Wl.needs]
    rw [h3, List.length_cons]
    omega
/-- What a change leaves to a crash: the records from before, or those it asked for. -/
theorem Ends.after {g h h' n : Nat} {l l' : List (List UInt8)} {d d' : Dk.D} {e : Int} {x : Wl.W} (hE : Wl.Ends g h l h' l' d n e x d') (ks : List Bool) :
    ∃ g2 h2 l2, Wl.Good (Dk.crash d' ks) g2 h2 l2 ∧ Wl.Idle (Dk.crash d' ks) ∧ ((l2 = l ∧ e ≠ 0) ∨ l2 = l') ∧ (Dk.crash d' ks).s.length = d.s.length := by
  obtain ⟨e1, e2, e3, _, _, _, e7⟩ := hE
  have i := Wl.crash_idle e1 e3 ks
  have len : (Dk.crash d' ks).s.length = d.s.length := by
    rw [← e2]
    show (Dk.keepSome d'.s d'.cache ks).length = _
    rw [Dk.keepSome_len]
  rcases e7 ks with ⟨q, hn⟩ | q
  · exact ⟨g, h, l, q, i, .inl ⟨rfl, hn⟩, len⟩
  · exact ⟨g + 1, h', l', q, i, .inr rfl, len⟩
theorem vchg_err {s : VS} {d : Dk.D} {gone : Nat} {m : List (List UInt8)} (ho : s.over = false) (hr : Wl.roomE (Wl.ring d - Wl.needs s.l) m = 0) (h3 : 3 ≤ d.s.length) : (vchg s d gone m).1 = 0 ∨ (vchg s d gone m).1 = 50 := by
  obtain ⟨e, D, hw⟩ : ∃ e D, Wl.wrs (Wl.ring d) (s.h + Wl.needs s.l) (Wl.chunks m) d = (e, D) := ⟨_, _, rfl⟩
  have er := wrs_err (r := Wl.ring d) (Wl.chunks m) (d := d) (s.h + Wl.needs s.l) rfl h3 (Wl.chunks_small m)
  have sz := wrs_size (r := Wl.ring d) (Wl.chunks m) (d := d) (s.h + Wl.needs s.l)
  rw [hw] at er sz
  by_cases he : e = 0
  · subst he
    obtain ⟨e2, s2, D2, hv⟩ : ∃ e2 s2 D2, vsave s D (s.h + Wl.needs (s.l.take gone)) (s.l.drop gone ++ m) = (e2, s2, D2) := ⟨_, _, _, rfl⟩
    rw [vchg_save ho hr hw hv]
    have e := save_err (d := D) (g := s.g + 1) (l := [s.h + Wl.needs (s.l.take gone), s.h + Wl.needs (s.l.take gone) + Wl.needs (s.l.drop gone ++ m)]) (by dsimp only at sz; omega) (by simp)
    unfold vsave at hv
    split at hv
    · injection hv with hv _
      exact .inl hv.symm
    · injection hv with hv _
      rw [← hv]
      exact e
  · rw [vchg_bad ho hr hw he]
    exact er
theorem tcells_app (a b : List MTx) : tcells (a ++ b) = tcells a ++ tcells b := by simp [tcells]
theorem CWStep.row {w w' : World} {B base : Nat} {E G E2 G2 : Nat → Prop} {pw q : Nat} {s : VS} {d : Dk.D} {e : TypeId} {size n : Nat} {v : Value} {xs : List Value} (hs : CWStep w w' B E G E2 G2 pw q s d) (ho : w.ownsRow base e size v n xs) (hoff : ∀ k, v.ownBlock = some k → ¬ E k ∧ ¬ G k) :
    w'.ownsRow base e size v n xs ∧ ∀ k, v.ownBlock = some k → ¬ E2 k ∧ ¬ G2 k :=
  ⟨own_keep ho (fun k e => hs.but.block k (ho.lt k e).2 (fun z => z.elim (hoff k e).1 (hoff k e).2)), fun k e => ⟨fun g => (hoff k e).1 (hs.ne k (ho.lt k e).2 g), fun g => (hoff k e).2 (hs.ng k (ho.lt k e).2 g)⟩⟩
theorem few_needs {l : List MTx} (h : l.length ≤ 6 ∧ ∀ x ∈ l, x.b.length ≤ 400) : Wl.needs (txs l) ≤ 42 ∧ ∀ b ∈ txs l, b.length ≤ 60000 := by
  have q : ∀ b ∈ txs l, b.length ≤ 400 := fun b hb => by
    obtain ⟨x, hx, rfl⟩ := List.mem_map.1 hb
    exact h.2 x hx
  have n := Wl.needs_few q
  rw [txs_len] at n
  exact ⟨by omega, fun b hb => by have := q b hb; omega⟩

end
end Go.Proofs.YtpnfpeeijghamaaGreat
