/- The code's own Wal: change, Add, Swap, Cut, Format, in the words of plain wals. Opening a wal in two steps: all sectors, then the records. Nothing of the program. The code's own Wal: read, take. The code's own Wal: take. The code's own Wal: Open. Stage 7: a wal among other things, step by step; how changes end on a disk that isn't armed; chapter 7's example. -/
import Derived.Test.YtpnfpeeijghamaaGreatVg
import Derived.Test.YtpnfpeeijghamaaGreatWx
import Derived.Test.YtpnfpeeijghamaaGreatWa
import Derived.Test.YtpnfpeeijghamaaGreatFp
import Derived.Deep.RegionHeld3
import Derived.Test.YtpnfpeeijghamaaGreatDe
import Derived.Test.YtpnfpeeijghamaaGreatDp
namespace Go.Proofs.YtpnfpeeijghamaaGreat
open Go.RowKit
set_option maxRecDepth 100000

theorem act_err (d : Dk.D) : (Dk.act d).1 = 0 ∨ (Dk.act d).1 = 50 := by
  by_cases h : (Dk.act d).1 = 0
  · exact .inl h
  · exact .inr (Dk.act_no h).1
theorem flush_err (d : Dk.D) : (Dk.flush d).1 = 0 ∨ (Dk.flush d).1 = 50 := by
  unfold Dk.flush
  split
  · exact .inl rfl
  · exact act_err d
theorem write_err {d : Dk.D} {i : Nat} {b : List UInt8} (hi : i < d.s.length) (hb : b.length ≤ 64) : (Dk.write d (i : Int) b).1 = 0 ∨ (Dk.write d (i : Int) b).1 = 50 := by
  unfold Dk.write
  split
  · exact .inr rfl
  rw [if_neg (by rw [Dk.has_iff.2 ⟨by omega, by omega⟩]; simp), if_neg (by omega)]
  split
  · exact .inl rfl
  · exact act_err d
theorem write_size (d : Dk.D) (i : Int) (b : List UInt8) : (Dk.write d i b).2.s.length = d.s.length := by
  unfold Dk.write
  split
  · rfl
  split
  · rfl
  split
  · rfl
  split
  · show (Dk.act d).2.s.length = _
    rw [Dk.act_s]
  · rw [Dk.act_s]
theorem flush_size (d : Dk.D) : (Dk.flush d).2.s.length = d.s.length := by
  unfold Dk.flush
  split
  · show (Dk.keepAll d.s d.cache).length = _
    rw [Dk.keepAll_len]
  · rw [Dk.act_s]
theorem save_err {d : Dk.D} {g : Nat} {l : List Nat} (h2 : 2 ≤ d.s.length) (hl : l.length ≤ 4) : (Su.save d g l).1 = 0 ∨ (Su.save d g l).1 = 50 := by
  unfold Su.save
  rw [if_neg (by omega)]
  split
  · split
    · exact flush_err _
    · exact write_err (by rw [flush_size]; omega) (by have := Su.slot_fits (g := g) hl; omega)
  · exact flush_err d
theorem wrs_err {r : Nat} (cs : List (List UInt8)) : ∀ {d : Dk.D} (p : Nat), r = Wl.ring d → 3 ≤ d.s.length → (∀ c ∈ cs, c.length ≤ 64) → (Wl.wrs r p cs d).1 = 0 ∨ (Wl.wrs r p cs d).1 = 50 := by
  induction cs with
  | nil => intro d p _ _ _; exact .inl rfl
  | cons c cs ih =>
    intro d p hr h3 hc
    unfold Wl.wrs
    split
    · exact ih (p + 1) (by rw [hr]; unfold Wl.ring; rw [write_size]) (by rw [write_size]; exact h3) (fun x hx => hc x (by simp [hx]))
    · exact write_err (by rw [hr]; exact Wl.place h3 p) (hc c (by simp))
theorem wrs_size {r : Nat} (cs : List (List UInt8)) : ∀ {d : Dk.D} (p : Nat), (Wl.wrs r p cs d).2.s.length = d.s.length := by
  induction cs with
  | nil => intro d p; rfl
  | cons c cs ih =>
    intro d p
    unfold Wl.wrs
    split
    · rw [ih, write_size]
    · rw [write_size]

/-- The same wal in the document's words. -/
def VS.wal (s : VS) : Wl.W := ⟨s.g, s.h + Wl.needs s.l, Wl.recsAt s.h s.l, s.over⟩
theorem VS.free (s : VS) (d : Dk.D) : Wl.free d s.wal = Wl.ring d - Wl.needs s.l := by
  show Wl.ring d - (s.h + Wl.needs s.l - Wl.headOf (Wl.recsAt s.h s.l) (s.h + Wl.needs s.l)) = _
  rw [Wl.headOf_at]
  congr 1
  omega
/-- A turn is a save. -/
theorem turn_same {s : VS} {d : Dk.D} {h' : Nat} {l' : List (List UInt8)} (h2 : 2 ≤ d.s.length) : Wl.turn s.wal d (Wl.recsAt h' l') (h' + Wl.needs l') = ((vsave s d h' l').1, VS.wal (if (vsave s d h' l').1 = 0 then (vsave s d h' l').2.1 else { s with over := true }), (vsave s d h' l').2.2) := by
  have e := save_err (d := d) (g := s.g + 1) (l := [h', h' + Wl.needs l']) h2 (by simp)
  unfold Wl.turn vsave
  rw [Wl.headOf_at]
  show (if (Su.save d (s.g + 1) [h', h' + Wl.needs l']).1 = 0 then _ else _) = _
  by_cases z : (Su.save d (s.g + 1) [h', h' + Wl.needs l']).1 = 0
  · rw [if_pos z, if_pos z]
    rfl
  · rw [if_neg z, if_neg z]
    dsimp only
    rw [if_neg z, e.resolve_left z]
    rfl
theorem put_same {s : VS} {d : Dk.D} {m : List (List UInt8)} {sw : Bool} (h3 : 3 ≤ d.s.length) : Wl.put s.wal d m sw = ((vchg s d (if sw = true then s.l.length else 0) m).1, (vchg s d (if sw = true then s.l.length else 0) m).2.1.wal, (vchg s d (if sw = true then s.l.length else 0) m).2.2) := by
  cases ho : s.over
  · by_cases hr : Wl.roomE (Wl.ring d - Wl.needs s.l) m = 0
    · obtain ⟨r1, r2⟩ := Wl.roomE_zero hr
      have nf : ¬ Wl.free d s.wal < Wl.needs m := by rw [VS.free]; omega
      obtain ⟨e, D, hw⟩ : ∃ e D, Wl.wrs (Wl.ring d) (s.h + Wl.needs s.l) (Wl.chunks m) d = (e, D) := ⟨_, _, rfl⟩
      have er := wrs_err (r := Wl.ring d) (Wl.chunks m) (d := d) (s.h + Wl.needs s.l) rfl h3 (Wl.chunks_small m)
      have sz := wrs_size (r := Wl.ring d) (Wl.chunks m) (d := d) (s.h + Wl.needs s.l)
      rw [hw] at er sz
      by_cases he : e = 0
      · subst he
        rw [Wl.put_turn (w := s.wal) ho r1 nf hw]
        obtain ⟨h', hh⟩ : ∃ h', h' = s.h + Wl.needs (s.l.take (if sw = true then s.l.length else 0)) := ⟨_, rfl⟩
        obtain ⟨l', hl⟩ : ∃ l', l' = s.l.drop (if sw = true then s.l.length else 0) ++ m := ⟨_, rfl⟩
        have ve := vchg_save (gone := if sw = true then s.l.length else 0) ho hr hw (s2 := (vsave s D h' l').2.1) (e2 := (vsave s D h' l').1) (D2 := (vsave s D h' l').2.2) (by rw [← hh, ← hl])
        rw [ve]
        have t := turn_same (s := s) (d := D) (h' := h') (l' := l') (by rw [sz]; omega)
        have k1 : (if sw = true then [] else s.wal.recs) ++ Wl.recsAt s.wal.tail m = Wl.recsAt h' l' ∧ s.wal.tail + Wl.needs m = h' + Wl.needs l' := by
          cases sw
          · simp only [Bool.false_eq_true, if_false] at hh hl ⊢
            simp only [List.take_zero, List.drop_zero] at hh hl
            rw [hh, hl, Wl.needs_app, show Wl.needs ([] : List (List UInt8)) = 0 from rfl, Nat.add_zero, Wl.recsAt_app]
            exact ⟨rfl, Nat.add_assoc _ _ _⟩
          · simp only [if_true] at hh hl ⊢
            rw [List.take_length] at hh
            rw [List.drop_length, List.nil_append] at hl
            rw [hh, hl]
            exact ⟨rfl, rfl⟩
        rw [k1.1, k1.2, t]
      · rw [Wl.put_bad (w := s.wal) ho r1 nf hw he, vchg_bad ho hr hw he, er.resolve_left he]
        rfl
    · rw [vchg_room ho hr]
      by_cases hl : m.any (fun b => decide (60000 < b.length)) = true
      · rw [Wl.put_long (w := s.wal) ho hl]
        unfold Wl.roomE
        rw [if_pos hl]
      · have r1 : ∀ b ∈ m, b.length ≤ 60000 := by simpa using hl
        have hf : Wl.ring d - Wl.needs s.l < Wl.needs m := by
          rcases Nat.lt_or_ge (Wl.ring d - Wl.needs s.l) (Wl.needs m) with z | z
          · exact z
          · exact absurd (Wl.roomE_ok r1 (by omega)) hr
        rw [Wl.put_full (w := s.wal) ho r1 (by rw [VS.free]; exact hf), Wl.roomE_full r1 hf]
  · rw [Wl.put_over (w := s.wal) ho, vchg_over ho]
theorem recsAt_len (p : Nat) (l : List (List UInt8)) : (Wl.recsAt p l).length = l.length := by rw [← List.length_map (f := (·.b)), Wl.recsAt_map]
/-- What Cut does. -/
def vcut (s : VS) (d : Dk.D) (n : Int) : Int × VS × Dk.D :=
  if s.over = true then (50, s, d) else if n < 0 ∨ (s.l.length : Int) < n then (1, s, d) else vchg s d n.toNat []
theorem drop_same {s : VS} {d : Dk.D} {n : Int} (h3 : 3 ≤ d.s.length) : Wl.drop s.wal d n = ((vcut s d n).1, (vcut s d n).2.1.wal, (vcut s d n).2.2) := by
  unfold vcut
  cases ho : s.over
  · rw [if_neg (by simp)]
    by_cases hn : n < 0 ∨ (s.l.length : Int) < n
    · rw [if_pos hn, Wl.drop_range (w := s.wal) ho (by show n < 0 ∨ ((Wl.recsAt s.h s.l).length : Int) < n; rw [recsAt_len]; exact hn)]
    · obtain ⟨k, rfl⟩ := Int.eq_ofNat_of_zero_le (show 0 ≤ n by omega)
      have hk : k ≤ s.l.length := by omega
      rw [if_neg hn, Wl.drop_turn (w := s.wal) ho (by show k ≤ (Wl.recsAt s.h s.l).length; rw [recsAt_len]; exact hk), Int.toNat_natCast]
      have hr : Wl.roomE (Wl.ring d - Wl.needs s.l) [] = 0 := Wl.roomE_ok (by simp) (by simp [Wl.needs])
      have ve := vchg_save (gone := k) (m := []) ho hr (D := d) rfl (s2 := (vsave s d (s.h + Wl.needs (s.l.take k)) (s.l.drop k ++ [])).2.1) (e2 := (vsave s d (s.h + Wl.needs (s.l.take k)) (s.l.drop k ++ [])).1) (D2 := (vsave s d (s.h + Wl.needs (s.l.take k)) (s.l.drop k ++ [])).2.2) rfl
      have t := turn_same (s := s) (d := d) (h' := s.h + Wl.needs (s.l.take k)) (l' := s.l.drop k) (by omega)
      have nd := Wl.needs_drop s.l k
      rw [ve]
      simp only [List.append_nil]
      rw [← t]
      congr 1
      · exact Wl.recsAt_drop _ _ _
      · show s.h + Wl.needs s.l = _
        omega
  · rw [if_pos rfl, Wl.drop_over (w := s.wal) ho]

section
variable {w : World} {E G : Nat → Prop} {pw q : Nat} {s : VS} {d : Dk.D}

theorem vChange_c (x : CWD w E G pw q s d) (hd : d.ok) (hl : d.left ≤ 9223372036854775807) (hcl : d.cache.length ≤ 1000000) (ug : U64 (s.g + 1)) {gone : Nat} (hg : gone ≤ s.l.length) {A : Option Addr} {n c : Nat} {ms : List MTx} (ht : Txs w G A ms) (hn : n = ms.length) (hs : n ≤ 1000) (ut : U64 (s.h + Wl.needs s.l + Wl.needs (txs ms))) :
    Calls Tryz.prog 74 #[.pointer (some ⟨pw, 0, none⟩), .int .i64 (gone : Int), .slice A n c] w (VOk E G pw q (vchg s d gone (txs ms)) w) := by
  cases ho : s.over
  · by_cases hr : Wl.roomE (Wl.ring d - Wl.needs s.l) (txs ms) = 0
    · exact vChange_go x ho hd hl hcl ug hg ht hn hs hr ut
    · rw [vchg_room ho hr]
      exact vChange_room x ho ht hn hs hr
  · rw [vchg_over ho]
    exact vChange_over x ho

theorem vAdd_c (x : CWD w E G pw q s d) (hd : d.ok) (hl : d.left ≤ 9223372036854775807) (hcl : d.cache.length ≤ 1000000) (ug : U64 (s.g + 1)) {A : Option Addr} {n c : Nat} {ms : List MTx} (ht : Txs w G A ms) (hn : n = ms.length) (hs : n ≤ 1000) (ut : U64 (s.h + Wl.needs s.l + Wl.needs (txs ms))) :
    Calls Tryz.prog 42 #[.pointer (some ⟨pw, 0, none⟩), .slice A n c] w (VOk E G pw q (vchg s d 0 (txs ms)) w) := by
  have cc := Lib.hid (vChange_c (c := c) x hd hl hcl ug (Nat.zero_le _) ht hn hs ut)
  clear x hd hl hcl ug ht hn ut
  go_enter Tryz.func42, Tryz.ntmps42
  go_wp2_with fail
  refine cc.out.mono ?_
  rintro e w1 ⟨rfl, hq⟩
  have HQ := Lib.hid hq
  clear hq
  go_wp2
  go_ret
  exact ⟨rfl, HQ.out⟩
theorem vSwap_c (x : CWD w E G pw q s d) (hd : d.ok) (hl : d.left ≤ 9223372036854775807) (hcl : d.cache.length ≤ 1000000) (ug : U64 (s.g + 1)) {A : Option Addr} {n c : Nat} {ms : List MTx} (ht : Txs w G A ms) (hn : n = ms.length) (hs : n ≤ 1000) (ut : U64 (s.h + Wl.needs s.l + Wl.needs (txs ms))) :
    Calls Tryz.prog 51 #[.pointer (some ⟨pw, 0, none⟩), .slice A n c] w (VOk E G pw q (vchg s d s.l.length (txs ms)) w) := by
  have cc := Lib.hid (vChange_c (c := c) x hd hl hcl ug (Nat.le_refl _) ht hn hs ut)
  obtain ⟨AN, cN, y⟩ := x.cw
  have lc := Lib.hid (vLen_c y)
  clear x hd hl hcl ug ht hn ut y
  go_enter Tryz.func51, Tryz.ntmps51
  go_wp2_with fail
  refine lc.out.mono ?_
  rintro e w1 ⟨rfl, rfl⟩
  go_wp2_with fail
  refine cc.out.mono ?_
  rintro e w1 ⟨rfl, hq⟩
  have HQ := Lib.hid hq
  clear hq
  go_wp2
  go_ret
  exact ⟨rfl, HQ.out⟩
theorem txs_none (w : World) (G : Nat → Prop) : Txs w G none [] := ⟨Lies.nil, fun h => absurd rfl h, fun _ h => by cases h⟩
end

theorem vAdd_nil {w : World} {A : Option Addr} {n c : Nat} : Calls Tryz.prog 42 #[.pointer none, .slice A n c] w fun e w' => e = .returned (.int .i64 50) ∧ Below w.heap.size w w' := by
  go_enter Tryz.func42, Tryz.ntmps42
  go_wp2_with fail
  refine vChange_nil.mono ?_
  rintro e w1 ⟨rfl, hb⟩
  have HB := Lib.hid hb
  go_wp2
  go_ret
  exact ⟨rfl, HB.out⟩
theorem vSwap_nil {w : World} {A : Option Addr} {n c : Nat} : Calls Tryz.prog 51 #[.pointer none, .slice A n c] w fun e w' => e = .returned (.int .i64 50) ∧ Below w.heap.size w w' := by
  go_enter Tryz.func51, Tryz.ntmps51
  go_wp2_with fail
  refine (vLen_nil _).mono ?_
  rintro e w1 ⟨rfl, rfl⟩
  go_wp2_with fail
  refine vChange_nil.mono ?_
  rintro e w1 ⟨rfl, hb⟩
  have HB := Lib.hid hb
  go_wp2
  go_ret
  exact ⟨rfl, HB.out⟩
set_option maxHeartbeats 1000000 in
theorem vFormat_c {w : World} {G : Nat → Prop} {q : Nat} {d : Dk.D} (h : CD w G q d) (hG : ∀ k, G k → k < w.heap.size) (hd : d.ok) (hl : d.left ≤ 9223372036854775807) (hcl : d.cache.length ≤ 1000000) :
    Calls Tryz.prog 40 #[.pointer (some ⟨q, 0, none⟩)] w (CdOk G q (Wl.format d).1 (Wl.format d).2 w) := by
  have H := Lib.hid h
  have sc := Lib.hid (cdSizeAt_c h)
  have hf := hd.few
  by_cases h2 : d.s.length ≤ 2
  · have F : Hid (Wl.format d = (51, d)) := Lib.hid (by unfold Wl.format Wl.ring; rw [if_pos (by omega)])
    obtain ⟨N, hN⟩ : ∃ N, N = d.s.length := ⟨_, rfl⟩
    rw [← hN] at sc
    have h3 : (N : Int) ≤ 2 := by omega
    clear h hG hd hl hcl hf h2 hN
    go_enter Tryz.func40, Tryz.ntmps40
    go_wp2_with fail
    refine sc.out.mono ?_
    rintro e w1 ⟨rfl, rfl⟩
    go_wp2
    go_ret
    rw [F.out]
    exact ⟨rfl, H.out.mono up_self, But.refl _ _ _⟩
  · have F : Hid (Wl.format d = Su.format d [0, 0]) := Lib.hid (by unfold Wl.format Wl.ring; rw [if_neg (by omega)])
    obtain ⟨N, hN⟩ : ∃ N, N = d.s.length := ⟨_, rfl⟩
    rw [← hN] at sc
    have h3 : ¬ (N : Int) ≤ 2 := by omega
    have ba : Below w.heap.size w (w.alloc (.cells #[.int .u64 0, .int .u64 0] 62)) := (Below.refl _ _).alloc (Nat.le_refl _) _
    have fc := Lib.hid (suFormat_c (w := w.alloc (.cells #[.int .u64 0, .int .u64 0] 62)) (B := 0) (t := 62) (A := some ⟨w.heap.size, 0, none⟩) (n := 2) (c := 2) (l := [0, 0]) (h.keep (fun k hk _ => Below.heap_alloc _ _ _ (hG k hk))) (fun k hk => by have := hG k hk; simp; omega) hd hl hcl (Lies.of_blk (heap_alloc_new w (.cells #[.int .u64 0, .int .u64 0] 62))) (fun _ ad e => by injection e with e; subst e; exact ⟨fun z => by have := hG _ z; simp at this, by simp⟩) rfl (by decide) (by intro n hn; simp at hn; subst hn; unfold U64; decide) (by decide))
    have BA := Lib.hid ba
    clear h hG hd hl hcl hf h2 hN ba
    go_enter Tryz.func40, Tryz.ntmps40
    go_wp2_with fail
    refine sc.out.mono ?_
    rintro e w1 ⟨rfl, rfl⟩
    go_wp2_with fail
    refine fc.out.mono ?_
    rintro e w1 ⟨rfl, hr, hb⟩
    have Q := Lib.hid (cd_down BA.out hr hb)
    clear hr hb
    go_wp2
    go_ret
    rw [F.out]
    exact ⟨rfl, Q.out.1, Q.out.2⟩

namespace Wl
/-- What k places from p on hold. -/
def rdAll (d : Dk.D) (r : Nat) : Nat → Nat → Int × List UInt8
  | 0, _ => (0, [])
  | k + 1, p =>
    if (Dk.read d ((2 + p % r : Nat) : Int)).2 = 0 then
      (if (rdAll d r k (p + 1)).1 = 0 then (0, (Dk.read d ((2 + p % r : Nat) : Int)).1 ++ (rdAll d r k (p + 1)).2) else ((rdAll d r k (p + 1)).1, []))
    else ((Dk.read d ((2 + p % r : Nat) : Int)).2, [])
theorem rdAll_succ (d : Dk.D) (r k p : Nat) : rdAll d r (k + 1) p = if (Dk.read d ((2 + p % r : Nat) : Int)).2 = 0 then
      (if (rdAll d r k (p + 1)).1 = 0 then (0, (Dk.read d ((2 + p % r : Nat) : Int)).1 ++ (rdAll d r k (p + 1)).2) else ((rdAll d r k (p + 1)).1, []))
    else ((Dk.read d ((2 + p % r : Nat) : Int)).2, []) := rfl
/-- The records that whole sectors are. -/
def takeAll : List UInt8 → Option (List (List UInt8))
  | [] => some []
  | y :: t => match Fr.unf (y :: t) with
    | none => none
    | some x => (takeAll ((y :: t).drop (64 * ((x.length + 70) / 64)))).map (x :: ·)
termination_by bs => bs.length
decreasing_by
  rw [List.length_drop, List.length_cons]
  omega
theorem takeAll_nil : takeAll [] = some [] := by rw [takeAll]
theorem takeAll_none {bs : List UInt8} (h : bs ≠ []) (hu : Fr.unf bs = none) : takeAll bs = none := by
  cases bs with
  | nil => exact absurd rfl h
  | cons y t => rw [takeAll, hu]
theorem takeAll_some {bs x : List UInt8} (h : bs ≠ []) (hu : Fr.unf bs = some x) : takeAll bs = (takeAll (bs.drop (64 * need x))).map (x :: ·) := by
  have hx := (Fr.unf_some hu).2.1
  cases bs with
  | nil => exact absurd rfl h
  | cons y t =>
    rw [takeAll, hu]
    dsimp only
    unfold need
    rw [if_neg (by omega)]
/-- The bytes are those of the records' sectors. -/
theorem takeAll_len : ∀ (n : Nat) {bs : List UInt8} {l : List (List UInt8)}, bs.length = 64 * n → takeAll bs = some l → needs l = n ∧ ∀ b ∈ l, b.length ≤ 60000 := by
  intro n
  induction n using Nat.strongRecOn with
  | _ n ih =>
    intro bs l hn h
    by_cases hb : bs = []
    · subst hb
      rw [takeAll_nil] at h
      injection h with h
      subst h
      simp at hn
      exact ⟨by simp [needs]; omega, by simp⟩
    · cases hu : Fr.unf bs with
      | none => rw [takeAll_none hb hu] at h; cases h
      | some x =>
        obtain ⟨h1, h2, h3⟩ := Fr.unf_some hu
        rw [takeAll_some hb hu] at h
        cases ht : takeAll (bs.drop (64 * need x)) with
        | none => rw [ht] at h; cases h
        | some l' =>
          rw [ht] at h
          injection h with h
          subst h
          have np := need_pos h2
          have ne : need x = (x.length + 70) / 64 := by unfold need; rw [if_neg (by omega)]
          obtain ⟨q1, q2⟩ := ih (n - need x) (by omega) (bs := bs.drop (64 * need x)) (by rw [List.length_drop]; omega) ht
          refine ⟨?_, fun b hb => ?_⟩
          · rw [show needs (x :: l') = need x + needs l' by simp [needs], q1]
            omega
          · rcases List.mem_cons.1 hb with rfl | hb
            · exact h2
            · exact q2 b hb
theorem rd_len {d : Dk.D} (hd : d.ok) {i : Int} (h : (Dk.read d i).2 = 0) : (Dk.read d i).1.length = 64 := by
  unfold Dk.read at h ⊢
  split at h
  · cases h
  rename_i h1
  rw [if_neg h1]
  split at h
  · cases h
  rename_i h2
  rw [if_neg h2]
  split at h
  · cases h
  rename_i h3
  rw [if_neg h3]
  have h4 : Dk.has d i = true := by
    cases z : Dk.has d i
    · exact absurd z h2
    · rfl
  have h5 := Dk.has_iff.1 h4
  exact Dk.look_len hd (by omega)
theorem rdAll_len {d : Dk.D} (hd : d.ok) (r : Nat) : ∀ (k p : Nat), (rdAll d r k p).1 = 0 → (rdAll d r k p).2.length = 64 * k := by
  intro k
  induction k with
  | zero => intro p _; rfl
  | succ k ih =>
    intro p h
    rw [rdAll_succ] at h ⊢
    by_cases h1 : (Dk.read d ((2 + p % r : Nat) : Int)).2 = 0
    · rw [if_pos h1] at h ⊢
      by_cases h2 : (rdAll d r k (p + 1)).1 = 0
      · rw [if_pos h2]
        dsimp only
        rw [List.length_append, rd_len hd h1, ih _ h2]
        omega
      · rw [if_neg h2] at h
        exact absurd h h2
    · rw [if_neg h1] at h
      exact absurd h h1
/-- Reading on the way is reading all, then taking. -/
theorem walk_take {d : Dk.D} (hd : d.ok) (r : Nat) : ∀ (k p fr : Nat) (all : List UInt8) (acc : List Rec) (j : Nat), all.length = 64 * j → p = fr + j → (all = [] ∨ Fr.unf all = none) →
    walk d r k p fr all acc = (if (rdAll d r k p).1 = 0 then (match takeAll (all ++ (rdAll d r k p).2) with | none => (70, []) | some l => (0, acc ++ recsAt fr l)) else ((rdAll d r k p).1, [])) := by
  intro k
  induction k with
  | zero =>
    intro p fr all acc j hj hp ha
    show (if all = [] then (0, acc) else (70, [])) = _
    by_cases h : all = []
    · subst h
      rw [if_pos rfl]
      simp [rdAll, takeAll_nil, recsAt]
    · rw [if_neg h]
      have hu := ha.resolve_left h
      simp [rdAll, takeAll_none h hu]
  | succ k ih =>
    intro p fr all acc j hj hp ha
    rw [walk_succ, rdAll_succ]
    by_cases h1 : (Dk.read d ((2 + p % r : Nat) : Int)).2 = 0
    · rw [if_pos h1, if_pos h1]
      obtain ⟨b, hb⟩ : ∃ b, b = (Dk.read d ((2 + p % r : Nat) : Int)).1 := ⟨_, rfl⟩
      have bl : b.length = 64 := by rw [hb]; exact rd_len hd h1
      rw [← hb]
      obtain ⟨e, bs, hR⟩ : ∃ e bs, rdAll d r k (p + 1) = (e, bs) := ⟨_, _, rfl⟩
      cases hu : Fr.unf (all ++ b) with
      | none =>
        dsimp only
        have hne : all ++ b ≠ [] := fun e => by have z := congrArg List.length e; rw [List.length_append, bl, List.length_nil] at z; omega
        rw [ih (p + 1) fr (all ++ b) acc (j + 1) (by rw [List.length_append]; omega) (by omega) (.inr hu), hR]
        dsimp only
        by_cases h2 : e = 0
        · subst h2
          simp
        · rw [if_neg h2, if_neg h2, if_neg h2]
      | some x =>
        dsimp only
        obtain ⟨g1, g2, g3⟩ := Fr.unf_some hu
        have ne : need x = (x.length + 70) / 64 := by unfold need; rw [if_neg (by omega)]
        have hlt : all.length < 7 + x.length := by
          rcases Nat.lt_or_ge all.length (7 + x.length) with z | z
          · exact z
          · exfalso
            rcases ha with ha | ha
            · subst ha; simp at z
            · have e1 : all = Fr.frame x ++ (all.drop (7 + x.length)) := by
                have z2 := congrArg (List.take all.length) g1
                rw [List.take_left' rfl] at z2
                rw [List.take_append, Fr.frame_len, List.take_of_length_le (by rw [Fr.frame_len]; exact z)] at z2
                have z3 := congrArg (List.drop (7 + x.length)) z2
                rw [List.drop_left' (Fr.frame_len x)] at z3
                rw [z3]
                exact z2
              rw [e1, Fr.unf_frame g2] at ha
              cases ha
        have nx : need x = j + 1 := by
          rw [List.length_append] at g3
          omega
        rw [ih (p + 1) (p + 1) [] (acc ++ [(⟨x, fr, p + 1⟩ : Rec)]) 0 rfl rfl (.inl rfl), hR]
        dsimp only
        by_cases h2 : e = 0
        · subst h2
          rw [if_pos rfl, if_pos rfl, if_pos rfl]
          dsimp only
          rw [List.nil_append]
          have hne : all ++ (b ++ bs) ≠ [] := fun e => by have z := congrArg List.length e; rw [List.length_append, List.length_append, bl, List.length_nil] at z; omega
          have hu2 : Fr.unf (all ++ (b ++ bs)) = some x := by
            rw [← List.append_assoc, g1, List.append_assoc]
            exact Fr.unf_frame g2 _
          rw [takeAll_some hne hu2, nx, ← List.append_assoc, List.drop_left' (by rw [List.length_append]; omega)]
          cases takeAll bs with
          | none => rfl
          | some l =>
            simp only [Option.map_some]
            rw [List.append_assoc, recsAt, nx, show fr + (j + 1) = p + 1 by omega]
            rfl
        · rw [if_neg h2, if_neg h2, if_neg h2]
    · rw [if_neg h1, if_neg h1]
      dsimp only
      rw [if_neg h1]
end Wl

theorem vSectorAt_c {w : World} {pw r : Nat} (c4 : w.cell? ⟨pw, 4, none⟩ = some (.int .u64 (r : Int))) (r1 : 1 ≤ r) (r2 : r ≤ 4096) (p : Nat) :
    Calls Tryz.prog 87 #[.pointer (some ⟨pw, 0, none⟩), .int .u64 (p : Int)] w fun e w' => e = .returned (.int .i64 ((2 + p % r : Nat) : Int)) ∧ w = w' := by
  obtain ⟨M, hM⟩ : ∃ M, M = p % r := ⟨_, rfl⟩
  have pm : M < r := by rw [hM]; exact Nat.mod_lt _ (by omega)
  have pt : (p : Int).tmod (r : Int) = (M : Int) := by rw [hM, Int.ofNat_tmod]
  have pm3 : (M : Int) ≤ 4096 := by omega
  have rz : ¬ r = 0 := by omega
  have rz2 : ((r : Int) == 0) = false := by simp; omega
  have w3 : IntKind.i64.wrap (M : Int) = (M : Int) := by rw [IntKind.wrap_i64]; omega
  rw [← hM]
  clear hM
  go_enter Tryz.func87, Tryz.ntmps87
  go_wp2
  go_ret
  exact ⟨ret_i64 (by omega), rfl⟩

set_option maxHeartbeats 4000000 in
theorem vRead_c {w : World} {G : Nat → Prop} {pw q a b r : Nat} {d : Dk.D} (h : CD w G q d) (hG : ∀ k, G k → k < w.heap.size) (hd : d.ok) (hcl : d.cache.length ≤ 100000000) (pl : pw < w.heap.size) (c0 : w.cell? ⟨pw, 0, none⟩ = some (.pointer (some ⟨q, 0, none⟩))) (c2 : w.cell? ⟨pw, 2, none⟩ = some (.int .u64 (a : Int))) (c3 : w.cell? ⟨pw, 3, none⟩ = some (.int .u64 (b : Int))) (c4 : w.cell? ⟨pw, 4, none⟩ = some (.int .u64 (r : Int)))
    (r1 : 1 ≤ r) (r2 : r ≤ 4096) (hab : a ≤ b) (hbr : b - a ≤ r) (ub : U64 b) :
    Calls Tryz.prog 72 #[.pointer (some ⟨pw, 0, none⟩)] w (BErrOk w.heap.size (Wl.rdAll d r (b - a) a).1 (Wl.rdAll d r (b - a) a).2 w) := by
  have H := Lib.hid h
  have HG := Lib.hid hG
  have HD := Lib.hid hd
  obtain ⟨R, hR⟩ : ∃ R, R = Wl.rdAll d r (b - a) a := ⟨_, rfl⟩
  rw [← hR]
  have HR := Lib.hid hR
  obtain ⟨k, hk⟩ : ∃ k, k = b - a := ⟨_, rfl⟩
  have wk : IntKind.u64.wrap ((b : Int) - (a : Int)) = (k : Int) := by have := ub.int; rw [IntKind.wrap_u64]; omega
  have HK := Lib.hid hk
  have UB := Lib.hid ub
  have k1 : k ≤ 4096 := by omega
  have hak : a + k = b := by omega
  have HAK := Lib.hid hak
  obtain ⟨ti, hi, iz0, iz1, iz2⟩ := info_parts Tryz.infoU8
  have CS : Hid (∀ u : World, Below w.heap.size w u → u.cell? ⟨pw, 0, none⟩ = some (.pointer (some ⟨q, 0, none⟩)) ∧ u.cell? ⟨pw, 2, none⟩ = some (.int .u64 (a : Int)) ∧ u.cell? ⟨pw, 4, none⟩ = some (.int .u64 (r : Int)) ∧ CD u G q d) := Lib.hid fun u hu => ⟨(hu.cell (p := ⟨pw, 0, none⟩) pl).trans c0, (hu.cell (p := ⟨pw, 2, none⟩) pl).trans c2, (hu.cell (p := ⟨pw, 4, none⟩) pl).trans c4, h.keep fun b hb _ => hu.block b (hG b hb)⟩
  clear h hG hd hR hk ub hak hab hbr
  go_enter Tryz.func72, Tryz.ntmps72
  go_wp2_with fail
  go_region
  go_wp2_with fail
  go_loopw [4, 17] (fun u4 u17 wr => ∃ (i : Nat) (A : Option Addr) (n c : Nat) (all : List UInt8), u17 = .int .u64 (i : Int) ∧ u4 = .slice A n c ∧ n = all.length ∧ i ≤ k ∧ n ≤ 64 * i ∧ wr.ownsRow w.heap.size 5 1 (.slice A n c) n (bcells all) ∧ Below w.heap.size w wr ∧
      R = (if (Wl.rdAll d r (k - i) (a + i)).1 = 0 then (0, all ++ (Wl.rdAll d r (k - i) (a + i)).2) else ((Wl.rdAll d r (k - i) (a + i)).1, []))) (fun _ u17 _ => k - (intOf u17).toNat)
  case atStart =>
    refine ⟨0, none, 0, 0, [], rfl, rfl, rfl, Nat.zero_le _, Nat.zero_le _, World.ownsRow_nil _ _ _ _, (Below.refl _ _).drew, ?_⟩
    rw [HR.out, HK.out, Nat.sub_zero, Nat.add_zero, List.nil_append]
    split
    · rename_i z
      exact Prod.ext z rfl
    · rename_i z
      refine Prod.ext rfl ?_
      show (Wl.rdAll d r (b - a) a).2 = []
      cases hz : b - a with
      | zero => rfl
      | succ m =>
        rw [hz] at z
        rw [Wl.rdAll_succ] at z ⊢
        split at z
        · rename_i y
          rw [if_pos y]
          split at z
          · exact absurd rfl z
          · rename_i x
            rw [if_neg x]
        · rename_i y
          rw [if_neg y]
  case round =>
    obtain ⟨i, A, n, c, all, rfl, rfl, hn, hik, hni, ho, hb, hrel⟩ := hrel
    obtain ⟨d0, d2, d4, hcd⟩ := CS.out wr hb
    have HB := Lib.hid hb
    have HO := Lib.hid ho
    have HN := Lib.hid hn
    have RL := Lib.hid hrel
    clear hb ho hn hrel c0 c2 c3 c4
    by_cases hlt : i < k
    · obtain ⟨p, hp⟩ : ∃ p, p = a + i := ⟨_, rfl⟩
      have HP := Lib.hid hp
      have wp : IntKind.u64.wrap ((a : Int) + (i : Int)) = (p : Int) := by have := UB.out.int; have := HAK.out; rw [IntKind.wrap_u64]; omega
      have SEC := Lib.hid (vSectorAt_c (w := wr.drew) d4 r1 r2 p)
      obtain ⟨SI, hSI⟩ : ∃ SI : Int, SI = ((2 + p % r : Nat) : Int) := ⟨_, rfl⟩
      rw [← hSI] at SEC
      obtain ⟨bb, e1, hrd⟩ : ∃ bb e1, Dk.read d SI = (bb, e1) := ⟨_, _, rfl⟩
      have RD := Lib.hid (cdRead_c (w := wr.drew) (hcd.keep (fun _ _ _ => rfl)) HD.out hcl SI)
      rw [hrd] at RD
      dsimp only at RD
      have rl := RL.out
      rw [show k - i = (k - (i + 1)) + 1 by omega, Wl.rdAll_succ, ← HP.out, ← hSI, hrd] at rl
      dsimp only at rl
      have RL2 := Lib.hid rl
      have bl := read_len HD.out SI
      rw [hrd] at bl
      have BL := Lib.hid bl
      have ap : a + (i + 1) = p + 1 := by omega
      have AP := Lib.hid ap
      clear hp hSI hrd rl bl hcd ap
      go_upto_region 5 with fail
      go_region_held (fun u => u.cell? ⟨pw, 0, none⟩ = some (.pointer (some ⟨q, 0, none⟩)) ∧ u.cell? ⟨pw, 2, none⟩ = some (.int .u64 (a : Int))) (first | exact ⟨d0, d2⟩ | exact x3) (first | (go_at_call 87; refine SEC.out.mono ?_; rintro e w3 ⟨rfl, rfl⟩) | (go_at_call 85; refine RD.out.mono ?_; rintro e w3 ⟨A3, n3, c3, rfl, hn3, hc3, ho3, hb3⟩; have B3 : Below wr.heap.size wr w3 := (Below.refl _ _).drew.trans hb3; have HB3 := Lib.hid B3; have z3 := B3.size; have z0 := HB.out.size; have O3 := Lib.hid (own_below HO.out B3); have L3 := Lib.hid (lies_own (B := 0) ho3); have N3 := Lib.hid hn3; clear hn3; have x3 := And.intro ((CS.out w3 (HB.out.trans (B3.mono z0))).1) ((CS.out w3 (HB.out.trans (B3.mono z0))).2.1); clear B3 hb3 ho3))
      by_cases z1 : e1 = 0
      · subst z1
        have n3b : n3 ≤ 64 := by rw [N3.out]; exact BL.out
        clear x3
        go_wp2_with (at_builtin; refine wpList_app _ rfl _ _ 23 rfl w.heap.size 5 ti (.int .u8 0) 1 1 Tryz.underlying23 hi iz0 iz1 iz2 rfl (by decide) _ n (bcells all) rfl O3.out 0 A3 n3 c3 (bcells bb) 125 rfl (by rw [bcells_len, N3.out, Nat.mul_one]) L3.out (bcells_one _) (by unfold maxLen; omega) (by omega) (by omega) ?_; intro v4 w4 hown4 hgr4 _; obtain ⟨A4, k4, rfl⟩ := own_slice hown4; have O4 := Lib.hid hown4; have G4 := Lib.hid (app_below0 O3.out hgr4 (by omega)); clear hown4 hgr4)
        have wi : IntKind.u64.wrap ((i : Int) + 1) = ((i + 1 : Nat) : Int) := by rw [IntKind.wrap_u64]; omega
        go_roundw
        case rel =>
          refine ⟨i + 1, A4, n + n3, k4, all ++ bb, by go_num, rfl, by rw [List.length_append, HN.out, N3.out], by omega, by omega, by rw [bcells_app]; exact O4.out, HB.out.trans ((HB3.out.mono z0).trans G4.out), ?_⟩
          have z := RL2.out
          rw [AP.out]
          rw [if_pos rfl] at z
          by_cases y : (Wl.rdAll d r (k - (i + 1)) (p + 1)).1 = 0
          · rw [if_pos y, if_pos rfl] at z
            rw [if_pos y, List.append_assoc]
            exact z
          · rw [if_neg y, if_neg y] at z
            rw [if_neg y]
            exact z
        case measure => simp [intOf]; omega
      · have zz : (e1 != 0) = true := by simp [z1]
        have RB : Hid (R = (e1, [])) := Lib.hid (by
          have z := RL2.out
          rw [if_neg z1, if_neg z1] at z
          exact z)
        clear z1
        go_wp2
        go_ret2
        rw [RB.out]
        exact BErrOk.bad (HB.out.trans (HB3.out.mono z0))
    · obtain rfl : i = k := by omega
      have RB : Hid (R = (0, all)) := Lib.hid (by
        have z := RL.out
        rw [Nat.sub_self] at z
        rw [z]
        show (0, all ++ []) = _
        rw [List.append_nil])
      go_wp2
      go_ret2
      rw [RB.out]
      exact ⟨A, n, c, rfl, HN.out, (own_room HO.out).2, HO.out, HB.out⟩

/-- What take hands back: the records, texts of its own, and leaves in the wal: how many sectors each has. -/
def VTakeOk (pw : Nat) (H : Value → Obj) (bs : List UInt8) (w : World) (e : Ending) (w' : World) : Prop :=
  Tch 0 [23, 3, 116] w w' ∧ But (fun k => k = pw) w.heap.size w w' ∧
  ((∃ (AR : Option Addr) (n cR : Nat) (ms : List MTx) (AN : Option Addr) (cN : Nat), e = .returned (.tuple #[.slice AR n cR, .int .i64 0]) ∧ n = ms.length ∧ Wl.takeAll bs = some (txs ms) ∧ w'.ownsRow w.heap.size 23 1 (.slice AR n cR) n (tcells ms) ∧ (∀ m ∈ ms, m.fine w' 0 5 ∧ InF (fun k => w.heap.size ≤ k ∧ k < w'.heap.size) m.A) ∧
      w'.heap[pw]? = some (H (.slice AN n cN)) ∧ w'.ownsRow w.heap.size 3 1 (.slice AN n cN) n (ics ((txs ms).map Wl.need))) ∨
    (Wl.takeAll bs = none ∧ e = .returned (.tuple #[.slice none 0 0, .int .i64 70])))

set_option maxHeartbeats 8000000 in
theorem vTake_c {w : World} {pw q g a b r m : Nat} (hp : w.heap[pw]? = some (.cells #[.pointer (some ⟨q, 0, none⟩), .int .u64 (g : Int), .int .u64 (a : Int), .int .u64 (b : Int), .int .u64 (r : Int), .slice none 0 0] 116 (0, 0)))
    {A : Option Addr} {n c : Nat} {bs : List UInt8} (hL : Lies w 0 5 A (bcells bs)) (hn : n = bs.length) (hc : n ≤ c) (hm : bs.length = 64 * m) (h4 : m ≤ 4096) :
    Calls Tryz.prog 73 #[.pointer (some ⟨pw, 0, none⟩), .slice A n c] w (VTakeOk pw (fun v => .cells #[.pointer (some ⟨q, 0, none⟩), .int .u64 (g : Int), .int .u64 (a : Int), .int .u64 (b : Int), .int .u64 (r : Int), v] 116 (0, 0)) bs w) := by
  have HP := Lib.hid hp
  have HL := Lib.hid hL
  have HN := Lib.hid hn
  have HM := Lib.hid hm
  obtain ⟨ti, hi, iz0, iz1, iz2⟩ := info_parts Tryz.infoInt
  obtain ⟨tt, ht, it0, it1, it2⟩ := info_parts Tryz.infoTexts
  have n6 : n ≤ 1000000 := by omega
  clear hp hL hn hm
  go_enter Tryz.func73, Tryz.ntmps73
  go_wp2_with fail
  go_loopw [1, 6] (fun u1 u6 wr => ∃ (j nR : Nat) (A1 : Option Addr) (n1 c1 : Nat) (t : List UInt8) (AR : Option Addr) (cR : Nat) (ms : List MTx) (AN : Option Addr) (cN : Nat), u1 = .slice A1 n1 c1 ∧ u6 = .slice AR nR cR ∧ nR = ms.length ∧ n1 = t.length ∧ n1 ≤ c1 ∧ t.length = 64 * j ∧ j + nR ≤ m ∧ Lies wr 0 5 A1 (bcells t) ∧
      wr.ownsRow w.heap.size 23 1 (.slice AR nR cR) nR (tcells ms) ∧ (∀ x ∈ ms, x.fine wr 0 5 ∧ InF (fun k => w.heap.size ≤ k ∧ k < wr.heap.size) x.A) ∧ wr.heap[pw]? = some (.cells #[.pointer (some ⟨q, 0, none⟩), .int .u64 (g : Int), .int .u64 (a : Int), .int .u64 (b : Int), .int .u64 (r : Int), .slice AN nR cN] 116 (0, 0)) ∧
      wr.ownsRow w.heap.size 3 1 (.slice AN nR cN) nR (ics ((txs ms).map Wl.need)) ∧ Wl.takeAll bs = (Wl.takeAll t).map (txs ms ++ ·) ∧ Tch 0 [23, 3, 116] w wr ∧ But (fun k => k = pw) w.heap.size w wr) (fun u1 _ _ => lenOf u1)
  case atStart => exact ⟨m, 0, A, n, c, bs, none, 0, [], none, 0, rfl, rfl, rfl, HN.out, hc, HM.out, by omega, HL.out, World.ownsRow_nil _ _ _ _, by simp, HP.out, World.ownsRow_nil _ _ _ _, by cases Wl.takeAll bs <;> simp [txs], Tch.refl _ _ _, But.refl _ _ _⟩
  case round =>
    obtain ⟨j, nR, A1, n1, c1, t, AR, cR, ms, AN, cN, rfl, rfl, hnR, hn1, hc1, htj, hjm, hl1, hor, hfi, hpw, hoi, hta, htc, hbt⟩ := hrel
    have L1 := Lib.hid hl1
    have N1 := Lib.hid hn1
    have TJ := Lib.hid htj
    have NR := Lib.hid hnR
    have OR := Lib.hid hor
    have FI := Lib.hid hfi
    have PW := Lib.hid hpw
    have OI := Lib.hid hoi
    have TA := Lib.hid hta
    have TC := Lib.hid htc
    have BT := Lib.hid hbt
    have n16 : n1 ≤ 1000000 := by omega
    by_cases hz : 0 < n1
    · have hzi : (0 : Int) < (n1 : Int) := by omega
      have tne : t ≠ [] := fun e => by subst e; simp at hn1; omega
      have TN := Lib.hid tne
      clear hl1 hn1 htj hnR hor hfi hpw hoi hta htc hbt tne
      go_wp2_with fail
      refine (fofr_c L1.out N1.out hc1 (by omega)).mono ?_
      rintro e w1 ⟨Ab, nb, cb, kk, er, rfl, hb1, hs1, hs2⟩
      cases hu : Fr.unf t with
      | none =>
        obtain ⟨rfl, rfl, rfl, rfl, rfl⟩ := hs2 hu
        have RN : Hid (Wl.takeAll bs = none) := Lib.hid (by rw [TA.out, Wl.takeAll_none TN.out hu]; rfl)
        have T1 := Lib.hid (TC.out.trans (Tch.of_below hb1 (Nat.zero_le _) _))
        have B1 := Lib.hid (BT.out.trans (But.of_below (hb1.mono BT.out.size) _))
        clear hb1 hs1 hs2 hu
        go_wp2
        go_ret2
        exact ⟨T1.out, B1.out, .inr ⟨RN.out, rfl⟩⟩
      | some x =>
        obtain ⟨rfl, hox, hkk, rfl⟩ := hs1 x hu
        obtain ⟨g1, g2, g3⟩ := Fr.unf_some hu
        have G2 := Lib.hid g2
        obtain ⟨z, hzn⟩ : ∃ z, z = Wl.need x := ⟨_, rfl⟩
        have ne : z = (x.length + 70) / 64 := by rw [hzn]; unfold Wl.need; rw [if_neg (by omega)]
        have z1 : 1 ≤ z := by omega
        have zt : 64 * z ≤ n1 := by have := N1.out; have := TJ.out; omega
        have z2 : z ≤ 1000000 := by omega
        have PC := Lib.hid (fun u : World => vPieces_c (n := 7 + x.length) (w := u) (by omega))
        have ez : (7 + x.length + 63) / 64 = z := by omega
        rw [ez] at PC
        have hk7 : kk = ((7 + x.length : Nat) : Int) := by omega
        rw [← hk7] at PC
        have HZ := Lib.hid hzn
        have TS := Lib.hid (show Wl.takeAll bs = (Wl.takeAll (t.drop (64 * z))).map (txs ms ++ [x] ++ ·) by
          rw [TA.out, Wl.takeAll_some TN.out hu, ← hzn, Option.map_map]
          congr 1
          funext y
          simp)
        have OX := Lib.hid hox
        have HB1 := Lib.hid hb1
        have rx := (own_room hox).2
        have T1 := Lib.hid (Tch.of_below (B := 0) hb1 (Nat.zero_le _) [23, 3, 116])
        have zr1 := hb1.size
        have zwr := BT.out.size
        have PW1 := Lib.hid ((hb1.block pw (lt_of_block PW.out)).trans PW.out)
        have OR1 := Lib.hid (own_below OR.out (hb1.alloc zr1 (.cells #[.slice Ab x.length cb] 23)))
        have LX : Hid (Lies (w1.alloc (.cells #[.slice Ab x.length cb] 23)) 0 23 (some ⟨w1.heap.size, 0, none⟩) (tcells [⟨x, Ab, cb⟩])) := Lib.hid (Lies.of_blk (heap_alloc_new w1 _))
        have OI1 := Lib.hid (own_below OI.out hb1)
        have TD := Lib.hid (TJ.out)
        obtain ⟨X, hX⟩ : ∃ X, X = x.length := ⟨_, rfl⟩
        rw [← hX] at OR1 LX rx ⊢
        have HX := Lib.hid hX
        clear hb1 hs1 hs2 hu hox hkk hk7 g1 g2 g3 ne ez hzn hX
        go_wp2_with (first
          | (go_at_call 77; refine (PC.out _).mono ?_; rintro e w3 ⟨rfl, rfl⟩)
          | (at_builtin; refine wpList_app _ rfl _ _ 83 rfl w.heap.size 23 tt (.slice none 0 0) 1 24 Tryz.underlying83 ht it0 it1 it2 rfl (by decide) _ nR (tcells ms) rfl OR1.out 0 (some ⟨w1.heap.size, 0, none⟩) 1 1 (tcells [⟨x, Ab, cb⟩]) 23 rfl rfl LX.out (tcells_one _) (by unfold maxLen; omega) (by omega) (by simp; omega) ?_; intro v8 w8 hown8 hgr8 _; obtain ⟨A8, k8, rfl⟩ := own_slice hown8; have O8 := Lib.hid hown8; have T8 := Lib.hid ((((Tch.refl 0 [23, 3, 116] w1).alloc (Nat.zero_le _) (.cells #[.slice Ab X cb] 23)).trans (grown_tch (B := 0) (ts := [23, 3, 116]) OR1.out hgr8 (Nat.zero_le _) (Nat.zero_le _) (by simp)))); have B8 := Lib.hid (app_below0 OR1.out hgr8 (by simp; omega)); have z8 := T8.out.size; have PW8 := Lib.hid ((blk_alloc PW1.out (.cells #[.slice Ab X cb] 23))); have PW9 := Lib.hid (grown_blk OR1.out hgr8 PW8.out (by decide)); have c5 : w8.cell? ⟨pw, 5, none⟩ = some (.slice AN nR cN) := (by simp [World.cell?, PW9.out]); have OI8 := Lib.hid (own_below (own_tch (own_tch OI1.out ((Tch.refl 0 [23] w1).alloc (Nat.zero_le _) (.cells #[.slice Ab X cb] 23)) (by decide)) (grown_tch (B := 0) (ts := [23]) OR1.out hgr8 (Nat.zero_le _) (Nat.zero_le _) (by simp)) (by decide)) ((Below.refl w8.heap.size w8).alloc (Nat.le_refl _) (.cells #[.int .i64 (z : Int)] 3))); have LZ : Hid (Lies (w8.alloc (.cells #[.int .i64 (z : Int)] 3)) 0 3 (some ⟨w8.heap.size, 0, none⟩) (ics [z])) := Lib.hid (Lies.of_blk (heap_alloc_new w8 _)); clear hown8 hgr8)
          | (at_builtin; refine wpList_app _ rfl _ _ 114 rfl w.heap.size 3 ti (.int .i64 0) 1 8 Tryz.underlying114 hi iz0 iz1 iz2 rfl (by decide) _ nR (ics ((txs ms).map Wl.need)) rfl OI8.out 0 (some ⟨w8.heap.size, 0, none⟩) 1 1 (ics [z]) 3 rfl rfl LZ.out (ics_one _) (by unfold maxLen; omega) (by omega) (by simp; omega) ?_; intro v9 w9 hown9 hgr9 _; obtain ⟨A9, k9, rfl⟩ := own_slice hown9; have O9 := Lib.hid hown9; have T9 := Lib.hid (((Tch.refl 0 [23, 3, 116] w8).alloc (Nat.zero_le _) (.cells #[.int .i64 (z : Int)] 3)).trans (grown_tch (B := 0) (ts := [23, 3, 116]) OI8.out hgr9 (Nat.zero_le _) (Nat.zero_le _) (by simp))); have T9i := Lib.hid (((Tch.refl 0 [3] w8).alloc (Nat.zero_le _) (.cells #[.int .i64 (z : Int)] 3)).trans (grown_tch (B := 0) (ts := [3]) OI8.out hgr9 (Nat.zero_le _) (Nat.zero_le _) (by simp))); have B9 := Lib.hid (app_below0 OI8.out hgr9 (by simp; omega)); have PWa := Lib.hid (grown_blk OI8.out hgr9 (blk_alloc PW9.out (.cells #[.int .i64 (z : Int)] 3)) (by decide)); have fa := blk_free PWa.out 5; have ca : w9.cell? ⟨pw, 5, none⟩ = some (.slice AN nR cN) := (by simp [World.cell?, PWa.out]); clear hown9 hgr9))
        obtain ⟨wF, hwF⟩ : ∃ wF, wF = w9.setCell ⟨pw, 5, none⟩ (.slice A9 (nR + 1) k9) := ⟨_, rfl⟩
        have tall1 : Tch 0 [23, 3, 116] w1 wF := by
          rw [hwF]
          exact (T8.out.trans T9.out).setCell (p := ⟨pw, 5, none⟩) PWa.out (by simp) (Nat.zero_le _) _
        have tall := T1.out.trans tall1
        have szF : wF.heap.size = w9.heap.size := by rw [hwF]; simp
        have zF := tall.size
        have pwF : wF.heap[pw]? = some (.cells #[.pointer (some ⟨q, 0, none⟩), .int .u64 (g : Int), .int .u64 (a : Int), .int .u64 (b : Int), .int .u64 (r : Int), .slice A9 (nR + 1) k9] 116 (0, 0)) := by
          rw [hwF, blk_set PWa.out]
          rfl
        have orF : wF.ownsRow w.heap.size 23 1 (.slice A8 (nR + 1) k8) (nR + 1) (tcells (ms ++ [⟨x, Ab, cb⟩])) := by
          rw [hwF, show tcells (ms ++ [⟨x, Ab, cb⟩]) = tcells ms ++ tcells [⟨x, Ab, cb⟩] by simp [tcells]]
          exact own_far (p := ⟨pw, 5, none⟩) (own_tch O8.out T9i.out (by decide)) PWa.out (by decide) _
        have oiF : wF.ownsRow w.heap.size 3 1 (.slice A9 (nR + 1) k9) (nR + 1) (ics ((txs (ms ++ [⟨x, Ab, cb⟩])).map Wl.need)) := by
          rw [hwF, show (txs (ms ++ [⟨x, Ab, cb⟩])).map Wl.need = (txs ms).map Wl.need ++ [z] by simp [txs, HZ.out], ics_app]
          exact own_far (p := ⟨pw, 5, none⟩) O9.out PWa.out (by decide) _
        have btF : But (fun k => k = pw) w.heap.size w wF := by
          rw [hwF]
          have y1 := BT.out.trans (But.of_below (HB1.out.mono zwr) (fun k => k = pw))
          have y2 := (y1.alloc (by omega) (.cells #[.slice Ab X cb] 23)).trans (But.of_below B8.out _)
          have y3 := (y2.alloc (by omega) (.cells #[.int .i64 (z : Int)] 3)).trans (But.of_below B9.out _)
          exact y3.setCell (p := ⟨pw, 5, none⟩) (.inl rfl) _
        rw [← hwF]
        refine ⟨⟨j - z, nR + 1, _, n1 - z * 64, c1 - z * 64, t.drop (z * 64), A8, k8, ms ++ [⟨x, Ab, cb⟩], A9, k9, rfl, rfl, by rw [List.length_append, NR.out]; rfl, by rw [List.length_drop, ← N1.out], by omega, by rw [List.length_drop, TD.out]; omega, by have := N1.out; have := TD.out; omega, ?_, orF, fun y hy => ?_, pwF, oiF, ?_, TC.out.trans tall, btF⟩, by simp [lenOf]; omega⟩
        · have y := (L1.out.tch tall (by decide)).cut (z * 64) c1 (by rw [bcells_len, ← N1.out]; exact hc1)
          rwa [bcells_drop] at y
        · rcases List.mem_append.1 hy with hy | hy
          · obtain ⟨⟨y1, y2⟩, y3⟩ := FI.out y hy
            exact ⟨⟨y1.tch tall (by decide), y2⟩, y3.mono (fun k hk => ⟨hk.1, by omega⟩)⟩
          · rw [List.mem_singleton] at hy
            subst hy
            have lt := own_lt OX.out
            exact ⟨⟨(lies_own (B := 0) OX.out).tch tall1 (by decide), by rw [← HX.out]; exact rx⟩, fun ad e => ⟨by have := InF.of_own OX.out (F := fun k => wr.heap.size ≤ k) (fun k hk => hk) ad e; omega, by have := lt ad e; have := tall1.size; omega⟩⟩
        · rw [TS.out, Nat.mul_comm z 64]
          congr 1
          funext y
          simp [txs]
    · obtain rfl : n1 = 0 := by omega
      have t0 : t = [] := List.eq_nil_of_length_eq_zero hn1.symm
      have RN : Hid (Wl.takeAll bs = some (txs ms)) := Lib.hid (by rw [hta, t0, Wl.takeAll_nil]; simp)
      clear hl1 hn1 htj hnR hor hfi hpw hoi hta htc hbt t0
      go_wp2
      go_ret2
      exact ⟨TC.out, BT.out, .inl ⟨AR, nR, cR, ms, AN, cN, rfl, NR.out, RN.out, OR.out, FI.out, PW.out, OI.out⟩⟩

/-- What Open hands back. -/
def VOpenOk (q : Nat) (d : Dk.D) (x : Int × Wl.W) (w : World) (e : Ending) (w' : World) : Prop :=
  Below w.heap.size w w' ∧
  ((x.1 = 0 ∧ ∃ (pw : Nat) (s : VS) (AR : Option Addr) (nR cR : Nat) (ms : List MTx) (AN : Option Addr) (cN : Nat), e = .returned (.tuple #[.pointer (some ⟨pw, 0, none⟩), .slice AR nR cR, .int .i64 0]) ∧ s.wal = x.2 ∧ s.over = false ∧ nR = ms.length ∧ txs ms = s.l ∧
      CW5 w' (fun k => w.heap.size ≤ k ∧ k < w'.heap.size) pw q s.g s.h (Wl.ring d) s.l s.over AN cN ∧ w'.ownsRow w.heap.size 23 1 (.slice AR nR cR) nR (tcells ms) ∧ ∀ m ∈ ms, m.fine w' 0 5 ∧ InF (fun k => w.heap.size ≤ k ∧ k < w'.heap.size) m.A) ∨
    (x.1 ≠ 0 ∧ e = .returned (.tuple #[.pointer none, .slice none 0 0, .int .i64 x.1])))
theorem VOpenOk.bad {q : Nat} {d : Dk.D} {x : Int × Wl.W} {w w' : World} (hb : Below w.heap.size w w') (hx : x.1 ≠ 0) : VOpenOk q d x w (.returned (.tuple #[.pointer none, .slice none 0 0, .int .i64 x.1])) w' := ⟨hb, .inr ⟨hx, rfl⟩⟩

set_option maxHeartbeats 8000000 in
theorem vOpen_c {w : World} {G : Nat → Prop} {q : Nat} {d : Dk.D} (h : CD w G q d) (hG : ∀ k, G k → k < w.heap.size) (hd : d.ok) (hcl : d.cache.length ≤ 10000000) (h3 : 3 ≤ d.s.length) :
    Calls Tryz.prog 41 #[.pointer (some ⟨q, 0, none⟩)] w (VOpenOk q d (Wl.openIt d) w) := by
  have H := Lib.hid h
  have HG := Lib.hid hG
  have HD := Lib.hid hd
  have hf := hd.few
  obtain ⟨g, l, e1, hld⟩ : ∃ g l e1, Su.load d = (g, l, e1) := ⟨_, _, _, rfl⟩
  have LD := Lib.hid hld
  have lc := Lib.hid (suLoad_c h hG hd hcl)
  rw [hld] at lc
  obtain ⟨r, hr⟩ : ∃ r, r = Wl.ring d := ⟨_, rfl⟩
  obtain ⟨N, hN⟩ : ∃ N, N = d.s.length := ⟨_, rfl⟩
  have hrN : r = N - 2 := by rw [hr, hN]; rfl
  have r1 : 1 ≤ r := by omega
  have r2 : r ≤ 4096 := by omega
  have wr0 : IntKind.u64.wrap ((N : Int) - 2) = (r : Int) := by rw [IntKind.wrap_u64]; omega
  have HR := Lib.hid hr
  have SZ : Hid (∀ u, Below w.heap.size w u → Calls Tryz.prog 69 #[.pointer (some ⟨q, 0, none⟩)] u fun e w' => e = .returned (.int .i64 (N : Int)) ∧ u = w') := Lib.hid fun u hu => by
    rw [hN]
    exact cdSizeAt_c (h.keep fun k hk _ => hu.block k (hG k hk))
  have N4 : (N : Int) ≤ 4096 := by omega
  have H3 := Lib.hid h3
  clear h hG hd hld hr hN hrN hf h3
  go_enter Tryz.func41, Tryz.ntmps41
  go_wp2_with fail
  refine lc.out.mono ?_
  rintro e w1 ⟨A1, n1, c1, rfl, hn1, hc1, ho1, hb1⟩
  dsimp only at hn1 ho1 ⊢
  have B1 := Lib.hid hb1
  by_cases q1 : e1 = 0
  · subst q1
    by_cases hl2 : n1 = 2
    · subst hl2
      obtain ⟨a, b, rfl⟩ : ∃ a b, l = [a, b] := by
        match l, hn1 with
        | [a, b], _ => exact ⟨a, b, rfl⟩
      have GD := Lib.hid (Su.load_good LD.out)
      obtain ⟨gA, rfl, hgA, hltA, hcA, _⟩ := own_at ho1 (by decide)
      have x0 : w1.cell? ⟨gA, 0, none⟩ = some (.int .u64 (a : Int)) := hcA 0 _ rfl
      have x1 : w1.cell? ⟨gA, 1, none⟩ = some (.int .u64 (b : Int)) := hcA 1 _ rfl
      have ua : U64 a := GD.out.nums a (by simp)
      have ub : U64 b := GD.out.nums b (by simp)
      clear hcA ho1 hn1 hb1
      by_cases h1 : a ≤ b
      · have h1' : decide (b < a) = false := decide_eq_false (by omega)
        have wr1 : IntKind.u64.wrap ((b : Int) - (a : Int)) = ((b - a : Nat) : Int) := by have := ua.int; have := ub.int; rw [IntKind.wrap_u64]; omega
        by_cases h2 : b - a ≤ r
        · have OE : Hid (Wl.openIt d = ((Wl.walk d r (b - a) a a [] []).1, ⟨g, b, (Wl.walk d r (b - a) a a [] []).2, false⟩)) := Lib.hid (by rw [HR.out]; exact Wl.open_walk LD.out h1 (by rw [← HR.out]; exact h2))
          have WT := Lib.hid (Wl.walk_take HD.out r (b - a) a a [] [] 0 rfl rfl (.inl rfl))
          have h2' : decide (r < b - a) = false := decide_eq_false (by omega)
          have UA := Lib.hid ua
          have UB := Lib.hid ub
          have AB := Lib.hid h1
          have AR := Lib.hid h2
          clear ua ub h1 h2
          go_wp2_with fail
          refine (SZ.out _ B1.out).mono ?_
          rintro e w2 ⟨rfl, rfl⟩
          go_wp2_with fail
          go_quiet (fail)
          clear h1' h2' wr1
          have y0 : (w1.drewN nq).cell? ⟨gA, 0, none⟩ = some (.int .u64 (a : Int)) := x0
          have y1 : (w1.drewN nq).cell? ⟨gA, 1, none⟩ = some (.int .u64 (b : Int)) := x1
          go_wp2_with fail
          go_region
          have P1 := Lib.hid (heap_alloc_new (w1.drewN (nq + 1)) (.cells #[.pointer (some ⟨q, 0, none⟩), .int .u64 (g : Int), .int .u64 (a : Int), .int .u64 (b : Int), .int .u64 (r : Int), .slice none 0 0] 116))
          obtain ⟨w3, hw3⟩ : ∃ w3, w3 = (w1.drewN (nq + 1)).alloc (.cells #[.pointer (some ⟨q, 0, none⟩), .int .u64 (g : Int), .int .u64 (a : Int), .int .u64 (b : Int), .int .u64 (r : Int), .slice none 0 0] 116) := ⟨_, rfl⟩
          have b13 : Below w1.heap.size w1 w3 := by rw [hw3]; exact (below_drewN (Below.refl _ _) _).alloc (Nat.le_refl _) _
          have z3 : w3.heap.size = w1.heap.size + 1 := by rw [hw3]; simp
          rw [← hw3] at P1 ⊢
          have p1 : w3.heap[w1.heap.size]? = some (.cells #[.pointer (some ⟨q, 0, none⟩), .int .u64 (g : Int), .int .u64 (a : Int), .int .u64 (b : Int), .int .u64 (r : Int), .slice none 0 0] 116 (0, 0)) := P1.out
          obtain ⟨t0, _, t2, t3, t4, _⟩ := six p1
          have z1 := B1.out.size
          have bw3 := B1.out.trans (b13.mono z1)
          have BW3 := Lib.hid bw3
          have PP := Lib.hid p1
          have Z3 := Lib.hid z3
          have RC := Lib.hid (vRead_c (pw := w1.heap.size) (H.out.keep (fun k hk _ => bw3.block k (HG.out k hk))) (fun k hk => by have := HG.out k hk; omega) HD.out (by omega) (by omega) t0 t2 t3 t4 r1 r2 AB.out AR.out UB.out)
          obtain ⟨e2, bs, hrd⟩ : ∃ e2 bs, Wl.rdAll d r (b - a) a = (e2, bs) := ⟨_, _, rfl⟩
          have rl := Wl.rdAll_len HD.out r (b - a) a
          rw [hrd] at RC WT rl
          have RL := Lib.hid rl
          dsimp only at RC WT
          clear hw3 b13 z3 p1 t0 t2 t3 t4 y0 y1 x0 x1 bw3 rl hrd P1 z1
          go_wp2_with fail
          refine RC.out.mono ?_
          rintro e w4 ⟨A4, n4, c4, rfl, hn4, hc4, ho4, hb4⟩
          have HN4 := Lib.hid hn4
          have HO4 := Lib.hid ho4
          have HB4 := Lib.hid hb4
          have BW4 := Lib.hid (BW3.out.trans (hb4.mono BW3.out.size))
          clear hn4 ho4 hb4
          by_cases q2 : e2 = 0
          · subst q2
            have bl : bs.length = 64 * (b - a) := RL.out rfl
            have p4 := (HB4.out.block w1.heap.size (by have := Z3.out; omega)).trans PP.out
            have TC := Lib.hid (vTake_c (A := A4) (n := n4) (c := c4) p4 (lies_own (B := 0) HO4.out) HN4.out hc4 bl (by have := AR.out; omega))
            have BL := Lib.hid bl
            clear bl p4
            go_wp2_with fail
            refine TC.out.mono ?_
            rintro e w5 ⟨ht5, hb5, hres⟩
            have T5 := Lib.hid ht5
            have zw := BW3.out.size
            have zw4 := HB4.out.size
            have pw1 : w.heap.size ≤ w1.heap.size := B1.out.size
            have BW5 := Lib.hid (BW4.out.trans ((hb5.mono (G := fun k => k = w1.heap.size) (Nat.le_refl _) (fun _ z => z)).mono (B' := w.heap.size) (by omega) (fun _ z => z) |>.below (fun k hk e => by omega)))
            have B5 := Lib.hid hb5
            clear ht5 hb5
            rcases hres with ⟨AR5, n5, cR5, ms, AN5, cN5, rfl, hn5, hta, hor, hfi, hpw, hoi⟩ | ⟨hta, rfl⟩
            · have OK : Hid (Wl.openIt d = (0, ⟨g, b, Wl.recsAt a (txs ms), false⟩)) := Lib.hid (by
                rw [OE.out, WT.out, List.nil_append, hta]
                rfl)
              obtain ⟨tl1, tl2⟩ := Wl.takeAll_len (b - a) BL.out hta
              have ab : a + Wl.needs (txs ms) = b := by have := AB.out; omega
              have S5 : Hid (VS.wal ⟨g, a, txs ms, false⟩ = ⟨g, b, Wl.recsAt a (txs ms), false⟩) := Lib.hid (by show (⟨g, a + Wl.needs (txs ms), _, _⟩ : Wl.W) = _; rw [ab])
              have z5 := T5.out.size
              have C5 : Hid (CW5 w5 (fun k => w.heap.size ≤ k ∧ k < w5.heap.size) w1.heap.size q g a (Wl.ring d) (txs ms) false AN5 cN5) := Lib.hid (by
                refine ⟨⟨pw1, lt_of_block hpw⟩, ?_, lies_own (B := 0) hoi, fun ad e0 => ⟨?_, own_lt hoi ad e0⟩, by rw [txs_len, ← hn5]; exact (own_room hoi).2, tl2, by rw [tl1, ← HR.out]; exact AR.out, by rw [← HR.out]; exact r1, by rw [← HR.out]; exact r2, GD.out.gen, by rw [ab]; exact UB.out⟩
                · rw [hpw, ab, ← HR.out, txs_len, ← hn5]
                  rfl
                · have y := InF.of_own hoi (F := fun k => w4.heap.size ≤ k) (fun k hk => hk) ad e0
                  omega)
              have OR5 := Lib.hid (own_less hor (b := w.heap.size) (by omega))
              have FI5 : Hid (∀ m ∈ ms, m.fine w5 0 5 ∧ InF (fun k => w.heap.size ≤ k ∧ k < w5.heap.size) m.A) := Lib.hid fun m hm => ⟨(hfi m hm).1, (hfi m hm).2.mono (fun k hk => ⟨by omega, hk.2⟩)⟩
              have N5 := Lib.hid hn5
              clear hta hor hfi hpw hoi tl1 tl2 ab hn5
              go_wp2
              refine bodyPost_ret (results_tmp3 rfl _ _ _) rfl ?_
              rw [OK.out]
              exact ⟨BW5.out, .inl ⟨rfl, w1.heap.size, ⟨g, a, txs ms, false⟩, AR5, n5, cR5, ms, AN5, cN5, rfl, S5.out, rfl, N5.out, rfl, C5.out, OR5.out, FI5.out⟩⟩
            · have OK : Hid (Wl.openIt d = (70, ⟨g, b, [], false⟩)) := Lib.hid (by
                rw [OE.out, WT.out, List.nil_append, hta]
                rfl)
              clear hta
              go_wp2
              refine bodyPost_ret (results_tmp3 rfl _ _ _) rfl ?_
              rw [OK.out]
              exact VOpenOk.bad (x := (70, _)) BW5.out (show (70 : Int) ≠ 0 by decide)
          · have zz : (e2 != 0) = true := by simp [q2]
            have OK : Hid (Wl.openIt d = (e2, ⟨g, b, [], false⟩)) := Lib.hid (by
              rw [OE.out, WT.out, if_neg q2])
            have Q2 := Lib.hid q2
            clear q2
            go_wp2
            refine bodyPost_ret (results_tmp3 rfl _ _ _) rfl ?_
            rw [OK.out]
            exact VOpenOk.bad (x := (e2, _)) BW4.out Q2.out
        · have OE : Hid (Wl.openIt d = (70, ⟨0, 0, [], false⟩)) := Lib.hid (Wl.open_wrong LD.out (by rw [← HR.out]; omega))
          have h2' : decide (r < b - a) = true := decide_eq_true (by omega)
          clear h1 h2 ua ub
          go_wp2_with fail
          refine (SZ.out _ B1.out).mono ?_
          rintro e w2 ⟨rfl, rfl⟩
          go_wp2_with fail
          go_quiet (fail)
          go_wp2
          refine bodyPost_ret (results_tmp3 rfl _ _ _) rfl ?_
          rw [OE.out]
          exact VOpenOk.bad (x := (70, _)) (below_drewN B1.out _) (by decide)
      · have OE : Hid (Wl.openIt d = (70, ⟨0, 0, [], false⟩)) := Lib.hid (Wl.open_wrong LD.out (by omega))
        have h1' : decide (b < a) = true := decide_eq_true (by omega)
        clear h1 ua ub
        go_wp2_with fail
        refine (SZ.out _ B1.out).mono ?_
        rintro e w2 ⟨rfl, rfl⟩
        go_wp2_with fail
        go_quiet (fail)
        go_wp2
        refine bodyPost_ret (results_tmp3 rfl _ _ _) rfl ?_
        rw [OE.out]
        exact VOpenOk.bad (x := (70, _)) (below_drewN B1.out _) (by decide)
    · have OE : Hid (Wl.openIt d = (70, ⟨0, 0, [], false⟩)) := Lib.hid (Wl.open_count LD.out (by rw [← hn1]; exact hl2))
      have ne : ((n1 : Int) != 2) = true := by simp; omega
      clear hn1 ho1 hl2
      go_wp2_with fail
      refine (SZ.out _ B1.out).mono ?_
      rintro e w2 ⟨rfl, rfl⟩
      go_wp2_with fail
      go_quiet (fail)
      go_wp2
      refine bodyPost_ret (results_tmp3 rfl _ _ _) rfl ?_
      rw [OE.out]
      exact VOpenOk.bad (x := (70, _)) (below_drewN B1.out _) (by decide)
  · have zz : (e1 != 0) = true := by simp [q1]
    have OE : Hid (Wl.openIt d = (e1, ⟨0, 0, [], false⟩)) := Lib.hid (Wl.open_err LD.out q1)
    have Q1 := Lib.hid q1
    clear q1
    go_wp2
    refine bodyPost_ret (results_tmp3 rfl _ _ _) rfl ?_
    rw [OE.out]
    exact VOpenOk.bad (x := (e1, _)) B1.out Q1.out

/-- The code's Wal, its disk: all their blocks from B on. -/
structure CWS (w : World) (B : Nat) (E G : Nat → Prop) (pw q : Nat) (s : VS) (d : Dk.D) : Prop where
  x : CWD w E G pw q s d
  eb : ∀ k, E k → B ≤ k
  gb : ∀ k, G k → B ≤ k
/-- What a call on it left. -/
structure CWStep (w w' : World) (B : Nat) (E G E2 G2 : Nat → Prop) (pw q : Nat) (s : VS) (d : Dk.D) : Prop where
  cs : CWS w' B E2 G2 pw q s d
  ne : ∀ k, k < w.heap.size → E2 k → E k
  ng : ∀ k, k < w.heap.size → G2 k → G k
  but : But (fun k => E k ∨ G k) w.heap.size w w'
  below : Below B w w'
section
variable {w w' : World} {B : Nat} {E G : Nat → Prop} {pw q : Nat} {s : VS} {d d' : Dk.D}
theorem CWS.keep (h : CWS w B E G pw q s d) (hb : Below w.heap.size w w') : CWS w' B E G pw q s d := ⟨h.x.keep hb, h.eb, h.gb⟩
theorem CWS.cs (h : CWS w B E G pw q s d) : CS w B G q d := ⟨h.x.cd, fun k hk => ⟨h.gb k hk, h.x.go k hk⟩⟩
theorem VOk.step {y : Int × VS × Dk.D} {e : Ending} (h : CWS w B E G pw q s d) (hB : B ≤ w.heap.size) (hp : VOk E G pw q y w e w') : e = .returned (.int .i64 y.1) ∧ ∃ E2 G2, CWStep w w' B E G E2 G2 pw q y.2.1 y.2.2 := by
  obtain ⟨he, E2, G2, x, ne, ng, b⟩ := hp
  refine ⟨he, E2, G2, ⟨x, fun k hk => ?_, fun k hk => ?_⟩, ne, ng, b, b.os, b.tape, b.output, b.size, fun k hk => b.block k (by omega) (fun z => z.elim (fun y => by have := h.eb k y; omega) (fun y => by have := h.gb k y; omega))⟩
  · rcases Nat.lt_or_ge k w.heap.size with z | z
    · exact h.eb k (ne k z hk)
    · omega
  · rcases Nat.lt_or_ge k w.heap.size with z | z
    · exact h.gb k (ng k z hk)
    · omega
/-- Something is done with the disk alone. -/
theorem CWS.disk {G2 : Nat → Prop} (h : CWS w B E G pw q s d) (hs : CStep w w' B G G2 q d') (hl : d'.s.length = d.s.length) : CWStep w w' B E G E G2 pw q s d' := by
  obtain ⟨AN, cN, y⟩ := h.x.cw
  have rg : Wl.ring d' = Wl.ring d := by unfold Wl.ring; rw [hl]
  exact ⟨⟨⟨hs.cs.cd, ⟨AN, cN, by rw [rg]; exact y.keep (fun k hk => hs.but.block k (h.x.eo k hk) (h.x.ap k hk))⟩, fun k hk => Nat.lt_of_lt_of_le (h.x.eo k hk) hs.below.size, fun k hk => (hs.cs.old k hk).2, fun k hk g => h.x.ap k hk (hs.new k (h.x.eo k hk) g)⟩, h.eb, fun k hk => (hs.cs.old k hk).1⟩, fun _ _ z => z, hs.new, hs.but.mono (Nat.le_refl _) (fun _ z => .inr z), hs.below⟩
end

/-- What Open hands back, beside the disk. -/
theorem VOpenOk.good {w w' : World} {B : Nat} {G : Nat → Prop} {q : Nat} {d : Dk.D} {x : Int × Wl.W} {e : Ending} (h : CS w B G q d) (hB : B ≤ w.heap.size) (hp : VOpenOk q d x w e w') (hx : x.1 = 0) :
    ∃ (pw : Nat) (s : VS) (AR : Option Addr) (cR : Nat) (ms : List MTx), e = .returned (.tuple #[.pointer (some ⟨pw, 0, none⟩), .slice AR ms.length cR, .int .i64 0]) ∧ s.wal = x.2 ∧ s.over = false ∧ txs ms = s.l ∧
      CWS w' B (fun k => w.heap.size ≤ k ∧ k < w'.heap.size) G pw q s d ∧ w'.ownsRow w.heap.size 23 1 (.slice AR ms.length cR) ms.length (tcells ms) ∧ (∀ m ∈ ms, m.fine w' 0 5 ∧ InF (fun k => w.heap.size ≤ k ∧ k < w'.heap.size) m.A) ∧ Below w.heap.size w w' := by
  obtain ⟨hb, h1 | h1⟩ := hp
  · obtain ⟨_, pw, s, AR, nR, cR, ms, AN, cN, he, h2, h3, h4, h5, h6, h7, h8⟩ := h1
    subst h4
    have cd := h.cd.keep (w' := w') (fun k hk _ => hb.block k (h.old k hk).2)
    exact ⟨pw, s, AR, cR, ms, he, h2, h3, h5, ⟨⟨cd, ⟨AN, cN, h6⟩, fun k hk => hk.2, fun k hk => Nat.lt_of_lt_of_le (h.old k hk).2 hb.size, fun k hk g => by have := (h.old k g).2; omega⟩, fun k hk => by have := hk.1; omega, fun k hk => (h.old k hk).1⟩, h7, h8, hb⟩
  · exact absurd hx h1.1

theorem VS.of_wal {s : VS} {g h : Nat} {l : List (List UInt8)} (e : s.wal = Wl.wal g h l) : s = ⟨g, h, l, false⟩ := by
  obtain ⟨sg, sh, sl, so⟩ := s
  have e' : (⟨sg, sh + Wl.needs sl, Wl.recsAt sh sl, so⟩ : Wl.W) = ⟨g, h + Wl.needs l, Wl.recsAt h l, false⟩ := e
  injection e' with e1 e2 e3 e4
  have e5 : sl = l := by
    have z := congrArg (List.map (·.b)) e3
    rwa [Wl.recsAt_map, Wl.recsAt_map] at z
  subst e5
  have e6 : sh = h := by omega
  rw [e1, e4, e6]
theorem VS.wal_of {s : VS} (ho : s.over = false) : s.wal = Wl.wal s.g s.h s.l := by
  show (⟨_, _, _, s.over⟩ : Wl.W) = _
  rw [ho]
  rfl

namespace Dk
theorem write_bad (d : D) (i : Int) (b : List UInt8) : (write d i b).2.bad = d.bad := by
  unfold write
  split
  · rfl
  split
  · rfl
  split
  · rfl
  split
  · show (act d).2.bad = _
    rw [act_bad]
  · rw [act_bad]
theorem flush_bad (d : D) : (flush d).2.bad = d.bad := by
  unfold flush
  split
  · show (act d).2.bad = _
    rw [act_bad]
  · rw [act_bad]
theorem write_fine {k : Nat} {d : D} (h : Live k d) {i : Nat} {b : List UInt8} (hi : i < d.s.length) (hb : b.length ≤ 64) : (write d (i : Int) b).1 = 0 := by
  unfold write
  rw [if_neg (by rw [h.2.2.1]; simp), if_neg (by rw [has_iff.2 ⟨by omega, by omega⟩]; simp), if_neg (by omega), act_live h, if_pos rfl]
theorem Live.up {k m : Nat} {d : D} (h : Live k d) (hk : k ≤ m) : Live m d := ⟨h.1, h.2.1, h.2.2.1, by have := h.2.2.2; omega⟩
end Dk
theorem save_bad (d : Dk.D) (g : Nat) (l : List Nat) : (Su.save d g l).2.bad = d.bad := by
  unfold Su.save
  split
  · rfl
  split
  · split
    · rw [Dk.flush_bad, Dk.write_bad, Dk.flush_bad]
    · rw [Dk.write_bad, Dk.flush_bad]
  · rw [Dk.flush_bad]
theorem format_bad (d : Dk.D) (l : List Nat) : (Su.format d l).2.bad = d.bad := by
  unfold Su.format
  split
  · split
    · rw [save_bad, Dk.write_bad, Dk.write_bad]
    · rw [Dk.write_bad, Dk.write_bad]
  · rw [Dk.write_bad]
theorem save_live {k : Nat} {d : Dk.D} (h : Dk.Live k d) {g : Nat} {l : List Nat} (h2 : 2 ≤ d.s.length) (hl : l.length ≤ 4) : (Su.save d g l).1 = 0 ∧ Dk.Live (k + 1) (Su.save d g l).2 := by
  have f1 := Dk.flush_live h
  have w1 := Dk.write_fine f1 (i := g % 2) (b := Su.slot g l) (by rw [flush_size]; omega) (by have := Su.slot_fits (g := g) hl; omega)
  have w2 := Dk.write_live f1 ((g % 2 : Nat) : Int) (Su.slot g l)
  unfold Su.save
  rw [if_neg (by omega), if_pos (Dk.flush_fine h), if_pos w1]
  exact ⟨Dk.flush_fine w2, Dk.flush_live w2⟩
theorem wrs_live {r : Nat} (cs : List (List UInt8)) : ∀ {k : Nat} {d : Dk.D} (p : Nat), r = Wl.ring d → 3 ≤ d.s.length → (∀ c ∈ cs, c.length ≤ 64) → Dk.Live k d → (Wl.wrs r p cs d).1 = 0 ∧ Dk.Live (k + cs.length) (Wl.wrs r p cs d).2 := by
  induction cs with
  | nil => intro k d p _ _ _ h; exact ⟨rfl, h⟩
  | cons c cs ih =>
    intro k d p hr h3 hc h
    have w1 := Dk.write_fine h (i := 2 + p % r) (b := c) (by rw [hr]; exact Wl.place h3 p) (hc c (by simp))
    unfold Wl.wrs
    rw [if_pos w1]
    obtain ⟨q1, q2⟩ := ih (p + 1) (by rw [hr]; unfold Wl.ring; rw [write_size]) (by rw [write_size]; exact h3) (fun x hx => hc x (by simp [hx])) (Dk.write_live h ((2 + p % r : Nat) : Int) c)
    exact ⟨q1, q2.up (by simp; omega)⟩
/-- A change goes well where there is room, and the disk isn't armed. -/
theorem vchg_live {s : VS} {d : Dk.D} {gone k : Nat} {m : List (List UInt8)} (ho : s.over = false) (hr : Wl.roomE (Wl.ring d - Wl.needs s.l) m = 0) (h3 : 3 ≤ d.s.length) (h : Dk.Live k d) : (vchg s d gone m).1 = 0 ∧ Dk.Live (k + (Wl.chunks m).length + 1) (vchg s d gone m).2.2 := by
  obtain ⟨w1, w2⟩ := wrs_live (r := Wl.ring d) (Wl.chunks m) (s.h + Wl.needs s.l) rfl h3 (Wl.chunks_small m) h
  obtain ⟨e, D, hw⟩ : ∃ e D, Wl.wrs (Wl.ring d) (s.h + Wl.needs s.l) (Wl.chunks m) d = (e, D) := ⟨_, _, rfl⟩
  have sz := wrs_size (r := Wl.ring d) (Wl.chunks m) (d := d) (s.h + Wl.needs s.l)
  rw [hw] at w1 w2 sz
  dsimp only at w1 w2 sz
  subst w1
  obtain ⟨s1, s2⟩ := save_live w2 (g := s.g + 1) (l := [s.h + Wl.needs (s.l.take gone), s.h + Wl.needs (s.l.take gone) + Wl.needs (s.l.drop gone ++ m)]) (by rw [sz]; omega) (by simp)
  have ve : vsave s D (s.h + Wl.needs (s.l.take gone)) (s.l.drop gone ++ m) = (0, ⟨s.g + 1, s.h + Wl.needs (s.l.take gone), s.l.drop gone ++ m, false⟩, (Su.save D (s.g + 1) [s.h + Wl.needs (s.l.take gone), s.h + Wl.needs (s.l.take gone) + Wl.needs (s.l.drop gone ++ m)]).2) := by
    unfold vsave
    rw [if_pos s1]
  rw [vchg_save ho hr hw ve]
  exact ⟨rfl, s2⟩
/-- A change that goes well, on a disk with nothing cached. -/
theorem vchg_good {s : VS} {d : Dk.D} {m : List (List UInt8)} (sw : Bool) (ho : s.over = false) (i : Wl.Idle d) (hl : -1 ≤ d.left) (t : Wl.Good d s.g s.h s.l) (hg : s.g + 1 < 18446744073709551616) (hn : s.h + Wl.needs s.l + Wl.needs m < 18446744073709551616) :
    ∃ e s' d', vchg s d (if sw = true then s.l.length else 0) m = (e, s', d') ∧ Wl.Ends s.g s.h s.l (Wl.nextHead s.h s.l sw) (Wl.nextRecs s.l m sw) d (Wl.needs m + 1) e s'.wal d' := by
  obtain ⟨e, w, d', he, hE⟩ := Wl.put_ends sw i hl t (l := m) hg hn
  have ps := put_same (s := s) (m := m) (sw := sw) t.len
  obtain ⟨e0, s0, d0, hv⟩ : ∃ e0 s0 d0, vchg s d (if sw = true then s.l.length else 0) m = (e0, s0, d0) := ⟨_, _, _, rfl⟩
  rw [VS.wal_of ho, he, hv] at ps
  dsimp only at ps
  injection ps with p1 p2
  injection p2 with p2 p3
  refine ⟨e0, s0, d0, hv, ?_⟩
  rw [← p1, ← p3]
  exact p2 ▸ hE
theorem vcut_good {s : VS} {d : Dk.D} (n : Int) (ho : s.over = false) (i : Wl.Idle d) (hl : -1 ≤ d.left) (t : Wl.Good d s.g s.h s.l) (hg : s.g + 1 < 18446744073709551616) (hn : s.h + Wl.needs s.l < 18446744073709551616) :
    ∃ e s' d', vcut s d n = (e, s', d') ∧ Wl.Ends s.g s.h s.l (s.h + Wl.needs (s.l.take n.toNat)) (s.l.drop n.toNat) d 1 e s'.wal d' := by
  obtain ⟨e, w, d', he, hE⟩ := Wl.drop_ends n i hl t hg hn
  have ps := drop_same (s := s) (n := n) t.len
  obtain ⟨e0, s0, d0, hv⟩ : ∃ e0 s0 d0, vcut s d n = (e0, s0, d0) := ⟨_, _, _, rfl⟩
  rw [VS.wal_of ho, he, hv] at ps
  dsimp only at ps
  injection ps with p1 p2
  injection p2 with p2 p3
  refine ⟨e0, s0, d0, hv, ?_⟩
  rw [← p1, ← p3]
  exact p2 ▸ hE
/-- A disk that was made and formatted. -/
theorem format_good {n : Int} (hn : 3 ≤ n) : (Wl.format (Dk.new n)).1 = 0 ∧ Wl.Idle (Wl.format (Dk.new n)).2 ∧ (Wl.format (Dk.new n)).2.left = -1 ∧ Wl.Good (Wl.format (Dk.new n)).2 0 0 [] ∧ (Wl.format (Dk.new n)).2.s.length = (Dk.new n).s.length := by
  have nl : 3 ≤ (Dk.new n).s.length := by
    show 3 ≤ (List.replicate (Dk.count n) _).length
    rw [List.length_replicate]
    unfold Dk.count
    omega
  have F : Wl.format (Dk.new n) = Su.format (Dk.new n) [0, 0] := by unfold Wl.format Wl.ring; rw [if_neg (by omega)]
  obtain ⟨f1, f2, f3, f4, f5⟩ := Su.format_well (n := n) (by omega) (l := [0, 0]) ⟨by decide, by intro x hx; simp at hx; subst hx; decide, by decide⟩
  rw [F]
  have bad : ∀ i, (Su.format (Dk.new n) [0, 0]).2.bad.getD i false = false := fun i => by
    rw [format_bad]
    show (List.replicate (Dk.count n) false).getD i false = false
    rw [List.getD_eq_getElem?_getD, List.getElem?_replicate]
    split <;> rfl
  refine ⟨f1, ⟨f2.ok, f2.dead, f2.cache, bad⟩, f3, ⟨f5, by rw [f4]; exact nl, by simp, by simp [Wl.needs], fun j c hc => by simp at hc⟩, f4⟩
end Go.Proofs.YtpnfpeeijghamaaGreat
