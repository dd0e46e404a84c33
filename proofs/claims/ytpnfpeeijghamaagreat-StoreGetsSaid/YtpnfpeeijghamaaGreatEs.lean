/- Stage 8: the laws' own helpers: awake, Few. Stage 8: Few, SamePuts; deeds in memory. Stage 8: results in a cell. -/
import Derived.Test.YtpnfpeeijghamaaGreatEo
import Derived.MapKept
namespace Go.Proofs.YtpnfpeeijghamaaGreat
set_option maxRecDepth 100000

section
open Go.RowKit Go.Maps

theorem str_size (l : List UInt8) : (str l).size = l.length := rfl
theorem of_r0 : St.opn [] [St.r0] = some [] := by
  have e := St.of_bts true [] (by decide) (by simp)
  rw [St.opn, if_pos (by show (St.of (St.bts true [])).1 = 0; rw [e]), show St.of St.r0 = (0, true, []) from e]
  rfl

/-- A Store that has done but well, on a disk that isn't armed. -/
structure Live8 (k : Nat) (s : VS) (d : Dk.D) (L : List St.KV) : Prop where
  idle : Wl.Idle d
  left : d.left = -1
  good : Wl.Good d s.g s.h s.l
  over : s.over = false
  ne : s.l ≠ []
  opn : St.opn [] s.l = some L
  gen : s.g = 1 + k
  head : s.h = 0
  cnt : s.l.length = 1 + k
  sum : Wl.needs s.l ≤ 1 + 31 * k
  srt : St.Srt L
  sml : St.Sml 30 200 L
  num : L.length ≤ 8 * k
theorem Live8.start {d : Dk.D} (i : Wl.Idle d) (hl : d.left = -1) (t : Wl.Good d 1 0 [St.r0]) : Live8 0 ⟨1, 0, [St.r0], false⟩ d [] :=
  ⟨i, hl, t, rfl, by simp, of_r0, rfl, rfl, rfl, by decide, by simp [St.Srt], fun x hx => by simp at hx, by simp⟩
/-- Puts that are few. -/
def Few8 (l : List St.Pu) : Prop := l.length ≤ 8 ∧ ∀ p ∈ l, p.k.length ≤ 30 ∧ p.v.length ≤ 200
theorem Few8.len {l : List St.Pu} (h : Few8 l) (all : Bool) : (St.bts all l).length ≤ 1900 := by
  have q := St.bts_len (all := all) h.2 (by have := h.1; omega) (by decide) (by decide)
  have := h.1
  have : (30 + 200 + 7) * l.length ≤ 237 * 8 := Nat.mul_le_mul (by decide) h.1
  omega
theorem Few8.need {l : List St.Pu} (h : Few8 l) (all : Bool) : Wl.need (St.bts all l) ≤ 31 := by
  have := h.len all
  unfold Wl.need
  rw [if_neg (by omega)]
  omega
/-- All that is there, behind at most twelve commits. -/
theorem whole_len {L : List St.KV} (h : St.Sml 30 200 L) {k : Nat} (hL : L.length ≤ 8 * k) (hk : k ≤ 20) : (St.bts true (St.puts L)).length ≤ 38000 ∧ Wl.need (St.bts true (St.puts L)) ≤ 30 * k + 2 := by
  have q := St.bts_len (all := true) (St.sml_puts h) (by rw [St.puts_len]; omega) (by decide) (by decide)
  rw [St.puts_len] at q
  have z : (30 + 200 + 7) * L.length ≤ 237 * (8 * k) := Nat.mul_le_mul (by decide) hL
  have : (St.bts true (St.puts L)).length ≤ 38000 := by omega
  refine ⟨this, ?_⟩
  unfold Wl.need
  rw [if_neg (by omega)]
  omega
theorem Live8.next {k : Nat} {s : VS} {d : Dk.D} {L : List St.KV} (h : Live8 k s d L) {l : List St.Pu} (hf : Few8 l) (hk : k ≤ 12) (hr : 31 * (k + 1) + 1 ≤ Wl.ring d) :
    ∃ s' d', vchg s d 0 [St.bts false l] = (0, s', d') ∧ Live8 (k + 1) s' d' (St.hap L l) ∧ d'.s.length = d.s.length := by
  have nd := hf.need false
  have ln := hf.len false
  have sm := h.sum
  obtain ⟨d', a1, a2, a3, a4, a5⟩ := vchg_fine (m := [St.bts false l]) false h.over h.idle h.left h.good (Wl.roomE_ok (by simpa using (by omega)) (by rw [needs1]; omega)) (by have := h.gen; omega) (by rw [needs1, h.head]; omega)
  refine ⟨_, d', a1, ⟨a2, a3, a4, rfl, ?_, ?_, ?_, ?_, ?_, ?_, St.srt_hap h.srt, St.sml_hap hf.2 h.sml, ?_⟩, a5⟩
  · show s.l ++ [St.bts false l] ≠ []
    simp
  · show St.opn [] (s.l ++ [St.bts false l]) = _
    exact St.opn_add h.opn (by have := hf.1; omega) (fun p hp => by have := hf.2 p hp; omega)
  · show s.g + 1 = _; have := h.gen; omega
  · exact h.head
  · show (s.l ++ [St.bts false l]).length = _
    rw [List.length_append, h.cnt]
    simp
    omega
  · show Wl.needs (s.l ++ [St.bts false l]) ≤ _
    have e : Wl.needs (s.l ++ [St.bts false l]) = Wl.needs s.l + Wl.need (St.bts false l) := by simp [Wl.needs]
    rw [e]
    omega
  · have := St.hap_len (l := l) (L := L)
    have := h.num
    have := hf.1
    omega
/-- What Commit wants, behind few commits. -/
theorem Live8.fit {k : Nat} {s : VS} {d : Dk.D} {L : List St.KV} (h : Live8 k s d L) {l : List St.Pu} (hf : Few8 l) (hk : k ≤ 12) (hr : 1 + 31 * k + 31 + 30 * (k + 1) + 2 ≤ Wl.ring d) :
    Wl.need (St.bts false l) + Wl.need (St.bts true (St.puts (St.hap L l))) ≤ Wl.ring d - Wl.needs s.l ∧ (St.bts false l).length ≤ 60000 ∧ (St.bts true (St.puts (St.hap L l))).length ≤ 60000 ∧ (∀ x ∈ St.hap L l, x.1.length < 128 ∧ x.2.length ≤ 60000) ∧ (St.hap L l).length ≤ 4096 := by
  have h1 := hf.need false
  have h2 := hf.len false
  have h3 := h.sum
  have h4 := St.sml_hap hf.2 h.sml
  have h5 : (St.hap L l).length ≤ 8 * (k + 1) := by
    have := St.hap_len (l := l) (L := L)
    have := h.num
    have := hf.1
    omega
  obtain ⟨h6, h7⟩ := whole_len h4 h5 (by omega)
  exact ⟨by omega, by omega, by omega, fun x hx => by have := h4 x hx; omega, by omega⟩

/-! The chapter's example. -/
def pA : St.Pu := ⟨[97], [49], false⟩
theorem hap_A : St.hap [] [pA] = [([97], [49])] := rfl
theorem need_A : Wl.need (St.bts false [pA]) = 1 ∧ (St.bts false [pA]).length ≤ 100 ∧ Wl.need (St.bts true (St.puts (St.hap [] [pA]))) = 1 ∧ (St.bts true (St.puts (St.hap [] [pA]))).length ≤ 100 := by
  have e : ∀ b : Bool, (St.bts b [pA]).length = 7 := fun b => rfl
  have e2 : St.puts (St.hap [] [pA]) = [pA] := rfl
  have n : ∀ b : Bool, Wl.need (St.bts b [pA]) = 1 := fun b => by unfold Wl.need; rw [e, if_neg (by decide)]
  rw [e2]
  exact ⟨n _, by rw [e]; decide, n _, by rw [e]; decide⟩

set_option maxHeartbeats 8000000 in
set_option maxRecDepth 100000 in
theorem awake8 (w : World) : Calls Tryz.prog 6 #[] w fun e w' => e = .returned (.bool true) ∧ Below w.heap.size w w' := by
  obtain ⟨D1, D2, g1, g2, g3, g4, g5, g6, g7, g8, g9, g10⟩ := fmt_fine (n := 16) (by decide)
  have l16 : (Dk.new 16).s.length = 16 := rfl
  rw [l16] at g10
  have rg : Wl.ring D2 = 14 := by unfold Wl.ring; rw [g10]
  obtain ⟨D3, a1, a2, a3, a4, a5⟩ := vchg_fine (s := ⟨1, 0, [St.r0], false⟩) (d := D2) (m := [St.bts false [pA]]) false rfl g7 g8 g9 (Wl.roomE_ok (by simpa using Nat.le_trans need_A.2.1 (by decide)) (by show ¬ (Wl.ring D2 - Wl.needs [St.r0] < Wl.needs [St.bts false [pA]]); rw [needs1, needs1, need_A.1, rg]; decide)) (by decide) (by decide)
  have A1' := Lib.hid (show vchg ⟨1, 0, [St.r0], false⟩ D2 0 [St.bts false [pA]] = (0, ⟨2, 0, [St.r0, St.bts false [pA]], false⟩, D3) from a1)
  have OP3 : St.opn [] [St.r0, St.bts false [pA]] = some [([97], [49])] := St.opn_add (t := [St.r0]) of_r0 (l := [pA]) (by decide) (by simp [pA])
  have G1 := Lib.hid g1
  have G2 := Lib.hid g2
  have G3 := Lib.hid g3
  have G4 := Lib.hid g4
  have G5 := Lib.hid g5
  have G6 := Lib.hid g6
  have G7 := Lib.hid g7
  have G8 := Lib.hid g8
  have G9 := Lib.hid g9
  have RG := Lib.hid rg
  have L10 := Lib.hid (show 3 ≤ D2.s.length by rw [g10]; decide)
  have A2' := Lib.hid a2
  have A4' := Lib.hid (show Wl.Good D3 2 0 [St.r0, St.bts false [pA]] from a4)
  have O3 := Lib.hid OP3
  clear g1 g2 g3 g4 g5 g6 g7 g8 g9 g10 rg a1 a2 a3 a4 a5 OP3 l16
  have kc := fun (w : World) (C : Array Value) (n c : Nat) => Lib.run_convert_bytes_const (P := Tryz.prog) w 23 5 C n c Tryz.underlying23 Tryz.underlying5
  go_enter Tryz.func6, Tryz.ntmps6
  go_wp2_with fail
  refine (cdNew_c _ _ (by decide)).mono ?_
  intro e w1 hp
  obtain ⟨q, G1', rfl, hs1, _, hb1⟩ := CNewOk.step (Nat.le_refl _) hp
  have S1 := Lib.hid hs1
  have B1 := Lib.hid hb1
  have z1 := hb1.size
  clear hp hs1 hb1
  go_wp2_with fail
  refine (stFormat_c S1.out z1 G1.out G2.out G3.out G4.out G5.out G6.out).mono ?_
  rintro e w2 ⟨rfl, ⟨G2', hs2⟩, hb2⟩
  have S2 := Lib.hid hs2
  have B2 := Lib.hid (B1.out.trans hb2)
  have z2 := B2.out.size
  clear hs2 hb2
  go_wp2_with fail
  refine (stOpen_c S2.out z2 G7.out G9.out (by simp) of_r0 (by decide)).mono ?_
  rintro e w3 ⟨E3, V3, sp, pw, mb, rfl, hs3, hb3⟩
  have S3 := Lib.hid hs3
  have B3 := Lib.hid (B2.out.trans (hb3.mono z2))
  have z3 := B3.out.size
  clear hs3 hb3
  go_wp2_with fail
  have kb : (w3.alloc (.cells #[.int .u8 49] 5 (1, 2))).heap[w3.heap.size]? = some (.cells #[.int .u8 49] 5 (1, 2)) := heap_alloc_new w3 _
  have LA : Lies (w3.alloc (.cells #[.int .u8 49] 5 (1, 2))) 0 5 (some ⟨w3.heap.size, 0, none⟩) (bcells pA.v) := Lies.of_blk kb
  have al : Below w3.heap.size w3 ((w3.alloc (.cells #[.int .u8 49] 5 (1, 2))).alloc (.cells #[.string { data := #[97] }, .slice (some ⟨w3.heap.size, 0, none⟩) 1 1, .bool false] 33)) := ((Below.refl _ w3).alloc (Nat.le_refl _) _).alloc (by simp) _
  have UA : UL ((w3.alloc (.cells #[.int .u8 49] 5 (1, 2))).alloc (.cells #[.string { data := #[97] }, .slice (some ⟨w3.heap.size, 0, none⟩) 1 1, .bool false] 33)) 0 33 5 (some ⟨w3.heap.size + 1, 0, none⟩) [⟨pA, some ⟨w3.heap.size, 0, none⟩, 1⟩] :=
    ⟨lies_newput (w3.alloc (.cells #[.int .u8 49] 5 (1, 2))) ⟨pA, some ⟨w3.heap.size, 0, none⟩, 1⟩ (g := w3.heap.size + 1) (by simp), fun m hm => by
      rw [List.mem_singleton] at hm
      subst hm
      exact ⟨LA.alloc (Nat.zero_le _) _, Nat.le_refl _⟩⟩
  have S4 := Lib.hid (S3.out.keep al)
  have B4 := Lib.hid (B3.out.trans (al.mono z3))
  have z4 : w.heap.size ≤ ((w3.alloc (.cells #[.int .u8 49] 5 (1, 2))).alloc (.cells #[.string { data := #[97] }, .slice (some ⟨w3.heap.size, 0, none⟩) 1 1, .bool false] 33)).heap.size := B4.out.size
  have cm := commit_c (nl := 1) (c := 1) S4.out z4 rfl G7.out.ok (i64_of G8.out) (by rw [G7.out.cache]; decide) (U64.of (by decide)) (b1 := St.bts false [pA]) (b2 := St.bts true (St.puts (St.hap [] [pA]))) (L2 := [([97], [49])]) (show U64 (0 + Wl.needs [St.r0] + Wl.needs [St.bts false [pA]]) from U64.of (by rw [needs1, needs1, need_A.1]; decide)) L10.out UA rfl (show 0 < 1 by decide) (show 1 ≤ 4096 by decide) (by intro m hm; rw [List.mem_singleton] at hm; subst hm; exact (show pA.k.length < 128 ∧ pA.v.length ≤ 60000 by decide)) rfl (by intro x hx; rw [List.mem_singleton] at hx; subst hx; decide) (by decide) (by decide) rfl rfl (Nat.le_trans need_A.2.1 (by decide)) (Nat.le_trans need_A.2.2.2 (by decide)) (by show _ ≤ Wl.ring D2 - Wl.needs [St.r0]; rw [need_A.1, need_A.2.2.1, RG.out]; decide)
  rw [A1'.out] at cm
  refine cm.mono ?_
  clear cm UA LA kb al
  rintro e w5 ⟨rfl, E5, G5', V5, mb5, stp⟩
  have S5 := Lib.hid stp.ss
  have B5 := Lib.hid (B4.out.trans stp.below)
  have z5 := B5.out.size
  clear stp
  go_wp2_with fail
  refine (stOpen_c S5.out.ws.cs z5 A2'.out A4'.out (by simp) O3.out (by decide)).mono ?_
  rintro e w6 ⟨E6, V6, sp6, pw6, mb6, rfl, hs6, hb6⟩
  have S6 := Lib.hid hs6
  have B6 := Lib.hid (B5.out.trans (hb6.mono z5))
  clear hs6 hb6
  obtain ⟨D6, hk6⟩ := S6.out.km
  have GT := Lib.hid (get_c (k := [97]) S6.out.st hk6 (by decide) (some [49]) (fun u e => by injection e with e; subst e; exact ⟨by simp, by decide⟩) (fun e => by cases e))
  clear hk6
  go_wp2_with fail
  refine GT.out.mono ?_
  rintro e w7 ⟨A7, n7, c7, rfl, rfl, hL7, hb7⟩
  have cv := conv_at (c := c7) hL7 rfl
  have B7 := Lib.hid (B6.out.trans (hb7.mono B6.out.size))
  clear hL7 hb7
  dsimp only [Option.getD_some, List.length_cons, List.length_nil, Option.isSome_some] at cv ⊢
  go_wp2
  go_ret
  exact ⟨rfl, B7.out⟩
end

section
open Go.RowKit Go.Maps

/-- It told whether puts are few. -/
def FewOk (ms : List MPu) (w : World) (e : Ending) (w' : World) : Prop := (∃ b, e = .returned (.bool b) ∧ (b = true ↔ Few8 (pus ms))) ∧ Below w.heap.size w w'

set_option maxHeartbeats 1000000 in
set_option maxRecDepth 100000 in
theorem few8_c {A : Option Addr} {c n : Nat} {ms : List MPu} {w : World} {B : Nat} {tp tb : TypeId} (h : UL w B tp tb A ms) (hB : B ≤ w.heap.size) (hn : n = ms.length) (hs : n ≤ maxLen) (hl : ∀ m ∈ ms, m.p.k.length ≤ maxLen ∧ m.p.v.length ≤ maxLen) :
    Calls Tryz.prog 7 #[.slice A n c] w (FewOk ms w) := by
  have HP := Lib.hid h
  have HL := Lib.hid hl
  have hs2 : n ≤ 9223372036854775807 := by unfold maxLen at hs; omega
  clear h hl hs
  subst hn
  go_enter Tryz.func7, Tryz.ntmps7
  go_wp2_with fail
  go_loopw [7] (fun i wr => ∃ k : Nat, k ≤ ms.length ∧ i = .int .i64 (k : Int) ∧ (∀ m ∈ ms.take k, m.p.k.length ≤ 30 ∧ m.p.v.length ≤ 200) ∧ Below w.heap.size w wr) (fun i _ => ms.length - (intOf i).toNat)
  case atStart => exact ⟨0, Nat.zero_le _, rfl, by simp, Below.refl _ _⟩
  case round =>
    obtain ⟨k, hk, rfl, hall, hb⟩ := hrel
    have HA := Lib.hid hall
    clear hall
    by_cases hlt : k < ms.length
    · obtain ⟨ad, m, rfl, hm, _, d0, d1, d2⟩ := (HP.out.below hB hb).at_ hlt
      have HM := Lib.hid hm
      have hmem := List.mem_of_getElem? hm
      have hsz : (str m.p.k).size = m.p.k.length := rfl
      have lk : m.p.k.length ≤ 9223372036854775807 := by have := (HL.out m hmem).1; unfold maxLen at this; omega
      have lv : m.p.v.length ≤ 9223372036854775807 := by have := (HL.out m hmem).2; unfold maxLen at this; omega
      clear hm hmem
      have no : ¬ (m.p.k.length ≤ 30 ∧ m.p.v.length ≤ 200) → ¬ Few8 (pus ms) := fun q f => q (f.2 m.p (List.mem_map.2 ⟨m, List.mem_of_getElem? HM.out, rfl⟩))
      have NO := Lib.hid no
      clear no
      by_cases q1 : 30 < m.p.k.length
      · have q1' : (30 : Int) < (m.p.k.length : Int) := by omega
        go_wp2
        go_ret
        exact ⟨⟨false, rfl, fun e => (by cases e), fun f => absurd f (NO.out (by omega))⟩, hb.alloc hb.size _⟩
      · have q1' : ¬ (30 : Int) < (m.p.k.length : Int) := by omega
        by_cases q2 : 200 < m.p.v.length
        · have q2' : (200 : Int) < (m.p.v.length : Int) := by omega
          go_wp2
          go_ret
          exact ⟨⟨false, rfl, fun e => (by cases e), fun f => absurd f (NO.out (by omega))⟩, hb.alloc hb.size _⟩
        · have q2' : ¬ (200 : Int) < (m.p.v.length : Int) := by omega
          go_wp2
          go_roundw
          case rel =>
            refine ⟨k + 1, by omega, by go_num, ?_, hb.alloc hb.size _⟩
            rw [take_next HM.out]
            intro q hq
            rw [List.mem_append, List.mem_singleton] at hq
            rcases hq with hq | rfl
            · exact HA.out q hq
            · exact ⟨by omega, by omega⟩
          case measure => simp [intOf]; omega
    · obtain rfl : k = ms.length := by omega
      have ha := HA.out
      rw [List.take_length] at ha
      have fw : Few8 (pus ms) ↔ ms.length ≤ 8 := ⟨fun f => by have := f.1; rwa [pus_len] at this, fun q => ⟨by rw [pus_len]; exact q, fun p hp => by obtain ⟨m, hm, rfl⟩ := List.mem_map.1 hp; exact ha m hm⟩⟩
      have FW := Lib.hid fw
      clear ha fw
      by_cases q : ms.length ≤ 8
      · have q' : (ms.length : Int) ≤ 8 := by omega
        go_wp2
        go_ret
        exact ⟨⟨true, rfl, fun _ => FW.out.2 q, fun _ => rfl⟩, hb⟩
      · have q' : ¬ (ms.length : Int) ≤ 8 := by omega
        go_wp2
        go_ret
        exact ⟨⟨false, rfl, fun e => (by cases e), fun f => absurd (FW.out.1 f) q⟩, hb⟩

/-- A deed, and where its lists lie. -/
structure MDe where
  kind : Int
  L : List MPu
  LA : Option Addr
  Lc : Nat
  n : Int
  keep : List Bool
  KA : Option Addr
  Kc : Nat
def MDe.cells (m : MDe) : List Value := [.int .i64 m.kind, .slice m.LA m.L.length m.Lc, .int .i64 m.n, .slice m.KA m.keep.length m.Kc]
def MDe.ok (m : MDe) : Prop := (-9223372036854775808 ≤ m.kind ∧ m.kind < 9223372036854775808) ∧ (-9223372036854775808 ≤ m.n ∧ m.n < 9223372036854775808) ∧ m.L.length ≤ maxLen ∧ (∀ x ∈ m.L, x.p.k.length ≤ maxLen ∧ x.p.v.length ≤ maxLen) ∧ m.keep.length ≤ maxLen
def ecells (l : List MDe) : List Value := l.flatMap MDe.cells
def MDe.fine (m : MDe) (w : World) (B : Nat) : Prop := UL w B 0 0 m.LA m.L ∧ Lies w B 0 m.KA (m.keep.map Value.bool) ∧ m.keep.length ≤ m.Kc
def DE (w : World) (B : Nat) (A : Option Addr) (l : List MDe) : Prop := Lies w B 0 A (ecells l) ∧ ∀ m ∈ l, m.fine w B
theorem ecells_len (l : List MDe) : (ecells l).length = l.length * 4 := by
  induction l with
  | nil => rfl
  | cons m l ih => simp only [ecells, List.flatMap_cons, List.length_append, List.length_cons] at ih ⊢; rw [ih]; simp [MDe.cells]; omega
theorem ecells_at {l : List MDe} {k : Nat} {m : MDe} (h : l[k]? = some m) {j : Nat} (hj : j < 4) : (ecells l)[k * 4 + j]? = m.cells[j]? := by
  induction l generalizing k with
  | nil => simp at h
  | cons q l ih =>
    have hq : q.cells.length = 4 := rfl
    cases k with
    | zero =>
      simp only [List.getElem?_cons_zero, Option.some.injEq] at h
      subst h
      simp only [ecells, List.flatMap_cons, Nat.zero_mul, Nat.zero_add]
      rw [List.getElem?_append_left (by omega)]
    | succ k =>
      simp only [List.getElem?_cons_succ] at h
      have := ih h
      simp only [ecells, List.flatMap_cons] at this ⊢
      rw [List.getElem?_append_right (by omega), hq, show (k + 1) * 4 + j - 4 = k * 4 + j by omega]
      exact this
section
variable {w w' : World} {B : Nat} {A : Option Addr} {l : List MDe}
theorem DE.nil : DE w B A [] := ⟨Lies.nil, by simp⟩
theorem MDe.fine.below {m : MDe} (h : m.fine w B) (hB : B ≤ w.heap.size) (hT : Below w.heap.size w w') : m.fine w' B := ⟨h.1.below hB hT, h.2.1.below hB hT, h.2.2⟩
theorem DE.below (h : DE w B A l) (hB : B ≤ w.heap.size) (hT : Below w.heap.size w w') : DE w' B A l := ⟨h.1.below hB hT, fun m hm => (h.2 m hm).below hB hT⟩
theorem DE.at_ (h : DE w B A l) {k : Nat} (hk : k < l.length) : ∃ ad m, A = some ad ∧ l[k]? = some m ∧ m.fine w B ∧
    w.cell? (ad.add (k * 4)) = some (.int .i64 m.kind) ∧ w.cell? ⟨(ad.add (k * 4)).block, (ad.add (k * 4)).off + 1, none⟩ = some (.slice m.LA m.L.length m.Lc) ∧
    w.cell? ⟨(ad.add (k * 4)).block, (ad.add (k * 4)).off + 2, none⟩ = some (.int .i64 m.n) ∧
    w.cell? ⟨(ad.add (k * 4)).block, (ad.add (k * 4)).off + 3, none⟩ = some (.slice m.KA m.keep.length m.Kc) := by
  have hx : l[k]? = some l[k] := List.getElem?_eq_getElem hk
  obtain ⟨ad, e, _, hc⟩ := h.1 (fun q => by
    have := ecells_len l
    rw [q] at this
    simp at this
    omega)
  have c : ∀ j u, j < 4 → (l[k]).cells[j]? = some u → w.cell? ((ad.add (k * 4)).add j) = some u := fun j u hj hu => by
    rw [addr_add]
    exact hc _ _ ((ecells_at hx hj).trans hu)
  refine ⟨ad, l[k], e, hx, h.2 _ (List.getElem_mem hk), ?_, ?_, ?_, ?_⟩
  · exact c 0 _ (by omega) rfl
  · exact c 1 _ (by omega) rfl
  · exact c 2 _ (by omega) rfl
  · exact c 3 _ (by omega) rfl
end
end

section
open Go.RowKit Go.Shelf

theorem results_bool {fn : Func} {p : Tmp} (h : fn.results = #[.cell p 4]) (tmps : Array Value) (w : World) (g : Nat) (b : Bool) (hp : tmps.getD p undef = .pointer (some ⟨g, 0, none⟩)) (hc : w.cell? ⟨g, 0, none⟩ = some (.bool b)) :
    (results fn tmps).run Tryz.prog w = .ok (.bool b) w := by
  have hp' : tmps[p]?.getD undef = .pointer (some ⟨g, 0, none⟩) := by simpa using hp
  have hz := Tryz.sizeOf4
  have ha := Tryz.isAgg4
  simp [results, h, hp', asAddr, loadVar, hc, go_sem]

theorem leaves_cell {F : Fence} {n : Nat} {P : Program} {fn : Func} {tmps : Array Value} {R : Ending → World → Prop} {v : Value} :
    ∀ {Ds : List Nat} {w : World}, Ds.Nodup → (∀ D ∈ Ds, w.heap[D]? = some (.deferred (some []))) → (results fn tmps).run P (shut w Ds) = .ok v (shut w Ds) → R (.returned v) (shut w Ds) → LeavesInM F n P fn tmps R (Ds.map mark) .returning w := by
  intro Ds
  induction Ds with
  | nil => intro w _ _ hv hR; exact ⟨_, hv, hR⟩
  | cons D Ds ih =>
    intro w hn hD hv hR
    refine ⟨by simp, .inl ⟨D, _, rfl, run_takeDeferred (hD D List.mem_cons_self), ?_⟩⟩
    have hn2 := List.nodup_cons.1 hn
    exact ih hn2.2 (fun D' h' => (World.putObj_heap_other (fun e => hn2.1 (by rw [← e]; exact h'))).trans (hD D' (List.mem_cons_of_mem _ h'))) hv hR

theorem commit_empty {w : World} {A : Option Addr} {c : Nat} {p : Option Addr} : Calls Tryz.prog 16 #[.pointer p, .slice A 0 c] w fun e w' => e = .returned (.int .i64 0) ∧ w = w' := by
  go_enter Tryz.func16, Tryz.ntmps16
  go_wp2
  go_ret
  exact ⟨rfl, rfl⟩
theorem SStep.refl {w : World} {B : Nat} {E G V : Nat → Prop} {sp pw q mb : Nat} {s : VS} {d : Dk.D} {L : List St.KV} {over : Bool} (h : SS w B E G V sp pw q mb s d L over) : SStep w w B E G V E G V sp pw q mb s d L over :=
  ⟨h, fun _ _ q => q, fun _ _ q => q, fun _ _ q => q, But.refl _ _ _, Below.refl _ _⟩
/-- What a commit of few puts leaves, on a disk that isn't armed. -/
def C8Ok (w : World) (B : Nat) (E G V : Nat → Prop) (sp pw q : Nat) (j n : Nat) (L : List St.KV) (e : Ending) (w' : World) : Prop :=
  e = .returned (.int .i64 0) ∧ ∃ E2 G2 V2 mb2 s2 d2 j2, SStep w w' B E G V E2 G2 V2 sp pw q mb2 s2 d2 L false ∧ Live8 j2 s2 d2 L ∧ j2 ≤ j + 1 ∧ d2.s.length = n
theorem commit8_c {w : World} {B B' : Nat} {E G V : Nat → Prop} {sp pw q mb : Nat} {s : VS} {d : Dk.D} {L : List St.KV} {A : Option Addr} {nl c : Nat} {ms : List MPu} {tp tb : TypeId} {j : Nat} (h : SS w B E G V sp pw q mb s d L false) (hB : B ≤ w.heap.size) (hv : Live8 j s d L) (hj : j ≤ 12) (hn : d.s.length = 1000)
    (hu : UL w B' tp tb A ms) (hl : nl = ms.length) (hf : Few8 (pus ms)) :
    Calls Tryz.prog 16 #[.pointer (some ⟨sp, 0, none⟩), .slice A nl c] w (C8Ok w B E G V sp pw q j 1000 (St.hap L (pus ms))) := by
  have rg : Wl.ring d = 998 := by unfold Wl.ring; rw [hn]
  rcases Nat.eq_zero_or_pos ms.length with h0 | h0
  · have e0 : ms = [] := List.length_eq_zero_iff.1 h0
    subst e0
    obtain rfl : nl = 0 := hl
    refine commit_empty.mono ?_
    rintro e w' ⟨rfl, rfl⟩
    exact ⟨rfl, E, G, V, mb, s, d, j, SStep.refl h, hv, by omega, hn⟩
  · obtain ⟨s', d', h1, h2, h3⟩ := hv.next hf hj (by rw [rg]; omega)
    obtain ⟨f1, f2, f3, f4, f5⟩ := hv.fit hf hj (by rw [rg]; omega)
    have nm := hv.num
    have z := commit_c (c := c) h hB hv.over hv.idle.ok (i64_of hv.left) (by rw [hv.idle.cache]; decide) (U64.of (by have := hv.gen; omega)) (U64.of (by rw [hv.head, needs1]; have := hv.sum; have := hf.need false; omega)) hv.good.len hu hl h0 (by have := hf.1; rw [pus_len] at this; omega)
      (fun m hm => by have := hf.2 m.p (List.mem_map.2 ⟨m, hm, rfl⟩); omega) rfl f4 f5 (by omega) rfl rfl f2 f3 f1
    rw [h1] at z
    refine z.mono ?_
    rintro e w' ⟨rfl, E2, G2, V2, mb2, st⟩
    exact ⟨rfl, E2, G2, V2, mb2, s', d', j + 1, st, h2, Nat.le_refl _, h3.trans hn⟩
theorem str_beq (l : List UInt8) : (str l == str l) = true := (Go.MapKept.bytes_beq _ _).2 rfl

theorem step_box {w w' : World} {B : Nat} {E G V E2 G2 V2 : Nat → Prop} {sp pw q mb bx : Nat} {s : VS} {d : Dk.D} {L : List St.KV} {over : Bool} (h : SStep w w' B E G V E2 G2 V2 sp pw q mb s d L over) (hk : bx < w.heap.size) (hn : ¬ E bx ∧ ¬ G bx ∧ bx ≠ sp) :
    w'.heap[bx]? = w.heap[bx]? ∧ (¬ E2 bx ∧ ¬ G2 bx ∧ bx ≠ sp) :=
  ⟨h.but.block bx hk (fun z => z.elim hn.1 (fun z => z.elim hn.2.1 hn.2.2)), fun e => hn.1 (h.ne _ hk e), fun e => hn.2.1 (h.ng _ hk e), hn.2.2⟩

/-- The end with true, behind one loop over a function. -/
theorem true_end {fn : Func} {tm : Array Value} {t : Tmp} (hfn : fn.results = #[.cell t 4]) {w W : World} {g D : Nat} (hg : W.heap[g]? = some (.cells #[.bool false] 4 (0, 0))) (hD : W.heap[D]? = some (.deferred (some []))) (hgw : w.heap.size ≤ g) (hDw : w.heap.size ≤ D) (ht : tm.getD t undef = .pointer (some ⟨g, 0, none⟩)) (hb : Below w.heap.size w W) :
    LeavesInM Fence.wide 9 Tryz.prog fn tm (fun e w' => e = .returned (.bool true) ∧ Below w.heap.size w w') [mark D] .returning (W.setCell ⟨g, 0, none⟩ (.bool true)) := by
  have ne : g ≠ D := fun e => by subst e; rw [hg] at hD; cases hD
  have k : (W.setCell ⟨g, 0, none⟩ (.bool true)).heap[g]? = some (.cells #[.bool true] 4 (0, 0)) := (blk_set hg 0 _).trans rfl
  have kD : (W.setCell ⟨g, 0, none⟩ (.bool true)).heap[D]? = some (.deferred (some [])) := (Below.heap_setCell _ _ _ _ (Ne.symm ne)).trans hD
  have kS : (shut (W.setCell ⟨g, 0, none⟩ (.bool true)) [D]).heap[g]? = some (.cells #[.bool true] 4 (0, 0)) := (World.putObj_heap_other ne).trans k
  refine leaves_cell (Ds := [D]) (v := .bool true) (by simp) (fun D' h' => ?_) (results_bool hfn _ _ g true ht (one_cell kS)) ⟨rfl, (hb.setCell (p := ⟨g, 0, none⟩) hgw _).trans (shut_below kD hDw)⟩
  rw [List.mem_singleton] at h'
  subst h'
  exact kD
end
end Go.Proofs.YtpnfpeeijghamaaGreat
